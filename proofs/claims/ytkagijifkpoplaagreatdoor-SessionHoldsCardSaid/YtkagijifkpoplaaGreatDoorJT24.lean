/-
  Texts in one file. Conditions: the tables and the errors read as laid.
-/
import Derived.Test.YtkagijifkpoplaaGreatDoorJT8
import Derived.Test.YtkagijifkpoplaaGreatDoorJT20
import Derived.Test.YtkagijifkpoplaaGreatDoorJT1
import Derived.Test.YtkagijifkpoplaaGreatDoorJT0
set_option linter.unusedVariables false
set_option linter.unusedSimpArgs false
set_option maxRecDepth 40000
set_option maxHeartbeats 20000000
namespace Go.Proofs.YtkagijifkpoplaaGreatDoor
open Go.RowKit
open Sh (Wd B8 H8)
open Fdd
set_option maxRecDepth 20000
def fldC (f : Fld) : List Value := [.int .i64 f.1, strV f.2]
theorem fldC_one (f : Fld) : ∀ v ∈ fldC f, v.oneCell' = true := fun v hv => by
 simp only [fldC, List.mem_cons, List.not_mem_nil, or_false] at hv
 rcases hv with rfl | rfl <;> rfl
theorem fldA_one9 (f : Fld) : ∀ v ∈ (fldA f).toList, v.oneCell' = true := fldC_one f
theorem elmF : Elm Tryz.prog 27 38 2 24 (.agg #[.int .i64 0, strV []]) := ⟨Tryz.underlying27, by kernel_rfl, rfl, by decide, by decide⟩
theorem size_fd : (Tryz.prog.info? 38).map (·.size) = some 2 := by kernel_rfl
theorem zero_fd (w : World) : (zeroValue 38).run Tryz.prog w = .ok (.agg (fldA (0, []))) w := by kernel_rfl
theorem zero_fdV (w : World) : (zeroValue 38).run Tryz.prog w = .ok (.agg #[.int .i64 0, strV []]) w := by kernel_rfl
theorem fl_some {fs : List Fld} {n i : Nat} (hl : fs.length = n) (h : i < n) : ∃ f, fs[i]? = some f := ⟨_, List.getElem?_eq_getElem (by omega)⟩
theorem fl_rng {w : World} {A : Option Addr} {n i : Nat} {fs : List Fld} {f : Fld} (h : Fl w A n fs) (hf : fs[i]? = some f) : ∃ b off, A = some ⟨b, off, none⟩ ∧ w.rangeAt b (off + i * 2) (fldC f) := by
 have hi := (List.getElem?_eq_some_iff.1 hf).1
 obtain ⟨b, off, e, hc⟩ := h.2.2 (by have := h.1; omega)
 exact ⟨b, off, e, hc i f hf⟩
theorem ftake_snoc {fs : List Fld} {i : Nat} {f : Fld} (h : fs[i]? = some f) : fs.take (i + 1) = fs.take i ++ [f] := by
 rw [List.take_add_one, h]; rfl
theorem fit_f (fs : List Fld) : Fit 2 (fs.map fldC) := fun r hr => by
 obtain ⟨x, -, rfl⟩ := List.mem_map.1 hr
 exact ⟨rfl, fldC_one x⟩
theorem flat_f (fs : List Fld) : (fs.map fldC).flatten = fcs fs := by
 induction fs with
 | nil => rfl
 | cons x l ih => rw [List.map_cons, List.flatten_cons, ih]; rfl
theorem frow_orw {w : World} {B : Nat} {v : Value} {fs : List Fld} (h : FRow w B v fs) : Orw w B 38 2 v (fs.map fldC) := ⟨fit_f fs, by rw [List.length_map, flat_f]; exact h⟩
theorem orw_frow {w : World} {B : Nat} {v : Value} {fs : List Fld} (h : Orw w B 38 2 v (fs.map fldC)) : FRow w B v fs := by
 have := h.2
 rw [List.length_map, flat_f] at this
 exact this
theorem box_fd (e : Fld) (w : World) : (Instr.box 38 (.agg (fldA e))).run Tryz.prog w = .ok (.pointer (some ⟨w.heap.size, 0, none⟩)) (w.alloc (.cells (fldA e) 38)) := by
 simp [Instr.box, newVar, newRow, Result.andThen, Value.cells]
theorem fld_at (e : Fld) (j : Nat) : (fldA e)[j]? = (fldC e)[j]? := by simp [fldA, fldC]
abbrev isMacV : Value := .func (.func 45) #[] #[]
theorem isMac_walk {e : Fld} (w : World) : Calls Tryz.prog 45 #[.agg (fldA e)] w fun r w' => r = .returned (.bool (decide (e.1 = 64))) ∧ Turn nowhere w w' := by
 go_enter Tryz.func45, Tryz.ntmps45
 go_upto_region 0 with fail
 refine wp_region_lit ?_
 refine wR (v := .pointer (some ⟨(w).heap.size, 0, none⟩)) (w' := (w).alloc (.cells (fldA e) 38)) wn (gx_box rfl rfl (box_fd e _)) ?_
 simp only [zz];refine nA (.bool false) ?_;simp only [zz]
 have hb_q := Blk.new (w) 38 (fldA e)
 have ht_ := (Turn.refl nowhere (w)).alloc (.cells (fldA e) 38)
 obtain ⟨n0_, hn0_⟩ : ∃ n, n = (w).heap.size := ⟨_, rfl⟩
 have hz_q : (w).heap.size = n0_ + 0 := by rw [hn0_]; simp
 obtain ⟨q, hg_⟩ : ∃ g, g = (w).heap.size := ⟨_, rfl⟩
 rw [← hg_] at hb_q hz_q ⊢
 clear hg_
 generalize (w).alloc (.cells (fldA e) 38) = w1 at *
 have HT1 := zH ht_
 clear ht_
 have HBq := zH hb_q
 have HLq := zH (show (w).heap.size ≤ q from by omega)
 clear hb_q
 clear hn0_ hz_q
 clear n0_
 go_upto_region 1 with fail
 refine wp_region_lit ?_
 refine nR (.pointer (some ⟨q, 0, none⟩)) (xF 0 0) ?_;simp only [zz];refine nR (.int .i64 e.1) (xL (HBq.out.cell 0)) ?_;simp only [zz];refine nR (.bool (decide (e.1 = 64))) (ix_eql rfl rfl rfl rfl) ?_;simp only [zz];refine nA (.bool (decide (e.1 = 64))) ?_;simp only [zz]
 go_wp2_with fail
 go_ret
 exact ⟨rfl, HT1.out⟩
def fIdxP (es : List Fld) (r : Int) : Prop := (r = -1 ∧ ∀ e ∈ es, e.1 ≠ 64) ∨ ∃ i e, r = ((i : Nat) : Int) ∧ es[i]? = some e ∧ e.1 = 64 ∧ ∀ x ∈ es.take i, x.1 ≠ 64
theorem fIndex_walk {w : World} {A : Option Addr} {n c : Nat} {es : List Fld} (h : Fl w A n es) (hn : n ≤ 5864062014800) : Calls Tryz.prog 37 #[.slice A n c, isMacV] w fun e w' => ∃ r, e = .returned (.int .i64 r) ∧ fIdxP es r ∧ Turn nowhere w w' := by
 have HE := zH h
 have HLEN := zH h.1
 have ym : (n : Int) ≤ 5864062014800 := by omega
 clear h hn
 go_enter Tryz.func37, Tryz.ntmps37
 go_upto_region 0 with fail
 refine wp_region_lit ?_
 refine nA (.int .i64 0) ?_;simp only [zz]
 go_upto_region 1 with fail
 refine wp_region_lit ?_
 refine nM (.slice A n c) ?_;simp only [zz];refine nR (.int .i64 (n : Int)) (gx_len rfl rfl Tryz.underlying27) ?_;simp only [zz];refine nM (.int .i64 0) ?_;simp only [zz]
 go_wp2_with fail
 go_loopg [8] n (fun gk iv wr => ∃ i : Nat, iv = .int .i64 (i : Int) ∧ i + gk = n ∧ (∀ x ∈ es.take i, x.1 ≠ 64) ∧ Turn nowhere w wr)
 case atStart => exact ⟨0, rfl, by omega, (fun x hx => by rw [List.take_zero] at hx; cases hx), Turn.refl _ _⟩
 obtain ⟨i, rfl, hgk, hno, htr⟩ := hrel
 have HGK := zH hgk
 have HNO := zH hno
 have HTR := zH htr
 have yi : (i : Int) ≤ (n : Int) := by omega
 clear hgk hno htr
 by_cases hlt : i < n
 ·have HLT := zH hlt
  have y3 : (i : Int) < (n : Int) := by omega
  obtain ⟨e, hei⟩ := fl_some HLEN.out hlt
  have HEI := zH hei
  obtain ⟨b1, o1, e1, h1⟩ := fl_rng (HE.out.still HTR.out) hei
  have HRR := zH h1
  subst e1
  clear h1 hei hlt
  go_upto_region 2 with fail
  refine wp_region_lit ?_
  refine nR (.bool true) (ix_lss rfl rfl rfl (decide_eq_true y3)) ?_;simp only [zz]
  go_upto_region 3 with fail
  refine wp_region_lit ?_
  refine nM (.int .i64 (i : Int)) ?_;simp only [zz];refine nA (.int .i64 (i : Int)) ?_;simp only [zz]
  go_upto_region 4 with fail
  refine wp_region_lit ?_
  refine nM isMacV ?_;simp only [zz];refine nM (.slice (some ⟨b1, o1, none⟩) n c) ?_;simp only [zz];refine nM (.int .i64 (i : Int)) ?_;simp only [zz];refine nR (.pointer (some ⟨b1, o1 + i * 2, none⟩)) (gx_iaddr (i := i) (sz := 2) rfl rfl rfl Tryz.underlying27 size_fd HLT.out rfl) ?_;simp only [zz];refine nR (.agg (fldA e)) (gx_loads_g rfl rfl HRR.out Tryz.underlying38 rfl (by rw [size_fd]; rfl)) ?_;simp only [zz]
  refine wpList_op_g rfl fun K9 HK9 => ?_
  go_wp2_with fail
  refine (isMac_walk wr).mono ?_
  rintro e w2 ⟨rfl, ht⟩
  refine HK9.out _ _ ?_
  clear HK9
  try simp only [zz]
  have HT2 := zH (HTR.out.trans ht fun _ _ e => e)
  clear ht
  by_cases hz : e.1 = 64
  ·have HZ := zH hz
   rw [decide_eq_true hz]
   clear hz
   go_upto_region 5 with fail
   refine wp_region_lit ?_
   refine nM (.int .i64 (i : Int)) ?_;simp only [zz];refine nA (.int .i64 (i : Int)) ?_;simp only [zz]
   go_wp2_with fail
   go_ret
   exact ⟨_, rfl, .inr ⟨i, e, rfl, HEI.out, HZ.out, HNO.out⟩, HT2.out⟩
  ·have HZ := zH hz
   rw [decide_eq_false hz]
   clear hz
   go_upto_region 6 with fail
   refine wp_region_lit ?_
   refine nR (.int .i64 ((i + 1 : Nat) : Int)) (ix_add rfl rfl rfl (by omega) (by omega)) ?_;simp only [zz];refine nM (.int .i64 ((i + 1 : Nat) : Int)) ?_;simp only [zz]
   go_wp2_with fail
   go_roundg (n - (i + 1))
   case measure => have := HGK.out; have := HLT.out; omega
   case rel => exact ⟨i + 1, rfl, by have := HLT.out; omega, fun x hx => by
    rw [ftake_snoc HEI.out] at hx
    rcases List.mem_append.1 hx with hx | hx
    ·exact HNO.out x hx
    ·obtain rfl : x = e := by simpa using hx
     exact HZ.out, HT2.out⟩
 ·obtain rfl : i = n := by omega
  clear hlt
  go_upto_region 2 with fail
  refine wp_region_lit ?_
  refine nR (.bool false) (ix_lss rfl rfl rfl (by simp)) ?_;simp only [zz]
  go_upto_region 7 with fail
  refine wp_region_lit ?_
  refine nA (.int .i64 (-1)) ?_;simp only [zz]
  go_wp2_with fail
  go_ret
  exact ⟨_, rfl, .inl ⟨rfl, by have := HNO.out; rwa [List.take_of_length_le (by rw [HLEN.out]; omega)] at this⟩, HTR.out⟩
def bareM (es : List Fld) : List Fld := es.filter fun e => e.1 != 64
theorem bare_all {es : List Fld} (h : ∀ e ∈ es, e.1 ≠ 64) : bareM es = es := List.filter_eq_self.2 fun e he => by simpa using h e he
theorem bare_snoc {es : List Fld} {j : Nat} {e : Fld} (h : es[j]? = some e) : bareM (es.take (j + 1)) = if e.1 = 64 then bareM (es.take j) else bareM (es.take j) ++ [e] := by
 rw [ftake_snoc h]
 unfold bareM
 rw [List.filter_append]
 by_cases hz : e.1 = 64
 ·rw [if_pos hz]; simp [hz]
 ·rw [if_neg hz]; simp [hz]
structure FDelR (es R : List Fld) (i j : Nat) : Prop where
 len : R.length = es.length
 lt : i < j
 le : j ≤ es.length
 kept : R.take i = bareM (es.take j)
 more : R.drop j = es.drop j
theorem FDelR.start {es : List Fld} {i : Nat} {e : Fld} (h : es[i]? = some e) (hz : e.1 = 64) (hno : ∀ x ∈ es.take i, x.1 ≠ 64) : FDelR es es i (i + 1) :=
 ⟨rfl, by omega, (List.getElem?_eq_some_iff.1 h).1, by rw [bare_snoc h, if_pos hz, bare_all hno], rfl⟩
theorem FDelR.at_ {es R : List Fld} {i j : Nat} {e : Fld} (h : FDelR es R i j) (he : es[j]? = some e) : R[j]? = some e := by
 have := congrArg (fun l => l[0]?) h.more
 simpa [he] using this
theorem FDelR.skip {es R : List Fld} {i j : Nat} {e : Fld} (h : FDelR es R i j) (he : es[j]? = some e) (hz : e.1 = 64) : FDelR es R i (j + 1) :=
 ⟨h.len, by have := h.lt; omega, (List.getElem?_eq_some_iff.1 he).1, by rw [bare_snoc he, if_pos hz]; exact h.kept, by
  have := congrArg (List.drop 1) h.more
  simpa [List.drop_drop] using this⟩
theorem FDelR.take {es R : List Fld} {i j : Nat} {e : Fld} (h : FDelR es R i j) (he : es[j]? = some e) (hz : ¬ e.1 = 64) : FDelR es (R.set i e) (i + 1) (j + 1) := by
 have hj := (List.getElem?_eq_some_iff.1 he).1
 have h1 := h.lt
 refine ⟨by rw [List.length_set]; exact h.len, by omega, hj, ?_, ?_⟩
 ·rw [bare_snoc he, if_neg hz, ← h.kept, List.take_add_one, List.take_set_of_le (by omega), List.getElem?_set_self (by rw [h.len]; omega)]
  rfl
 ·rw [List.drop_set_of_lt (by omega)]
  have := congrArg (List.drop 1) h.more
  simpa [List.drop_drop] using this
theorem FDelR.end_ {es R : List Fld} {i : Nat} (h : FDelR es R i es.length) : R.take i = bareM es := by
 have := h.kept
 rwa [List.take_length] at this
theorem FDelR.ilen {es R : List Fld} {i : Nat} (h : FDelR es R i es.length) : i = (bareM es).length := by
 rw [← h.end_, List.length_take, h.len]
 have := h.lt
 omega
theorem fmap_set {l : List Fld} {i : Nat} {e : Fld} : (l.map fldC).set i (fldC e) = (l.set i e).map fldC := by rw [List.map_set]
theorem fDelete_walk {w : World} {g n c B : Nat} {es : List Fld} (h : Orw w B 38 2 (.slice (some ⟨g, 0, none⟩) n c) (es.map fldC)) (hl : es.length = n) (hn : n ≤ 5864062014800) :
 Calls Tryz.prog 46 #[.slice (some ⟨g, 0, none⟩) n c, isMacV] w fun e w' => e = .returned (.slice (some ⟨g, 0, none⟩) (bareM es).length c) ∧ Orw w' B 38 2 (.slice (some ⟨g, 0, none⟩) (bareM es).length c) ((bareM es).map fldC) ∧ Turn (only g) w w' := by
 have HO := zH h
 have HLEN := zH hl
 have HN := zH hn
 have HE := zH (show Fl w (some ⟨g, 0, none⟩) n es from ((orw_frow h).fl (by omega)).1)
 have ym : (n : Int) ≤ 5864062014800 := by omega
 obtain ⟨A9, c9, e9, hnc, hcm, _⟩ := h.form
 injection e9 with e1 e2 e3
 subst e3
 have HNC := zH (show n ≤ c from by rw [List.length_map] at hnc; omega)
 have HB := zH (show ∃ cur, Blk w g 38 cur from h.own_blk rfl)
 clear h hl hn e1 e2 hnc hcm
 go_enter Tryz.func46, Tryz.ntmps46
 go_upto_region 0 with fail
 refine wp_region_lit ?_
 refine nA (.slice none 0 0) ?_;simp only [zz]
 go_upto_region 1 with fail
 refine wp_region_lit ?_
 refine nM (.slice (some ⟨g, 0, none⟩) n c) ?_;simp only [zz];refine nM isMacV ?_;simp only [zz]
 refine wpList_op_g rfl fun K9 HK9 => ?_
 go_wp2_with fail
 refine (fIndex_walk (c := c) HE.out HN.out).mono ?_
 rintro e w2 ⟨r, rfl, hr, ht⟩
 refine HK9.out _ _ ?_
 clear HK9
 try simp only [zz]
 have HT2 := zH ht
 have HO2 := zH (HO.out.still ht)
 clear ht
 rcases hr with ⟨rfl, hall⟩ | ⟨i0, e0, rfl, he0, hz0, hno0⟩
 ·have HK := zH (bare_all hall)
  clear hall
  refine nA (.int .i64 (-1)) ?_;simp only [zz]
  go_upto_region 2 with fail
  refine wp_region_lit ?_
  refine nM (.int .i64 (-1)) ?_;simp only [zz];refine nR (.bool true) (ix_eql rfl rfl rfl (by decide)) ?_;simp only [zz]
  go_upto_region 3 with fail
  refine wp_region_lit ?_
  refine nM (.slice (some ⟨g, 0, none⟩) n c) ?_;simp only [zz];refine nA (.slice (some ⟨g, 0, none⟩) n c) ?_;simp only [zz]
  go_wp2_with fail
  go_ret
  rw [HK.out, HLEN.out]
  exact ⟨rfl, HO2.out, HT2.out.mono fun _ _ e => e.elim⟩
 ·have HD0 := zH (FDelR.start he0 hz0 hno0)
  have hi0 := (List.getElem?_eq_some_iff.1 he0).1
  have y0 : (i0 : Int) + 1 ≤ (n : Int) := by have := HLEN.out; omega
  have HI0 := zH (show i0 + 1 ≤ n from by omega)
  clear he0 hz0 hno0 hi0
  refine nA (.int .i64 (i0 : Int)) ?_;simp only [zz]
  go_upto_region 2 with fail
  refine wp_region_lit ?_
  refine nM (.int .i64 (i0 : Int)) ?_;simp only [zz];refine nR (.bool false) (ix_eql rfl rfl rfl (decide_eq_false (by omega))) ?_;simp only [zz]
  go_upto_region 4 with fail
  refine wp_region_lit ?_
  refine nM (.int .i64 (i0 : Int)) ?_;simp only [zz];refine nR (.int .i64 ((i0 + 1 : Nat) : Int)) (ix_add rfl rfl rfl (by omega) (by omega)) ?_;simp only [zz];refine nA (.int .i64 ((i0 + 1 : Nat) : Int)) ?_;simp only [zz]
  go_wp2_with fail
  go_loopg [5, 6] n (fun gk iv jv wr => ∃ (i j : Nat) (R : List Fld), iv = .int .i64 (i : Int) ∧ jv = .int .i64 (j : Int) ∧ j + gk = n + i0 + 1 ∧ FDelR es R i j ∧ Orw wr B 38 2 (.slice (some ⟨g, 0, none⟩) n c) (R.map fldC) ∧ Turn (only g) w wr)
  case atStart => exact ⟨i0, i0 + 1, es, rfl, rfl, by omega, HD0.out, HO2.out, HT2.out.mono fun _ _ e => e.elim⟩
  obtain ⟨i, j, R, rfl, rfl, hgk, hdr, hor, htr⟩ := hrel
  have HGK := zH hgk
  have HDR := zH hdr
  have HOR := zH hor
  have HTR := zH htr
  have hjn : j ≤ n := by have := hdr.le; have := HLEN.out; omega
  have hij := hdr.lt
  have yi : (i : Int) < (j : Int) := by omega
  have yj : (j : Int) ≤ (n : Int) := by omega
  clear hgk hdr hor htr
  by_cases hlt : j < n
  ·have HLT := zH hlt
   have y3 : (j : Int) < (n : Int) := by omega
   have HIN := zH (show i < n from by omega)
   obtain ⟨e, hei⟩ := fl_some HLEN.out hlt
   have HEJ := zH hei
   have HRR := zH (HOR.out.el (i := j) (r := fldC e) (by rw [List.getElem?_map, HDR.out.at_ hei]; rfl))
   clear hei hlt hjn hij
   go_upto_region 5 with fail
   refine wp_region_lit ?_
   refine nM (.int .i64 (j : Int)) ?_;simp only [zz];refine nM (.slice (some ⟨g, 0, none⟩) n c) ?_;simp only [zz];refine nR (.int .i64 (n : Int)) (gx_len rfl rfl Tryz.underlying27) ?_;simp only [zz];refine nR (.bool true) (ix_lss rfl rfl rfl (decide_eq_true y3)) ?_;simp only [zz]
   go_upto_region 7 with fail
   refine wp_region_lit ?_
   refine nM (.slice (some ⟨g, 0, none⟩) n c) ?_;simp only [zz];refine nM (.int .i64 (j : Int)) ?_;simp only [zz];refine nR (.pointer (some ⟨g, j * 2, none⟩)) (gx_iaddr (i := j) (sz := 2) rfl rfl rfl Tryz.underlying27 size_fd HLT.out (by omega)) ?_;simp only [zz];refine nR (.agg (fldA e)) (gx_loads_g rfl rfl HRR.out Tryz.underlying38 rfl (by rw [size_fd]; rfl)) ?_;simp only [zz]
   refine wR (v := .pointer (some ⟨wr.heap.size, 0, none⟩)) (w' := wr.alloc (.cells (fldA (0, [])) 38)) wn (gx_alloc rfl (zero_fd _)) ?_
   simp only [zz]
   have hb_ := Blk.new wr 38 (fldA (0, []))
   have ht_ := (Turn.refl nowhere wr).alloc (.cells (fldA (0, [])) 38)
   obtain ⟨x, hg_⟩ : ∃ g, g = wr.heap.size := ⟨_, rfl⟩
   rw [← hg_] at hb_ ⊢
   have HLx := zH (show wr.heap.size ≤ x from by omega)
   clear hg_
   generalize wr.alloc (.cells (fldA (0, [])) 38) = w5 at *
   have HBx := zH hb_
   have HT5 := zH ht_
   clear hb_ ht_
   refine wpList_store_row wn 38 (.tmp 7) (.tmp 25) rfl (fldA e) HBx.out rfl rfl (rfl) (by rw [size_fd] <;> rfl) (fldA_one9 _) ?_
   intro w6 hb_ ht_
   have HBx6 := zH hb_
   have HT6 := zH ht_
   clear hb_ ht_
   simp only [zz]
   have HT56 := zH (HT5.out.trans HT6.out fun k hk e => by have := HLx.out; have e : k = x := e; omega)
   clear HBx HT5 HT6 HRR
   go_upto_region 8 with fail
   refine wp_region_lit ?_
   refine nM isMacV ?_;simp only [zz];refine nR (.agg (fldA e)) (gx_loads_g rfl rfl (blk_range_g HBx6.out) Tryz.underlying38 rfl (by rw [size_fd]; rfl)) ?_;simp only [zz]
   refine wpList_op_g rfl fun K9 HK9 => ?_
   go_wp2_with fail
   refine (isMac_walk w6).mono ?_
   rintro e w7 ⟨rfl, ht⟩
   refine HK9.out _ _ ?_
   clear HK9
   try simp only [zz]
   have HT7 := zH (HT56.out.trans ht fun _ _ e => e)
   have HBx7 := zH (HBx6.out.turn ht fun e => e)
   clear ht HT56 HBx6
   have HO7 := zH (HOR.out.still HT7.out)
   have HT7w := zH (HTR.out.trans HT7.out fun _ _ e => e.elim)
   by_cases hz : e.1 = 64
   ·have HZ := zH hz
    rw [decide_eq_true hz]
    clear hz
    refine nR (.bool false) (ix_not (b := true) rfl rfl) ?_;simp only [zz]
    go_upto_region 6 with fail
    refine wp_region_lit ?_
    refine nM (.int .i64 (j : Int)) ?_;simp only [zz];refine nR (.int .i64 ((j + 1 : Nat) : Int)) (ix_add rfl rfl rfl (by omega) (by omega)) ?_;simp only [zz];refine nA (.int .i64 ((j + 1 : Nat) : Int)) ?_;simp only [zz]
    go_wp2_with fail
    go_roundg (n + i0 + 1 - (j + 1))
    case measure => have := HGK.out; have := HLT.out; omega
    case rel => exact ⟨i, j + 1, R, rfl, rfl, by have := HLT.out; omega, HDR.out.skip HEJ.out HZ.out, HO7.out, HT7w.out⟩
   ·have HZ := zH hz
    rw [decide_eq_false hz]
    clear hz
    obtain ⟨cur, hcur⟩ := HO7.out.own_blk rfl
    have HCUR := zH hcur
    have hcs := orw_block HO7.out
    obtain ⟨cur0, hc0, hc1, _⟩ := hcs
    obtain rfl := hc0.inj hcur
    have HCS := zH hc1
    clear hcur hc0 hc1
    refine nR (.bool true) (ix_not (b := false) rfl rfl) ?_;simp only [zz]
    go_upto_region 9 with fail
    refine wp_region_lit ?_
    refine nM (.slice (some ⟨g, 0, none⟩) n c) ?_;simp only [zz];refine nM (.int .i64 (i : Int)) ?_;simp only [zz];refine nR (.agg (fldA e)) (gx_loads_g rfl rfl (blk_range_g HBx7.out) Tryz.underlying38 rfl (by rw [size_fd]; rfl)) ?_;simp only [zz];refine nR (.pointer (some ⟨g, i * 2, none⟩)) (gx_iaddr (i := i) (sz := 2) rfl rfl rfl Tryz.underlying27 size_fd HIN.out (by omega)) ?_;simp only [zz]
    refine wpList_store_mid rfl 38 (.tmp 33) (.tmp 32) rfl (fldA e) HCUR.out rfl rfl (by rw [HCS.out]; have := HIN.out; have := HNC.out; show i * 2 + 2 ≤ c * 2; omega) (by rw [size_fd]; rfl) (fldA_one9 _) ?_
    intro w8 C8 hb8 hs8 hc8 ht8
    have ho8 := orw_set HO7.out HCUR.out hb8 hs8 HIN.out (r := fldC e) rfl (fldC_one e) (fun q => by rw [hc8, fld_at]; rfl) (by decide)
    rw [fmap_set] at ho8
    have HO8 := zH ho8
    have HT8w := zH (HT7w.out.trans ht8 fun _ _ e => e)
    clear hb8 hs8 hc8 ht8 ho8
    simp only [zz]
    go_upto_region 10 with fail
    refine wp_region_lit ?_
    refine nM (.int .i64 (i : Int)) ?_;simp only [zz];refine nR (.int .i64 ((i + 1 : Nat) : Int)) (ix_add rfl rfl rfl (by omega) (by omega)) ?_;simp only [zz];refine nA (.int .i64 ((i + 1 : Nat) : Int)) ?_;simp only [zz]
    go_upto_region 6 with fail
    refine wp_region_lit ?_
    refine nM (.int .i64 (j : Int)) ?_;simp only [zz];refine nR (.int .i64 ((j + 1 : Nat) : Int)) (ix_add rfl rfl rfl (by omega) (by omega)) ?_;simp only [zz];refine nA (.int .i64 ((j + 1 : Nat) : Int)) ?_;simp only [zz]
    go_wp2_with fail
    go_roundg (n + i0 + 1 - (j + 1))
    case measure => have := HGK.out; have := HLT.out; omega
    case rel => exact ⟨i + 1, j + 1, R.set i e, rfl, rfl, by have := HLT.out; omega, HDR.out.take HEJ.out HZ.out, HO8.out, HT8w.out⟩
  ·obtain rfl : j = n := by omega
   have hdz : FDelR es R i es.length := by rw [HLEN.out]; exact HDR.out
   have HIL := zH hdz.ilen
   have HRE := zH hdz.end_
   have HIN := zH (show i < j from by omega)
   obtain ⟨cur, hcur⟩ := HOR.out.own_blk rfl
   obtain ⟨cur0, hc0, hc1, _⟩ := orw_block HOR.out
   obtain rfl := hc0.inj hcur
   obtain ⟨w8, hrun, ht8, cur8, hb8, hs8, htk8⟩ := run_clearK elmF zero_fdV (by decide) (ty := 0) (o := 0 + i * 2) (n := j - i) (c := c - i) hcur (by rw [hc1]; have := HNC.out; omega)
   have hop := orw_pre HOR.out (e := i) (by have := HIN.out; omega)
   rw [← List.map_take, HRE.out] at hop
   have hoz := hop.cleared hcur hb8 hs8 (o := 0 + i * 2) (by omega) htk8
   have HRUN := zH hrun
   have HOZ := zH hoz
   have HTZ := zH (HTR.out.trans ht8 fun _ _ e => e)
   clear hlt hjn hij hdz hcur hc0 hc1 hrun ht8 hb8 hs8 htk8 hop hoz
   go_upto_region 5 with fail
   refine wp_region_lit ?_
   refine nM (.int .i64 (j : Int)) ?_;simp only [zz];refine nM (.slice (some ⟨g, 0, none⟩) j c) ?_;simp only [zz];refine nR (.int .i64 (j : Int)) (gx_len rfl rfl Tryz.underlying27) ?_;simp only [zz];refine nR (.bool false) (ix_lss rfl rfl rfl (by simp)) ?_;simp only [zz]
   go_upto_region 11 with fail
   refine wp_region_lit ?_
   refine nM (.slice (some ⟨g, 0, none⟩) j c) ?_;simp only [zz];refine nM (.int .i64 (i : Int)) ?_;simp only [zz];refine nR (.slice (some ⟨g, 0 + i * 2, none⟩) (j - i) (c - i)) (exec_slice rfl rfl rfl rfl rfl (by rw [← fromK_at (k := 2) (g := g) (o := 0) (c := c) (d := i) (by have := HIN.out; have := HNC.out; omega)]; exact sl_from elmF _ j c i (by have := HIN.out; omega) HNC.out _)) ?_;simp only [zz]
   refine wR (v := .tuple #[]) (w' := w8) wn (exec_clear rfl rfl HRUN.out) ?_
   simp only [zz]
   go_upto_region 12 with fail
   refine wp_region_lit ?_
   refine nM (.slice (some ⟨g, 0, none⟩) j c) ?_;simp only [zz];refine nM (.int .i64 (i : Int)) ?_;simp only [zz];refine nR (.slice (some ⟨g, 0, none⟩) i c) (exec_slice rfl rfl rfl rfl rfl (sl_to elmF _ j c i (by have := HIN.out; have := HNC.out; omega) _)) ?_;simp only [zz];refine nA (.slice (some ⟨g, 0, none⟩) i c) ?_;simp only [zz]
   go_wp2_with fail
   go_ret
   rw [← HIL.out]
   exact ⟨rfl, HOZ.out, HTZ.out⟩
set_option maxRecDepth 20000
theorem build_f09 (W : World) : (Instr.buildSlice 27 0 #[]).run Tryz.prog W = .ok (.slice (some ⟨W.heap.size, 0, none⟩) 0 0) (W.alloc (.cells #[] 38)) := by kernel_rfl
theorem size_mg : (Tryz.prog.info? 29).map (·.size) = some 2 := by kernel_rfl
theorem box_mg (ty : Int) (A : Option Addr) (n c : Nat) (w : World) : (Instr.box 29 (msgV ty A n c)).run Tryz.prog w = .ok (.pointer (some ⟨w.heap.size, 0, none⟩)) (w.alloc (.cells #[.int .i64 ty, .slice A n c] 29)) := by
 simp [Instr.box, newVar, newRow, Result.andThen, Value.cells, msgV]
theorem zero_mg (w : World) : (zeroValue 29).run Tryz.prog w = .ok (.agg #[.int .i64 0, .slice none 0 0]) w := by kernel_rfl
theorem mg_one (ty : Int) (A : Option Addr) (n c : Nat) : ∀ v ∈ (#[.int .i64 ty, .slice A n c] : Array Value).toList, v.oneCell' = true := fun v hv => by
 simp only [List.mem_cons, List.not_mem_nil, or_false] at hv
 rcases hv with rfl | rfl <;> rfl
theorem fclone_walk {w : World} {A : Option Addr} {n c : Nat} {fs : List Fld} (hf : Fl w A n fs) (hz : A = none → c = 0) (hn : n ≤ 5864062014800) : Calls Tryz.prog 47 #[.slice A n c] w fun e w' => ∃ A' c', e = .returned (.slice A' n c') ∧ FRow w' w.heap.size (.slice A' n c') fs ∧ Turn nowhere w w' := by
 have HF := zH hf
 have HZ := zH hz
 have HN := zH hn
 clear hf hz hn
 go_enter Tryz.func47, Tryz.ntmps47
 by_cases hA : A = none
 ·have HC := zH (HZ.out hA)
  subst hA
  have h0 : n = 0 := by
   rcases Nat.eq_zero_or_pos n with h | h
   ·exact h
   ·obtain ⟨b, off, e, _⟩ := HF.out.2.2 h
    cases e
  have HE := zH (show fs = [] from List.eq_nil_of_length_eq_zero (HF.out.1.trans h0))
  subst h0
  have hc0 := HC.out
  clear HZ HC
  subst hc0
  go_upto_region 0 with fail
  refine wp_region_lit ?_
  refine nA (.slice none 0 0) ?_;simp only [zz]
  go_upto_region 1 with fail
  refine wp_region_lit ?_
  refine nM (.slice none 0 0) ?_;simp only [zz];refine nR (.bool true) (exec_eqnil rfl rfl rfl Tryz.underlying27 rfl) ?_;simp only [zz]
  go_upto_region 2 with fail
  refine wp_region_lit ?_
  refine nA (.slice none 0 0) ?_;simp only [zz]
  go_wp2_with fail
  go_ret
  exact ⟨none, 0, rfl, by rw [HE.out]; exact FRow.nil _ _, Turn.refl _ _⟩
 ·have HA := zH (show A.isNone = false from by cases A with | none => exact absurd rfl hA | some x => rfl)
  obtain ⟨A6, c6, w6, hap, ho6, ht6⟩ := copy_fs (ty := 27) (c := c) HF.out HZ.out (by have := HN.out; omega)
  have HAP := zH hap
  have HO6 := zH ho6
  have HT6 := zH ht6
  clear hA hap ho6 ht6
  go_upto_region 0 with fail
  refine wp_region_lit ?_
  refine nA (.slice none 0 0) ?_;simp only [zz]
  go_upto_region 1 with fail
  refine wp_region_lit ?_
  refine nM (.slice A n c) ?_;simp only [zz];refine nR (.bool false) (exec_eqnil rfl rfl rfl Tryz.underlying27 HA.out) ?_;simp only [zz]
  go_upto_region 3 with fail
  refine wp_region_lit ?_
  refine wR (v := .slice (some ⟨w.heap.size, 0, none⟩) 0 0) (w' := w.alloc (.cells #[] 38)) wn (bx_slice0 rfl (build_f09 w)) ?_
  simp only [zz];refine nM (.slice A n c) ?_;simp only [zz]
  refine wR (v := .slice A6 n c6) (w' := w6) wn (exec_append rfl rfl rfl HAP.out) ?_
  simp only [zz];refine nA (.slice A6 n c6) ?_;simp only [zz]
  go_wp2_with fail
  go_ret
  exact ⟨A6, c6, rfl, HO6.out, HT6.out⟩
theorem fdel_nil (w : World) : Calls Tryz.prog 46 #[.slice none 0 0, isMacV] w fun e w' => e = .returned (.slice none 0 0) ∧ Turn nowhere w w' := by
 go_enter Tryz.func46, Tryz.ntmps46
 go_upto_region 0 with fail
 refine wp_region_lit ?_
 refine nA (.slice none 0 0) ?_;simp only [zz]
 go_upto_region 1 with fail
 refine wp_region_lit ?_
 refine nM (.slice none 0 0) ?_;simp only [zz];refine nM isMacV ?_;simp only [zz]
 refine wpList_op_g rfl fun K9 HK9 => ?_
 go_wp2_with fail
 refine (fIndex_walk (c := 0) (show Fl w none 0 [] from ⟨rfl, by decide, fun h => absurd h (by decide)⟩) (by decide)).mono ?_
 rintro e w2 ⟨r, rfl, hr, ht⟩
 refine HK9.out _ _ ?_
 clear HK9
 try simp only [zz]
 have hr1 : r = -1 := by
  rcases hr with ⟨h, _⟩ | ⟨i, e, _, h, _⟩
  ·exact h
  ·cases h
 subst hr1
 have HT := zH ht
 clear hr ht
 refine nA (.int .i64 (-1)) ?_;simp only [zz]
 go_upto_region 2 with fail
 refine wp_region_lit ?_
 refine nM (.int .i64 (-1)) ?_;simp only [zz];refine nR (.bool true) (ix_eql rfl rfl rfl (by decide)) ?_;simp only [zz]
 go_upto_region 3 with fail
 refine wp_region_lit ?_
 refine nM (.slice none 0 0) ?_;simp only [zz];refine nA (.slice none 0 0) ?_;simp only [zz]
 go_wp2_with fail
 go_ret
 exact ⟨rfl, HT.out⟩
theorem fdel_any {w : World} {B : Nat} {v : Value} {fs : List Fld} (h : FRow w B v fs) (hn : fs.length ≤ 5864062014800) : Calls Tryz.prog 46 #[v, isMacV] w fun e w' => ∃ A' c', e = .returned (.slice A' (bareM fs).length c') ∧ FRow w' B (.slice A' (bareM fs).length c') (bareM fs) ∧ Turn (fun b => v.ownBlock = some b) w w' := by
 obtain ⟨_, h5⟩ := id h
 rcases h5 with ⟨e, h0⟩ | ⟨g, cap, cur, e, h6⟩
 ·subst e
  obtain rfl : fs = [] := List.eq_nil_of_length_eq_zero h0
  refine (fdel_nil w).mono ?_
  rintro e w' ⟨rfl, ht⟩
  exact ⟨none, 0, rfl, FRow.nil _ _, ht.mono fun _ _ e => e.elim⟩
 ·subst e
  refine (fDelete_walk (frow_orw h) rfl hn).mono ?_
  rintro e w' ⟨rfl, ho, ht⟩
  exact ⟨_, _, rfl, orw_frow ho, ht.mono fun k _ e => by rw [show k = g from e]; rfl⟩
theorem bare_walk {w : World} {ty : Int} {A : Option Addr} {n c : Nat} {fs : List Fld} (hf : Fl w A n fs) (hz : A = none → c = 0) (hn : n ≤ 5864062014800) : Calls Tryz.prog 34 #[msgV ty A n c] w fun e w' => ∃ A' c', e = .returned (msgV ty A' (bareM fs).length c') ∧ FRow w' w.heap.size (.slice A' (bareM fs).length c') (bareM fs) ∧ Turn nowhere w w' := by
 have HF := zH hf
 have HZ := zH hz
 have HN := zH hn
 clear hf hz hn
 go_enter Tryz.func34, Tryz.ntmps34
 go_upto_region 0 with fail
 refine wp_region_lit ?_
 refine wR (v := .pointer (some ⟨(w).heap.size, 0, none⟩)) (w' := (w).alloc (.cells #[.int .i64 ty, .slice A n c] 29)) wn (gx_box rfl rfl (box_mg _ _ _ _ _)) ?_
 simp only [zz]
 refine wR (v := .pointer (some ⟨((w).alloc (.cells #[.int .i64 ty, .slice A n c] 29)).heap.size, 0, none⟩)) (w' := ((w).alloc (.cells #[.int .i64 ty, .slice A n c] 29)).alloc (.cells #[.int .i64 0, .slice none 0 0] 29)) wn (gx_alloc rfl (zero_mg _)) ?_
 simp only [zz]
 have hb_b := (Blk.new (w) 29 #[.int .i64 ty, .slice A n c]).alloc (.cells #[.int .i64 0, .slice none 0 0] 29)
 have hb_r := Blk.new ((w).alloc (.cells #[.int .i64 ty, .slice A n c] 29)) 29 #[.int .i64 0, .slice none 0 0]
 have ht_ := ((Turn.refl nowhere (w)).alloc (.cells #[.int .i64 ty, .slice A n c] 29)).alloc (.cells #[.int .i64 0, .slice none 0 0] 29)
 obtain ⟨n0_, hn0_⟩ : ∃ n, n = (w).heap.size := ⟨_, rfl⟩
 have hz_b : (w).heap.size = n0_ + 0 := by rw [hn0_]; simp
 have hz_r : ((w).alloc (.cells #[.int .i64 ty, .slice A n c] 29)).heap.size = n0_ + 1 := by rw [hn0_]; simp
 obtain ⟨r, hg_⟩ : ∃ g, g = ((w).alloc (.cells #[.int .i64 ty, .slice A n c] 29)).heap.size := ⟨_, rfl⟩
 rw [← hg_] at hb_r hz_r ⊢
 clear hg_
 obtain ⟨b, hg_⟩ : ∃ g, g = (w).heap.size := ⟨_, rfl⟩
 rw [← hg_] at hb_b hz_b ⊢
 clear hg_
 generalize ((w).alloc (.cells #[.int .i64 ty, .slice A n c] 29)).alloc (.cells #[.int .i64 0, .slice none 0 0] 29) = w1 at *
 have HT1 := zH ht_
 clear ht_
 have HBb := zH hb_b
 have HLb := zH (show (w).heap.size ≤ b from by omega)
 clear hb_b
 have HBr := zH hb_r
 have HLr := zH (show (w).heap.size ≤ r from by omega)
 clear hb_r
 have HNbr := zH (show b ≠ r from by omega)
 clear hn0_ hz_b hz_r
 clear n0_
 go_upto_region 1 with fail
 refine wp_region_lit ?_
 refine nA isMacV ?_;simp only [zz]
 go_upto_region 2 with fail
 refine wp_region_alw (fun W => Blk W b 29 #[.int .i64 ty, .slice A n c]) (by kernel_rfl) ?_
 have hS0 : (fun W => Blk W b 29 #[.int .i64 ty, .slice A n c]) w1.drew := HBb.out.drew
 have HD := zH ((Turn.refl nowhere w1).drew)
 generalize w1.drew = wd at *
 have HTd := zH (HT1.out.trans HD.out fun _ _ e => e)
 have HBrd := zH (HBr.out.turn HD.out fun e => e)
 have HLr0 := HLr
 clear HT1 HD HBr HBb HLr
 refine aU 0 (.pointer (some ⟨b, 0, none⟩)) rfl (fun W hW => xF 0 0) hS0 ?_;simp only [zz];refine aU 1 (.int .i64 ty) rfl (fun W hW => xL (hW.cell 0)) hS0 ?_;simp only [zz];refine aU 2 (.pointer (some ⟨b, 1, none⟩)) rfl (fun W hW => xF 0 1) hS0 ?_;simp only [zz];refine aU 3 (.slice A n c) rfl (fun W hW => xL (hW.cell 1)) hS0 ?_;simp only [zz];refine aM 5 isMacV hS0 ?_;simp only [zz]
 refine alw_step (i := 4) (by kernel_rfl) rfl rfl ?_
 intro K1 HK1
 go_wp2_with fail
 refine (fclone_walk (HF.out.still HTd.out) HZ.out HN.out).mono ?_
 rintro e c1 ⟨A5, c5, rfl, ho, ht⟩
 have hS1 : (fun W => Blk W b 29 #[.int .i64 ty, .slice A n c]) c1 := hS0.turn ht fun e => e
 have HO5 := zH ho
 have HT5 := zH (HTd.out.trans ht fun _ _ e => e)
 have HBr5 := zH (HBrd.out.turn ht fun e => e)
 have HLb := zH hS0.lt
 have HLr := zH HBrd.out.lt
 have HLw := zH HTd.out.size
 refine HK1.out _ _ ⟨hS1, ?_⟩
 clear HK1 ht ho hS0 HTd HBrd
 try simp only [zz]
 refine alw_step (i := 6) (by kernel_rfl) rfl rfl ?_
 intro K1 HK1
 go_wp2_with fail
 refine (fdel_any HO5.out (by rw [HF.out.1]; exact HN.out)).mono ?_
 rintro e c2 ⟨A6, c6, rfl, ho, ht⟩
 have hown : ∀ b, (Value.slice A5 n c5).ownBlock = some b → wd.heap.size ≤ b := fun b hb => ((frow_orw HO5.out).lt hb).1
 have hS2 : (fun W => Blk W b 29 #[.int .i64 ty, .slice A n c]) c2 := hS1.turn ht fun e => by have := hown _ e; have := HLb.out; omega
 have HO6 := zH (ho.less HLw.out)
 have HT6 := zH (HT5.out.trans ht fun k hk e => by have := hown _ e; have := HLw.out; omega)
 have HBr6 := zH (HBr5.out.turn ht fun e => by have := hown _ e; have := HLr.out; omega)
 refine HK1.out _ _ ⟨hS2, ?_⟩
 clear HK1 ht ho hS1 HT5 HBr5 HO5 hown
 try simp only [zz]
 refine aU 7 (.agg #[.int .i64 ty, .slice A6 (bareM fs).length c6]) rfl (fun W hW => gx_build2 rfl rfl rfl (build_msg2 _ _ _ _ _)) hS2 ?_;simp only [zz]
 have HNbr9 := zH (show b ≠ r from HNbr.out)
 refine alw_step (i := 8) (by kernel_rfl) rfl rfl ?_
 intro K1 HK1
 refine wp_store_rowU_g 29 (.tmp 2) (.tmp 11) rfl #[.int .i64 ty, .slice A6 (bareM fs).length c6] HBr6.out rfl rfl rfl (by rw [size_mg]; rfl) (mg_one _ _ _ _) ?_
 intro wz hbz htz
 refine HK1.out _ _ ⟨hS2.turn (F := only r) htz (fun e => HNbr9.out e), ?_⟩
 clear HK1
 try simp only [zz]
 have HBZ := zH hbz
 have HOZ := zH (HO6.out.turn (F := only r) htz fun k hk e => ((frow_orw HO6.out).ne (g := r) (t := 29) (cs := #[.int .i64 0, .slice none 0 0]) HBr6.out (by decide) k hk) e)
 have HTZ := zH (HT6.out.trans htz fun k' hk e => by have := HLr0.out; have e : k' = r := e; omega)
 clear hbz htz
 refine alw_done rfl ?_
 refine NoPanic.normal ?_
 go_wp2_with fail
 refine bodyPost_ret (v := .agg #[.int .i64 ty, .slice A6 (bareM fs).length c6]) (ret_cell1_g rfl _ _ r _ _ _ rfl HBZ.out Tryz.underlying29 rfl (by rw [size_mg] <;> rfl)) rfl ?_
 exact ⟨A6, c6, rfl, HOZ.out, HTZ.out⟩
def hexB : Value := strV [48, 49, 50, 51, 52, 53, 54, 55, 56, 57, 97, 98, 99, 100, 101, 102]
theorem dig_get : ∀ i : Fin 16, ([48, 49, 50, 51, 52, 53, 54, 55, 56, 57, 97, 98, 99, 100, 101, 102] : List UInt8).getD i.val 0 = Sh.dig i.val := by decide
theorem hex_next (l : B8) {i : Nat} (h : i < l.length) : Sh.hex (l.take (i + 1)) = Sh.hex (l.take i) ++ [Sh.dig ((l.getD i 0).toNat / 16), Sh.dig ((l.getD i 0).toNat % 16)] := by
 rw [take_nextB l h, Sh.hex, Sh.hex, List.flatMap_append]
 rfl
theorem hex_len (l : B8) : (Sh.hex l).length = 2 * l.length := by
 induction l with
 | nil => rfl
 | cons x l ih => rw [Sh.hex, List.flatMap_cons, List.length_append, ← Sh.hex, ih, List.length_cons]; simp; omega
theorem sidx_dig {a : Act} {o : Oper} {W : World} {x y : Operand} {i : Nat} (ho : o.op = .index 9 x y) (hx : a.eval x = hexB) (hy : a.eval y = .int .u8 (i : Int)) (hi : i < 16) : (execOp a.eval o).run Tryz.prog W = .ok (.value (.int .u8 ((Sh.dig i).toNat : Int))) W := by
 have h := exec_sidx (W := W) ho hx hy (by simpa using hi)
 rw [h, dig_get ⟨i, hi⟩]
theorem b_shr4 {a : Act} {o : Oper} {W : World} {x : Operand} {n : Nat} (ho : o.op = .binOp .shr 5 x (.const (.int .u64 4)) 99) (hx : a.eval x = .int .u8 (n : Int)) (hn : n < 256) : (execOp a.eval o).run Tryz.prog W = .ok (.value (.int .u8 ((n / 16 : Nat) : Int))) W := by
 unfold execOp
 simp only [ho, hx]
 go_simp
theorem b_and15 {a : Act} {o : Oper} {W : World} {x : Operand} {n : Nat} (ho : o.op = .binOp .and 5 x (.const (.int .u8 15)) 5) (hx : a.eval x = .int .u8 (n : Int)) (hn : n < 256) : (execOp a.eval o).run Tryz.prog W = .ok (.value (.int .u8 ((n % 16 : Nat) : Int))) W := by
 unfold execOp
 simp only [ho, hx]
 go_simp
 have h := u8_and_nat n 15 hn (by omega)
 rw [nat_mask4] at h
 exact h
theorem b_quo16 {a : Act} {o : Oper} {W : World} {x : Operand} {n : Nat} (ho : o.op = .binOp .quo 5 x (.const (.int .u8 16)) 5) (hx : a.eval x = .int .u8 (n : Int)) (hn : n < 256) : (execOp a.eval o).run Tryz.prog W = .ok (.value (.int .u8 ((n / 16 : Nat) : Int))) W := by
 unfold execOp
 simp only [ho, hx]
 go_simp
 rw [IntKind.wrap_u8']
 omega
theorem b_rem16 {a : Act} {o : Oper} {W : World} {x : Operand} {n : Nat} (ho : o.op = .binOp .rem 5 x (.const (.int .u8 16)) 5) (hx : a.eval x = .int .u8 (n : Int)) (hn : n < 256) : (execOp a.eval o).run Tryz.prog W = .ok (.value (.int .u8 ((n % 16 : Nat) : Int))) W := by
 unfold execOp
 simp only [ho, hx]
 go_simp
 rw [Int.tmod_eq_emod_of_nonneg (by omega)]
 try rw [IntKind.wrap_u8']
 try omega
theorem make16 (w : World) : (Instr.makeSlice 22 (.int .i64 0) (.int .i64 16)).run Tryz.prog w = .ok (.slice (some ⟨w.heap.size, 0, none⟩) 0 16) (w.alloc (.cells (byteCells (Sh.zs 16)) 5)) := by kernel_rfl
theorem orw_mk16 (w : World) : Orw (w.alloc (.cells (byteCells (Sh.zs 16)) 5)) w.heap.size 5 1 (.slice (some ⟨w.heap.size, 0, none⟩) 0 16) (rB []) :=
 ⟨Fit.nil 1, World.ownsRow_made w (byteCells (Sh.zs 16)) 16 (Nat.le_refl _) (by unfold maxLen; omega) rfl⟩
theorem build_b2 (x y : UInt8) (W : World) : (Instr.buildSlice 22 2 #[(0, .int .u8 (x.toNat : Int)), (1, .int .u8 (y.toNat : Int))]).run Tryz.prog W = .ok (.slice (some ⟨W.heap.size, 0, none⟩) 2 2) (W.alloc (.cells (byteCells [x, y]) 5)) := by kernel_rfl
theorem bx_slice2 {P : Program} {a : Act} {o : Oper} {t : TypeId} {x y : Operand} {u v q : Value} {W W' : World} (ho : o.op = .buildSlice t 2 #[(0, x), (1, y)]) (hx : a.eval x = u) (hy : a.eval y = v)
 (h : (Instr.buildSlice t 2 #[(0, u), (1, v)]).run P W = .ok q W') : (execOp a.eval o).run P W = .ok (.value q) W' := by
 unfold execOp
 simp only [ho, List.map_toArray, List.map_cons, List.map_nil, hx, hy, h, Sem.run_bind, Sem.run_pure, Result.andThen_ok]
theorem orw_add2 {w W1 : World} {v : Value} {l : B8} {ty : TypeId} (hown : Orw w W1.heap.size 5 1 v (rB l)) (hT : Turn nowhere W1 w) (x y : UInt8) (hlen : l.length + 2 ≤ 140737488355328) :
 ∃ A' c' w', (Builtin.append_ #[22, 22] ty #[v, .slice (some ⟨w.heap.size, 0, none⟩) 2 2]).run Tryz.prog (w.alloc (.cells (byteCells [x, y]) 5)) = .ok (.slice A' (l.length + 2) c') w' ∧ Orw w' W1.heap.size 5 1 (.slice A' (l.length + 2) c') (rB (l ++ [x, y])) ∧ Turn nowhere W1 w' := by
 have hta := (Turn.refl nowhere w).alloc (.cells (byteCells [x, y]) 5)
 obtain ⟨A', c', w', h1, h2, h3⟩ := orw_more elmB (ty := ty) (c := 2) (hown.still hta) (hT.trans hta fun _ _ e => e) (bs_rws (n := 2) (bs_arr (Blk.new w 5 (byteCells [x, y])) rfl (by decide)) (by decide)) (rB_fit [x, y]) (fun h => by cases h) (by rw [rB_len]; omega)
 rw [rB_len] at h1 h2
 rw [← rB_app] at h2
 exact ⟨A', c', w', h1, h2, h3⟩
theorem hexText_walk {w : World} {A : Option Addr} {c : Nat} {l : B8} (hb : Bs w A 8 l) : Calls Tryz.prog 36 #[.slice A 8 c] w fun e w' => e = .returned (strV (Sh.hex l)) ∧ Turn nowhere w w' := by
 have HN := zH hb.1
 obtain ⟨b0, o0, rfl, hc⟩ := hb.2.2 (by decide)
 have HC := zH hc
 clear hb hc
 go_enter Tryz.func36, Tryz.ntmps36
 go_upto_region 0 with fail
 refine wp_region_lit ?_
 refine nA (strV []) ?_;simp only [zz]
 have HO0 := zH (orw_mk16 w)
 have HT0 := zH ((Turn.refl nowhere w).alloc (.cells (byteCells (Sh.zs 16)) 5))
 have HMK := zH (make16 w)
 generalize hw1 : w.alloc (.cells (byteCells (Sh.zs 16)) 5) = w1 at HO0 HT0 HMK
 clear hw1
 go_upto_region 1 with fail
 refine wp_region_lit ?_
 refine nM (.slice (some ⟨b0, o0, none⟩) 8 c) ?_;simp only [zz];refine nR (.int .i64 8) (gx_len rfl rfl Tryz.underlying22) ?_;simp only [zz];refine nR (.int .i64 16) (ix_mul rfl rfl rfl rfl (by decide)) ?_;simp only [zz]
 refine wR (v := .slice (some ⟨w.heap.size, 0, none⟩) 0 16) (w' := w1) wn (exec_makeV rfl rfl rfl HMK.out) ?_
 simp only [zz];refine nA (.slice (some ⟨w.heap.size, 0, none⟩) 0 16) ?_;simp only [zz]
 go_upto_region 2 with fail
 refine wp_region_lit ?_
 refine nM (.slice (some ⟨b0, o0, none⟩) 8 c) ?_;simp only [zz];refine nR (.int .i64 8) (gx_len rfl rfl Tryz.underlying22) ?_;simp only [zz];refine nM (.int .i64 0) ?_;simp only [zz]
 go_wp2_with fail
 go_loopg [3, 12] 8 (fun gk v iv wr => ∃ i : Nat, iv = .int .i64 (i : Int) ∧ i + gk = 8 ∧ Orw wr w.heap.size 5 1 v (rB (Sh.hex (l.take i))) ∧ Turn nowhere w wr)
 case atStart => exact ⟨0, rfl, rfl, HO0.out, HT0.out⟩
 clear HO0 HT0 HMK
 obtain ⟨i, rfl, hgk, hor, htr⟩ := hrel
 have yi : (i : Int) ≤ 8 := by omega
 have HGK := zH hgk
 have HOR := zH hor
 have HTR := zH htr
 have HTL := zH (show (Sh.hex (l.take i)).length = 2 * i from by rw [hex_len, List.length_take, HN.out]; omega)
 obtain ⟨A5, c5, rfl, _⟩ := hor.form
 clear hgk hor htr
 rw [rB_len, HTL.out] at HOR ⊢
 by_cases hlt : i < 8
 ·as_aux_lemma =>
   have HLT := zH hlt
   have y3 : (i : Int) < 8 := by omega
   have HNX := zH (hex_next l (i := i) (by rw [HN.out]; exact hlt))
   have HCI := zH (HC.out i hlt)
   obtain ⟨x, hx⟩ : ∃ x, l.getD i 0 = x := ⟨_, rfl⟩
   rw [hx] at HNX HCI
   have HX := zH x.toNat_lt
   have HCR := zH (show wr.cell? ⟨b0, o0 + i, none⟩ = some (.int .u8 (x.toNat : Int)) from cell_still HCI.out HTR.out)
   clear hlt hx
   obtain ⟨d1, hd1⟩ : ∃ d, Sh.dig (x.toNat / 16) = d := ⟨_, rfl⟩
   obtain ⟨d2, hd2⟩ : ∃ d, Sh.dig (x.toNat % 16) = d := ⟨_, rfl⟩
   rw [hd1, hd2] at HNX
   have HD1 := zH hd1
   have HD2 := zH hd2
   clear hd1 hd2
   go_upto_region 3 with fail
   refine wp_region_lit ?_
   refine nR (.bool true) (ix_lss rfl rfl rfl (decide_eq_true y3)) ?_;simp only [zz]
   go_upto_region 4 with fail
   refine wp_region_lit ?_
   refine nR (.pointer (some ⟨b0, o0 + i * 1, none⟩)) (gx_iaddr (i := i) (sz := 1) rfl rfl rfl Tryz.underlying22 size_u8 HLT.out rfl) ?_;simp only [zz];refine nR (.int .u8 (x.toNat : Int)) (exec_load1 rfl rfl (by kernel_rfl) (by rw [Nat.mul_one]; exact HCR.out)) ?_;simp only [zz];refine nA (.int .u8 (x.toNat : Int)) ?_;simp only [zz]
   go_upto_region 5 with fail
   refine wp_region_alw (fun W => True) (by kernel_rfl) ?_
   have hS0 : (fun W => True) wr.drew := trivial
   have HD := zH ((Turn.refl nowhere wr).drew)
   generalize wr.drew = wd at *
   have HTd := zH (HTR.out.trans HD.out fun _ _ e => e)
   refine aM 0 (.slice A5 (2 * i) c5) hS0 ?_;simp only [zz];refine aM 1 (.int .u8 (x.toNat : Int)) hS0 ?_;simp only [zz];refine aU 2 (.int .u8 ((x.toNat / 16 : Nat) : Int)) rfl (fun W hW => b_shr4 rfl rfl HX.out) hS0 ?_;simp only [zz];refine aU 3 (.int .u8 (d1.toNat : Int)) rfl (fun W hW => (by rw [← HD1.out]; exact sidx_dig rfl rfl rfl (by have := HX.out; omega))) hS0 ?_;simp only [zz];refine aM 4 (.int .u8 (x.toNat : Int)) hS0 ?_;simp only [zz];refine aU 5 (.int .u8 ((x.toNat % 16 : Nat) : Int)) rfl (fun W hW => b_and15 rfl rfl HX.out) hS0 ?_;simp only [zz];refine aU 6 (.int .u8 (d2.toNat : Int)) rfl (fun W hW => (by rw [← HD2.out]; exact sidx_dig rfl rfl rfl (by omega))) hS0 ?_;simp only [zz]
   obtain ⟨A6, c6, w7, hap, ho7, ht7⟩ := orw_add2 (ty := 22) (W1 := w) (HOR.out.still HD.out) HTd.out d1 d2 (by rw [HTL.out]; have := HLT.out; omega)
   rw [HTL.out] at hap ho7
   rw [← HNX.out] at ho7
   have HAP := zH hap
   have HO7 := zH ho7
   have HT7 := zH ht7
   clear hap ho7 ht7
   refine alw_step (i := 7) (by kernel_rfl) rfl rfl ?_
   intro K1 HK1
   refine wp_run (v := .slice (some ⟨wd.heap.size, 0, none⟩) 2 2) (w' := wd.alloc (.cells (byteCells [d1, d2]) 5)) (bx_slice2 rfl rfl rfl (build_b2 d1 d2 wd)) ?_
   refine HK1.out _ _ ⟨trivial, ?_⟩
   clear HK1
   try simp only [zz]
   refine alw_step (i := 8) (by kernel_rfl) rfl rfl ?_
   intro K1 HK1
   refine wp_run (v := .slice A6 (2 * i + 2) c6) (w' := w7) (exec_append rfl rfl rfl HAP.out) ?_
   refine HK1.out _ _ ⟨trivial, ?_⟩
   clear HK1
   try simp only [zz]
   refine aU 9 (.slice A6 (2 * i + 2) c6) rfl (fun W hW => gx_assign rfl rfl) trivial ?_;simp only [zz]
   refine alw_done rfl ?_
   refine NoPanic.normal ?_
   try simp only [zz]
   go_upto_region 6 with fail
   refine wp_region_lit ?_
   refine nR (.int .i64 ((i + 1 : Nat) : Int)) (ix_add rfl rfl rfl (by omega) (by omega)) ?_;simp only [zz];refine nM (.int .i64 ((i + 1 : Nat) : Int)) ?_;simp only [zz]
   go_wp2_with fail
   go_roundg (8 - (i + 1))
   case measure => have := HGK.out; have := HLT.out; omega
   case rel => exact ⟨i + 1, rfl, by have := HLT.out; omega, HO7.out, HT7.out⟩
 ·as_aux_lemma =>
   obtain rfl : i = 8 := by omega
   clear hlt HGK
   rw [List.take_of_length_le (by rw [HN.out]; omega)] at HOR HTL
   obtain ⟨A8, c8, he8, hb8, hc8, hz8⟩ := orw_bs HOR.out
   rw [HTL.out] at he8 hb8
   injection he8 with e1 e2 e3
   subst e1
   have HB8 := zH hb8
   clear hb8 hc8 hz8 e2 e3
   go_upto_region 3 with fail
   refine wp_region_lit ?_
   refine nR (.bool false) (ix_lss rfl rfl rfl (by decide)) ?_;simp only [zz]
   go_upto_region 7 with fail
   refine wp_region_lit ?_
   refine nM (.slice A5 (2 * 8) c5) ?_;simp only [zz];refine nR (strV (Sh.hex l)) (exec_strBs rfl rfl HB8.out) ?_;simp only [zz];refine nA (strV (Sh.hex l)) ?_;simp only [zz]
   go_wp2_with fail
   go_ret
   exact ⟨rfl, HTR.out⟩
end Go.Proofs.YtkagijifkpoplaaGreatDoor
