/-
  Texts in one file: SsA. Conditions: the tables and the errors read as the program's text lays them.
-/
import Derived.Test.YtfnillibngijaaaGreatDoorJB9
import Derived.Test.YtfnillibngijaaaGreatDoorJB25
import Derived.Test.YtfnillibngijaaaGreatDoorJB2
import Derived.Test.YtfnillibngijaaaGreatDoorJB1
namespace Go.Proofs.YtfnillibngijaaaGreatDoor
open Go.RowKit
open Sh (Wd B8 H8)
open Fdd
set_option linter.unusedVariables false
set_option linter.unusedSimpArgs false
set_option maxRecDepth 20000
def fldC (f : Fld) : List Value := [.int .i64 f.1, strV f.2]
theorem fldC_one (f : Fld) : ∀ v ∈ fldC f, v.oneCell' = true := fun v hv => by
  simp only [fldC, List.mem_cons, List.not_mem_nil, or_false] at hv
  rcases hv with rfl | rfl <;> rfl
theorem fldA_one9 (f : Fld) : ∀ v ∈ (fldA f).toList, v.oneCell' = true := fldC_one f
theorem elmF : Elm Tryz.prog 47 53 2 24 (.agg #[.int .i64 0, strV []]) := ⟨Tryz.underlying47, by kernel_rfl, rfl, by decide, by decide⟩
theorem size_fd : (Tryz.prog.info? 53).map (·.size) = some 2 := by kernel_rfl
theorem zero_fd (w : World) : (zeroValue 53).run Tryz.prog w = .ok (.agg (fldA (0, []))) w := by kernel_rfl
theorem zero_fdV (w : World) : (zeroValue 53).run Tryz.prog w = .ok (.agg #[.int .i64 0, strV []]) w := by kernel_rfl
theorem fl_some {fs : List Fld} {n i : Nat} (hl : fs.length = n) (h : i < n) : ∃ f, fs[i]? = some f := ⟨_, List.getElem?_eq_getElem (by omega)⟩
theorem fl_rng {w : World} {A : Option Addr} {n i : Nat} {fs : List Fld} {f : Fld} (h : Fl w A n fs) (hf : fs[i]? = some f) : ∃ b off, A = some ⟨b, off, none⟩ ∧ w.rangeAt b (off + i * 2) (fldC f) := by
  have hi := (List.getElem?_eq_some_iff.1 hf).1
  obtain ⟨b, off, e, hc⟩ := h.2.2 (by have := h.1; omega)
  exact ⟨b, off, e, hc i f hf⟩
theorem ftake_snoc {fs : List Fld} {i : Nat} {f : Fld} (h : fs[i]? = some f) : fs.take (i + 1) = fs.take i ++ [f] := by
  rw [List.take_add_one, h]; rfl
theorem fit_f (fs : List Fld) : Fit 2 (fs.map fldC) := fun r hr => by
  obtain ⟨x, -, rfl⟩ := List.mem_map.1 hr
  exact ⟨rfl, fldC_one x⟩
theorem flat_f (fs : List Fld) : (fs.map fldC).flatten = fcs fs := by
  induction fs with
  | nil => rfl
  | cons x l ih => rw [List.map_cons, List.flatten_cons, ih]; rfl
theorem frow_orw {w : World} {B : Nat} {v : Value} {fs : List Fld} (h : FRow w B v fs) : Orw w B 53 2 v (fs.map fldC) := ⟨fit_f fs, by rw [List.length_map, flat_f]; exact h⟩
theorem orw_frow {w : World} {B : Nat} {v : Value} {fs : List Fld} (h : Orw w B 53 2 v (fs.map fldC)) : FRow w B v fs := by
  have := h.2
  rw [List.length_map, flat_f] at this
  exact this
theorem box_fd (e : Fld) (w : World) : (Instr.box 53 (.agg (fldA e))).run Tryz.prog w = .ok (.pointer (some ⟨w.heap.size, 0, none⟩)) (w.alloc (.cells (fldA e) 53)) := by
  simp [Instr.box, newVar, newRow, Result.andThen, Value.cells]
theorem fld_at (e : Fld) (j : Nat) : (fldA e)[j]? = (fldC e)[j]? := by simp [fldA, fldC]
abbrev isMacV : Value := .func (.func 33) #[] #[]
theorem isMac_walk {e : Fld} (w : World) : Calls Tryz.prog 33 #[.agg (fldA e)] w fun r w' => r = .returned (.bool (decide (e.1 = 64))) ∧ Turn nowhere w w' := by
  go_enter Tryz.func33, Tryz.ntmps33
  go_upto_region 0 with fail
  refine wp_region_lit ?_
  refine wpList_run (v := .pointer (some ⟨(w).heap.size, 0, none⟩)) (w' := (w).alloc (.cells (fldA e) 53)) (wanted_none rfl) (gx_box rfl rfl (box_fd e _)) ?_
  simp only [Act.put, List.setIfInBounds_toArray, List.set_cons_zero, List.set_cons_succ]
  refine wpList_run (v := .bool false) (wanted_none rfl) (gx_assign rfl rfl) ?_
  simp only [Act.put, List.setIfInBounds_toArray, List.set_cons_zero, List.set_cons_succ]
  have hb_q := Blk.new (w) 53 (fldA e)
  have ht_ := (Turn.refl nowhere (w)).alloc (.cells (fldA e) 53)
  obtain ⟨n0_, hn0_⟩ : ∃ n, n = (w).heap.size := ⟨_, rfl⟩
  have hz_q : (w).heap.size = n0_ + 0 := by rw [hn0_]; simp
  obtain ⟨q, hg_⟩ : ∃ g, g = (w).heap.size := ⟨_, rfl⟩
  rw [← hg_] at hb_q hz_q ⊢
  clear hg_
  generalize (w).alloc (.cells (fldA e) 53) = w1 at *
  have HT1 := Lib.hid ht_
  clear ht_
  have HBq := Lib.hid hb_q
  have HLq := Lib.hid (show (w).heap.size ≤ q from by omega)
  clear hb_q
  clear hn0_ hz_q
  clear n0_
  go_upto_region 1 with fail
  refine wp_region_lit ?_
  refine wpList_run (v := .pointer (some ⟨q, 0, none⟩)) (wanted_none rfl) (exec_field (off := 0) (d := 0) rfl rfl (by kernel_rfl)) ?_
  simp only [Act.put, List.setIfInBounds_toArray, List.set_cons_zero, List.set_cons_succ]
  refine wpList_run (v := .int .i64 e.1) (wanted_none rfl) (exec_load1 rfl rfl (by kernel_rfl) (HBq.out.cell 0)) ?_
  simp only [Act.put, List.setIfInBounds_toArray, List.set_cons_zero, List.set_cons_succ]
  refine wpList_run (v := .bool (decide (e.1 = 64))) (wanted_none rfl) (ix_eql rfl rfl rfl rfl) ?_
  simp only [Act.put, List.setIfInBounds_toArray, List.set_cons_zero, List.set_cons_succ]
  refine wpList_run (v := .bool (decide (e.1 = 64))) (wanted_none rfl) (gx_assign rfl rfl) ?_
  simp only [Act.put, List.setIfInBounds_toArray, List.set_cons_zero, List.set_cons_succ]
  go_wp2_with fail
  go_ret
  exact ⟨rfl, HT1.out⟩
/-- the first entry of nought -/
def fIdxP (es : List Fld) (r : Int) : Prop := (r = -1 ∧ ∀ e ∈ es, e.1 ≠ 64) ∨ ∃ i e, r = ((i : Nat) : Int) ∧ es[i]? = some e ∧ e.1 = 64 ∧ ∀ x ∈ es.take i, x.1 ≠ 64
set_option maxRecDepth 20000 in
set_option maxHeartbeats 4000000 in
theorem fIndex_walk {w : World} {A : Option Addr} {n c : Nat} {es : List Fld} (h : Fl w A n es) (hn : n ≤ 5864062014800) : Calls Tryz.prog 28 #[.slice A n c, isMacV] w fun e w' => ∃ r, e = .returned (.int .i64 r) ∧ fIdxP es r ∧ Turn nowhere w w' := by
  have HE := Lib.hid h
  have HLEN := Lib.hid h.1
  have ym : (n : Int) ≤ 5864062014800 := by omega
  clear h hn
  go_enter Tryz.func28, Tryz.ntmps28
  go_upto_region 0 with fail
  refine wp_region_lit ?_
  refine wpList_run (v := .int .i64 0) (wanted_none rfl) (gx_assign rfl rfl) ?_
  simp only [Act.put, List.setIfInBounds_toArray, List.set_cons_zero, List.set_cons_succ]
  go_upto_region 1 with fail
  refine wp_region_lit ?_
  refine wpList_run (v := .slice A n c) (wanted_none rfl) (exec_move rfl rfl) ?_
  simp only [Act.put, List.setIfInBounds_toArray, List.set_cons_zero, List.set_cons_succ]
  refine wpList_run (v := .int .i64 (n : Int)) (wanted_none rfl) (gx_len rfl rfl Tryz.underlying47) ?_
  simp only [Act.put, List.setIfInBounds_toArray, List.set_cons_zero, List.set_cons_succ]
  refine wpList_run (v := .int .i64 0) (wanted_none rfl) (exec_move rfl rfl) ?_
  simp only [Act.put, List.setIfInBounds_toArray, List.set_cons_zero, List.set_cons_succ]
  go_wp2_with fail
  go_loopg [8] n (fun gk iv wr => ∃ i : Nat, iv = .int .i64 (i : Int) ∧ i + gk = n ∧ (∀ x ∈ es.take i, x.1 ≠ 64) ∧ Turn nowhere w wr)
  case atStart => exact ⟨0, rfl, by omega, (fun x hx => by rw [List.take_zero] at hx; cases hx), Turn.refl _ _⟩
  obtain ⟨i, rfl, hgk, hno, htr⟩ := hrel
  have HGK := Lib.hid hgk
  have HNO := Lib.hid hno
  have HTR := Lib.hid htr
  have yi : (i : Int) ≤ (n : Int) := by omega
  clear hgk hno htr
  by_cases hlt : i < n
  · have HLT := Lib.hid hlt
    have y3 : (i : Int) < (n : Int) := by omega
    obtain ⟨e, hei⟩ := fl_some HLEN.out hlt
    have HEI := Lib.hid hei
    obtain ⟨b1, o1, e1, h1⟩ := fl_rng (HE.out.still HTR.out) hei
    have HRR := Lib.hid h1
    subst e1
    clear h1 hei hlt
    go_upto_region 2 with fail
    refine wp_region_lit ?_
    refine wpList_run (v := .bool true) (wanted_none rfl) (ix_lss rfl rfl rfl (decide_eq_true y3)) ?_
    simp only [Act.put, List.setIfInBounds_toArray, List.set_cons_zero, List.set_cons_succ]
    go_upto_region 3 with fail
    refine wp_region_lit ?_
    refine wpList_run (v := .int .i64 (i : Int)) (wanted_none rfl) (exec_move rfl rfl) ?_
    simp only [Act.put, List.setIfInBounds_toArray, List.set_cons_zero, List.set_cons_succ]
    refine wpList_run (v := .int .i64 (i : Int)) (wanted_none rfl) (gx_assign rfl rfl) ?_
    simp only [Act.put, List.setIfInBounds_toArray, List.set_cons_zero, List.set_cons_succ]
    go_upto_region 4 with fail
    refine wp_region_lit ?_
    refine wpList_run (v := isMacV) (wanted_none rfl) (exec_move rfl rfl) ?_
    simp only [Act.put, List.setIfInBounds_toArray, List.set_cons_zero, List.set_cons_succ]
    refine wpList_run (v := .slice (some ⟨b1, o1, none⟩) n c) (wanted_none rfl) (exec_move rfl rfl) ?_
    simp only [Act.put, List.setIfInBounds_toArray, List.set_cons_zero, List.set_cons_succ]
    refine wpList_run (v := .int .i64 (i : Int)) (wanted_none rfl) (exec_move rfl rfl) ?_
    simp only [Act.put, List.setIfInBounds_toArray, List.set_cons_zero, List.set_cons_succ]
    refine wpList_run (v := .pointer (some ⟨b1, o1 + i * 2, none⟩)) (wanted_none rfl) (gx_iaddr (i := i) (sz := 2) rfl rfl rfl Tryz.underlying47 size_fd HLT.out rfl) ?_
    simp only [Act.put, List.setIfInBounds_toArray, List.set_cons_zero, List.set_cons_succ]
    refine wpList_run (v := .agg (fldA e)) (wanted_none rfl) (gx_loads_g rfl rfl HRR.out Tryz.underlying53 rfl (by rw [size_fd]; rfl)) ?_
    simp only [Act.put, List.setIfInBounds_toArray, List.set_cons_zero, List.set_cons_succ]
    refine wpList_op_g rfl fun K9 HK9 => ?_
    go_wp2_with fail
    refine (isMac_walk wr).mono ?_
    rintro e w2 ⟨rfl, ht⟩
    refine HK9.out _ _ ?_
    clear HK9
    try simp only [Act.put, List.setIfInBounds_toArray, List.set_cons_zero, List.set_cons_succ]
    have HT2 := Lib.hid (HTR.out.trans ht fun _ _ e => e)
    clear ht
    by_cases hz : e.1 = 64
    · have HZ := Lib.hid hz
      rw [decide_eq_true hz]
      clear hz
      go_upto_region 5 with fail
      refine wp_region_lit ?_
      refine wpList_run (v := .int .i64 (i : Int)) (wanted_none rfl) (exec_move rfl rfl) ?_
      simp only [Act.put, List.setIfInBounds_toArray, List.set_cons_zero, List.set_cons_succ]
      refine wpList_run (v := .int .i64 (i : Int)) (wanted_none rfl) (gx_assign rfl rfl) ?_
      simp only [Act.put, List.setIfInBounds_toArray, List.set_cons_zero, List.set_cons_succ]
      go_wp2_with fail
      go_ret
      exact ⟨_, rfl, .inr ⟨i, e, rfl, HEI.out, HZ.out, HNO.out⟩, HT2.out⟩
    · have HZ := Lib.hid hz
      rw [decide_eq_false hz]
      clear hz
      go_upto_region 6 with fail
      refine wp_region_lit ?_
      refine wpList_run (v := .int .i64 ((i + 1 : Nat) : Int)) (wanted_none rfl) (ix_add rfl rfl rfl (by omega) (by omega)) ?_
      simp only [Act.put, List.setIfInBounds_toArray, List.set_cons_zero, List.set_cons_succ]
      refine wpList_run (v := .int .i64 ((i + 1 : Nat) : Int)) (wanted_none rfl) (exec_move rfl rfl) ?_
      simp only [Act.put, List.setIfInBounds_toArray, List.set_cons_zero, List.set_cons_succ]
      go_wp2_with fail
      go_roundg (n - (i + 1))
      case measure => have := HGK.out; have := HLT.out; omega
      case rel => exact ⟨i + 1, rfl, by have := HLT.out; omega, fun x hx => by
        rw [ftake_snoc HEI.out] at hx
        rcases List.mem_append.1 hx with hx | hx
        · exact HNO.out x hx
        · obtain rfl : x = e := by simpa using hx
          exact HZ.out, HT2.out⟩
  · obtain rfl : i = n := by omega
    clear hlt
    go_upto_region 2 with fail
    refine wp_region_lit ?_
    refine wpList_run (v := .bool false) (wanted_none rfl) (ix_lss rfl rfl rfl (by simp)) ?_
    simp only [Act.put, List.setIfInBounds_toArray, List.set_cons_zero, List.set_cons_succ]
    go_upto_region 7 with fail
    refine wp_region_lit ?_
    refine wpList_run (v := .int .i64 (-1)) (wanted_none rfl) (gx_assign rfl rfl) ?_
    simp only [Act.put, List.setIfInBounds_toArray, List.set_cons_zero, List.set_cons_succ]
    go_wp2_with fail
    go_ret
    exact ⟨_, rfl, .inl ⟨rfl, by have := HNO.out; rwa [List.take_of_length_le (by rw [HLEN.out]; omega)] at this⟩, HTR.out⟩
/-- what is kept -/
def bareM (es : List Fld) : List Fld := es.filter fun e => e.1 != 64
theorem bare_all {es : List Fld} (h : ∀ e ∈ es, e.1 ≠ 64) : bareM es = es := List.filter_eq_self.2 fun e he => by simpa using h e he
theorem bare_snoc {es : List Fld} {j : Nat} {e : Fld} (h : es[j]? = some e) : bareM (es.take (j + 1)) = if e.1 = 64 then bareM (es.take j) else bareM (es.take j) ++ [e] := by
  rw [ftake_snoc h]
  unfold bareM
  rw [List.filter_append]
  by_cases hz : e.1 = 64
  · rw [if_pos hz]; simp [hz]
  · rw [if_neg hz]; simp [hz]
/-- how far it is: the first i of R are what was kept of the first j, behind j all is as it was -/
structure FDelR (es R : List Fld) (i j : Nat) : Prop where
  len : R.length = es.length
  lt : i < j
  le : j ≤ es.length
  kept : R.take i = bareM (es.take j)
  more : R.drop j = es.drop j
theorem FDelR.start {es : List Fld} {i : Nat} {e : Fld} (h : es[i]? = some e) (hz : e.1 = 64) (hno : ∀ x ∈ es.take i, x.1 ≠ 64) : FDelR es es i (i + 1) :=
  ⟨rfl, by omega, (List.getElem?_eq_some_iff.1 h).1, by rw [bare_snoc h, if_pos hz, bare_all hno], rfl⟩
theorem FDelR.at_ {es R : List Fld} {i j : Nat} {e : Fld} (h : FDelR es R i j) (he : es[j]? = some e) : R[j]? = some e := by
  have := congrArg (fun l => l[0]?) h.more
  simpa [he] using this
theorem FDelR.skip {es R : List Fld} {i j : Nat} {e : Fld} (h : FDelR es R i j) (he : es[j]? = some e) (hz : e.1 = 64) : FDelR es R i (j + 1) :=
  ⟨h.len, by have := h.lt; omega, (List.getElem?_eq_some_iff.1 he).1, by rw [bare_snoc he, if_pos hz]; exact h.kept, by
    have := congrArg (List.drop 1) h.more
    simpa [List.drop_drop] using this⟩
theorem FDelR.take {es R : List Fld} {i j : Nat} {e : Fld} (h : FDelR es R i j) (he : es[j]? = some e) (hz : ¬ e.1 = 64) : FDelR es (R.set i e) (i + 1) (j + 1) := by
  have hj := (List.getElem?_eq_some_iff.1 he).1
  have h1 := h.lt
  refine ⟨by rw [List.length_set]; exact h.len, by omega, hj, ?_, ?_⟩
  · rw [bare_snoc he, if_neg hz, ← h.kept, List.take_add_one, List.take_set_of_le (by omega), List.getElem?_set_self (by rw [h.len]; omega)]
    rfl
  · rw [List.drop_set_of_lt (by omega)]
    have := congrArg (List.drop 1) h.more
    simpa [List.drop_drop] using this
theorem FDelR.end_ {es R : List Fld} {i : Nat} (h : FDelR es R i es.length) : R.take i = bareM es := by
  have := h.kept
  rwa [List.take_length] at this
theorem FDelR.ilen {es R : List Fld} {i : Nat} (h : FDelR es R i es.length) : i = (bareM es).length := by
  rw [← h.end_, List.length_take, h.len]
  have := h.lt
  omega
theorem fmap_set {l : List Fld} {i : Nat} {e : Fld} : (l.map fldC).set i (fldC e) = (l.set i e).map fldC := by rw [List.map_set]
set_option maxRecDepth 20000 in
set_option maxHeartbeats 4000000 in
theorem fDelete_walk {w : World} {g n c B : Nat} {es : List Fld} (h : Orw w B 53 2 (.slice (some ⟨g, 0, none⟩) n c) (es.map fldC)) (hl : es.length = n) (hn : n ≤ 5864062014800) :
    Calls Tryz.prog 34 #[.slice (some ⟨g, 0, none⟩) n c, isMacV] w fun e w' => e = .returned (.slice (some ⟨g, 0, none⟩) (bareM es).length c) ∧ Orw w' B 53 2 (.slice (some ⟨g, 0, none⟩) (bareM es).length c) ((bareM es).map fldC) ∧ Turn (only g) w w' := by
  have HO := Lib.hid h
  have HLEN := Lib.hid hl
  have HN := Lib.hid hn
  have HE := Lib.hid (show Fl w (some ⟨g, 0, none⟩) n es from ((orw_frow h).fl (by omega)).1)
  have ym : (n : Int) ≤ 5864062014800 := by omega
  obtain ⟨A9, c9, e9, hnc, hcm, _⟩ := h.form
  injection e9 with e1 e2 e3
  subst e3
  have HNC := Lib.hid (show n ≤ c from by rw [List.length_map] at hnc; omega)
  have HB := Lib.hid (show ∃ cur, Blk w g 53 cur from h.own_blk rfl)
  clear h hl hn e1 e2 hnc hcm
  go_enter Tryz.func34, Tryz.ntmps34
  go_upto_region 0 with fail
  refine wp_region_lit ?_
  refine wpList_run (v := .slice none 0 0) (wanted_none rfl) (gx_assign rfl rfl) ?_
  simp only [Act.put, List.setIfInBounds_toArray, List.set_cons_zero, List.set_cons_succ]
  go_upto_region 1 with fail
  refine wp_region_lit ?_
  refine wpList_run (v := .slice (some ⟨g, 0, none⟩) n c) (wanted_none rfl) (exec_move rfl rfl) ?_
  simp only [Act.put, List.setIfInBounds_toArray, List.set_cons_zero, List.set_cons_succ]
  refine wpList_run (v := isMacV) (wanted_none rfl) (exec_move rfl rfl) ?_
  simp only [Act.put, List.setIfInBounds_toArray, List.set_cons_zero, List.set_cons_succ]
  refine wpList_op_g rfl fun K9 HK9 => ?_
  go_wp2_with fail
  refine (fIndex_walk (c := c) HE.out HN.out).mono ?_
  rintro e w2 ⟨r, rfl, hr, ht⟩
  refine HK9.out _ _ ?_
  clear HK9
  try simp only [Act.put, List.setIfInBounds_toArray, List.set_cons_zero, List.set_cons_succ]
  have HT2 := Lib.hid ht
  have HO2 := Lib.hid (HO.out.still ht)
  clear ht
  rcases hr with ⟨rfl, hall⟩ | ⟨i0, e0, rfl, he0, hz0, hno0⟩
  · have HK := Lib.hid (bare_all hall)
    clear hall
    refine wpList_run (v := .int .i64 (-1)) (wanted_none rfl) (gx_assign rfl rfl) ?_
    simp only [Act.put, List.setIfInBounds_toArray, List.set_cons_zero, List.set_cons_succ]
    go_upto_region 2 with fail
    refine wp_region_lit ?_
    refine wpList_run (v := .int .i64 (-1)) (wanted_none rfl) (exec_move rfl rfl) ?_
    simp only [Act.put, List.setIfInBounds_toArray, List.set_cons_zero, List.set_cons_succ]
    refine wpList_run (v := .bool true) (wanted_none rfl) (ix_eql rfl rfl rfl (by decide)) ?_
    simp only [Act.put, List.setIfInBounds_toArray, List.set_cons_zero, List.set_cons_succ]
    go_upto_region 3 with fail
    refine wp_region_lit ?_
    refine wpList_run (v := .slice (some ⟨g, 0, none⟩) n c) (wanted_none rfl) (exec_move rfl rfl) ?_
    simp only [Act.put, List.setIfInBounds_toArray, List.set_cons_zero, List.set_cons_succ]
    refine wpList_run (v := .slice (some ⟨g, 0, none⟩) n c) (wanted_none rfl) (gx_assign rfl rfl) ?_
    simp only [Act.put, List.setIfInBounds_toArray, List.set_cons_zero, List.set_cons_succ]
    go_wp2_with fail
    go_ret
    rw [HK.out, HLEN.out]
    exact ⟨rfl, HO2.out, HT2.out.mono fun _ _ e => e.elim⟩
  · have HD0 := Lib.hid (FDelR.start he0 hz0 hno0)
    have hi0 := (List.getElem?_eq_some_iff.1 he0).1
    have y0 : (i0 : Int) + 1 ≤ (n : Int) := by have := HLEN.out; omega
    have HI0 := Lib.hid (show i0 + 1 ≤ n from by omega)
    clear he0 hz0 hno0 hi0
    refine wpList_run (v := .int .i64 (i0 : Int)) (wanted_none rfl) (gx_assign rfl rfl) ?_
    simp only [Act.put, List.setIfInBounds_toArray, List.set_cons_zero, List.set_cons_succ]
    go_upto_region 2 with fail
    refine wp_region_lit ?_
    refine wpList_run (v := .int .i64 (i0 : Int)) (wanted_none rfl) (exec_move rfl rfl) ?_
    simp only [Act.put, List.setIfInBounds_toArray, List.set_cons_zero, List.set_cons_succ]
    refine wpList_run (v := .bool false) (wanted_none rfl) (ix_eql rfl rfl rfl (decide_eq_false (by omega))) ?_
    simp only [Act.put, List.setIfInBounds_toArray, List.set_cons_zero, List.set_cons_succ]
    go_upto_region 4 with fail
    refine wp_region_lit ?_
    refine wpList_run (v := .int .i64 (i0 : Int)) (wanted_none rfl) (exec_move rfl rfl) ?_
    simp only [Act.put, List.setIfInBounds_toArray, List.set_cons_zero, List.set_cons_succ]
    refine wpList_run (v := .int .i64 ((i0 + 1 : Nat) : Int)) (wanted_none rfl) (ix_add rfl rfl rfl (by omega) (by omega)) ?_
    simp only [Act.put, List.setIfInBounds_toArray, List.set_cons_zero, List.set_cons_succ]
    refine wpList_run (v := .int .i64 ((i0 + 1 : Nat) : Int)) (wanted_none rfl) (gx_assign rfl rfl) ?_
    simp only [Act.put, List.setIfInBounds_toArray, List.set_cons_zero, List.set_cons_succ]
    go_wp2_with fail
    go_loopg [5, 6] n (fun gk iv jv wr => ∃ (i j : Nat) (R : List Fld), iv = .int .i64 (i : Int) ∧ jv = .int .i64 (j : Int) ∧ j + gk = n + i0 + 1 ∧ FDelR es R i j ∧ Orw wr B 53 2 (.slice (some ⟨g, 0, none⟩) n c) (R.map fldC) ∧ Turn (only g) w wr)
    case atStart => exact ⟨i0, i0 + 1, es, rfl, rfl, by omega, HD0.out, HO2.out, HT2.out.mono fun _ _ e => e.elim⟩
    obtain ⟨i, j, R, rfl, rfl, hgk, hdr, hor, htr⟩ := hrel
    have HGK := Lib.hid hgk
    have HDR := Lib.hid hdr
    have HOR := Lib.hid hor
    have HTR := Lib.hid htr
    have hjn : j ≤ n := by have := hdr.le; have := HLEN.out; omega
    have hij := hdr.lt
    have yi : (i : Int) < (j : Int) := by omega
    have yj : (j : Int) ≤ (n : Int) := by omega
    clear hgk hdr hor htr
    by_cases hlt : j < n
    · have HLT := Lib.hid hlt
      have y3 : (j : Int) < (n : Int) := by omega
      have HIN := Lib.hid (show i < n from by omega)
      obtain ⟨e, hei⟩ := fl_some HLEN.out hlt
      have HEJ := Lib.hid hei
      have HRR := Lib.hid (HOR.out.el (i := j) (r := fldC e) (by rw [List.getElem?_map, HDR.out.at_ hei]; rfl))
      clear hei hlt hjn hij
      go_upto_region 5 with fail
      refine wp_region_lit ?_
      refine wpList_run (v := .int .i64 (j : Int)) (wanted_none rfl) (exec_move rfl rfl) ?_
      simp only [Act.put, List.setIfInBounds_toArray, List.set_cons_zero, List.set_cons_succ]
      refine wpList_run (v := .slice (some ⟨g, 0, none⟩) n c) (wanted_none rfl) (exec_move rfl rfl) ?_
      simp only [Act.put, List.setIfInBounds_toArray, List.set_cons_zero, List.set_cons_succ]
      refine wpList_run (v := .int .i64 (n : Int)) (wanted_none rfl) (gx_len rfl rfl Tryz.underlying47) ?_
      simp only [Act.put, List.setIfInBounds_toArray, List.set_cons_zero, List.set_cons_succ]
      refine wpList_run (v := .bool true) (wanted_none rfl) (ix_lss rfl rfl rfl (decide_eq_true y3)) ?_
      simp only [Act.put, List.setIfInBounds_toArray, List.set_cons_zero, List.set_cons_succ]
      go_upto_region 7 with fail
      refine wp_region_lit ?_
      refine wpList_run (v := .slice (some ⟨g, 0, none⟩) n c) (wanted_none rfl) (exec_move rfl rfl) ?_
      simp only [Act.put, List.setIfInBounds_toArray, List.set_cons_zero, List.set_cons_succ]
      refine wpList_run (v := .int .i64 (j : Int)) (wanted_none rfl) (exec_move rfl rfl) ?_
      simp only [Act.put, List.setIfInBounds_toArray, List.set_cons_zero, List.set_cons_succ]
      refine wpList_run (v := .pointer (some ⟨g, j * 2, none⟩)) (wanted_none rfl) (gx_iaddr (i := j) (sz := 2) rfl rfl rfl Tryz.underlying47 size_fd HLT.out (by omega)) ?_
      simp only [Act.put, List.setIfInBounds_toArray, List.set_cons_zero, List.set_cons_succ]
      refine wpList_run (v := .agg (fldA e)) (wanted_none rfl) (gx_loads_g rfl rfl HRR.out Tryz.underlying53 rfl (by rw [size_fd]; rfl)) ?_
      simp only [Act.put, List.setIfInBounds_toArray, List.set_cons_zero, List.set_cons_succ]
      refine wpList_run (v := .pointer (some ⟨wr.heap.size, 0, none⟩)) (w' := wr.alloc (.cells (fldA (0, [])) 53)) (wanted_none rfl) (gx_alloc rfl (zero_fd _)) ?_
      simp only [Act.put, List.setIfInBounds_toArray, List.set_cons_zero, List.set_cons_succ]
      have hb_ := Blk.new wr 53 (fldA (0, []))
      have ht_ := (Turn.refl nowhere wr).alloc (.cells (fldA (0, [])) 53)
      obtain ⟨x, hg_⟩ : ∃ g, g = wr.heap.size := ⟨_, rfl⟩
      rw [← hg_] at hb_ ⊢
      have HLx := Lib.hid (show wr.heap.size ≤ x from by omega)
      clear hg_
      generalize wr.alloc (.cells (fldA (0, [])) 53) = w5 at *
      have HBx := Lib.hid hb_
      have HT5 := Lib.hid ht_
      clear hb_ ht_
      refine wpList_store_row (wanted_none rfl) 53 (.tmp 7) (.tmp 25) rfl (fldA e) HBx.out rfl rfl (rfl) (by rw [size_fd] <;> rfl) (fldA_one9 _) ?_
      intro w6 hb_ ht_
      have HBx6 := Lib.hid hb_
      have HT6 := Lib.hid ht_
      clear hb_ ht_
      simp only [Act.put, List.setIfInBounds_toArray, List.set_cons_zero, List.set_cons_succ]
      have HT56 := Lib.hid (HT5.out.trans HT6.out fun k hk e => by have := HLx.out; have e : k = x := e; omega)
      clear HBx HT5 HT6 HRR
      go_upto_region 8 with fail
      refine wp_region_lit ?_
      refine wpList_run (v := isMacV) (wanted_none rfl) (exec_move rfl rfl) ?_
      simp only [Act.put, List.setIfInBounds_toArray, List.set_cons_zero, List.set_cons_succ]
      refine wpList_run (v := .agg (fldA e)) (wanted_none rfl) (gx_loads_g rfl rfl (blk_range_g HBx6.out) Tryz.underlying53 rfl (by rw [size_fd]; rfl)) ?_
      simp only [Act.put, List.setIfInBounds_toArray, List.set_cons_zero, List.set_cons_succ]
      refine wpList_op_g rfl fun K9 HK9 => ?_
      go_wp2_with fail
      refine (isMac_walk w6).mono ?_
      rintro e w7 ⟨rfl, ht⟩
      refine HK9.out _ _ ?_
      clear HK9
      try simp only [Act.put, List.setIfInBounds_toArray, List.set_cons_zero, List.set_cons_succ]
      have HT7 := Lib.hid (HT56.out.trans ht fun _ _ e => e)
      have HBx7 := Lib.hid (HBx6.out.turn ht fun e => e)
      clear ht HT56 HBx6
      have HO7 := Lib.hid (HOR.out.still HT7.out)
      have HT7w := Lib.hid (HTR.out.trans HT7.out fun _ _ e => e.elim)
      by_cases hz : e.1 = 64
      · have HZ := Lib.hid hz
        rw [decide_eq_true hz]
        clear hz
        refine wpList_run (v := .bool false) (wanted_none rfl) (ix_not (b := true) rfl rfl) ?_
        simp only [Act.put, List.setIfInBounds_toArray, List.set_cons_zero, List.set_cons_succ]
        go_upto_region 6 with fail
        refine wp_region_lit ?_
        refine wpList_run (v := .int .i64 (j : Int)) (wanted_none rfl) (exec_move rfl rfl) ?_
        simp only [Act.put, List.setIfInBounds_toArray, List.set_cons_zero, List.set_cons_succ]
        refine wpList_run (v := .int .i64 ((j + 1 : Nat) : Int)) (wanted_none rfl) (ix_add rfl rfl rfl (by omega) (by omega)) ?_
        simp only [Act.put, List.setIfInBounds_toArray, List.set_cons_zero, List.set_cons_succ]
        refine wpList_run (v := .int .i64 ((j + 1 : Nat) : Int)) (wanted_none rfl) (gx_assign rfl rfl) ?_
        simp only [Act.put, List.setIfInBounds_toArray, List.set_cons_zero, List.set_cons_succ]
        go_wp2_with fail
        go_roundg (n + i0 + 1 - (j + 1))
        case measure => have := HGK.out; have := HLT.out; omega
        case rel => exact ⟨i, j + 1, R, rfl, rfl, by have := HLT.out; omega, HDR.out.skip HEJ.out HZ.out, HO7.out, HT7w.out⟩
      · have HZ := Lib.hid hz
        rw [decide_eq_false hz]
        clear hz
        obtain ⟨cur, hcur⟩ := HO7.out.own_blk rfl
        have HCUR := Lib.hid hcur
        have hcs := orw_block HO7.out
        obtain ⟨cur0, hc0, hc1, _⟩ := hcs
        obtain rfl := hc0.inj hcur
        have HCS := Lib.hid hc1
        clear hcur hc0 hc1
        refine wpList_run (v := .bool true) (wanted_none rfl) (ix_not (b := false) rfl rfl) ?_
        simp only [Act.put, List.setIfInBounds_toArray, List.set_cons_zero, List.set_cons_succ]
        go_upto_region 9 with fail
        refine wp_region_lit ?_
        refine wpList_run (v := .slice (some ⟨g, 0, none⟩) n c) (wanted_none rfl) (exec_move rfl rfl) ?_
        simp only [Act.put, List.setIfInBounds_toArray, List.set_cons_zero, List.set_cons_succ]
        refine wpList_run (v := .int .i64 (i : Int)) (wanted_none rfl) (exec_move rfl rfl) ?_
        simp only [Act.put, List.setIfInBounds_toArray, List.set_cons_zero, List.set_cons_succ]
        refine wpList_run (v := .agg (fldA e)) (wanted_none rfl) (gx_loads_g rfl rfl (blk_range_g HBx7.out) Tryz.underlying53 rfl (by rw [size_fd]; rfl)) ?_
        simp only [Act.put, List.setIfInBounds_toArray, List.set_cons_zero, List.set_cons_succ]
        refine wpList_run (v := .pointer (some ⟨g, i * 2, none⟩)) (wanted_none rfl) (gx_iaddr (i := i) (sz := 2) rfl rfl rfl Tryz.underlying47 size_fd HIN.out (by omega)) ?_
        simp only [Act.put, List.setIfInBounds_toArray, List.set_cons_zero, List.set_cons_succ]
        refine wpList_store_mid rfl 53 (.tmp 33) (.tmp 32) rfl (fldA e) HCUR.out rfl rfl (by rw [HCS.out]; have := HIN.out; have := HNC.out; show i * 2 + 2 ≤ c * 2; omega) (by rw [size_fd]; rfl) (fldA_one9 _) ?_
        intro w8 C8 hb8 hs8 hc8 ht8
        have ho8 := orw_set HO7.out HCUR.out hb8 hs8 HIN.out (r := fldC e) rfl (fldC_one e) (fun q => by rw [hc8, fld_at]; rfl) (by decide)
        rw [fmap_set] at ho8
        have HO8 := Lib.hid ho8
        have HT8w := Lib.hid (HT7w.out.trans ht8 fun _ _ e => e)
        clear hb8 hs8 hc8 ht8 ho8
        simp only [Act.put, List.setIfInBounds_toArray, List.set_cons_zero, List.set_cons_succ]
        go_upto_region 10 with fail
        refine wp_region_lit ?_
        refine wpList_run (v := .int .i64 (i : Int)) (wanted_none rfl) (exec_move rfl rfl) ?_
        simp only [Act.put, List.setIfInBounds_toArray, List.set_cons_zero, List.set_cons_succ]
        refine wpList_run (v := .int .i64 ((i + 1 : Nat) : Int)) (wanted_none rfl) (ix_add rfl rfl rfl (by omega) (by omega)) ?_
        simp only [Act.put, List.setIfInBounds_toArray, List.set_cons_zero, List.set_cons_succ]
        refine wpList_run (v := .int .i64 ((i + 1 : Nat) : Int)) (wanted_none rfl) (gx_assign rfl rfl) ?_
        simp only [Act.put, List.setIfInBounds_toArray, List.set_cons_zero, List.set_cons_succ]
        go_upto_region 6 with fail
        refine wp_region_lit ?_
        refine wpList_run (v := .int .i64 (j : Int)) (wanted_none rfl) (exec_move rfl rfl) ?_
        simp only [Act.put, List.setIfInBounds_toArray, List.set_cons_zero, List.set_cons_succ]
        refine wpList_run (v := .int .i64 ((j + 1 : Nat) : Int)) (wanted_none rfl) (ix_add rfl rfl rfl (by omega) (by omega)) ?_
        simp only [Act.put, List.setIfInBounds_toArray, List.set_cons_zero, List.set_cons_succ]
        refine wpList_run (v := .int .i64 ((j + 1 : Nat) : Int)) (wanted_none rfl) (gx_assign rfl rfl) ?_
        simp only [Act.put, List.setIfInBounds_toArray, List.set_cons_zero, List.set_cons_succ]
        go_wp2_with fail
        go_roundg (n + i0 + 1 - (j + 1))
        case measure => have := HGK.out; have := HLT.out; omega
        case rel => exact ⟨i + 1, j + 1, R.set i e, rfl, rfl, by have := HLT.out; omega, HDR.out.take HEJ.out HZ.out, HO8.out, HT8w.out⟩
    · obtain rfl : j = n := by omega
      have hdz : FDelR es R i es.length := by rw [HLEN.out]; exact HDR.out
      have HIL := Lib.hid hdz.ilen
      have HRE := Lib.hid hdz.end_
      have HIN := Lib.hid (show i < j from by omega)
      obtain ⟨cur, hcur⟩ := HOR.out.own_blk rfl
      obtain ⟨cur0, hc0, hc1, _⟩ := orw_block HOR.out
      obtain rfl := hc0.inj hcur
      obtain ⟨w8, hrun, ht8, cur8, hb8, hs8, htk8⟩ := run_clearK elmF zero_fdV (by decide) (ty := 0) (o := 0 + i * 2) (n := j - i) (c := c - i) hcur (by rw [hc1]; have := HNC.out; omega)
      have hop := orw_pre HOR.out (e := i) (by have := HIN.out; omega)
      rw [← List.map_take, HRE.out] at hop
      have hoz := hop.cleared hcur hb8 hs8 (o := 0 + i * 2) (by omega) htk8
      have HRUN := Lib.hid hrun
      have HOZ := Lib.hid hoz
      have HTZ := Lib.hid (HTR.out.trans ht8 fun _ _ e => e)
      clear hlt hjn hij hdz hcur hc0 hc1 hrun ht8 hb8 hs8 htk8 hop hoz
      go_upto_region 5 with fail
      refine wp_region_lit ?_
      refine wpList_run (v := .int .i64 (j : Int)) (wanted_none rfl) (exec_move rfl rfl) ?_
      simp only [Act.put, List.setIfInBounds_toArray, List.set_cons_zero, List.set_cons_succ]
      refine wpList_run (v := .slice (some ⟨g, 0, none⟩) j c) (wanted_none rfl) (exec_move rfl rfl) ?_
      simp only [Act.put, List.setIfInBounds_toArray, List.set_cons_zero, List.set_cons_succ]
      refine wpList_run (v := .int .i64 (j : Int)) (wanted_none rfl) (gx_len rfl rfl Tryz.underlying47) ?_
      simp only [Act.put, List.setIfInBounds_toArray, List.set_cons_zero, List.set_cons_succ]
      refine wpList_run (v := .bool false) (wanted_none rfl) (ix_lss rfl rfl rfl (by simp)) ?_
      simp only [Act.put, List.setIfInBounds_toArray, List.set_cons_zero, List.set_cons_succ]
      go_upto_region 11 with fail
      refine wp_region_lit ?_
      refine wpList_run (v := .slice (some ⟨g, 0, none⟩) j c) (wanted_none rfl) (exec_move rfl rfl) ?_
      simp only [Act.put, List.setIfInBounds_toArray, List.set_cons_zero, List.set_cons_succ]
      refine wpList_run (v := .int .i64 (i : Int)) (wanted_none rfl) (exec_move rfl rfl) ?_
      simp only [Act.put, List.setIfInBounds_toArray, List.set_cons_zero, List.set_cons_succ]
      refine wpList_run (v := .slice (some ⟨g, 0 + i * 2, none⟩) (j - i) (c - i)) (wanted_none rfl) (exec_slice rfl rfl rfl rfl rfl (by rw [← fromK_at (k := 2) (g := g) (o := 0) (c := c) (d := i) (by have := HIN.out; have := HNC.out; omega)]; exact sl_from elmF _ j c i (by have := HIN.out; omega) HNC.out _)) ?_
      simp only [Act.put, List.setIfInBounds_toArray, List.set_cons_zero, List.set_cons_succ]
      refine wpList_run (v := .tuple #[]) (w' := w8) (wanted_none rfl) (exec_clear rfl rfl HRUN.out) ?_
      simp only [Act.put, List.setIfInBounds_toArray, List.set_cons_zero, List.set_cons_succ]
      go_upto_region 12 with fail
      refine wp_region_lit ?_
      refine wpList_run (v := .slice (some ⟨g, 0, none⟩) j c) (wanted_none rfl) (exec_move rfl rfl) ?_
      simp only [Act.put, List.setIfInBounds_toArray, List.set_cons_zero, List.set_cons_succ]
      refine wpList_run (v := .int .i64 (i : Int)) (wanted_none rfl) (exec_move rfl rfl) ?_
      simp only [Act.put, List.setIfInBounds_toArray, List.set_cons_zero, List.set_cons_succ]
      refine wpList_run (v := .slice (some ⟨g, 0, none⟩) i c) (wanted_none rfl) (exec_slice rfl rfl rfl rfl rfl (sl_to elmF _ j c i (by have := HIN.out; have := HNC.out; omega) _)) ?_
      simp only [Act.put, List.setIfInBounds_toArray, List.set_cons_zero, List.set_cons_succ]
      refine wpList_run (v := .slice (some ⟨g, 0, none⟩) i c) (wanted_none rfl) (gx_assign rfl rfl) ?_
      simp only [Act.put, List.setIfInBounds_toArray, List.set_cons_zero, List.set_cons_succ]
      go_wp2_with fail
      go_ret
      rw [← HIL.out]
      exact ⟨rfl, HOZ.out, HTZ.out⟩
end Go.Proofs.YtfnillibngijaaaGreatDoor
