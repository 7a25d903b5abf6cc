/-
  Texts in one file. Conditions: the tables and the errors read as laid.
-/
import Derived.Test.YtkagijifkpoplaaGreatDoorJT14
import Derived.Test.YtkagijifkpoplaaGreatDoorJT13
import Derived.Lib.ItoaMem
import Derived.Lib.AppendIntMem
import Derived.Lib.SmallJoins
import Derived.Lib.LaidTab
import Derived.Test.YtkagijifkpoplaaGreatDoorJT0
import Derived.Test.YtkagijifkpoplaaGreatDoorJT1
set_option linter.unusedVariables false
set_option linter.unusedSimpArgs false
set_option maxRecDepth 40000
set_option maxHeartbeats 20000000
namespace Go.Proofs.YtkagijifkpoplaaGreatDoor
open Go.RowKit
open Fdd
theorem wpList_op {P : Program} {ops : Array Oper} {rest : List Oper} {o : Oper} {a : Act} {w : World} {Q : Exit → Act → World → Prop} (hgd : Region.wanted o (yielded ops a.tmps) = true) (h : ∀ K : Act → World → Prop, Hid (∀ a' w', wpList P ops Q rest a' w' → K a' w') → o.wp P a w K Q) : wpList P ops Q (o :: rest) a w :=
 wpList_step fun K hK => by
  rw [if_pos hgd]
  exact h K (zH hK)
theorem size_field : (Tryz.prog.info? 38).map (·.size) = some 2 := by kernel_rfl
theorem zero_field (w : World) : (zeroValue 38).run Tryz.prog w = .ok (.agg #[.int .i64 0, strV []]) w := by kernel_rfl
def fldA (f : Fld) : Array Value := #[.int .i64 f.1, strV f.2]
theorem fldA_one (f : Fld) : ∀ v ∈ (fldA f).toList, v.oneCell' = true := fun v hv => by
 unfold fldA at hv
 simp only [List.mem_cons, List.not_mem_nil, or_false] at hv
 rcases hv with rfl | rfl <;> rfl
def Fl (w : World) (A : Option Addr) (n : Nat) (fs : List Fld) : Prop := fs.length = n ∧ n ≤ 140737488355328 ∧ (0 < n → ∃ b off, A = some ⟨b, off, none⟩ ∧ ∀ i f, fs[i]? = some f → w.rangeAt b (off + i * 2) (fldA f).toList)
theorem Fl.still {w w' : World} {A : Option Addr} {n : Nat} {fs : List Fld} (h : Fl w A n fs) (ht : Turn nowhere w w') : Fl w' A n fs := by
 obtain ⟨h1, h2, h3⟩ := h
 refine ⟨h1, h2, fun hp => ?_⟩
 obtain ⟨b, off, e, hc⟩ := h3 hp
 exact ⟨b, off, e, fun i f hf j v hv => (ht.cell (World.block_lt_of_cell? _ _ (hc i f hf j v hv)) (fun e => e)).trans (hc i f hf j v hv)⟩
theorem half1_snoc (l : List Fld) (f : Fld) : half1 (l ++ [f]) = if f.1 ≤ 64 then half1 l ||| 2 ^ (64 - f.1.toNat) else half1 l := by
 unfold half1
 rw [List.foldl_append]
 rfl
theorem half2_snoc (l : List Fld) (f : Fld) : half2 (l ++ [f]) = if f.1 ≤ 64 then half2 l else half2 l ||| 2 ^ (128 - f.1.toNat) := by
 unfold half2
 rw [List.foldl_append]
 rfl
theorem take_snoc {fs : List Fld} {j : Nat} {f : Fld} (h : fs[j]? = some f) : fs.take (j + 1) = fs.take j ++ [f] := by
 rw [List.take_add_one, h]
 rfl
theorem pow_lt64 {m : Nat} (h : m < 64) : 2 ^ m < 2 ^ 64 := Nat.pow_lt_pow_right (by decide) h
theorem bit_walk {w : World} {n : Nat} (h : 1 ≤ n ∧ n ≤ 64) : Calls Tryz.prog 111 #[.int .i64 (n : Int)] w fun e w' => e = .returned (.int .u64 ((2 ^ (64 - n) : Nat) : Int)) ∧ w' = w := by
 have H := zH h
 clear h
 go_enter Tryz.func111, Tryz.ntmps111
 go_upto_region 1 with fail
 refine wp_region_lit ?_
 refine wM (.int .i64 (n : Int)) ?_;simp only [zz];refine wS (.int .i64 ((64 - n : Nat) : Int)) (ix_sub rfl rfl rfl (by have := H.out; omega) (by have := H.out; omega)) ?_;simp only [zz];refine wS (.int .u64 ((2 ^ (64 - n) : Nat) : Int)) (ux_shl1 rfl rfl (by have := H.out; omega)) ?_;simp only [zz];refine wA (.int .u64 ((2 ^ (64 - n) : Nat) : Int)) ?_;simp only [zz]
 obtain ⟨q, hq⟩ : ∃ q, q = 2 ^ (64 - n) := ⟨_, rfl⟩
 rw [← hq]
 have HQ := zH hq
 clear hq
 go_wp2_with fail
 go_ret
 exact ⟨ret_int (by rw [HQ.out]), rfl⟩
theorem bitsText_walk {w : World} {u : Nat} (hu : u < 2 ^ 64) (hz : ZerT w) :
 Calls Tryz.prog 112 #[.int .u64 (u : Int)] w fun e w' => e = .returned (strV (hexk 16 u)) ∧ Turn nowhere w w' := by
 have HF := zH (fuint_walk hu hz)
 clear hu hz
 go_enter Tryz.func112, Tryz.ntmps112
 go_upto_region 2 with (go_at_call 133; refine HF.out.mono ?_; rintro e w1 ⟨⟨k, h1, h2, h3, rfl⟩, ht⟩)
 have HT := zH ht
 have HK := zH h2
 have HE := zH (show hexk 16 u = List.replicate (16 - k) 48 ++ hexk k u from by rw [← hexk_pad (16 - k) k u h3, show 16 - k + k = 16 from by omega])
 have HL := zH (hexk_len k u)
 clear h1 h2 h3 ht HF
 generalize hexk k u = dg at *
 refine wp_region_lit ?_
 refine wM (strV dg) ?_;simp only [zz];refine wS (.int .i64 (dg.length : Int)) (exec_slen rfl rfl) ?_;simp only [zz];refine wS (.int .i64 ((16 - k : Nat) : Int)) (ix_sub rfl rfl rfl (by have := HK.out; have := HL.out; omega) (by have := HK.out; omega)) ?_;simp only [zz]
 obtain ⟨m, hm⟩ : ∃ m, m = 16 - k := ⟨_, rfl⟩
 rw [← hm]
 have HM := zH hm
 clear hm
 have hrep : Calls Tryz.prog 110 #[.string ⟨#[48]⟩, .int .i64 (m : Int)] w1 fun e w' => e = .returned (strV (List.replicate m 48)) ∧ Below w1.heap.size w1 w' := by
  have h := Any.strings_Repeat Tryz.lays105 Tryz.Builder_Extra_105 ⟨#[48]⟩ m w1 (by have := HM.out; omega) (by have := HM.out; rw [show (ByteArray.mk #[48]).size = 1 from rfl]; omega)
  rw [show (ByteArray.mk #[48]).data.toList = [48] from rfl, repeat_one] at h
  exact h
 go_wp2_with (first
  | (go_at_call 110; refine hrep.mono ?_; rintro e w2 ⟨rfl, hb⟩)
  | (refine wR (v := strV (List.replicate m 48 ++ dg)) (w' := w2) rfl (exec_sadd (l := List.replicate m 48) (m := dg) rfl rfl rfl (by have := HM.out; have := HK.out; have := HL.out; rw [List.length_replicate]; omega)) ?_))
 go_ret
 rw [HE.out, ← HM.out]
 exact ⟨rfl, HT.out.next (Turn.of_below hb (Nat.le_refl _))⟩
def Ss (w : World) (g : Nat) (l : List (List UInt8)) : Prop := ∃ C t, Blk w g t C ∧ ∀ (i : Nat) (s : List UInt8), l[i]? = some s → C[i]? = some (strV s)
theorem build_s1 (s : List UInt8) (W : World) : (Instr.buildSlice 143 1 #[(0, strV s)]).run Tryz.prog W = .ok (.slice (some ⟨W.heap.size, 0, none⟩) 1 1) (W.alloc (.cells #[strV s] 9)) := by kernel_rfl
theorem build_s2 (s t : List UInt8) (W : World) : (Instr.buildSlice 143 2 #[(0, strV s), (1, strV t)]).run Tryz.prog W = .ok (.slice (some ⟨W.heap.size, 0, none⟩) 2 2) (W.alloc (.cells #[strV s, strV t] 9)) := by kernel_rfl
theorem exec_buildSlice2 {P : Program} {a : Act} {o : Oper} {W : World} {t : TypeId} {x y : Operand} {u u' v : Value} {W' : World} (ho : o.op = .buildSlice t 2 #[(0, x), (1, y)]) (hx : a.eval x = u) (hy : a.eval y = u') (h : (Instr.buildSlice t 2 #[(0, u), (1, u')]).run P W = .ok v W') : (execOp a.eval o).run P W = .ok (.value v) W' := by
 unfold execOp
 simp only [ho, List.map_toArray, List.map_cons, List.map_nil, hx, hy, h, Sem.run_bind, Sem.run_pure, Result.andThen_ok]
theorem mapTexts_walk {w : World} {A : Option Addr} {n c : Nat} {fs : List Fld} (hf : Fl w A n fs) (hz : ZerT w) (hn : ∀ f ∈ fs, 2 ≤ f.1 ∧ f.1 ≤ 97) :
 Calls Tryz.prog 86 #[.slice A n c] w fun e w' => ∃ g c', e = .returned (.slice (some ⟨g, 0, none⟩) (halves fs).length c') ∧ Ss w' g (halves fs) ∧ Turn nowhere w w' := by
 have HF := zH hf
 have HZ := zH hz
 have HN := zH hn
 have HNL : Hid (fs.length = n) := zH hf.1
 have HNM : Hid (n ≤ 140737488355328) := zH hf.2.1
 have y9 : (n : Int) ≤ 140737488355328 := by
  have := HNM.out
  omega
 clear hf hz hn
 go_enter Tryz.func86, Tryz.ntmps86
 go_wp2_with fail
 go_loopg [3, 4, 9] n (fun gk av bv jv wr => ∃ j : Nat, j + gk = n ∧ jv = .int .i64 (j : Int) ∧ av = .int .u64 ((half1 (fs.take j) : Nat) : Int) ∧ bv = .int .u64 ((half2 (fs.take j) : Nat) : Int) ∧ Turn nowhere w wr)
 case atStart => exact ⟨0, by omega, rfl, rfl, rfl, Turn.refl _ _⟩
 obtain ⟨j, hjl, rfl, rfl, rfl, htr⟩ := hrel
 have HJL := zH hjl
 have HTR := zH htr
 clear hjl htr
 by_cases hlt : j < n
 ·have y1 : (j : Int) < (n : Int) := by omega
  have HLT := zH hlt
  obtain ⟨f, hff⟩ : ∃ f, fs[j]? = some f := ⟨_, List.getElem?_eq_getElem (show j < fs.length from by rw [HNL.out]; exact hlt)⟩
  obtain ⟨bF, oF, rfl, hrow⟩ := HF.out.2.2 (by omega)
  have HRR := zH (show wr.rangeAt bF (oF + j * 2) (fldA f).toList from fun i v hv => (HTR.out.cell (World.block_lt_of_cell? _ _ (hrow j f hff i v hv)) (fun e => e)).trans (hrow j f hff i v hv))
  have HFN := zH (HN.out f (List.mem_of_getElem? hff))
  have HT1 := zH (half1_snoc (fs.take j) f)
  have HT2 := zH (half2_snoc (fs.take j) f)
  have HTS := zH (take_snoc hff)
  have HL1 := zH (Nat.lt_trans (half1_lt (fs := fs.take j) (fun f hf => HN.out f (List.mem_of_mem_take hf))) (by decide : 2 ^ 63 < 2 ^ 64))
  have HL2 := zH (half2_lt (fs := fs.take j) (fun f hf => HN.out f (List.mem_of_mem_take hf)))
  obtain ⟨no, hno⟩ : ∃ no : Nat, f.1 = (no : Int) := ⟨f.1.toNat, by have := HFN.out; omega⟩
  have HNO := zH hno
  clear hlt hff hrow hno
  go_upto_region 4 with fail
  refine wp_region_lit ?_
  refine wS (.pointer (some ⟨bF, oF + j * 2, none⟩)) (gx_iaddr (i := j) (sz := 2) rfl rfl rfl Tryz.underlying27 size_field HLT.out (by omega)) ?_;simp only [zz];refine wS (.agg (fldA f)) (gx_loads rfl rfl HRR.out Tryz.underlying38 rfl (by rw [size_field]; rfl)) ?_;simp only [zz]
  refine wR (v := .pointer (some ⟨wr.heap.size, 0, none⟩)) (w' := wr.alloc (.cells #[.int .i64 0, strV []] 38)) rfl (gx_alloc rfl (zero_field _)) ?_
  simp only [zz]
  have hb7 := Blk.new wr 38 #[.int .i64 0, strV []]
  have hu7 := HTR.out.alloc (.cells #[.int .i64 0, strV []] 38)
  obtain ⟨g7, hg7⟩ : ∃ g7, g7 = wr.heap.size := ⟨_, rfl⟩
  rw [← hg7] at hb7 ⊢
  have HG7 := zH (show w.heap.size ≤ g7 from by rw [hg7]; exact HTR.out.size)
  clear hg7
  generalize wr.alloc (.cells #[.int .i64 0, strV []] 38) = w2 at *
  refine wpList_store_row rfl 38 (.tmp 6) (.tmp 12) rfl (fldA f) hb7 rfl rfl rfl (by rw [size_field]; rfl) (fldA_one f) ?_
  intro w3 hb3 hu3
  have HB7 := zH hb3
  have HU3 := zH (hu7.trans hu3 (fun k hk e => by
   have := HG7.out
   have e : k = g7 := e
   omega))
  clear hb7 hu7 hb3 hu3 HRR
  simp only [zz]
  have c0 : w3.cell? ⟨g7, 0, none⟩ = some (.int .i64 (no : Int)) := by
   have := HB7.out.cell 0
   rw [this]
   show some (Value.int .i64 f.1) = _
   rw [HNO.out]
  generalize hq1 : half1 (fs.take j) = q1 at *
  generalize hq2 : half2 (fs.take j) = q2 at *
  have HQ1 := zH hq1
  have HQ2 := zH hq2
  clear hq1 hq2
  go_upto_region 5 with fail
  refine wp_region_lit ?_
  refine wS (.pointer (some ⟨g7, 0, none⟩)) (xF 0 0) ?_;simp only [zz];refine wS (.int .i64 (no : Int)) (exec_load1 rfl rfl (by kernel_rfl) c0) ?_;simp only [zz]
  by_cases h64 : no ≤ 64
  ·have H64 := zH h64
   refine wS (.bool true) (ix_leq rfl rfl rfl (decide_eq_true (by omega))) ?_;simp only [zz]
   clear h64
   go_upto_region 6 with fail
   refine wp_region_lit ?_
   refine wM (.int .u64 (q1 : Int)) ?_;simp only [zz];refine wS (.pointer (some ⟨g7, 0, none⟩)) (xF 0 0) ?_;simp only [zz];refine wS (.int .i64 (no : Int)) (exec_load1 rfl rfl (by kernel_rfl) c0) ?_;simp only [zz]
   go_wp2_with (first
    | (go_at_call 111; refine (bit_walk (n := no) (by have := H64.out; have := HFN.out; have := HNO.out; omega)).mono ?_; rintro e w4 ⟨rfl, rfl⟩)
    | (refine wR (v := .int .u64 ((q1 ||| 2 ^ (64 - no) : Nat) : Int)) rfl (ux_or rfl rfl rfl HL1.out (pow_lt64 (by have := HFN.out; have := HNO.out; omega)) rfl) ?_))
   go_roundg (gk - 1)
   case measure => have := HJL.out; have := HLT.out; omega
   case rel => exact ⟨j + 1, by have := HJL.out; have := HLT.out; omega, by go_num, by rw [HTS.out, HT1.out, if_pos (by have := H64.out; have := HNO.out; omega), HNO.out]; rfl, by rw [HTS.out, HT2.out, if_pos (by have := H64.out; have := HNO.out; omega)], HU3.out⟩
  ·have H64 := zH h64
   refine wS (.bool false) (ix_leq rfl rfl rfl (decide_eq_false (by omega))) ?_;simp only [zz]
   clear h64
   go_upto_region 7 with fail
   refine wp_region_lit ?_
   refine wM (.int .u64 (q2 : Int)) ?_;simp only [zz];refine wS (.pointer (some ⟨g7, 0, none⟩)) (xF 0 0) ?_;simp only [zz];refine wS (.int .i64 (no : Int)) (exec_load1 rfl rfl (by kernel_rfl) c0) ?_;simp only [zz];refine wS (.int .i64 ((no - 64 : Nat) : Int)) (ix_sub rfl rfl rfl (by have := H64.out; omega) (by have := HFN.out; have := HNO.out; omega)) ?_;simp only [zz]
   go_wp2_with (first
    | (go_at_call 111; refine (bit_walk (n := no - 64) (by have := H64.out; have := HFN.out; have := HNO.out; omega)).mono ?_; rintro e w4 ⟨rfl, rfl⟩)
    | (refine wR (v := .int .u64 ((q2 ||| 2 ^ (64 - (no - 64)) : Nat) : Int)) rfl (ux_or rfl rfl rfl HL2.out (pow_lt64 (by have := H64.out; omega)) rfl) ?_))
   go_roundg (gk - 1)
   case measure => have := HJL.out; have := HLT.out; omega
   case rel => exact ⟨j + 1, by have := HJL.out; have := HLT.out; omega, by go_num, by rw [HTS.out, HT1.out, if_neg (by have := H64.out; have := HNO.out; omega)], by rw [HTS.out, HT2.out, if_neg (by have := H64.out; have := HNO.out; omega), HNO.out, show 64 - (no - 64) = 128 - ((no : Int)).toNat from by have := H64.out; have := HFN.out; have := HNO.out; omega], HU3.out⟩
 ·have y1 : ¬ ((j : Int) < (n : Int)) := by omega
  have HE := zH (show fs.take j = fs from List.take_of_length_le (by rw [HNL.out]; omega))
  have HL1 := zH (half1_lt HN.out)
  have HL2 := zH (half2_lt HN.out)
  clear hlt y9
  rw [HE.out]
  obtain ⟨q1, hq1⟩ : ∃ q1, q1 = half1 fs := ⟨_, rfl⟩
  obtain ⟨q2, hq2⟩ : ∃ q2, q2 = half2 fs := ⟨_, rfl⟩
  rw [← hq1, ← hq2]
  rw [← hq1] at HL1
  rw [← hq2] at HL2
  have HB1 := zH (bitsText_walk (w := wr) (Nat.lt_trans HL1.out (by decide : 2 ^ 63 < 2 ^ 64)) (HZ.out.turn HTR.out))
  by_cases h0 : q2 = 0
  ·have HH := zH (show halves fs = [hexk 16 q1] from by
    unfold halves
    rw [← hq2, h0, if_pos rfl, ← hq1])
   have y2 : (q2 : Int) = 0 := by omega
   clear hq1 hq2 h0
   obtain ⟨x1, hx1⟩ : ∃ x1, x1 = hexk 16 q1 := ⟨_, rfl⟩
   rw [← hx1] at HB1 HH
   clear hx1
   go_upto_region 10 with fail
   refine wp_region_lit ?_
   refine wM (.int .u64 (q1 : Int)) ?_;simp only [zz]
   refine wpList_op rfl fun K9 HK9 => ?_
   go_wp2_with fail
   refine (HB1.out).mono ?_
   rintro e w4 ⟨rfl, ht4⟩
   refine HK9.out _ _ ?_
   clear HK9
   try simp only [zz]
   refine wR (v := .slice (some ⟨w4.heap.size, 0, none⟩) 1 1) (w' := w4.alloc (.cells #[strV x1] 9)) rfl (exec_buildSlice1 rfl rfl (build_s1 _ _)) ?_
   simp only [zz]
   go_wp2_with fail
   go_ret
   rw [HH.out]
   exact ⟨_, _, rfl, ⟨_, _, Blk.new _ _ _, fun i s h => by
    match i, h with
    | 0, h => injection h with h; subst h; rfl
    | i + 1, h => simp at h⟩, (HTR.out.next ht4).alloc _⟩
  ·have HH := zH (show halves fs = [hexk 16 (q1 ||| 2 ^ 63), hexk 16 q2] from by
    unfold halves
    rw [← hq2, if_neg h0, ← hq1])
   have y2 : ¬ ((q2 : Int) = 0) := by omega
   have HO := zH (or_top HL1.out).2.2
   clear hq1 hq2 h0
   obtain ⟨qo, hqo⟩ : ∃ qo, qo = q1 ||| 2 ^ 63 := ⟨_, rfl⟩
   have HQO := zH hqo
   rw [← hqo] at HH HO
   have HBT := zH (bitsText_walk (w := wr) HO.out (HZ.out.turn HTR.out))
   have HBU := zH (fun W (ht : Turn nowhere w W) => bitsText_walk (w := W) HL2.out (HZ.out.turn ht))
   obtain ⟨x1, hx1⟩ : ∃ x1, x1 = hexk 16 qo := ⟨_, rfl⟩
   obtain ⟨x2, hx2⟩ : ∃ x2, x2 = hexk 16 q2 := ⟨_, rfl⟩
   rw [← hx1] at HBT HH
   rw [← hx2] at HBU HH
   clear hqo hx1 hx2 HB1
   go_upto_region 11 with fail
   refine wp_region_lit ?_
   refine wM (.int .u64 (q1 : Int)) ?_;simp only [zz]
   refine wpList_op rfl fun K9 HK9 => ?_
   go_wp2_with fail
   refine (bit_walk (n := 1) (by decide)).mono ?_
   rintro e w4 ⟨rfl, rfl⟩
   refine HK9.out _ _ ?_
   clear HK9
   try simp only [zz]
   refine wS (.int .u64 (qo : Int)) (ux_or (m := 2 ^ 63) rfl rfl rfl (Nat.lt_trans HL1.out (by decide : 2 ^ 63 < 2 ^ 64)) (by decide) HQO.out.symm) ?_;simp only [zz]
   refine wpList_op rfl fun K9 HK9 => ?_
   go_wp2_with fail
   refine (HBT.out).mono ?_
   rintro e w5 ⟨rfl, ht5⟩
   refine HK9.out _ _ ?_
   clear HK9
   try simp only [zz]
   refine wM (.int .u64 (q2 : Int)) ?_;simp only [zz]
   refine wpList_op rfl fun K9 HK9 => ?_
   go_wp2_with fail
   refine (HBU.out _ (HTR.out.next ht5)).mono ?_
   rintro e w6 ⟨rfl, ht6⟩
   refine HK9.out _ _ ?_
   clear HK9
   try simp only [zz]
   refine wR (v := .slice (some ⟨w6.heap.size, 0, none⟩) 2 2) (w' := w6.alloc (.cells #[strV x1, strV x2] 9)) rfl (exec_buildSlice2 rfl rfl rfl (build_s2 _ _ _)) ?_
   simp only [zz]
   go_wp2_with fail
   go_ret
   rw [HH.out]
   exact ⟨_, _, rfl, ⟨_, _, Blk.new _ _ _, fun i s h => by
    match i, h with
    | 0, h => injection h with h; subst h; rfl
    | 1, h => injection h with h; subst h; rfl
    | i + 2, h => simp at h⟩, ((HTR.out.next ht5).next ht6).alloc _⟩
def badV (s : Sents) (no k : Int) : Value := if k = 52 then feV no s.field else if k = 41 then feV no s.text else .nilIface
def checkFsV (s : Sents) : Int → List Fld → Value
 | _, [] => .nilIface
 | last, f :: r => if fieldBad last f = 0 then checkFsV s f.1 r else badV s f.1 (fieldBad last f)
def checkV (s : Sents) (ty : Int) (fs : List Fld) : Value := if mtypes.contains ty = false then errS s.type_ else if 24 < fs.length then errS s.long else checkFsV s 0 fs
theorem bad_cases (last : Int) (f : Fld) : fieldBad last f = 0 ∨ fieldBad last f = 52 ∨ fieldBad last f = 41 := by
 unfold fieldBad
 split
 ·exact .inr (.inl rfl)
 ·split
  ·exact .inr (.inl rfl)
  ·split
   ·exact .inl rfl
   ·exact .inr (.inr rfl)
theorem checkFsV_ok (s : Sents) : ∀ (fs : List Fld) (last : Int), ErrV s (checkFsV s last fs) (checkFs last fs)
 | [], last => ErrV.nil
 | f :: r, last => by
   unfold checkFsV checkFs
   rcases bad_cases last f with h | h | h
   ·rw [if_pos h, if_pos h]
    exact checkFsV_ok s r f.1
   ·rw [if_neg (by omega), if_neg (by omega), h]
    exact ErrV.field f.1
   ·rw [if_neg (by omega), if_neg (by omega), h]
    exact ErrV.text f.1
theorem checkV_ok (s : Sents) (ty : Int) (fs : List Fld) : ErrV s (checkV s ty fs) (mcheck ty fs) := by
 unfold checkV mcheck
 split
 ·exact ErrV.type_
 ·split
  ·exact ErrV.long
  ·exact checkFsV_ok s fs 0
theorem check_at {s : Sents} {fs : List Fld} {last : Int} {j : Nat} {f : Fld} (hf : fs[j]? = some f) (h : checkFsV s last (fs.drop j) = checkFsV s 0 fs) : (fieldBad last f = 0 → checkFsV s f.1 (fs.drop (j + 1)) = checkFsV s 0 fs) ∧ (fieldBad last f ≠ 0 → checkFsV s 0 fs = badV s f.1 (fieldBad last f)) := by
 obtain ⟨hj, hfj⟩ := List.getElem?_eq_some_iff.1 hf
 have hd : fs.drop j = f :: fs.drop (j + 1) := by rw [← hfj]; exact List.drop_eq_getElem_cons hj
 have he : checkFsV s last (f :: fs.drop (j + 1)) = if fieldBad last f = 0 then checkFsV s f.1 (fs.drop (j + 1)) else badV s f.1 (fieldBad last f) := rfl
 rw [hd, he] at h
 refine ⟨fun h0 => ?_, fun h0 => ?_⟩
 ·rw [if_pos h0] at h
  exact h
 ·rw [if_neg h0] at h
  exact h.symm
def msgV (ty : Int) (A : Option Addr) (n c : Nat) : Value := .agg #[.int .i64 ty, .slice A n c]
theorem mzero_form (w : World) : (zeroValue 105).run Tryz.prog w = .ok (.agg #[.int .i64 0, .int .i64 0, .int .i64 0]) w := by kernel_rfl
theorem check_walk2 {s : Sents} {w : World} {ty : Int} {A : Option Addr} {n c : Nat} {fs : List Fld} (ht : Tab w) (hs : Sen s w) (hr : RowsT w) (hf : Fl w A n fs) :
 Calls Tryz.prog 62 #[msgV ty A n c] w fun e w' => e = .returned (checkV s ty fs) ∧ Turn nowhere w w' := by
 have hu := (Turn.refl nowhere w).alloc (.cells #[.int .i64 ty, .slice A n c] 29)
 have hb := Blk.new w 29 #[.int .i64 ty, .slice A n c]
 obtain ⟨b0, hb0⟩ : ∃ b0, b0 = w.heap.size := ⟨_, rfl⟩
 obtain ⟨w1, hw1⟩ : ∃ w1, w1 = w.alloc (.cells #[.int .i64 ty, .slice A n c] 29) := ⟨_, rfl⟩
 rw [← hw1] at hu hb
 rw [← hb0] at hb
 have HT := zH (ht.turn hu)
 have HS := zH (hs.turn hu)
 have HR := zH (hr.turn hu)
 have HF := zH (hf.still hu)
 have HU := zH hu
 have HB := zH hb
 have HW := zH hw1
 have HB0 := zH hb0
 have HNL : Hid (fs.length = n) := zH hf.1
 have HNM : Hid (n ≤ 140737488355328) := zH hf.2.1
 have y9 : (n : Int) ≤ 140737488355328 := by
  have := HNM.out
  omega
 clear ht hs hr hf hu hb hw1 hb0
 unfold msgV
 go_enter Tryz.func62, Tryz.ntmps62
 go_upto_region 1 with fail
 have e1 := HW.out
 have e2 := HB0.out
 rw [← e1, ← e2]
 clear e1 e2 HW HB0
 have c0 : w1.cell? ⟨b0, 0, none⟩ = some (.int .i64 ty) := HB.out.cell 0
 have c1 : w1.cell? ⟨b0, 1, none⟩ = some (.slice A n c) := HB.out.cell 1
 have g2 : w1.cell? ⟨1, 0, none⟩ = some (errS s.type_) := HS.out.type_.1
 have g3 : w1.cell? ⟨2, 0, none⟩ = some (errS s.long) := HS.out.long.1
 cases hty : mtypes.contains ty with
 | false =>
   have HC := zH (show checkV s ty fs = errS s.type_ from by unfold checkV; rw [if_pos hty])
   have hi := isType_walk (w := w1) (n := ty)
   rw [hty] at hi
   have HI := zH hi
   clear hi hty
   go_upto_region 2 with (go_at_call 81; refine HI.out.mono ?_; rintro e w2 ⟨rfl, rfl⟩)
   go_wp2_with fail
   go_ret
   rw [HC.out]
   exact ⟨rfl, HU.out⟩
 | true =>
   have hi := isType_walk (w := w1) (n := ty)
   rw [hty] at hi
   have HI := zH hi
   have HTY := zH hty
   clear hi hty
   go_upto_region 3 with (go_at_call 81; refine HI.out.mono ?_; rintro e w1 ⟨rfl, rfl⟩)
   by_cases h24 : 24 < n
   ·have HC := zH (show checkV s ty fs = errS s.long from by unfold checkV; rw [if_neg (by rw [HTY.out]; decide), if_pos (by rw [HNL.out]; exact h24)])
    have y1 : (24 : Int) < (n : Int) := by omega
    go_wp2_with fail
    go_ret
    rw [HC.out]
    exact ⟨rfl, HU.out⟩
   ·have HC := zH (show checkV s ty fs = checkFsV s 0 fs from by unfold checkV; rw [if_neg (by rw [HTY.out]; decide), if_neg (by rw [HNL.out]; exact h24)])
    have y1 : ¬ ((24 : Int) < (n : Int)) := by omega
    clear h24 g2 g3
    go_wp2_with fail
    clear c0 c1
    go_loopg [3, 22] n (fun gk lv jv wr => ∃ (j : Nat) (last : Int), j + gk = n ∧ jv = .int .i64 (j : Int) ∧ lv = .int .i64 last ∧ checkFsV s last (fs.drop j) = checkFsV s 0 fs ∧ Turn nowhere w1 wr)
    case atStart => exact ⟨0, 0, by omega, rfl, rfl, rfl, Turn.refl _ _⟩
    obtain ⟨j, last, hjl, rfl, rfl, hck, htr⟩ := hrel
    have HJL := zH hjl
    have HCK := zH hck
    have HTR := zH htr
    clear hjl hck htr
    by_cases hlt : j < n
    ·have y1 : (j : Int) < (n : Int) := by omega
     have HLT := zH hlt
     obtain ⟨f, hff⟩ : ∃ f, fs[j]? = some f := ⟨_, List.getElem?_eq_getElem (show j < fs.length from by rw [HNL.out]; exact hlt)⟩
     obtain ⟨bF, oF, rfl, hrow⟩ := HF.out.2.2 (by omega)
     have HRR := zH (show wr.rangeAt bF (oF + j * 2) (fldA f).toList from fun i v hv => (HTR.out.cell (World.block_lt_of_cell? _ _ (hrow j f hff i v hv)) (fun e => e)).trans (hrow j f hff i v hv))
     have HAT := zH (check_at hff HCK.out)
     clear hlt hff hrow
     go_upto_region 8 with fail
     refine wp_region_lit ?_
     refine wS (.pointer (some ⟨bF, oF + j * 2, none⟩)) (gx_iaddr (i := j) (sz := 2) rfl rfl rfl Tryz.underlying27 size_field HLT.out (by omega)) ?_;simp only [zz];refine wS (.agg (fldA f)) (gx_loads rfl rfl HRR.out Tryz.underlying38 rfl (by rw [size_field]; rfl)) ?_;simp only [zz]
     refine wR (v := .pointer (some ⟨wr.heap.size, 0, none⟩)) (w' := wr.alloc (.cells #[.int .i64 0, strV []] 38)) rfl (gx_alloc rfl (zero_field _)) ?_
     simp only [zz]
     have hb7 := Blk.new wr 38 #[.int .i64 0, strV []]
     have hu7 := HTR.out.alloc (.cells #[.int .i64 0, strV []] 38)
     obtain ⟨g7, hg7⟩ : ∃ g7, g7 = wr.heap.size := ⟨_, rfl⟩
     rw [← hg7] at hb7 ⊢
     have HG7 := zH (show w1.heap.size ≤ g7 from by rw [hg7]; exact HTR.out.size)
     clear hg7
     generalize wr.alloc (.cells #[.int .i64 0, strV []] 38) = w2 at *
     refine wpList_store_row rfl 38 (.tmp 5) (.tmp 25) rfl (fldA f) hb7 rfl rfl rfl (by rw [size_field]; rfl) (fldA_one f) ?_
     intro w3 hb3 hu3
     have HB7 := zH hb3
     have HU3 := zH (hu7.trans hu3 (fun k hk e => by
      have := HG7.out
      have e : k = g7 := e
      omega))
     clear hb7 hu7 hb3 hu3 HRR
     simp only [zz]
     have d0 : w3.cell? ⟨g7, 0, none⟩ = some (.int .i64 f.1) := HB7.out.cell 0
     have HTG := zH (tong_range (HT.out.turn HU3.out) (d := 1) (by decide))
     go_upto_region 9 with fail
     refine wp_region_lit ?_
     refine wS (.pointer (some ⟨6, 1 * 3, none⟩)) (gx_aaddr (i := 1) (off := 0) rfl rfl rfl Tryz.underlying139 size_tongue (by omega) (by omega)) ?_;simp only [zz];refine wS (tongV 1) (gx_loads rfl rfl HTG.out Tryz.underlying112 rfl (by rw [size_tongue]; rfl)) ?_;simp only [zz];refine wS (.pointer (some ⟨g7, 0, none⟩)) (xF 0 0) ?_;simp only [zz];refine wS (.int .i64 f.1) (exec_load1 rfl rfl (by kernel_rfl) d0) ?_;simp only [zz]
     refine wpList_op rfl fun K9 HK9 => ?_
     go_wp2_with fail
     refine (form_walk (s := s) (d := 1) (HT.out.turn HU3.out) (HS.out.turn HU3.out)).mono ?_
     rintro e w4 ⟨rfl, ht4⟩
     refine HK9.out _ _ ?_
     clear HK9
     try simp only [zz]
     have HU4 := zH (HU3.out.next ht4)
     have HB4 := zH (HB7.out.turn ht4 (fun e => e))
     clear ht4 HU3 HB7 d0 HTG
     cases hm : mform 1 f.1 with
     | none =>
       have hfr : formR s 1 f.1 = .tuple #[.agg #[.int .i64 0, .int .i64 0, .int .i64 0], feV f.1 s.field] := by unfold formR; rw [hm]; rfl
       have HBD := zH (show fieldBad last f = 52 from by unfold fieldBad; rw [hm])
       rw [hfr]
       clear hfr hm
       refine wM (.tuple #[.agg #[.int .i64 0, .int .i64 0, .int .i64 0], feV f.1 s.field]) ?_;simp only [zz];refine wE (.agg #[.int .i64 0, .int .i64 0, .int .i64 0]) ?_;simp only [zz];refine wE (feV f.1 s.field) ?_;simp only [zz]
       refine wR (v := .pointer (some ⟨w4.heap.size, 0, none⟩)) (w' := w4.alloc (.cells #[.int .i64 0, .int .i64 0, .int .i64 0] 105)) rfl (gx_alloc rfl (mzero_form _)) ?_
       simp only [zz]
       have hb8 := Blk.new w4 105 #[.int .i64 0, .int .i64 0, .int .i64 0]
       have hu8 := HU4.out.alloc (.cells #[.int .i64 0, .int .i64 0, .int .i64 0] 105)
       have hb78 := HB4.out.alloc (.cells #[.int .i64 0, .int .i64 0, .int .i64 0] 105)
       obtain ⟨g8, hg8⟩ : ∃ g8, g8 = w4.heap.size := ⟨_, rfl⟩
       rw [← hg8] at hb8 ⊢
       have HG8 := zH (show w1.heap.size ≤ g8 from by rw [hg8]; exact HU4.out.size)
       have HN8 := zH (show g7 ≠ g8 from by have := HB4.out.lt; omega)
       clear hg8
       generalize w4.alloc (.cells #[.int .i64 0, .int .i64 0, .int .i64 0] 105) = w5 at *
       refine wpList_store_row rfl 105 (.tmp 6) (.tmp 32) rfl #[.int .i64 0, .int .i64 0, .int .i64 0] hb8 rfl rfl rfl (by rw [size_form]; rfl) (fm3_one _ _ _) ?_
       intro w6 hb6 hu6
       have HB8 := zH hb6
       have HB7 := zH (hb78.turn hu6 (fun e => HN8.out e))
       have HU6 := zH (hu8.trans hu6 (fun k hk e => by
        have := HG8.out
        have e : k = g8 := e
        omega))
       clear hb8 hu8 hb78 hb6 hu6 HB4 HU4
       simp only [zz]
       unfold feV
       go_wp2_with fail
       go_ret
       rw [HC.out, HAT.out.2 (by rw [HBD.out]; decide), HBD.out]
       exact ⟨rfl, HU.out.next HU6.out⟩
     | some m =>
       have hfr : formR s 1 f.1 = .tuple #[fmV m, .nilIface] := by unfold formR; rw [hm]
       rw [hfr]
       clear hfr
       have HM := zH hm
       clear hm
       refine wM (.tuple #[fmV m, .nilIface]) ?_;simp only [zz];refine wE (fmV m) ?_;simp only [zz];refine wE .nilIface ?_;simp only [zz]
       refine wR (v := .pointer (some ⟨w4.heap.size, 0, none⟩)) (w' := w4.alloc (.cells #[.int .i64 0, .int .i64 0, .int .i64 0] 105)) rfl (gx_alloc rfl (mzero_form _)) ?_
       simp only [zz]
       have hb8 := Blk.new w4 105 #[.int .i64 0, .int .i64 0, .int .i64 0]
       have hu8 := HU4.out.alloc (.cells #[.int .i64 0, .int .i64 0, .int .i64 0] 105)
       have hb78 := HB4.out.alloc (.cells #[.int .i64 0, .int .i64 0, .int .i64 0] 105)
       obtain ⟨g8, hg8⟩ : ∃ g8, g8 = w4.heap.size := ⟨_, rfl⟩
       rw [← hg8] at hb8 ⊢
       have HG8 := zH (show w1.heap.size ≤ g8 from by rw [hg8]; exact HU4.out.size)
       have HN8 := zH (show g7 ≠ g8 from by have := HB4.out.lt; omega)
       clear hg8
       generalize w4.alloc (.cells #[.int .i64 0, .int .i64 0, .int .i64 0] 105) = w5 at *
       refine wpList_store_row rfl 105 (.tmp 6) (.tmp 32) rfl #[.int .i64 m.kind, .int .i64 m.size, .int .i64 m.code] hb8 rfl rfl rfl (by rw [size_form]; rfl) (fm3_one _ _ _) ?_
       intro w6 hb6 hu6
       have HB8 := zH hb6
       have HB7 := zH (hb78.turn hu6 (fun e => HN8.out e))
       have HU6 := zH (hu8.trans hu6 (fun k hk e => by
        have := HG8.out
        have e : k = g8 := e
        omega))
       clear hb8 hu8 hb78 hb6 hu6 HB4 HU4
       simp only [zz]
       have d0 : w6.cell? ⟨g7, 0, none⟩ = some (.int .i64 f.1) := HB7.out.cell 0
       go_upto_region 12 with fail
       refine wp_region_lit ?_
       refine wS (.pointer (some ⟨g7, 0, none⟩)) (xF 0 0) ?_;simp only [zz];refine wS (.int .i64 f.1) (exec_load1 rfl rfl (by kernel_rfl) d0) ?_;simp only [zz];refine wM (.int .i64 last) ?_;simp only [zz]
       by_cases hle : f.1 ≤ last
       ·have HBD := zH (show fieldBad last f = 52 from by unfold fieldBad; rw [HM.out]; exact if_pos hle)
        refine wS (.bool true) (ix_leq rfl rfl rfl (decide_eq_true hle)) ?_;simp only [zz]
        clear hle
        have g7c : w6.cell? ⟨7, 0, none⟩ = some (errS s.field) := (HS.out.turn HU6.out).field.1
        have bf := build_fe f.1 (.pointer (some s.field)) w6
        unfold errS at g7c
        go_wp2_with fail
        go_ret
        rw [HC.out, HAT.out.2 (by rw [HBD.out]; decide), HBD.out]
        exact ⟨rfl, HU.out.next HU6.out⟩
       ·have HLE := zH hle
        refine wS (.bool false) (ix_leq rfl rfl rfl (decide_eq_false hle)) ?_;simp only [zz]
        clear hle
        have d1 : w6.cell? ⟨g7, 1, none⟩ = some (strV f.2) := HB7.out.cell 1
        have HBD : Hid (fieldBad last f = if m.check f.2 = 0 then 0 else 41) := zH (by
         unfold fieldBad
         rw [HM.out]
         exact if_neg HLE.out)
        have HCW := zH (check_walk (f := m) (t := f.2) (HR.out.turn HU6.out))
        obtain ⟨k, hk⟩ : ∃ k, k = m.check f.2 := ⟨_, rfl⟩
        rw [← hk] at HBD HCW
        have HK := zH hk
        clear hk
        go_upto_region 14 with fail
        refine wp_region_lit ?_
        refine wS (fmV m) (gx_loads rfl rfl (blk_range HB8.out) Tryz.underlying105 rfl (by rw [size_form]; rfl)) ?_;simp only [zz];refine wS (.pointer (some ⟨g7, 1, none⟩)) (xF 0 1) ?_;simp only [zz];refine wS (strV f.2) (exec_load1 rfl rfl (by kernel_rfl) d1) ?_;simp only [zz]
        refine wpList_op rfl fun K9 HK9 => ?_
        go_wp2_with fail
        refine (HCW.out).mono ?_
        rintro e w7 ⟨rfl, ht7⟩
        refine HK9.out _ _ ?_
        clear HK9
        try simp only [zz]
        have HU7 := zH (HU6.out.next ht7)
        have d2 : w7.cell? ⟨g7, 0, none⟩ = some (.int .i64 f.1) := (HB7.out.turn ht7 (fun e => e)).cell 0
        clear ht7 d0 d1 HU6
        by_cases hk0 : k = 0
        ·subst hk0
         have HB0 := zH (show fieldBad last f = 0 from by rw [HBD.out]; rfl)
         go_wp2_with fail
         go_roundg (gk - 1)
         case measure => have := HJL.out; have := HLT.out; omega
         case rel => exact ⟨j + 1, f.1, by have := HJL.out; have := HLT.out; omega, by go_num, rfl, HAT.out.1 HB0.out, HU7.out⟩
        ·have HK41 := zH (show k = 41 from by
          have h1 := HK.out
          unfold Fm.check at h1
          obtain ⟨k1, s1, rfl, hk1, hs1, _⟩ := form_nf HM.out
          rw [if_pos (may_nf hk1 (by decide) hs1)] at h1
          split at h1
          ·exact absurd h1 hk0
          ·exact h1)
         have HB1 := zH (show fieldBad last f = 41 from by rw [HBD.out, if_neg hk0])
         have y2 : k = 41 := HK41.out
         subst y2
         clear hk0
         go_wp2_with (go_at_call 83; refine (wrap_walk (HS.out.turn HU7.out)).mono ?_; rintro e w8 ⟨rfl, rfl⟩)
         go_ret
         rw [HC.out, HAT.out.2 (by rw [HB1.out]; decide), HB1.out]
         exact ⟨rfl, HU.out.next HU7.out⟩
    ·have y1 : ¬ ((j : Int) < (n : Int)) := by omega
     have HE := zH (show checkFsV s 0 fs = .nilIface from by
      have h := HCK.out
      rw [List.drop_eq_nil_iff.2 (by rw [HNL.out]; omega)] at h
      exact h.symm)
     clear hlt
     go_wp2_with fail
     go_ret
     rw [HC.out, HE.out]
     exact ⟨rfl, HU.out.next HTR.out⟩
namespace Fdd
end Fdd
def PowT (W : World) : Prop := Lib.TabIs Tryz.prog W "internal/strconv.uint64pow10" .u64 Lib.pow10Tab
theorem gPow : Tryz.prog.globalNamed "internal/strconv.uint64pow10" = some 14 := by kernel_rfl
theorem PowT.turn {W W' : World} (h : PowT W) (ht : Turn nowhere W W') : PowT W' := Go.Joins.tab_stays gPow h (ht.below (Nat.le_refl _) (fun _ _ e=>e)) (Nat.le_refl _)
theorem itoa_at {n : Int} {W : World} (h0 : -9223372036854775808 ≤ n) (h1 : n ≤ 9223372036854775807) (h : PowT W) : ItoaAt n W := by
 refine (Any.strconv_Itoa Tryz.laysM171 n h0 h1 W h).mono ?_
 rintro e w' ⟨rfl, k, os, rfl⟩
 exact ⟨rfl, Turn.of_below (Lib.below_grow W.heap.size W (Nat.le_refl _) k os) (Nat.le_refl _)⟩
end Go.Proofs.YtkagijifkpoplaaGreatDoor
namespace Go.Proofs.YtkagijifkpoplaaGreatDoor.Fdd
/-! ### the check -/
def Good (fs : List Fld) : Prop := Rise (fs.map (·.1)) ∧ ∀ f ∈ fs, ∃ m, mform 1 f.1 = some m ∧ m.check f.2 = 0
theorem fieldBad_zero {last : Int} {f : Fld} : fieldBad last f = 0 ↔ last < f.1 ∧ ∃ m, mform 1 f.1 = some m ∧ m.check f.2 = 0 := by
 unfold fieldBad
 cases hm : mform 1 f.1 with
 | none =>
   simp only []
   constructor
   ·intro h; cases h
   ·rintro ⟨_, m, h, _⟩; cases h
 | some m =>
   simp only []
   constructor
   ·intro h
    split at h
    ·cases h
    ·split at h
     ·rename_i h1 h2
      exact ⟨by omega, m, rfl, h2⟩
     ·cases h
   ·rintro ⟨h1, m', h2, h3⟩
    injection h2 with h2
    subst h2
    rw [if_neg (by omega), if_pos h3]
theorem checkFs_iff : ∀ (fs : List Fld) (last : Int), checkFs last fs = 0 ↔ (∀ f ∈ fs, last < f.1) ∧ Good fs
 | [], last => by simp [checkFs, Good, Rise]
 | f :: r, last => by
   unfold checkFs
   constructor
   ·intro h
    by_cases h0 : fieldBad last f = 0
    ·rw [if_pos h0, checkFs_iff r] at h
     obtain ⟨h1, h2, h3⟩ := h
     obtain ⟨a1, a2⟩ := fieldBad_zero.1 h0
     refine ⟨fun x hx => ?_, List.pairwise_cons.2 ⟨fun y hy => ?_, h2⟩, fun x hx => ?_⟩
     ·rcases List.mem_cons.1 hx with rfl | hx
      ·exact a1
      ·have := h1 x hx
       omega
     ·obtain ⟨z, hz, rfl⟩ := List.mem_map.1 hy
      exact h1 z hz
     ·rcases List.mem_cons.1 hx with rfl | hx
      ·exact a2
      ·exact h3 x hx
    ·rw [if_neg h0] at h
     exact absurd h h0
   ·rintro ⟨h1, h2, h3⟩
    obtain ⟨b1, b2⟩ := List.pairwise_cons.1 h2
    rw [if_pos (fieldBad_zero.2 ⟨h1 f (List.mem_cons_self ..), h3 f (List.mem_cons_self ..)⟩), checkFs_iff r]
    exact ⟨fun x hx => b1 _ (List.mem_map.2 ⟨x, hx, rfl⟩), b2, fun x hx => h3 x (List.mem_cons_of_mem _ hx)⟩
theorem good_nos {fs : List Fld} (h : Good fs) : Nos fs := ⟨h.1, fun f hf => by
 obtain ⟨m, h1, _⟩ := h.2 f hf
 obtain ⟨_, _, _, _, _, h2, _⟩ := form_nf h1
 exact h2⟩
theorem mcheck_zero {ty : Int} {fs : List Fld} : mcheck ty fs = 0 ↔ mtypes.contains ty = true ∧ fs.length ≤ 24 ∧ Good fs := by
 unfold mcheck
 constructor
 ·intro h
  split at h
  ·cases h
  ·rename_i h1
   split at h
   ·cases h
   ·rename_i h2
    obtain ⟨_, h3⟩ := (checkFs_iff _ _).1 h
    exact ⟨by cases hc : mtypes.contains ty with | true => rfl | false => exact absurd hc h1, by omega, h3⟩
 ·rintro ⟨h1, h2, h3⟩
  rw [if_neg (by rw [h1]; decide), if_neg (by omega), checkFs_iff]
  exact ⟨fun f hf => by have := (good_nos h3).2 f hf; omega, h3⟩
/-! ### the fields' bytes -/
def Said (d : Nat) (f : Fld) : Prop := ∃ m, mform d f.1 = some m ∧ m.check (say d f) = 0
def sayPut (d : Nat) (f : Fld) : List UInt8 := match mform d f.1 with
 | none => []
 | some m => m.put (say d f)
def body (d : Nat) (fs : List Fld) : List UInt8 := fs.foldr (fun f b => sayPut d f ++ b) []
theorem putFs_iff {d : Nat} : ∀ (fs : List Fld) (b r : List UInt8), putFs d b fs = some r ↔ r = b ++ body d fs ∧ ∀ f ∈ fs, Said d f
 | [], b, r => by
   simp only [putFs, body, List.foldr_nil, List.append_nil]
   constructor
   ·intro h; injection h with h; exact ⟨h.symm, fun _ h => by cases h⟩
   ·rintro ⟨rfl, _⟩; rfl
 | f :: l, b, r => by
   unfold putFs
   have hbody : body d (f :: l) = sayPut d f ++ body d l := rfl
   cases hm : mform d f.1 with
   | none =>
     simp only []
     constructor
     ·intro h; cases h
     ·rintro ⟨_, h⟩
      obtain ⟨m, h1, _⟩ := h f (List.mem_cons_self ..)
      rw [hm] at h1
      cases h1
   | some m =>
     have hs : sayPut d f = m.put (say d f) := by unfold sayPut; rw [hm]
     simp only []
     constructor
     ·intro h
      split at h
      ·rename_i hc
       obtain ⟨h1, h2⟩ := (putFs_iff l _ _).1 h
       refine ⟨by rw [h1, hbody, hs, List.append_assoc], fun x hx => ?_⟩
       rcases List.mem_cons.1 hx with rfl | hx
       ·exact ⟨m, hm, hc⟩
       ·exact h2 x hx
      ·cases h
     ·rintro ⟨h1, h2⟩
      obtain ⟨m', h3, h4⟩ := h2 f (List.mem_cons_self ..)
      rw [hm] at h3
      injection h3 with h3
      subst h3
      rw [if_pos h4, putFs_iff l]
      exact ⟨by rw [h1, hbody, hs, List.append_assoc], fun x hx => h2 x (List.mem_cons_of_mem _ hx)⟩
def Wr (d : Nat) (ty : Int) (fs : List Fld) : Prop := mtypes.contains ty = true ∧ fs.length ≤ 24 ∧ Good fs ∧ ∀ f ∈ fs, Said d f
def wire (d : Nat) (ty : Int) (fs : List Fld) : List UInt8 := (typeFm d).put (ver d ++ dig3 ty.toNat) ++ (mapPut d fs ++ body d fs)
theorem mencode_ok {d : Int} {ty : Int} {fs : List Fld} {b : List UInt8} : mencode d ty fs = .ok b ↔ (1 ≤ d ∧ d ≤ 3) ∧ Wr d.toNat ty fs ∧ b = wire d.toNat ty fs := by
 unfold mencode
 constructor
 ·intro h
  split at h
  ·rename_i hd
   split at h
   ·rename_i hc
    obtain ⟨h1, h2, h3⟩ := mcheck_zero.1 hc
    split at h
    ·cases h
    ·rename_i r hr
     injection h with h
     obtain ⟨h4, h5⟩ := (putFs_iff _ _ _).1 hr
     refine ⟨hd, ⟨h1, h2, h3, h5⟩, ?_⟩
     rw [← h, h4, mhead_eq]
     unfold wire
     rw [List.append_assoc]
   ·cases h
  ·cases h
 ·rintro ⟨hd, ⟨h1, h2, h3, h4⟩, rfl⟩
  rw [if_pos hd, if_pos (mcheck_zero.2 ⟨h1, h2, h3⟩), (putFs_iff _ _ _).2 ⟨rfl, h4⟩]
  simp only []
  rw [mhead_eq]
  unfold wire
  rw [List.append_assoc]
/-! ### types -/
theorem type_right {d : Nat} {ty : Int} (hd : 1 ≤ d ∧ d ≤ 3) (h : mtypes.contains ty = true) : (typeFm d).right (ver d ++ dig3 ty.toNat) = true ∧ mtype d (ver d ++ dig3 ty.toNat) = some ty := by
 have key : ∀ d : Fin 3, ∀ ty ∈ mtypes, (typeFm (d.val + 1)).right (ver (d.val + 1) ++ dig3 ty.toNat) = true ∧ mtype (d.val + 1) (ver (d.val + 1) ++ dig3 ty.toNat) = some ty := by decide +kernel
 have := key ⟨d - 1, by omega⟩ ty (by simpa using h)
 simpa [show d - 1 + 1 = d from by omega] using this
theorem ver_one (d : Nat) : ∃ v, ver d = [v] := by
 unfold ver
 split
 ·exact ⟨_, rfl⟩
 ·split <;> exact ⟨_, rfl⟩
/-! ### how many bytes there may be -/
theorem sum_rows (g : Int → Nat) : ∀ (R : List (Int × Int × Int)) (l : List Int), Rise l → (∀ x ∈ l, ∃ r ∈ R, r.1 = x) → R.Pairwise (fun a b => a.1 < b.1) → (l.map g).sum ≤ (R.map fun r => g r.1).sum
 | [], [], _, _, _ => Nat.le_refl _
 | [], x :: l, _, h, _ => by obtain ⟨r, hr, _⟩ := h x (List.mem_cons_self ..); cases hr
 | r :: R, [], _, _, _ => Nat.zero_le _
 | r :: R, x :: l, hl, h, hR => by
   obtain ⟨l1, l2⟩ := List.pairwise_cons.1 hl
   obtain ⟨r1, r2⟩ := List.pairwise_cons.1 hR
   obtain ⟨q, hq, hqx⟩ := h x (List.mem_cons_self ..)
   rw [List.map_cons, List.map_cons, List.sum_cons, List.sum_cons]
   have hrest : ∀ y ∈ l, ∃ q ∈ R, q.1 = y := fun y hy => by
    obtain ⟨p, hp, hpy⟩ := h y (List.mem_cons_of_mem _ hy)
    rcases List.mem_cons.1 hp with rfl | hp
    ·have := l1 y hy
     rcases List.mem_cons.1 hq with rfl | hq
     ·omega
     ·have := r1 q hq
      omega
    ·exact ⟨p, hp, hpy⟩
   rcases List.mem_cons.1 hq with rfl | hq
   ·have := sum_rows g R l l2 hrest r2
    rw [← hqx]
    omega
   ·have := sum_rows g R (x :: l) hl (fun y hy => by
     rcases List.mem_cons.1 hy with rfl | hy
     ·exact ⟨q, hq, hqx⟩
     ·exact hrest y hy) r2
    rw [List.map_cons, List.sum_cons] at this
    omega
def capOf (no : Int) : Nat := match mfind no mrows with
 | none => 0
 | some r => 2 * r.2.toNat + 2
theorem mrows_rise : mrows.Pairwise (fun a b => a.1 < b.1) := by decide
theorem caps_all : (mrows.map fun r => capOf r.1).sum = 382 := by decide +kernel
theorem good_rows {fs : List Fld} (h : Good fs) : ∀ x ∈ fs.map (·.1), ∃ r ∈ mrows, r.1 = x := fun x hx => by
 obtain ⟨f, hf, rfl⟩ := List.mem_map.1 hx
 obtain ⟨m, h1, _⟩ := h.2 f hf
 unfold mform at h1
 obtain ⟨r, hr, _⟩ := Option.map_eq_some_iff.1 h1
 exact ⟨_, mfind_mem hr, rfl⟩
theorem put_cap {k s c : Nat} {t : List UInt8} (hk : 1 ≤ k ∧ k ≤ 5) (hc : 1 ≤ c ∧ c ≤ 3) (hs : 1 ≤ s ∧ s ≤ 64) (hr : (nf k s c).right t = true) : ((nf k s c).put t).length ≤ 2 * s + 2 := by
 rw [fm_len hc hs hr]
 have one : ∀ (n : Nat) (a b : List UInt8), Pt.size ⟨n, a, b⟩ ≤ n := fun n a b => by
  unfold Pt.size
  split
  ·show (n + 1) / 2 ≤ n
   omega
  ·exact Nat.le_refl _
 have all : ∀ (kk : Int) (n : Nat), sizeAll (ptsOf kk (c : Int) n) ≤ (if kk = 4 then 2 * n else if kk = 5 then 1 + n else n) := fun kk n => by
  unfold ptsOf
  by_cases h3 : kk = 3
  ·rw [if_pos h3, if_neg (by omega), if_neg (by omega)]
   exact one _ _ _
  ·rw [if_neg h3]
   by_cases h4 : kk = 4
   ·rw [if_pos h4, if_pos h4]
    exact one _ _ _
   ·rw [if_neg h4, if_neg h4]
    by_cases h5 : kk = 5
    ·rw [if_pos h5, if_pos h5]
     exact Nat.add_le_add (one _ _ _) (one _ _ _)
    ·rw [if_neg h5, if_neg h5]
     exact one _ _ _
 split
 ·rename_i h2
  subst h2
  obtain ⟨hl, _⟩ := ll_right hr
  have a1 := all 1 2
  have a2 := all 2 t.length
  rw [if_neg (by decide), if_neg (by decide)] at a1 a2
  omega
 ·have a1 := all (k : Int) s
  split at a1
  ·omega
  ·split at a1 <;> omega
theorem body_cap {d : Nat} (hd : 1 ≤ d ∧ d ≤ 3) : ∀ fs : List Fld, (∀ f ∈ fs, Said d f) → (body d fs).length ≤ ((fs.map (·.1)).map capOf).sum
 | [], _ => Nat.le_refl _
 | f :: l, h => by
   have hbody : body d (f :: l) = sayPut d f ++ body d l := rfl
   obtain ⟨m, hm, hc⟩ := h f (List.mem_cons_self ..)
   obtain ⟨k, s, rfl, hk, hs, _, _, hf, _⟩ := form_nf hm
   have h1 := put_cap hk hd hs ((check_zero hk hd hs).1 hc)
   have hsp : sayPut d f = (nf k s d).put (say d f) := by unfold sayPut; rw [hm]
   have hcap : capOf f.1 = 2 * (s + (unsaid d f.1).length) + 2 := by
    unfold capOf
    rw [hf]
    show 2 * (((s + (unsaid d f.1).length : Nat) : Int)).toNat + 2 = _
    rw [Int.toNat_natCast]
   have ih := body_cap hd l fun x hx => h x (List.mem_cons_of_mem _ hx)
   rw [hbody, List.length_append, List.map_cons, List.map_cons, List.sum_cons, hsp, hcap]
   omega
theorem wire_len {d : Nat} {ty : Int} {fs : List Fld} (hd : 1 ≤ d ∧ d ≤ 3) (h : Wr d ty fs) : (wire d ty fs).length ≤ 500 := by
 obtain ⟨h1, _, h3, h4⟩ := h
 have a1 := put_cap (k := 1) (s := 4) (c := d) (by decide) hd (by decide) (type_right hd h1).1
 have a2 : (mapPut d fs).length ≤ 36 := by
  have hp : ∀ n, ((mapFm d).put (hexk 16 n)).length ≤ 18 := fun n => put_cap (k := 4) (s := 8) (c := d) (by decide) hd (by decide) (hex_right d n)
  unfold mapPut halves
  split
  ·have := hp (half1 fs)
   simp only [List.foldr_cons, List.foldr_nil, List.append_nil]
   omega
  ·have := hp (half1 fs ||| 2 ^ 63)
   have := hp (half2 fs)
   simp only [List.foldr_cons, List.foldr_nil, List.append_nil, List.length_append]
   omega
 have a3 := body_cap hd fs h4
 have a4 := sum_rows capOf mrows _ h3.1 (good_rows h3) mrows_rise
 rw [caps_all] at a4
 unfold wire
 rw [List.length_append, List.length_append]
 have : ((typeFm d).put (ver d ++ dig3 ty.toNat)).length ≤ 10 := a1
 omega
end Go.Proofs.YtkagijifkpoplaaGreatDoor.Fdd
