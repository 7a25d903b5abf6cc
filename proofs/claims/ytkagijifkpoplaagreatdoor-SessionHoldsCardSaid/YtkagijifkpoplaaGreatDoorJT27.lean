/-
  Texts in one file. Conditions: the tables and the errors read as laid.
-/
import Derived.Test.YtkagijifkpoplaaGreatDoorJT26
import Derived.Lib.SlBytesConst
import Derived.Test.YtkagijifkpoplaaGreatDoorJT19
import Derived.Test.YtkagijifkpoplaaGreatDoorJT0
import Derived.Test.YtkagijifkpoplaaGreatDoorJT1
set_option linter.unusedVariables false
set_option linter.unusedSimpArgs false
set_option maxRecDepth 40000
set_option maxHeartbeats 20000000
namespace Go.Proofs.YtkagijifkpoplaaGreatDoor
open Go.RowKit
open Sh (Wd B8 H8)
set_option maxRecDepth 20000
def bdC (n : Int) (l : List Bool) : Array Value := (Value.int .i64 n :: l.map fun b => Value.bool b).toArray
theorem bdC_size (n : Int) (l : List Bool) : (bdC n l).size = l.length + 1 := by simp [bdC]
theorem bdC_one (n : Int) (l : List Bool) : ∀ v ∈ (bdC n l).toList, v.oneCell' = true := fun v hv => by
 simp only [bdC, List.mem_cons, List.mem_map] at hv
 rcases hv with rfl | ⟨x, -, rfl⟩ <;> rfl
theorem bdC_at (n : Int) (l : List Bool) {j : Nat} (h : j < l.length) : (bdC n l)[1 + j]? = some (.bool (l.getD j false)) := by
 rw [show 1 + j = j + 1 from by omega]
 simp only [bdC, List.getElem?_toArray, List.getElem?_cons_succ, List.getElem?_map]
 rw [List.getD_eq_getElem?_getD, List.getElem?_eq_getElem h]
 rfl
theorem bdC_set (n : Int) (l : List Bool) (j : Nat) (v : Bool) : (bdC n l).setIfInBounds (1 + j) (.bool v) = bdC n (l.set j v) := by
 rw [show 1 + j = j + 1 from by omega]
 simp [bdC, List.setIfInBounds_toArray, List.map_set]
theorem size_st : (Tryz.prog.info? 68).map (·.size) = some 2 := by kernel_rfl
theorem size_bl : (Tryz.prog.info? 4).map (·.size) = some 1 := by kernel_rfl
def none12 : List Bool := List.replicate 12 false
theorem build_bd (n : Int) (W : World) : (Instr.build 71 #[(0, .int .i64 n)]).run Tryz.prog W = .ok (.agg (bdC n none12)) W := by kernel_rfl
theorem box_bd (n : Int) (l : List Bool) (w : World) : (Instr.box 71 (.agg (bdC n l))).run Tryz.prog w = .ok (.pointer (some ⟨w.heap.size, 0, none⟩)) (w.alloc (.cells (bdC n l) 71)) := by
 simp [Instr.box, newVar, newRow, Result.andThen, Value.cells]
theorem gx_box9 {P : Program} {a : Act} {o : Oper} {W W' : World} {t : TypeId} {x : Operand} {u v : Value} (ho : o.op = .box t x) (hx : a.eval x = u) (h : (Instr.box t u).run P W = .ok v W') : (execOp a.eval o).run P W = .ok (.value v) W' := by
 unfold execOp
 simp only [ho, hx, h, Sem.run_bind, Sem.run_pure, Result.andThen_ok]
theorem zero_st9 (w : World) : (zeroValue 68).run Tryz.prog w = .ok (.agg #[.bool false, .bool false]) w := by kernel_rfl
def isM (n m : Int) : Prop := 0 ≤ m ∧ m < n
instance (n m : Int) : Decidable (isM n m) := by unfold isM; infer_instance
def okN (m : Int) : Prop := 1 ≤ m ∧ m ≤ 6
structure Bd (w : World) (p : Nat) (n : Int) (l : List Bool) : Prop where
 blk : Blk w p 71 (bdC n l)
 len : l.length = 12
 lo : 1 ≤ n
 hi : n ≤ 6
theorem Bd.turn {F : Nat → Prop} {w w' : World} {p : Nat} {n : Int} {l : List Bool} (h : Bd w p n l) (ht : Turn F w w') (hp : ¬ F p) : Bd w' p n l := ⟨h.blk.turn ht hp, h.len, h.lo, h.hi⟩
theorem Bd.still {w w' : World} {p : Nat} {n : Int} {l : List Bool} (h : Bd w p n l) (ht : Turn nowhere w w') : Bd w' p n l := h.turn ht fun e => e
theorem isM_nat {n m : Int} (h : isM n m) (hn : n ≤ 6) : ∃ i : Nat, m = (i : Int) ∧ i < 6 := ⟨m.toNat, by have := h.1; omega, by have := h.1; have := h.2; omega⟩
theorem bd_ld {w : World} {p : Nat} {n : Int} {l : List Bool} (h : Bd w p n l) {j : Nat} (hj : j < 12) : w.cell? ⟨p, 1 + j, none⟩ = some (.bool (l.getD j false)) := by
 rw [h.blk.cell, bdC_at _ _ (by rw [h.len]; exact hj)]
def signL (k : Nat) (n m : Int) (on : Bool) (l : List Bool) : List Bool := if isM n m then l.set (2 * m.toNat + k) on else l
def lookL (k : Nat) (n m : Int) (l : List Bool) : Bool := if isM n m then l.getD (2 * m.toNat + k) false else false
def codeM (n m : Int) : Int := if isM n m then 0 else 130
theorem rng_st {w : World} {p : Nat} {n : Int} {l : List Bool} (h : Bd w p n l) {i : Nat} (hi : i < 6) : w.rangeAt p (1 + i * 2) [.bool (l.getD (2 * i) false), .bool (l.getD (2 * i + 1) false)] := by
 intro j v hv
 match j with
 | 0 =>
   obtain rfl : Value.bool (l.getD (2 * i) false) = v := by simpa using hv
   rw [show 1 + i * 2 + 0 = 1 + 2 * i from by omega]
   exact bd_ld h (by omega)
 | 1 =>
   obtain rfl : Value.bool (l.getD (2 * i + 1) false) = v := by simpa using hv
   rw [show 1 + i * 2 + 1 = 1 + (2 * i + 1) from by omega]
   exact bd_ld h (by omega)
 | j + 2 => simp at hv
theorem bl_not {a : Act} {o : Oper} {W : World} {x : Operand} {t : TypeId} {b r : Bool} (ho : o.op = .unOp .not t x) (hx : a.eval x = .bool b) (h : (!b) = r) : (execOp a.eval o).run Tryz.prog W = .ok (.value (.bool r)) W := by
 subst h
 unfold execOp
 simp only [ho, hx]
 go_simp
theorem New_walk (w : World) (m : Int) (hm : -9223372036854775808 ≤ m ∧ m ≤ 9223372036854775807) : Calls Tryz.prog 14 #[.int .i64 m] w fun e w' =>
 (okN m ∧ ∃ p, e = .returned (.tuple #[.pointer (some ⟨p, 0, none⟩), .int .i64 0]) ∧ Bd w' p m none12 ∧ w.heap.size ≤ p ∧ Turn nowhere w w') ∨ (¬ okN m ∧ e = .returned (.tuple #[.pointer none, .int .i64 130]) ∧ Turn nowhere w w') := by
 have HM := zH hm
 clear hm
 go_enter Tryz.func14, Tryz.ntmps14
 by_cases h1 : m < 1
 ·have H1 := zH h1
  clear h1
  go_upto_region 0 with fail
  refine wp_region_lit ?_
  refine nA (.pointer none) ?_;simp only [zz];refine nA (.int .i64 0) ?_;simp only [zz]
  go_upto_region 1 with fail
  refine wp_region_lit ?_
  refine nM (.int .i64 m) ?_;simp only [zz];refine nR (.bool true) (ix_lss rfl rfl rfl (decide_eq_true H1.out)) ?_;simp only [zz];refine nM (.bool true) ?_;simp only [zz]
  refine wpList_skip (by go_simp) ?_
  simp only [zz]
  refine wpList_skip (by go_simp) ?_
  simp only [zz];refine nR (.bool true) (ix_pickT rfl rfl rfl) ?_;simp only [zz]
  go_upto_region 2 with fail
  refine wp_region_lit ?_
  refine nA (.pointer none) ?_;simp only [zz];refine nA (.int .i64 130) ?_;simp only [zz]
  go_wp2_with fail
  go_ret2
  exact .inr ⟨fun h => by have := H1.out; have := h.1; omega, rfl, Turn.refl _ _⟩
 ·have H1 := zH (show 1 ≤ m from by omega)
  have HN1 := zH h1
  clear h1
  by_cases h6 : 6 < m
  ·have H6 := zH h6
   clear h6
   go_upto_region 0 with fail
   refine wp_region_lit ?_
   refine nA (.pointer none) ?_;simp only [zz];refine nA (.int .i64 0) ?_;simp only [zz]
   go_upto_region 1 with fail
   refine wp_region_lit ?_
   refine nM (.int .i64 m) ?_;simp only [zz];refine nR (.bool false) (ix_lss rfl rfl rfl (decide_eq_false HN1.out)) ?_;simp only [zz];refine nM (.bool false) ?_;simp only [zz];refine wM (.int .i64 m) ?_;simp only [zz];refine wS (.bool true) (ix_gtr rfl rfl rfl (decide_eq_true H6.out)) ?_;simp only [zz];refine nR (.bool true) (ix_pickF rfl rfl rfl) ?_;simp only [zz]
   go_upto_region 2 with fail
   refine wp_region_lit ?_
   refine nA (.pointer none) ?_;simp only [zz];refine nA (.int .i64 130) ?_;simp only [zz]
   go_wp2_with fail
   go_ret2
   exact .inr ⟨fun h => by have := H6.out; have := h.2; omega, rfl, Turn.refl _ _⟩
  ·have H6 := zH h6
   clear h6
   go_upto_region 0 with fail
   refine wp_region_lit ?_
   refine nA (.pointer none) ?_;simp only [zz];refine nA (.int .i64 0) ?_;simp only [zz]
   go_upto_region 1 with fail
   refine wp_region_lit ?_
   refine nM (.int .i64 m) ?_;simp only [zz];refine nR (.bool false) (ix_lss rfl rfl rfl (decide_eq_false HN1.out)) ?_;simp only [zz];refine nM (.bool false) ?_;simp only [zz];refine wM (.int .i64 m) ?_;simp only [zz];refine wS (.bool false) (ix_gtr rfl rfl rfl (decide_eq_false H6.out)) ?_;simp only [zz];refine nR (.bool false) (ix_pickF rfl rfl rfl) ?_;simp only [zz]
   have HB := zH (Blk.new w 71 (bdC m none12))
   have HT := zH ((Turn.refl nowhere w).alloc (.cells (bdC m none12) 71))
   go_upto_region 3 with fail
   refine wp_region_lit ?_
   refine nM (.int .i64 m) ?_;simp only [zz];refine nR (.agg (bdC m none12)) (gx_build1_g rfl rfl (build_bd m _)) ?_;simp only [zz]
   refine wR (v := .pointer (some ⟨w.heap.size, 0, none⟩)) (w' := w.alloc (.cells (bdC m none12) 71)) wn (gx_box9 rfl rfl (box_bd m none12 w)) ?_
   simp only [zz];refine nA (.pointer (some ⟨w.heap.size, 0, none⟩)) ?_;simp only [zz];refine nA (.int .i64 0) ?_;simp only [zz]
   go_wp2_with fail
   go_ret2
   exact .inl ⟨⟨H1.out, by have := H6.out; omega⟩, _, rfl, ⟨HB.out, rfl, H1.out, by have := H6.out; omega⟩, Nat.le_refl _, HT.out⟩
theorem has_walk {w : World} {p : Nat} {n m : Int} {l : List Bool} (h : Bd w p n l) : Calls Tryz.prog 31 #[.pointer (some ⟨p, 0, none⟩), .int .i64 m] w fun e w' => e = .returned (.bool (decide (isM n m))) ∧ w = w' := by
 have H := zH h
 clear h
 go_enter Tryz.func31, Tryz.ntmps31
 by_cases h0 : 0 ≤ m
 ·have H0 := zH h0
  have HD := zH (show decide (m < n) = decide (isM n m) from decide_eq_decide.2 ⟨fun h => ⟨h0, h⟩, fun h => h.2⟩)
  clear h0
  go_upto_region 0 with fail
  refine wp_region_lit ?_
  refine nA (.bool false) ?_;simp only [zz]
  go_upto_region 1 with fail
  refine wp_region_lit ?_
  refine nM (.int .i64 m) ?_;simp only [zz];refine nR (.bool true) (ix_geq rfl rfl rfl (decide_eq_true H0.out)) ?_;simp only [zz];refine nM (.bool true) ?_;simp only [zz];refine wM (.int .i64 m) ?_;simp only [zz];refine wM (.pointer (some ⟨p, 0, none⟩)) ?_;simp only [zz];refine wS (.pointer (some ⟨p, 0, none⟩)) (exec_nil rfl rfl) ?_;simp only [zz];refine wS (.pointer (some ⟨p, 0, none⟩)) (xF 0 0) ?_;simp only [zz];refine wS (.int .i64 n) (xL (H.out.blk.cell 0)) ?_;simp only [zz];refine wS (.bool (decide (isM n m))) (ix_lss rfl rfl rfl HD.out) ?_;simp only [zz];refine nR (.bool (decide (isM n m))) (ix_pickT rfl rfl rfl) ?_;simp only [zz];refine nA (.bool (decide (isM n m))) ?_;simp only [zz]
  go_wp2_with fail
  go_ret
  exact ⟨rfl, rfl⟩
 ·have H0 := zH h0
  have HD := zH (show decide (isM n m) = false from decide_eq_false fun h => h0 h.1)
  clear h0
  go_upto_region 0 with fail
  refine wp_region_lit ?_
  refine nA (.bool false) ?_;simp only [zz]
  go_upto_region 1 with fail
  refine wp_region_lit ?_
  refine nM (.int .i64 m) ?_;simp only [zz];refine nR (.bool false) (ix_geq rfl rfl rfl (decide_eq_false H0.out)) ?_;simp only [zz];refine nM (.bool false) ?_;simp only [zz]
  refine wpList_skip (by go_simp) ?_
  simp only [zz]
  refine wpList_skip (by go_simp) ?_
  simp only [zz]
  refine wpList_skip (by go_simp) ?_
  simp only [zz]
  refine wpList_skip (by go_simp) ?_
  simp only [zz]
  refine wpList_skip (by go_simp) ?_
  simp only [zz]
  refine wpList_skip (by go_simp) ?_
  simp only [zz];refine nR (.bool false) (ix_pickF rfl rfl rfl) ?_;simp only [zz];refine nA (.bool false) ?_;simp only [zz]
  go_wp2_with fail
  go_ret
  rw [HD.out]
  exact ⟨rfl, rfl⟩
theorem Sign_walk {w : World} {p : Nat} {n m : Int} {l : List Bool} {on : Bool} (h : Bd w p n l) : Calls Tryz.prog 19 #[.pointer (some ⟨p, 0, none⟩), .int .i64 m, .bool on] w fun e w' => e = .returned (.int .i64 (codeM n m)) ∧ Bd w' p n (signL 0 n m on l) ∧ Turn (only p) w w' := by
 have H := zH h
 clear h
 go_enter Tryz.func19, Tryz.ntmps19
 go_upto_region 0 with fail
 refine wp_region_lit ?_
 refine nA (.int .i64 0) ?_;simp only [zz]
 go_upto_region 1 with fail
 refine wp_region_lit ?_
 refine nM (.pointer (some ⟨p, 0, none⟩)) ?_;simp only [zz];refine nM (.int .i64 m) ?_;simp only [zz]
 refine wpList_op_g rfl fun K9 HK9 => ?_
 go_wp2_with fail
 refine (has_walk (m := m) H.out).mono ?_
 rintro e w2 ⟨rfl, rfl⟩
 refine HK9.out _ _ ?_
 clear HK9
 try simp only [zz]
 by_cases hm : isM n m
 ·have HC := zH (show codeM n m = 0 from if_pos hm)
  have HD := zH (show (!decide (isM n m)) = false from by rw [decide_eq_true hm]; rfl)
  obtain ⟨i, rfl, hi⟩ := isM_nat hm H.out.hi
  have HS := zH (show signL 0 n (i : Int) on l = l.set (2 * i + 0) on from if_pos hm)
  have HI := zH hi
  clear hm hi
  refine nR (.bool false) (bl_not rfl rfl HD.out) ?_;simp only [zz]
  go_upto_region 3 with fail
  refine wp_region_lit ?_
  refine nM (.pointer (some ⟨p, 0, none⟩)) ?_;simp only [zz];refine nM (.int .i64 (i : Int)) ?_;simp only [zz];refine nM (.bool on) ?_;simp only [zz];refine nR (.pointer (some ⟨p, 0, none⟩)) (exec_nil rfl rfl) ?_;simp only [zz];refine nR (.pointer (some ⟨p, 1, none⟩)) (xF 0 1) ?_;simp only [zz];refine nR (.pointer (some ⟨p, 1 + i * 2, none⟩)) (gx_aaddr_g (i := i) (sz := 2) rfl rfl rfl Tryz.underlying69 size_st HI.out rfl) ?_;simp only [zz];refine nR (.pointer (some ⟨p, 1 + i * 2, none⟩)) (xF (1 + i * 2) 0) ?_;simp only [zz]
  refine wpList_put wn 4 (.tmp 17) (.tmp 13) rfl (.bool on) (bdC n (l.set (2 * i + 0) on)) H.out.blk rfl rfl (by rw [bdC_size, H.out.len]; have := HI.out; omega) rfl rfl size_bl (by rw [show 1 + i * 2 = 1 + (2 * i + 0) from by omega, bdC_set]) ?_
  intro w4 hb4 ht4
  have HB4 := zH (show Bd w4 p n (signL 0 n (i : Int) on l) from by rw [HS.out]; exact ⟨hb4, by rw [List.length_set, H.out.len], H.out.lo, H.out.hi⟩)
  have HT4 := zH ht4
  clear hb4 ht4
  simp only [zz]
  go_upto_region 4 with fail
  refine wp_region_lit ?_
  refine nA (.int .i64 0) ?_;simp only [zz]
  go_wp2_with fail
  go_ret
  rw [HC.out]
  exact ⟨rfl, HB4.out, HT4.out⟩
 ·have HC := zH (show codeM n m = 130 from if_neg hm)
  have HD := zH (show (!decide (isM n m)) = true from by rw [decide_eq_false hm]; rfl)
  have HS := zH (show signL 0 n m on l = l from if_neg hm)
  clear hm
  refine nR (.bool true) (bl_not rfl rfl HD.out) ?_;simp only [zz]
  go_upto_region 2 with fail
  refine wp_region_lit ?_
  refine nA (.int .i64 130) ?_;simp only [zz]
  go_wp2_with fail
  go_ret
  rw [HC.out, HS.out]
  exact ⟨rfl, H.out, Turn.refl _ _⟩
theorem Block_walk {w : World} {p : Nat} {n m : Int} {l : List Bool} {on : Bool} (h : Bd w p n l) : Calls Tryz.prog 20 #[.pointer (some ⟨p, 0, none⟩), .int .i64 m, .bool on] w fun e w' => e = .returned (.int .i64 (codeM n m)) ∧ Bd w' p n (signL 1 n m on l) ∧ Turn (only p) w w' := by
 have H := zH h
 clear h
 go_enter Tryz.func20, Tryz.ntmps20
 go_upto_region 0 with fail
 refine wp_region_lit ?_
 refine nA (.int .i64 0) ?_;simp only [zz]
 go_upto_region 1 with fail
 refine wp_region_lit ?_
 refine nM (.pointer (some ⟨p, 0, none⟩)) ?_;simp only [zz];refine nM (.int .i64 m) ?_;simp only [zz]
 refine wpList_op_g rfl fun K9 HK9 => ?_
 go_wp2_with fail
 refine (has_walk (m := m) H.out).mono ?_
 rintro e w2 ⟨rfl, rfl⟩
 refine HK9.out _ _ ?_
 clear HK9
 try simp only [zz]
 by_cases hm : isM n m
 ·have HC := zH (show codeM n m = 0 from if_pos hm)
  have HD := zH (show (!decide (isM n m)) = false from by rw [decide_eq_true hm]; rfl)
  obtain ⟨i, rfl, hi⟩ := isM_nat hm H.out.hi
  have HS := zH (show signL 1 n (i : Int) on l = l.set (2 * i + 1) on from if_pos hm)
  have HI := zH hi
  clear hm hi
  refine nR (.bool false) (bl_not rfl rfl HD.out) ?_;simp only [zz]
  go_upto_region 3 with fail
  refine wp_region_lit ?_
  refine nM (.pointer (some ⟨p, 0, none⟩)) ?_;simp only [zz];refine nM (.int .i64 (i : Int)) ?_;simp only [zz];refine nM (.bool on) ?_;simp only [zz];refine nR (.pointer (some ⟨p, 0, none⟩)) (exec_nil rfl rfl) ?_;simp only [zz];refine nR (.pointer (some ⟨p, 1, none⟩)) (xF 0 1) ?_;simp only [zz];refine nR (.pointer (some ⟨p, 1 + i * 2, none⟩)) (gx_aaddr_g (i := i) (sz := 2) rfl rfl rfl Tryz.underlying69 size_st HI.out rfl) ?_;simp only [zz];refine nR (.pointer (some ⟨p, 1 + i * 2 + 1, none⟩)) (xF (1 + i * 2) 1) ?_;simp only [zz]
  refine wpList_put wn 4 (.tmp 17) (.tmp 13) rfl (.bool on) (bdC n (l.set (2 * i + 1) on)) H.out.blk rfl rfl (by rw [bdC_size, H.out.len]; have := HI.out; omega) rfl rfl size_bl (by rw [show 1 + i * 2 + 1 = 1 + (2 * i + 1) from by omega, bdC_set]) ?_
  intro w4 hb4 ht4
  have HB4 := zH (show Bd w4 p n (signL 1 n (i : Int) on l) from by rw [HS.out]; exact ⟨hb4, by rw [List.length_set, H.out.len], H.out.lo, H.out.hi⟩)
  have HT4 := zH ht4
  clear hb4 ht4
  simp only [zz]
  go_upto_region 4 with fail
  refine wp_region_lit ?_
  refine nA (.int .i64 0) ?_;simp only [zz]
  go_wp2_with fail
  go_ret
  rw [HC.out]
  exact ⟨rfl, HB4.out, HT4.out⟩
 ·have HC := zH (show codeM n m = 130 from if_neg hm)
  have HD := zH (show (!decide (isM n m)) = true from by rw [decide_eq_false hm]; rfl)
  have HS := zH (show signL 1 n m on l = l from if_neg hm)
  clear hm
  refine nR (.bool true) (bl_not rfl rfl HD.out) ?_;simp only [zz]
  go_upto_region 2 with fail
  refine wp_region_lit ?_
  refine nA (.int .i64 130) ?_;simp only [zz]
  go_wp2_with fail
  go_ret
  rw [HC.out, HS.out]
  exact ⟨rfl, H.out, Turn.refl _ _⟩
theorem st_one9 (x y : Bool) : ∀ v ∈ (#[.bool x, .bool y] : Array Value).toList, v.oneCell' = true := fun v hv => by
 simp only [List.mem_cons, List.not_mem_nil, or_false] at hv
 rcases hv with rfl | rfl <;> rfl
theorem Look_walk {w : World} {p : Nat} {n m : Int} {l : List Bool} (h : Bd w p n l) : Calls Tryz.prog 26 #[.pointer (some ⟨p, 0, none⟩), .int .i64 m] w fun e w' => e = .returned (.tuple #[.bool (lookL 0 n m l), .bool (lookL 1 n m l)]) ∧ Turn nowhere w w' := by
 have H := zH h
 clear h
 go_enter Tryz.func26, Tryz.ntmps26
 go_upto_region 0 with fail
 refine wp_region_lit ?_
 refine nA (.bool false) ?_;simp only [zz];refine nA (.bool false) ?_;simp only [zz]
 go_upto_region 1 with fail
 refine wp_region_lit ?_
 refine nM (.pointer (some ⟨p, 0, none⟩)) ?_;simp only [zz];refine nM (.int .i64 m) ?_;simp only [zz]
 refine wpList_op_g rfl fun K9 HK9 => ?_
 go_wp2_with fail
 refine (has_walk (m := m) H.out).mono ?_
 rintro e w2 ⟨rfl, rfl⟩
 refine HK9.out _ _ ?_
 clear HK9
 try simp only [zz]
 by_cases hm : isM n m
 ·have HD := zH (show (!decide (isM n m)) = false from by rw [decide_eq_true hm]; rfl)
  obtain ⟨i, rfl, hi⟩ := isM_nat hm H.out.hi
  have HS0 := zH (show lookL 0 n (i : Int) l = l.getD (2 * i) false from if_pos hm)
  have HS1 := zH (show lookL 1 n (i : Int) l = l.getD (2 * i + 1) false from if_pos hm)
  have HI := zH hi
  have HRG := zH (rng_st H.out hi)
  obtain ⟨x, hx⟩ : ∃ x, l.getD (2 * i) false = x := ⟨_, rfl⟩
  obtain ⟨y, hy⟩ : ∃ x, l.getD (2 * i + 1) false = x := ⟨_, rfl⟩
  rw [hx] at HS0 HRG
  rw [hy] at HS1 HRG
  clear hm hi hx hy
  refine nR (.bool false) (bl_not rfl rfl HD.out) ?_;simp only [zz]
  go_upto_region 3 with fail
  refine wp_region_lit ?_
  refine nM (.pointer (some ⟨p, 0, none⟩)) ?_;simp only [zz];refine nM (.int .i64 (i : Int)) ?_;simp only [zz];refine nR (.pointer (some ⟨p, 0, none⟩)) (exec_nil rfl rfl) ?_;simp only [zz];refine nR (.pointer (some ⟨p, 1, none⟩)) (xF 0 1) ?_;simp only [zz];refine nR (.pointer (some ⟨p, 1 + i * 2, none⟩)) (gx_aaddr_g (i := i) (sz := 2) rfl rfl rfl Tryz.underlying69 size_st HI.out rfl) ?_;simp only [zz];refine nR (.agg #[.bool x, .bool y]) (gx_loads_g rfl rfl HRG.out Tryz.underlying68 rfl (by rw [size_st]; rfl)) ?_;simp only [zz]
  refine wR (v := .pointer (some ⟨w.heap.size, 0, none⟩)) (w' := w.alloc (.cells #[.bool false, .bool false] 68)) wn (gx_alloc rfl (zero_st9 _)) ?_
  simp only [zz]
  have hb_ := Blk.new w 68 #[.bool false, .bool false]
  have ht_ := (Turn.refl nowhere w).alloc (.cells #[.bool false, .bool false] 68)
  obtain ⟨g, hg_⟩ : ∃ g, g = w.heap.size := ⟨_, rfl⟩
  rw [← hg_] at hb_ ⊢
  have HLg := zH (show w.heap.size ≤ g from by omega)
  clear hg_
  generalize w.alloc (.cells #[.bool false, .bool false] 68) = w3 at *
  have HBg := zH hb_
  have HT3 := zH ht_
  clear hb_ ht_
  refine wpList_store_row wn 68 (.tmp 6) (.tmp 16) rfl (#[.bool x, .bool y]) HBg.out rfl rfl (rfl) (by rw [size_st] <;> rfl) (st_one9 _ _) ?_
  intro w4 hb_ ht_
  have HBg4 := zH hb_
  have HT4 := zH ht_
  clear hb_ ht_
  simp only [zz]
  have HT34 := zH (HT3.out.trans HT4.out fun k' hk e => by have := HLg.out; have e : k' = g := e; omega)
  go_upto_region 4 with fail
  refine wp_region_alw (fun W => Blk W g 68 #[.bool x, .bool y]) (by kernel_rfl) ?_
  have hS0 : (fun W => Blk W g 68 #[.bool x, .bool y]) w4.drew := HBg4.out.drew
  have HD := zH ((Turn.refl nowhere w4).drew)
  generalize w4.drew = wd at *
  refine aU 0 (.pointer (some ⟨g, 0, none⟩)) rfl (fun W hW => xF 0 0) hS0 ?_;simp only [zz];refine aU 1 (.bool x) rfl (fun W hW => xL (hW.cell 0)) hS0 ?_;simp only [zz];refine aU 2 (.pointer (some ⟨g, 1, none⟩)) rfl (fun W hW => xF 0 1) hS0 ?_;simp only [zz];refine aU 3 (.bool y) rfl (fun W hW => xL (hW.cell 1)) hS0 ?_;simp only [zz];refine aU 4 (.bool x) rfl (fun W hW => gx_assign rfl rfl) hS0 ?_;simp only [zz];refine aU 5 (.bool y) rfl (fun W hW => gx_assign rfl rfl) hS0 ?_;simp only [zz]
  refine alw_done rfl ?_
  refine NoPanic.normal ?_
  clear hS0
  try simp only [zz]
  go_wp2_with fail
  go_ret2
  rw [HS0.out, HS1.out]
  exact ⟨rfl, HT34.out.trans HD.out fun _ _ e => e⟩
 ·have HD := zH (show (!decide (isM n m)) = true from by rw [decide_eq_false hm]; rfl)
  have HS0 := zH (show lookL 0 n m l = false from if_neg hm)
  have HS1 := zH (show lookL 1 n m l = false from if_neg hm)
  clear hm
  refine nR (.bool true) (bl_not rfl rfl HD.out) ?_;simp only [zz]
  go_upto_region 2 with fail
  refine wp_region_lit ?_
  refine nA (.bool false) ?_;simp only [zz];refine nA (.bool false) ?_;simp only [zz]
  go_wp2_with fail
  go_ret2
  rw [HS0.out, HS1.out]
  exact ⟨rfl, Turn.refl _ _⟩
def readyL (n m : Int) (l : List Bool) : Bool := lookL 0 n m l && !lookL 1 n m l
theorem Ready_walk {w : World} {p : Nat} {n m : Int} {l : List Bool} (h : Bd w p n l) : Calls Tryz.prog 25 #[.pointer (some ⟨p, 0, none⟩), .int .i64 m] w fun e w' => e = .returned (.bool (readyL n m l)) ∧ Turn nowhere w w' := by
 have H := zH h
 clear h
 have HR := zH (show readyL n m l = (lookL 0 n m l && !lookL 1 n m l) from rfl)
 have HW := zH (Look_walk (m := m) H.out)
 obtain ⟨x, hx⟩ : ∃ x, lookL 0 n m l = x := ⟨_, rfl⟩
 obtain ⟨y, hy⟩ : ∃ x, lookL 1 n m l = x := ⟨_, rfl⟩
 rw [hx, hy] at HR HW
 rw [HR.out]
 clear hx hy
 go_enter Tryz.func25, Tryz.ntmps25
 go_upto_region 0 with fail
 refine wp_region_lit ?_
 refine nA (.bool false) ?_;simp only [zz]
 go_upto_region 1 with fail
 refine wp_region_lit ?_
 refine nM (.pointer (some ⟨p, 0, none⟩)) ?_;simp only [zz];refine nM (.int .i64 m) ?_;simp only [zz]
 refine wpList_op_g rfl fun K9 HK9 => ?_
 go_wp2_with fail
 refine (HW.out).mono ?_
 rintro e w2 ⟨rfl, ht⟩
 refine HK9.out _ _ ?_
 clear HK9
 try simp only [zz]
 have HT := zH ht
 clear ht
 refine nM (.tuple #[.bool x, .bool y]) ?_;simp only [zz];refine nE (.bool x) ?_;simp only [zz];refine nE (.bool y) ?_;simp only [zz];refine nA (.bool x) ?_;simp only [zz];refine nA (.bool y) ?_;simp only [zz]
 cases x
 ·go_upto_region 2 with fail
  refine wp_region_lit ?_
  refine nM (.bool false) ?_;simp only [zz];refine nM (.bool false) ?_;simp only [zz]
  refine wpList_skip (by go_simp) ?_
  simp only [zz]
  refine wpList_skip (by go_simp) ?_
  simp only [zz];refine nR (.bool false) (ix_pickF rfl rfl rfl) ?_;simp only [zz];refine nA (.bool false) ?_;simp only [zz]
  go_wp2_with fail
  go_ret
  exact ⟨rfl, HT.out⟩
 ·go_upto_region 2 with fail
  refine wp_region_lit ?_
  refine nM (.bool true) ?_;simp only [zz];refine nM (.bool true) ?_;simp only [zz];refine wM (.bool y) ?_;simp only [zz];refine wS (.bool (!y)) (bl_not rfl rfl rfl) ?_;simp only [zz];refine nR (.bool (!y)) (ix_pickT rfl rfl rfl) ?_;simp only [zz];refine nA (.bool (!y)) ?_;simp only [zz]
  go_wp2_with fail
  go_ret
  exact ⟨rfl, HT.out⟩
def resetL (i : Nat) (l : List Bool) : List Bool := (List.range 12).map fun j => if j % 2 = 0 ∧ j < 2 * i then false else l.getD j false
theorem reset_len (i : Nat) (l : List Bool) : (resetL i l).length = 12 := by simp [resetL]
theorem reset_0 {l : List Bool} (h : l.length = 12) : resetL 0 l = l := by
 apply List.ext_getElem?
 intro j
 unfold resetL
 rw [List.getElem?_map]
 by_cases hj : j < 12
 ·rw [List.getElem?_range hj]
  simp [List.getD, List.getElem?_eq_getElem (show j < l.length from by omega)]
 ·rw [List.getElem?_eq_none (by simp; omega), List.getElem?_eq_none (by omega)]; rfl
theorem reset_next (l : List Bool) {i : Nat} (hi : i < 6) : (resetL i l).set (2 * i) false = resetL (i + 1) l := by
 apply List.ext_getElem?
 intro j
 rw [List.getElem?_set]
 unfold resetL
 simp only [List.getElem?_map, List.length_map, List.length_range]
 by_cases hj : j < 12
 ·rw [List.getElem?_range hj]
  by_cases e : 2 * i = j
  ·subst e
   rw [if_pos rfl, if_pos hj]
   simp
  ·rw [if_neg e]
   simp only [Option.map_some]
   congr 1
   by_cases h1 : j % 2 = 0 ∧ j < 2 * i
   ·rw [if_pos h1, if_pos ⟨h1.1, by omega⟩]
   ·rw [if_neg h1, if_neg (by omega)]
 ·rw [List.getElem?_eq_none (by simp; omega)]
  rw [if_neg (by omega)]
  rfl
theorem Reset_walk {w : World} {p : Nat} {n : Int} {l : List Bool} (h : Bd w p n l) : Calls Tryz.prog 21 #[.pointer (some ⟨p, 0, none⟩)] w fun e w' => (∃ v, e = .returned v) ∧ Bd w' p n (resetL 6 l) ∧ Turn (only p) w w' := by
 have H := zH h
 have H0 := zH (reset_0 h.len)
 clear h
 go_enter Tryz.func21, Tryz.ntmps21
 go_upto_region 0 with fail
 refine wp_region_lit ?_
 refine nM (.int .i64 0) ?_;simp only [zz]
 go_wp2_with fail
 go_loopg [3] 6 (fun gk iv wr => ∃ i : Nat, iv = .int .i64 (i : Int) ∧ i + gk = 6 ∧ Bd wr p n (resetL i l) ∧ Turn (only p) w wr)
 case atStart => exact ⟨0, rfl, rfl, by rw [H0.out]; exact H.out, Turn.refl _ _⟩
 obtain ⟨i, rfl, hgk, hb, htr⟩ := hrel
 have yi : (i : Int) ≤ 6 := by omega
 have HGK := zH hgk
 have HB := zH hb
 have HTR := zH htr
 clear hgk hb htr
 by_cases hlt : i < 6
 ·have HLT := zH hlt
  have y3 : (i : Int) < 6 := by omega
  have HNX := zH (reset_next l hlt)
  clear hlt
  go_upto_region 1 with fail
  refine wp_region_lit ?_
  refine nR (.bool true) (ix_lss rfl rfl rfl (decide_eq_true y3)) ?_;simp only [zz]
  go_upto_region 2 with fail
  refine wp_region_lit ?_
  refine nM (.int .i64 (i : Int)) ?_;simp only [zz];refine nA (.int .i64 (i : Int)) ?_;simp only [zz]
  go_upto_region 3 with fail
  refine wp_region_lit ?_
  refine nM (.pointer (some ⟨p, 0, none⟩)) ?_;simp only [zz];refine nM (.int .i64 (i : Int)) ?_;simp only [zz];refine nR (.pointer (some ⟨p, 0, none⟩)) (exec_nil rfl rfl) ?_;simp only [zz];refine nR (.pointer (some ⟨p, 1, none⟩)) (xF 0 1) ?_;simp only [zz];refine nR (.pointer (some ⟨p, 1 + i * 2, none⟩)) (gx_aaddr_g (i := i) (sz := 2) rfl rfl rfl Tryz.underlying69 size_st HLT.out rfl) ?_;simp only [zz];refine nR (.pointer (some ⟨p, 1 + i * 2, none⟩)) (xF (1 + i * 2) 0) ?_;simp only [zz]
  refine wpList_put wn 4 (.tmp 11) (.const (.bool false)) rfl (.bool false) (bdC n (resetL (i + 1) l)) HB.out.blk rfl rfl (by rw [bdC_size, HB.out.len]; have := HLT.out; omega) rfl rfl size_bl (by rw [show 1 + i * 2 = 1 + 2 * i from by omega, bdC_set, HNX.out]) ?_
  intro w4 hb4 ht4
  have HB4 := zH (show Bd w4 p n (resetL (i + 1) l) from ⟨hb4, reset_len _ _, H.out.lo, H.out.hi⟩)
  have HT4 := zH (HTR.out.trans ht4 fun _ _ e => e)
  clear hb4 ht4
  simp only [zz]
  go_upto_region 4 with fail
  refine wp_region_lit ?_
  refine nR (.int .i64 ((i + 1 : Nat) : Int)) (ix_add rfl rfl rfl (by omega) (by omega)) ?_;simp only [zz];refine nM (.int .i64 ((i + 1 : Nat) : Int)) ?_;simp only [zz]
  go_wp2_with fail
  go_roundg (6 - (i + 1))
  case measure => have := HGK.out; have := HLT.out; omega
  case rel => exact ⟨i + 1, rfl, by have := HLT.out; omega, HB4.out, HT4.out⟩
 ·obtain rfl : i = 6 := by omega
  clear hlt
  go_upto_region 1 with fail
  refine wp_region_lit ?_
  refine nR (.bool false) (ix_lss rfl rfl rfl (by decide)) ?_;simp only [zz]
  go_wp2_with fail
  first
  | (go_end0; exact ⟨⟨_, rfl⟩, HB.out, HTR.out⟩)
  | (go_ret; exact ⟨⟨_, rfl⟩, HB.out, HTR.out⟩)
open Fdd
set_option maxRecDepth 20000
def shX1 : List Fld := [(11, [48, 48, 48, 48, 48, 49])]
def shT1 : B8 := [57, 100, 51, 49, 50, 99, 102, 97, 98, 56, 97, 54, 49, 97, 48, 98]
def shT2 : B8 := [98, 97, 49, 52, 100, 100, 56, 50, 98, 99, 100, 52, 98, 55, 97, 102]
def shY1 : List Fld := [(11, [48, 48, 48, 48, 48, 49]), (64, shT1)]
def shY2 : List Fld := [(11, [48, 48, 48, 48, 48, 50]), (64, shT1)]
def shE1 : B8 := [48, 56, 48, 48, 48, 48, 50, 48, 48, 48, 48, 48, 48, 48, 48, 48, 48, 48, 48, 48, 48, 48, 48, 48, 48, 49]
def shE2 : B8 := [48, 56, 48, 48, 48, 48, 50, 48, 48, 48, 48, 48, 48, 48, 48, 48, 48, 48, 48, 48, 48, 48, 48, 48, 48, 50]
theorem sh_enc1 : mencode 1 800 shX1 = .ok shE1 := by kernel_rfl
theorem sh_enc2 : mencode 1 800 [(11, [48, 48, 48, 48, 48, 50])] = .ok shE2 := by kernel_rfl
theorem sh_mac1 : Sh.macT [107] shE1 = shT1 := by decide +kernel
theorem sh_mac2 : Sh.macT [107] shE2 = shT2 := by decide +kernel
theorem sh_ne : shT1 ≠ shT2 := by decide
theorem sh_m1 : macR 1 800 [107] shX1 = .ok shT1 := by rw [macR_ok (b := shE1) (show mencode 1 800 (bareM shX1) = .ok shE1 from sh_enc1), sh_mac1]
theorem sh_m1y : macR 1 800 [107] shY1 = .ok shT1 := by rw [macR_ok (b := shE1) (show mencode 1 800 (bareM shY1) = .ok shE1 from sh_enc1), sh_mac1]
theorem sh_m2y : macR 1 800 [107] shY2 = .ok shT2 := by rw [macR_ok (b := shE2) (show mencode 1 800 (bareM shY2) = .ok shE2 from sh_enc2), sh_mac2]
theorem sh_set : setM 64 shT1 shX1 = shY1 := by decide
theorem sh_c1 : chkR (macR 1 800 [107] shY1) shY1 = 0 := chk_ok sh_m1y rfl
theorem sh_c2 : chkR (macR 1 800 [107] shY2) shY2 = 131 := chk_no sh_m2y (fun h => sh_ne (Option.some.inj h))
theorem lx_conv {a : Act} {o : Oper} {x : Operand} {u v : Value} {W W' : World} (ho : o.op = .convert 22 22 x) (hx : a.eval x = u) (h : (convert 22 22 u).run Tryz.prog W = .ok v W') : (execOp a.eval o).run Tryz.prog W = .ok (.value v) W' := by
 unfold execOp
 simp only [ho, hx, h, Sem.run_bind, Sem.run_pure, Result.andThen_ok]
theorem ptr_someB {a : Act} {o : Oper} {W : World} {x y : Operand} {t u : TypeId} {p : Addr} (ho : o.op = .binOp .eql t x y u) (hx : a.eval x = .pointer (some p)) (hy : a.eval y = .pointer none) (ht : t = 44) : (execOp a.eval o).run Tryz.prog W = .ok (.value (.bool false)) W := by
 subst ht
 unfold execOp
 simp only [ho, hx, hy]
 go_simp
theorem New_ok (w : World) {m : Int} (h : okN m) : Calls Tryz.prog 14 #[.int .i64 m] w fun e w' => ∃ p, e = .returned (.tuple #[.pointer (some ⟨p, 0, none⟩), .int .i64 0]) ∧ Bd w' p m none12 ∧ w.heap.size ≤ p ∧ Turn nowhere w w' := by
 refine (New_walk w m ⟨by have := h.1; omega, by have := h.2; omega⟩).mono ?_
 rintro e w' (⟨_, p, h1, h2, h3, h4⟩ | ⟨h1, _⟩)
 ·exact ⟨p, h1, h2, h3, h4⟩
 ·exact absurd h h1
theorem build_mem2 (A : Option Addr) (n c : Nat) (W : World) : (Instr.build 26 #[(1, .int .i64 1), (2, .slice A n c)]).run Tryz.prog W = .ok (.agg (memC [] 1 A n c 0 0)) W := by kernel_rfl
theorem zero_mem (w : World) : (zeroValue 26).run Tryz.prog w = .ok (.agg (memC [] 0 none 0 0 0 0)) w := by kernel_rfl
theorem build_k (W : World) : (Instr.buildSlice 22 1 #[(0, .int .u8 107)]).run Tryz.prog W = .ok (.slice (some ⟨W.heap.size, 0, none⟩) 1 1) (W.alloc (.cells (byteCells [107]) 5)) := by kernel_rfl
theorem fl_store {w w' : World} {g : Nat} {cur : Array Value} {B c : Nat} (h : FRow w B (.slice (some ⟨g, 0, none⟩) 2 c) shY1) (hb : Blk w g 38 cur) (hb' : Blk w' g 38 (cur.setIfInBounds 1 (strV [48, 48, 48, 48, 48, 50]))) : Fl w' (some ⟨g, 0, none⟩) 2 shY2 := by
 have hf := (h.fl (by decide)).1
 have hc : ∀ (k : Nat) (v : Value), (fcs shY1)[k]? = some v → cur[k]? = some v := by
  intro k v hv
  have h1 := World.ownsRow.cells (g := g) h rfl k v hv
  rw [add_nat, Nat.zero_add, hb.cell] at h1
  exact h1
 have h1 : 1 < cur.size := by
  have := hc 1 _ rfl
  exact (Array.getElem?_eq_some_iff.1 this).1
 refine ⟨rfl, by decide, fun _ => ⟨g, 0, rfl, fun i f hi j v hv => ?_⟩⟩
 rw [hb'.cell, Array.getElem?_setIfInBounds]
 match i, hi with
 | 0, hi =>
   obtain rfl : ((11, [48, 48, 48, 48, 48, 50]) : Fld) = f := Option.some.inj hi
   match j, hv with
   | 0, hv =>
     obtain rfl : Value.int .i64 11 = v := Option.some.inj hv
     rw [if_neg (by decide)]
     exact hc 0 _ rfl
   | 1, hv =>
     obtain rfl : strV [48, 48, 48, 48, 48, 50] = v := Option.some.inj hv
     rw [if_pos (by decide), if_pos h1]
   | j + 2, hv => simp [fldA] at hv
 | 1, hi =>
   obtain rfl : ((64, shT1) : Fld) = f := Option.some.inj hi
   match j, hv with
   | 0, hv =>
     obtain rfl : Value.int .i64 64 = v := Option.some.inj hv
     rw [if_neg (by decide)]
     exact hc 2 _ rfl
   | 1, hv =>
     obtain rfl : strV shT1 = v := Option.some.inj hv
     rw [if_neg (by decide)]
     exact hc 3 _ rfl
   | j + 2, hv => simp [fldA] at hv
 | i + 2, hi => simp [shY2] at hi
theorem txts_small {fs : List Fld} (h : ∀ f ∈ fs, f.2.length ≤ 1000) : Txts fs := fun f hf => Nat.le_trans (h f hf) (by decide)
theorem size_str9 : (Tryz.prog.info? 9).map (·.size) = some 1 := by kernel_rfl
theorem gx_build12 {P : Program} {a : Act} {o : Oper} {t : TypeId} {x0 x1 : Operand} {u0 u1 r : Value} {W : World} (ho : o.op = .build t #[(1, x0), (2, x1)]) (h0 : a.eval x0 = u0) (h1 : a.eval x1 = u1)
 (h : (Instr.build t #[(1, u0), (2, u1)]).run P W = .ok r W) : (execOp a.eval o).run P W = .ok (.value r) W := by
 unfold execOp
 simp only [ho, List.map_toArray, List.map_cons, List.map_nil, h0, h1, h, Sem.run_bind, Sem.run_pure, Result.andThen_ok]
theorem sshown_walk {s : Sents} (w : World) (he : Env s w) (hk : KT w) : Calls Tryz.prog 7 #[] w fun e w' => e = .returned (.bool true) ∧ Turn nowhere w w' := by
 have HE := zH he
 have HK := zH hk
 clear he hk
 go_enter Tryz.func7, Tryz.ntmps7
 go_upto_region 0 with fail
 refine wp_region_lit ?_
 refine nA (.bool false) ?_;simp only [zz]
 go_upto_region 1 with fail
 refine wp_region_lit ?_
 refine wR (v := .slice (some ⟨w.heap.size, 0, none⟩) 1 1) (w' := w.alloc (.cells (byteCells [107]) 5)) wn (bx_slice1 rfl rfl (build_k w)) ?_
 simp only [zz]
 refine wR (v := .slice (some ⟨w.heap.size, 0, none⟩) 1 1) (w' := w.alloc (.cells (byteCells [107]) 5 (1, 2))) wn (lx_conv rfl rfl (Lib.run_convert_bytes_const _ _ 5 _ _ _ Tryz.underlying22 Tryz.underlying5)) ?_
 simp only [zz]
 have HKS := zH (bs_new w [107] 5 (1, 2) w.heap.size rfl (by decide))
 have HT0 := zH ((Turn.refl nowhere w).alloc (.cells (byteCells [107]) 5 (1, 2)))
 obtain ⟨gk0, hgk0⟩ : ∃ x, w.heap.size = x := ⟨_, rfl⟩
 rw [hgk0] at HKS ⊢
 have HLk := zH hgk0
 clear hgk0
 generalize w.alloc (.cells (byteCells [107]) 5 (1, 2)) = w1 at HKS HT0 ⊢
 refine nR (.agg (memC [] 1 (some ⟨gk0, 0, none⟩) 1 1 0 0)) (gx_build12 rfl rfl rfl (build_mem2 _ _ _ _)) ?_;simp only [zz]
 refine wR (v := .pointer (some ⟨w1.heap.size, 0, none⟩)) (w' := w1.alloc (.cells (memC [] 0 none 0 0 0 0) 26)) wn (gx_alloc rfl (zero_mem _)) ?_
 simp only [zz]
 have hb_ := Blk.new w1 26 (memC [] 0 none 0 0 0 0)
 have ht_ := (Turn.refl nowhere w1).alloc (.cells (memC [] 0 none 0 0 0 0) 26)
 obtain ⟨gm, hg_⟩ : ∃ g, g = w1.heap.size := ⟨_, rfl⟩
 rw [← hg_] at hb_ ⊢
 have HLgm := zH (show w1.heap.size ≤ gm from by omega)
 clear hg_
 generalize w1.alloc (.cells (memC [] 0 none 0 0 0 0) 26) = w2 at *
 have HBgm := zH hb_
 have HT2 := zH ht_
 clear hb_ ht_
 refine wpList_store_row wn 26 (.tmp 1) (.tmp 13) rfl (memC [] 1 (some ⟨gk0, 0, none⟩) 1 1 0 0) HBgm.out rfl rfl (rfl) (by rw [size_mem] <;> rfl) (memC_one _ _ _ _ _ _ _) ?_
 intro w3 hb_ ht_
 have HBm := zH hb_
 have HT3 := zH ht_
 clear hb_ ht_
 simp only [zz]
 have HT13 := zH (HT2.out.trans HT3.out fun k' hk e => by have := HLgm.out; have e : k' = gm := e; omega)
 have HTw := zH (HT0.out.trans HT13.out fun _ _ e => e)
 have HKEY := zH (show Key w3 (some ⟨gk0, 0, none⟩) 1 1 [107] from ⟨sh_still HKS.out HT13.out, Nat.le_refl _, (fun h => by cases h), by decide⟩)
 have HLgm3 := zH (show gm < w3.heap.size from HBm.out.lt)
 have HLk3 := zH (show gk0 < w3.heap.size from sh_lt (sh_still HKS.out HT13.out) gk0 0 (by decide) rfl)
 clear HT0 HT2 HT3 HT13 HBgm HKS
 go_upto_region 2 with fail
 refine wp_region_lit ?_
 refine nR (.agg (memC [] 1 (some ⟨gk0, 0, none⟩) 1 1 0 0)) (gx_loads_g rfl rfl (blk_range_g HBm.out) Tryz.underlying26 rfl (by rw [size_mem]; rfl)) ?_;simp only [zz];refine nR (.agg (fldA (11, [48, 48, 48, 48, 48, 49]))) (gx_build2 rfl rfl rfl (build_fldM 11 [48, 48, 48, 48, 48, 49] _)) ?_;simp only [zz]
 have HFX := zH (fl_one (11, [48, 48, 48, 48, 48, 49]) w3)
 have HTA := zH ((Turn.refl nowhere w3).alloc (.cells (fldA (11, [48, 48, 48, 48, 48, 49])) 38))
 have HBD := zH (build_f1 (11, [48, 48, 48, 48, 48, 49]) w3)
 generalize w3.alloc (.cells (fldA (11, [48, 48, 48, 48, 48, 49])) 38) = w4 at HFX HBD HTA
 obtain ⟨gf, hgf⟩ : ∃ x, w3.heap.size = x := ⟨_, rfl⟩
 rw [hgf] at HFX HBD
 clear hgf
 refine wR (v := .slice (some ⟨gf, 0, none⟩) 1 1) (w' := w4) wn (bx_slice1 rfl rfl HBD.out) ?_
 simp only [zz];refine nR (.agg #[.int .i64 800, .slice (some ⟨gf, 0, none⟩) 1 1]) (gx_build2 rfl rfl rfl (build_msg2 _ _ _ _ _)) ?_;simp only [zz]
 have HTw4 := zH (HTw.out.trans HTA.out fun _ _ e => e)
 have HMG := zH (show Mg w4 (some ⟨gf, 0, none⟩) 1 1 shX1 from ⟨HFX.out, (fun h => by cases h), by decide, txts_small (by decide)⟩)
 refine wpList_op_g rfl fun K9 HK9 => ?_
 go_wp2_with fail
 refine (Seal_walk (m1 := 0) (m2 := 0) (code := []) (d := 1) (ty := 800) (HE.out.turn HTw4.out) (HK.out.turn HTw4.out) (HKEY.out.still HTA.out) HMG.out).mono ?_
 rintro e w5 ⟨ty5, A5, n5, c5, rfl, ht, hmat⟩
 refine HK9.out _ _ ?_
 clear HK9
 try simp only [zz]
 rw [sh_m1] at hmat ⊢
 obtain ⟨rfl, hl5, ho5⟩ := hmat
 rw [sh_set] at hl5 ho5
 obtain rfl : 2 = n5 := hl5
 obtain ⟨g5, c5', he5, _, _, hg5, _⟩ := orw_at0 (frow_orw ho5) (by decide)
 injection he5 with e1 e2 e3
 subst e1
 clear e2 e3
 have HT45 := zH (HTA.out.trans ht fun _ _ e => e)
 have HTw5 := zH (HTw.out.trans HT45.out fun _ _ e => e)
 have HBm5 := zH (HBm.out.turn HT45.out fun e => e)
 have HKEY5 := zH (HKEY.out.still HT45.out)
 have HO5 := zH ho5
 have HG5 := zH (show w3.heap.size ≤ g5 from Nat.le_trans HTA.out.size hg5)
 have HZ35 := zH HT45.out.size
 clear ht ho5 hg5 HTA HTw4 HT45 HMG HFX HBD HBm HKEY
 refine nM (.tuple #[msgV 800 (some ⟨g5, 0, none⟩) 2 c5, .int .i64 0]) ?_;simp only [zz];refine nE (msgV 800 (some ⟨g5, 0, none⟩) 2 c5) ?_;simp only [zz];refine nE (.int .i64 0) ?_;simp only [zz]
 refine wR (v := .pointer (some ⟨w5.heap.size, 0, none⟩)) (w' := w5.alloc (.cells #[.int .i64 0, .slice none 0 0] 29)) wn (gx_alloc rfl (zero_mg _)) ?_
 simp only [zz]
 have hb_ := Blk.new w5 29 #[.int .i64 0, .slice none 0 0]
 have ht_ := (Turn.refl nowhere w5).alloc (.cells #[.int .i64 0, .slice none 0 0] 29)
 obtain ⟨gx, hg_⟩ : ∃ g, g = w5.heap.size := ⟨_, rfl⟩
 rw [← hg_] at hb_ ⊢
 have HLgx := zH (show w5.heap.size ≤ gx from by omega)
 clear hg_
 generalize w5.alloc (.cells #[.int .i64 0, .slice none 0 0] 29) = w6 at *
 have HBgx := zH hb_
 have HT6 := zH ht_
 clear hb_ ht_
 refine wpList_store_row wn 29 (.tmp 2) (.tmp 20) rfl (#[.int .i64 800, .slice (some ⟨g5, 0, none⟩) 2 c5]) HBgx.out rfl rfl (rfl) (by rw [size_mg] <;> rfl) (mg_one _ _ _ _) ?_
 intro w7 hb_ ht_
 have HBx := zH hb_
 have HT7 := zH ht_
 clear hb_ ht_
 simp only [zz];refine nA (.int .i64 0) ?_;simp only [zz]
 have HT57 := zH (HT6.out.trans HT7.out fun k' hk e => by have := HLgx.out; have e : k' = gx := e; omega)
 have HTw7 := zH (HTw5.out.trans HT57.out fun _ _ e => e)
 have HBm7 := zH (HBm5.out.turn HT57.out fun e => e)
 have HKEY7 := zH (HKEY5.out.still HT57.out)
 have HO7 := zH (HO5.out.still HT57.out)
 have HNgx := zH (show gx ≠ g5 from by have := HLgx.out; have := ((frow_orw HO5.out).lt rfl).2; omega)
 have HNgm := zH (show gm ≠ g5 from by have := HG5.out; have := HLgm3.out; omega)
 have HNgk := zH (show gk0 ≠ g5 from by have := HG5.out; have := HLk3.out; omega)
 have HLg5 := zH (show w.heap.size ≤ g5 from Nat.le_trans HTw.out.size HG5.out)
 have HMG7 := zH (show Mg w7 (some ⟨g5, 0, none⟩) 2 c5 shY1 from ⟨(HO7.out.fl (by decide)).1, (fun h => by cases h), by decide, txts_small (by decide)⟩)
 have HZ37 := zH (show w3.heap.size ≤ w7.heap.size from Nat.le_trans HZ35.out HT57.out.size)
 clear HT6 HT7 HT57 HTw5 HBm5 HKEY5 HO5 HBgx HTw
 go_upto_region 3 with fail
 refine wp_region_lit ?_
 refine nR (.agg (memC [] 1 (some ⟨gk0, 0, none⟩) 1 1 0 0)) (gx_loads_g rfl rfl (blk_range_g HBm7.out) Tryz.underlying26 rfl (by rw [size_mem]; rfl)) ?_;simp only [zz];refine nR (msgV 800 (some ⟨g5, 0, none⟩) 2 c5) (gx_loads_g rfl rfl (blk_range_g HBx.out) Tryz.underlying29 rfl (by rw [size_mg]; rfl)) ?_;simp only [zz]
 refine wpList_op_g rfl fun K9 HK9 => ?_
 go_wp2_with fail
 refine (SCheck_walk (m1 := 0) (m2 := 0) (code := []) (d := 1) (ty := 800) (HE.out.turn HTw7.out) (HK.out.turn HTw7.out) HKEY7.out HMG7.out).mono ?_
 rintro e w8 ⟨rfl, ht⟩
 refine HK9.out _ _ ?_
 clear HK9
 try simp only [zz]
 rw [sh_c1]
 have HTw8 := zH (HTw7.out.trans ht fun _ _ e => e)
 have HBm8 := zH (HBm7.out.turn ht fun e => e)
 have HBx8 := zH (HBx.out.turn ht fun e => e)
 have HKEY8 := zH (HKEY7.out.still ht)
 have HO8 := zH (HO7.out.still ht)
 have HZ38 := zH (show w3.heap.size ≤ w8.heap.size from Nat.le_trans HZ37.out ht.size)
 clear ht HTw7 HBm7 HBx HKEY7 HO7 HMG7
 have HRG := zH (fl_rng (HO8.out.fl (by decide)).1 (i := 1) (f := (64, shT1)) rfl)
 refine nA (.int .i64 0) ?_;simp only [zz]
 obtain ⟨b9, o9, e9, hrg⟩ := HRG.out
 obtain ⟨rfl, rfl⟩ : g5 = b9 ∧ 0 = o9 := by simpa using e9
 have HC2 := zH (show w8.cell? ⟨g5, 2, none⟩ = some (.int .i64 64) from hrg 0 _ rfl)
 clear HRG e9 hrg
 go_upto_region 4 with fail
 refine wp_region_lit ?_
 refine nM (.int .i64 0) ?_;simp only [zz];refine nR (.bool false) (ix_neq rfl rfl rfl (by decide)) ?_;simp only [zz];refine nM (.bool false) ?_;simp only [zz];refine wM (.int .i64 0) ?_;simp only [zz];refine wS (.bool false) (ix_neq rfl rfl rfl (by decide)) ?_;simp only [zz];refine nR (.bool false) (ix_pickF rfl rfl rfl) ?_;simp only [zz];refine nM (.bool false) ?_;simp only [zz];refine wS (.pointer (some ⟨gx, 1, none⟩)) (xF 0 1) ?_;simp only [zz];refine wS (.slice (some ⟨g5, 0, none⟩) 2 c5) (xL (HBx8.out.cell 1)) ?_;simp only [zz];refine wS (.int .i64 2) (gx_len rfl rfl Tryz.underlying27) ?_;simp only [zz];refine wS (.bool false) (ix_neq rfl rfl rfl (by decide)) ?_;simp only [zz];refine nR (.bool false) (ix_pickF rfl rfl rfl) ?_;simp only [zz];refine nM (.bool false) ?_;simp only [zz];refine wS (.pointer (some ⟨gx, 1, none⟩)) (xF 0 1) ?_;simp only [zz];refine wS (.slice (some ⟨g5, 0, none⟩) 2 c5) (xL (HBx8.out.cell 1)) ?_;simp only [zz];refine wS (.pointer (some ⟨g5, 2, none⟩)) (gx_iaddr (i := 1) (sz := 2) rfl rfl rfl Tryz.underlying27 size_fd (by decide) rfl) ?_;simp only [zz];refine wS (.pointer (some ⟨g5, 2, none⟩)) (xF 2 0) ?_;simp only [zz];refine wS (.int .i64 64) (xL HC2.out) ?_;simp only [zz];refine wS (.bool false) (ix_neq rfl rfl rfl (by decide)) ?_;simp only [zz];refine nR (.bool false) (ix_pickF rfl rfl rfl) ?_;simp only [zz]
 obtain ⟨cur, hcur⟩ := (frow_orw HO8.out).own_blk rfl
 have HCUR := zH hcur
 have HCS := zH (show 1 < cur.size from by
  have h1 := World.ownsRow.cells (g := g5) HO8.out rfl 1 _ rfl
  rw [add_nat, Nat.zero_add, hcur.cell] at h1
  exact (Array.getElem?_eq_some_iff.1 h1).1)
 clear hcur
 go_upto_region 6 with fail
 refine wp_region_lit ?_
 refine nR (.pointer (some ⟨gx, 1, none⟩)) (xF 0 1) ?_;simp only [zz];refine nR (.slice (some ⟨g5, 0, none⟩) 2 c5) (xL (HBx8.out.cell 1)) ?_;simp only [zz];refine nR (.pointer (some ⟨g5, 0, none⟩)) (gx_iaddr (i := 0) (sz := 2) rfl rfl rfl Tryz.underlying27 size_fd (by decide) rfl) ?_;simp only [zz];refine nR (.pointer (some ⟨g5, 1, none⟩)) (xF 0 1) ?_;simp only [zz]
 refine wpList_put wn 9 (.tmp 48) (.const (strV [48, 48, 48, 48, 48, 50])) rfl (strV [48, 48, 48, 48, 48, 50]) (cur.setIfInBounds 1 (strV [48, 48, 48, 48, 48, 50])) HCUR.out rfl rfl HCS.out rfl rfl size_str9 rfl ?_
 intro w9 hb9 ht9
 have HFL9 := zH (fl_store HO8.out HCUR.out hb9)
 have HTw9 := zH (HTw8.out.trans ht9 fun k' hk e => by have := HLg5.out; have e : k' = g5 := e; omega)
 have HBm9 := zH (HBm8.out.turn (F := only g5) ht9 fun e => HNgm.out e)
 have HBx9 := zH (HBx8.out.turn (F := only g5) ht9 fun e => HNgx.out e)
 have HKEY9 := zH (show Key w9 (some ⟨gk0, 0, none⟩) 1 1 [107] from ⟨sh_turn HKEY8.out.bs (F := only g5) ht9 (fun b off _ e => by injection e with e; injection e with e1 e2; subst e1; exact HNgk.out), HKEY8.out.le, HKEY8.out.nil, HKEY8.out.lim⟩)
 have HLz9 := zH (show w3.heap.size ≤ w9.heap.size from Nat.le_trans HZ38.out ht9.size)
 have HLz5 := zH (show g5 < w9.heap.size from Nat.lt_of_lt_of_le HCUR.out.lt ht9.size)
 clear hb9 ht9 HTw8 HBm8 HBx8 HKEY8 HO8 HCUR HCS HC2
 simp only [zz]
 go_upto_region 7 with fail
 refine wp_region_lit ?_
 refine wpList_op_g rfl fun K9 HK9 => ?_
 go_wp2_with fail
 refine (New_ok w9 (m := 2) ⟨by decide, by decide⟩).mono ?_
 rintro e wa ⟨p, rfl, hbd, hlp, hta⟩
 refine HK9.out _ _ ?_
 clear HK9
 try simp only [zz]
 have HBDa := zH hbd
 have HLp := zH hlp
 have HTwa := zH (HTw9.out.trans hta fun _ _ e => e)
 have HBma := zH (HBm9.out.turn hta fun e => e)
 have HBxa := zH (HBx9.out.turn hta fun e => e)
 have HKEYa := zH (HKEY9.out.still hta)
 have HFLa := zH (HFL9.out.still hta)
 have HNpm := zH (show gm ≠ p from by have := HBm9.out.lt; have := HLp.out; omega)
 have HNpx := zH (show gx ≠ p from by have := HBx9.out.lt; have := HLp.out; omega)
 have HNpk := zH (show gk0 ≠ p from by have := HLk3.out; have := HLp.out; have := HLz9.out; omega)
 have HNp5 := zH (show g5 ≠ p from by have := HLp.out; have := HLz5.out; omega)
 have HLwp := zH (show w.heap.size ≤ p from Nat.le_trans HTw9.out.size HLp.out)
 have HTZ0 := zH (Turn.refl (only p) wa)
 clear hbd hlp hta HTw9 HBm9 HBx9 HKEY9 HFL9
 refine nM (.tuple #[.pointer (some ⟨p, 0, none⟩), .int .i64 0]) ?_;simp only [zz];refine nE (.pointer (some ⟨p, 0, none⟩)) ?_;simp only [zz];refine nE (.int .i64 0) ?_;simp only [zz];refine nA (.pointer (some ⟨p, 0, none⟩)) ?_;simp only [zz];refine nA (.int .i64 0) ?_;simp only [zz]
 go_upto_region 8 with fail
 refine wp_region_lit ?_
 refine nM (.pointer (some ⟨p, 0, none⟩)) ?_;simp only [zz];refine nR (.bool false) (ptr_someB rfl rfl rfl rfl) ?_;simp only [zz];refine nM (.bool false) ?_;simp only [zz];refine wM (.int .i64 0) ?_;simp only [zz];refine wS (.bool false) (ix_neq rfl rfl rfl (by decide)) ?_;simp only [zz];refine nR (.bool false) (ix_pickF rfl rfl rfl) ?_;simp only [zz]
 go_upto_region 10 with fail
 refine wp_region_lit ?_
 refine nM (.pointer (some ⟨p, 0, none⟩)) ?_;simp only [zz]
 refine wpList_op_g rfl fun K9 HK9 => ?_
 go_wp2_with fail
 refine (Sign_walk (m := 0) (on := true) HBDa.out).mono ?_
 rintro e wb ⟨rfl, hb, ht⟩
 refine HK9.out _ _ ?_
 clear HK9
 try simp only [zz]
 have HBDb := zH hb
 have HTb := zH ht
 clear hb ht
 go_upto_region 11 with fail
 refine wp_region_lit ?_
 refine nM (.pointer (some ⟨p, 0, none⟩)) ?_;simp only [zz]
 refine wpList_op_g rfl fun K9 HK9 => ?_
 go_wp2_with fail
 refine (Ready_walk (m := 0) HBDb.out).mono ?_
 rintro e wc ⟨rfl, ht⟩
 refine HK9.out _ _ ?_
 clear HK9
 try simp only [zz]
 rw [show readyL 2 0 (signL 0 2 0 true none12) = true from by decide]
 have HBDc := zH (HBDb.out.still ht)
 have HTc := zH (HTb.out.trans ht fun _ _ e => e.elim)
 clear ht HBDb HTb HTZ0
 refine nA (.bool true) ?_;simp only [zz]
 go_upto_region 12 with fail
 refine wp_region_lit ?_
 refine nM (.pointer (some ⟨p, 0, none⟩)) ?_;simp only [zz]
 refine wpList_op_g rfl fun K9 HK9 => ?_
 go_wp2_with fail
 refine (Block_walk (m := 0) (on := true) HBDc.out).mono ?_
 rintro e wd ⟨rfl, hb, ht⟩
 refine HK9.out _ _ ?_
 clear HK9
 try simp only [zz]
 have HBDd := zH hb
 have HTd := zH (HTc.out.trans ht fun _ _ e => e)
 clear hb ht HBDc HTc
 go_upto_region 13 with fail
 refine wp_region_lit ?_
 refine nM (.pointer (some ⟨p, 0, none⟩)) ?_;simp only [zz]
 refine wpList_op_g rfl fun K9 HK9 => ?_
 go_wp2_with fail
 refine (Ready_walk (m := 0) HBDd.out).mono ?_
 rintro e we ⟨rfl, ht⟩
 refine HK9.out _ _ ?_
 clear HK9
 try simp only [zz]
 rw [show readyL 2 0 (signL 1 2 0 true (signL 0 2 0 true none12)) = false from by decide]
 have HBDe := zH (HBDd.out.still ht)
 have HTe := zH (HTd.out.trans ht fun _ _ e => e.elim)
 clear ht HBDd HTd
 refine nA (.bool false) ?_;simp only [zz]
 go_upto_region 14 with fail
 refine wp_region_lit ?_
 refine nM (.pointer (some ⟨p, 0, none⟩)) ?_;simp only [zz]
 refine wpList_op_g rfl fun K9 HK9 => ?_
 go_wp2_with fail
 refine (Reset_walk HBDe.out).mono ?_
 rintro e wf ⟨⟨vr, rfl⟩, hb, ht⟩
 refine HK9.out _ _ ?_
 clear HK9
 try simp only [zz]
 have HBDf := zH hb
 have HTf := zH (HTe.out.trans ht fun _ _ e => e)
 clear hb ht HBDe HTe
 go_upto_region 15 with fail
 refine wp_region_lit ?_
 refine nM (.pointer (some ⟨p, 0, none⟩)) ?_;simp only [zz]
 refine wpList_op_g rfl fun K9 HK9 => ?_
 go_wp2_with fail
 refine (Look_walk (m := 0) HBDf.out).mono ?_
 rintro e wg ⟨rfl, ht⟩
 refine HK9.out _ _ ?_
 clear HK9
 try simp only [zz]
 rw [show lookL 0 2 0 (resetL 6 (signL 1 2 0 true (signL 0 2 0 true none12))) = false from by decide, show lookL 1 2 0 (resetL 6 (signL 1 2 0 true (signL 0 2 0 true none12))) = true from by decide]
 have HTg := zH (HTf.out.trans ht fun _ _ e => e.elim)
 have HTwg := zH (HTwa.out.trans HTg.out fun k' hk e => by have := HLwp.out; have e : k' = p := e; omega)
 have HBmg := zH (HBma.out.turn (F := only p) HTg.out fun e => HNpm.out e)
 have HBxg := zH (HBxa.out.turn (F := only p) HTg.out fun e => HNpx.out e)
 have HKEYg := zH (show Key wg (some ⟨gk0, 0, none⟩) 1 1 [107] from ⟨sh_turn HKEYa.out.bs (F := only p) HTg.out (fun b off _ e => by injection e with e; injection e with e1 e2; subst e1; exact fun e => by have := HNpk.out; exact this e), HKEYa.out.le, HKEYa.out.nil, HKEYa.out.lim⟩)
 have HFLg := zH (fl_turn HFLa.out HTg.out (fun b o t e => by injection e with e; injection e with e1 e2; subst e1; have := HNp5.out; exact this))
 have HMGg := zH (show Mg wg (some ⟨g5, 0, none⟩) 2 c5 shY2 from ⟨HFLg.out, (fun h => by cases h), by decide, txts_small (by decide)⟩)
 clear ht HBDf HTf HTg
 refine nM (.tuple #[.bool false, .bool true]) ?_;simp only [zz];refine nE (.bool false) ?_;simp only [zz];refine nE (.bool true) ?_;simp only [zz];refine nA (.bool false) ?_;simp only [zz];refine nA (.bool true) ?_;simp only [zz]
 go_upto_region 16 with fail
 refine wp_region_lit ?_
 refine nR (.agg (memC [] 1 (some ⟨gk0, 0, none⟩) 1 1 0 0)) (gx_loads_g rfl rfl (blk_range_g HBmg.out) Tryz.underlying26 rfl (by rw [size_mem]; rfl)) ?_;simp only [zz];refine nR (msgV 800 (some ⟨g5, 0, none⟩) 2 c5) (gx_loads_g rfl rfl (blk_range_g HBxg.out) Tryz.underlying29 rfl (by rw [size_mg]; rfl)) ?_;simp only [zz]
 refine wpList_op_g rfl fun K9 HK9 => ?_
 go_wp2_with fail
 refine (SCheck_walk (m1 := 0) (m2 := 0) (code := []) (d := 1) (ty := 800) (HE.out.turn HTwg.out) (HK.out.turn HTwg.out) HKEYg.out HMGg.out).mono ?_
 rintro e wz ⟨rfl, ht⟩
 refine HK9.out _ _ ?_
 clear HK9
 try simp only [zz]
 rw [sh_c2]
 have HTZ := zH (HTwg.out.trans ht fun _ _ e => e)
 clear ht
 refine nR (.bool true) (ix_eql rfl rfl rfl (by decide)) ?_;simp only [zz];refine nM (.bool true) ?_;simp only [zz];refine wM (.bool true) ?_;simp only [zz];refine nR (.bool true) (ix_pickT rfl rfl rfl) ?_;simp only [zz];refine nM (.bool true) ?_;simp only [zz];refine wM (.bool false) ?_;simp only [zz];refine wS (.bool true) (ix_not (b := false) rfl rfl) ?_;simp only [zz];refine nR (.bool true) (ix_pickT rfl rfl rfl) ?_;simp only [zz];refine nM (.bool true) ?_;simp only [zz];refine wM (.bool false) ?_;simp only [zz];refine wS (.bool true) (ix_not (b := false) rfl rfl) ?_;simp only [zz];refine nR (.bool true) (ix_pickT rfl rfl rfl) ?_;simp only [zz];refine nM (.bool true) ?_;simp only [zz];refine wM (.bool true) ?_;simp only [zz];refine nR (.bool true) (ix_pickT rfl rfl rfl) ?_;simp only [zz];refine nA (.bool true) ?_;simp only [zz]
 go_wp2_with fail
 go_ret
 exact ⟨rfl, HTZ.out⟩
section
variable {P : Program} {md : Region.Mode} {ops : Array Oper} {Q : Exit → Act → World → Prop} {S : World → Prop}
theorem alw_two {i k : Nat} {oi ok : Oper} {n : Nat} {l : Array Bool} {a : Act} {w : World} (hr : Region.ready md ops l = [i, k]) (hi : ops.toList[i]? = some oi) (hk : ops.toList[k]? = some ok)
 (wi : Region.wanted oi (yielded ops a.tmps) = true) (wk : Region.wanted ok (yielded ops a.tmps) = true)
 (hA : ∀ K : Act → World → Prop, Shut (∀ a' w', (S w' ∧ Alw P md ops Q S n (l.setIfInBounds i true) a' w') → K a' w') → oi.wp P a w K Q)
 (hB : ∀ K : Act → World → Prop, Shut (∀ a' w', (S w' ∧ Alw P md ops Q S n (l.setIfInBounds k true) a' w') → K a' w') → ok.wp P a w K Q) : Alw P md ops Q S (n + 1) l a w := by
 have ho : ops[i]? = some oi := by rw [← hi, Array.getElem?_toList]
 have hok : ops[k]? = some ok := by rw [← hk, Array.getElem?_toList]
 refine ⟨fun h0 => (by rw [h0] at hr; cases hr), fun j hj => ?_⟩
 rw [hr] at hj
 have hj2 : j = i ∨ j = k := by simpa using hj
 rcases hj2 with rfl | rfl
 ·unfold wpOp
  simp only [ho, wi, if_true]
  exact .inl (hA _ fun _ _ h' => h')
 ·unfold wpOp
  simp only [hok, wk, if_true]
  exact .inl (hB _ fun _ _ h' => h')
end
theorem own_made {w wx : World} (hT : Turn nowhere w wx) : FRow (wx.alloc (.cells #[] 38)) w.heap.size (.slice (some ⟨wx.heap.size, 0, none⟩) 0 0) [] := World.ownsRow_made wx #[] 0 hT.size (by unfold maxLen; omega) rfl
theorem own_app {w wx : World} {g : Nat} {A : Option Addr} {n c : Nat} {fs : List Fld} (hrow : FRow wx w.heap.size (.slice (some ⟨g, 0, none⟩) 0 0) []) (hT : Turn nowhere w wx) (hf : Fl w A n fs) (hz : A = none → c = 0) (hm : n * 24 ≤ 140737488351232) :
 ∃ A' c' w', (Builtin.append_ #[27, 27] 27 #[.slice (some ⟨g, 0, none⟩) 0 0, .slice A n c]).run Tryz.prog wx = .ok (.slice A' n c') w' ∧ FRow w' w.heap.size (.slice A' n c') fs ∧ Turn nowhere w w' ∧ wx.grownBy w' (some g) := by
 obtain ⟨A', c', w', h1, h2, h3⟩ := frow_grow (ty := 27) (c := c) hrow hT.size (hf.still hT) hz (by simp; omega)
 have hl : ([] : List Fld).length + n = n := by simp
 rw [hl] at h1 h2
 refine ⟨A', c', w', h1, h2, hT.grown h3 fun q e hq => ?_, h3⟩
 have := (hrow.lt q e).1
 omega
theorem own_end {w w6 w7 : World} {g : Nat} {v : Value} {fs : List Fld} {cs : Array Value} (hro : FRow w6 w.heap.size v fs) (hb6 : Blk w6 g 29 cs) (ht : Turn nowhere w w6) (hg : w.heap.size ≤ g) (h7 : Turn (only g) w6 w7) : FRow w7 w.heap.size v fs ∧ Turn nowhere w w7 :=
 ⟨hro.turn h7 (fun q hq e => hro.ne hb6 (by decide) q hq e), above ht hg h7⟩
end Go.Proofs.YtkagijifkpoplaaGreatDoor
