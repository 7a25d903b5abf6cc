/-
  Texts in one file: SsE. Conditions: the tables and the errors read as the program's text lays them.
-/
import Derived.Test.YtfnillibngijaaaGreatDoorJB28
namespace Go.Proofs.YtfnillibngijaaaGreatDoor
open Go.RowKit
open Sh (Wd B8 H8)
set_option linter.unusedVariables false
set_option linter.unusedSimpArgs false
set_option maxRecDepth 20000
/-- a board's cells: how many members, then who is signed on and who is blocked, one behind the other -/
def bdC (n : Int) (l : List Bool) : Array Value := (Value.int .i64 n :: l.map fun b => Value.bool b).toArray
theorem bdC_size (n : Int) (l : List Bool) : (bdC n l).size = l.length + 1 := by simp [bdC]
theorem bdC_one (n : Int) (l : List Bool) : ∀ v ∈ (bdC n l).toList, v.oneCell' = true := fun v hv => by
  simp only [bdC, List.mem_cons, List.mem_map] at hv
  rcases hv with rfl | ⟨x, -, rfl⟩ <;> rfl
theorem bdC_at (n : Int) (l : List Bool) {j : Nat} (h : j < l.length) : (bdC n l)[1 + j]? = some (.bool (l.getD j false)) := by
  rw [show 1 + j = j + 1 from by omega]
  simp only [bdC, List.getElem?_toArray, List.getElem?_cons_succ, List.getElem?_map]
  rw [List.getD_eq_getElem?_getD, List.getElem?_eq_getElem h]
  rfl
theorem bdC_set (n : Int) (l : List Bool) (j : Nat) (v : Bool) : (bdC n l).setIfInBounds (1 + j) (.bool v) = bdC n (l.set j v) := by
  rw [show 1 + j = j + 1 from by omega]
  simp [bdC, List.setIfInBounds_toArray, List.map_set]
theorem size_bd : (Tryz.prog.info? 61).map (·.size) = some 13 := by kernel_rfl
theorem size_st : (Tryz.prog.info? 58).map (·.size) = some 2 := by kernel_rfl
theorem size_bl : (Tryz.prog.info? 4).map (·.size) = some 1 := by kernel_rfl
def none12 : List Bool := List.replicate 12 false
theorem build_bd (n : Int) (W : World) : (Instr.build 61 #[(0, .int .i64 n)]).run Tryz.prog W = .ok (.agg (bdC n none12)) W := by kernel_rfl
theorem box_bd (n : Int) (l : List Bool) (w : World) : (Instr.box 61 (.agg (bdC n l))).run Tryz.prog w = .ok (.pointer (some ⟨w.heap.size, 0, none⟩)) (w.alloc (.cells (bdC n l) 61)) := by
  simp [Instr.box, newVar, newRow, Result.andThen, Value.cells]
theorem gx_box9 {P : Program} {a : Act} {o : Oper} {W W' : World} {t : TypeId} {x : Operand} {u v : Value} (ho : o.op = .box t x) (hx : a.eval x = u) (h : (Instr.box t u).run P W = .ok v W') : (execOp a.eval o).run P W = .ok (.value v) W' := by
  unfold execOp
  simp only [ho, hx, h, Sem.run_bind, Sem.run_pure, Result.andThen_ok]
theorem zero_bd (w : World) : (zeroValue 61).run Tryz.prog w = .ok (.agg (bdC 0 none12)) w := by kernel_rfl
theorem zero_st9 (w : World) : (zeroValue 58).run Tryz.prog w = .ok (.agg #[.bool false, .bool false]) w := by kernel_rfl
/-- there is such a member -/
def isM (n m : Int) : Prop := 0 ≤ m ∧ m < n
instance (n m : Int) : Decidable (isM n m) := by unfold isM; infer_instance
/-- so many members a board may have -/
def okN (m : Int) : Prop := 1 ≤ m ∧ m ≤ 6
/-- a board in memory -/
structure Bd (w : World) (p : Nat) (n : Int) (l : List Bool) : Prop where
  blk : Blk w p 61 (bdC n l)
  len : l.length = 12
  lo : 1 ≤ n
  hi : n ≤ 6
theorem Bd.turn {F : Nat → Prop} {w w' : World} {p : Nat} {n : Int} {l : List Bool} (h : Bd w p n l) (ht : Turn F w w') (hp : ¬ F p) : Bd w' p n l := ⟨h.blk.turn ht hp, h.len, h.lo, h.hi⟩
theorem Bd.still {w w' : World} {p : Nat} {n : Int} {l : List Bool} (h : Bd w p n l) (ht : Turn nowhere w w') : Bd w' p n l := h.turn ht fun e => e
theorem isM_nat {n m : Int} (h : isM n m) (hn : n ≤ 6) : ∃ i : Nat, m = (i : Int) ∧ i < 6 := ⟨m.toNat, by have := h.1; omega, by have := h.1; have := h.2; omega⟩
theorem bd_ld {w : World} {p : Nat} {n : Int} {l : List Bool} (h : Bd w p n l) {j : Nat} (hj : j < 12) : w.cell? ⟨p, 1 + j, none⟩ = some (.bool (l.getD j false)) := by
  rw [h.blk.cell, bdC_at _ _ (by rw [h.len]; exact hj)]
def signL (k : Nat) (n m : Int) (on : Bool) (l : List Bool) : List Bool := if isM n m then l.set (2 * m.toNat + k) on else l
def lookL (k : Nat) (n m : Int) (l : List Bool) : Bool := if isM n m then l.getD (2 * m.toNat + k) false else false
def codeM (n m : Int) : Int := if isM n m then 0 else 130
theorem rng_st {w : World} {p : Nat} {n : Int} {l : List Bool} (h : Bd w p n l) {i : Nat} (hi : i < 6) : w.rangeAt p (1 + i * 2) [.bool (l.getD (2 * i) false), .bool (l.getD (2 * i + 1) false)] := by
  intro j v hv
  match j with
  | 0 =>
    obtain rfl : Value.bool (l.getD (2 * i) false) = v := by simpa using hv
    rw [show 1 + i * 2 + 0 = 1 + 2 * i from by omega]
    exact bd_ld h (by omega)
  | 1 =>
    obtain rfl : Value.bool (l.getD (2 * i + 1) false) = v := by simpa using hv
    rw [show 1 + i * 2 + 1 = 1 + (2 * i + 1) from by omega]
    exact bd_ld h (by omega)
  | j + 2 => simp at hv
theorem bl_not {a : Act} {o : Oper} {W : World} {x : Operand} {t : TypeId} {b r : Bool} (ho : o.op = .unOp .not t x) (hx : a.eval x = .bool b) (h : (!b) = r) : (execOp a.eval o).run Tryz.prog W = .ok (.value (.bool r)) W := by
  subst h
  unfold execOp
  simp only [ho, hx]
  go_simp
set_option maxRecDepth 20000 in
set_option maxHeartbeats 4000000 in
theorem New_walk (w : World) (m : Int) (hm : -9223372036854775808 ≤ m ∧ m ≤ 9223372036854775807) : Calls Tryz.prog 5 #[.int .i64 m] w fun e w' =>
    (okN m ∧ ∃ p, e = .returned (.tuple #[.pointer (some ⟨p, 0, none⟩), .int .i64 0]) ∧ Bd w' p m none12 ∧ w.heap.size ≤ p ∧ Turn nowhere w w') ∨ (¬ okN m ∧ e = .returned (.tuple #[.pointer none, .int .i64 130]) ∧ Turn nowhere w w') := by
  have HM := Lib.hid hm
  clear hm
  go_enter Tryz.func5, Tryz.ntmps5
  by_cases h1 : m < 1
  · have H1 := Lib.hid h1
    clear h1
    go_upto_region 0 with fail
    refine wp_region_lit ?_
    refine wpList_run (v := .pointer none) (wanted_none rfl) (gx_assign rfl rfl) ?_
    simp only [Act.put, List.setIfInBounds_toArray, List.set_cons_zero, List.set_cons_succ]
    refine wpList_run (v := .int .i64 0) (wanted_none rfl) (gx_assign rfl rfl) ?_
    simp only [Act.put, List.setIfInBounds_toArray, List.set_cons_zero, List.set_cons_succ]
    go_upto_region 1 with fail
    refine wp_region_lit ?_
    refine wpList_run (v := .int .i64 m) (wanted_none rfl) (exec_move rfl rfl) ?_
    simp only [Act.put, List.setIfInBounds_toArray, List.set_cons_zero, List.set_cons_succ]
    refine wpList_run (v := .bool true) (wanted_none rfl) (ix_lss rfl rfl rfl (decide_eq_true H1.out)) ?_
    simp only [Act.put, List.setIfInBounds_toArray, List.set_cons_zero, List.set_cons_succ]
    refine wpList_run (v := .bool true) (wanted_none rfl) (exec_move rfl rfl) ?_
    simp only [Act.put, List.setIfInBounds_toArray, List.set_cons_zero, List.set_cons_succ]
    refine wpList_skip (by go_simp) ?_
    simp only [Act.put, List.setIfInBounds_toArray, List.set_cons_zero, List.set_cons_succ]
    refine wpList_skip (by go_simp) ?_
    simp only [Act.put, List.setIfInBounds_toArray, List.set_cons_zero, List.set_cons_succ]
    refine wpList_run (v := .bool true) (wanted_none rfl) (ix_pickT rfl rfl rfl) ?_
    simp only [Act.put, List.setIfInBounds_toArray, List.set_cons_zero, List.set_cons_succ]
    go_upto_region 2 with fail
    refine wp_region_lit ?_
    refine wpList_run (v := .pointer none) (wanted_none rfl) (gx_assign rfl rfl) ?_
    simp only [Act.put, List.setIfInBounds_toArray, List.set_cons_zero, List.set_cons_succ]
    refine wpList_run (v := .int .i64 130) (wanted_none rfl) (gx_assign rfl rfl) ?_
    simp only [Act.put, List.setIfInBounds_toArray, List.set_cons_zero, List.set_cons_succ]
    go_wp2_with fail
    go_ret2
    exact .inr ⟨fun h => by have := H1.out; have := h.1; omega, rfl, Turn.refl _ _⟩
  · have H1 := Lib.hid (show 1 ≤ m from by omega)
    have HN1 := Lib.hid h1
    clear h1
    by_cases h6 : 6 < m
    · have H6 := Lib.hid h6
      clear h6
      go_upto_region 0 with fail
      refine wp_region_lit ?_
      refine wpList_run (v := .pointer none) (wanted_none rfl) (gx_assign rfl rfl) ?_
      simp only [Act.put, List.setIfInBounds_toArray, List.set_cons_zero, List.set_cons_succ]
      refine wpList_run (v := .int .i64 0) (wanted_none rfl) (gx_assign rfl rfl) ?_
      simp only [Act.put, List.setIfInBounds_toArray, List.set_cons_zero, List.set_cons_succ]
      go_upto_region 1 with fail
      refine wp_region_lit ?_
      refine wpList_run (v := .int .i64 m) (wanted_none rfl) (exec_move rfl rfl) ?_
      simp only [Act.put, List.setIfInBounds_toArray, List.set_cons_zero, List.set_cons_succ]
      refine wpList_run (v := .bool false) (wanted_none rfl) (ix_lss rfl rfl rfl (decide_eq_false HN1.out)) ?_
      simp only [Act.put, List.setIfInBounds_toArray, List.set_cons_zero, List.set_cons_succ]
      refine wpList_run (v := .bool false) (wanted_none rfl) (exec_move rfl rfl) ?_
      simp only [Act.put, List.setIfInBounds_toArray, List.set_cons_zero, List.set_cons_succ]
      refine wpList_run (v := .int .i64 m) rfl (exec_move rfl rfl) ?_
      simp only [Act.put, List.setIfInBounds_toArray, List.set_cons_zero, List.set_cons_succ]
      refine wpList_run (v := .bool true) rfl (ix_gtr rfl rfl rfl (decide_eq_true H6.out)) ?_
      simp only [Act.put, List.setIfInBounds_toArray, List.set_cons_zero, List.set_cons_succ]
      refine wpList_run (v := .bool true) (wanted_none rfl) (ix_pickF rfl rfl rfl) ?_
      simp only [Act.put, List.setIfInBounds_toArray, List.set_cons_zero, List.set_cons_succ]
      go_upto_region 2 with fail
      refine wp_region_lit ?_
      refine wpList_run (v := .pointer none) (wanted_none rfl) (gx_assign rfl rfl) ?_
      simp only [Act.put, List.setIfInBounds_toArray, List.set_cons_zero, List.set_cons_succ]
      refine wpList_run (v := .int .i64 130) (wanted_none rfl) (gx_assign rfl rfl) ?_
      simp only [Act.put, List.setIfInBounds_toArray, List.set_cons_zero, List.set_cons_succ]
      go_wp2_with fail
      go_ret2
      exact .inr ⟨fun h => by have := H6.out; have := h.2; omega, rfl, Turn.refl _ _⟩
    · have H6 := Lib.hid h6
      clear h6
      go_upto_region 0 with fail
      refine wp_region_lit ?_
      refine wpList_run (v := .pointer none) (wanted_none rfl) (gx_assign rfl rfl) ?_
      simp only [Act.put, List.setIfInBounds_toArray, List.set_cons_zero, List.set_cons_succ]
      refine wpList_run (v := .int .i64 0) (wanted_none rfl) (gx_assign rfl rfl) ?_
      simp only [Act.put, List.setIfInBounds_toArray, List.set_cons_zero, List.set_cons_succ]
      go_upto_region 1 with fail
      refine wp_region_lit ?_
      refine wpList_run (v := .int .i64 m) (wanted_none rfl) (exec_move rfl rfl) ?_
      simp only [Act.put, List.setIfInBounds_toArray, List.set_cons_zero, List.set_cons_succ]
      refine wpList_run (v := .bool false) (wanted_none rfl) (ix_lss rfl rfl rfl (decide_eq_false HN1.out)) ?_
      simp only [Act.put, List.setIfInBounds_toArray, List.set_cons_zero, List.set_cons_succ]
      refine wpList_run (v := .bool false) (wanted_none rfl) (exec_move rfl rfl) ?_
      simp only [Act.put, List.setIfInBounds_toArray, List.set_cons_zero, List.set_cons_succ]
      refine wpList_run (v := .int .i64 m) rfl (exec_move rfl rfl) ?_
      simp only [Act.put, List.setIfInBounds_toArray, List.set_cons_zero, List.set_cons_succ]
      refine wpList_run (v := .bool false) rfl (ix_gtr rfl rfl rfl (decide_eq_false H6.out)) ?_
      simp only [Act.put, List.setIfInBounds_toArray, List.set_cons_zero, List.set_cons_succ]
      refine wpList_run (v := .bool false) (wanted_none rfl) (ix_pickF rfl rfl rfl) ?_
      simp only [Act.put, List.setIfInBounds_toArray, List.set_cons_zero, List.set_cons_succ]
      have HB := Lib.hid (Blk.new w 61 (bdC m none12))
      have HT := Lib.hid ((Turn.refl nowhere w).alloc (.cells (bdC m none12) 61))
      go_upto_region 3 with fail
      refine wp_region_lit ?_
      refine wpList_run (v := .int .i64 m) (wanted_none rfl) (exec_move rfl rfl) ?_
      simp only [Act.put, List.setIfInBounds_toArray, List.set_cons_zero, List.set_cons_succ]
      refine wpList_run (v := .agg (bdC m none12)) (wanted_none rfl) (gx_build1_g rfl rfl (build_bd m _)) ?_
      simp only [Act.put, List.setIfInBounds_toArray, List.set_cons_zero, List.set_cons_succ]
      refine wpList_run (v := .pointer (some ⟨w.heap.size, 0, none⟩)) (w' := w.alloc (.cells (bdC m none12) 61)) (wanted_none rfl) (gx_box9 rfl rfl (box_bd m none12 w)) ?_
      simp only [Act.put, List.setIfInBounds_toArray, List.set_cons_zero, List.set_cons_succ]
      refine wpList_run (v := .pointer (some ⟨w.heap.size, 0, none⟩)) (wanted_none rfl) (gx_assign rfl rfl) ?_
      simp only [Act.put, List.setIfInBounds_toArray, List.set_cons_zero, List.set_cons_succ]
      refine wpList_run (v := .int .i64 0) (wanted_none rfl) (gx_assign rfl rfl) ?_
      simp only [Act.put, List.setIfInBounds_toArray, List.set_cons_zero, List.set_cons_succ]
      go_wp2_with fail
      go_ret2
      exact .inl ⟨⟨H1.out, by have := H6.out; omega⟩, _, rfl, ⟨HB.out, rfl, H1.out, by have := H6.out; omega⟩, Nat.le_refl _, HT.out⟩
set_option maxRecDepth 20000 in
set_option maxHeartbeats 4000000 in
theorem has_walk {w : World} {p : Nat} {n m : Int} {l : List Bool} (h : Bd w p n l) : Calls Tryz.prog 19 #[.pointer (some ⟨p, 0, none⟩), .int .i64 m] w fun e w' => e = .returned (.bool (decide (isM n m))) ∧ w = w' := by
  have H := Lib.hid h
  clear h
  go_enter Tryz.func19, Tryz.ntmps19
  by_cases h0 : 0 ≤ m
  · have H0 := Lib.hid h0
    have HD := Lib.hid (show decide (m < n) = decide (isM n m) from decide_eq_decide.2 ⟨fun h => ⟨h0, h⟩, fun h => h.2⟩)
    clear h0
    go_upto_region 0 with fail
    refine wp_region_lit ?_
    refine wpList_run (v := .bool false) (wanted_none rfl) (gx_assign rfl rfl) ?_
    simp only [Act.put, List.setIfInBounds_toArray, List.set_cons_zero, List.set_cons_succ]
    go_upto_region 1 with fail
    refine wp_region_lit ?_
    refine wpList_run (v := .int .i64 m) (wanted_none rfl) (exec_move rfl rfl) ?_
    simp only [Act.put, List.setIfInBounds_toArray, List.set_cons_zero, List.set_cons_succ]
    refine wpList_run (v := .bool true) (wanted_none rfl) (ix_geq rfl rfl rfl (decide_eq_true H0.out)) ?_
    simp only [Act.put, List.setIfInBounds_toArray, List.set_cons_zero, List.set_cons_succ]
    refine wpList_run (v := .bool true) (wanted_none rfl) (exec_move rfl rfl) ?_
    simp only [Act.put, List.setIfInBounds_toArray, List.set_cons_zero, List.set_cons_succ]
    refine wpList_run (v := .int .i64 m) rfl (exec_move rfl rfl) ?_
    simp only [Act.put, List.setIfInBounds_toArray, List.set_cons_zero, List.set_cons_succ]
    refine wpList_run (v := .pointer (some ⟨p, 0, none⟩)) rfl (exec_move rfl rfl) ?_
    simp only [Act.put, List.setIfInBounds_toArray, List.set_cons_zero, List.set_cons_succ]
    refine wpList_run (v := .pointer (some ⟨p, 0, none⟩)) rfl (exec_nil rfl rfl) ?_
    simp only [Act.put, List.setIfInBounds_toArray, List.set_cons_zero, List.set_cons_succ]
    refine wpList_run (v := .pointer (some ⟨p, 0, none⟩)) rfl (exec_field (off := 0) (d := 0) rfl rfl (by kernel_rfl)) ?_
    simp only [Act.put, List.setIfInBounds_toArray, List.set_cons_zero, List.set_cons_succ]
    refine wpList_run (v := .int .i64 n) rfl (exec_load1 rfl rfl (by kernel_rfl) (H.out.blk.cell 0)) ?_
    simp only [Act.put, List.setIfInBounds_toArray, List.set_cons_zero, List.set_cons_succ]
    refine wpList_run (v := .bool (decide (isM n m))) rfl (ix_lss rfl rfl rfl HD.out) ?_
    simp only [Act.put, List.setIfInBounds_toArray, List.set_cons_zero, List.set_cons_succ]
    refine wpList_run (v := .bool (decide (isM n m))) (wanted_none rfl) (ix_pickT rfl rfl rfl) ?_
    simp only [Act.put, List.setIfInBounds_toArray, List.set_cons_zero, List.set_cons_succ]
    refine wpList_run (v := .bool (decide (isM n m))) (wanted_none rfl) (gx_assign rfl rfl) ?_
    simp only [Act.put, List.setIfInBounds_toArray, List.set_cons_zero, List.set_cons_succ]
    go_wp2_with fail
    go_ret
    exact ⟨rfl, rfl⟩
  · have H0 := Lib.hid h0
    have HD := Lib.hid (show decide (isM n m) = false from decide_eq_false fun h => h0 h.1)
    clear h0
    go_upto_region 0 with fail
    refine wp_region_lit ?_
    refine wpList_run (v := .bool false) (wanted_none rfl) (gx_assign rfl rfl) ?_
    simp only [Act.put, List.setIfInBounds_toArray, List.set_cons_zero, List.set_cons_succ]
    go_upto_region 1 with fail
    refine wp_region_lit ?_
    refine wpList_run (v := .int .i64 m) (wanted_none rfl) (exec_move rfl rfl) ?_
    simp only [Act.put, List.setIfInBounds_toArray, List.set_cons_zero, List.set_cons_succ]
    refine wpList_run (v := .bool false) (wanted_none rfl) (ix_geq rfl rfl rfl (decide_eq_false H0.out)) ?_
    simp only [Act.put, List.setIfInBounds_toArray, List.set_cons_zero, List.set_cons_succ]
    refine wpList_run (v := .bool false) (wanted_none rfl) (exec_move rfl rfl) ?_
    simp only [Act.put, List.setIfInBounds_toArray, List.set_cons_zero, List.set_cons_succ]
    refine wpList_skip (by go_simp) ?_
    simp only [Act.put, List.setIfInBounds_toArray, List.set_cons_zero, List.set_cons_succ]
    refine wpList_skip (by go_simp) ?_
    simp only [Act.put, List.setIfInBounds_toArray, List.set_cons_zero, List.set_cons_succ]
    refine wpList_skip (by go_simp) ?_
    simp only [Act.put, List.setIfInBounds_toArray, List.set_cons_zero, List.set_cons_succ]
    refine wpList_skip (by go_simp) ?_
    simp only [Act.put, List.setIfInBounds_toArray, List.set_cons_zero, List.set_cons_succ]
    refine wpList_skip (by go_simp) ?_
    simp only [Act.put, List.setIfInBounds_toArray, List.set_cons_zero, List.set_cons_succ]
    refine wpList_skip (by go_simp) ?_
    simp only [Act.put, List.setIfInBounds_toArray, List.set_cons_zero, List.set_cons_succ]
    refine wpList_run (v := .bool false) (wanted_none rfl) (ix_pickF rfl rfl rfl) ?_
    simp only [Act.put, List.setIfInBounds_toArray, List.set_cons_zero, List.set_cons_succ]
    refine wpList_run (v := .bool false) (wanted_none rfl) (gx_assign rfl rfl) ?_
    simp only [Act.put, List.setIfInBounds_toArray, List.set_cons_zero, List.set_cons_succ]
    go_wp2_with fail
    go_ret
    rw [HD.out]
    exact ⟨rfl, rfl⟩
set_option maxRecDepth 20000 in
set_option maxHeartbeats 4000000 in
theorem Sign_walk {w : World} {p : Nat} {n m : Int} {l : List Bool} {on : Bool} (h : Bd w p n l) : Calls Tryz.prog 10 #[.pointer (some ⟨p, 0, none⟩), .int .i64 m, .bool on] w fun e w' => e = .returned (.int .i64 (codeM n m)) ∧ Bd w' p n (signL 0 n m on l) ∧ Turn (only p) w w' := by
  have H := Lib.hid h
  clear h
  go_enter Tryz.func10, Tryz.ntmps10
  go_upto_region 0 with fail
  refine wp_region_lit ?_
  refine wpList_run (v := .int .i64 0) (wanted_none rfl) (gx_assign rfl rfl) ?_
  simp only [Act.put, List.setIfInBounds_toArray, List.set_cons_zero, List.set_cons_succ]
  go_upto_region 1 with fail
  refine wp_region_lit ?_
  refine wpList_run (v := .pointer (some ⟨p, 0, none⟩)) (wanted_none rfl) (exec_move rfl rfl) ?_
  simp only [Act.put, List.setIfInBounds_toArray, List.set_cons_zero, List.set_cons_succ]
  refine wpList_run (v := .int .i64 m) (wanted_none rfl) (exec_move rfl rfl) ?_
  simp only [Act.put, List.setIfInBounds_toArray, List.set_cons_zero, List.set_cons_succ]
  refine wpList_op_g rfl fun K9 HK9 => ?_
  go_wp2_with fail
  refine (has_walk (m := m) H.out).mono ?_
  rintro e w2 ⟨rfl, rfl⟩
  refine HK9.out _ _ ?_
  clear HK9
  try simp only [Act.put, List.setIfInBounds_toArray, List.set_cons_zero, List.set_cons_succ]
  by_cases hm : isM n m
  · have HC := Lib.hid (show codeM n m = 0 from if_pos hm)
    have HD := Lib.hid (show (!decide (isM n m)) = false from by rw [decide_eq_true hm]; rfl)
    obtain ⟨i, rfl, hi⟩ := isM_nat hm H.out.hi
    have HS := Lib.hid (show signL 0 n (i : Int) on l = l.set (2 * i + 0) on from if_pos hm)
    have HI := Lib.hid hi
    clear hm hi
    refine wpList_run (v := .bool false) (wanted_none rfl) (bl_not rfl rfl HD.out) ?_
    simp only [Act.put, List.setIfInBounds_toArray, List.set_cons_zero, List.set_cons_succ]
    go_upto_region 3 with fail
    refine wp_region_lit ?_
    refine wpList_run (v := .pointer (some ⟨p, 0, none⟩)) (wanted_none rfl) (exec_move rfl rfl) ?_
    simp only [Act.put, List.setIfInBounds_toArray, List.set_cons_zero, List.set_cons_succ]
    refine wpList_run (v := .int .i64 (i : Int)) (wanted_none rfl) (exec_move rfl rfl) ?_
    simp only [Act.put, List.setIfInBounds_toArray, List.set_cons_zero, List.set_cons_succ]
    refine wpList_run (v := .bool on) (wanted_none rfl) (exec_move rfl rfl) ?_
    simp only [Act.put, List.setIfInBounds_toArray, List.set_cons_zero, List.set_cons_succ]
    refine wpList_run (v := .pointer (some ⟨p, 0, none⟩)) (wanted_none rfl) (exec_nil rfl rfl) ?_
    simp only [Act.put, List.setIfInBounds_toArray, List.set_cons_zero, List.set_cons_succ]
    refine wpList_run (v := .pointer (some ⟨p, 1, none⟩)) (wanted_none rfl) (exec_field (off := 0) (d := 1) rfl rfl (by kernel_rfl)) ?_
    simp only [Act.put, List.setIfInBounds_toArray, List.set_cons_zero, List.set_cons_succ]
    refine wpList_run (v := .pointer (some ⟨p, 1 + i * 2, none⟩)) (wanted_none rfl) (gx_aaddr_g (i := i) (sz := 2) rfl rfl rfl Tryz.underlying59 size_st HI.out rfl) ?_
    simp only [Act.put, List.setIfInBounds_toArray, List.set_cons_zero, List.set_cons_succ]
    refine wpList_run (v := .pointer (some ⟨p, 1 + i * 2, none⟩)) (wanted_none rfl) (exec_field (off := 1 + i * 2) (d := 0) rfl rfl (by kernel_rfl)) ?_
    simp only [Act.put, List.setIfInBounds_toArray, List.set_cons_zero, List.set_cons_succ]
    refine wpList_put (wanted_none rfl) 4 (.tmp 17) (.tmp 13) rfl (.bool on) (bdC n (l.set (2 * i + 0) on)) H.out.blk rfl rfl (by rw [bdC_size, H.out.len]; have := HI.out; omega) rfl rfl size_bl (by rw [show 1 + i * 2 = 1 + (2 * i + 0) from by omega, bdC_set]) ?_
    intro w4 hb4 ht4
    have HB4 := Lib.hid (show Bd w4 p n (signL 0 n (i : Int) on l) from by rw [HS.out]; exact ⟨hb4, by rw [List.length_set, H.out.len], H.out.lo, H.out.hi⟩)
    have HT4 := Lib.hid ht4
    clear hb4 ht4
    simp only [Act.put, List.setIfInBounds_toArray, List.set_cons_zero, List.set_cons_succ]
    go_upto_region 4 with fail
    refine wp_region_lit ?_
    refine wpList_run (v := .int .i64 0) (wanted_none rfl) (gx_assign rfl rfl) ?_
    simp only [Act.put, List.setIfInBounds_toArray, List.set_cons_zero, List.set_cons_succ]
    go_wp2_with fail
    go_ret
    rw [HC.out]
    exact ⟨rfl, HB4.out, HT4.out⟩
  · have HC := Lib.hid (show codeM n m = 130 from if_neg hm)
    have HD := Lib.hid (show (!decide (isM n m)) = true from by rw [decide_eq_false hm]; rfl)
    have HS := Lib.hid (show signL 0 n m on l = l from if_neg hm)
    clear hm
    refine wpList_run (v := .bool true) (wanted_none rfl) (bl_not rfl rfl HD.out) ?_
    simp only [Act.put, List.setIfInBounds_toArray, List.set_cons_zero, List.set_cons_succ]
    go_upto_region 2 with fail
    refine wp_region_lit ?_
    refine wpList_run (v := .int .i64 130) (wanted_none rfl) (gx_assign rfl rfl) ?_
    simp only [Act.put, List.setIfInBounds_toArray, List.set_cons_zero, List.set_cons_succ]
    go_wp2_with fail
    go_ret
    rw [HC.out, HS.out]
    exact ⟨rfl, H.out, Turn.refl _ _⟩
set_option maxRecDepth 20000 in
set_option maxHeartbeats 4000000 in
theorem Block_walk {w : World} {p : Nat} {n m : Int} {l : List Bool} {on : Bool} (h : Bd w p n l) : Calls Tryz.prog 11 #[.pointer (some ⟨p, 0, none⟩), .int .i64 m, .bool on] w fun e w' => e = .returned (.int .i64 (codeM n m)) ∧ Bd w' p n (signL 1 n m on l) ∧ Turn (only p) w w' := by
  have H := Lib.hid h
  clear h
  go_enter Tryz.func11, Tryz.ntmps11
  go_upto_region 0 with fail
  refine wp_region_lit ?_
  refine wpList_run (v := .int .i64 0) (wanted_none rfl) (gx_assign rfl rfl) ?_
  simp only [Act.put, List.setIfInBounds_toArray, List.set_cons_zero, List.set_cons_succ]
  go_upto_region 1 with fail
  refine wp_region_lit ?_
  refine wpList_run (v := .pointer (some ⟨p, 0, none⟩)) (wanted_none rfl) (exec_move rfl rfl) ?_
  simp only [Act.put, List.setIfInBounds_toArray, List.set_cons_zero, List.set_cons_succ]
  refine wpList_run (v := .int .i64 m) (wanted_none rfl) (exec_move rfl rfl) ?_
  simp only [Act.put, List.setIfInBounds_toArray, List.set_cons_zero, List.set_cons_succ]
  refine wpList_op_g rfl fun K9 HK9 => ?_
  go_wp2_with fail
  refine (has_walk (m := m) H.out).mono ?_
  rintro e w2 ⟨rfl, rfl⟩
  refine HK9.out _ _ ?_
  clear HK9
  try simp only [Act.put, List.setIfInBounds_toArray, List.set_cons_zero, List.set_cons_succ]
  by_cases hm : isM n m
  · have HC := Lib.hid (show codeM n m = 0 from if_pos hm)
    have HD := Lib.hid (show (!decide (isM n m)) = false from by rw [decide_eq_true hm]; rfl)
    obtain ⟨i, rfl, hi⟩ := isM_nat hm H.out.hi
    have HS := Lib.hid (show signL 1 n (i : Int) on l = l.set (2 * i + 1) on from if_pos hm)
    have HI := Lib.hid hi
    clear hm hi
    refine wpList_run (v := .bool false) (wanted_none rfl) (bl_not rfl rfl HD.out) ?_
    simp only [Act.put, List.setIfInBounds_toArray, List.set_cons_zero, List.set_cons_succ]
    go_upto_region 3 with fail
    refine wp_region_lit ?_
    refine wpList_run (v := .pointer (some ⟨p, 0, none⟩)) (wanted_none rfl) (exec_move rfl rfl) ?_
    simp only [Act.put, List.setIfInBounds_toArray, List.set_cons_zero, List.set_cons_succ]
    refine wpList_run (v := .int .i64 (i : Int)) (wanted_none rfl) (exec_move rfl rfl) ?_
    simp only [Act.put, List.setIfInBounds_toArray, List.set_cons_zero, List.set_cons_succ]
    refine wpList_run (v := .bool on) (wanted_none rfl) (exec_move rfl rfl) ?_
    simp only [Act.put, List.setIfInBounds_toArray, List.set_cons_zero, List.set_cons_succ]
    refine wpList_run (v := .pointer (some ⟨p, 0, none⟩)) (wanted_none rfl) (exec_nil rfl rfl) ?_
    simp only [Act.put, List.setIfInBounds_toArray, List.set_cons_zero, List.set_cons_succ]
    refine wpList_run (v := .pointer (some ⟨p, 1, none⟩)) (wanted_none rfl) (exec_field (off := 0) (d := 1) rfl rfl (by kernel_rfl)) ?_
    simp only [Act.put, List.setIfInBounds_toArray, List.set_cons_zero, List.set_cons_succ]
    refine wpList_run (v := .pointer (some ⟨p, 1 + i * 2, none⟩)) (wanted_none rfl) (gx_aaddr_g (i := i) (sz := 2) rfl rfl rfl Tryz.underlying59 size_st HI.out rfl) ?_
    simp only [Act.put, List.setIfInBounds_toArray, List.set_cons_zero, List.set_cons_succ]
    refine wpList_run (v := .pointer (some ⟨p, 1 + i * 2 + 1, none⟩)) (wanted_none rfl) (exec_field (off := 1 + i * 2) (d := 1) rfl rfl (by kernel_rfl)) ?_
    simp only [Act.put, List.setIfInBounds_toArray, List.set_cons_zero, List.set_cons_succ]
    refine wpList_put (wanted_none rfl) 4 (.tmp 17) (.tmp 13) rfl (.bool on) (bdC n (l.set (2 * i + 1) on)) H.out.blk rfl rfl (by rw [bdC_size, H.out.len]; have := HI.out; omega) rfl rfl size_bl (by rw [show 1 + i * 2 + 1 = 1 + (2 * i + 1) from by omega, bdC_set]) ?_
    intro w4 hb4 ht4
    have HB4 := Lib.hid (show Bd w4 p n (signL 1 n (i : Int) on l) from by rw [HS.out]; exact ⟨hb4, by rw [List.length_set, H.out.len], H.out.lo, H.out.hi⟩)
    have HT4 := Lib.hid ht4
    clear hb4 ht4
    simp only [Act.put, List.setIfInBounds_toArray, List.set_cons_zero, List.set_cons_succ]
    go_upto_region 4 with fail
    refine wp_region_lit ?_
    refine wpList_run (v := .int .i64 0) (wanted_none rfl) (gx_assign rfl rfl) ?_
    simp only [Act.put, List.setIfInBounds_toArray, List.set_cons_zero, List.set_cons_succ]
    go_wp2_with fail
    go_ret
    rw [HC.out]
    exact ⟨rfl, HB4.out, HT4.out⟩
  · have HC := Lib.hid (show codeM n m = 130 from if_neg hm)
    have HD := Lib.hid (show (!decide (isM n m)) = true from by rw [decide_eq_false hm]; rfl)
    have HS := Lib.hid (show signL 1 n m on l = l from if_neg hm)
    clear hm
    refine wpList_run (v := .bool true) (wanted_none rfl) (bl_not rfl rfl HD.out) ?_
    simp only [Act.put, List.setIfInBounds_toArray, List.set_cons_zero, List.set_cons_succ]
    go_upto_region 2 with fail
    refine wp_region_lit ?_
    refine wpList_run (v := .int .i64 130) (wanted_none rfl) (gx_assign rfl rfl) ?_
    simp only [Act.put, List.setIfInBounds_toArray, List.set_cons_zero, List.set_cons_succ]
    go_wp2_with fail
    go_ret
    rw [HC.out, HS.out]
    exact ⟨rfl, H.out, Turn.refl _ _⟩
theorem st_one9 (x y : Bool) : ∀ v ∈ (#[.bool x, .bool y] : Array Value).toList, v.oneCell' = true := fun v hv => by
  simp only [List.mem_cons, List.not_mem_nil, or_false] at hv
  rcases hv with rfl | rfl <;> rfl
set_option maxRecDepth 20000 in
set_option maxHeartbeats 4000000 in
theorem Look_walk {w : World} {p : Nat} {n m : Int} {l : List Bool} (h : Bd w p n l) : Calls Tryz.prog 18 #[.pointer (some ⟨p, 0, none⟩), .int .i64 m] w fun e w' => e = .returned (.tuple #[.bool (lookL 0 n m l), .bool (lookL 1 n m l)]) ∧ Turn nowhere w w' := by
  have H := Lib.hid h
  clear h
  go_enter Tryz.func18, Tryz.ntmps18
  go_upto_region 0 with fail
  refine wp_region_lit ?_
  refine wpList_run (v := .bool false) (wanted_none rfl) (gx_assign rfl rfl) ?_
  simp only [Act.put, List.setIfInBounds_toArray, List.set_cons_zero, List.set_cons_succ]
  refine wpList_run (v := .bool false) (wanted_none rfl) (gx_assign rfl rfl) ?_
  simp only [Act.put, List.setIfInBounds_toArray, List.set_cons_zero, List.set_cons_succ]
  go_upto_region 1 with fail
  refine wp_region_lit ?_
  refine wpList_run (v := .pointer (some ⟨p, 0, none⟩)) (wanted_none rfl) (exec_move rfl rfl) ?_
  simp only [Act.put, List.setIfInBounds_toArray, List.set_cons_zero, List.set_cons_succ]
  refine wpList_run (v := .int .i64 m) (wanted_none rfl) (exec_move rfl rfl) ?_
  simp only [Act.put, List.setIfInBounds_toArray, List.set_cons_zero, List.set_cons_succ]
  refine wpList_op_g rfl fun K9 HK9 => ?_
  go_wp2_with fail
  refine (has_walk (m := m) H.out).mono ?_
  rintro e w2 ⟨rfl, rfl⟩
  refine HK9.out _ _ ?_
  clear HK9
  try simp only [Act.put, List.setIfInBounds_toArray, List.set_cons_zero, List.set_cons_succ]
  by_cases hm : isM n m
  · have HD := Lib.hid (show (!decide (isM n m)) = false from by rw [decide_eq_true hm]; rfl)
    obtain ⟨i, rfl, hi⟩ := isM_nat hm H.out.hi
    have HS0 := Lib.hid (show lookL 0 n (i : Int) l = l.getD (2 * i) false from if_pos hm)
    have HS1 := Lib.hid (show lookL 1 n (i : Int) l = l.getD (2 * i + 1) false from if_pos hm)
    have HI := Lib.hid hi
    have HRG := Lib.hid (rng_st H.out hi)
    obtain ⟨x, hx⟩ : ∃ x, l.getD (2 * i) false = x := ⟨_, rfl⟩
    obtain ⟨y, hy⟩ : ∃ x, l.getD (2 * i + 1) false = x := ⟨_, rfl⟩
    rw [hx] at HS0 HRG
    rw [hy] at HS1 HRG
    clear hm hi hx hy
    refine wpList_run (v := .bool false) (wanted_none rfl) (bl_not rfl rfl HD.out) ?_
    simp only [Act.put, List.setIfInBounds_toArray, List.set_cons_zero, List.set_cons_succ]
    go_upto_region 3 with fail
    refine wp_region_lit ?_
    refine wpList_run (v := .pointer (some ⟨p, 0, none⟩)) (wanted_none rfl) (exec_move rfl rfl) ?_
    simp only [Act.put, List.setIfInBounds_toArray, List.set_cons_zero, List.set_cons_succ]
    refine wpList_run (v := .int .i64 (i : Int)) (wanted_none rfl) (exec_move rfl rfl) ?_
    simp only [Act.put, List.setIfInBounds_toArray, List.set_cons_zero, List.set_cons_succ]
    refine wpList_run (v := .pointer (some ⟨p, 0, none⟩)) (wanted_none rfl) (exec_nil rfl rfl) ?_
    simp only [Act.put, List.setIfInBounds_toArray, List.set_cons_zero, List.set_cons_succ]
    refine wpList_run (v := .pointer (some ⟨p, 1, none⟩)) (wanted_none rfl) (exec_field (off := 0) (d := 1) rfl rfl (by kernel_rfl)) ?_
    simp only [Act.put, List.setIfInBounds_toArray, List.set_cons_zero, List.set_cons_succ]
    refine wpList_run (v := .pointer (some ⟨p, 1 + i * 2, none⟩)) (wanted_none rfl) (gx_aaddr_g (i := i) (sz := 2) rfl rfl rfl Tryz.underlying59 size_st HI.out rfl) ?_
    simp only [Act.put, List.setIfInBounds_toArray, List.set_cons_zero, List.set_cons_succ]
    refine wpList_run (v := .agg #[.bool x, .bool y]) (wanted_none rfl) (gx_loads_g rfl rfl HRG.out Tryz.underlying58 rfl (by rw [size_st]; rfl)) ?_
    simp only [Act.put, List.setIfInBounds_toArray, List.set_cons_zero, List.set_cons_succ]
    refine wpList_run (v := .pointer (some ⟨w.heap.size, 0, none⟩)) (w' := w.alloc (.cells #[.bool false, .bool false] 58)) (wanted_none rfl) (gx_alloc rfl (zero_st9 _)) ?_
    simp only [Act.put, List.setIfInBounds_toArray, List.set_cons_zero, List.set_cons_succ]
    have hb_ := Blk.new w 58 #[.bool false, .bool false]
    have ht_ := (Turn.refl nowhere w).alloc (.cells #[.bool false, .bool false] 58)
    obtain ⟨g, hg_⟩ : ∃ g, g = w.heap.size := ⟨_, rfl⟩
    rw [← hg_] at hb_ ⊢
    have HLg := Lib.hid (show w.heap.size ≤ g from by omega)
    clear hg_
    generalize w.alloc (.cells #[.bool false, .bool false] 58) = w3 at *
    have HBg := Lib.hid hb_
    have HT3 := Lib.hid ht_
    clear hb_ ht_
    refine wpList_store_row (wanted_none rfl) 58 (.tmp 6) (.tmp 16) rfl (#[.bool x, .bool y]) HBg.out rfl rfl (rfl) (by rw [size_st] <;> rfl) (st_one9 _ _) ?_
    intro w4 hb_ ht_
    have HBg4 := Lib.hid hb_
    have HT4 := Lib.hid ht_
    clear hb_ ht_
    simp only [Act.put, List.setIfInBounds_toArray, List.set_cons_zero, List.set_cons_succ]
    have HT34 := Lib.hid (HT3.out.trans HT4.out fun k' hk e => by have := HLg.out; have e : k' = g := e; omega)
    go_upto_region 4 with fail
    refine wp_region_alw (fun W => Blk W g 58 #[.bool x, .bool y]) (by kernel_rfl) ?_
    have hS0 : (fun W => Blk W g 58 #[.bool x, .bool y]) w4.drew := HBg4.out.drew
    have HD := Lib.hid ((Turn.refl nowhere w4).drew)
    generalize w4.drew = wd at *
    refine alw_take (i := 0) (v := .pointer (some ⟨g, 0, none⟩)) rfl (by kernel_rfl) (by kernel_rfl) (fun _ _ _ h => h) (.inl ⟨by rfl, fun W hW => exec_field (off := 0) (d := 0) rfl rfl (by kernel_rfl)⟩) hS0 ?_
    simp only [Act.put, List.setIfInBounds_toArray, List.set_cons_zero, List.set_cons_succ]
    refine alw_take (i := 1) (v := .bool x) rfl (by kernel_rfl) (by kernel_rfl) (fun _ _ _ h => h) (.inl ⟨by rfl, fun W hW => exec_load1 rfl rfl (by kernel_rfl) (hW.cell 0)⟩) hS0 ?_
    simp only [Act.put, List.setIfInBounds_toArray, List.set_cons_zero, List.set_cons_succ]
    refine alw_take (i := 2) (v := .pointer (some ⟨g, 1, none⟩)) rfl (by kernel_rfl) (by kernel_rfl) (fun _ _ _ h => h) (.inl ⟨by rfl, fun W hW => exec_field (off := 0) (d := 1) rfl rfl (by kernel_rfl)⟩) hS0 ?_
    simp only [Act.put, List.setIfInBounds_toArray, List.set_cons_zero, List.set_cons_succ]
    refine alw_take (i := 3) (v := .bool y) rfl (by kernel_rfl) (by kernel_rfl) (fun _ _ _ h => h) (.inl ⟨by rfl, fun W hW => exec_load1 rfl rfl (by kernel_rfl) (hW.cell 1)⟩) hS0 ?_
    simp only [Act.put, List.setIfInBounds_toArray, List.set_cons_zero, List.set_cons_succ]
    refine alw_take (i := 4) (v := .bool x) rfl (by kernel_rfl) (by kernel_rfl) (fun _ _ _ h => h) (.inl ⟨by rfl, fun W hW => gx_assign rfl rfl⟩) hS0 ?_
    simp only [Act.put, List.setIfInBounds_toArray, List.set_cons_zero, List.set_cons_succ]
    refine alw_take (i := 5) (v := .bool y) rfl (by kernel_rfl) (by kernel_rfl) (fun _ _ _ h => h) (.inl ⟨by rfl, fun W hW => gx_assign rfl rfl⟩) hS0 ?_
    simp only [Act.put, List.setIfInBounds_toArray, List.set_cons_zero, List.set_cons_succ]
    refine alw_done rfl ?_
    refine NoPanic.normal ?_
    clear hS0
    try simp only [Act.put, List.setIfInBounds_toArray, List.set_cons_zero, List.set_cons_succ]
    go_wp2_with fail
    go_ret2
    rw [HS0.out, HS1.out]
    exact ⟨rfl, HT34.out.trans HD.out fun _ _ e => e⟩
  · have HD := Lib.hid (show (!decide (isM n m)) = true from by rw [decide_eq_false hm]; rfl)
    have HS0 := Lib.hid (show lookL 0 n m l = false from if_neg hm)
    have HS1 := Lib.hid (show lookL 1 n m l = false from if_neg hm)
    clear hm
    refine wpList_run (v := .bool true) (wanted_none rfl) (bl_not rfl rfl HD.out) ?_
    simp only [Act.put, List.setIfInBounds_toArray, List.set_cons_zero, List.set_cons_succ]
    go_upto_region 2 with fail
    refine wp_region_lit ?_
    refine wpList_run (v := .bool false) (wanted_none rfl) (gx_assign rfl rfl) ?_
    simp only [Act.put, List.setIfInBounds_toArray, List.set_cons_zero, List.set_cons_succ]
    refine wpList_run (v := .bool false) (wanted_none rfl) (gx_assign rfl rfl) ?_
    simp only [Act.put, List.setIfInBounds_toArray, List.set_cons_zero, List.set_cons_succ]
    go_wp2_with fail
    go_ret2
    rw [HS0.out, HS1.out]
    exact ⟨rfl, Turn.refl _ _⟩
def readyL (n m : Int) (l : List Bool) : Bool := lookL 0 n m l && !lookL 1 n m l
set_option maxRecDepth 20000 in
set_option maxHeartbeats 4000000 in
theorem Ready_walk {w : World} {p : Nat} {n m : Int} {l : List Bool} (h : Bd w p n l) : Calls Tryz.prog 17 #[.pointer (some ⟨p, 0, none⟩), .int .i64 m] w fun e w' => e = .returned (.bool (readyL n m l)) ∧ Turn nowhere w w' := by
  have H := Lib.hid h
  clear h
  have HR := Lib.hid (show readyL n m l = (lookL 0 n m l && !lookL 1 n m l) from rfl)
  have HW := Lib.hid (Look_walk (m := m) H.out)
  obtain ⟨x, hx⟩ : ∃ x, lookL 0 n m l = x := ⟨_, rfl⟩
  obtain ⟨y, hy⟩ : ∃ x, lookL 1 n m l = x := ⟨_, rfl⟩
  rw [hx, hy] at HR HW
  rw [HR.out]
  clear hx hy
  go_enter Tryz.func17, Tryz.ntmps17
  go_upto_region 0 with fail
  refine wp_region_lit ?_
  refine wpList_run (v := .bool false) (wanted_none rfl) (gx_assign rfl rfl) ?_
  simp only [Act.put, List.setIfInBounds_toArray, List.set_cons_zero, List.set_cons_succ]
  go_upto_region 1 with fail
  refine wp_region_lit ?_
  refine wpList_run (v := .pointer (some ⟨p, 0, none⟩)) (wanted_none rfl) (exec_move rfl rfl) ?_
  simp only [Act.put, List.setIfInBounds_toArray, List.set_cons_zero, List.set_cons_succ]
  refine wpList_run (v := .int .i64 m) (wanted_none rfl) (exec_move rfl rfl) ?_
  simp only [Act.put, List.setIfInBounds_toArray, List.set_cons_zero, List.set_cons_succ]
  refine wpList_op_g rfl fun K9 HK9 => ?_
  go_wp2_with fail
  refine (HW.out).mono ?_
  rintro e w2 ⟨rfl, ht⟩
  refine HK9.out _ _ ?_
  clear HK9
  try simp only [Act.put, List.setIfInBounds_toArray, List.set_cons_zero, List.set_cons_succ]
  have HT := Lib.hid ht
  clear ht
  refine wpList_run (v := .tuple #[.bool x, .bool y]) (wanted_none rfl) (exec_move rfl rfl) ?_
  simp only [Act.put, List.setIfInBounds_toArray, List.set_cons_zero, List.set_cons_succ]
  refine wpList_run (v := .bool x) (wanted_none rfl) (ix_extract rfl rfl rfl) ?_
  simp only [Act.put, List.setIfInBounds_toArray, List.set_cons_zero, List.set_cons_succ]
  refine wpList_run (v := .bool y) (wanted_none rfl) (ix_extract rfl rfl rfl) ?_
  simp only [Act.put, List.setIfInBounds_toArray, List.set_cons_zero, List.set_cons_succ]
  refine wpList_run (v := .bool x) (wanted_none rfl) (gx_assign rfl rfl) ?_
  simp only [Act.put, List.setIfInBounds_toArray, List.set_cons_zero, List.set_cons_succ]
  refine wpList_run (v := .bool y) (wanted_none rfl) (gx_assign rfl rfl) ?_
  simp only [Act.put, List.setIfInBounds_toArray, List.set_cons_zero, List.set_cons_succ]
  cases x
  · go_upto_region 2 with fail
    refine wp_region_lit ?_
    refine wpList_run (v := .bool false) (wanted_none rfl) (exec_move rfl rfl) ?_
    simp only [Act.put, List.setIfInBounds_toArray, List.set_cons_zero, List.set_cons_succ]
    refine wpList_run (v := .bool false) (wanted_none rfl) (exec_move rfl rfl) ?_
    simp only [Act.put, List.setIfInBounds_toArray, List.set_cons_zero, List.set_cons_succ]
    refine wpList_skip (by go_simp) ?_
    simp only [Act.put, List.setIfInBounds_toArray, List.set_cons_zero, List.set_cons_succ]
    refine wpList_skip (by go_simp) ?_
    simp only [Act.put, List.setIfInBounds_toArray, List.set_cons_zero, List.set_cons_succ]
    refine wpList_run (v := .bool false) (wanted_none rfl) (ix_pickF rfl rfl rfl) ?_
    simp only [Act.put, List.setIfInBounds_toArray, List.set_cons_zero, List.set_cons_succ]
    refine wpList_run (v := .bool false) (wanted_none rfl) (gx_assign rfl rfl) ?_
    simp only [Act.put, List.setIfInBounds_toArray, List.set_cons_zero, List.set_cons_succ]
    go_wp2_with fail
    go_ret
    exact ⟨rfl, HT.out⟩
  · go_upto_region 2 with fail
    refine wp_region_lit ?_
    refine wpList_run (v := .bool true) (wanted_none rfl) (exec_move rfl rfl) ?_
    simp only [Act.put, List.setIfInBounds_toArray, List.set_cons_zero, List.set_cons_succ]
    refine wpList_run (v := .bool true) (wanted_none rfl) (exec_move rfl rfl) ?_
    simp only [Act.put, List.setIfInBounds_toArray, List.set_cons_zero, List.set_cons_succ]
    refine wpList_run (v := .bool y) rfl (exec_move rfl rfl) ?_
    simp only [Act.put, List.setIfInBounds_toArray, List.set_cons_zero, List.set_cons_succ]
    refine wpList_run (v := .bool (!y)) rfl (bl_not rfl rfl rfl) ?_
    simp only [Act.put, List.setIfInBounds_toArray, List.set_cons_zero, List.set_cons_succ]
    refine wpList_run (v := .bool (!y)) (wanted_none rfl) (ix_pickT rfl rfl rfl) ?_
    simp only [Act.put, List.setIfInBounds_toArray, List.set_cons_zero, List.set_cons_succ]
    refine wpList_run (v := .bool (!y)) (wanted_none rfl) (gx_assign rfl rfl) ?_
    simp only [Act.put, List.setIfInBounds_toArray, List.set_cons_zero, List.set_cons_succ]
    go_wp2_with fail
    go_ret
    exact ⟨rfl, HT.out⟩
/-- all signed off, the first i of them -/
def resetL (i : Nat) (l : List Bool) : List Bool := (List.range 12).map fun j => if j % 2 = 0 ∧ j < 2 * i then false else l.getD j false
theorem reset_len (i : Nat) (l : List Bool) : (resetL i l).length = 12 := by simp [resetL]
theorem reset_0 {l : List Bool} (h : l.length = 12) : resetL 0 l = l := by
  apply List.ext_getElem?
  intro j
  unfold resetL
  rw [List.getElem?_map]
  by_cases hj : j < 12
  · rw [List.getElem?_range hj]
    simp [List.getD, List.getElem?_eq_getElem (show j < l.length from by omega)]
  · rw [List.getElem?_eq_none (by simp; omega), List.getElem?_eq_none (by omega)]; rfl
theorem reset_next (l : List Bool) {i : Nat} (hi : i < 6) : (resetL i l).set (2 * i) false = resetL (i + 1) l := by
  apply List.ext_getElem?
  intro j
  rw [List.getElem?_set]
  unfold resetL
  simp only [List.getElem?_map, List.length_map, List.length_range]
  by_cases hj : j < 12
  · rw [List.getElem?_range hj]
    by_cases e : 2 * i = j
    · subst e
      rw [if_pos rfl, if_pos hj]
      simp
    · rw [if_neg e]
      simp only [Option.map_some]
      congr 1
      by_cases h1 : j % 2 = 0 ∧ j < 2 * i
      · rw [if_pos h1, if_pos ⟨h1.1, by omega⟩]
      · rw [if_neg h1, if_neg (by omega)]
  · rw [List.getElem?_eq_none (by simp; omega)]
    rw [if_neg (by omega)]
    rfl
set_option maxRecDepth 20000 in
set_option maxHeartbeats 4000000 in
theorem Reset_walk {w : World} {p : Nat} {n : Int} {l : List Bool} (h : Bd w p n l) : Calls Tryz.prog 12 #[.pointer (some ⟨p, 0, none⟩)] w fun e w' => (∃ v, e = .returned v) ∧ Bd w' p n (resetL 6 l) ∧ Turn (only p) w w' := by
  have H := Lib.hid h
  have H0 := Lib.hid (reset_0 h.len)
  clear h
  go_enter Tryz.func12, Tryz.ntmps12
  go_upto_region 0 with fail
  refine wp_region_lit ?_
  refine wpList_run (v := .int .i64 0) (wanted_none rfl) (exec_move rfl rfl) ?_
  simp only [Act.put, List.setIfInBounds_toArray, List.set_cons_zero, List.set_cons_succ]
  go_wp2_with fail
  go_loopg [3] 6 (fun gk iv wr => ∃ i : Nat, iv = .int .i64 (i : Int) ∧ i + gk = 6 ∧ Bd wr p n (resetL i l) ∧ Turn (only p) w wr)
  case atStart => exact ⟨0, rfl, rfl, by rw [H0.out]; exact H.out, Turn.refl _ _⟩
  obtain ⟨i, rfl, hgk, hb, htr⟩ := hrel
  have yi : (i : Int) ≤ 6 := by omega
  have HGK := Lib.hid hgk
  have HB := Lib.hid hb
  have HTR := Lib.hid htr
  clear hgk hb htr
  by_cases hlt : i < 6
  · have HLT := Lib.hid hlt
    have y3 : (i : Int) < 6 := by omega
    have HNX := Lib.hid (reset_next l hlt)
    clear hlt
    go_upto_region 1 with fail
    refine wp_region_lit ?_
    refine wpList_run (v := .bool true) (wanted_none rfl) (ix_lss rfl rfl rfl (decide_eq_true y3)) ?_
    simp only [Act.put, List.setIfInBounds_toArray, List.set_cons_zero, List.set_cons_succ]
    go_upto_region 2 with fail
    refine wp_region_lit ?_
    refine wpList_run (v := .int .i64 (i : Int)) (wanted_none rfl) (exec_move rfl rfl) ?_
    simp only [Act.put, List.setIfInBounds_toArray, List.set_cons_zero, List.set_cons_succ]
    refine wpList_run (v := .int .i64 (i : Int)) (wanted_none rfl) (gx_assign rfl rfl) ?_
    simp only [Act.put, List.setIfInBounds_toArray, List.set_cons_zero, List.set_cons_succ]
    go_upto_region 3 with fail
    refine wp_region_lit ?_
    refine wpList_run (v := .pointer (some ⟨p, 0, none⟩)) (wanted_none rfl) (exec_move rfl rfl) ?_
    simp only [Act.put, List.setIfInBounds_toArray, List.set_cons_zero, List.set_cons_succ]
    refine wpList_run (v := .int .i64 (i : Int)) (wanted_none rfl) (exec_move rfl rfl) ?_
    simp only [Act.put, List.setIfInBounds_toArray, List.set_cons_zero, List.set_cons_succ]
    refine wpList_run (v := .pointer (some ⟨p, 0, none⟩)) (wanted_none rfl) (exec_nil rfl rfl) ?_
    simp only [Act.put, List.setIfInBounds_toArray, List.set_cons_zero, List.set_cons_succ]
    refine wpList_run (v := .pointer (some ⟨p, 1, none⟩)) (wanted_none rfl) (exec_field (off := 0) (d := 1) rfl rfl (by kernel_rfl)) ?_
    simp only [Act.put, List.setIfInBounds_toArray, List.set_cons_zero, List.set_cons_succ]
    refine wpList_run (v := .pointer (some ⟨p, 1 + i * 2, none⟩)) (wanted_none rfl) (gx_aaddr_g (i := i) (sz := 2) rfl rfl rfl Tryz.underlying59 size_st HLT.out rfl) ?_
    simp only [Act.put, List.setIfInBounds_toArray, List.set_cons_zero, List.set_cons_succ]
    refine wpList_run (v := .pointer (some ⟨p, 1 + i * 2, none⟩)) (wanted_none rfl) (exec_field (off := 1 + i * 2) (d := 0) rfl rfl (by kernel_rfl)) ?_
    simp only [Act.put, List.setIfInBounds_toArray, List.set_cons_zero, List.set_cons_succ]
    refine wpList_put (wanted_none rfl) 4 (.tmp 11) (.const (.bool false)) rfl (.bool false) (bdC n (resetL (i + 1) l)) HB.out.blk rfl rfl (by rw [bdC_size, HB.out.len]; have := HLT.out; omega) rfl rfl size_bl (by rw [show 1 + i * 2 = 1 + 2 * i from by omega, bdC_set, HNX.out]) ?_
    intro w4 hb4 ht4
    have HB4 := Lib.hid (show Bd w4 p n (resetL (i + 1) l) from ⟨hb4, reset_len _ _, H.out.lo, H.out.hi⟩)
    have HT4 := Lib.hid (HTR.out.trans ht4 fun _ _ e => e)
    clear hb4 ht4
    simp only [Act.put, List.setIfInBounds_toArray, List.set_cons_zero, List.set_cons_succ]
    go_upto_region 4 with fail
    refine wp_region_lit ?_
    refine wpList_run (v := .int .i64 ((i + 1 : Nat) : Int)) (wanted_none rfl) (ix_add rfl rfl rfl (by omega) (by omega)) ?_
    simp only [Act.put, List.setIfInBounds_toArray, List.set_cons_zero, List.set_cons_succ]
    refine wpList_run (v := .int .i64 ((i + 1 : Nat) : Int)) (wanted_none rfl) (exec_move rfl rfl) ?_
    simp only [Act.put, List.setIfInBounds_toArray, List.set_cons_zero, List.set_cons_succ]
    go_wp2_with fail
    go_roundg (6 - (i + 1))
    case measure => have := HGK.out; have := HLT.out; omega
    case rel => exact ⟨i + 1, rfl, by have := HLT.out; omega, HB4.out, HT4.out⟩
  · obtain rfl : i = 6 := by omega
    clear hlt
    go_upto_region 1 with fail
    refine wp_region_lit ?_
    refine wpList_run (v := .bool false) (wanted_none rfl) (ix_lss rfl rfl rfl (by decide)) ?_
    simp only [Act.put, List.setIfInBounds_toArray, List.set_cons_zero, List.set_cons_succ]
    go_wp2_with fail
    first
    | (go_end0; exact ⟨⟨_, rfl⟩, HB.out, HTR.out⟩)
    | (go_ret; exact ⟨⟨_, rfl⟩, HB.out, HTR.out⟩)
set_option maxRecDepth 20000 in
set_option maxHeartbeats 4000000 in
theorem Clone_walk {w : World} {p : Nat} {n : Int} {l : List Bool} (h : Bd w p n l) : Calls Tryz.prog 7 #[.pointer (some ⟨p, 0, none⟩)] w fun e w' => ∃ q, e = .returned (.pointer (some ⟨q, 0, none⟩)) ∧ Bd w' q n l ∧ w.heap.size ≤ q ∧ Turn nowhere w w' := by
  have H := Lib.hid h
  have HS := Lib.hid (show (bdC n l).size = 13 from by rw [bdC_size, h.len])
  clear h
  go_enter Tryz.func7, Tryz.ntmps7
  go_upto_region 0 with fail
  refine wp_region_lit ?_
  refine wpList_run (v := .pointer none) (wanted_none rfl) (gx_assign rfl rfl) ?_
  simp only [Act.put, List.setIfInBounds_toArray, List.set_cons_zero, List.set_cons_succ]
  go_upto_region 1 with fail
  refine wp_region_lit ?_
  refine wpList_run (v := .pointer (some ⟨p, 0, none⟩)) (wanted_none rfl) (exec_move rfl rfl) ?_
  simp only [Act.put, List.setIfInBounds_toArray, List.set_cons_zero, List.set_cons_succ]
  refine wpList_run (v := .pointer (some ⟨p, 0, none⟩)) (wanted_none rfl) (exec_nil rfl rfl) ?_
  simp only [Act.put, List.setIfInBounds_toArray, List.set_cons_zero, List.set_cons_succ]
  refine wpList_run (v := .agg (bdC n l)) (wanted_none rfl) (gx_loads_g rfl rfl (blk_range_g H.out.blk) Tryz.underlying61 rfl (size_bd.trans (congrArg some HS.out.symm))) ?_
  simp only [Act.put, List.setIfInBounds_toArray, List.set_cons_zero, List.set_cons_succ]
  refine wpList_run (v := .pointer (some ⟨w.heap.size, 0, none⟩)) (w' := w.alloc (.cells (bdC 0 none12) 61)) (wanted_none rfl) (gx_alloc rfl (zero_bd _)) ?_
  simp only [Act.put, List.setIfInBounds_toArray, List.set_cons_zero, List.set_cons_succ]
  have hb_ := Blk.new w 61 (bdC 0 none12)
  have ht_ := (Turn.refl nowhere w).alloc (.cells (bdC 0 none12) 61)
  obtain ⟨q, hg_⟩ : ∃ g, g = w.heap.size := ⟨_, rfl⟩
  rw [← hg_] at hb_ ⊢
  have HLq := Lib.hid (show w.heap.size ≤ q from by omega)
  clear hg_
  generalize w.alloc (.cells (bdC 0 none12) 61) = w2 at *
  have HBq := Lib.hid hb_
  have HT2 := Lib.hid ht_
  clear hb_ ht_
  refine wpList_store_row (wanted_none rfl) 61 (.tmp 3) (.tmp 6) rfl (bdC n l) HBq.out rfl rfl (by rw [HS.out]; rfl) (by rw [size_bd, HS.out]) (bdC_one _ _) ?_
  intro w3 hb_ ht_
  have HBq3 := Lib.hid hb_
  have HT3 := Lib.hid ht_
  clear hb_ ht_
  simp only [Act.put, List.setIfInBounds_toArray, List.set_cons_zero, List.set_cons_succ]
  go_upto_region 2 with fail
  refine wp_region_lit ?_
  refine wpList_run (v := .pointer (some ⟨q, 0, none⟩)) (wanted_none rfl) (gx_assign rfl rfl) ?_
  simp only [Act.put, List.setIfInBounds_toArray, List.set_cons_zero, List.set_cons_succ]
  go_wp2_with fail
  go_ret
  exact ⟨q, rfl, ⟨HBq3.out, H.out.len, H.out.lo, H.out.hi⟩, HLq.out, HT2.out.trans HT3.out fun k' hk e => by have := HLq.out; have e : k' = q := e; omega⟩
end Go.Proofs.YtfnillibngijaaaGreatDoor
