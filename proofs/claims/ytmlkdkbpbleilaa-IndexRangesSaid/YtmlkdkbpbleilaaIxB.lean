/-
  Index: how keys are compared; the search in a row of pairs. No conditions.
-/
import Derived.Test.YtmlkdkbpbleilaaIxCP
namespace Go.Proofs.Ytmlkdkbpbleilaa
open Go.RowKit
open Ix
set_option linter.unusedVariables false
set_option linter.unusedSimpArgs false
theorem less_klt : ∀ a b : List UInt8, Op.bytesLess a b = klt a b
  | [], [] => rfl
  | [], _ :: _ => rfl
  | _ :: _, [] => rfl
  | x :: a, y :: b => by
    unfold Op.bytesLess klt
    rw [less_klt a b]
    by_cases h : x < y
    · have h1 : x.toNat < y.toNat := h
      simp [h, h1]
    · have h1 : ¬ x.toNat < y.toNat := h
      rw [if_neg h1]
      by_cases g : y.toNat < x.toNat
      · have : x ≠ y := fun e => by rw [e] at g; exact Nat.lt_irrefl _ g
        simp [h, g, this]
      · have : x = y := UInt8.toNat_inj.1 (by omega)
        subst this
        simp
theorem exec_slss {a : Act} {o : Oper} {W : World} {x y : Operand} {l m : List UInt8} {t u : TypeId} {r : Bool} (ho : o.op = .binOp .lss t x y u) (hx : a.eval x = strV l) (hy : a.eval y = strV m) (hr : klt l m = r) : (execOp a.eval o).run Try.prog W = .ok (.value (.bool r)) W := by
  subst hr
  unfold execOp
  simp [ho, hx, hy, strV, eqGuard, binOp_string_lss, ByteArray.toList_eq, less_klt]
theorem less_or (a b : List UInt8) : (klt a b || a == b) = !klt b a := by
  by_cases h : a = b
  · subst h; simp [klt_irr]
  · cases h1 : klt a b with
    | true => simp [klt_as h1]
    | false =>
      cases h2 : klt b a with
      | true => simp [h]
      | false => exact absurd (klt_eq h1 h2) h
theorem exec_sgtr {a : Act} {o : Oper} {W : World} {x y : Operand} {l m : List UInt8} {t u : TypeId} {r : Bool} (ho : o.op = .binOp .gtr t x y u) (hx : a.eval x = strV l) (hy : a.eval y = strV m) (hr : klt m l = r) : (execOp a.eval o).run Try.prog W = .ok (.value (.bool r)) W := by
  subst hr
  unfold execOp
  simp [ho, hx, hy, strV, eqGuard, binOp, Op.stringOp, ByteArray.toList_eq, less_klt]
  have e := less_or l m
  cases h1 : klt l m <;> cases h2 : klt m l <;> simp [h1, h2] at e ⊢ <;> first | exact e | (intro h; exact absurd h e)
theorem exec_sgeq {a : Act} {o : Oper} {W : World} {x y : Operand} {l m : List UInt8} {t u : TypeId} {r : Bool} (ho : o.op = .binOp .geq t x y u) (hx : a.eval x = strV l) (hy : a.eval y = strV m) (hr : (!klt l m) = r) : (execOp a.eval o).run Try.prog W = .ok (.value (.bool r)) W := by
  subst hr
  unfold execOp
  simp [ho, hx, hy, strV, eqGuard, binOp, Op.stringOp, ByteArray.toList_eq, less_klt]
theorem exec_sleq {a : Act} {o : Oper} {W : World} {x y : Operand} {l m : List UInt8} {t u : TypeId} {r : Bool} (ho : o.op = .binOp .leq t x y u) (hx : a.eval x = strV l) (hy : a.eval y = strV m) (hr : (!klt m l) = r) : (execOp a.eval o).run Try.prog W = .ok (.value (.bool r)) W := by
  subst hr
  unfold execOp
  have e := less_or l m
  simp [ho, hx, hy, strV, eqGuard, binOp, Op.stringOp, ByteArray.toList_eq, less_klt]
  first | exact e | simpa using e
theorem isNaN_walk (l : Key) (w : World) : Calls Try.prog 58 #[strV l] w fun e w' => e = .returned (.bool false) ∧ w' = w := by
  go_enter Try.func58, Try.ntmps58
  go_upto_region 1 with fail
  refine wp_region_lit ?_
  refine wpList_run (v := strV l) rfl (exec_move rfl rfl) ?_
  simp only [Act.put, List.setIfInBounds_toArray, List.set_cons_zero, List.set_cons_succ]
  refine wpList_run (v := strV l) rfl (exec_move rfl rfl) ?_
  simp only [Act.put, List.setIfInBounds_toArray, List.set_cons_zero, List.set_cons_succ]
  refine wpList_run (v := .bool false) (w' := w) rfl ((exec_sneq (l := l) (m := l) rfl rfl rfl).trans (by simp)) ?_
  simp only [Act.put, List.setIfInBounds_toArray, List.set_cons_zero, List.set_cons_succ]
  refine wpList_run (v := .bool false) rfl (gx_assign rfl rfl) ?_
  simp only [Act.put, List.setIfInBounds_toArray, List.set_cons_zero, List.set_cons_succ]
  go_wp2_with fail
  go_ret
  exact ⟨rfl, rfl⟩
def cmpV (l m : Key) : Int := if klt l m = true then -1 else if klt m l = true then 1 else 0
theorem compare_walk (l m : Key) (w : World) : Calls Try.prog 49 #[strV l, strV m] w fun e w' => e = .returned (.int .i64 (cmpV l m)) ∧ w' = w := by
  go_enter Try.func49, Try.ntmps49
  go_upto_region 1 with fail
  refine wp_region_lit ?_
  refine wpList_run (v := strV l) rfl (exec_move rfl rfl) ?_
  simp only [Act.put, List.setIfInBounds_toArray, List.set_cons_zero, List.set_cons_succ]
  refine wpList_op rfl fun K9 HK9 => ?_
  go_wp2_with fail
  refine (isNaN_walk _ _).mono ?_
  rintro e w1 ⟨rfl, rfl⟩
  refine HK9.out _ _ ?_
  clear HK9
  try simp only [Act.put, List.setIfInBounds_toArray, List.set_cons_zero, List.set_cons_succ]
  refine wpList_run (v := .bool false) rfl (gx_assign rfl rfl) ?_
  simp only [Act.put, List.setIfInBounds_toArray, List.set_cons_zero, List.set_cons_succ]
  go_upto_region 2 with fail
  refine wp_region_lit ?_
  refine wpList_run (v := strV m) rfl (exec_move rfl rfl) ?_
  simp only [Act.put, List.setIfInBounds_toArray, List.set_cons_zero, List.set_cons_succ]
  refine wpList_op rfl fun K9 HK9 => ?_
  go_wp2_with fail
  refine (isNaN_walk _ _).mono ?_
  rintro e w1 ⟨rfl, rfl⟩
  refine HK9.out _ _ ?_
  clear HK9
  try simp only [Act.put, List.setIfInBounds_toArray, List.set_cons_zero, List.set_cons_succ]
  refine wpList_run (v := .bool false) rfl (gx_assign rfl rfl) ?_
  simp only [Act.put, List.setIfInBounds_toArray, List.set_cons_zero, List.set_cons_succ]
  go_upto_region 3 with fail
  refine wp_region_lit ?_
  refine wpList_run (v := .bool false) rfl (exec_move rfl rfl) ?_
  simp only [Act.put, List.setIfInBounds_toArray, List.set_cons_zero, List.set_cons_succ]
  go_upto_region 7 with fail
  refine wp_region_lit ?_
  refine wpList_run (v := .bool false) rfl (exec_move rfl rfl) ?_
  simp only [Act.put, List.setIfInBounds_toArray, List.set_cons_zero, List.set_cons_succ]
  go_upto_region 9 with fail
  refine wp_region_lit ?_
  refine wpList_run (v := strV l) rfl (exec_move rfl rfl) ?_
  simp only [Act.put, List.setIfInBounds_toArray, List.set_cons_zero, List.set_cons_succ]
  refine wpList_run (v := strV m) rfl (exec_move rfl rfl) ?_
  simp only [Act.put, List.setIfInBounds_toArray, List.set_cons_zero, List.set_cons_succ]
  cases h1 : klt l m with
  | true =>
    have HE := Lib.hid (show cmpV l m = -1 from by unfold cmpV; rw [if_pos h1])
    refine wpList_run (v := .bool true) rfl (exec_slss rfl rfl rfl h1) ?_
    simp only [Act.put, List.setIfInBounds_toArray, List.set_cons_zero, List.set_cons_succ]
    clear h1
    go_wp2_with fail
    go_ret
    rw [HE.out]
    exact ⟨rfl, rfl⟩
  | false =>
    refine wpList_run (v := .bool false) rfl (exec_slss rfl rfl rfl h1) ?_
    simp only [Act.put, List.setIfInBounds_toArray, List.set_cons_zero, List.set_cons_succ]
    go_upto_region 11 with fail
    refine wp_region_lit ?_
    refine wpList_run (v := strV l) rfl (exec_move rfl rfl) ?_
    simp only [Act.put, List.setIfInBounds_toArray, List.set_cons_zero, List.set_cons_succ]
    refine wpList_run (v := strV m) rfl (exec_move rfl rfl) ?_
    simp only [Act.put, List.setIfInBounds_toArray, List.set_cons_zero, List.set_cons_succ]
    cases h2 : klt m l with
    | true =>
      have HE := Lib.hid (show cmpV l m = 1 from by unfold cmpV; rw [if_neg (by rw [h1]; decide), if_pos h2])
      refine wpList_run (v := .bool true) rfl (exec_sgtr rfl rfl rfl h2) ?_
      simp only [Act.put, List.setIfInBounds_toArray, List.set_cons_zero, List.set_cons_succ]
      clear h1 h2
      go_wp2_with fail
      go_ret
      rw [HE.out]
      exact ⟨rfl, rfl⟩
    | false =>
      have HE := Lib.hid (show cmpV l m = 0 from by unfold cmpV; rw [if_neg (by rw [h1]; decide), if_neg (by rw [h2]; decide)])
      refine wpList_run (v := .bool false) rfl (exec_sgtr rfl rfl rfl h2) ?_
      simp only [Act.put, List.setIfInBounds_toArray, List.set_cons_zero, List.set_cons_succ]
      clear h1 h2
      go_wp2_with fail
      go_ret
      rw [HE.out]
      exact ⟨rfl, rfl⟩
theorem find1_walk (p : Pr) (k : Key) (w : World) : Calls Try.prog 48 #[.agg (encP p).toArray, strV k] w fun e w' => e = .returned (.int .i64 (cmpV p.1 k)) ∧ Turn nowhere w w' := by
  have hb0 := Blk.new w 65 (encP p).toArray
  have hu0 := (Turn.refl nowhere w).alloc (.cells (encP p).toArray 65)
  go_enter Try.func48, Try.ntmps48
  go_upto_region 1 with fail
  obtain ⟨g0, hg0⟩ : ∃ g, g = w.heap.size := ⟨_, rfl⟩
  rw [← hg0] at hb0 ⊢
  clear hg0
  have HB := Lib.hid hb0
  have HU := Lib.hid hu0
  clear hb0 hu0
  generalize w.alloc (.cells (encP p).toArray 65) = w1 at *
  refine wp_region_lit ?_
  refine wpList_run (v := .pointer (some ⟨g0, 0, none⟩)) rfl (exec_field (off := 0) (d := 0) rfl rfl (by kernel_rfl)) ?_
  simp only [Act.put, List.setIfInBounds_toArray, List.set_cons_zero, List.set_cons_succ]
  refine wpList_run (v := strV p.1) rfl (exec_load1 rfl rfl (by kernel_rfl) (HB.out.cell 0)) ?_
  simp only [Act.put, List.setIfInBounds_toArray, List.set_cons_zero, List.set_cons_succ]
  refine wpList_run (v := strV k) rfl (exec_move rfl rfl) ?_
  simp only [Act.put, List.setIfInBounds_toArray, List.set_cons_zero, List.set_cons_succ]
  refine wpList_op rfl fun K9 HK9 => ?_
  go_wp2_with fail
  refine (compare_walk _ _ _).mono ?_
  rintro e w2 ⟨rfl, rfl⟩
  refine HK9.out _ _ ?_
  clear HK9
  try simp only [Act.put, List.setIfInBounds_toArray, List.set_cons_zero, List.set_cons_succ]
  refine wpList_run (v := .int .i64 (cmpV p.1 k)) rfl (gx_assign rfl rfl) ?_
  simp only [Act.put, List.setIfInBounds_toArray, List.set_cons_zero, List.set_cons_succ]
  go_wp2_with fail
  go_ret
  exact ⟨rfl, HU.out⟩
theorem cmpV_lt {l m : Key} : cmpV l m < 0 ↔ klt l m = true := by
  unfold cmpV
  split
  · rename_i h; simp [h]
  · rename_i h
    split <;> simp [h]
theorem cmpV_eq {l m : Key} : cmpV l m = 0 ↔ l = m := by
  unfold cmpV
  split
  · rename_i h
    constructor
    · intro e; cases e
    · intro e; exact absurd e (klt_ne h)
  · rename_i h
    split
    · rename_i g
      constructor
      · intro e; cases e
      · intro e; exact absurd e.symm (klt_ne g)
    · rename_i g
      exact ⟨fun _ => klt_eq (by simpa using h) (by simpa using g), fun _ => rfl⟩
theorem fnd_lt {k : Key} : ∀ {l : List Pr} {m : Nat} {p : Pr}, Srt l → l[m]? = some p → (m < fnd k l ↔ klt p.1 k = true)
  | [], m, p, _, h => by cases h
  | q :: l, 0, p, hs, h => by
    obtain rfl : q = p := by simpa using h
    unfold fnd
    split
    · rename_i h; simp [h]
    · rename_i h; simp [h]
  | q :: l, m + 1, p, hs, h => by
    obtain ⟨h1, h2⟩ := List.pairwise_cons.1 hs
    have hp : l[m]? = some p := by simpa using h
    have ih := fnd_lt (k := k) h2 hp
    unfold fnd
    split
    · rw [← ih]; omega
    · rename_i hq
      have hqp := h1 p (List.mem_of_getElem? hp)
      constructor
      · intro h; omega
      · intro h; exact absurd (klt_tr hqp h) hq
theorem ix_mid {a : Act} {o : Oper} {W : World} {x : Operand} {m : Nat} (ho : o.op = .convert 3 90 x) (hx : a.eval x = .int .i64 (m : Int)) (hm : m < 9223372036854775808) : (execOp a.eval o).run Try.prog W = .ok (.value (.int .u64 (m : Int))) W := by
  unfold execOp
  simp only [ho, hx]
  go_simp
  rw [IntKind.wrap_u64]; omega
theorem ix_shr1 {a : Act} {o : Oper} {W : World} {x y : Operand} {m : Nat} (ho : o.op = .binOp .shr 90 x y 90) (hx : a.eval x = .int .u64 (m : Int)) (hy : a.eval y = .int .u64 1) (hm : m < 9223372036854775808) : (execOp a.eval o).run Try.prog W = .ok (.value (.int .u64 ((m / 2 : Nat) : Int))) W := by
  unfold execOp
  simp only [ho, hx, hy]
  go_simp
  all_goals (try omega)
theorem ix_back {a : Act} {o : Oper} {W : World} {x : Operand} {m : Nat} (ho : o.op = .convert 90 3 x) (hx : a.eval x = .int .u64 (m : Int)) (hm : m < 9223372036854775808) : (execOp a.eval o).run Try.prog W = .ok (.value (.int .i64 (m : Int))) W := by
  unfold execOp
  simp only [ho, hx]
  go_simp
  rw [IntKind.wrap_i64]; omega
end Go.Proofs.Ytmlkdkbpbleilaa
