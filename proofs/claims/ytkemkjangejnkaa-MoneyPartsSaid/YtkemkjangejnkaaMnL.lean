/-
  The laws of money, walked from its contracts. No conditions but that the numbers have 64 bits.
-/
import Derived.Test.YtkemkjangejnkaaMnR
namespace Go.Proofs.Ytkemkjangejnkaa
open Go.RowKit
set_option linter.unusedVariables false
set_option linter.unusedSimpArgs false
/-- what is asked of money's calls -/
def AddC : Prop := ∀ (a b : Int) (W : World), Mn.in64 a → Mn.in64 b → Calls Try.prog 11 #[.int .i64 a, .int .i64 b] W fun e W' => e = two (Mn.addV a b) (Mn.addE a b) ∧ Turn nowhere W W'
def SubC : Prop := ∀ (a b : Int) (W : World), Mn.in64 a → Mn.in64 b → Calls Try.prog 13 #[.int .i64 a, .int .i64 b] W fun e W' => e = two (Mn.subV a b) (Mn.subE a b) ∧ Turn nowhere W W'
def CheckC : Prop := ∀ (p l m : Int) (W : World), Calls Try.prog 17 #[.agg #[.int .i64 p, .int .i64 l, .int .i64 m]] W fun e W' => e = .returned (.int .i64 (Mn.checkE p l m)) ∧ Turn nowhere W W'
def FeeC : Prop := ∀ (p l m a : Int) (W : World), Calls Try.prog 15 #[.agg #[.int .i64 p, .int .i64 l, .int .i64 m], .int .i64 a] W fun e W' => e = two (Mn.feeV p l m a) (Mn.feeE p l m a) ∧ Turn nowhere W W'
theorem t3 {w w1 w' : World} (h : Turn nowhere w w1) (g : Turn nowhere w1 w') : Turn nowhere w w' := h.trans g fun _ _ e => e
theorem turn_box {w w' : World} {ty : TypeId} {cs : Array Value} (h : Turn nowhere (w.alloc (.cells cs ty)) w') (i : Nat) : w'.cell? ⟨w.heap.size, i, none⟩ = cs[i]? := by
  have := (Blk.new w ty cs).turn h (fun e => e)
  exact this.cell i
theorem shown_walk (hA : AddC) (hS : SubC) (hF : FeeC) (W : World) : Calls Try.prog 10 #[] W fun e W' => e = .returned (.bool true) ∧ Turn nowhere W W' := by
  have HA := Lib.hid hA
  have HS := Lib.hid hS
  have HF := Lib.hid hF
  have HT := Lib.hid (Turn.refl nowhere W)
  clear hA hS hF
  have f1 : Mn.feeV 50 0 100 300 = 2 := by decide
  have f2 : Mn.feeE 50 0 100 300 = 0 := by decide
  have f3 : Mn.feeV 50 0 100 500 = 2 := by decide
  have f4 : Mn.feeE 50 0 100 500 = 0 := by decide
  have f5 : Mn.feeE 10001 0 9 1 = 101 := by decide
  go_enter Try.func10, Try.ntmps10
  go_wp2_with (first
    | (go_at_call 11; refine (HA.out _ _ _ (by decide) (by decide)).mono ?_; rintro e w1 ⟨he, ht⟩; obtain rfl : e = two 0 100 := he.trans (two_eq (by decide) (by decide)); clear he; have HT := Lib.hid (HT.out.trans ht (fun _ _ e => e)); clear ht)
    | (go_at_call 13; refine (HS.out _ _ _ (by decide) (by decide)).mono ?_; rintro e w1 ⟨he, ht⟩; obtain rfl : e = two 0 100 := he.trans (two_eq (by decide) (by decide)); clear he; have HT := Lib.hid (HT.out.trans ht (fun _ _ e => e)); clear ht)
    | (go_at_call 15; refine (HF.out _ _ _ _ _).mono ?_; rintro e w1 ⟨rfl, ht⟩; have HT := Lib.hid (HT.out.trans ht (fun _ _ e => e)); clear ht))
  go_ret
  exact ⟨rfl, HT.out⟩
theorem moneySums_walk (a b : Int) (W : World) (hA : AddC) (hS : SubC) (hC : CheckC) (hF : FeeC) (hn : Mn.in64 a ∧ Mn.in64 b) :
    Calls Try.prog 3 #[.int .i64 a, .int .i64 b] W fun e W' => e = .returned (.bool true) ∧ Below W.heap.size W W' := by
  have HA := Lib.hid hA
  have HS := Lib.hid hS
  have HF := Lib.hid hF
  have HC := Lib.hid hC
  have HN := Lib.hid hn
  clear hn
  have HT := Lib.hid (Turn.refl nowhere W)
  clear hA hS hF hC
  go_enter Try.func3, Try.ntmps3
  go_wp2_with (first
    | (go_at_call 10; refine (shown_walk HA.out HS.out HF.out _).mono ?_; rintro e w1 ⟨rfl, ht⟩; have HT := Lib.hid (HT.out.trans (by first | exact ht | exact turn_new ht | exact turn_new (turn_new ht)) (fun _ _ e => e)); clear ht)
    | (go_at_call 15; refine (HF.out _ _ _ _ _).mono ?_; rintro e w1 ⟨rfl, ht⟩; have HT := Lib.hid (HT.out.trans (by first | exact ht | exact turn_new ht | exact turn_new (turn_new ht)) (fun _ _ e => e)); clear ht)
    | (go_at_call 16; refine (rfee_walk _ _ _ _ _).mono ?_; rintro e w1 ⟨rfl, ht⟩; have HT := Lib.hid (HT.out.trans (by first | exact ht | exact turn_new ht | exact turn_new (turn_new ht)) (fun _ _ e => e)); clear ht)
    | (go_at_call 17; refine (HC.out _ _ _ _).mono ?_; rintro e w1 ⟨rfl, ht⟩; have HT := Lib.hid (HT.out.trans (by first | exact ht | exact turn_new ht | exact turn_new (turn_new ht)) (fun _ _ e => e)); clear ht)
    | (go_at_call 11; refine (HA.out _ _ _ (by have := HN.out; first | exact this.1 | exact this.2 | exact this.2.1 | exact this.2.2 | exact Mn.addV_in _ _) (by have := HN.out; first | exact this.1 | exact this.2 | exact this.2.1 | exact this.2.2 | exact Mn.addV_in _ _)).mono ?_; rintro e w1 ⟨rfl, ht⟩; have HT := Lib.hid (HT.out.trans (by first | exact ht | exact turn_new ht | exact turn_new (turn_new ht)) (fun _ _ e => e)); clear ht)
    | (go_at_call 13; refine (HS.out _ _ _ (by have := HN.out; first | exact Mn.addV_in _ _ | exact this.1 | exact this.2 | exact this.2.1 | exact this.2.2) (by have := HN.out; first | exact this.1 | exact this.2 | exact this.2.1 | exact this.2.2)).mono ?_; rintro e w1 ⟨rfl, ht⟩; have HT := Lib.hid (HT.out.trans (by first | exact ht | exact turn_new ht | exact turn_new (turn_new ht)) (fun _ _ e => e)); clear ht)
    | (go_at_call 12; refine (radd_walk _ _ _ HN.out.1 (by have := HN.out; first | exact this.2 | exact this.2.1)).mono ?_; rintro e w1 ⟨rfl, rfl⟩)
    | (go_at_call 14; refine (rsub_walk _ _ _ HN.out.1 (by have := HN.out; first | exact this.2 | exact this.2.1)).mono ?_; rintro e w1 ⟨rfl, rfl⟩))
  all_goals go_ret
  all_goals (refine ⟨?_, by first | exact HT.out.below (Nat.le_refl _) (fun _ _ e => e) | exact (turn_new HT.out).below (Nat.le_refl _) (fun _ _ e => e)⟩)
  all_goals (first | rfl | (refine congrArg (fun b => Ending.returned (Value.bool b)) (?_ : _ = true); first | (simp only [Bool.or_eq_true, Bool.and_eq_true, decide_eq_true_eq, beq_iff_eq]; omega) | trace_state))
theorem moneyUndoes_walk (a b c : Int) (W : World) (hA : AddC) (hS : SubC) (hC : CheckC) (hF : FeeC) (hn : Mn.in64 a ∧ Mn.in64 b ∧ Mn.in64 c) :
    Calls Try.prog 5 #[.int .i64 a, .int .i64 b, .int .i64 c] W fun e W' => e = .returned (.bool true) ∧ Below W.heap.size W W' := by
  have HA := Lib.hid hA
  have HS := Lib.hid hS
  have HF := Lib.hid hF
  have HC := Lib.hid hC
  have HN := Lib.hid hn
  clear hn
  have HT := Lib.hid (Turn.refl nowhere W)
  clear hA hS hF hC
  rcases Mn.undoes a b c HN.out.1 HN.out.2.1 HN.out.2.2 with ⟨q1, q2, q3⟩ | ⟨q1, q2, q3, q4, q5, q6, q7, q8⟩ | ⟨q1, q2, q3, q4, q5, q6, q7, q8, q9, q10⟩
  all_goals (
    go_enter Try.func5, Try.ntmps5
    go_wp2_with (first
      | (go_at_call 10; refine (shown_walk HA.out HS.out HF.out _).mono ?_; rintro e w1 ⟨rfl, ht⟩; have HT := Lib.hid (HT.out.trans (by first | exact ht | exact turn_new ht | exact turn_new (turn_new ht)) (fun _ _ e => e)); clear ht)
      | (go_at_call 15; refine (HF.out _ _ _ _ _).mono ?_; rintro e w1 ⟨rfl, ht⟩; have HT := Lib.hid (HT.out.trans (by first | exact ht | exact turn_new ht | exact turn_new (turn_new ht)) (fun _ _ e => e)); clear ht)
      | (go_at_call 16; refine (rfee_walk _ _ _ _ _).mono ?_; rintro e w1 ⟨rfl, ht⟩; have HT := Lib.hid (HT.out.trans (by first | exact ht | exact turn_new ht | exact turn_new (turn_new ht)) (fun _ _ e => e)); clear ht)
      | (go_at_call 17; refine (HC.out _ _ _ _).mono ?_; rintro e w1 ⟨rfl, ht⟩; have HT := Lib.hid (HT.out.trans (by first | exact ht | exact turn_new ht | exact turn_new (turn_new ht)) (fun _ _ e => e)); clear ht)
      | (go_at_call 11; refine (HA.out _ _ _ (by have := HN.out; first | exact this.1 | exact this.2 | exact this.2.1 | exact this.2.2 | exact Mn.addV_in _ _) (by have := HN.out; first | exact this.1 | exact this.2 | exact this.2.1 | exact this.2.2 | exact Mn.addV_in _ _)).mono ?_; rintro e w1 ⟨rfl, ht⟩; have HT := Lib.hid (HT.out.trans (by first | exact ht | exact turn_new ht | exact turn_new (turn_new ht)) (fun _ _ e => e)); clear ht)
      | (go_at_call 13; refine (HS.out _ _ _ (by have := HN.out; first | exact Mn.addV_in _ _ | exact this.1 | exact this.2 | exact this.2.1 | exact this.2.2) (by have := HN.out; first | exact this.1 | exact this.2 | exact this.2.1 | exact this.2.2)).mono ?_; rintro e w1 ⟨rfl, ht⟩; have HT := Lib.hid (HT.out.trans (by first | exact ht | exact turn_new ht | exact turn_new (turn_new ht)) (fun _ _ e => e)); clear ht)
      | (go_at_call 12; refine (radd_walk _ _ _ HN.out.1 (by have := HN.out; first | exact this.2 | exact this.2.1)).mono ?_; rintro e w1 ⟨rfl, rfl⟩)
      | (go_at_call 14; refine (rsub_walk _ _ _ HN.out.1 (by have := HN.out; first | exact this.2 | exact this.2.1)).mono ?_; rintro e w1 ⟨rfl, rfl⟩))
    all_goals go_ret
    all_goals (refine ⟨?_, by first | exact HT.out.below (Nat.le_refl _) (fun _ _ e => e) | exact (turn_new HT.out).below (Nat.le_refl _) (fun _ _ e => e)⟩)
    all_goals (first | rfl | (refine congrArg (fun b => Ending.returned (Value.bool b)) (?_ : _ = true); first | (simp only [Bool.or_eq_true, Bool.and_eq_true, decide_eq_true_eq, beq_iff_eq]; omega) | trace_state))
  )
theorem moneyEnds_walk (p l m : Int) (a : Int) (W : World) (hA : AddC) (hS : SubC) (hC : CheckC) (hF : FeeC) :
    Calls Try.prog 8 #[.agg #[.int .i64 p, .int .i64 l, .int .i64 m], .int .i64 a] W fun e W' => e = .returned (.bool true) ∧ Below W.heap.size W W' := by
  have HA := Lib.hid hA
  have HS := Lib.hid hS
  have HF := Lib.hid hF
  have HC := Lib.hid hC
  have HT := Lib.hid (Turn.refl nowhere (W.alloc (.cells #[.int .i64 p, .int .i64 l, .int .i64 m] 28)))
  clear hA hS hF hC
  rcases Mn.feeCases p l m a with ⟨q1, q2, q3⟩ | ⟨q1, q2, q3, q4⟩ | ⟨q1, q2, q3, q4, q5, q6, q7, q8⟩
  all_goals (
    go_enter Try.func8, Try.ntmps8
    go_wp2_with (first
      | (go_at_call 10; refine (shown_walk HA.out HS.out HF.out _).mono ?_; rintro e w1 ⟨rfl, ht⟩; have HT := Lib.hid (HT.out.trans (by first | exact ht | exact turn_new ht | exact turn_new (turn_new ht)) (fun _ _ e => e)); clear ht; have c0 : w1.cell? ⟨W.heap.size, 0, none⟩ = some (.int .i64 p) := turn_box HT.out 0; have c1 : w1.cell? ⟨W.heap.size, 1, none⟩ = some (.int .i64 l) := turn_box HT.out 1; have c2 : w1.cell? ⟨W.heap.size, 2, none⟩ = some (.int .i64 m) := turn_box HT.out 2)
      | (go_at_call 15; refine (HF.out _ _ _ _ _).mono ?_; rintro e w1 ⟨rfl, ht⟩; have HT := Lib.hid (HT.out.trans (by first | exact ht | exact turn_new ht | exact turn_new (turn_new ht)) (fun _ _ e => e)); clear ht; have c0 : w1.cell? ⟨W.heap.size, 0, none⟩ = some (.int .i64 p) := turn_box HT.out 0; have c1 : w1.cell? ⟨W.heap.size, 1, none⟩ = some (.int .i64 l) := turn_box HT.out 1; have c2 : w1.cell? ⟨W.heap.size, 2, none⟩ = some (.int .i64 m) := turn_box HT.out 2)
      | (go_at_call 16; refine (rfee_walk _ _ _ _ _).mono ?_; rintro e w1 ⟨rfl, ht⟩; have HT := Lib.hid (HT.out.trans (by first | exact ht | exact turn_new ht | exact turn_new (turn_new ht)) (fun _ _ e => e)); clear ht; have c0 : w1.cell? ⟨W.heap.size, 0, none⟩ = some (.int .i64 p) := turn_box HT.out 0; have c1 : w1.cell? ⟨W.heap.size, 1, none⟩ = some (.int .i64 l) := turn_box HT.out 1; have c2 : w1.cell? ⟨W.heap.size, 2, none⟩ = some (.int .i64 m) := turn_box HT.out 2)
      | (go_at_call 17; refine (HC.out _ _ _ _).mono ?_; rintro e w1 ⟨rfl, ht⟩; have HT := Lib.hid (HT.out.trans (by first | exact ht | exact turn_new ht | exact turn_new (turn_new ht)) (fun _ _ e => e)); clear ht; have c0 : w1.cell? ⟨W.heap.size, 0, none⟩ = some (.int .i64 p) := turn_box HT.out 0; have c1 : w1.cell? ⟨W.heap.size, 1, none⟩ = some (.int .i64 l) := turn_box HT.out 1; have c2 : w1.cell? ⟨W.heap.size, 2, none⟩ = some (.int .i64 m) := turn_box HT.out 2)
      | (go_at_call 11; refine (HA.out _ _ _ (by have := HN.out; first | exact this.1 | exact this.2 | exact this.2.1 | exact this.2.2 | exact Mn.addV_in _ _) (by have := HN.out; first | exact this.1 | exact this.2 | exact this.2.1 | exact this.2.2 | exact Mn.addV_in _ _)).mono ?_; rintro e w1 ⟨rfl, ht⟩; have HT := Lib.hid (HT.out.trans (by first | exact ht | exact turn_new ht | exact turn_new (turn_new ht)) (fun _ _ e => e)); clear ht; have c0 : w1.cell? ⟨W.heap.size, 0, none⟩ = some (.int .i64 p) := turn_box HT.out 0; have c1 : w1.cell? ⟨W.heap.size, 1, none⟩ = some (.int .i64 l) := turn_box HT.out 1; have c2 : w1.cell? ⟨W.heap.size, 2, none⟩ = some (.int .i64 m) := turn_box HT.out 2)
      | (go_at_call 13; refine (HS.out _ _ _ (by have := HN.out; first | exact Mn.addV_in _ _ | exact this.1 | exact this.2 | exact this.2.1 | exact this.2.2) (by have := HN.out; first | exact this.1 | exact this.2 | exact this.2.1 | exact this.2.2)).mono ?_; rintro e w1 ⟨rfl, ht⟩; have HT := Lib.hid (HT.out.trans (by first | exact ht | exact turn_new ht | exact turn_new (turn_new ht)) (fun _ _ e => e)); clear ht; have c0 : w1.cell? ⟨W.heap.size, 0, none⟩ = some (.int .i64 p) := turn_box HT.out 0; have c1 : w1.cell? ⟨W.heap.size, 1, none⟩ = some (.int .i64 l) := turn_box HT.out 1; have c2 : w1.cell? ⟨W.heap.size, 2, none⟩ = some (.int .i64 m) := turn_box HT.out 2)
      | (go_at_call 12; refine (radd_walk _ _ _ HN.out.1 (by have := HN.out; first | exact this.2 | exact this.2.1)).mono ?_; rintro e w1 ⟨rfl, rfl⟩)
      | (go_at_call 14; refine (rsub_walk _ _ _ HN.out.1 (by have := HN.out; first | exact this.2 | exact this.2.1)).mono ?_; rintro e w1 ⟨rfl, rfl⟩))
    all_goals go_ret
    all_goals (refine ⟨?_, by first | exact HT.out.below (Nat.le_refl _) (fun _ _ e => e) | exact (turn_new HT.out).below (Nat.le_refl _) (fun _ _ e => e)⟩)
    all_goals (first | rfl | (refine congrArg (fun b => Ending.returned (Value.bool b)) (?_ : _ = true); first | (simp only [Bool.or_eq_true, Bool.and_eq_true, decide_eq_true_eq, beq_iff_eq]; omega) | trace_state))
  )
theorem moneyParts_walk (p a : Int) (W : World) (hA : AddC) (hS : SubC) (hC : CheckC) (hF : FeeC) :
    Calls Try.prog 7 #[.int .i64 p, .int .i64 a] W fun e W' => e = .returned (.bool true) ∧ Below W.heap.size W W' := by
  have HA := Lib.hid hA
  have HS := Lib.hid hS
  have HF := Lib.hid hF
  have HC := Lib.hid hC
  have HT := Lib.hid (Turn.refl nowhere W)
  clear hA hS hF hC
  rcases (by omega : (p < 0 ∨ 10000 < p ∨ a < 0 ∨ 999999999999 < a) ∨ (0 ≤ p ∧ p ≤ 10000 ∧ 0 ≤ a ∧ a ≤ 999999999999)) with hout | ⟨r1, r2, r3, r4⟩
  · go_enter Try.func7, Try.ntmps7
    go_wp2_with (first
      | (go_at_call 10; refine (shown_walk HA.out HS.out HF.out _).mono ?_; rintro e w1 ⟨rfl, ht⟩; have HT := Lib.hid (HT.out.trans (by first | exact ht | exact turn_new ht | exact turn_new (turn_new ht)) (fun _ _ e => e)); clear ht)
      | (go_at_call 15; refine (HF.out _ _ _ _ _).mono ?_; rintro e w1 ⟨rfl, ht⟩; have HT := Lib.hid (HT.out.trans (by first | exact ht | exact turn_new ht | exact turn_new (turn_new ht)) (fun _ _ e => e)); clear ht)
      | (go_at_call 16; refine (rfee_walk _ _ _ _ _).mono ?_; rintro e w1 ⟨rfl, ht⟩; have HT := Lib.hid (HT.out.trans (by first | exact ht | exact turn_new ht | exact turn_new (turn_new ht)) (fun _ _ e => e)); clear ht)
      | (go_at_call 17; refine (HC.out _ _ _ _).mono ?_; rintro e w1 ⟨rfl, ht⟩; have HT := Lib.hid (HT.out.trans (by first | exact ht | exact turn_new ht | exact turn_new (turn_new ht)) (fun _ _ e => e)); clear ht)
      | (go_at_call 11; refine (HA.out _ _ _ (by have := HN.out; first | exact this.1 | exact this.2 | exact this.2.1 | exact this.2.2 | exact Mn.addV_in _ _) (by have := HN.out; first | exact this.1 | exact this.2 | exact this.2.1 | exact this.2.2 | exact Mn.addV_in _ _)).mono ?_; rintro e w1 ⟨rfl, ht⟩; have HT := Lib.hid (HT.out.trans (by first | exact ht | exact turn_new ht | exact turn_new (turn_new ht)) (fun _ _ e => e)); clear ht)
      | (go_at_call 13; refine (HS.out _ _ _ (by have := HN.out; first | exact Mn.addV_in _ _ | exact this.1 | exact this.2 | exact this.2.1 | exact this.2.2) (by have := HN.out; first | exact this.1 | exact this.2 | exact this.2.1 | exact this.2.2)).mono ?_; rintro e w1 ⟨rfl, ht⟩; have HT := Lib.hid (HT.out.trans (by first | exact ht | exact turn_new ht | exact turn_new (turn_new ht)) (fun _ _ e => e)); clear ht)
      | (go_at_call 12; refine (radd_walk _ _ _ HN.out.1 (by have := HN.out; first | exact this.2 | exact this.2.1)).mono ?_; rintro e w1 ⟨rfl, rfl⟩)
      | (go_at_call 14; refine (rsub_walk _ _ _ HN.out.1 (by have := HN.out; first | exact this.2 | exact this.2.1)).mono ?_; rintro e w1 ⟨rfl, rfl⟩))
    all_goals go_ret
    all_goals (refine ⟨?_, by first | exact HT.out.below (Nat.le_refl _) (fun _ _ e => e) | exact (turn_new HT.out).below (Nat.le_refl _) (fun _ _ e => e)⟩)
    all_goals (first | rfl | (refine congrArg (fun b => Ending.returned (Value.bool b)) (?_ : _ = true); first | (simp only [Bool.or_eq_true, Bool.and_eq_true, decide_eq_true_eq, beq_iff_eq]; omega) | trace_state))
  · obtain ⟨v, q1, q2, q3, q4, q5, q6, q7, q8, q9, q10, q11, q12, q13⟩ := Mn.partsFacts r1 r2 r3 r4
    go_enter Try.func7, Try.ntmps7
    go_wp2_with (first
      | (go_at_call 10; refine (shown_walk HA.out HS.out HF.out _).mono ?_; rintro e w1 ⟨rfl, ht⟩; have HT := Lib.hid (HT.out.trans (by first | exact ht | exact turn_new ht | exact turn_new (turn_new ht)) (fun _ _ e => e)); clear ht)
      | (go_at_call 15; refine (HF.out _ _ _ _ _).mono ?_; rintro e w1 ⟨rfl, ht⟩; have HT := Lib.hid (HT.out.trans (by first | exact ht | exact turn_new ht | exact turn_new (turn_new ht)) (fun _ _ e => e)); clear ht)
      | (go_at_call 16; refine (rfee_walk _ _ _ _ _).mono ?_; rintro e w1 ⟨rfl, ht⟩; have HT := Lib.hid (HT.out.trans (by first | exact ht | exact turn_new ht | exact turn_new (turn_new ht)) (fun _ _ e => e)); clear ht)
      | (go_at_call 17; refine (HC.out _ _ _ _).mono ?_; rintro e w1 ⟨rfl, ht⟩; have HT := Lib.hid (HT.out.trans (by first | exact ht | exact turn_new ht | exact turn_new (turn_new ht)) (fun _ _ e => e)); clear ht)
      | (go_at_call 11; refine (HA.out _ _ _ (by have := HN.out; first | exact this.1 | exact this.2 | exact this.2.1 | exact this.2.2 | exact Mn.addV_in _ _) (by have := HN.out; first | exact this.1 | exact this.2 | exact this.2.1 | exact this.2.2 | exact Mn.addV_in _ _)).mono ?_; rintro e w1 ⟨rfl, ht⟩; have HT := Lib.hid (HT.out.trans (by first | exact ht | exact turn_new ht | exact turn_new (turn_new ht)) (fun _ _ e => e)); clear ht)
      | (go_at_call 13; refine (HS.out _ _ _ (by have := HN.out; first | exact Mn.addV_in _ _ | exact this.1 | exact this.2 | exact this.2.1 | exact this.2.2) (by have := HN.out; first | exact this.1 | exact this.2 | exact this.2.1 | exact this.2.2)).mono ?_; rintro e w1 ⟨rfl, ht⟩; have HT := Lib.hid (HT.out.trans (by first | exact ht | exact turn_new ht | exact turn_new (turn_new ht)) (fun _ _ e => e)); clear ht)
      | (go_at_call 12; refine (radd_walk _ _ _ HN.out.1 (by have := HN.out; first | exact this.2 | exact this.2.1)).mono ?_; rintro e w1 ⟨rfl, rfl⟩)
      | (go_at_call 14; refine (rsub_walk _ _ _ HN.out.1 (by have := HN.out; first | exact this.2 | exact this.2.1)).mono ?_; rintro e w1 ⟨rfl, rfl⟩))
    all_goals go_ret
    all_goals (refine ⟨?_, by first | exact HT.out.below (Nat.le_refl _) (fun _ _ e => e) | exact (turn_new HT.out).below (Nat.le_refl _) (fun _ _ e => e)⟩)
    all_goals (first | rfl | (refine congrArg (fun b => Ending.returned (Value.bool b)) (?_ : _ = true); first | (simp only [Bool.or_eq_true, Bool.and_eq_true, decide_eq_true_eq, beq_iff_eq]; omega) | trace_state))
theorem moneyPairs_walk (p a b : Int) (W : World) (hA : AddC) (hS : SubC) (hC : CheckC) (hF : FeeC) :
    Calls Try.prog 9 #[.int .i64 p, .int .i64 a, .int .i64 b] W fun e W' => e = .returned (.bool true) ∧ Below W.heap.size W W' := by
  have HA := Lib.hid hA
  have HS := Lib.hid hS
  have HF := Lib.hid hF
  clear hA hS hF hC
  rcases Mn.pairsFacts p a b with q1 | ⟨q1, q2⟩ | ⟨q1, q2, q3, q4, q5, q6, q7⟩ | ⟨x, y, z, q1, q2, q3, q4, q5, q6, q7, q8, q9, q10, q11, q12, q13, q14, q15, q16, q17, q18, q19⟩
  all_goals (
    go_enter Try.func9, Try.ntmps9
    go_wp2_with (first | (go_at_call 10; refine (shown_walk HA.out HS.out HF.out _).mono ?_; rintro e ws ⟨rfl, hts⟩; have HW := Lib.hid hts; clear hts; have HT := Lib.hid (Turn.refl nowhere (ws.alloc (.cells #[.int .i64 p, .int .i64 0, .int .i64 999999999999] 28)))) | (go_at_call 15; refine (HF.out _ _ _ _ _).mono ?_; rintro e w1 ⟨rfl, ht⟩; have HT := Lib.hid (HT.out.trans ht (fun _ _ e => e)); clear ht; have c0 : w1.cell? ⟨ws.heap.size, 0, none⟩ = some (.int .i64 p) := turn_box HT.out 0; have c1 : w1.cell? ⟨ws.heap.size, 1, none⟩ = some (.int .i64 0) := turn_box HT.out 1; have c2 : w1.cell? ⟨ws.heap.size, 2, none⟩ = some (.int .i64 999999999999) := turn_box HT.out 2))
    all_goals go_ret
    all_goals (refine ⟨?_, (t3 HW.out (turn_new HT.out)).below (Nat.le_refl _) (fun _ _ e => e)⟩)
    all_goals (first | rfl | (refine congrArg (fun b => Ending.returned (Value.bool b)) (?_ : _ = true); first | omega | (simp only [Bool.or_eq_true, Bool.and_eq_true, decide_eq_true_eq, beq_iff_eq]; omega) | trace_state))
  )
end Go.Proofs.Ytkemkjangejnkaa
