/-
  The law MoneyRises, walked from the contracts of money. No conditions but that the numbers have 64 bits.
-/
import Derived.Test.YtkemkjangejnkaaMnL
import Derived.Deep.QuietTactic
import Derived.BigQuiet
namespace Go.Proofs.Ytkemkjangejnkaa
open Go.RowKit
set_option linter.unusedVariables false
set_option linter.unusedSimpArgs false
set_option maxHeartbeats 4000000 in
theorem moneyRises_walk (p l m a b q : Int) (W : World) (hA : AddC) (hS : SubC) (hC : CheckC) (hF0 : FeeC) :
    Calls Try.prog 6 #[.agg #[.int .i64 p, .int .i64 l, .int .i64 m], .agg #[.int .i64 a, .int .i64 b], .int .i64 q] W fun e W' => e = .returned (.bool true) ∧ Below W.heap.size W W' := by
  have HF := Lib.hid hF0
  have hF := hF0
  go_enter Try.func6, Try.ntmps6
  go_wp2_with fail
  refine (shown_walk hA hS hF _).mono ?_
  rintro e ws ⟨rfl, hts⟩
  have HT := Lib.hid hts
  clear hts
  have c0 : ws.cell? ⟨W.heap.size, 0, none⟩ = some (.int .i64 p) := (HT.out.cell (p := ⟨W.heap.size, 0, none⟩) (by simp; try omega) (fun e => e)).trans (by simp)
  have c1 : ws.cell? ⟨W.heap.size, 1, none⟩ = some (.int .i64 l) := (HT.out.cell (p := ⟨W.heap.size, 1, none⟩) (by simp; try omega) (fun e => e)).trans (by simp)
  have c2 : ws.cell? ⟨W.heap.size, 2, none⟩ = some (.int .i64 m) := (HT.out.cell (p := ⟨W.heap.size, 2, none⟩) (by simp; try omega) (fun e => e)).trans (by simp)
  have d0 : ws.cell? ⟨W.heap.size + 1, 0, none⟩ = some (.int .i64 a) := (HT.out.cell (p := ⟨W.heap.size + 1, 0, none⟩) (by simp; try omega) (fun e => e)).trans (by simp)
  have d1 : ws.cell? ⟨W.heap.size + 1, 1, none⟩ = some (.int .i64 b) := (HT.out.cell (p := ⟨W.heap.size + 1, 1, none⟩) (by simp; try omega) (fun e => e)).trans (by simp)
  have sz : W.heap.size + 1 < ws.heap.size := by have := HT.out.size; simp at this; omega
  go_wp2_with fail
  have hb := Blk.new ws 28 #[.int .i64 p, .int .i64 l, .int .i64 m]
  have ht2 := (Turn.refl nowhere ws).alloc (.cells #[.int .i64 p, .int .i64 l, .int .i64 m] 28)
  have e0 := (ht2.cell (p := ⟨W.heap.size, 0, none⟩) (by show W.heap.size < _; omega) (fun e => e)).trans c0
  have e1 := (ht2.cell (p := ⟨W.heap.size + 1, 0, none⟩) sz (fun e => e)).trans d0
  have e2 := (ht2.cell (p := ⟨W.heap.size + 1, 1, none⟩) sz (fun e => e)).trans d1
  have e3 := (ht2.cell (p := ⟨W.heap.size, 1, none⟩) (by show W.heap.size < _; omega) (fun e => e)).trans c1
  have e4 := (ht2.cell (p := ⟨W.heap.size, 2, none⟩) (by show W.heap.size < _; omega) (fun e => e)).trans c2
  clear c0 c1 c2 d0 d1
  have HT2 := Lib.hid (t3 (turn_new (turn_new HT.out)) ht2)
  clear ht2 HT hF hF0 hA hS hC
  obtain ⟨g, hg⟩ : ∃ g, g = ws.heap.size := ⟨_, rfl⟩
  have hgl : W.heap.size + 1 < g := by omega
  rw [← hg] at hb ⊢
  clear sz hg
  generalize ws.alloc (.cells #[.int .i64 p, .int .i64 l, .int .i64 m] 28) = w2 at *
  have HB := Lib.hid hb
  clear hb
  have HT0 := Lib.hid (HT2.out)
  have b0 := HB.out.cell 0
  have b1 := HB.out.cell 1
  have b2 := HB.out.cell 2
  have bf := HB.out.frozen 0
  simp only [List.getElem?_toArray, List.getElem?_cons_zero, List.getElem?_cons_succ] at b0 b1 b2
  have n1 : ¬ W.heap.size = g := by omega
  have n2 : ¬ W.heap.size + 1 = g := by omega
  have n3 : ¬ g = W.heap.size := by omega
  have n4 : ¬ g = W.heap.size + 1 := by omega
  have HG := Lib.hid hgl
  clear hgl
  have lw := HT2.out.size
  rcases Int.lt_or_le b a with h1 | h1 <;> rcases Int.lt_or_le p q with h2 | h2
  · have HL : b ≤ a := by omega
    have HP : p ≤ q := by omega
    obtain ⟨f1, f2, f3⟩ := Mn.risesFacts p q l m b a HL HP
    have F1 := Lib.hid f1
    have F2 := Lib.hid f2
    have F3 := Lib.hid f3
    clear f1 f2 f3
    go_quiet (fail)
    go_wp2_with fail
    have hb3 := (HB.out.drewN nq).set_ 0 (.int .i64 q)
    have ht3 := ((Turn.refl (only g) w2).drewN nq).at_ 0 (.int .i64 q)
    clear b0 b1 b2 bf
    have hc3 : ∀ w', Turn nowhere ((w2.drewN nq).setCell ⟨g, 0, none⟩ (.int .i64 q)) w' → Blk w' g 28 #[.int .i64 q, .int .i64 l, .int .i64 m] ∧ w'.cell? ⟨W.heap.size, 0, none⟩ = some (.int .i64 p) ∧ w'.cell? ⟨W.heap.size, 1, none⟩ = some (.int .i64 l) ∧ w'.cell? ⟨W.heap.size, 2, none⟩ = some (.int .i64 m) ∧ w'.cell? ⟨W.heap.size + 1, 0, none⟩ = some (.int .i64 a) ∧ w'.cell? ⟨W.heap.size + 1, 1, none⟩ = some (.int .i64 b) := by
      intro w' hw'
      have hgg := HG.out
      have hlt := HB.out.lt
      have hq : Turn (only g) w2 w' := ht3.trans hw' (fun _ _ e => e.elim)
      have m1 : ∀ i, w'.cell? ⟨W.heap.size, i, none⟩ = w2.cell? ⟨W.heap.size, i, none⟩ := fun i => hq.cell (p := ⟨W.heap.size, i, none⟩) (by show W.heap.size < _; omega) n1
      have m2 : ∀ i, w'.cell? ⟨W.heap.size + 1, i, none⟩ = w2.cell? ⟨W.heap.size + 1, i, none⟩ := fun i => hq.cell (p := ⟨W.heap.size + 1, i, none⟩) (by show W.heap.size + 1 < _; omega) n2
      exact ⟨hb3.turn hw' (fun e => e), (m1 0).trans e0, (m1 1).trans e3, (m1 2).trans e4, (m2 0).trans e1, (m2 1).trans e2⟩
    have HC3 := Lib.hid hc3
    have HT3 := Lib.hid ht3
    clear hb3 ht3 hc3 e0 e1 e2 e3 e4
    generalize (w2.drewN nq).setCell ⟨g, 0, none⟩ (.int .i64 q) = w3 at *
    have HT := Lib.hid (Turn.refl nowhere w3)
    go_wp2_with (go_at_call 15; refine (HF.out _ _ _ _ _).mono ?_; rintro e w1 ⟨rfl, ht⟩; have HT := Lib.hid (HT.out.trans ht (fun _ _ e => e)); clear ht; have c0 : w1.cell? ⟨W.heap.size, 0, none⟩ = some (.int .i64 p) := (HC3.out _ HT.out).2.1; have c1 : w1.cell? ⟨W.heap.size, 1, none⟩ = some (.int .i64 l) := (HC3.out _ HT.out).2.2.1; have c2 : w1.cell? ⟨W.heap.size, 2, none⟩ = some (.int .i64 m) := (HC3.out _ HT.out).2.2.2.1; have d0 : w1.cell? ⟨W.heap.size + 1, 0, none⟩ = some (.int .i64 a) := (HC3.out _ HT.out).2.2.2.2.1; have d1 : w1.cell? ⟨W.heap.size + 1, 1, none⟩ = some (.int .i64 b) := (HC3.out _ HT.out).2.2.2.2.2; have b0 : w1.cell? ⟨g, 0, none⟩ = some (.int .i64 q) := (HC3.out _ HT.out).1.cell 0; have b1 : w1.cell? ⟨g, 1, none⟩ = some (.int .i64 l) := (HC3.out _ HT.out).1.cell 1; have b2 : w1.cell? ⟨g, 2, none⟩ = some (.int .i64 m) := (HC3.out _ HT.out).1.cell 2)
    all_goals go_ret
    all_goals (refine ⟨?_, ((HT2.out.trans HT3.out (fun k hk e => by have := HG.out; have e : k = g := e; omega)).trans HT.out (fun _ _ e => e)).below (Nat.le_refl _) (fun _ _ e => e)⟩)
    all_goals (have g1 := F1.out; have g2 := F2.out; have g3 := F3.out; first | rfl | omega | (refine congrArg (fun b => Ending.returned (Value.bool b)) (?_ : _ = true); first | omega | (simp only [Bool.or_eq_true, Bool.and_eq_true, decide_eq_true_eq, beq_iff_eq, bne_iff_ne, ne_eq]; omega) | (exfalso; omega) | trace_state))
  · have HL : b ≤ a := by omega
    have HP : p ≤ p := by omega
    obtain ⟨f1, f2, f3⟩ := Mn.risesFacts p p l m b a HL HP
    have F1 := Lib.hid f1
    have F2 := Lib.hid f2
    have F3 := Lib.hid f3
    clear f1 f2 f3
    go_quiet (fail)
    go_wp2_with fail
    have hb3 := (HB.out.drewN nq).set_ 0 (.int .i64 p)
    have ht3 := ((Turn.refl (only g) w2).drewN nq).at_ 0 (.int .i64 p)
    clear b0 b1 b2 bf
    have hc3 : ∀ w', Turn nowhere ((w2.drewN nq).setCell ⟨g, 0, none⟩ (.int .i64 p)) w' → Blk w' g 28 #[.int .i64 p, .int .i64 l, .int .i64 m] ∧ w'.cell? ⟨W.heap.size, 0, none⟩ = some (.int .i64 p) ∧ w'.cell? ⟨W.heap.size, 1, none⟩ = some (.int .i64 l) ∧ w'.cell? ⟨W.heap.size, 2, none⟩ = some (.int .i64 m) ∧ w'.cell? ⟨W.heap.size + 1, 0, none⟩ = some (.int .i64 a) ∧ w'.cell? ⟨W.heap.size + 1, 1, none⟩ = some (.int .i64 b) := by
      intro w' hw'
      have hgg := HG.out
      have hlt := HB.out.lt
      have hq : Turn (only g) w2 w' := ht3.trans hw' (fun _ _ e => e.elim)
      have m1 : ∀ i, w'.cell? ⟨W.heap.size, i, none⟩ = w2.cell? ⟨W.heap.size, i, none⟩ := fun i => hq.cell (p := ⟨W.heap.size, i, none⟩) (by show W.heap.size < _; omega) n1
      have m2 : ∀ i, w'.cell? ⟨W.heap.size + 1, i, none⟩ = w2.cell? ⟨W.heap.size + 1, i, none⟩ := fun i => hq.cell (p := ⟨W.heap.size + 1, i, none⟩) (by show W.heap.size + 1 < _; omega) n2
      exact ⟨hb3.turn hw' (fun e => e), (m1 0).trans e0, (m1 1).trans e3, (m1 2).trans e4, (m2 0).trans e1, (m2 1).trans e2⟩
    have HC3 := Lib.hid hc3
    have HT3 := Lib.hid ht3
    clear hb3 ht3 hc3 e0 e1 e2 e3 e4
    generalize (w2.drewN nq).setCell ⟨g, 0, none⟩ (.int .i64 p) = w3 at *
    have HT := Lib.hid (Turn.refl nowhere w3)
    go_wp2_with (go_at_call 15; refine (HF.out _ _ _ _ _).mono ?_; rintro e w1 ⟨rfl, ht⟩; have HT := Lib.hid (HT.out.trans ht (fun _ _ e => e)); clear ht; have c0 : w1.cell? ⟨W.heap.size, 0, none⟩ = some (.int .i64 p) := (HC3.out _ HT.out).2.1; have c1 : w1.cell? ⟨W.heap.size, 1, none⟩ = some (.int .i64 l) := (HC3.out _ HT.out).2.2.1; have c2 : w1.cell? ⟨W.heap.size, 2, none⟩ = some (.int .i64 m) := (HC3.out _ HT.out).2.2.2.1; have d0 : w1.cell? ⟨W.heap.size + 1, 0, none⟩ = some (.int .i64 a) := (HC3.out _ HT.out).2.2.2.2.1; have d1 : w1.cell? ⟨W.heap.size + 1, 1, none⟩ = some (.int .i64 b) := (HC3.out _ HT.out).2.2.2.2.2; have b0 : w1.cell? ⟨g, 0, none⟩ = some (.int .i64 p) := (HC3.out _ HT.out).1.cell 0; have b1 : w1.cell? ⟨g, 1, none⟩ = some (.int .i64 l) := (HC3.out _ HT.out).1.cell 1; have b2 : w1.cell? ⟨g, 2, none⟩ = some (.int .i64 m) := (HC3.out _ HT.out).1.cell 2)
    all_goals go_ret
    all_goals (refine ⟨?_, ((HT2.out.trans HT3.out (fun k hk e => by have := HG.out; have e : k = g := e; omega)).trans HT.out (fun _ _ e => e)).below (Nat.le_refl _) (fun _ _ e => e)⟩)
    all_goals (have g1 := F1.out; have g2 := F2.out; have g3 := F3.out; first | rfl | omega | (refine congrArg (fun b => Ending.returned (Value.bool b)) (?_ : _ = true); first | omega | (simp only [Bool.or_eq_true, Bool.and_eq_true, decide_eq_true_eq, beq_iff_eq, bne_iff_ne, ne_eq]; omega) | (exfalso; omega) | trace_state))
  · have HL : a ≤ b := by omega
    have HP : p ≤ q := by omega
    obtain ⟨f1, f2, f3⟩ := Mn.risesFacts p q l m a b HL HP
    have F1 := Lib.hid f1
    have F2 := Lib.hid f2
    have F3 := Lib.hid f3
    clear f1 f2 f3
    go_quiet (fail)
    go_wp2_with fail
    have hb3 := (HB.out.drewN nq).set_ 0 (.int .i64 q)
    have ht3 := ((Turn.refl (only g) w2).drewN nq).at_ 0 (.int .i64 q)
    clear b0 b1 b2 bf
    have hc3 : ∀ w', Turn nowhere ((w2.drewN nq).setCell ⟨g, 0, none⟩ (.int .i64 q)) w' → Blk w' g 28 #[.int .i64 q, .int .i64 l, .int .i64 m] ∧ w'.cell? ⟨W.heap.size, 0, none⟩ = some (.int .i64 p) ∧ w'.cell? ⟨W.heap.size, 1, none⟩ = some (.int .i64 l) ∧ w'.cell? ⟨W.heap.size, 2, none⟩ = some (.int .i64 m) ∧ w'.cell? ⟨W.heap.size + 1, 0, none⟩ = some (.int .i64 a) ∧ w'.cell? ⟨W.heap.size + 1, 1, none⟩ = some (.int .i64 b) := by
      intro w' hw'
      have hgg := HG.out
      have hlt := HB.out.lt
      have hq : Turn (only g) w2 w' := ht3.trans hw' (fun _ _ e => e.elim)
      have m1 : ∀ i, w'.cell? ⟨W.heap.size, i, none⟩ = w2.cell? ⟨W.heap.size, i, none⟩ := fun i => hq.cell (p := ⟨W.heap.size, i, none⟩) (by show W.heap.size < _; omega) n1
      have m2 : ∀ i, w'.cell? ⟨W.heap.size + 1, i, none⟩ = w2.cell? ⟨W.heap.size + 1, i, none⟩ := fun i => hq.cell (p := ⟨W.heap.size + 1, i, none⟩) (by show W.heap.size + 1 < _; omega) n2
      exact ⟨hb3.turn hw' (fun e => e), (m1 0).trans e0, (m1 1).trans e3, (m1 2).trans e4, (m2 0).trans e1, (m2 1).trans e2⟩
    have HC3 := Lib.hid hc3
    have HT3 := Lib.hid ht3
    clear hb3 ht3 hc3 e0 e1 e2 e3 e4
    generalize (w2.drewN nq).setCell ⟨g, 0, none⟩ (.int .i64 q) = w3 at *
    have HT := Lib.hid (Turn.refl nowhere w3)
    go_wp2_with (go_at_call 15; refine (HF.out _ _ _ _ _).mono ?_; rintro e w1 ⟨rfl, ht⟩; have HT := Lib.hid (HT.out.trans ht (fun _ _ e => e)); clear ht; have c0 : w1.cell? ⟨W.heap.size, 0, none⟩ = some (.int .i64 p) := (HC3.out _ HT.out).2.1; have c1 : w1.cell? ⟨W.heap.size, 1, none⟩ = some (.int .i64 l) := (HC3.out _ HT.out).2.2.1; have c2 : w1.cell? ⟨W.heap.size, 2, none⟩ = some (.int .i64 m) := (HC3.out _ HT.out).2.2.2.1; have d0 : w1.cell? ⟨W.heap.size + 1, 0, none⟩ = some (.int .i64 a) := (HC3.out _ HT.out).2.2.2.2.1; have d1 : w1.cell? ⟨W.heap.size + 1, 1, none⟩ = some (.int .i64 b) := (HC3.out _ HT.out).2.2.2.2.2; have b0 : w1.cell? ⟨g, 0, none⟩ = some (.int .i64 q) := (HC3.out _ HT.out).1.cell 0; have b1 : w1.cell? ⟨g, 1, none⟩ = some (.int .i64 l) := (HC3.out _ HT.out).1.cell 1; have b2 : w1.cell? ⟨g, 2, none⟩ = some (.int .i64 m) := (HC3.out _ HT.out).1.cell 2)
    all_goals go_ret
    all_goals (refine ⟨?_, ((HT2.out.trans HT3.out (fun k hk e => by have := HG.out; have e : k = g := e; omega)).trans HT.out (fun _ _ e => e)).below (Nat.le_refl _) (fun _ _ e => e)⟩)
    all_goals (have g1 := F1.out; have g2 := F2.out; have g3 := F3.out; first | rfl | omega | (refine congrArg (fun b => Ending.returned (Value.bool b)) (?_ : _ = true); first | omega | (simp only [Bool.or_eq_true, Bool.and_eq_true, decide_eq_true_eq, beq_iff_eq, bne_iff_ne, ne_eq]; omega) | (exfalso; omega) | trace_state))
  · have HL : a ≤ b := by omega
    have HP : p ≤ p := by omega
    obtain ⟨f1, f2, f3⟩ := Mn.risesFacts p p l m a b HL HP
    have F1 := Lib.hid f1
    have F2 := Lib.hid f2
    have F3 := Lib.hid f3
    clear f1 f2 f3
    go_quiet (fail)
    go_wp2_with fail
    have hb3 := (HB.out.drewN nq).set_ 0 (.int .i64 p)
    have ht3 := ((Turn.refl (only g) w2).drewN nq).at_ 0 (.int .i64 p)
    clear b0 b1 b2 bf
    have hc3 : ∀ w', Turn nowhere ((w2.drewN nq).setCell ⟨g, 0, none⟩ (.int .i64 p)) w' → Blk w' g 28 #[.int .i64 p, .int .i64 l, .int .i64 m] ∧ w'.cell? ⟨W.heap.size, 0, none⟩ = some (.int .i64 p) ∧ w'.cell? ⟨W.heap.size, 1, none⟩ = some (.int .i64 l) ∧ w'.cell? ⟨W.heap.size, 2, none⟩ = some (.int .i64 m) ∧ w'.cell? ⟨W.heap.size + 1, 0, none⟩ = some (.int .i64 a) ∧ w'.cell? ⟨W.heap.size + 1, 1, none⟩ = some (.int .i64 b) := by
      intro w' hw'
      have hgg := HG.out
      have hlt := HB.out.lt
      have hq : Turn (only g) w2 w' := ht3.trans hw' (fun _ _ e => e.elim)
      have m1 : ∀ i, w'.cell? ⟨W.heap.size, i, none⟩ = w2.cell? ⟨W.heap.size, i, none⟩ := fun i => hq.cell (p := ⟨W.heap.size, i, none⟩) (by show W.heap.size < _; omega) n1
      have m2 : ∀ i, w'.cell? ⟨W.heap.size + 1, i, none⟩ = w2.cell? ⟨W.heap.size + 1, i, none⟩ := fun i => hq.cell (p := ⟨W.heap.size + 1, i, none⟩) (by show W.heap.size + 1 < _; omega) n2
      exact ⟨hb3.turn hw' (fun e => e), (m1 0).trans e0, (m1 1).trans e3, (m1 2).trans e4, (m2 0).trans e1, (m2 1).trans e2⟩
    have HC3 := Lib.hid hc3
    have HT3 := Lib.hid ht3
    clear hb3 ht3 hc3 e0 e1 e2 e3 e4
    generalize (w2.drewN nq).setCell ⟨g, 0, none⟩ (.int .i64 p) = w3 at *
    have HT := Lib.hid (Turn.refl nowhere w3)
    go_wp2_with (go_at_call 15; refine (HF.out _ _ _ _ _).mono ?_; rintro e w1 ⟨rfl, ht⟩; have HT := Lib.hid (HT.out.trans ht (fun _ _ e => e)); clear ht; have c0 : w1.cell? ⟨W.heap.size, 0, none⟩ = some (.int .i64 p) := (HC3.out _ HT.out).2.1; have c1 : w1.cell? ⟨W.heap.size, 1, none⟩ = some (.int .i64 l) := (HC3.out _ HT.out).2.2.1; have c2 : w1.cell? ⟨W.heap.size, 2, none⟩ = some (.int .i64 m) := (HC3.out _ HT.out).2.2.2.1; have d0 : w1.cell? ⟨W.heap.size + 1, 0, none⟩ = some (.int .i64 a) := (HC3.out _ HT.out).2.2.2.2.1; have d1 : w1.cell? ⟨W.heap.size + 1, 1, none⟩ = some (.int .i64 b) := (HC3.out _ HT.out).2.2.2.2.2; have b0 : w1.cell? ⟨g, 0, none⟩ = some (.int .i64 p) := (HC3.out _ HT.out).1.cell 0; have b1 : w1.cell? ⟨g, 1, none⟩ = some (.int .i64 l) := (HC3.out _ HT.out).1.cell 1; have b2 : w1.cell? ⟨g, 2, none⟩ = some (.int .i64 m) := (HC3.out _ HT.out).1.cell 2)
    all_goals go_ret
    all_goals (refine ⟨?_, ((HT2.out.trans HT3.out (fun k hk e => by have := HG.out; have e : k = g := e; omega)).trans HT.out (fun _ _ e => e)).below (Nat.le_refl _) (fun _ _ e => e)⟩)
    all_goals (have g1 := F1.out; have g2 := F2.out; have g3 := F3.out; first | rfl | omega | (refine congrArg (fun b => Ending.returned (Value.bool b)) (?_ : _ = true); first | omega | (simp only [Bool.or_eq_true, Bool.and_eq_true, decide_eq_true_eq, beq_iff_eq, bne_iff_ne, ne_eq]; omega) | (exfalso; omega) | trace_state))
end Go.Proofs.Ytkemkjangejnkaa
