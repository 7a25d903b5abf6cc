/-
  Money's own sums, checks and fees, walked. No conditions but that the numbers of a sum have 64 bits.
-/
import Derived.Test.YtkemkjangejnkaaMnL
import Derived.Deep.QuietTactic
import Derived.BigQuiet
namespace Go.Proofs.Ytkemkjangejnkaa
open Go.RowKit
set_option linter.unusedVariables false
set_option linter.unusedSimpArgs false
theorem xr_t {p q : Prop} [Decidable p] [Decidable q] (h : (!decide p == decide q) = true) : (p ∧ ¬ q) ∨ (¬ p ∧ q) := by
  by_cases hp : p <;> by_cases hq : q <;> simp_all
theorem xr_f {p q : Prop} [Decidable p] [Decidable q] (h : (!decide p == decide q) = false) : (p ∧ q) ∨ (¬ p ∧ ¬ q) := by
  by_cases hp : p <;> by_cases hq : q <;> simp_all
theorem add_walk (a b : Int) (W : World) (ha : Mn.in64 a) (hb : Mn.in64 b) :
    Calls Try.prog 11 #[.int .i64 a, .int .i64 b] W fun e W' => e = two (Mn.addV a b) (Mn.addE a b) ∧ W' = W := by
  have HA := Lib.hid ha
  have HB := Lib.hid hb
  clear ha hb
  go_enter Try.func11, Try.ntmps11
  go_wp2
  all_goals (go_ret2; refine ⟨?_, rfl⟩; have h1 := HA.out; have h2 := HB.out; clear HA HB; unfold Mn.in64 at h1 h2)
  all_goals (rename_i hx; first | (have hy := xr_t hx; clear hx) | (have hy := xr_f hx; clear hx))
  all_goals (first | exact add_ok (a := a) (b := b) (by unfold Mn.in64; (try simp only [wrap64] at *); omega) | exact add_no (a := a) (b := b) (by unfold Mn.in64; (try simp only [wrap64] at *); omega))
theorem sub_walk (a b : Int) (W : World) (ha : Mn.in64 a) (hb : Mn.in64 b) :
    Calls Try.prog 13 #[.int .i64 a, .int .i64 b] W fun e W' => e = two (Mn.subV a b) (Mn.subE a b) ∧ W' = W := by
  have HA := Lib.hid ha
  have HB := Lib.hid hb
  clear ha hb
  go_enter Try.func13, Try.ntmps13
  go_wp2
  all_goals (go_ret2; refine ⟨?_, rfl⟩; have h1 := HA.out; have h2 := HB.out; clear HA HB; unfold Mn.in64 at h1 h2)
  all_goals (rename_i hx; first | (have hy := xr_t hx; clear hx) | (have hy := xr_f hx; clear hx))
  all_goals (first | exact sub_ok (a := a) (b := b) (by unfold Mn.in64; (try simp only [wrap64] at *); omega) | exact sub_no (a := a) (b := b) (by unfold Mn.in64; (try simp only [wrap64] at *); omega))
def inside (n l m : Int) : Bool := decide (l ≤ n ∧ n ≤ m)
theorem inside_yes {n l m : Int} (h : l ≤ n ∧ n ≤ m) : Ending.returned (Value.bool true) = .returned (.bool (inside n l m)) := by unfold inside; rw [decide_eq_true h]
theorem inside_no {n l m : Int} (h : ¬ (l ≤ n ∧ n ≤ m)) : Ending.returned (Value.bool false) = .returned (.bool (inside n l m)) := by unfold inside; rw [decide_eq_false h]
theorem inside_t {n l m : Int} (h : inside n l m = true) : l ≤ n ∧ n ≤ m := of_decide_eq_true h
theorem inside_f {n l m : Int} (h : inside n l m = false) : ¬ (l ≤ n ∧ n ≤ m) := of_decide_eq_false h
theorem within_walk (n l m : Int) (W : World) :
    Calls Try.prog 19 #[.int .i64 n, .int .i64 l, .int .i64 m] W fun e W' => e = .returned (.bool (inside n l m)) ∧ W' = W := by
  go_enter Try.func19, Try.ntmps19
  rcases (by omega : (l ≤ n ∧ n ≤ m) ∨ n < l ∨ (l ≤ n ∧ m < n)) with h | h | h
  all_goals go_wp2
  all_goals (go_ret; refine ⟨?_, rfl⟩)
  all_goals (first | exact inside_yes (by omega) | exact inside_no (by omega) | (refine congrArg (fun b => Ending.returned (Value.bool b)) ?_; unfold inside; simp only [Bool.and_eq_true, decide_eq_true_eq, decide_eq_decide]; omega) | trace_state)
attribute [irreducible] inside
theorem check_walk (p l m : Int) (W : World) :
    Calls Try.prog 17 #[.agg #[.int .i64 p, .int .i64 l, .int .i64 m]] W fun e W' => e = .returned (.int .i64 (Mn.checkE p l m)) ∧ ∃ o, W' = W.alloc o := by
  rcases (by cases inside p 0 10000 <;> cases inside l 0 999999999999 <;> cases inside m l 999999999999 <;> simp : (inside p 0 10000 = false) ∨ (inside p 0 10000 = true ∧ inside l 0 999999999999 = false) ∨ (inside p 0 10000 = true ∧ inside l 0 999999999999 = true ∧ inside m l 999999999999 = false) ∨ (inside p 0 10000 = true ∧ inside l 0 999999999999 = true ∧ inside m l 999999999999 = true)) with h | ⟨h1, h⟩ | ⟨h1, h2, h⟩ | ⟨h1, h2, h⟩
  all_goals (
    go_enter Try.func17, Try.ntmps17
    go_wp2_with (go_at_call 19; refine (within_walk _ _ _ _).mono ?_; rintro e w1 ⟨rfl, rfl⟩)
    all_goals (go_ret; refine ⟨?_, _, rfl⟩))
  · exact check_no (p := p) (l := l) (m := m) (by have := inside_f h; unfold Mn.rateOk Mn.top; omega)
  · exact check_no (p := p) (l := l) (m := m) (by have := inside_f h; unfold Mn.rateOk Mn.top; omega)
  · exact check_no (p := p) (l := l) (m := m) (by have := inside_f h; unfold Mn.rateOk Mn.top; omega)
  · exact check_ok (p := p) (l := l) (m := m) (by have := inside_t h; have := inside_t h1; have := inside_t h2; unfold Mn.rateOk Mn.top; omega)
theorem share_walk (p a : Int) (W : World) (hp : 0 ≤ p) (hp1 : p ≤ 10000) (ha : 0 ≤ a) (ha1 : a ≤ 999999999999) :
    Calls Try.prog 20 #[.int .i64 p, .int .i64 a] W fun e W' => e = .returned (.int .i64 (Mn.rnd (a * p))) ∧ W' = W := by
  have HP := Lib.hid (And.intro hp (And.intro hp1 (And.intro ha ha1)))
  clear hp hp1 ha ha1
  go_enter Try.func20, Try.ntmps20
  go_wp2
  all_goals (go_ret; refine ⟨?_, rfl⟩)
  all_goals (refine congrArg (fun n => Ending.returned (Value.int .i64 n)) ?_)
  all_goals (
    obtain ⟨hp, hp1, ha, ha1⟩ := HP.out
    have hq := Mn.mul_in (a := a) (p := p) ha (by unfold Mn.top; omega) hp hp1
    have e1 : wrap64 (a * p) = a * p := wrap_in (by unfold Mn.in64; omega)
    simp only [e1, Int.tdiv_eq_ediv_of_nonneg hq.1, Int.tmod_eq_emod_of_nonneg hq.1] at *
    unfold Mn.rnd
    generalize a * p = q at *
    have e2 : wrap64 (q / 10000) = q / 10000 := wrap_in (by unfold Mn.in64; omega)
    have e3 : (q / 10000).tmod 2 = q / 10000 % 2 := Int.tmod_eq_emod_of_nonneg (by omega)
    have e4 : wrap64 (q / 10000 + 1) = q / 10000 + 1 := wrap_in (by unfold Mn.in64; omega)
    have e5 : wrap64 (1 - q / 10000 % 2) = 1 - q / 10000 % 2 := wrap_in (by unfold Mn.in64; omega)
    have e6 : wrap64 (q / 10000 - (1 - q / 10000 % 2)) = q / 10000 - (1 - q / 10000 % 2) := wrap_in (by unfold Mn.in64; omega)
    have e7 : wrap64 (q / 10000 - (1 - q / 10000 % 2) + 1) = q / 10000 - (1 - q / 10000 % 2) + 1 := wrap_in (by unfold Mn.in64; omega)
    simp only [e2, e3, e4, e5, e6, e7, beq_iff_eq, beq_eq_false_iff_ne, ne_eq] at *
    (try split) <;> omega)
theorem turn_same {w w' w2 : World} {p p' : Nat} (h : Turn nowhere w w') (g : w2 = w') : Turn nowhere w w2 := g ▸ h
theorem fee_walk (p l m a : Int) (W : World) :
    Calls Try.prog 15 #[.agg #[.int .i64 p, .int .i64 l, .int .i64 m], .int .i64 a] W fun e W' => e = two (Mn.feeV p l m a) (Mn.feeE p l m a) ∧ Turn nowhere W W' := by
  go_enter Try.func15, Try.ntmps15
  rcases (by by_cases h : Mn.rateOk p l m <;> by_cases g : inside a 0 999999999999 = true <;> simp [h, g] : (¬ Mn.rateOk p l m) ∨ (Mn.rateOk p l m ∧ inside a 0 999999999999 = false) ∨ (Mn.rateOk p l m ∧ inside a 0 999999999999 = true)) with h | ⟨h, g⟩ | ⟨h, g⟩
  · have q : Mn.checkE p l m = 101 := if_neg h
    have HH := Lib.hid h
    clear h
    go_wp2_with (go_at_call 17; refine (check_walk _ _ _ _).mono ?_; rintro e w1 ⟨rfl, o1, rfl⟩)
    go_ret2
    refine ⟨two_eq ?_ ?_, ((Turn.refl _ _).alloc _).alloc _⟩
    · unfold Mn.feeV; rw [if_neg (fun e => HH.out e.1)]
    · unfold Mn.feeE; rw [if_neg HH.out]
  · have q : Mn.checkE p l m = 0 := if_pos h
    have HH := Lib.hid h
    have h2 : ¬ Mn.amtOk a := by have := inside_f g; unfold Mn.amtOk Mn.top; omega
    have HG := Lib.hid h2
    clear h h2
    go_wp2_with (first
      | (go_at_call 17; refine (check_walk _ _ _ _).mono ?_; rintro e w1 ⟨rfl, o1, rfl⟩)
      | (go_at_call 19; refine (within_walk _ _ _ _).mono ?_; rintro e w1 ⟨rfl, rfl⟩))
    go_ret2
    refine ⟨two_eq ?_ ?_, ((Turn.refl _ _).alloc _).alloc _⟩
    · unfold Mn.feeV; rw [if_neg (fun e => HG.out e.2)]
    · unfold Mn.feeE; rw [if_pos HH.out, if_neg HG.out]
  · have q : Mn.checkE p l m = 0 := if_pos h
    have ha : Mn.amtOk a := by have := inside_t g; unfold Mn.amtOk Mn.top; omega
    have HH := Lib.hid h
    have HG := Lib.hid ha
    clear h ha
    go_wp2_with (first
      | (go_at_call 17; refine (check_walk _ _ _ _).mono ?_; rintro e w1 ⟨rfl, o1, rfl⟩)
      | (go_at_call 19; refine (within_walk _ _ _ _).mono ?_; rintro e w1 ⟨rfl, rfl⟩))
    go_quiet ((go_at_call 20; exact Calls.quiet_of_same (share_walk _ _ _ HH.out.1 HH.out.2.1 HG.out.1 HG.out.2)))
    go_wp2
    all_goals go_ret2
    all_goals (refine ⟨two_eq ?_ ?_, (((Turn.refl _ _).alloc _).alloc _).drewN _⟩)
    all_goals first
      | (unfold Mn.feeV; rw [if_pos ⟨HH.out, HG.out⟩]; unfold Mn.fee; have hl := HH.out; unfold Mn.rateOk at hl; generalize Mn.rnd (a * p) = q at *; omega)
      | (unfold Mn.feeE; rw [if_pos HH.out, if_pos HG.out])
theorem addC : AddC := fun a b W ha hb => (add_walk a b W ha hb).mono fun e w ⟨h, g⟩ => ⟨h, g ▸ Turn.refl _ _⟩
theorem subC : SubC := fun a b W ha hb => (sub_walk a b W ha hb).mono fun e w ⟨h, g⟩ => ⟨h, g ▸ Turn.refl _ _⟩
theorem checkC : CheckC := fun p l m W => (check_walk p l m W).mono fun e w ⟨h, o, g⟩ => ⟨h, g ▸ (Turn.refl _ _).alloc _⟩
theorem feeC : FeeC := fee_walk
end Go.Proofs.Ytkemkjangejnkaa
