/-
  Money's fees, its difference, and the reference's fee, walked. No conditions but that the numbers have 64 bits.
-/
import Derived.Test.YthoefjaapjaeeaaMnM
import Derived.Test.YthoefjaapjaeeaaMem
import Derived.Test.YthoefjaapjaeeaaProg
import Derived.WalkKit
import Derived.Lib.Hide
import Derived.Deep.QuietTactic
import Derived.BigQuiet
namespace Go.Proofs.Ythoefjaapjaeeaa
open Go.RowKit
set_option linter.unusedVariables false
set_option linter.unusedSimpArgs false
abbrev two (v e : Int) : Ending := .returned (.tuple #[.int .i64 v, .int .i64 e])
theorem two_eq {v e v' e' : Int} (h : v = v') (g : e = e') : two v e = two v' e' := by rw [h, g]
theorem wrap_in {n : Int} (h : Mn.in64 n) : wrap64 n = n := by
  unfold Mn.in64 at h
  unfold wrap64
  omega
theorem add_ok {a b : Int} (h : Mn.in64 (a + b)) : two (wrap64 (a + b)) 0 = two (Mn.addV a b) (Mn.addE a b) :=
  two_eq (by rw [wrap_in h]; exact (if_pos h).symm) (if_pos h).symm
theorem add_no {a b : Int} (h : ¬ Mn.in64 (a + b)) : two 0 100 = two (Mn.addV a b) (Mn.addE a b) := two_eq (if_neg h).symm (if_neg h).symm
theorem sub_ok {a b : Int} (h : Mn.in64 (a - b)) : two (wrap64 (a - b)) 0 = two (Mn.subV a b) (Mn.subE a b) :=
  two_eq (by rw [wrap_in h]; exact (if_pos h).symm) (if_pos h).symm
theorem sub_no {a b : Int} (h : ¬ Mn.in64 (a - b)) : two 0 100 = two (Mn.subV a b) (Mn.subE a b) := two_eq (if_neg h).symm (if_neg h).symm
theorem turn_new {F : Nat → Prop} {w w' : World} {o : Obj} (h : Turn F (w.alloc o) w') : Turn F w w' := ((Turn.refl F w).alloc o).trans h fun _ _ e => e
theorem check_in {p l m : Int} (h : (Mn.checkE p l m != 0) = false) : Mn.rateOk p l m := by
  unfold Mn.checkE at h
  split at h
  · assumption
  · cases h
theorem check_out {p l m : Int} (h : (Mn.checkE p l m != 0) = true) : ¬ Mn.rateOk p l m := by
  unfold Mn.checkE at h
  split at h
  · cases h
  · assumption
theorem fee_no1 {p l m a : Int} (h : (Mn.checkE p l m != 0) = true) : two 0 101 = two (Mn.feeV p l m a) (Mn.feeE p l m a) := by
  have := check_out h
  unfold Mn.feeV Mn.feeE
  rw [if_neg (fun e => this e.1), if_neg this]
theorem fee_no2 {p l m a : Int} (h : (Mn.checkE p l m != 0) = false) (g : a < 0 ∨ 999999999999 < a) : two 0 100 = two (Mn.feeV p l m a) (Mn.feeE p l m a) := by
  have := check_in h
  have h2 : ¬ Mn.amtOk a := by unfold Mn.amtOk Mn.top; omega
  unfold Mn.feeV Mn.feeE
  rw [if_neg (fun e => h2 e.2), if_pos this, if_neg h2]
theorem fee_yes {p l m a n : Int} (h : (Mn.checkE p l m != 0) = false) (g : 0 ≤ a ∧ a ≤ 999999999999) (e : n = Mn.fee p l m a) : two n 0 = two (Mn.feeV p l m a) (Mn.feeE p l m a) := by
  have := check_in h
  have h2 : Mn.amtOk a := g
  unfold Mn.feeV Mn.feeE
  rw [if_pos ⟨this, h2⟩, if_pos this, if_pos h2, e]
theorem check_ok {p l m : Int} (h : Mn.rateOk p l m) : Ending.returned (.int .i64 0) = .returned (.int .i64 (Mn.checkE p l m)) := by unfold Mn.checkE; rw [if_pos h]
theorem check_no {p l m : Int} (h : ¬ Mn.rateOk p l m) : Ending.returned (.int .i64 101) = .returned (.int .i64 (Mn.checkE p l m)) := by unfold Mn.checkE; rw [if_neg h]
theorem rcheck_walk (p l m : Int) (W : World) :
    Calls Try.prog 42 #[.agg #[.int .i64 p, .int .i64 l, .int .i64 m]] W fun e W' => e = .returned (.int .i64 (Mn.checkE p l m)) ∧ ∃ o, W' = W.alloc o := by
  go_enter Try.func42, Try.ntmps42
  go_wp2
  all_goals (go_ret; refine ⟨?_, _, rfl⟩)
  all_goals (first | exact check_ok (p := p) (l := l) (m := m) (by unfold Mn.rateOk Mn.top; omega) | exact check_no (p := p) (l := l) (m := m) (by unfold Mn.rateOk Mn.top; omega))
theorem rfee_walk (p l m a : Int) (W : World) :
    Calls Try.prog 33 #[.agg #[.int .i64 p, .int .i64 l, .int .i64 m], .int .i64 a] W fun e W' => e = two (Mn.feeV p l m a) (Mn.feeE p l m a) ∧ Turn nowhere W W' := by
  go_enter Try.func33, Try.ntmps33
  go_wp2_with (go_at_call 42; refine (rcheck_walk _ _ _ _).mono ?_; rintro e w1 ⟨rfl, o1, rfl⟩)
  all_goals (go_ret2; refine ⟨?_, ?_⟩)
  all_goals (first | exact ((Turn.refl _ _).alloc _).alloc _ | skip)
  all_goals (first | exact fee_no1 (by assumption) | skip)
  all_goals (first | exact fee_no2 (by assumption) (by omega) | skip)
  all_goals (refine fee_yes (by assumption) (by omega) ?_)
  all_goals (
    have hr := check_in (p := p) (l := l) (m := m) (by assumption)
    have hq := Mn.mul_in (a := a) (p := p) (by omega) (by unfold Mn.top; omega) hr.1 hr.2.1
    have e1 : wrap64 (a * p) = a * p := wrap_in (by unfold Mn.in64; omega)
    simp only [e1, Int.tdiv_eq_ediv_of_nonneg hq.1, Int.tmod_eq_emod_of_nonneg hq.1] at *
    unfold Mn.fee Mn.rnd
    unfold Mn.rateOk Mn.top at hr
    generalize a * p = q at *
    have e2 : wrap64 (q / 10000) = q / 10000 := wrap_in (by unfold Mn.in64; omega)
    have e3 : (q / 10000).tmod 2 = q / 10000 % 2 := Int.tmod_eq_emod_of_nonneg (by omega)
    have e4 : wrap64 (q / 10000 + 1) = q / 10000 + 1 := wrap_in (by unfold Mn.in64; omega)
    have e5 : wrap64 (2 * (q % 10000)) = 2 * (q % 10000) := wrap_in (by unfold Mn.in64; omega)
    simp only [e2, e3, e4, e5, beq_iff_eq, beq_eq_false_iff_ne, ne_eq] at *
    (try split) <;> omega)
theorem xr_t {p q : Prop} [Decidable p] [Decidable q] (h : (!decide p == decide q) = true) : (p ∧ ¬ q) ∨ (¬ p ∧ q) := by
  by_cases hp : p <;> by_cases hq : q <;> simp_all
theorem xr_f {p q : Prop} [Decidable p] [Decidable q] (h : (!decide p == decide q) = false) : (p ∧ q) ∨ (¬ p ∧ ¬ q) := by
  by_cases hp : p <;> by_cases hq : q <;> simp_all
theorem sub_walk (a b : Int) (W : World) (ha : Mn.in64 a) (hb : Mn.in64 b) :
    Calls Try.prog 34 #[.int .i64 a, .int .i64 b] W fun e W' => e = two (Mn.subV a b) (Mn.subE a b) ∧ W' = W := by
  have HA := Lib.hid ha
  have HB := Lib.hid hb
  clear ha hb
  go_enter Try.func34, Try.ntmps34
  go_wp2
  all_goals (go_ret2; refine ⟨?_, rfl⟩; have h1 := HA.out; have h2 := HB.out; clear HA HB; unfold Mn.in64 at h1 h2)
  all_goals (rename_i hx; first | (have hy := xr_t hx; clear hx) | (have hy := xr_f hx; clear hx))
  all_goals (first | exact sub_ok (a := a) (b := b) (by unfold Mn.in64; (try simp only [wrap64] at *); omega) | exact sub_no (a := a) (b := b) (by unfold Mn.in64; (try simp only [wrap64] at *); omega))
def inside (n l m : Int) : Bool := decide (l ≤ n ∧ n ≤ m)
theorem inside_yes {n l m : Int} (h : l ≤ n ∧ n ≤ m) : Ending.returned (Value.bool true) = .returned (.bool (inside n l m)) := by unfold inside; rw [decide_eq_true h]
theorem inside_no {n l m : Int} (h : ¬ (l ≤ n ∧ n ≤ m)) : Ending.returned (Value.bool false) = .returned (.bool (inside n l m)) := by unfold inside; rw [decide_eq_false h]
theorem inside_t {n l m : Int} (h : inside n l m = true) : l ≤ n ∧ n ≤ m := of_decide_eq_true h
theorem inside_f {n l m : Int} (h : inside n l m = false) : ¬ (l ≤ n ∧ n ≤ m) := of_decide_eq_false h
theorem within_walk (n l m : Int) (W : World) :
    Calls Try.prog 39 #[.int .i64 n, .int .i64 l, .int .i64 m] W fun e W' => e = .returned (.bool (inside n l m)) ∧ W' = W := by
  go_enter Try.func39, Try.ntmps39
  rcases (by omega : (l ≤ n ∧ n ≤ m) ∨ n < l ∨ (l ≤ n ∧ m < n)) with h | h | h
  all_goals go_wp2
  all_goals (go_ret; refine ⟨?_, rfl⟩)
  all_goals (first | exact inside_yes (by omega) | exact inside_no (by omega) | (refine congrArg (fun b => Ending.returned (Value.bool b)) ?_; unfold inside; simp only [Bool.and_eq_true, decide_eq_true_eq, decide_eq_decide]; omega) | trace_state)
attribute [irreducible] inside
theorem check_walk (p l m : Int) (W : World) :
    Calls Try.prog 38 #[.agg #[.int .i64 p, .int .i64 l, .int .i64 m]] W fun e W' => e = .returned (.int .i64 (Mn.checkE p l m)) ∧ ∃ o, W' = W.alloc o := by
  rcases (by cases inside p 0 10000 <;> cases inside l 0 999999999999 <;> cases inside m l 999999999999 <;> simp : (inside p 0 10000 = false) ∨ (inside p 0 10000 = true ∧ inside l 0 999999999999 = false) ∨ (inside p 0 10000 = true ∧ inside l 0 999999999999 = true ∧ inside m l 999999999999 = false) ∨ (inside p 0 10000 = true ∧ inside l 0 999999999999 = true ∧ inside m l 999999999999 = true)) with h | ⟨h1, h⟩ | ⟨h1, h2, h⟩ | ⟨h1, h2, h⟩
  all_goals (
    go_enter Try.func38, Try.ntmps38
    go_wp2_with (go_at_call 39; refine (within_walk _ _ _ _).mono ?_; rintro e w1 ⟨rfl, rfl⟩)
    all_goals (go_ret; refine ⟨?_, _, rfl⟩))
  · exact check_no (p := p) (l := l) (m := m) (by have := inside_f h; unfold Mn.rateOk Mn.top; omega)
  · exact check_no (p := p) (l := l) (m := m) (by have := inside_f h; unfold Mn.rateOk Mn.top; omega)
  · exact check_no (p := p) (l := l) (m := m) (by have := inside_f h; unfold Mn.rateOk Mn.top; omega)
  · exact check_ok (p := p) (l := l) (m := m) (by have := inside_t h; have := inside_t h1; have := inside_t h2; unfold Mn.rateOk Mn.top; omega)
theorem share_walk (p a : Int) (W : World) (hp : 0 ≤ p) (hp1 : p ≤ 10000) (ha : 0 ≤ a) (ha1 : a ≤ 999999999999) :
    Calls Try.prog 40 #[.int .i64 p, .int .i64 a] W fun e W' => e = .returned (.int .i64 (Mn.rnd (a * p))) ∧ W' = W := by
  have HP := Lib.hid (And.intro hp (And.intro hp1 (And.intro ha ha1)))
  clear hp hp1 ha ha1
  go_enter Try.func40, Try.ntmps40
  go_wp2
  all_goals (go_ret; refine ⟨?_, rfl⟩)
  all_goals (refine congrArg (fun n => Ending.returned (Value.int .i64 n)) ?_)
  all_goals (
    obtain ⟨hp, hp1, ha, ha1⟩ := HP.out
    have hq := Mn.mul_in (a := a) (p := p) ha (by unfold Mn.top; omega) hp hp1
    have e1 : wrap64 (a * p) = a * p := wrap_in (by unfold Mn.in64; omega)
    simp only [e1, Int.tdiv_eq_ediv_of_nonneg hq.1, Int.tmod_eq_emod_of_nonneg hq.1] at *
    unfold Mn.rnd
    generalize a * p = q at *
    have e2 : wrap64 (q / 10000) = q / 10000 := wrap_in (by unfold Mn.in64; omega)
    have e3 : (q / 10000).tmod 2 = q / 10000 % 2 := Int.tmod_eq_emod_of_nonneg (by omega)
    have e4 : wrap64 (q / 10000 + 1) = q / 10000 + 1 := wrap_in (by unfold Mn.in64; omega)
    have e5 : wrap64 (1 - q / 10000 % 2) = 1 - q / 10000 % 2 := wrap_in (by unfold Mn.in64; omega)
    have e6 : wrap64 (q / 10000 - (1 - q / 10000 % 2)) = q / 10000 - (1 - q / 10000 % 2) := wrap_in (by unfold Mn.in64; omega)
    have e7 : wrap64 (q / 10000 - (1 - q / 10000 % 2) + 1) = q / 10000 - (1 - q / 10000 % 2) + 1 := wrap_in (by unfold Mn.in64; omega)
    simp only [e2, e3, e4, e5, e6, e7, beq_iff_eq, beq_eq_false_iff_ne, ne_eq] at *
    (try split) <;> omega)
theorem turn_same {w w' w2 : World} {p p' : Nat} (h : Turn nowhere w w') (g : w2 = w') : Turn nowhere w w2 := g ▸ h
theorem fee_walk (p l m a : Int) (W : World) :
    Calls Try.prog 30 #[.agg #[.int .i64 p, .int .i64 l, .int .i64 m], .int .i64 a] W fun e W' => e = two (Mn.feeV p l m a) (Mn.feeE p l m a) ∧ Turn nowhere W W' := by
  go_enter Try.func30, Try.ntmps30
  rcases (by by_cases h : Mn.rateOk p l m <;> by_cases g : inside a 0 999999999999 = true <;> simp [h, g] : (¬ Mn.rateOk p l m) ∨ (Mn.rateOk p l m ∧ inside a 0 999999999999 = false) ∨ (Mn.rateOk p l m ∧ inside a 0 999999999999 = true)) with h | ⟨h, g⟩ | ⟨h, g⟩
  · have q : Mn.checkE p l m = 101 := if_neg h
    have HH := Lib.hid h
    clear h
    go_wp2_with (go_at_call 38; refine (check_walk _ _ _ _).mono ?_; rintro e w1 ⟨rfl, o1, rfl⟩)
    go_ret2
    refine ⟨two_eq ?_ ?_, ((Turn.refl _ _).alloc _).alloc _⟩
    · unfold Mn.feeV; rw [if_neg (fun e => HH.out e.1)]
    · unfold Mn.feeE; rw [if_neg HH.out]
  · have q : Mn.checkE p l m = 0 := if_pos h
    have HH := Lib.hid h
    have h2 : ¬ Mn.amtOk a := by have := inside_f g; unfold Mn.amtOk Mn.top; omega
    have HG := Lib.hid h2
    clear h h2
    go_wp2_with (first
      | (go_at_call 38; refine (check_walk _ _ _ _).mono ?_; rintro e w1 ⟨rfl, o1, rfl⟩)
      | (go_at_call 39; refine (within_walk _ _ _ _).mono ?_; rintro e w1 ⟨rfl, rfl⟩))
    go_ret2
    refine ⟨two_eq ?_ ?_, ((Turn.refl _ _).alloc _).alloc _⟩
    · unfold Mn.feeV; rw [if_neg (fun e => HG.out e.2)]
    · unfold Mn.feeE; rw [if_pos HH.out, if_neg HG.out]
  · have q : Mn.checkE p l m = 0 := if_pos h
    have ha : Mn.amtOk a := by have := inside_t g; unfold Mn.amtOk Mn.top; omega
    have HH := Lib.hid h
    have HG := Lib.hid ha
    clear h ha
    go_wp2_with (first
      | (go_at_call 38; refine (check_walk _ _ _ _).mono ?_; rintro e w1 ⟨rfl, o1, rfl⟩)
      | (go_at_call 39; refine (within_walk _ _ _ _).mono ?_; rintro e w1 ⟨rfl, rfl⟩))
    go_quiet ((go_at_call 40; exact Calls.quiet_of_same (share_walk _ _ _ HH.out.1 HH.out.2.1 HG.out.1 HG.out.2)))
    go_wp2
    all_goals go_ret2
    all_goals (refine ⟨two_eq ?_ ?_, (((Turn.refl _ _).alloc _).alloc _).drewN _⟩)
    all_goals first
      | (unfold Mn.feeV; rw [if_pos ⟨HH.out, HG.out⟩]; unfold Mn.fee; have hl := HH.out; unfold Mn.rateOk at hl; generalize Mn.rnd (a * p) = q at *; omega)
      | (unfold Mn.feeE; rw [if_pos HH.out, if_pos HG.out])
end Go.Proofs.Ythoefjaapjaeeaa
