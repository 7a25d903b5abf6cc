/-
  The reference's sums, checks and fees, walked. No conditions but that the numbers have 64 bits.
-/
import Derived.Test.YtkemkjangejnkaaMnM
import Derived.Test.YtkemkjangejnkaaMem
import Derived.Test.YtkemkjangejnkaaProg
import Derived.WalkKit
import Derived.Lib.Hide
namespace Go.Proofs.Ytkemkjangejnkaa
open Go.RowKit
set_option linter.unusedVariables false
set_option linter.unusedSimpArgs false
abbrev two (v e : Int) : Ending := .returned (.tuple #[.int .i64 v, .int .i64 e])
theorem two_eq {v e v' e' : Int} (h : v = v') (g : e = e') : two v e = two v' e' := by rw [h, g]
theorem wrap_in {n : Int} (h : Mn.in64 n) : wrap64 n = n := by
  unfold Mn.in64 at h
  unfold wrap64
  omega
theorem add_ok {a b : Int} (h : Mn.in64 (a + b)) : two (wrap64 (a + b)) 0 = two (Mn.addV a b) (Mn.addE a b) :=
  two_eq (by rw [wrap_in h]; exact (if_pos h).symm) (if_pos h).symm
theorem add_no {a b : Int} (h : ¬ Mn.in64 (a + b)) : two 0 100 = two (Mn.addV a b) (Mn.addE a b) := two_eq (if_neg h).symm (if_neg h).symm
theorem sub_ok {a b : Int} (h : Mn.in64 (a - b)) : two (wrap64 (a - b)) 0 = two (Mn.subV a b) (Mn.subE a b) :=
  two_eq (by rw [wrap_in h]; exact (if_pos h).symm) (if_pos h).symm
theorem sub_no {a b : Int} (h : ¬ Mn.in64 (a - b)) : two 0 100 = two (Mn.subV a b) (Mn.subE a b) := two_eq (if_neg h).symm (if_neg h).symm
theorem radd_walk (a b : Int) (W : World) (ha : Mn.in64 a) (hb : Mn.in64 b) :
    Calls Try.prog 12 #[.int .i64 a, .int .i64 b] W fun e W' => e = two (Mn.addV a b) (Mn.addE a b) ∧ W' = W := by
  have HA := Lib.hid ha
  have HB := Lib.hid hb
  clear ha hb
  go_enter Try.func12, Try.ntmps12
  go_wp2
  all_goals (go_ret2; refine ⟨?_, rfl⟩; have h1 := HA.out; have h2 := HB.out; clear HA HB; unfold Mn.in64 at h1 h2)
  all_goals (first | exact add_ok (a := a) (b := b) (by unfold Mn.in64; (try simp only [wrap64] at *); omega) | exact add_no (a := a) (b := b) (by unfold Mn.in64; (try simp only [wrap64] at *); omega))
theorem rsub_walk (a b : Int) (W : World) (ha : Mn.in64 a) (hb : Mn.in64 b) :
    Calls Try.prog 14 #[.int .i64 a, .int .i64 b] W fun e W' => e = two (Mn.subV a b) (Mn.subE a b) ∧ W' = W := by
  have HA := Lib.hid ha
  have HB := Lib.hid hb
  clear ha hb
  go_enter Try.func14, Try.ntmps14
  go_wp2
  all_goals (go_ret2; refine ⟨?_, rfl⟩; have h1 := HA.out; have h2 := HB.out; clear HA HB; unfold Mn.in64 at h1 h2)
  all_goals (first | exact sub_ok (a := a) (b := b) (by unfold Mn.in64; (try simp only [wrap64] at *); omega) | exact sub_no (a := a) (b := b) (by unfold Mn.in64; (try simp only [wrap64] at *); omega))
theorem turn_new {F : Nat → Prop} {w w' : World} {o : Obj} (h : Turn F (w.alloc o) w') : Turn F w w' := ((Turn.refl F w).alloc o).trans h fun _ _ e => e
theorem check_in {p l m : Int} (h : (Mn.checkE p l m != 0) = false) : Mn.rateOk p l m := by
  unfold Mn.checkE at h
  split at h
  · assumption
  · cases h
theorem check_out {p l m : Int} (h : (Mn.checkE p l m != 0) = true) : ¬ Mn.rateOk p l m := by
  unfold Mn.checkE at h
  split at h
  · cases h
  · assumption
theorem fee_no1 {p l m a : Int} (h : (Mn.checkE p l m != 0) = true) : two 0 101 = two (Mn.feeV p l m a) (Mn.feeE p l m a) := by
  have := check_out h
  unfold Mn.feeV Mn.feeE
  rw [if_neg (fun e => this e.1), if_neg this]
theorem fee_no2 {p l m a : Int} (h : (Mn.checkE p l m != 0) = false) (g : a < 0 ∨ 999999999999 < a) : two 0 100 = two (Mn.feeV p l m a) (Mn.feeE p l m a) := by
  have := check_in h
  have h2 : ¬ Mn.amtOk a := by unfold Mn.amtOk Mn.top; omega
  unfold Mn.feeV Mn.feeE
  rw [if_neg (fun e => h2 e.2), if_pos this, if_neg h2]
theorem fee_yes {p l m a n : Int} (h : (Mn.checkE p l m != 0) = false) (g : 0 ≤ a ∧ a ≤ 999999999999) (e : n = Mn.fee p l m a) : two n 0 = two (Mn.feeV p l m a) (Mn.feeE p l m a) := by
  have := check_in h
  have h2 : Mn.amtOk a := g
  unfold Mn.feeV Mn.feeE
  rw [if_pos ⟨this, h2⟩, if_pos this, if_pos h2, e]
theorem check_ok {p l m : Int} (h : Mn.rateOk p l m) : Ending.returned (.int .i64 0) = .returned (.int .i64 (Mn.checkE p l m)) := by unfold Mn.checkE; rw [if_pos h]
theorem check_no {p l m : Int} (h : ¬ Mn.rateOk p l m) : Ending.returned (.int .i64 101) = .returned (.int .i64 (Mn.checkE p l m)) := by unfold Mn.checkE; rw [if_neg h]
theorem rcheck_walk (p l m : Int) (W : World) :
    Calls Try.prog 18 #[.agg #[.int .i64 p, .int .i64 l, .int .i64 m]] W fun e W' => e = .returned (.int .i64 (Mn.checkE p l m)) ∧ ∃ o, W' = W.alloc o := by
  go_enter Try.func18, Try.ntmps18
  go_wp2
  all_goals (go_ret; refine ⟨?_, _, rfl⟩)
  all_goals (first | exact check_ok (p := p) (l := l) (m := m) (by unfold Mn.rateOk Mn.top; omega) | exact check_no (p := p) (l := l) (m := m) (by unfold Mn.rateOk Mn.top; omega))
theorem rfee_walk (p l m a : Int) (W : World) :
    Calls Try.prog 16 #[.agg #[.int .i64 p, .int .i64 l, .int .i64 m], .int .i64 a] W fun e W' => e = two (Mn.feeV p l m a) (Mn.feeE p l m a) ∧ Turn nowhere W W' := by
  go_enter Try.func16, Try.ntmps16
  go_wp2_with (go_at_call 18; refine (rcheck_walk _ _ _ _).mono ?_; rintro e w1 ⟨rfl, o1, rfl⟩)
  all_goals (go_ret2; refine ⟨?_, ?_⟩)
  all_goals (first | exact ((Turn.refl _ _).alloc _).alloc _ | skip)
  all_goals (first | exact fee_no1 (by assumption) | skip)
  all_goals (first | exact fee_no2 (by assumption) (by omega) | skip)
  all_goals (refine fee_yes (by assumption) (by omega) ?_)
  all_goals (
    have hr := check_in (p := p) (l := l) (m := m) (by assumption)
    have hq := Mn.mul_in (a := a) (p := p) (by omega) (by unfold Mn.top; omega) hr.1 hr.2.1
    have e1 : wrap64 (a * p) = a * p := wrap_in (by unfold Mn.in64; omega)
    simp only [e1, Int.tdiv_eq_ediv_of_nonneg hq.1, Int.tmod_eq_emod_of_nonneg hq.1] at *
    unfold Mn.fee Mn.rnd
    unfold Mn.rateOk Mn.top at hr
    generalize a * p = q at *
    have e2 : wrap64 (q / 10000) = q / 10000 := wrap_in (by unfold Mn.in64; omega)
    have e3 : (q / 10000).tmod 2 = q / 10000 % 2 := Int.tmod_eq_emod_of_nonneg (by omega)
    have e4 : wrap64 (q / 10000 + 1) = q / 10000 + 1 := wrap_in (by unfold Mn.in64; omega)
    have e5 : wrap64 (2 * (q % 10000)) = 2 * (q % 10000) := wrap_in (by unfold Mn.in64; omega)
    simp only [e2, e3, e4, e5, beq_iff_eq, beq_eq_false_iff_ne, ne_eq] at *
    (try split) <;> omega)
end Go.Proofs.Ytkemkjangejnkaa
