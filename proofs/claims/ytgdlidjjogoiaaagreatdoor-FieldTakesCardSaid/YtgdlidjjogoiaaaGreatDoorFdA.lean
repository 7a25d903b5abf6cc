/-
  field's only, mayBe. No conditions.
-/
import Derived.Test.YtgdlidjjogoiaaaGreatDoorStr
import Derived.Test.YtgdlidjjogoiaaaGreatDoorPure
import Derived.Test.YtgdlidjjogoiaaaGreatDoorFdSpec
import Derived.Test.YtgdlidjjogoiaaaGreatDoorLays
namespace Go.Proofs.YtgdlidjjogoiaaaGreatDoor
open Go.RowKit
open Fdd
set_option linter.unusedVariables false
def ascii (l : List UInt8) : Prop := ∀ (j : Nat) b, l[j]? = some b → b.toNat < 128
theorem trim_only : ∀ (l cs : List UInt8), (Lib.trimLeftS l cs == []) = onlyOf l cs
  | [], cs => rfl
  | a :: l, cs => by
    unfold Lib.trimLeftS onlyOf
    rw [List.dropWhile_cons, List.all_cons]
    by_cases h : cs.contains a
    · have ih := trim_only l cs
      unfold Lib.trimLeftS onlyOf at ih
      rw [if_pos h, h, ih, Bool.true_and]
    · rw [if_neg h]
      simp only [Bool.not_eq_true] at h
      rw [h]
      simp
theorem only_walk (l cs : List UInt8) (hc : cs.length < 100) (ha : ascii cs) (w : World) :
    Calls Tryz.prog 29 #[strV l, strV cs] w fun e w' => e = .returned (.bool (onlyOf l cs)) ∧ Turn nowhere w w' := by
  go_enter Tryz.func29, Tryz.ntmps29
  go_wp2_with (go_at_call 44; refine (Any.strings_TrimLeft_laid Tryz.lays161 (by kernel_rfl) ⟨l.toArray⟩ ⟨cs.toArray⟩ _ (by rw [str_size]; omega) ha).mono ?_; rintro e w1 ⟨rfl, hb⟩)
  go_ret
  refine ⟨ret_bool ?_, Turn.of_below hb (Nat.le_refl _)⟩
  rw [← trim_only]
  cases Lib.trimLeftS l cs <;> rfl
def fmV (f : Fm) : Value := .agg #[.int .i64 f.kind, .int .i64 f.size, .int .i64 f.code]
def fmC (f : Fm) : Array Value := #[.int .i64 f.kind, .int .i64 f.size, .int .i64 f.code]
theorem mayBe_walk (f : Fm) (w : World) :
    Calls Tryz.prog 20 #[fmV f] w fun e w' => e = .returned (.bool f.may) ∧ Turn nowhere w w' := by
  obtain ⟨k, s, c⟩ := f
  unfold fmV
  go_enter Tryz.func20, Tryz.ntmps20
  go_wp2
  all_goals (try go_ret)
  all_goals
    refine ⟨ret_bool ?_, (Turn.refl _ w).alloc _⟩
    simp only [beq_iff_eq, beq_eq_false_iff_ne, ne_eq] at *
    rw [Bool.eq_iff_iff]
    simp only [Fm.may, Bool.and_eq_true, decide_eq_true_eq, Bool.false_eq_true]
    refine ⟨fun h => ?_, fun h => ?_⟩ <;> (try dsimp only at h ⊢) <;> omega
end Go.Proofs.YtgdlidjjogoiaaaGreatDoor
