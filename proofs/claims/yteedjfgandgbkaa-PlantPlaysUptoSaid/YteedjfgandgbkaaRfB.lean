/-
  The reference plant's New, where the disks are too few or too many. No conditions.
-/
import Derived.Test.YteedjfgandgbkaaJa0
namespace Go.Proofs.Yteedjfgandgbkaa
open Go.RowKit Go.Maps
set_option linter.unusedVariables false
theorem rnew_count {w : World} (a : Option Addr) (len cap : Nat) (hl : ¬ (1 ≤ len ∧ len ≤ 4)) (hm : len ≤ 9223372036854775807) :
    Calls Try.prog 6 #[.slice a len cap] w fun e w' => e = .returned (.tuple #[.pointer none, .int .i64 30]) ∧ w = w' := by
  by_cases h0 : len = 0
  · subst h0
    clear hl
    go_enter Try.func6, Try.ntmps6
    go_wp2
    go_ret2
    exact ⟨rfl, rfl⟩
  · have h1 : ¬ ((len : Int) = 0) := by omega
    have h1b : ((len : Int) == 0) = false := by simp; exact h0
    have h4 : (len : Int) > 4 := by omega
    clear hl h0
    go_enter Try.func6, Try.ntmps6
    go_wp2
    go_ret2
    exact ⟨rfl, rfl⟩
end Go.Proofs.Yteedjfgandgbkaa
