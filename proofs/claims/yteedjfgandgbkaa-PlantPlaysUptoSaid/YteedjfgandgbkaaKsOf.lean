/-
  A []int argument as a list, as PlMb has it (for laws that do not import PlMb).
-/
import Derived.Test.YteedjfgandgbkaaJa0
namespace Go.Proofs.Yteedjfgandgbkaa
open Go.RowKit Go.Maps
set_option linter.unusedVariables false
theorem ks_of_none (w : World) : Ks w nowhere none 0 [] := ⟨rfl, by omega, fun h => by omega⟩
theorem ks_of_ints {w : World} {x : Addr} {len cap : Nat} {zs : List Int} (hl : len ≤ cap) (hm : cap ≤ maxLen) (hz : zs.length = cap)
    (hcell : ∀ i, i < zs.length → w.cell? (x.add i) = some (.int .i64 (zs.getD i 0))) : Ks w nowhere (some x) len (zs.take len) := by
  refine ⟨by simp; omega, by unfold maxLen at hm; omega, fun hp => ?_⟩
  obtain ⟨b, off, spot⟩ := x
  have hc := hcell 0 (by omega)
  have hspot : spot = none := by simpa [Addr.add] using World.cell?_spot hc
  subst hspot
  refine ⟨b, off, rfl, ?_, fun e => e, fun i hi => ?_⟩
  · have := World.block_lt_of_cell? _ _ hc
    simpa [Addr.add] using this
  · have h := hcell i (by omega)
    rw [add_nat] at h
    rw [h, List.getD_eq_getElem?_getD, List.getD_eq_getElem?_getD, List.getElem?_take, if_pos hi]
end Go.Proofs.Yteedjfgandgbkaa
