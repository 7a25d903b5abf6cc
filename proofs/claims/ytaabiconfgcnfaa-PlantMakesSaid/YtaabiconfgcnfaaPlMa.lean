/-
  groatlaw03's PlantMakes: its own copy of the numbers. No conditions.
-/
import Derived.Test.YtaabiconfgcnfaaRfC
namespace Go.Proofs.Ytaabiconfgcnfaa
open Go.RowKit Go.Maps
set_option linter.unusedVariables false
def intsL (zs : List Int) : List Value := zs.map fun z => Value.int .i64 z
theorem append_ints {w : World} {a : Option Addr} {len cap : Nat} {zs : List Int} {ty : TypeId} (hz : Ks w nowhere a len zs) (hp : 0 < len) (hb : len * 8 ≤ 140737488355328) :
    ∃ v' w', (Builtin.append_ #[22, 22] ty #[.slice (some ⟨w.heap.size, 0, none⟩) 0 0, .slice a len cap]).run Try.prog (w.alloc (.cells #[] 3)) = .ok v' w' ∧ w'.ownsRow w.heap.size 3 1 v' len (intsL zs) ∧ Turn nowhere w w' := by
  obtain ⟨hl, hm, hc⟩ := hz
  obtain ⟨g, off, rfl, hg, _, hcell⟩ := hc hp
  obtain ⟨i0, hi0, hz0, hz1, hz2⟩ := info_parts info_int
  have ho : (w.alloc (.cells #[] 3)).ownsRow w.heap.size 3 1 (.slice (some ⟨w.heap.size, 0, none⟩) 0 0) 0 [] := World.ownsRow_made w _ 0 (Nat.le_refl _) (Nat.zero_le _) rfl
  obtain ⟨v', w', h1, h2, h3, _, _⟩ := run_append_own_at (P := Try.prog) (w.alloc (.cells #[] 3)) w.heap.size 22 ty 3 i0 _ 1 8 Try.underlying22 hi0 hz0 hz1 hz2 rfl (by omega) _ 0 [] ho ⟨g, off, none⟩ len cap (intsL zs) (by simp [intsL, hl]) (fun j u hj => by
    have hj' : j < len := by
      have := (List.getElem?_eq_some_iff.1 hj).1
      simpa [intsL, hl] using this
    rw [add_nat, ((Turn.refl nowhere w).alloc (.cells #[] 3)).cell (p := ⟨g, off + j, none⟩) hg (fun e => e), hcell j hj', ← hj]
    simp [intsL, List.getD_eq_getElem?_getD, List.getElem?_eq_getElem (show j < zs.length from by omega)]) (fun u hu => by
    simp [intsL] at hu
    obtain ⟨z, _, rfl⟩ := hu
    rfl) (by unfold maxLen; omega) (by omega) (by simp)
  refine ⟨v', w', h1, by simpa using h2, ((Turn.refl nowhere w).alloc (.cells #[] 3)).grown h3 (fun b e hb => ?_)⟩
  have : b = w.heap.size := (Option.some.inj e).symm
  omega
end Go.Proofs.Ytaabiconfgcnfaa
