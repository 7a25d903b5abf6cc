/-
  Structs with structs in them, that came in: each field's own cells, with the weights. No conditions; it imports nothing of the program.
-/
import Derived.Test.YthoefjaapjaeeaaRwo
namespace Go.Proofs.Ythoefjaapjaeeaa
open Go.RowKit Go.ChangeShapes Go.WideShapes Go.Deep
set_option linter.unusedVariables false
section
variable {H : Type} {enc : TypeId × Value → H} {P : Program} {w : World} {base : Nat} {spare : Nat → Bool} {held : Bool}
theorem open_fldsN {e : TypeId} {fs : Array Go.Field} {n k : Nat} {cs : List Value} {y : DataW H × List MemPlace} (he : P.underlying e = some (.struct fs)) (hC : P.cellsOf e = k) (h : DataW.trod enc P w base spare held n e cs = some y) :
    cs.length = k ∧ ∃ m : Nat, ∀ (j : Nat) (f : Go.Field) (o c : Nat), fs[j]? = some f → f.offset = o → P.cellsOf f.type = c → ∃ z : DataW H × List MemPlace, DataW.trod enc P w base spare held m f.type ((cs.drop o).take c) = some z ∧ ∀ q ∈ z.1.weights P f.type, q ∈ y.1.weights P e := by
  obtain ⟨ys, m, _, hy0, hl, hlen, hf⟩ := DataW.trod_struct he h
  rw [hC] at hl
  refine ⟨hl, m, fun j f o c hj ho hc => ?_⟩
  subst ho hc
  have hjl : j < fs.size := (Array.getElem?_eq_some_iff.1 hj).1
  have h1 := hf j f hj
  have hy : ys[j]? = some (ys[j]'(by omega)) := List.getElem?_eq_getElem (by omega)
  refine ⟨ys[j]'(by omega), by rw [h1, hy], fun q hq => ?_⟩
  rw [hy0]
  unfold DataW.weights
  simp only [he]
  exact DataW.weights_mem_each (j := j) (t := f.type) (by simp [hj]) (by rw [List.getElem?_map, hy]; rfl) q hq
end
end Go.Proofs.Ythoefjaapjaeeaa
