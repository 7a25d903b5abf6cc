/-
  FROM THE CARD's LIST TO THE LIBRARY's ERROR. No conditions of its own.
-/
import Derived.Test.YtaabiconfgcnfaaDoorRows
import Derived.Test.YtaabiconfgcnfaaDoorFdM
import Derived.LaidSub
import Derived.MakeChecks
namespace Go.Proofs.YtaabiconfgcnfaaDoor
open Go.RowKit Go.ChangeShapes Go.WideShapes Go.ChangeAt
set_option linter.unusedVariables false
theorem gErr : Tryd.prog.globalNamed "strconv.ErrSyntax" = some 1 := by kernel_rfl
theorem gErrType : (Tryd.prog.globals[1]?).map (·.type) = some 52 := by kernel_rfl
set_option maxRecDepth 100000 in
theorem err_of_laid {W : World} {l : List (String × DataW Unit)} (hl : l.filter (fun x => x.1 == "strconv.ErrSyntax") = [("strconv.ErrSyntax", Rows.laid_strconv_ErrSyntax)]) (h : laidMetH Tryd.prog l W) : ErrT W := by
  have h1 := h.filter (fun x => x.1 == "strconv.ErrSyntax")
  rw [hl, Go.MakeChecks.laidMetH_plain _ _ _ rfl] at h1
  obtain ⟨ps, ⟨g, t, cs, fuel, p, q, hg, ht, hv, hd, _, _⟩, _⟩ := h1
  obtain rfl := Option.some.inj (gErr.symm.trans hg)
  obtain rfl := Option.some.inj (gErrType.symm.trans ht)
  cases fuel with
  | zero => simp [DataW.trod] at hd
  | succ fuel =>
    simp only [DataW.trod, Tryd.underlying52] at hd
    split at hd
    all_goals first
      | (rename_i h1 h2
         have hc : W.cell? ⟨1, 0, none⟩ = cs[0]? := World.var?_cell hg hv 0
         rw [← Array.getElem?_toList, h2] at hc
         exact ⟨_, _, hc⟩)
      | (rename_i h1 h2; simp at h1; done)
      | (simp at hd; done)
      | (unfold Rows.laid_strconv_ErrSyntax at hd; simp at hd; done)
      | (simp [Rows.laid_strconv_ErrSyntax] at hd; done)
end Go.Proofs.YtaabiconfgcnfaaDoor
