/-
  Texts in one file: CrcTab. Conditions: the tables and the errors read as the program's text lays them.
-/
import Derived.Test.YtelipeoilcepbaaDoorRows
import Derived.Test.YtelipeoilcepbaaDoorWp5
import Derived.Lib.LaidTab
namespace Go.Proofs.YtelipeoilcepbaaDoor
open Go.RowKit Go.ChangeShapes Go.WideShapes Go.ChangeAt
theorem gTab : Tryd.prog.globalNamed "groat/crc.steps" = some 0 := by kernel_rfl
theorem gTabType : (Tryd.prog.globals[0]?).map (·.type) = some 142 := by kernel_rfl
theorem cells_tab : Tryd.prog.cellsOf 142 = 16 := by kernel_rfl
theorem cells_u32 : Tryd.prog.cellsOf 118 = 1 := by kernel_rfl
theorem tab_of_laid {W : World} (h : laidMetH Tryd.prog [("groat/crc.steps", Rows.laid_groat_crc_steps)] W) : Tab W := by
  have ht : Lib.TabIs Tryd.prog W "groat/crc.steps" .u32 [0, 274646895, 549293790, 820201905, 1098587580, 1361435347, 1640403810, 1905808397, 2197175160, 2460548119, 2722870694, 2987750089, 3280807620, 3553878443, 3811616794, 4084100981] :=
    Lib.tabIs_of_head (rest := []) gTab gTabType Tryd.underlying142 Tryd.underlying118 cells_u32 cells_tab h
  intro k hk
  rw [ht.cell gTab k (by simpa using hk)]
  have : ∀ k : Fin 16, ([0, 274646895, 549293790, 820201905, 1098587580, 1361435347, 1640403810, 1905808397, 2197175160, 2460548119, 2722870694, 2987750089, 3280807620, 3553878443, 3811616794, 4084100981] : List Int).getD k.val 0 = ((Crc.tab.getD k.val 0 : Nat) : Int) := by decide
  rw [← this ⟨k, hk⟩]
end Go.Proofs.YtelipeoilcepbaaDoor
