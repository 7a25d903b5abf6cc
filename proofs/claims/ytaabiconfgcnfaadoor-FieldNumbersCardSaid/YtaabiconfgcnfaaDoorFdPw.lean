/-
  FROM THE CARD's LIST TO THE TABLE OF POWERS. No conditions of its own.
-/
import Derived.Test.YtaabiconfgcnfaaDoorRows
import Derived.Test.YtaabiconfgcnfaaDoorFdDg
import Derived.LaidSub
import Derived.MakeChecks
namespace Go.Proofs.YtaabiconfgcnfaaDoor
open Go.RowKit Go.ChangeShapes Go.WideShapes Go.ChangeAt
set_option linter.unusedVariables false
theorem pow_datum : (Rows.laid_internal_strconv_uint64pow10 : DataW Unit) = Lib.tabData .u64 Lib.pow10Tab := by kernel_rfl
theorem pow_of_laid {W : World} {l : List (String × DataW Unit)} (hl : l.filter (fun x => x.1 == "internal/strconv.uint64pow10") = [("internal/strconv.uint64pow10", Rows.laid_internal_strconv_uint64pow10)]) (h : laidMetH Tryd.prog l W) : PowT W := by
  have h1 := h.filter (fun x => x.1 == "internal/strconv.uint64pow10")
  rw [hl, Go.MakeChecks.laidMetH_plain _ _ _ rfl, pow_datum] at h1
  exact Lib.tabIs_of_head (t := 131) (e := 104) (n := 20) gPow (by kernel_rfl) Tryd.underlying131 Tryd.underlying104 (by kernel_rfl) (by kernel_rfl) h1
end Go.Proofs.YtaabiconfgcnfaaDoor
