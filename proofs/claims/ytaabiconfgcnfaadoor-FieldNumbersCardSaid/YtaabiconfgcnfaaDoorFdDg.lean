/-
  field's Digits for every number. Conditions: the rows and the library's table of powers read as the program's text lays them.
-/
import Derived.Test.YtaabiconfgcnfaaDoorFdAm
import Derived.Lib.AppendIntMem
import Derived.Lib.SmallJoins
import Derived.Lib.LaidTab
namespace Go.Proofs.YtaabiconfgcnfaaDoor
open Go.RowKit
open Fdd
set_option linter.unusedVariables false
def PowT (W : World) : Prop := Lib.TabIs Tryd.prog W "internal/strconv.uint64pow10" .u64 Lib.pow10Tab
theorem gPow : Tryd.prog.globalNamed "internal/strconv.uint64pow10" = some 3 := by kernel_rfl
theorem PowT.turn {W W' : World} (h : PowT W) (ht : Turn nowhere W W') : PowT W' := Go.Joins.tab_stays gPow h (ht.below (Nat.le_refl _) (fun _ _ e => e)) (Nat.le_refl _)
theorem itoa_at {n : Int} {W : World} (h0 : -9223372036854775808 ≤ n) (h1 : n ≤ 9223372036854775807) (h : PowT W) : ItoaAt n W := by
  refine (Any.strconv_Itoa Tryd.laysM171 n h0 h1 W h).mono ?_
  rintro e w' ⟨rfl, k, os, rfl⟩
  exact ⟨rfl, Turn.of_below (Lib.below_grow W.heap.size W (Nat.le_refl _) k os) (Nat.le_refl _)⟩
theorem exec_sless {W : World} {a : Act} {o : Oper} {x y : Operand} {l m : List UInt8} {t u : TypeId} (ho : o.op = .binOp .lss t x y u) (hx : a.eval x = strV l) (hy : a.eval y = strV m) : (execOp a.eval o).run Tryd.prog W = .ok (.value (.bool (Op.bytesLess l m))) W := by
  unfold execOp
  simp [ho, hx, hy, strV, eqGuard, binOp_string_lss]
theorem dg_walk {n size : Int} {W : World} (h0 : -9223372036854775808 ≤ n) (h1 : n ≤ 9223372036854775807) (h : PowT W) :
    Calls Tryd.prog 13 #[.int .i64 n, .int .i64 size] W fun e w' => (∃ x k, e = .returned (.tuple #[strV x, .int .i64 k]) ∧ (k = 0 → DgOk n size x) ∧ (k ≠ 0 → x = [])) ∧ Turn nowhere W w' := by
  refine (digits_walk n size W (fun W' ht => itoa_at h0 h1 (h.turn ht))).mono ?_
  rintro e w' ⟨rfl, ht⟩
  exact ⟨⟨_, _, rfl, digits_ok, digits_bad⟩, ht⟩
end Go.Proofs.YtaabiconfgcnfaaDoor
