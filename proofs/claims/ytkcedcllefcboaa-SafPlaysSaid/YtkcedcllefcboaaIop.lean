/-
  Operations on ints and bools, an equation each. No conditions.
-/
import Derived.Test.YtkcedcllefcboaaGen
import Derived.Test.YtkcedcllefcboaaProg
namespace Go.Proofs.Ytkcedcllefcboaa
open Go.RowKit
set_option linter.unusedVariables false
set_option linter.unusedSimpArgs false
section
variable {a : Act} {o : Oper} {W : World} {x y : Operand} {i j : Int}
theorem ix_lss {r : Bool} (ho : o.op = .binOp .lss 3 x y 3) (hx : a.eval x = .int .i64 i) (hy : a.eval y = .int .i64 j) (h : decide (i < j) = r) : (execOp a.eval o).run Try.prog W = .ok (.value (.bool r)) W := by
  subst h
  unfold execOp
  simp only [ho, hx, hy]
  go_simp
theorem ix_leq {r : Bool} (ho : o.op = .binOp .leq 3 x y 3) (hx : a.eval x = .int .i64 i) (hy : a.eval y = .int .i64 j) (h : decide (i ≤ j) = r) : (execOp a.eval o).run Try.prog W = .ok (.value (.bool r)) W := by
  subst h
  unfold execOp
  simp only [ho, hx, hy]
  go_simp
theorem ix_gtr {r : Bool} (ho : o.op = .binOp .gtr 3 x y 3) (hx : a.eval x = .int .i64 i) (hy : a.eval y = .int .i64 j) (h : decide (j < i) = r) : (execOp a.eval o).run Try.prog W = .ok (.value (.bool r)) W := by
  subst h
  unfold execOp
  simp only [ho, hx, hy]
  go_simp
theorem ix_geq {r : Bool} (ho : o.op = .binOp .geq 3 x y 3) (hx : a.eval x = .int .i64 i) (hy : a.eval y = .int .i64 j) (h : decide (j ≤ i) = r) : (execOp a.eval o).run Try.prog W = .ok (.value (.bool r)) W := by
  subst h
  unfold execOp
  simp only [ho, hx, hy]
  go_simp
theorem ix_eql {t u : TypeId} {r : Bool} (ho : o.op = .binOp .eql t x y u) (hx : a.eval x = .int .i64 i) (hy : a.eval y = .int .i64 j) (h : decide (i = j) = r) : (execOp a.eval o).run Try.prog W = .ok (.value (.bool r)) W := by
  subst h
  unfold execOp
  simp [ho, hx, hy, eqGuard]
  go_simp
  by_cases hij : i = j <;> simp [hij]
theorem ix_neq {t u : TypeId} {r : Bool} (ho : o.op = .binOp .neq t x y u) (hx : a.eval x = .int .i64 i) (hy : a.eval y = .int .i64 j) (h : decide (i ≠ j) = r) : (execOp a.eval o).run Try.prog W = .ok (.value (.bool r)) W := by
  subst h
  unfold execOp
  simp [ho, hx, hy, eqGuard]
  go_simp
  by_cases hij : i = j <;> simp [hij]
theorem ix_add {r : Int} (ho : o.op = .binOp .add 3 x y 3) (hx : a.eval x = .int .i64 i) (hy : a.eval y = .int .i64 j) (h : i + j = r) (hb : -9223372036854775808 ≤ r ∧ r ≤ 9223372036854775807) : (execOp a.eval o).run Try.prog W = .ok (.value (.int .i64 r)) W := by
  have hw : IntKind.i64.wrap r = r := by rw [IntKind.wrap_i64]; omega
  unfold execOp
  simp only [ho, hx, hy]
  go_simp
  try exact hw
theorem ix_sub {r : Int} (ho : o.op = .binOp .sub 3 x y 3) (hx : a.eval x = .int .i64 i) (hy : a.eval y = .int .i64 j) (h : i - j = r) (hb : -9223372036854775808 ≤ r ∧ r ≤ 9223372036854775807) : (execOp a.eval o).run Try.prog W = .ok (.value (.int .i64 r)) W := by
  have hw : IntKind.i64.wrap r = r := by rw [IntKind.wrap_i64]; omega
  unfold execOp
  simp only [ho, hx, hy]
  go_simp
  try exact hw
theorem ix_mul {r : Int} (ho : o.op = .binOp .mul 3 x y 3) (hx : a.eval x = .int .i64 i) (hy : a.eval y = .int .i64 j) (h : i * j = r) (hb : -9223372036854775808 ≤ r ∧ r ≤ 9223372036854775807) : (execOp a.eval o).run Try.prog W = .ok (.value (.int .i64 r)) W := by
  have hw : IntKind.i64.wrap r = r := by rw [IntKind.wrap_i64]; omega
  unfold execOp
  simp only [ho, hx, hy]
  go_simp
  try (rw [h]; exact hw)
theorem ix_q256 {n : Nat} (ho : o.op = .binOp .quo 3 x (.const (.int .i64 256)) 3) (hx : a.eval x = .int .i64 (n : Int)) (hn : n ≤ 9223372036854775807) : (execOp a.eval o).run Try.prog W = .ok (.value (.int .i64 ((n / 256 : Nat) : Int))) W := by
  unfold execOp
  simp only [ho, hx]
  go_simp
  first | rfl | (rw [IntKind.wrap_i64]; omega)
theorem ix_r256 {n : Nat} (ho : o.op = .binOp .rem 3 x (.const (.int .i64 256)) 3) (hx : a.eval x = .int .i64 (n : Int)) (hn : n ≤ 9223372036854775807) : (execOp a.eval o).run Try.prog W = .ok (.value (.int .i64 ((n % 256 : Nat) : Int))) W := by
  unfold execOp
  simp only [ho, hx]
  go_simp
  exact Int.tmod_eq_emod_of_nonneg (by omega)
theorem ix_shr8 {n : Nat} {tu : TypeId} (ho : o.op = .binOp .shr 3 x (.const (.int .u64 8)) tu) (hx : a.eval x = .int .i64 (n : Int)) (hn : n ≤ 9223372036854775807) : (execOp a.eval o).run Try.prog W = .ok (.value (.int .i64 ((n / 256 : Nat) : Int))) W := by
  unfold execOp
  simp only [ho, hx]
  go_simp
theorem ix_shl8 {n : Nat} {tu : TypeId} (ho : o.op = .binOp .shl 3 x (.const (.int .u64 8)) tu) (hx : a.eval x = .int .i64 (n : Int)) (hn : n < 256) : (execOp a.eval o).run Try.prog W = .ok (.value (.int .i64 ((256 * n : Nat) : Int))) W := by
  unfold execOp
  simp only [ho, hx]
  go_simp
  rw [IntKind.wrap_i64]
  omega
theorem ix_or8 {n m : Nat} (ho : o.op = .binOp .or 3 x y 3) (hx : a.eval x = .int .i64 ((256 * n : Nat) : Int)) (hy : a.eval y = .int .i64 (m : Int)) (hn : n < 256) (hm : m < 256) : (execOp a.eval o).run Try.prog W = .ok (.value (.int .i64 ((256 * n + m : Nat) : Int))) W := by
  unfold execOp
  simp only [ho, hx, hy]
  go_simp
  simp only [bits]
  have e1 : (256 * (n : Int) % 2 ^ IntKind.i64.bits).toNat = 256 * n := by simp [IntKind.bits]; omega
  have e2 : ((m : Int) % 2 ^ IntKind.i64.bits).toNat = m := by simp [IntKind.bits]; omega
  have e3 : 256 * n ||| m = 256 * n + m := (Nat.two_pow_add_eq_or_of_lt (i := 8) hm n).symm
  rw [BitVec.toNat_or, BitVec.toNat_ofInt, BitVec.toNat_ofInt]
  rw [show (((2 ^ IntKind.i64.bits : Nat)) : Int) = 2 ^ IntKind.i64.bits from by rfl, e1, e2, e3, IntKind.wrap_i64]
  omega
theorem ix_b2i {k : Nat} (hk : k < 256) (ho : o.op = .convert 5 3 x) (hx : a.eval x = .int .u8 (k : Int)) : (execOp a.eval o).run Try.prog W = .ok (.value (.int .i64 (k : Int))) W := by
  unfold execOp
  simp only [ho, hx]
  go_simp
  rw [IntKind.wrap_i64]
  omega
theorem ix_i2b {k : Nat} (ho : o.op = .convert 3 5 x) (hx : a.eval x = .int .i64 (k : Int)) : (execOp a.eval o).run Try.prog W = .ok (.value (.int .u8 (((UInt8.ofNat k).toNat : Nat) : Int))) W := by
  unfold execOp
  simp only [ho, hx]
  go_simp
  simp [IntKind.wrap, IntKind.bits, IntKind.signed]
theorem ix_not {t : TypeId} {b : Bool} (ho : o.op = .unOp .not t x) (hx : a.eval x = .bool b) : (execOp a.eval o).run Try.prog W = .ok (.value (.bool (!b))) W := by
  unfold execOp
  simp only [ho, hx]
  go_simp
theorem ix_pickT {c : Operand} {v : Value} (ho : o.op = .pick c x y) (hc : a.eval c = .bool true) (hx : a.eval x = v) : (execOp a.eval o).run Try.prog W = .ok (.value v) W := by
  unfold execOp
  simp [ho, hc, hx, asBool, Result.andThen]
theorem ix_pickF {c : Operand} {v : Value} (ho : o.op = .pick c x y) (hc : a.eval c = .bool false) (hy : a.eval y = v) : (execOp a.eval o).run Try.prog W = .ok (.value v) W := by
  unfold execOp
  simp [ho, hc, hy, asBool, Result.andThen]
theorem ix_extract {n : Nat} {vs : Array Value} {v : Value} (ho : o.op = .extract x n) (hx : a.eval x = .tuple vs) (hv : vs[n]? = some v) : (execOp a.eval o).run Try.prog W = .ok (.value v) W := by
  unfold execOp
  simp only [ho, hx]
  go_simp
end
end Go.Proofs.Ytkcedcllefcboaa
