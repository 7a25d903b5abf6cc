/-
  Strings as values, and the operations on them, an equation each. No conditions.
-/
import Derived.Test.YtkcedcllefcboaaStore
import Derived.Test.YtkcedcllefcboaaProg
import Derived.Laws.IdiomStrings
import Derived.Laws.Concat
import Derived.Laws.Strings
import Derived.Laws.Strings3
namespace Go.Proofs.Ytkcedcllefcboaa
open Go.RowKit
set_option linter.unusedVariables false
/-- bytes as a string's value -/
def strV (l : List UInt8) : Value := .string ⟨l.toArray⟩
theorem strV_cells (l : List UInt8) : (strV l).cells = #[strV l] := rfl
theorem strV_one (l : List UInt8) : (strV l).oneCell' = true := rfl
theorem str_size (l : List UInt8) : (ByteArray.mk l.toArray).size = l.length := by simp [ByteArray.size]
theorem str_ext (n m : Nat) (l : List UInt8) : (ByteArray.mk l.toArray).extract n m = ByteArray.mk ((l.take m).drop n).toArray := by
  apply ByteArray.ext
  apply Array.ext'
  rw [ByteArray.data_extract]
  simp [List.extract_eq_take_drop, List.drop_take]
theorem str_to (n : Nat) (l : List UInt8) : (ByteArray.mk l.toArray).extract 0 n = ByteArray.mk (l.take n).toArray := by rw [str_ext, List.drop_zero]
theorem str_from (n : Nat) (l : List UInt8) : (ByteArray.mk l.toArray).extract n (ByteArray.mk l.toArray).size = ByteArray.mk (l.drop n).toArray := by rw [str_ext, str_size, List.take_length]
section
variable {a : Act} {o : Oper} {W : World}
/-- whatever the slice is -/
theorem exec_sadd {x y : Operand} {l m : List UInt8} {t u : TypeId} (ho : o.op = .binOp .add t x y u) (hx : a.eval x = strV l) (hy : a.eval y = strV m) (hs : l.length + m.length ≤ 8388608) : (execOp a.eval o).run Try.prog W = .ok (.value (strV (l ++ m))) W := by
  have h := run_string_add_lists (P := Try.prog) W l m (by omega) (by omega)
  unfold execOp
  simp [ho, hx, hy, strV, eqGuard, binOp, h]
theorem exec_seql {x y : Operand} {l m : List UInt8} {t u : TypeId} (ho : o.op = .binOp .eql t x y u) (hx : a.eval x = strV l) (hy : a.eval y = strV m) : (execOp a.eval o).run Try.prog W = .ok (.value (.bool (l == m))) W := by
  unfold execOp
  simp [ho, hx, hy, strV, eqGuard, binOp_string_eql]
theorem exec_sneq {x y : Operand} {l m : List UInt8} {t u : TypeId} (ho : o.op = .binOp .neq t x y u) (hx : a.eval x = strV l) (hy : a.eval y = strV m) : (execOp a.eval o).run Try.prog W = .ok (.value (.bool (!(l == m)))) W := by
  unfold execOp
  simp [ho, hx, hy, strV, eqGuard, binOp_string_neq]
theorem exec_sto {x y : Operand} {l : List UInt8} {n : Nat} (ho : o.op = .slice 9 x none (some y) none) (hx : a.eval x = strV l) (hy : a.eval y = .int .i64 (n : Int)) (hn : n ≤ l.length) : (execOp a.eval o).run Try.prog W = .ok (.value (strV (l.take n))) W := by
  have h := run_slice_string_h (P := Try.prog) W 9 ⟨l.toArray⟩ Try.underlying9 .i64 (n : Int) (by omega) (by rw [str_size]; omega)
  rw [Int.toNat_natCast, str_to] at h
  unfold execOp
  simp only [ho, Option.map, hx, hy, strV, run_sliceAt_string (P := Try.prog) W 9 _ _ _ _ Try.underlying9, h, Sem.run_bind, Sem.run_pure, Result.andThen_ok]
theorem exec_sfrom {x y : Operand} {l : List UInt8} {n : Nat} (ho : o.op = .slice 9 x (some y) none none) (hx : a.eval x = strV l) (hy : a.eval y = .int .i64 (n : Int)) (hn : n ≤ l.length) : (execOp a.eval o).run Try.prog W = .ok (.value (strV (l.drop n))) W := by
  have h := run_slice_string_l (P := Try.prog) W 9 ⟨l.toArray⟩ Try.underlying9 .i64 (n : Int) (by omega) (by rw [str_size]; omega)
  rw [Int.toNat_natCast, str_from] at h
  unfold execOp
  simp only [ho, Option.map, hx, hy, strV, run_sliceAt_string (P := Try.prog) W 9 _ _ _ _ Try.underlying9, h, Sem.run_bind, Sem.run_pure, Result.andThen_ok]
theorem exec_sidx {x y : Operand} {l : List UInt8} {i : Nat} {k : IntKind} (ho : o.op = .index 9 x y) (hx : a.eval x = strV l) (hy : a.eval y = .int k (i : Int)) (hi : i < l.length) : (execOp a.eval o).run Try.prog W = .ok (.value (.int .u8 ((l.getD i 0).toNat : Int))) W := by
  have h := run_index_string (P := Try.prog) W 9 ⟨l.toArray⟩ k (i : Int) Try.underlying9
  rw [dif_pos ⟨by omega, by rw [str_size]; omega⟩] at h
  unfold execOp
  simp only [ho, hx, hy, strV, h, Sem.run_bind, Sem.run_pure, Result.andThen_ok]
  rw [List.getD_eq_getElem?_getD, List.getElem?_eq_getElem hi]
  rfl
theorem exec_slen {x : Operand} {l : List UInt8} (ho : o.op = .call { callee := .builtin .len, args := #[x], argTypes := #[9] }) (hx : a.eval x = strV l) : (execOp a.eval o).run Try.prog W = .ok (.value (.int .i64 (l.length : Int))) W := by
  have h := run_len_string (P := Try.prog) W 9 o.type ⟨l.toArray⟩ Try.underlying9
  rw [str_size] at h
  unfold execOp
  simp only [ho, resolve, invoke, builtin, Sem.run_bind, Sem.run_pure, Result.andThen_ok, List.map_toArray, List.map_cons, List.map_nil, hx, strV, h]
  rfl
end
end Go.Proofs.Ytkcedcllefcboaa
