/-
  strings out of bytes, and shown: the document's examples. No conditions.
-/
import Derived.Test.YtgdlidjjogoiaaaPlZ
import Derived.Laws.IdiomStrings
import Derived.Laws.Concat
import Derived.Laws.Strings
namespace Go.Proofs.Ytgdlidjjogoiaaa
open Go.RowKit Go.Maps
set_option linter.unusedVariables false
/-- bytes as a string's value -/
def strV (l : List UInt8) : Value := .string ⟨l.toArray⟩
section
variable {a : Act} {o : Oper} {W : World}
theorem exec_str {x : Operand} {b off n c : Nat} {l : List UInt8} (ho : o.op = .convert 36 9 x) (hx : a.eval x = .slice (some ⟨b, off, none⟩) n c) (hl : l.length = n) (hr : W.rangeAt b off (bcs l)) : (execOp a.eval o).run Try.prog W = .ok (.value (strV l)) W := by
  subst hl
  have h := run_convert_bytes_back (P := Try.prog) W 36 9 5 ⟨b, off, none⟩ c l Try.underlying36 Try.underlying5 Try.underlying9 (fun j hj => by
    rw [add_nat]
    refine hr j _ ?_
    rw [bcs_at l j hj, List.getD_eq_getElem?_getD, List.getElem?_eq_getElem hj]
    rfl)
  unfold execOp
  simp only [ho, hx, h, Sem.run_bind, Sem.run_pure, Result.andThen_ok, strV]
theorem exec_nilstr {x : Operand} {c : Nat} (ho : o.op = .convert 36 9 x) (hx : a.eval x = .slice none 0 c) : (execOp a.eval o).run Try.prog W = .ok (.value (strV [])) W := by
  have h := run_convert_bytes_string (P := Try.prog) W 36 9 5 none 0 c Try.underlying36 Try.underlying5 Try.underlying9
  unfold execOp
  simp only [ho, hx, h, Sem.run_bind]
  rfl
theorem exec_sadd {x y : Operand} {l m : List UInt8} {t u : TypeId} (ho : o.op = .binOp .add t x y u) (hx : a.eval x = strV l) (hy : a.eval y = strV m) (hs : l.length + m.length ≤ 1000000) : (execOp a.eval o).run Try.prog W = .ok (.value (strV (l ++ m))) W := by
  have h := run_string_add_lists (P := Try.prog) W l m (by omega) (by omega)
  unfold execOp
  simp [ho, hx, hy, strV, eqGuard, binOp, h]
theorem exec_seql {x y : Operand} {l m : List UInt8} {t u : TypeId} (ho : o.op = .binOp .eql t x y u) (hx : a.eval x = strV l) (hy : a.eval y = strV m) : (execOp a.eval o).run Try.prog W = .ok (.value (.bool (l == m))) W := by
  unfold execOp
  simp [ho, hx, hy, strV, eqGuard, binOp_string_eql]
end
end Go.Proofs.Ytgdlidjjogoiaaa
