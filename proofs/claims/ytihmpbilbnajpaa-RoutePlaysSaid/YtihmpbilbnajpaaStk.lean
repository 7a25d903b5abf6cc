/-
  Strings compared by the order of their bytes; a string's empty one, its beginnings. No conditions.
-/
import Derived.Test.YtihmpbilbnajpaaIxJ
import Derived.Test.YtihmpbilbnajpaaStq
import Derived.Laws.EntriesVeiled
namespace Go.Proofs.Ytihmpbilbnajpaa
open Go.RowKit
open Ix
set_option linter.unusedVariables false
set_option linter.unusedSimpArgs false
theorem less_klt : ∀ a b : List UInt8, Op.bytesLess a b = klt a b
  | [], [] => rfl
  | [], _ :: _ => rfl
  | _ :: _, [] => rfl
  | x :: a, y :: b => by
    unfold Op.bytesLess klt
    rw [less_klt a b]
    by_cases h : x < y
    · have h1 : x.toNat < y.toNat := h
      simp [h, h1]
    · have h1 : ¬ x.toNat < y.toNat := h
      rw [if_neg h1]
      by_cases g : y.toNat < x.toNat
      · have : x ≠ y := fun e => by rw [e] at g; exact Nat.lt_irrefl _ g
        simp [h, g, this]
      · have : x = y := UInt8.toNat_inj.1 (by omega)
        subst this
        simp
theorem exec_slss {a : Act} {o : Oper} {W : World} {x y : Operand} {l m : List UInt8} {t u : TypeId} {r : Bool} (ho : o.op = .binOp .lss t x y u) (hx : a.eval x = strV l) (hy : a.eval y = strV m) (hr : klt l m = r) : (execOp a.eval o).run Try.prog W = .ok (.value (.bool r)) W := by
  subst hr
  unfold execOp
  simp [ho, hx, hy, strV, eqGuard, binOp_string_lss, ByteArray.toList_eq, less_klt]
theorem less_or (a b : List UInt8) : (klt a b || a == b) = !klt b a := by
  by_cases h : a = b
  · subst h; simp [klt_irr]
  · cases h1 : klt a b with
    | true => simp [klt_as h1]
    | false =>
      cases h2 : klt b a with
      | true => simp [h]
      | false => exact absurd (klt_eq h1 h2) h
theorem exec_sgtr {a : Act} {o : Oper} {W : World} {x y : Operand} {l m : List UInt8} {t u : TypeId} {r : Bool} (ho : o.op = .binOp .gtr t x y u) (hx : a.eval x = strV l) (hy : a.eval y = strV m) (hr : klt m l = r) : (execOp a.eval o).run Try.prog W = .ok (.value (.bool r)) W := by
  subst hr
  unfold execOp
  simp [ho, hx, hy, strV, eqGuard, binOp, Op.stringOp, ByteArray.toList_eq, less_klt]
  have e := less_or l m
  cases h1 : klt l m <;> cases h2 : klt m l <;> simp [h1, h2] at e ⊢ <;> first | exact e | (intro h; exact absurd h e)
theorem exec_sgeq {a : Act} {o : Oper} {W : World} {x y : Operand} {l m : List UInt8} {t u : TypeId} {r : Bool} (ho : o.op = .binOp .geq t x y u) (hx : a.eval x = strV l) (hy : a.eval y = strV m) (hr : (!klt l m) = r) : (execOp a.eval o).run Try.prog W = .ok (.value (.bool r)) W := by
  subst hr
  unfold execOp
  simp [ho, hx, hy, strV, eqGuard, binOp, Op.stringOp, ByteArray.toList_eq, less_klt]
theorem exec_sleq {a : Act} {o : Oper} {W : World} {x y : Operand} {l m : List UInt8} {t u : TypeId} {r : Bool} (ho : o.op = .binOp .leq t x y u) (hx : a.eval x = strV l) (hy : a.eval y = strV m) (hr : (!klt m l) = r) : (execOp a.eval o).run Try.prog W = .ok (.value (.bool r)) W := by
  subst hr
  unfold execOp
  have e := less_or l m
  simp [ho, hx, hy, strV, eqGuard, binOp, Op.stringOp, ByteArray.toList_eq, less_klt]
  first | exact e | simpa using e
theorem exec_seqlr {a : Act} {o : Oper} {W : World} {x y : Operand} {l m : List UInt8} {t u : TypeId} {r : Bool} (ho : o.op = .binOp .eql t x y u) (hx : a.eval x = strV l) (hy : a.eval y = strV m) (hr : (l == m) = r) : (execOp a.eval o).run Try.prog W = .ok (.value (.bool r)) W := hr ▸ exec_seql ho hx hy
theorem exec_sneqr {a : Act} {o : Oper} {W : World} {x y : Operand} {l m : List UInt8} {t u : TypeId} {r : Bool} (ho : o.op = .binOp .neq t x y u) (hx : a.eval x = strV l) (hy : a.eval y = strV m) (hr : (!(l == m)) = r) : (execOp a.eval o).run Try.prog W = .ok (.value (.bool r)) W := hr ▸ exec_sneq ho hx hy
end Go.Proofs.Ytihmpbilbnajpaa
