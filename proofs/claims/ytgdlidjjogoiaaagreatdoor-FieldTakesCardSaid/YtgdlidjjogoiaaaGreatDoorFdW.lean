/-
  General parts for the laws over field. No conditions.
-/
import Derived.Test.YtgdlidjjogoiaaaGreatDoorFdV
namespace Go.Proofs.YtgdlidjjogoiaaaGreatDoor
open Go.RowKit
open Fdd
set_option linter.unusedVariables false
theorem exec_saddB {W : World} {a : Act} {o : Oper} {x y : Operand} {l m : List UInt8} {t u : TypeId} (ho : o.op = .binOp .add t x y u) (hx : a.eval x = strV l) (hy : a.eval y = strV m) (hs : l.length + m.length ≤ 9223372036854775807) : (execOp a.eval o).run Tryz.prog W = .ok (.value (strV (l ++ m))) W := by
  have h := run_string_add_sum (P := Tryz.prog) W ⟨l.toArray⟩ ⟨m.toArray⟩ (by rw [str_size, str_size]; exact hs)
  rw [ByteArray.mk_append_mk] at h
  unfold execOp
  simp [ho, hx, hy, strV, eqGuard, binOp, h]
theorem exec_sself {W : World} {a : Act} {o : Oper} {x y : Operand} {l : List UInt8} {t u : TypeId} (ho : o.op = .binOp .eql t x y u) (hx : a.eval x = strV l) (hy : a.eval y = strV l) : (execOp a.eval o).run Tryz.prog W = .ok (.value (.bool true)) W := by
  have h := exec_seql (W := W) ho hx hy
  rwa [beq_self_eq_true] at h
theorem own_bs {w : World} {B n c : Nat} {A : Option Addr} {bs : List UInt8} (h : Own w B 5 (.slice A n c) bs) : Bs w A n bs ∧ n ≤ c ∧ (A = none → c = 0) := by
  obtain ⟨A', n', c', hf, h1, h2, h3⟩ := h.form
  injection hf with e1 e2 e3
  subst e1 e2 e3
  exact ⟨h1, h2, h3⟩
theorem fm_exp {f : Fm} (h : f.may = true) : ∃ k s c : Nat, f = nf k s c ∧ (1 ≤ k ∧ k ≤ 5) ∧ (1 ≤ c ∧ c ≤ 3) ∧ (1 ≤ s ∧ s ≤ 64) := Fdd.may_form h
theorem fm_err {k s c : Nat} {b : List UInt8} {e : Int} (hm : (nf k s c).may = true) (h : (nf k s c).take b = .error e) : (e == 0) = false := by
  by_cases h2 : k = 2
  · subst h2
    rw [take_ll hm] at h
    split at h
    · rename_i e' he
      injection h with h
      subst h
      have := takeAll_err he
      simp; omega
    · split at h
      · have := takeAll_err h
        simp; omega
      · injection h with h
        subst h
        rfl
  · rw [take_nl h2 hm] at h
    have := takeAll_err h
    simp; omega
theorem check_ok {k s c : Nat} {t : List UInt8} (hm : (nf k s c).may = true) (hr : (nf k s c).right t = true) : (nf k s c).check t = 0 := by
  unfold Fm.check
  rw [if_pos hm, if_pos hr]
end Go.Proofs.YtgdlidjjogoiaaaGreatDoor
