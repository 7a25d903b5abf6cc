/-
  field's codes: writing two digits a byte. Conditions: the text's characters are the code's.
-/
import Derived.Test.YtgdlidjjogoiaaaGreatDoorFdE
namespace Go.Proofs.YtgdlidjjogoiaaaGreatDoor
open Go.RowKit
open Fdd
set_option linter.unusedVariables false
section
variable {P : Program} {md : Region.Mode} {ops : Array Oper} {Q : Exit → Act → World → Prop} {S : World → Prop} {k : Nat}
/-- one of two may come up -/
theorem till_two {i j : Nat} {oi oj : Oper} {n : Nat} {l : Array Bool} {a : Act} {w : World} (hr : Region.ready md ops l = [i, j]) (hi0 : ops.toList[i]? = some oi) (hj0 : ops.toList[j]? = some oj)
    (hwi : Region.wanted oi (yielded ops a.tmps) = true) (hwj : Region.wanted oj (yielded ops a.tmps) = true)
    (h1 : ∀ K : Act → World → Prop, Shut (∀ a' w', (((l.setIfInBounds i true).getD k true = false → S w') ∧ Till P md ops Q S k n (l.setIfInBounds i true) a' w') → K a' w') → oi.wp P a w K Q)
    (h2 : ∀ K : Act → World → Prop, Shut (∀ a' w', (((l.setIfInBounds j true).getD k true = false → S w') ∧ Till P md ops Q S k n (l.setIfInBounds j true) a' w') → K a' w') → oj.wp P a w K Q) : Till P md ops Q S k (n + 1) l a w := by
  have hi : ops[i]? = some oi := by rw [← hi0, Array.getElem?_toList]
  have hj : ops[j]? = some oj := by rw [← hj0, Array.getElem?_toList]
  refine ⟨fun h0 => (by rw [h0] at hr; cases hr), fun m hm => ?_⟩
  rw [hr] at hm
  simp only [List.mem_cons, List.not_mem_nil, or_false] at hm
  rcases hm with rfl | rfl
  · unfold wpOp
    simp only [hi, hwi, if_true]
    exact .inl (h1 _ (Lib.hid fun _ _ h => h))
  · unfold wpOp
    simp only [hj, hwj, if_true]
    exact .inl (h2 _ (Lib.hid fun _ _ h => h))
end
theorem pack_take (ch : List UInt8) : ∀ (k : Nat) (T : List UInt8), 2 * k + 2 ≤ T.length → pack ch (T.take (2 * k + 2)) = pack ch (T.take (2 * k)) ++ [UInt8.ofNat (16 * ch.idxOf (T.getD (2 * k) 0) + ch.idxOf (T.getD (2 * k + 1) 0))]
  | 0, a :: b :: r, _ => by simp [pack]
  | k + 1, a :: b :: r, h => by
    have ih := pack_take ch k r (by simp at h; omega)
    rw [show 2 * (k + 1) + 2 = 2 * k + 2 + 2 from by omega, show 2 * (k + 1) = 2 * k + 2 from by omega]
    simp only [List.take_succ_cons, pack, List.cons_append, List.getD_cons_succ]
    rw [ih]
  | _, [], h => by simp at h
  | _, [_], h => by simp at h
theorem padded_even (t : List UInt8) : (padded t).length % 2 = 0 := by
  unfold padded
  by_cases h : t.length % 2 = 1
  · rw [if_pos h, List.length_cons]
    omega
  · rw [if_neg h]
    omega
theorem padded_len (t : List UInt8) : (padded t).length = 2 * ((t.length + 1) / 2) := by
  unfold padded
  by_cases h : t.length % 2 = 1
  · rw [if_pos h, List.length_cons]
    omega
  · rw [if_neg h]
    omega
theorem padded_mem {t ch : List UInt8} (h : onlyOf t ch = true) (h0 : 48 ∈ ch) {c : UInt8} (hc : c ∈ padded t) : c ∈ ch := by
  unfold padded at hc
  by_cases h1 : t.length % 2 = 1
  · rw [if_pos h1] at hc
    rcases List.mem_cons.1 hc with rfl | hc
    · exact h0
    · exact onlyOf_mem h hc
  · rw [if_neg h1] at hc
    exact onlyOf_mem h hc
def PlS (q c : Nat) (ch : List UInt8) (W : World) : Prop := Blk W q 76 #[placeV c] ∧ Blk W c 9 #[strV ch]
theorem exec_shl4 {W : World} {a : Act} {o : Oper} {x : Operand} (k : Nat) (hk : k < 16) (ho : o.op = .binOp .shl 5 x (.const (.int .u64 4)) 79) (hx : a.eval x = .int .u8 (k : Int)) : (execOp a.eval o).run Tryz.prog W = .ok (.value (.int .u8 ((16 * k : Nat) : Int))) W := by
  unfold execOp
  simp only [ho, hx]
  go_simp
  have h : ∀ k : Fin 16, IntKind.u8.wrap ((k.val : Int) * 16) = 16 * (k.val : Int) := by decide +kernel
  exact h ⟨k, hk⟩
theorem exec_or {W : World} {a : Act} {o : Oper} {x y : Operand} (k m : Nat) (hk : k < 16) (hm : m < 16) (ho : o.op = .binOp .or 5 x y 5) (hx : a.eval x = .int .u8 ((16 * k : Nat) : Int)) (hy : a.eval y = .int .u8 (m : Int)) : (execOp a.eval o).run Tryz.prog W = .ok (.value (.int .u8 ((16 * k + m : Nat) : Int))) W := by
  unfold execOp
  simp only [ho, hx, hy]
  go_simp
  have h : ∀ k m : Fin 16, bits BinOp.or IntKind.u8 (16 * (k.val : Int)) (m.val : Int) = 16 * (k.val : Int) + (m.val : Int) := by decide +kernel
  exact h ⟨k, hk⟩ ⟨m, hm⟩
theorem exec_lss {W : World} {a : Act} {o : Oper} {x y : Operand} {i j : Int} (ho : o.op = .binOp .lss 3 x y 3) (hx : a.eval x = .int .i64 i) (hy : a.eval y = .int .i64 j) (h : i < j) : (execOp a.eval o).run Tryz.prog W = .ok (.value (.bool true)) W := by
  unfold execOp
  simp only [ho, hx, hy]
  go_simp
theorem exec_nlss {W : World} {a : Act} {o : Oper} {x y : Operand} {i j : Int} (ho : o.op = .binOp .lss 3 x y 3) (hx : a.eval x = .int .i64 i) (hy : a.eval y = .int .i64 j) (h : ¬ (i < j)) : (execOp a.eval o).run Tryz.prog W = .ok (.value (.bool false)) W := by
  unfold execOp
  simp only [ho, hx, hy]
  go_simp
theorem pack_le (ch : List UInt8) : ∀ l : List UInt8, (pack ch l).length ≤ l.length
  | [] => Nat.le_refl _
  | [_] => by simp [pack]
  | a :: b :: r => by
    have := pack_le ch r
    simp only [pack, List.length_cons]
    omega
theorem tmod_one {n : Nat} (h : n % 2 = 1) : Int.tmod (n : Int) 2 = 1 := by
  rw [show Int.tmod (n : Int) 2 = ((n % 2 : Nat) : Int) from rfl, h]
  rfl
theorem tmod_nil {n : Nat} (h : ¬ n % 2 = 1) : Int.tmod (n : Int) 2 = 0 := by
  rw [show Int.tmod (n : Int) 2 = ((n % 2 : Nat) : Int) from rfl, show n % 2 = 0 from by omega]
  rfl
end Go.Proofs.YtgdlidjjogoiaaaGreatDoor
