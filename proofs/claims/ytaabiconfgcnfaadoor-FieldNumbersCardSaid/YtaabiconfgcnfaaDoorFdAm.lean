/-
  Numerals of one length stand in the order of their numbers. No conditions.
-/
import Derived.Test.YtaabiconfgcnfaaDoorFdPc
import Derived.Lib.ItoaMem
namespace Go.Proofs.YtaabiconfgcnfaaDoor
open Go.RowKit
open Fdd
set_option linter.unusedVariables false
namespace Fdd
def AllD (l : List UInt8) : Prop := ∀ b ∈ l, 48 ≤ b.toNat ∧ b.toNat ≤ 57
theorem allD_tail {b : UInt8} {l : List UInt8} (h : AllD (b :: l)) : AllD l := fun x hx => h x (List.mem_cons_of_mem _ hx)
theorem allD_head {b : UInt8} {l : List UInt8} (h : AllD (b :: l)) : 48 ≤ b.toNat ∧ b.toNat ≤ 57 := h b (List.mem_cons_self ..)
theorem val_acc : ∀ (l : List UInt8) (a : Nat), l.foldl (fun a c => a * 10 + (c.toNat - 48)) a = a * 10 ^ l.length + val l
  | [], a => by simp [val]
  | c :: l, a => by
    unfold val
    rw [List.foldl_cons, List.foldl_cons, val_acc l, val_acc l, List.length_cons, Nat.pow_succ]
    have : (a * 10 + (c.toNat - 48)) * 10 ^ l.length = a * (10 ^ l.length * 10) + (c.toNat - 48) * 10 ^ l.length := by
      rw [Nat.add_mul, Nat.mul_assoc, Nat.mul_comm 10]
    rw [this, Nat.zero_mul, Nat.zero_add]
    omega
theorem val_cons (c : UInt8) (l : List UInt8) : val (c :: l) = (c.toNat - 48) * 10 ^ l.length + val l := by
  show (c :: l).foldl (fun a c => a * 10 + (c.toNat - 48)) 0 = _
  rw [List.foldl_cons, val_acc, Nat.zero_mul, Nat.zero_add]
theorem val_lt : ∀ {l : List UInt8}, AllD l → val l < 10 ^ l.length
  | [], _ => by simp [val]
  | c :: l, h => by
    have h1 := val_lt (allD_tail h)
    have h2 := allD_head h
    rw [val_cons, List.length_cons, Nat.pow_succ]
    have h3 : (c.toNat - 48) * 10 ^ l.length ≤ 9 * 10 ^ l.length := Nat.mul_le_mul_right _ (by omega)
    omega
theorem less_val : ∀ {x y : List UInt8}, x.length = y.length → AllD x → AllD y → (Op.bytesLess x y = true ↔ val x < val y)
  | [], [], _, _, _ => by simp [Op.bytesLess, val]
  | a :: x, b :: y, hl, hx, hy => by
    have ih := less_val (by simpa using hl) (allD_tail hx) (allD_tail hy)
    have l1 := val_lt (allD_tail hx)
    have l2 := val_lt (allD_tail hy)
    have d1 := allD_head hx
    have d2 := allD_head hy
    have hl' : x.length = y.length := by simpa using hl
    rw [val_cons, val_cons, hl']
    rw [hl'] at l1
    unfold Op.bytesLess
    rw [Bool.or_eq_true, Bool.and_eq_true, ih, decide_eq_true_iff, beq_iff_eq]
    rw [UInt8.lt_iff_toNat_lt]
    generalize 10 ^ y.length = p at *
    rcases Nat.lt_trichotomy a.toNat b.toNat with h | h | h
    · have h3 : (a.toNat - 48 + 1) * p ≤ (b.toNat - 48) * p := Nat.mul_le_mul_right _ (by omega)
      rw [Nat.add_mul, Nat.one_mul] at h3
      constructor
      · intro _; omega
      · intro _; exact .inl h
    · rw [h]
      obtain rfl : a = b := UInt8.toNat_inj.1 h
      constructor
      · rintro (h3 | h3)
        · omega
        · have := h3.2; omega
      · intro h3
        exact .inr ⟨rfl, by omega⟩
    · have h3 : (b.toNat - 48 + 1) * p ≤ (a.toNat - 48) * p := Nat.mul_le_mul_right _ (by omega)
      rw [Nat.add_mul, Nat.one_mul] at h3
      constructor
      · rintro (h4 | h4)
        · omega
        · have := h4.1; subst this; omega
      · intro _; omega
theorem val_inj : ∀ {x y : List UInt8}, x.length = y.length → AllD x → AllD y → val x = val y → x = y
  | [], [], _, _, _, _ => rfl
  | a :: x, b :: y, hl, hx, hy, he => by
    have l1 := val_lt (allD_tail hx)
    have l2 := val_lt (allD_tail hy)
    have d1 := allD_head hx
    have d2 := allD_head hy
    have hl' : x.length = y.length := by simpa using hl
    rw [val_cons, val_cons, hl'] at he
    rw [hl'] at l1
    generalize 10 ^ y.length = p at *
    rcases Nat.lt_trichotomy a.toNat b.toNat with h | h | h
    · have h3 : (a.toNat - 48 + 1) * p ≤ (b.toNat - 48) * p := Nat.mul_le_mul_right _ (by omega)
      rw [Nat.add_mul, Nat.one_mul] at h3
      omega
    · rw [h] at he
      obtain rfl : a = b := UInt8.toNat_inj.1 h
      rw [val_inj hl' (allD_tail hx) (allD_tail hy) (by omega)]
    · have h3 : (b.toNat - 48 + 1) * p ≤ (a.toNat - 48) * p := Nat.mul_le_mul_right _ (by omega)
      rw [Nat.add_mul, Nat.one_mul] at h3
      omega
theorem val_zeros : ∀ (k : Nat) (l : List UInt8), val (List.replicate k 48 ++ l) = val l
  | 0, l => by simp
  | k + 1, l => by
    rw [List.replicate_succ, List.cons_append, val_cons, val_zeros k l]
    simp
theorem val_snoc (l : List UInt8) (c : UInt8) : val (l ++ [c]) = val l * 10 + (c.toNat - 48) := by
  unfold val
  rw [List.foldl_append]
  rfl
theorem digit_nat {i : Nat} (h : i < 10) : (UInt8.ofNat (48 + i)).toNat = 48 + i := by
  rw [UInt8.toNat_ofNat']
  omega
theorem dec_val (u : Nat) : val (Lib.decDigits u) = u ∧ AllD (Lib.decDigits u) := by
  induction u using Nat.strongRecOn with
  | _ u ih =>
    by_cases h : u < 10
    · rw [Lib.decDigits_one h]
      constructor
      · rw [val_cons, digit_nat h]
        simp [val]
      · intro b hb
        obtain rfl := List.mem_singleton.1 hb
        rw [digit_nat h]
        omega
    · rw [Lib.decDigits, dif_neg h]
      obtain ⟨h1, h2⟩ := ih (u / 10) (by omega)
      constructor
      · rw [val_snoc, h1, digit_nat (by omega)]
        omega
      · intro b hb
        rcases List.mem_append.1 hb with hb | hb
        · exact h2 b hb
        · obtain rfl := List.mem_singleton.1 hb
          rw [digit_nat (by omega)]
          omega
theorem mem_dec {b : UInt8} (h : 48 ≤ b.toNat ∧ b.toNat ≤ 57) : b ∈ dec := by
  have hb : b = UInt8.ofNat b.toNat := by simp
  have hc : b.toNat = 48 ∨ b.toNat = 49 ∨ b.toNat = 50 ∨ b.toNat = 51 ∨ b.toNat = 52 ∨ b.toNat = 53 ∨ b.toNat = 54 ∨ b.toNat = 55 ∨ b.toNat = 56 ∨ b.toNat = 57 := by omega
  rcases hc with h | h | h | h | h | h | h | h | h | h <;> (rw [h] at hb; rw [hb]; decide)
theorem allD_only {l : List UInt8} (h : AllD l) : onlyOf l dec = true := by
  unfold onlyOf
  rw [List.all_eq_true]
  intro b hb
  simpa using mem_dec (h b hb)
end Fdd
/-- what Digits answers, where it answers well -/
structure DgOk (n size : Int) (x : List UInt8) : Prop where
  s1 : 1 ≤ size
  s2 : size ≤ 18
  len : x.length = size.toNat
  all : AllD x
  val : (val x : Int) = n
theorem digits_ok {n size : Int} (h : (digitsOf n size).2 = 0) : DgOk n size (digitsOf n size).1 := by
  unfold digitsOf at h ⊢
  split at h
  · cases h
  · split at h
    · cases h
    · rename_i h1 h2
      rw [if_neg h1, if_neg h2]
      have hn : Lib.itoa n = Lib.decDigits n.toNat := by
        unfold Lib.itoa
        rw [if_neg (by omega)]
      have hd := dec_val n.toNat
      refine ⟨by omega, by omega, ?_, ?_, ?_⟩
      · rw [List.length_append, List.length_replicate]
        omega
      · intro b hb
        rcases List.mem_append.1 hb with hb | hb
        · obtain rfl := (List.mem_replicate.1 hb).2
          decide
        · rw [hn] at hb
          exact hd.2 b hb
      · rw [val_zeros, hn, hd.1]
        omega
theorem digits_bad {n size : Int} (h : (digitsOf n size).2 ≠ 0) : (digitsOf n size).1 = [] := by
  unfold digitsOf at h ⊢
  split
  · rfl
  · split
    · rfl
    · rename_i h1 h2
      rw [if_neg h1, if_neg h2] at h
      exact absurd rfl h
theorem amount_ok {n size : Int} {x : List UInt8} (h : DgOk n size x) : amountOf x = (n, 0) := by
  unfold amountOf
  have := h.s1
  have := h.s2
  have := h.len
  rw [if_pos ⟨by omega, allD_only h.all, by rintro rfl; simp at *; omega⟩, h.val]
theorem amount_more {n size : Int} {x : List UInt8} (h : DgOk n size x) (hs : size < 18) : amountOf (48 :: x) = (n, 0) := by
  unfold amountOf
  have := h.s1
  have := h.s2
  have := h.len
  rw [if_pos ⟨by simp; omega, allD_only (fun b hb => by
    rcases List.mem_cons.1 hb with rfl | hb
    · decide
    · exact h.all b hb), by simp⟩, show val (48 :: x) = val x from by rw [val_cons]; simp, h.val]
theorem dg_less {a b size : Int} {x y : List UInt8} (h : DgOk a size x) (g : DgOk b size y) : Op.bytesLess x y = decide (a < b) := by
  rw [Bool.eq_iff_iff, less_val (h.len.trans g.len.symm) h.all g.all, decide_eq_true_iff, ← h.val, ← g.val]
  omega
theorem dg_same {a b size : Int} {x y : List UInt8} (h : DgOk a size x) (g : DgOk b size y) : (x == y) = decide (a = b) := by
  rw [Bool.eq_iff_iff, beq_iff_eq, decide_eq_true_iff]
  constructor
  · rintro rfl
    exact h.val.symm.trans g.val
  · rintro rfl
    exact val_inj (h.len.trans g.len.symm) h.all g.all (by have := h.val; have := g.val; omega)
end Go.Proofs.YtaabiconfgcnfaaDoor
