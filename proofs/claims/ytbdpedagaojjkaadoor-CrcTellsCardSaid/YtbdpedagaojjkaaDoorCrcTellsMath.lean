/-
  PLAIN MATHEMATICS OF CrcTells: bits turned one by one. No conditions. It imports nothing of the program.
-/
import Derived.Test.YtbdpedagaojjkaaDoorCrcMath
namespace Go.Proofs.YtbdpedagaojjkaaDoor.Crc
theorem bit_set (cs : List UInt8) (q r k : Nat) (hq : q < cs.length) (hr : r < 8) :
    bit (cs.set q (cs.getD q 0 ^^^ UInt8.ofNat (2 ^ r))) k = (bit cs k ^^ decide (k = 8 * q + r)) := by
  have hp : (UInt8.ofNat (2 ^ r)).toNat = 2 ^ r := by
    rw [UInt8.toNat_ofNat']
    exact Nat.mod_eq_of_lt (Nat.lt_of_lt_of_le (Nat.pow_lt_pow_right (by omega) hr) (by omega))
  unfold bit
  rw [List.getD_eq_getElem?_getD, List.getElem?_set]
  by_cases h : q = k / 8
  · rw [if_pos h, if_pos hq, h]
    simp only [Option.getD_some, UInt8.toNat_xor, Nat.testBit_xor, hp, Nat.testBit_two_pow]
    congr 1
    by_cases h2 : r = k % 8
    · have : k = 8 * (k / 8) + r := by omega
      simp [h2]
      omega
    · have : ¬ k = 8 * (k / 8) + r := by omega
      simp [h2, this]
  · have h2 : ¬ k = 8 * q + r := by omega
    rw [if_neg h, List.getD_eq_getElem?_getD]
    simp [h2]
theorem turn_yes (p s i k : Nat) (hb : s.testBit i = true) : turn p (s % 2 ^ (i + 1)) k = (turn p (s % 2 ^ i) k ^^ decide (k = p + i)) := by
  unfold turn
  rw [Nat.testBit_mod_two_pow, Nat.testBit_mod_two_pow]
  by_cases h1 : p ≤ k
  · by_cases h2 : k = p + i
    · subst h2
      have e : p + i - p = i := by omega
      simp [e, hb]
    · by_cases h3 : k - p < i
      · have h4 : k - p < i + 1 := by omega
        simp [h1, h2, h3, h4]
      · have h4 : ¬ k - p < i + 1 := by omega
        simp [h1, h2, h3, h4]
  · have h2 : ¬ k = p + i := by omega
    simp [h1, h2]
theorem turn_no (p s i k n : Nat) (hk : k < n) (hb : s.testBit i = false ∨ n ≤ p + i) : turn p (s % 2 ^ (i + 1)) k = turn p (s % 2 ^ i) k := by
  unfold turn
  rw [Nat.testBit_mod_two_pow, Nat.testBit_mod_two_pow]
  by_cases h1 : p ≤ k
  · by_cases h3 : k - p < i
    · have h4 : k - p < i + 1 := by omega
      simp [h1, h3, h4]
    · by_cases h5 : k - p = i
      · rcases hb with hb | hb
        · simp [h5, hb]
        · omega
      · have h4 : ¬ k - p < i + 1 := by omega
        simp [h3, h4]
  · simp [h1]
/-- have any bits within been turned? -/
def any (m s i : Nat) : Bool := decide ((s % 2 ^ i) % 2 ^ m ≠ 0)
theorem any_zero (m s : Nat) : any m s 0 = false := by simp [any, Nat.mod_one]
theorem ne_of_bit {x i : Nat} (h : x.testBit i = true) : x ≠ 0 := by
  intro e; subst e; simp at h
theorem any_yes (m s i : Nat) (hb : s.testBit i = true) (hm : i < m) : any m s (i + 1) = true := by
  unfold any
  have : ((s % 2 ^ (i + 1)) % 2 ^ m).testBit i = true := by
    rw [Nat.testBit_mod_two_pow, Nat.testBit_mod_two_pow]
    simp [hb, hm]
  simp only [decide_eq_true_eq]
  exact ne_of_bit this
theorem any_no (m s i : Nat) (hb : s.testBit i = false ∨ m ≤ i) : any m s (i + 1) = any m s i := by
  unfold any
  have : (s % 2 ^ (i + 1)) % 2 ^ m = (s % 2 ^ i) % 2 ^ m := by
    apply Nat.eq_of_testBit_eq
    intro j
    simp only [Nat.testBit_mod_two_pow]
    by_cases h1 : j < m
    · by_cases h2 : j < i
      · have : j < i + 1 := by omega
        simp [h1, h2, this]
      · by_cases h3 : j = i
        · rcases hb with hb | hb
          · simp [h3, hb]
          · omega
        · have : ¬ j < i + 1 := by omega
          simp [h2, this]
    · simp [h1]
  rw [this]
theorem turn_zero (p s k : Nat) : turn p (s % 2 ^ 0) k = false := by simp [turn, Nat.mod_one]
/-- behind all 32 rounds -/
theorem told (bs cs : List UInt8) (p s : Nat) (hs : s < 2 ^ 32) (hp : p < 8 * bs.length) (hl : cs.length = bs.length) (hc : ∀ k, k < 8 * bs.length → bit cs k = (bit bs k ^^ turn p (s % 2 ^ 32) k)) :
    (decide (sumN bs ≠ sumN cs) == any (8 * bs.length - p) s 32) = true := by
  have e : s % 2 ^ 32 = s := Nat.mod_eq_of_lt hs
  rw [e] at hc
  have h := turned bs cs p s hs (by omega) hl hc
  unfold any sumN
  rw [e]
  have h2 : ((sum bs).toNat ≠ (sum cs).toNat) ↔ s % 2 ^ (8 * bs.length - p) ≠ 0 := by
    constructor
    · intro h3 h4; exact h3 (by rw [h.2 h4])
    · intro h3 h4; exact h3 (h.1 (BitVec.eq_of_toNat_eq h4))
  simp only [h2, beq_self_eq_true]
theorem shifted (s i : Nat) : s / 2 ^ i % 2 = if s.testBit i then 1 else 0 := by
  rw [Nat.testBit_eq_decide_div_mod_eq]
  by_cases h : s / 2 ^ i % 2 = 1
  · simp [h]
  · have : s / 2 ^ i % 2 = 0 := by omega
    simp [this]
end Go.Proofs.YtbdpedagaojjkaaDoor.Crc
