/-
  THE WALK's BIT OPERATIONS ON uint32, as natural numbers' own; and the facts of one round of each of the two check sums. Conditions: the numbers are below 2^32.
-/
import Derived.WalkKit
import Derived.Laws.BitsAllLaws
import Derived.Lib.Hide
import Derived.Test.YtbdpedagaojjkaaDoorCrcMath
namespace Go.Proofs.YtbdpedagaojjkaaDoor
open Go.RowKit
theorem bnot (n : Nat) (h : n < 4294967296) : bits .xor .u32 IntKind.u32.max (n : Int) = ((Crc.notN n : Nat) : Int) := by
  have h1 := u32_xor_nat 4294967295 n (by omega) h
  have e : (IntKind.u32.max : Int) = ((4294967295 : Nat) : Int) := by rfl
  rw [e, h1]
  congr 1
  have h2 := congrArg BitVec.toNat (Crc.not_ofNat n h)
  rw [BitVec.toNat_ofNat, Nat.mod_eq_of_lt (Crc.notN_lt n)] at h2
  rw [← h2]
  have : (~~~ (BitVec.ofNat 32 n)) = (BitVec.ofNat 32 4294967295) ^^^ (BitVec.ofNat 32 n) := by
    apply BitVec.eq_of_getLsbD_eq
    intro i hi
    rw [show BitVec.ofNat 32 4294967295 = ~~~ 0#32 from by decide]
    simp only [BitVec.getLsbD_not, BitVec.getLsbD_xor, BitVec.getLsbD_zero, hi, decide_true, Bool.true_and]
    cases (BitVec.ofNat 32 n).getLsbD i <;> rfl
  rw [this, BitVec.toNat_xor, BitVec.toNat_ofNat, BitVec.toNat_ofNat, Nat.mod_eq_of_lt h]
theorem bxor (a b : Nat) (ha : a < 4294967296) (hb : b < 4294967296) : bits .xor .u32 (a : Int) (b : Int) = ((a ^^^ b : Nat) : Int) := u32_xor_nat a b ha hb
theorem band15 (a : Nat) (ha : a < 4294967296) : bits .and .u32 (a : Int) 15 = ((a % 16 : Nat) : Int) := by
  have h := u32_and_nat a 15 ha (by omega)
  rw [nat_mask4] at h
  exact h
theorem byTab (a : Nat) (ha : a < 4294967296) : ∃ i t c : Nat, bits .and .u32 (a : Int) 15 = (i : Int) ∧ i < 16 ∧ Crc.tab.getD i 0 = t ∧ bits .xor .u32 ((a : Int) / 16) (t : Int) = (c : Int) ∧ Hid (c = Crc.tN a) ∧ c < 4294967296 := by
  refine ⟨a % 16, _, _, band15 a ha, by omega, rfl, ?_, Lib.hid rfl, Crc.tN_lt a ha⟩
  have e : ((a : Int) / 16) = ((a / 16 : Nat) : Int) := by omega
  rw [e, bxor _ _ (by omega) (Crc.tab_lt ⟨a % 16, by omega⟩)]
  rfl
theorem byBit (a : Nat) (ha : a < 4294967296) : (((a : Int) % 2 = 1) ∧ bits .xor .u32 ((a : Int) / 2) 2197175160 = ((Crc.sN a : Nat) : Int)) ∨ (((a : Int) % 2 = 0) ∧ ((a : Int) / 2) = ((Crc.sN a : Nat) : Int)) := by
  have e : ((a : Int) / 2) = ((a / 2 : Nat) : Int) := by omega
  by_cases h : a % 2 = 1
  · left
    refine ⟨by omega, ?_⟩
    have := bxor (a / 2) 2197175160 (by omega) (by omega)
    rw [e]
    unfold Crc.sN
    rw [if_pos h]
    exact this
  · right
    refine ⟨by omega, ?_⟩
    unfold Crc.sN
    rw [if_neg h, e]
end Go.Proofs.YtbdpedagaojjkaaDoor
