/-
  Several texts in one file, in their order:
  - A message of one's own: fields copied to a new row, while a variable is made beside; two operations that may come up either way. No conditions.
  - The map of dialect 2, bit by bit. Nothing of the program.
  - The map's bytes, set bit by bit, and what can be said in each dialect. Nothing of the program.
  - The reference's head. Conditions: the tables and the errors read as the program's text lays them.
  - The reference's bytes: digits in pairs, digits, a right text's bytes, Put. No conditions.
  - The reference's bytes of a right text. No conditions.
  - The reference's bytes of a number with its length ahead, of a marked number, of great digits; Put. No conditions.
  - The reference's Put, behind any bytes. Conditions: the rows read as the program's text lays them.
  - The reference's Encode: helpers. Conditions: the tables and the errors read as the program's text lays them.
  - The reference's Encode. Conditions: the tables and the errors read as the program's text lays them.
-/
import Derived.Test.YticofobhkmabiaaGreatDoorJa4
import Derived.Test.YticofobhkmabiaaGreatDoorJa2
import Derived.Test.YticofobhkmabiaaGreatDoorJa1
import Derived.Test.YticofobhkmabiaaGreatDoorJa0
namespace Go.Proofs.YticofobhkmabiaaGreatDoor
open Go.RowKit
open Fdd
set_option linter.unusedVariables false
set_option linter.unusedSimpArgs false
section
variable {P : Program} {md : Region.Mode} {ops : Array Oper} {Q : Exit → Act → World → Prop} {S : World → Prop}
/-- two may come up: either way -/
theorem alw_two {i k : Nat} {oi ok : Oper} {n : Nat} {l : Array Bool} {a : Act} {w : World} (hr : Region.ready md ops l = [i, k]) (hi : ops.toList[i]? = some oi) (hk : ops.toList[k]? = some ok)
    (wi : Region.wanted oi (yielded ops a.tmps) = true) (wk : Region.wanted ok (yielded ops a.tmps) = true)
    (hA : ∀ K : Act → World → Prop, Shut (∀ a' w', (S w' ∧ Alw P md ops Q S n (l.setIfInBounds i true) a' w') → K a' w') → oi.wp P a w K Q)
    (hB : ∀ K : Act → World → Prop, Shut (∀ a' w', (S w' ∧ Alw P md ops Q S n (l.setIfInBounds k true) a' w') → K a' w') → ok.wp P a w K Q) : Alw P md ops Q S (n + 1) l a w := by
  have ho : ops[i]? = some oi := by rw [← hi, Array.getElem?_toList]
  have hok : ops[k]? = some ok := by rw [← hk, Array.getElem?_toList]
  refine ⟨fun h0 => (by rw [h0] at hr; cases hr), fun j hj => ?_⟩
  rw [hr] at hj
  have hj2 : j = i ∨ j = k := by simpa using hj
  rcases hj2 with rfl | rfl
  · unfold wpOp
    simp only [ho, wi, if_true]
    exact .inl (hA _ fun _ _ h' => h')
  · unfold wpOp
    simp only [hok, wk, if_true]
    exact .inl (hB _ fun _ _ h' => h')
end
/-- the empty row, and where it lies -/
theorem own_made {w wx : World} (hT : Turn nowhere w wx) : FRow (wx.alloc (.cells #[] 40)) w.heap.size (.slice (some ⟨wx.heap.size, 0, none⟩) 0 0) [] := World.ownsRow_made wx #[] 0 hT.size (by unfold maxLen; omega) rfl
theorem own_app {w wx : World} {g : Nat} {A : Option Addr} {n c : Nat} {fs : List Fld} (hrow : FRow wx w.heap.size (.slice (some ⟨g, 0, none⟩) 0 0) []) (hT : Turn nowhere w wx) (hf : Fl w A n fs) (hz : A = none → c = 0) (hm : n * 24 ≤ 140737488351232) :
    ∃ A' c' w', (Builtin.append_ #[22, 22] 22 #[.slice (some ⟨g, 0, none⟩) 0 0, .slice A n c]).run Tryz.prog wx = .ok (.slice A' n c') w' ∧ FRow w' w.heap.size (.slice A' n c') fs ∧ Turn nowhere w w' ∧ wx.grownBy w' (some g) := by
  obtain ⟨A', c', w', h1, h2, h3⟩ := frow_grow (ty := 22) (c := c) hrow hT.size (hf.still hT) hz (by simp; omega)
  have hl : ([] : List Fld).length + n = n := by simp
  rw [hl] at h1 h2
  refine ⟨A', c', w', h1, h2, hT.grown h3 fun q e hq => ?_, h3⟩
  have := (hrow.lt q e).1
  omega
theorem own_end {w w6 w7 : World} {g : Nat} {v : Value} {fs : List Fld} {cs : Array Value} (hro : FRow w6 w.heap.size v fs) (hb6 : Blk w6 g 24 cs) (ht : Turn nowhere w w6) (hg : w.heap.size ≤ g) (h7 : Turn (only g) w6 w7) : FRow w7 w.heap.size v fs ∧ Turn nowhere w w7 :=
  ⟨hro.turn h7 (fun q hq e => hro.ne hb6 (by decide) q hq e), above ht hg h7⟩
end Go.Proofs.YticofobhkmabiaaGreatDoor
namespace Go.Proofs.YticofobhkmabiaaGreatDoor.Fdd
set_option linter.unusedVariables false
theorem gd_left {a b : List UInt8} {i : Nat} (h : i < a.length) : (a ++ b).getD i 0 = a.getD i 0 := by simp [List.getD, List.getElem?_append_left h]
theorem gd_right {a b : List UInt8} {i : Nat} (h : a.length ≤ i) : (a ++ b).getD i 0 = b.getD (i - a.length) 0 := by simp [List.getD, List.getElem?_append_right h]
theorem mapPut_t (t : List UInt8) : (mapFm 2).put t = pack hexs (padded (t.take 16)) ++ [] := rfl
/-- a number's lowest k bytes, the highest first -/
def be : Nat → Nat → List UInt8
  | 0, _ => []
  | k + 1, n => be k (n / 256) ++ [UInt8.ofNat (n % 256)]
theorem be_len : ∀ (k n : Nat), (be k n).length = k
  | 0, _ => rfl
  | k + 1, n => by rw [be, List.length_append, be_len k]; rfl
theorem be_at : ∀ (k n i : Nat), i < k → ((be k n).getD i 0).toNat = n / 256 ^ (k - 1 - i) % 256
  | 0, _, _, h => absurd h (Nat.not_lt_zero _)
  | k + 1, n, i, h => by
    rw [be]
    by_cases hi : i < k
    · rw [gd_left (by rw [be_len]; exact hi), be_at k _ i hi, Nat.div_div_eq_div_mul]
      congr 2
      rw [show k + 1 - 1 - i = (k - 1 - i) + 1 from by omega, Nat.pow_succ, Nat.mul_comm]
    · obtain rfl : i = k := by omega
      rw [gd_right (by rw [be_len]; exact Nat.le_refl _), be_len, Nat.sub_self, Nat.add_sub_cancel, Nat.sub_self]
      show (UInt8.ofNat (n % 256)).toNat = _
      rw [UInt8.toNat_ofNat']
      simp
theorem pack_snoc (cs : List UInt8) (a b : UInt8) : ∀ l : List UInt8, l.length % 2 = 0 → pack cs (l ++ [a, b]) = pack cs l ++ [UInt8.ofNat (16 * cs.idxOf a + cs.idxOf b)]
  | [], _ => rfl
  | [_], h => by simp at h
  | x :: y :: l, h => by
    show UInt8.ofNat _ :: pack cs (l ++ [a, b]) = _
    rw [pack_snoc cs a b l (by simp only [List.length_cons] at h; omega)]
    rfl
theorem pack_hexk : ∀ (k n : Nat), pack hexs (hexk (2 * k) n) = be k n
  | 0, _ => rfl
  | k + 1, n => by
    rw [show 2 * (k + 1) = (2 * k + 1) + 1 from by omega, hexk, hexk, List.append_assoc]
    show pack hexs (hexk (2 * k) (n / 16 / 16) ++ [hexs.getD (n / 16 % 16) 0, hexs.getD (n % 16) 0]) = _
    rw [pack_snoc _ _ _ _ (by rw [hexk_len]; omega), pack_hexk k, (hex_idx (Nat.mod_lt (n / 16) (by decide))).1, (hex_idx (Nat.mod_lt n (by decide))).1, be, Nat.div_div_eq_div_mul]
    congr 2
    rw [show 16 * (n / 16 % 16) + n % 16 = n % 256 from by omega]
theorem mapPut2 (h : Nat) : (mapFm 2).put (hexk 16 h) = be 8 h := by
  have hl : (hexk 16 h).take 16 = hexk 16 h := List.take_of_length_le (by rw [hexk_len]; exact Nat.le_refl _)
  rw [mapPut_t, List.append_nil, hl]
  unfold padded
  rw [if_neg (by rw [hexk_len]; decide)]
  exact pack_hexk 8 h
theorem type2_len {ty : Int} (h : mtypes.contains ty = true) : ((typeFm 2).put (ver 2 ++ dig3 ty.toNat)).length = 2 := by
  have : ∀ t ∈ mtypes, ((typeFm 2).put (ver 2 ++ dig3 t.toNat)).length = 2 := by decide +kernel
  exact this ty (by simpa using h)
/-- a bit of a byte of the map -/
theorem be_bit (h i r : Nat) (hi : i < 8) (hr : r < 8) : ((be 8 h).getD i 0).toNat / 2 ^ (7 - r) % 2 = 1 ↔ h.testBit (63 - (8 * i + r)) = true := by
  rw [be_at 8 h i hi]
  have e : (h / 256 ^ (8 - 1 - i) % 256).testBit (7 - r) = h.testBit (63 - (8 * i + r)) := by
    rw [show (256 : Nat) = 2 ^ 8 from rfl, Nat.testBit_mod_two_pow, ← Nat.pow_mul, Nat.testBit_div_two_pow, decide_eq_true (show 7 - r < 8 by omega), Bool.true_and]
    congr 1
    omega
  rw [← e, Nat.testBit_eq_decide_div_mod_eq]
  simp
theorem get_some {no : Int} : ∀ {fs : List Fld}, (getM no fs).isSome = true ↔ ∃ f ∈ fs, f.1 = no
  | [] => by simp [getM]
  | f :: r => by
    unfold getM
    by_cases h : f.1 = no
    · rw [if_pos h]
      simp [h]
    · rw [if_neg h, get_some (fs := r)]
      simp [h]
/-- the bit of a number in a message's bytes, in dialect 2 -/
def bit2 (b : List UInt8) (no : Nat) : Bool := (b.getD (2 + (no - 1) / 8) 0).toNat / 2 ^ (7 - (no - 1) % 8) % 2 == 1
theorem maps2 {ty : Int} {fs : List Fld} {b : List UInt8} (h : mencode 2 ty fs = .ok b) :
    ∃ bits, (bits = 64 ∨ bits = 128) ∧ (bits = 128 ↔ 128 ≤ (b.getD 2 0).toNat) ∧ 10 ≤ b.length ∧ 2 + bits / 8 ≤ b.length ∧ (∀ no, 2 ≤ no → no ≤ bits → bit2 b no = (getM (no : Int) fs).isSome) ∧ (bits = 128 → ∃ no, 64 < no ∧ no ≤ 128 ∧ bit2 b no = true) := by
  obtain ⟨_, ⟨hty, _, hgood, _⟩, rfl⟩ := mencode_ok.1 h
  have hn := (good_nos hgood).2
  have hw : wire (2 : Int).toNat ty fs = (typeFm 2).put (ver 2 ++ dig3 ty.toNat) ++ (mapPut 2 fs ++ body 2 fs) := rfl
  rw [hw]
  have hT := type2_len hty
  generalize (typeFm 2).put (ver 2 ++ dig3 ty.toNat) = T at *
  have key : ∀ (B : List UInt8) (j : Nat), (T ++ (B ++ body 2 fs)).getD (2 + j) 0 = (B ++ body 2 fs).getD j 0 := fun B j => by
    rw [gd_right (by omega), hT, Nat.add_sub_cancel_left]
  have h1lt := half1_lt hn
  have h2lt := half2_lt hn
  have b1 : ∀ no : Nat, 2 ≤ no → no ≤ 64 → ((half1 fs).testBit (64 - no) = true ↔ (getM (no : Int) fs).isSome = true) := fun no q1 q2 => by
    rw [bit_half1, get_some]
    constructor
    · rintro ⟨f, hf, hf1, hf2⟩
      have := hn f hf
      exact ⟨f, hf, by omega⟩
    · rintro ⟨f, hf, e⟩
      exact ⟨f, hf, by omega, by omega⟩
  have b2 : ∀ no : Nat, 64 < no → no ≤ 128 → ((half2 fs).testBit (128 - no) = true ↔ (getM (no : Int) fs).isSome = true) := fun no q1 q2 => by
    rw [bit_half2, get_some]
    constructor
    · rintro ⟨f, hf, hf1, hf2⟩
      have := hn f hf
      exact ⟨f, hf, by omega⟩
    · rintro ⟨f, hf, e⟩
      exact ⟨f, hf, by omega, by omega⟩
  have bb : ∀ {p q : Bool}, (p = true ↔ q = true) → p = q := fun {p q} h => by cases p <;> cases q <;> simp_all
  by_cases h0 : half2 fs = 0
  · have hm : mapPut 2 fs = be 8 (half1 fs) := by
      unfold mapPut halves
      rw [if_pos h0]
      show (mapFm 2).put (hexk 16 (half1 fs)) ++ [] = _
      rw [List.append_nil, mapPut2]
    rw [hm]
    have g1 : ∀ j, j < 8 → (T ++ (be 8 (half1 fs) ++ body 2 fs)).getD (2 + j) 0 = (be 8 (half1 fs)).getD j 0 := fun j hj => by
      rw [key, gd_left (by rw [be_len]; exact hj)]
    refine ⟨64, .inl rfl, ?_, ?_, ?_, fun no q1 q2 => ?_, fun h => by omega⟩
    · constructor
      · intro h; omega
      · intro h
        have e := g1 0 (by decide)
        rw [Nat.add_zero] at e
        rw [e] at h
        have h3 := be_bit (half1 fs) 0 0 (by decide) (by decide)
        have hx : ((be 8 (half1 fs)).getD 0 0).toNat < 256 := UInt8.toNat_lt _
        have h4 := h3.1 (by
          rw [show 2 ^ (7 - 0) = 128 from rfl]
          omega)
        have h5 := Nat.testBit_lt_two_pow h1lt
        rw [show 63 - (8 * 0 + 0) = 63 from rfl] at h4
        rw [h5] at h4
        cases h4
    · rw [List.length_append, List.length_append, be_len, hT]; omega
    · rw [List.length_append, List.length_append, be_len, hT]; omega
    · refine bb ?_
      unfold bit2
      rw [g1 _ (by omega)]
      simp only [beq_iff_eq]
      rw [be_bit _ _ _ (by omega) (Nat.mod_lt _ (by decide)), show 63 - (8 * ((no - 1) / 8) + (no - 1) % 8) = 64 - no from by omega]
      exact b1 no q1 q2
  · have hm : mapPut 2 fs = be 8 (half1 fs ||| 2 ^ 63) ++ be 8 (half2 fs) := by
      unfold mapPut halves
      rw [if_neg h0]
      show (mapFm 2).put (hexk 16 (half1 fs ||| 2 ^ 63)) ++ ((mapFm 2).put (hexk 16 (half2 fs)) ++ []) = _
      rw [List.append_nil, mapPut2, mapPut2]
    rw [hm, List.append_assoc]
    have g1 : ∀ j, j < 8 → (T ++ (be 8 (half1 fs ||| 2 ^ 63) ++ (be 8 (half2 fs) ++ body 2 fs))).getD (2 + j) 0 = (be 8 (half1 fs ||| 2 ^ 63)).getD j 0 := fun j hj => by
      rw [gd_right (by omega), hT, Nat.add_sub_cancel_left, gd_left (by rw [be_len]; exact hj)]
    have g2 : ∀ j, j < 8 → (T ++ (be 8 (half1 fs ||| 2 ^ 63) ++ (be 8 (half2 fs) ++ body 2 fs))).getD (2 + (8 + j)) 0 = (be 8 (half2 fs)).getD j 0 := fun j hj => by
      rw [gd_right (by omega), hT, Nat.add_sub_cancel_left, gd_right (by rw [be_len]; omega), be_len, Nat.add_sub_cancel_left, gd_left (by rw [be_len]; exact hj)]
    have s2 : ∀ no : Nat, 64 < no → no ≤ 128 → (bit2 (T ++ (be 8 (half1 fs ||| 2 ^ 63) ++ (be 8 (half2 fs) ++ body 2 fs))) no = true ↔ (half2 fs).testBit (128 - no) = true) := fun no q1 q2 => by
      unfold bit2
      obtain ⟨j, hj⟩ : ∃ j, (no - 1) / 8 = 8 + j := ⟨(no - 1) / 8 - 8, by omega⟩
      rw [hj, g2 j (by omega)]
      simp only [beq_iff_eq]
      rw [be_bit _ _ _ (by omega) (Nat.mod_lt _ (by decide)), show 63 - (8 * j + (no - 1) % 8) = 128 - no from by omega]
    refine ⟨128, .inr rfl, ?_, ?_, ?_, fun no q1 q2 => ?_, fun _ => ?_⟩
    · constructor
      · intro _
        have e := g1 0 (by decide)
        rw [Nat.add_zero] at e
        rw [e]
        have h3 := (be_bit (half1 fs ||| 2 ^ 63) 0 0 (by decide) (by decide)).2 (or_top h1lt).2.1
        rw [show 2 ^ (7 - 0) = 128 from rfl] at h3
        omega
      · intro _; rfl
    · simp only [List.length_append, be_len, hT]; omega
    · simp only [List.length_append, be_len, hT]; omega
    · refine bb ?_
      by_cases h64 : no ≤ 64
      · unfold bit2
        rw [g1 _ (by omega)]
        simp only [beq_iff_eq]
        rw [be_bit _ _ _ (by omega) (Nat.mod_lt _ (by decide)), show 63 - (8 * ((no - 1) / 8) + (no - 1) % 8) = 64 - no from by omega, Nat.testBit_or, Nat.testBit_two_pow_of_ne (by omega), Bool.or_false]
        exact b1 no q1 h64
      · exact (s2 no (by omega) q2).trans (b2 no (by omega) q2)
    · obtain ⟨i, hi⟩ := Nat.exists_testBit_of_ne_zero h0
      obtain ⟨f, hf, hf1, hf2⟩ := (bit_half2 fs i).1 hi
      have := hn f hf
      refine ⟨f.1.toNat, by omega, by omega, (s2 _ (by omega) (by omega)).2 ?_⟩
      rw [hf2]
      exact hi
end Go.Proofs.YticofobhkmabiaaGreatDoor.Fdd
namespace Go.Proofs.YticofobhkmabiaaGreatDoor.Fdd
set_option linter.unusedVariables false
theorem get_ext {a b : List UInt8} (hl : a.length = b.length) (h : ∀ i, i < a.length → (a.getD i 0).toNat = (b.getD i 0).toNat) : a = b := by
  refine List.ext_getElem hl fun i h1 h2 => ?_
  have := h i h1
  simp only [List.getD, List.getElem?_eq_getElem h1, List.getElem?_eq_getElem h2, Option.getD_some] at this
  exact UInt8.toNat_inj.1 this
theorem be_or (h j : Nat) (hj : j < 64) : be 8 (h ||| 2 ^ j) = (be 8 h).set (7 - j / 8) ((be 8 h).getD (7 - j / 8) 0 ||| UInt8.ofNat (2 ^ (j % 8))) := by
  refine get_ext (by rw [List.length_set, be_len, be_len]) fun i hi => ?_
  rw [be_len] at hi
  have hp : 2 ^ (j % 8) < 256 := by
    have := Nat.pow_lt_pow_right (a := 2) (by decide) (show j % 8 < 8 from Nat.mod_lt _ (by decide))
    omega
  rw [be_at 8 _ i hi]
  have hset : ((be 8 h).set (7 - j / 8) ((be 8 h).getD (7 - j / 8) 0 ||| UInt8.ofNat (2 ^ (j % 8)))).getD i 0 = if i = 7 - j / 8 then (be 8 h).getD i 0 ||| UInt8.ofNat (2 ^ (j % 8)) else (be 8 h).getD i 0 := by
    simp only [List.getD, List.getElem?_set]
    by_cases e : 7 - j / 8 = i
    · subst e
      rw [if_pos rfl, if_pos rfl, if_pos (by rw [be_len]; omega)]
      rfl
    · rw [if_neg e, if_neg (fun h => e h.symm)]
  rw [hset]
  refine Nat.eq_of_testBit_eq fun s => ?_
  have hL : ((h ||| 2 ^ j) / 256 ^ (8 - 1 - i) % 256).testBit s = (decide (s < 8) && (h.testBit (8 * (7 - i) + s) || decide (j = 8 * (7 - i) + s))) := by
    rw [show (256 : Nat) = 2 ^ 8 from rfl, Nat.testBit_mod_two_pow, ← Nat.pow_mul, Nat.testBit_div_two_pow, Nat.testBit_or, Nat.testBit_two_pow, show s + 8 * (8 - 1 - i) = 8 * (7 - i) + s from by omega]
  have hB : (((be 8 h).getD i 0).toNat).testBit s = (decide (s < 8) && h.testBit (8 * (7 - i) + s)) := by
    rw [be_at 8 _ i hi, show (256 : Nat) = 2 ^ 8 from rfl, Nat.testBit_mod_two_pow, ← Nat.pow_mul, Nat.testBit_div_two_pow, show s + 8 * (8 - 1 - i) = 8 * (7 - i) + s from by omega]
  rw [hL]
  by_cases e : i = 7 - j / 8
  · rw [if_pos e, UInt8.toNat_or, Nat.testBit_or, hB, UInt8.toNat_ofNat', Nat.mod_eq_of_lt hp, Nat.testBit_two_pow]
    by_cases hs : s < 8
    · rw [decide_eq_true hs, Bool.true_and, Bool.true_and]
      congr 1
      rw [decide_eq_decide]
      omega
    · rw [decide_eq_false hs, Bool.false_and, Bool.false_and, decide_eq_false (by omega)]
      rfl
  · rw [if_neg e, hB]
    by_cases hs : s < 8
    · rw [decide_eq_true hs, Bool.true_and, Bool.true_and, decide_eq_false (show ¬ j = 8 * (7 - i) + s by omega), Bool.or_false]
    · rw [decide_eq_false hs, Bool.false_and, Bool.false_and]
/-- both halves of the map -/
def B16 (fs : List Fld) : List UInt8 := be 8 (half1 fs) ++ be 8 (half2 fs)
theorem B16_len (fs : List Fld) : (B16 fs).length = 16 := by rw [B16, List.length_append, be_len, be_len]
theorem B16_nil : B16 [] = List.replicate 16 0 := by decide
theorem B16_snoc (fs : List Fld) (f : Fld) {q : Nat} (hq : f.1 = (q : Int)) (h2 : 2 ≤ q) (h97 : q ≤ 97) :
    B16 (fs ++ [f]) = (B16 fs).set ((q - 1) / 8) ((B16 fs).getD ((q - 1) / 8) 0 ||| UInt8.ofNat (128 / 2 ^ ((q - 1) % 8))) := by
  have hp : ∀ n : Nat, 2 ^ (7 - n % 8) = 128 / 2 ^ (n % 8) := fun n => by
    have hc : n % 8 = 0 ∨ n % 8 = 1 ∨ n % 8 = 2 ∨ n % 8 = 3 ∨ n % 8 = 4 ∨ n % 8 = 5 ∨ n % 8 = 6 ∨ n % 8 = 7 := by omega
    rcases hc with e | e | e | e | e | e | e | e <;> rw [e]
  have h1 : half1 (fs ++ [f]) = if f.1 ≤ 64 then half1 fs ||| 2 ^ (64 - f.1.toNat) else half1 fs := by
    unfold half1
    rw [List.foldl_append]
    rfl
  have h2' : half2 (fs ++ [f]) = if f.1 ≤ 64 then half2 fs else half2 fs ||| 2 ^ (128 - f.1.toNat) := by
    unfold half2
    rw [List.foldl_append]
    rfl
  have hqn : f.1.toNat = q := by omega
  unfold B16
  rw [h1, h2', hqn]
  by_cases h64 : q ≤ 64
  · rw [if_pos (by omega), if_pos (by omega), be_or _ _ (by omega), show 7 - (64 - q) / 8 = (q - 1) / 8 from by omega, show (64 - q) % 8 = 7 - (q - 1) % 8 from by omega, hp, gd_left (by rw [be_len]; omega), List.set_append_left _ _ (by rw [be_len]; omega)]
  · rw [if_neg (by omega), if_neg (by omega), be_or _ _ (by omega), show 7 - (128 - q) / 8 = (q - 1) / 8 - 8 from by omega, show (128 - q) % 8 = 7 - (q - 1) % 8 from by omega, hp, gd_right (by rw [be_len]; omega), be_len, List.set_append_right _ _ (by rw [be_len]; omega), be_len]
def bitsL (fs : List Fld) : List UInt8 := if half2 fs = 0 then be 8 (half1 fs) else be 8 (half1 fs ||| 2 ^ 63) ++ be 8 (half2 fs)
def far64 (fs : List Fld) : Bool := fs.any fun f => decide (64 < f.1)
theorem far_half {fs : List Fld} (h : ∀ f ∈ fs, 2 ≤ f.1 ∧ f.1 ≤ 97) : far64 fs = true ↔ half2 fs ≠ 0 := by
  unfold far64
  rw [List.any_eq_true]
  constructor
  · rintro ⟨f, hf, h1⟩ h0
    have h1 : 64 < f.1 := of_decide_eq_true h1
    have := (bit_half2 fs (128 - f.1.toNat)).2 ⟨f, hf, h1, rfl⟩
    rw [h0] at this
    simp at this
  · intro h0
    obtain ⟨i, hi⟩ := Nat.exists_testBit_of_ne_zero h0
    obtain ⟨f, hf, h1, _⟩ := (bit_half2 fs i).1 hi
    exact ⟨f, hf, decide_eq_true h1⟩
theorem far_snoc (fs : List Fld) (f : Fld) : far64 (fs ++ [f]) = (far64 fs || decide (64 < f.1)) := by
  unfold far64
  rw [List.any_append]
  simp
theorem bits_far {fs : List Fld} (h : half2 fs ≠ 0) : (B16 fs).set 0 ((B16 fs).getD 0 0 ||| 128) = bitsL fs := by
  unfold bitsL B16
  rw [if_neg h, be_or _ 63 (by decide), gd_left (by rw [be_len]; decide), List.set_append_left _ _ (by rw [be_len]; decide)]
  rfl
theorem bits_near {fs : List Fld} (h : half2 fs = 0) : (B16 fs).take 8 = bitsL fs := by
  unfold bitsL B16
  rw [if_pos h, List.take_append_of_le_length (by rw [be_len]; decide), List.take_of_length_le (by rw [be_len]; decide)]
/-- a map's bytes in a dialect -/
def mapB (d : Nat) (l : List UInt8) : List UInt8 := if d = 1 then l.flatMap fun x => [hexU.getD (x.toNat / 16) 0, hexU.getD (x.toNat % 16) 0] else l
theorem mapB_append (d : Nat) (a b : List UInt8) : mapB d (a ++ b) = mapB d a ++ mapB d b := by
  unfold mapB
  split
  · exact List.flatMap_append
  · rfl
theorem mapPut3 (h : Nat) : (mapFm 3).put (hexk 16 h) = be 8 h := by
  have hl : (hexk 16 h).take 16 = hexk 16 h := List.take_of_length_le (by rw [hexk_len]; exact Nat.le_refl _)
  have e : ∀ t : List UInt8, (mapFm 3).put t = pack hexs (padded (t.take 16)) ++ [] := fun t => rfl
  rw [e, List.append_nil, hl]
  unfold padded
  rw [if_neg (by rw [hexk_len]; decide)]
  exact pack_hexk 8 h
theorem one_hex {d : Nat} (h : d < 16) : one hexs hexU (hexs.getD d 0) = hexU.getD d 0 := by
  unfold one
  rw [(hex_idx h).1]
theorem map_hexk : ∀ (k n : Nat), (hexk (2 * k) n).map (one hexs hexU) = (be k n).flatMap fun x => [hexU.getD (x.toNat / 16) 0, hexU.getD (x.toNat % 16) 0]
  | 0, _ => rfl
  | k + 1, n => by
    rw [show 2 * (k + 1) = (2 * k + 1) + 1 from by omega, hexk, hexk, List.append_assoc, List.map_append, map_hexk k, be, List.flatMap_append, Nat.div_div_eq_div_mul]
    congr 1
    show [one hexs hexU (hexs.getD (n / 16 % 16) 0), one hexs hexU (hexs.getD (n % 16) 0)] = [hexU.getD ((UInt8.ofNat (n % 256)).toNat / 16) 0, hexU.getD ((UInt8.ofNat (n % 256)).toNat % 16) 0]
    rw [one_hex (Nat.mod_lt _ (by decide)), one_hex (Nat.mod_lt _ (by decide)), UInt8.toNat_ofNat', show n % 256 % 2 ^ 8 = n % 256 from by omega, show n % 256 / 16 = n / 16 % 16 from by omega, show n % 256 % 16 = n % 16 from by omega]
theorem mapPut1 (h : Nat) : (mapFm 1).put (hexk 16 h) = mapB 1 (be 8 h) := by
  have e : ∀ t : List UInt8, (mapFm 1).put t = (t.take 16).map (one hexs hexU) ++ [] := fun t => rfl
  rw [e, List.append_nil, List.take_of_length_le (by rw [hexk_len]; exact Nat.le_refl _)]
  exact map_hexk 8 h
theorem mapPut_be {d : Nat} (hd : 1 ≤ d ∧ d ≤ 3) (h : Nat) : (mapFm d).put (hexk 16 h) = mapB d (be 8 h) := by
  have hc : d = 1 ∨ d = 2 ∨ d = 3 := by omega
  rcases hc with rfl | rfl | rfl
  · exact mapPut1 h
  · exact mapPut2 h
  · exact mapPut3 h
theorem mapPut_bits {d : Nat} (hd : 1 ≤ d ∧ d ≤ 3) (fs : List Fld) : mapPut d fs = mapB d (bitsL fs) := by
  unfold mapPut halves bitsL
  split
  · show (mapFm d).put (hexk 16 (half1 fs)) ++ [] = _
    rw [List.append_nil, mapPut_be hd]
  · show (mapFm d).put (hexk 16 (half1 fs ||| 2 ^ 63)) ++ ((mapFm d).put (hexk 16 (half2 fs)) ++ []) = _
    rw [List.append_nil, mapPut_be hd, mapPut_be hd, mapB_append]
/-- an amount that the dialect can say -/
def Amt (d : Nat) (f : Fld) : Prop := d = 3 → f.1 = 4 → f.2.take 2 = [48, 48]
theorem mright_code {k s c c' : Nat} {t : List UInt8} : (nf k s c).right t = (nf k s c').right t := by
  have h : ∀ (kk : Int) (n : Nat) (t : List UInt8), rightAll (ptsOf kk (c : Int) n) t = rightAll (ptsOf kk (c' : Int) n) t := fun kk n t => by
    unfold ptsOf
    split
    · rfl
    · split
      · rfl
      · split
        · rfl
        · rfl
  unfold Fm.right
  show (if (k : Int) = 2 then _ else _) = (if (k : Int) = 2 then _ else _)
  split
  · show (_ && rightAll (ptsOf 2 (c : Int) t.length) t) = (_ && rightAll (ptsOf 2 (c' : Int) t.length) t)
    rw [h]
    rfl
  · exact h _ _ _
theorem said_amt {d : Nat} {f : Fld} (hd : 1 ≤ d ∧ d ≤ 3) {m1 : Fm} (hm1 : mform 1 f.1 = some m1) (hc1 : m1.check f.2 = 0) : Said d f ↔ Amt d f := by
  obtain ⟨k, s, rfl, hk, hs, _, _, hf1, h4⟩ := form_nf hm1
  have hu1 : unsaid 1 f.1 = [] := by unfold unsaid; rw [if_neg (fun h => by omega)]
  rw [hu1] at hf1 h4
  have hr1 := (check_zero hk (by decide) hs).1 hc1
  rcases unsaid_len d f.1 with hu | ⟨hu, rfl, h4'⟩
  · have hmd : mform d f.1 = some (nf k s d) := by
      unfold mform
      rw [hf1, hu]
      simp [nf]
    constructor
    · intro _ h3 h4'
      exfalso
      unfold unsaid at hu
      rw [if_pos ⟨h3, h4'⟩] at hu
      cases hu
    · intro _
      refine ⟨_, hmd, ?_⟩
      rw [say_nil hu]
      exact (check_zero hk hd hs).2 (by rw [mright_code (c' := 1)]; exact hr1)
  · obtain ⟨rfl, hs12⟩ := h4 h4'
    have hs12 : s = 12 := by simpa using hs12
    subst hs12
    have hmd : mform 3 f.1 = some (nf 1 10 3) := by
      unfold mform
      rw [hf1, hu]
      rfl
    obtain ⟨hl, hdig⟩ := right_n.1 hr1
    have hsay : say 3 f = Lib.trimPrefix f.2 [48, 48] := by unfold say; rw [hu]
    constructor
    · rintro ⟨m, hm, hc⟩ _ _
      rw [hmd] at hm
      injection hm with hm
      subst hm
      obtain ⟨hl2, _⟩ := right_n.1 ((check_zero (by decide) (by decide) (by decide)).1 hc)
      rw [hsay] at hl2
      unfold Lib.trimPrefix at hl2
      split at hl2
      · rename_i hp
        obtain ⟨r, hr⟩ := List.isPrefixOf_iff_prefix.1 hp
        rw [← hr]
        rfl
      · omega
    · intro ha
      have ht := ha rfl h4'
      refine ⟨_, hmd, (check_zero (by decide) (by decide) (by decide)).2 (right_n.2 ?_)⟩
      have hp : Lib.hasPrefix f.2 [48, 48] = true := List.isPrefixOf_iff_prefix.2 ⟨f.2.drop 2, by rw [← ht, List.take_append_drop]⟩
      rw [hsay]
      unfold Lib.trimPrefix
      rw [if_pos hp]
      refine ⟨by rw [List.length_drop, hl]; rfl, ?_⟩
      unfold onlyOf at hdig ⊢
      rw [List.all_eq_true] at hdig ⊢
      exact fun x hx => hdig x (List.mem_of_mem_drop hx)
theorem say_amt {d : Nat} {f : Fld} (h : Amt d f) : say d f = if d = 3 ∧ f.1 = 4 then f.2.drop 2 else f.2 := by
  unfold say unsaid
  split
  · rename_i h34
    have ht := h h34.1 h34.2
    have hp : Lib.hasPrefix f.2 [48, 48] = true := List.isPrefixOf_iff_prefix.2 ⟨f.2.drop 2, by rw [← ht, List.take_append_drop]⟩
    unfold Lib.trimPrefix
    rw [if_pos hp]
    rfl
  · unfold Lib.trimPrefix
    simp
theorem mencode_ref {d ty : Int} {fs : List Fld} (hd : 1 ≤ d ∧ d ≤ 3) (hck : mcheck ty fs = 0) : ((∀ f ∈ fs, Amt d.toNat f) → mencode d ty fs = .ok (wire d.toNat ty fs)) ∧ ((∃ f ∈ fs, ¬ Amt d.toNat f) → mencode d ty fs = .error 41) := by
  obtain ⟨hty, hn, hg⟩ := mcheck_zero.1 hck
  have hs : ∀ f ∈ fs, (Said d.toNat f ↔ Amt d.toNat f) := fun f hf => by
    obtain ⟨m, hm, hc⟩ := hg.2 f hf
    exact said_amt (toNat_in hd) hm hc
  constructor
  · intro h
    exact mencode_ok.2 ⟨hd, ⟨hty, hn, hg, fun f hf => (hs f hf).2 (h f hf)⟩, rfl⟩
  · rintro ⟨f, hf, hna⟩
    unfold mencode
    rw [if_pos hd, if_pos hck]
    cases hp : putFs d.toNat (mhead d.toNat ty fs) fs with
    | none => rfl
    | some b => exact absurd ((hs f hf).1 (((putFs_iff fs _ _).1 hp).2 f hf)) hna
theorem body_snoc (d : Nat) (fs : List Fld) (f : Fld) : body d (fs ++ [f]) = body d fs ++ sayPut d f := by
  unfold body
  induction fs with
  | nil => simp
  | cons x l ih => simp [ih]
end Go.Proofs.YticofobhkmabiaaGreatDoor.Fdd
namespace Go.Proofs.YticofobhkmabiaaGreatDoor
open Go.RowKit
open Fdd
set_option linter.unusedVariables false
set_option linter.unusedSimpArgs false
theorem own_of {w : World} {g B : Nat} {l : List UInt8} (h : Blk w g 5 (bcs l).toArray) (hB : B ≤ g) (hm : l.length ≤ maxLen) : Own w B 5 (.slice (some ⟨g, 0, none⟩) l.length l.length) l := by
  refine ⟨by rw [bcs_length, Nat.mul_one], .inr ⟨g, l.length, _, rfl, hB, h, Nat.le_refl _, hm, ?_, ?_⟩⟩
  · rw [List.size_toArray, bcs_length, Nat.mul_one]
  · show List.take _ (bcs l) = _
    rw [List.take_of_length_le (by rw [bcs_length]; omega)]
theorem ver_z {d : Nat} (hd : 1 ≤ d ∧ d ≤ 3) : ver d = [([48, 48, 49, 57] : List UInt8).getD d 0] := by
  have hc : d = 1 ∨ d = 2 ∨ d = 3 := by omega
  rcases hc with rfl | rfl | rfl <;> rfl
theorem build_3u (x y z : Int) (W : World) : (Instr.buildSlice 26 3 #[(0, .int .u8 x), (1, .int .u8 y), (2, .int .u8 z)]).run Tryz.prog W = .ok (.slice (some ⟨W.heap.size, 0, none⟩) 3 3) (W.alloc (.cells #[.int .u8 x, .int .u8 y, .int .u8 z] 5)) := by kernel_rfl
set_option maxRecDepth 20000 in
theorem head_walk {w : World} {d ty : Nat} (hd : 1 ≤ d ∧ d ≤ 3) (ht : ty ≤ 999) :
    Calls Tryz.prog 23 #[.int .i64 (d : Int), .int .i64 (ty : Int)] w fun e w' => e = .returned (strV (ver d ++ dig3 ty)) ∧ Turn nowhere w w' := by
  have HV := Lib.hid (ver_z hd)
  have y1 : d < 4 := by omega
  have HT := Lib.hid ht
  clear hd
  go_enter Tryz.func23, Tryz.ntmps23
  go_upto_region 1 with fail
  refine wp_region_lit ?_
  refine wR (v := strV [48, 48, 49, 57]) rfl (gx_assign rfl rfl) ?_
  simp only [Act.put, zzA, zz0, zz1]
  go_upto_region 2 with fail
  refine wp_region_lit ?_
  refine wR (v := strV [48, 48, 49, 57]) rfl (exec_move rfl rfl) ?_
  simp only [Act.put, zzA, zz0, zz1]
  refine wR (v := .int .i64 (d : Int)) rfl (exec_move rfl rfl) ?_
  simp only [Act.put, zzA, zz0, zz1]
  refine wR (v := .int .u8 ((([48, 48, 49, 57] : List UInt8).getD d 0).toNat : Int)) rfl (exec_sidx (l := [48, 48, 49, 57]) (i := d) rfl rfl rfl y1) ?_
  simp only [Act.put, zzA, zz0, zz1]
  obtain ⟨z, hz⟩ : ∃ z, z = ([48, 48, 49, 57] : List UInt8).getD d 0 := ⟨_, rfl⟩
  rw [← hz] at HV ⊢
  clear hz
  refine wR (v := .slice (some ⟨w.heap.size, 0, none⟩) 1 1) (w' := w.alloc (.cells (bcs [z]).toArray 5)) rfl (exec_one (z := z) rfl rfl) ?_
  simp only [Act.put, zzA, zz0, zz1]
  have hb := Blk.new w 5 (bcs [z]).toArray
  have hu := (Turn.refl nowhere w).alloc (.cells (bcs [z]).toArray 5)
  obtain ⟨g, hg⟩ : ∃ g, g = w.heap.size := ⟨_, rfl⟩
  rw [← hg] at hb ⊢
  have HG := Lib.hid (show w.heap.size ≤ g from by omega)
  clear hg
  generalize w.alloc (.cells (bcs [z]).toArray 5) = w1 at *
  have HB := Lib.hid hb
  have HU := Lib.hid hu
  clear hb hu
  refine wR (v := .slice (some ⟨g, 0, none⟩) 1 1) rfl (gx_assign rfl rfl) ?_
  simp only [Act.put, zzA, zz0, zz1]
  go_upto_region 3 with fail
  refine wp_region_lit ?_
  refine wR (v := .slice (some ⟨g, 0, none⟩) 1 1) rfl (exec_move rfl rfl) ?_
  simp only [Act.put, zzA, zz0, zz1]
  refine wR (v := .int .i64 (ty : Int)) rfl (exec_move rfl rfl) ?_
  simp only [Act.put, zzA, zz0, zz1]
  refine wR (v := .int .i64 ((ty / 100 : Nat) : Int)) rfl (ix_quo (n := ty) (m := 100) rfl rfl rfl (by decide) (by have := HT.out; omega)) ?_
  simp only [Act.put, zzA, zz0, zz1]
  refine wR (v := .int .i64 ((48 + ty / 100 : Nat) : Int)) rfl (ix_add rfl rfl rfl (by omega) (by have := HT.out; omega)) ?_
  simp only [Act.put, zzA, zz0, zz1]
  refine wR (v := .int .u8 (((UInt8.ofNat (48 + ty / 100)).toNat : Nat) : Int)) rfl (ix_i2b (k := 48 + ty / 100) rfl rfl) ?_
  simp only [Act.put, zzA, zz0, zz1]
  refine wR (v := .int .i64 (ty : Int)) rfl (exec_move rfl rfl) ?_
  simp only [Act.put, zzA, zz0, zz1]
  refine wR (v := .int .i64 ((ty / 10 : Nat) : Int)) rfl (ix_quo (n := ty) (m := 10) rfl rfl rfl (by decide) (by have := HT.out; omega)) ?_
  simp only [Act.put, zzA, zz0, zz1]
  refine wR (v := .int .i64 ((ty / 10 % 10 : Nat) : Int)) rfl (ix_rem (n := ty / 10) (m := 10) rfl rfl rfl (by decide) (by have := HT.out; omega)) ?_
  simp only [Act.put, zzA, zz0, zz1]
  refine wR (v := .int .i64 ((48 + ty / 10 % 10 : Nat) : Int)) rfl (ix_add rfl rfl rfl (by omega) (by omega)) ?_
  simp only [Act.put, zzA, zz0, zz1]
  refine wR (v := .int .u8 (((UInt8.ofNat (48 + ty / 10 % 10)).toNat : Nat) : Int)) rfl (ix_i2b (k := 48 + ty / 10 % 10) rfl rfl) ?_
  simp only [Act.put, zzA, zz0, zz1]
  refine wR (v := .int .i64 (ty : Int)) rfl (exec_move rfl rfl) ?_
  simp only [Act.put, zzA, zz0, zz1]
  refine wR (v := .int .i64 ((ty % 10 : Nat) : Int)) rfl (ix_rem (n := ty) (m := 10) rfl rfl rfl (by decide) (by have := HT.out; omega)) ?_
  simp only [Act.put, zzA, zz0, zz1]
  refine wR (v := .int .i64 ((48 + ty % 10 : Nat) : Int)) rfl (ix_add rfl rfl rfl (by omega) (by omega)) ?_
  simp only [Act.put, zzA, zz0, zz1]
  refine wR (v := .int .u8 (((UInt8.ofNat (48 + ty % 10)).toNat : Nat) : Int)) rfl (ix_i2b (k := 48 + ty % 10) rfl rfl) ?_
  simp only [Act.put, zzA, zz0, zz1]
  refine wR (v := .slice (some ⟨w1.heap.size, 0, none⟩) 3 3) (w' := w1.alloc (.cells (bcs (dig3 ty)).toArray 5)) rfl (bx_slice3 rfl rfl rfl rfl (build_3u _ _ _ w1)) ?_
  simp only [Act.put, zzA, zz0, zz1]
  have hu2 := (Turn.refl nowhere w1).alloc (.cells (bcs (dig3 ty)).toArray 5)
  have hs2 := bs_blk (Blk.new w1 5 (bcs (dig3 ty)).toArray) (n := 3) rfl (by unfold maxLen; omega)
  have ho2 := own_still (own_of HB.out HG.out (by unfold maxLen; simp)) hu2
  obtain ⟨g2, hg2⟩ : ∃ g, g = w1.heap.size := ⟨_, rfl⟩
  rw [← hg2] at hs2 ⊢
  clear hg2
  generalize w1.alloc (.cells (bcs (dig3 ty)).toArray 5) = w2 at *
  refine wpList_append_bytes w2 rfl _ _ _ rfl w.heap.size 5 byteInfo Tryz.underlying26 _ [z] rfl ho2 _ 3 3 (dig3 ty) rfl hs2 (fun h => by cases h) (by simp) (Nat.le_trans HU.out.size hu2.size) ?_
  intro v3 w3 ho3 hb3
  obtain ⟨A3, n3, c3, rfl, hs3, _, _⟩ := ho3.form
  simp only [Act.put, zzA, zz0, zz1]
  have HS3 := Lib.hid hs3
  have HT3 := Lib.hid (Turn.of_below (((HU.out.next hu2).below (Nat.le_refl _) (fun _ _ e=>e)).trans hb3) (Nat.le_refl _))
  clear ho2 hs2 ho3 hb3 hs3 hu2
  refine wR (v := strV ([z] ++ dig3 ty)) rfl (exec_strBs (l := [z] ++ dig3 ty) rfl rfl HS3.out) ?_
  simp only [Act.put, zzA, zz0, zz1]
  refine wR (v := strV ([z] ++ dig3 ty)) rfl (gx_assign rfl rfl) ?_
  simp only [Act.put, zzA, zz0, zz1]
  go_wp2_with fail
  go_ret
  rw [HV.out]
  exact ⟨rfl, HT3.out⟩
end Go.Proofs.YticofobhkmabiaaGreatDoor
namespace Go.Proofs.YticofobhkmabiaaGreatDoor
open Go.RowKit
open Fdd
set_option linter.unusedVariables false
set_option linter.unusedSimpArgs false
theorem rpack_take : ∀ (k : Nat) (T : List UInt8), 2 * k + 1 < T.length → rpack (T.take (2 * (k + 1))) = rpack (T.take (2 * k)) ++ [UInt8.ofNat (16 * vOf (T.getD (2 * k) 0) + vOf (T.getD (2 * k + 1) 0))]
  | 0, a :: b :: r, _ => rfl
  | 0, [], h => by simp at h
  | 0, [_], h => by simp at h
  | k + 1, a :: b :: r, h => by
    have ih := rpack_take k r (by simp at h; omega)
    rw [show 2 * (k + 1 + 1) = 2 * (k + 1) + 1 + 1 from by omega, show 2 * (k + 1) = 2 * k + 1 + 1 from by omega]
    simp only [List.take_succ_cons, List.getD_cons_succ]
    rw [show 2 * k + 1 + 1 = 2 * (k + 1) from by omega]
    show UInt8.ofNat _ :: rpack (r.take (2 * (k + 1))) = UInt8.ofNat _ :: rpack (r.take (2 * k)) ++ _
    rw [ih]
    rfl
  | k + 1, [], h => by simp at h
  | k + 1, [_], h => by simp at h
theorem rpack_len : ∀ T : List UInt8, (rpack T).length ≤ T.length
  | [] => Nat.le_refl _
  | [_] => Nat.zero_le _
  | a :: b :: r => by
    have := rpack_len r
    simp only [rpack, List.length_cons]
    omega
set_option maxRecDepth 20000 in
set_option maxHeartbeats 2000000 in
theorem packed_walk (t : List UInt8) (w : World) (hl : t.length ≤ 1000) (ht : onlyOf t hexs = true) :
    Calls Tryz.prog 73 #[strV t] w (Made w (rpack (padded t))) := by
  have hpl := padded_two t
  have HM := Lib.hid (fun x (hx : x ∈ padded t) => padded_in (ch := hexs) (by decide) (only_in ht) x hx)
  have HL := Lib.hid hl
  clear ht
  obtain ⟨B, hB⟩ : ∃ B, B = w.heap.size := ⟨_, rfl⟩
  have HB := Lib.hid hB
  clear hB
  go_enter Tryz.func73, Tryz.ntmps73
  go_upto_region 1 with fail
  refine wp_region_lit ?_
  refine wR (v := strV t) rfl (exec_move rfl rfl) ?_
  simp only [Act.put, zzA, zz0, zz1]
  refine wR (v := .int .i64 (t.length : Int)) (w' := w) rfl (exec_slen rfl rfl) ?_
  simp only [Act.put, zzA, zz0, zz1]
  have hpd : padded t = if t.length % 2 = 1 then 48 :: t else t := rfl
  by_cases hodd : t.length % 2 = 1
  · rw [if_pos hodd] at hpd
    refine wR (v := .int .i64 1) (w' := w) rfl (by go_simp; exact tmod_one hodd) ?_
    simp only [Act.put, zzA, zz0, zz1]
    have HPD := Lib.hid hpd
    have HPL := Lib.hid hpl
    clear hpd hpl hodd hl
    go_upto_region 2 with fail
    refine wp_region_lit ?_
    refine wR (v := strV t) rfl (exec_move rfl rfl) ?_
    simp only [Act.put, zzA, zz0, zz1]
    refine wR (v := strV (padded t)) (w' := w) rfl (by rw [HPD.out]; exact exec_sadd (l := [48]) rfl rfl rfl (by have := HL.out; simp; omega)) ?_
    simp only [Act.put, zzA, zz0, zz1]
    obtain ⟨T, hTT⟩ : ∃ T, T = padded t := ⟨_, rfl⟩
    rw [← hTT] at HPL HM HPD
    rw [← hTT]
    have HTT := Lib.hid hTT
    clear hTT
    obtain ⟨h, hh⟩ : ∃ h, h = (t.length + 1) / 2 := ⟨_, rfl⟩
    have hT : T.length = 2 * h := by have h1 := HPL.out.1; have h2 := HPL.out.2; omega
    have hh1 : h ≤ 1000 := by have := HL.out; omega
    have HT := Lib.hid hT
    have HH1 := Lib.hid hh1
    clear hT hh1 hh HPL HPD
    go_upto_region 3 with fail
    refine wp_region_lit ?_
    refine wR (v := _) rfl (exec_make0 rfl) ?_
    simp only [Act.put, zzA, zz0, zz1]
    refine wR (v := .slice (some ⟨w.heap.size, 0, none⟩) 0 0) rfl (gx_assign rfl rfl) ?_
    simp only [Act.put, zzA, zz0, zz1]
    have hown0 := Own.empty w B 5 (Nat.le_of_eq HB.out)
    have hbel0 : Below B w (w.alloc (.cells #[] 5)) := (Below.refl _ w).alloc (Nat.le_of_eq HB.out) _
    generalize (w.alloc (.cells #[] 5)) = w1 at *
    generalize (some (⟨w.heap.size, 0, none⟩ : Addr)) = A0 at *
    have HO0 := Lib.hid hown0
    have HB0 := Lib.hid hbel0
    clear hown0 hbel0
    go_wp2_with fail
    go_loopg [3, 4] h (fun gk b i wr => ∃ (k : Nat) (A : Option Addr) (m c : Nat), k + gk = h ∧ i = .int .i64 ((2 * k : Nat) : Int) ∧ b = .slice A m c ∧ Own wr B 5 (.slice A m c) (rpack (T.take (2 * k))) ∧ Below B w wr)
    case atStart => exact ⟨0, A0, 0, 0, by omega, rfl, rfl, HO0.out, HB0.out⟩
    case round =>
      obtain ⟨k, A, m, c, hkl, rfl, rfl, hown, hbel⟩ := hrel
      have HKL := Lib.hid hkl
      have HO := Lib.hid hown
      have HE := Lib.hid hbel
      clear hkl hown hbel
      go_upto_region 5 with fail
      refine wp_region_lit ?_
      refine wR (v := .int .i64 ((2 * k : Nat) : Int)) rfl (exec_move rfl rfl) ?_
      simp only [Act.put, zzA, zz0, zz1]
      refine wR (v := strV T) rfl (exec_move rfl rfl) ?_
      simp only [Act.put, zzA, zz0, zz1]
      refine wR (v := .int .i64 ((2 * h : Nat) : Int)) (w' := wr) rfl (by rw [← HT.out]; exact exec_slen rfl rfl) ?_
      simp only [Act.put, zzA, zz0, zz1]
      by_cases hlt : k < h
      · have y1 : ((2 * k : Nat) : Int) < ((2 * h : Nat) : Int) := by omega
        refine wR (v := .bool true) (w' := wr) rfl (exec_lss rfl rfl rfl y1) ?_
        simp only [Act.put, zzA, zz0, zz1]
        have HLT := Lib.hid hlt
        clear hlt y1
        go_upto_region 7 with fail
        have hk0 : 2 * k < T.length := by rw [HT.out]; have := HLT.out; omega
        have hk1 : 2 * k + 1 < T.length := by rw [HT.out]; have := HLT.out; omega
        have hm0 : hexs.contains (T.getD (2 * k) 0) = true := by
          rw [List.getD_eq_getElem?_getD, List.getElem?_eq_getElem hk0, List.contains_iff_mem]
          exact HM.out _ (List.getElem_mem _)
        have hm1 : hexs.contains (T.getD (2 * k + 1) 0) = true := by
          rw [List.getD_eq_getElem?_getD, List.getElem?_eq_getElem hk1, List.contains_iff_mem]
          exact HM.out _ (List.getElem_mem _)
        have hi0 := vOf_lt _ hm0
        have hi1 := vOf_lt _ hm1
        have HV0 := Lib.hid (fun W => valueH_walk _ hm0 W)
        have HV1 := Lib.hid (fun W => valueH_walk _ hm1 W)
        have htk := rpack_take k T hk1
        have HK0 := Lib.hid hk0
        have HK1 := Lib.hid hk1
        generalize vOf (T.getD (2 * k) 0) = i0 at *
        generalize vOf (T.getD (2 * k + 1) 0) = i1 at *
        have hby : ((UInt8.ofNat (16 * i0 + i1)).toNat : Int) = ((16 * i0 + i1 : Nat) : Int) := by rw [UInt8.toNat_ofNat']; omega
        generalize UInt8.ofNat (16 * i0 + i1) = z at *
        have HTK := Lib.hid htk
        have HBY := Lib.hid hby
        have HI := Lib.hid (And.intro hi0 hi1)
        have hw5 : IntKind.i64.wrap (16 * (i0 : Int)) = 16 * (i0 : Int) := by rw [IntKind.wrap_i64]; omega
        have hw11 : IntKind.i64.wrap (16 * (i0 : Int) + (i1 : Int)) = 16 * (i0 : Int) + (i1 : Int) := by rw [IntKind.wrap_i64]; omega
        have hw12 : IntKind.u8.wrap (16 * (i0 : Int) + (i1 : Int)) = (z.toNat : Int) := by rw [wrapu8, hby]; omega
        have HW := Lib.hid (And.intro hw5 (And.intro hw11 hw12))
        clear hk0 hk1 hm0 hm1 htk hby hi0 hi1 hw5 hw11 hw12
        have x64 : (2 * (k : Int) + 1) ≤ 2001 := by have := HLT.out; have := HH1.out; omega
        have hS0 : True := trivial
        refine wp_region_till (fun _ => True) 15 (by kernel_rfl) ?_
        refine till_pure (i := 0) (v := .slice A m c) rfl (by kernel_rfl) (by kernel_rfl) (fun _ _ _ h => h) (.inl ⟨by rfl, fun W hW => exec_move rfl rfl⟩) hS0 ?_
        simp only [Act.put, zzA, zz0, zz1]
        refine till_pure (i := 1) (v := strV T) rfl (by kernel_rfl) (by kernel_rfl) (fun _ _ _ h => h) (.inl ⟨by rfl, fun W hW => exec_move rfl rfl⟩) hS0 ?_
        simp only [Act.put, zzA, zz0, zz1]
        refine till_pure (i := 2) (v := .int .i64 ((2 * k : Nat) : Int)) rfl (by kernel_rfl) (by kernel_rfl) (fun _ _ _ h => h) (.inl ⟨by rfl, fun W hW => exec_move rfl rfl⟩) hS0 ?_
        simp only [Act.put, zzA, zz0, zz1]
        refine till_pure (i := 3) (v := .int .u8 ((T.getD (2 * k) 0).toNat : Int)) rfl (by kernel_rfl) (by kernel_rfl) (fun _ _ _ h => h) (.inl ⟨by rfl, fun W hW => exec_sidx rfl rfl rfl HK0.out⟩) hS0 ?_
        simp only [Act.put, zzA, zz0, zz1]
        refine till_pure (i := 6) (v := strV T) rfl (by kernel_rfl) (by kernel_rfl) (fun _ _ _ h => h) (.inl ⟨by rfl, fun W hW => exec_move rfl rfl⟩) hS0 ?_
        simp only [Act.put, zzA, zz0, zz1]
        refine till_pure (i := 7) (v := .int .i64 ((2 * k : Nat) : Int)) rfl (by kernel_rfl) (by kernel_rfl) (fun _ _ _ h => h) (.inl ⟨by rfl, fun W hW => exec_move rfl rfl⟩) hS0 ?_
        simp only [Act.put, zzA, zz0, zz1]
        refine till_pure (i := 8) (v := .int .i64 ((2 * k + 1 : Nat) : Int)) rfl (by kernel_rfl) (by kernel_rfl) (fun _ _ _ h => h) (.inl ⟨by rfl, fun W hW => by go_simp; rw [IntKind.wrap_i64]; omega⟩) hS0 ?_
        simp only [Act.put, zzA, zz0, zz1]
        refine till_pure (i := 9) (v := .int .u8 ((T.getD (2 * k + 1) 0).toNat : Int)) rfl (by kernel_rfl) (by kernel_rfl) (fun _ _ _ h => h) (.inl ⟨by rfl, fun W hW => exec_sidx rfl rfl rfl HK1.out⟩) hS0 ?_
        simp only [Act.put, zzA, zz0, zz1]
        refine till_step (i := 4) (by kernel_rfl) rfl rfl ?_
        intro K1 HK1x
        go_wp2_with fail
        refine (HV0.out _).mono ?_
        rintro e w5 ⟨rfl, hw⟩
        obtain rfl : wr.drew = w5 := hw.symm
        refine HK1x.out _ _ ⟨fun _ => hS0, ?_⟩
        clear HK1x
        refine till_pure (i := 5) (v := .int .i64 (16 * (i0 : Int))) rfl (by kernel_rfl) (by kernel_rfl) (fun _ _ _ h => h) (.inl ⟨by rfl, fun W hW => by have h := HW.out.1; go_simp⟩) hS0 ?_
        simp only [Act.put, zzA, zz0, zz1]
        refine till_step (i := 10) (by kernel_rfl) rfl rfl ?_
        intro K1 HK1x
        go_wp2_with fail
        refine (HV1.out _).mono ?_
        rintro e w5 ⟨rfl, hw⟩
        obtain rfl : wr.drew = w5 := hw.symm
        refine HK1x.out _ _ ⟨fun _ => hS0, ?_⟩
        clear HK1x
        refine till_pure (i := 11) (v := .int .i64 (16 * (i0 : Int) + (i1 : Int))) rfl (by kernel_rfl) (by kernel_rfl) (fun _ _ _ h => h) (.inl ⟨by rfl, fun W hW => by have h := HW.out.2.1; go_simp⟩) hS0 ?_
        simp only [Act.put, zzA, zz0, zz1]
        refine till_pure (i := 12) (v := .int .u8 (z.toNat : Int)) rfl (by kernel_rfl) (by kernel_rfl) (fun _ _ _ h => h) (.inl ⟨by rfl, fun W hW => by have h := HW.out.2.2; go_simp⟩) hS0 ?_
        simp only [Act.put, zzA, zz0, zz1]
        refine till_only (i := 13) (by kernel_rfl) rfl rfl ?_
        refine wp_run (exec_one (z := z) rfl rfl) ?_
        refine ⟨fun _ => hS0, ?_⟩
        simp only [Act.put, zzA, zz0, zz1]
        refine till_step (i := 14) (by kernel_rfl) rfl rfl ?_
        intro K1 HK1x
        have hone := bs_blk (Blk.new wr.drew 5 (bcs [z]).toArray) (n := 1) rfl (by unfold maxLen; omega)
        have hown1 : Own (wr.drew.alloc (.cells (bcs [z]).toArray 5)) B 5 (.slice A m c) (rpack (T.take (2 * k))) := World.ownsRow.alloc (w := wr.drew) HO.out _
        refine wp_append_bytes _ _ _ _ rfl B 5 byteInfo Tryz.underlying26 _ _ rfl hown1 _ 1 1 [z] rfl hone (fun h => by cases h) (by have h1 := rpack_len (T.take (2 * k)); rw [List.length_take] at h1; have := HT.out; have := HH1.out; omega) (by have := HE.out.size; have := HB.out; simp; omega) ?_
        intro v2 w2 ho2 hb2
        refine HK1x.out _ _ ⟨fun _ => hS0, ?_⟩
        clear HK1x
        simp only [Act.put, zzA, zz0, zz1]
        obtain ⟨A2, m2, c2, rfl, _⟩ := ho2.form
        have HO2 := Lib.hid ho2
        have HB2 := Lib.hid hb2
        clear ho2 hb2 hone hown1
        refine till_tail 15 rfl (by kernel_rfl) ?_
        have b0 : (0 : Int) ≤ (k : Int) := by omega
        have b1 : (k : Int) ≤ 1000 := by have := HLT.out; have := HH1.out; omega
        go_wp2_with fail
        refine NoPanic.normal ?_
        go_wp2_with fail
        go_roundg (gk - 1)
        case measure => have := HKL.out; have := HLT.out; omega
        case rel =>
          refine ⟨k + 1, A2, m2, c2, by have := HKL.out; have := HLT.out; omega, by go_num, rfl, ?_, (HE.out.drew.alloc (by have := HE.out.size; have := HB.out; show B ≤ wr.heap.size; omega) _).trans HB2.out⟩
          rw [HTK.out]
          exact HO2.out
      · have y1 : ¬ (((2 * k : Nat) : Int) < ((2 * h : Nat) : Int)) := by omega
        refine wR (v := .bool false) (w' := wr) rfl (exec_nlss rfl rfl rfl y1) ?_
        simp only [Act.put, zzA, zz0, zz1]
        have hkn : T.take (2 * k) = T := List.take_of_length_le (by have := HKL.out; have := HT.out; omega)
        have ho := HO.out
        rw [hkn] at ho
        have HOO := Lib.hid ho
        have HTW := Lib.hid (below_turn (by have := HE.out; rwa [HB.out] at this))
        clear hlt hkn ho y1
        go_wp2_with fail
        go_ret
        refine ⟨A, m, c, rfl, ?_, HTW.out⟩
        rw [← HB.out, ← HTT.out]
        exact HOO.out
  · rw [if_neg hodd] at hpd
    refine wR (v := .int .i64 0) (w' := w) rfl (by go_simp; exact tmod_nil hodd) ?_
    simp only [Act.put, zzA, zz0, zz1]
    have HPD := Lib.hid hpd
    have HPL := Lib.hid hpl
    clear hpd hpl hodd hl
    obtain ⟨T, hTT⟩ : ∃ T, T = padded t := ⟨_, rfl⟩
    rw [← hTT] at HPL HM HPD
    have hTt : T = t := HPD.out
    have HTT := Lib.hid hTT
    clear hTT
    obtain ⟨h, hh⟩ : ∃ h, h = (t.length + 1) / 2 := ⟨_, rfl⟩
    have hT : T.length = 2 * h := by have h1 := HPL.out.1; have h2 := HPL.out.2; omega
    have hh1 : h ≤ 1000 := by have := HL.out; omega
    have HT := Lib.hid hT
    have HH1 := Lib.hid hh1
    clear hT hh1 hh HPL HPD
    rw [← hTt]
    have HTx := Lib.hid hTt
    clear hTt
    go_upto_region 3 with fail
    refine wp_region_lit ?_
    refine wR (v := _) rfl (exec_make0 rfl) ?_
    simp only [Act.put, zzA, zz0, zz1]
    refine wR (v := .slice (some ⟨w.heap.size, 0, none⟩) 0 0) rfl (gx_assign rfl rfl) ?_
    simp only [Act.put, zzA, zz0, zz1]
    have hown0 := Own.empty w B 5 (Nat.le_of_eq HB.out)
    have hbel0 : Below B w (w.alloc (.cells #[] 5)) := (Below.refl _ w).alloc (Nat.le_of_eq HB.out) _
    generalize (w.alloc (.cells #[] 5)) = w1 at *
    generalize (some (⟨w.heap.size, 0, none⟩ : Addr)) = A0 at *
    have HO0 := Lib.hid hown0
    have HB0 := Lib.hid hbel0
    clear hown0 hbel0
    go_wp2_with fail
    go_loopg [3, 4] h (fun gk b i wr => ∃ (k : Nat) (A : Option Addr) (m c : Nat), k + gk = h ∧ i = .int .i64 ((2 * k : Nat) : Int) ∧ b = .slice A m c ∧ Own wr B 5 (.slice A m c) (rpack (T.take (2 * k))) ∧ Below B w wr)
    case atStart => exact ⟨0, A0, 0, 0, by omega, rfl, rfl, HO0.out, HB0.out⟩
    case round =>
      obtain ⟨k, A, m, c, hkl, rfl, rfl, hown, hbel⟩ := hrel
      have HKL := Lib.hid hkl
      have HO := Lib.hid hown
      have HE := Lib.hid hbel
      clear hkl hown hbel
      go_upto_region 5 with fail
      refine wp_region_lit ?_
      refine wR (v := .int .i64 ((2 * k : Nat) : Int)) rfl (exec_move rfl rfl) ?_
      simp only [Act.put, zzA, zz0, zz1]
      refine wR (v := strV T) rfl (exec_move rfl rfl) ?_
      simp only [Act.put, zzA, zz0, zz1]
      refine wR (v := .int .i64 ((2 * h : Nat) : Int)) (w' := wr) rfl (by rw [← HT.out]; exact exec_slen rfl rfl) ?_
      simp only [Act.put, zzA, zz0, zz1]
      by_cases hlt : k < h
      · have y1 : ((2 * k : Nat) : Int) < ((2 * h : Nat) : Int) := by omega
        refine wR (v := .bool true) (w' := wr) rfl (exec_lss rfl rfl rfl y1) ?_
        simp only [Act.put, zzA, zz0, zz1]
        have HLT := Lib.hid hlt
        clear hlt y1
        go_upto_region 7 with fail
        have hk0 : 2 * k < T.length := by rw [HT.out]; have := HLT.out; omega
        have hk1 : 2 * k + 1 < T.length := by rw [HT.out]; have := HLT.out; omega
        have hm0 : hexs.contains (T.getD (2 * k) 0) = true := by
          rw [List.getD_eq_getElem?_getD, List.getElem?_eq_getElem hk0, List.contains_iff_mem]
          exact HM.out _ (List.getElem_mem _)
        have hm1 : hexs.contains (T.getD (2 * k + 1) 0) = true := by
          rw [List.getD_eq_getElem?_getD, List.getElem?_eq_getElem hk1, List.contains_iff_mem]
          exact HM.out _ (List.getElem_mem _)
        have hi0 := vOf_lt _ hm0
        have hi1 := vOf_lt _ hm1
        have HV0 := Lib.hid (fun W => valueH_walk _ hm0 W)
        have HV1 := Lib.hid (fun W => valueH_walk _ hm1 W)
        have htk := rpack_take k T hk1
        have HK0 := Lib.hid hk0
        have HK1 := Lib.hid hk1
        generalize vOf (T.getD (2 * k) 0) = i0 at *
        generalize vOf (T.getD (2 * k + 1) 0) = i1 at *
        have hby : ((UInt8.ofNat (16 * i0 + i1)).toNat : Int) = ((16 * i0 + i1 : Nat) : Int) := by rw [UInt8.toNat_ofNat']; omega
        generalize UInt8.ofNat (16 * i0 + i1) = z at *
        have HTK := Lib.hid htk
        have HBY := Lib.hid hby
        have HI := Lib.hid (And.intro hi0 hi1)
        have hw5 : IntKind.i64.wrap (16 * (i0 : Int)) = 16 * (i0 : Int) := by rw [IntKind.wrap_i64]; omega
        have hw11 : IntKind.i64.wrap (16 * (i0 : Int) + (i1 : Int)) = 16 * (i0 : Int) + (i1 : Int) := by rw [IntKind.wrap_i64]; omega
        have hw12 : IntKind.u8.wrap (16 * (i0 : Int) + (i1 : Int)) = (z.toNat : Int) := by rw [wrapu8, hby]; omega
        have HW := Lib.hid (And.intro hw5 (And.intro hw11 hw12))
        clear hk0 hk1 hm0 hm1 htk hby hi0 hi1 hw5 hw11 hw12
        have x64 : (2 * (k : Int) + 1) ≤ 2001 := by have := HLT.out; have := HH1.out; omega
        have hS0 : True := trivial
        refine wp_region_till (fun _ => True) 15 (by kernel_rfl) ?_
        refine till_pure (i := 0) (v := .slice A m c) rfl (by kernel_rfl) (by kernel_rfl) (fun _ _ _ h => h) (.inl ⟨by rfl, fun W hW => exec_move rfl rfl⟩) hS0 ?_
        simp only [Act.put, zzA, zz0, zz1]
        refine till_pure (i := 1) (v := strV T) rfl (by kernel_rfl) (by kernel_rfl) (fun _ _ _ h => h) (.inl ⟨by rfl, fun W hW => exec_move rfl rfl⟩) hS0 ?_
        simp only [Act.put, zzA, zz0, zz1]
        refine till_pure (i := 2) (v := .int .i64 ((2 * k : Nat) : Int)) rfl (by kernel_rfl) (by kernel_rfl) (fun _ _ _ h => h) (.inl ⟨by rfl, fun W hW => exec_move rfl rfl⟩) hS0 ?_
        simp only [Act.put, zzA, zz0, zz1]
        refine till_pure (i := 3) (v := .int .u8 ((T.getD (2 * k) 0).toNat : Int)) rfl (by kernel_rfl) (by kernel_rfl) (fun _ _ _ h => h) (.inl ⟨by rfl, fun W hW => exec_sidx rfl rfl rfl HK0.out⟩) hS0 ?_
        simp only [Act.put, zzA, zz0, zz1]
        refine till_pure (i := 6) (v := strV T) rfl (by kernel_rfl) (by kernel_rfl) (fun _ _ _ h => h) (.inl ⟨by rfl, fun W hW => exec_move rfl rfl⟩) hS0 ?_
        simp only [Act.put, zzA, zz0, zz1]
        refine till_pure (i := 7) (v := .int .i64 ((2 * k : Nat) : Int)) rfl (by kernel_rfl) (by kernel_rfl) (fun _ _ _ h => h) (.inl ⟨by rfl, fun W hW => exec_move rfl rfl⟩) hS0 ?_
        simp only [Act.put, zzA, zz0, zz1]
        refine till_pure (i := 8) (v := .int .i64 ((2 * k + 1 : Nat) : Int)) rfl (by kernel_rfl) (by kernel_rfl) (fun _ _ _ h => h) (.inl ⟨by rfl, fun W hW => by go_simp; rw [IntKind.wrap_i64]; omega⟩) hS0 ?_
        simp only [Act.put, zzA, zz0, zz1]
        refine till_pure (i := 9) (v := .int .u8 ((T.getD (2 * k + 1) 0).toNat : Int)) rfl (by kernel_rfl) (by kernel_rfl) (fun _ _ _ h => h) (.inl ⟨by rfl, fun W hW => exec_sidx rfl rfl rfl HK1.out⟩) hS0 ?_
        simp only [Act.put, zzA, zz0, zz1]
        refine till_step (i := 4) (by kernel_rfl) rfl rfl ?_
        intro K1 HK1x
        go_wp2_with fail
        refine (HV0.out _).mono ?_
        rintro e w5 ⟨rfl, hw⟩
        obtain rfl : wr.drew = w5 := hw.symm
        refine HK1x.out _ _ ⟨fun _ => hS0, ?_⟩
        clear HK1x
        refine till_pure (i := 5) (v := .int .i64 (16 * (i0 : Int))) rfl (by kernel_rfl) (by kernel_rfl) (fun _ _ _ h => h) (.inl ⟨by rfl, fun W hW => by have h := HW.out.1; go_simp⟩) hS0 ?_
        simp only [Act.put, zzA, zz0, zz1]
        refine till_step (i := 10) (by kernel_rfl) rfl rfl ?_
        intro K1 HK1x
        go_wp2_with fail
        refine (HV1.out _).mono ?_
        rintro e w5 ⟨rfl, hw⟩
        obtain rfl : wr.drew = w5 := hw.symm
        refine HK1x.out _ _ ⟨fun _ => hS0, ?_⟩
        clear HK1x
        refine till_pure (i := 11) (v := .int .i64 (16 * (i0 : Int) + (i1 : Int))) rfl (by kernel_rfl) (by kernel_rfl) (fun _ _ _ h => h) (.inl ⟨by rfl, fun W hW => by have h := HW.out.2.1; go_simp⟩) hS0 ?_
        simp only [Act.put, zzA, zz0, zz1]
        refine till_pure (i := 12) (v := .int .u8 (z.toNat : Int)) rfl (by kernel_rfl) (by kernel_rfl) (fun _ _ _ h => h) (.inl ⟨by rfl, fun W hW => by have h := HW.out.2.2; go_simp⟩) hS0 ?_
        simp only [Act.put, zzA, zz0, zz1]
        refine till_only (i := 13) (by kernel_rfl) rfl rfl ?_
        refine wp_run (exec_one (z := z) rfl rfl) ?_
        refine ⟨fun _ => hS0, ?_⟩
        simp only [Act.put, zzA, zz0, zz1]
        refine till_step (i := 14) (by kernel_rfl) rfl rfl ?_
        intro K1 HK1x
        have hone := bs_blk (Blk.new wr.drew 5 (bcs [z]).toArray) (n := 1) rfl (by unfold maxLen; omega)
        have hown1 : Own (wr.drew.alloc (.cells (bcs [z]).toArray 5)) B 5 (.slice A m c) (rpack (T.take (2 * k))) := World.ownsRow.alloc (w := wr.drew) HO.out _
        refine wp_append_bytes _ _ _ _ rfl B 5 byteInfo Tryz.underlying26 _ _ rfl hown1 _ 1 1 [z] rfl hone (fun h => by cases h) (by have h1 := rpack_len (T.take (2 * k)); rw [List.length_take] at h1; have := HT.out; have := HH1.out; omega) (by have := HE.out.size; have := HB.out; simp; omega) ?_
        intro v2 w2 ho2 hb2
        refine HK1x.out _ _ ⟨fun _ => hS0, ?_⟩
        clear HK1x
        simp only [Act.put, zzA, zz0, zz1]
        obtain ⟨A2, m2, c2, rfl, _⟩ := ho2.form
        have HO2 := Lib.hid ho2
        have HB2 := Lib.hid hb2
        clear ho2 hb2 hone hown1
        refine till_tail 15 rfl (by kernel_rfl) ?_
        have b0 : (0 : Int) ≤ (k : Int) := by omega
        have b1 : (k : Int) ≤ 1000 := by have := HLT.out; have := HH1.out; omega
        go_wp2_with fail
        refine NoPanic.normal ?_
        go_wp2_with fail
        go_roundg (gk - 1)
        case measure => have := HKL.out; have := HLT.out; omega
        case rel =>
          refine ⟨k + 1, A2, m2, c2, by have := HKL.out; have := HLT.out; omega, by go_num, rfl, ?_, (HE.out.drew.alloc (by have := HE.out.size; have := HB.out; show B ≤ wr.heap.size; omega) _).trans HB2.out⟩
          rw [HTK.out]
          exact HO2.out
      · have y1 : ¬ (((2 * k : Nat) : Int) < ((2 * h : Nat) : Int)) := by omega
        refine wR (v := .bool false) (w' := wr) rfl (exec_nlss rfl rfl rfl y1) ?_
        simp only [Act.put, zzA, zz0, zz1]
        have hkn : T.take (2 * k) = T := List.take_of_length_le (by have := HKL.out; have := HT.out; omega)
        have ho := HO.out
        rw [hkn] at ho
        have HOO := Lib.hid ho
        have HTW := Lib.hid (below_turn (by have := HE.out; rwa [HB.out] at this))
        clear hlt hkn ho y1
        go_wp2_with fail
        go_ret
        refine ⟨A, m, c, rfl, ?_, HTW.out⟩
        rw [← HB.out, ← HTT.out]
        exact HOO.out
end Go.Proofs.YticofobhkmabiaaGreatDoor
namespace Go.Proofs.YticofobhkmabiaaGreatDoor
open Go.RowKit
open Fdd
set_option linter.unusedVariables false
set_option linter.unusedSimpArgs false
theorem two_made (a b : Int) (W : World) : (Instr.buildSlice 26 2 #[(0, .int .u8 a), (1, .int .u8 b)]).run Tryz.prog W = .ok (.slice (some ⟨W.heap.size, 0, none⟩) 2 2) (W.alloc (.cells #[.int .u8 a, .int .u8 b] 5)) := by kernel_rfl
theorem exec_two {a : Act} {o : Oper} {W : World} {x y : Operand} {u v : UInt8} (ho : o.op = .buildSlice 26 2 #[(0, x), (1, y)]) (hx : a.eval x = .int .u8 (u.toNat : Int)) (hy : a.eval y = .int .u8 (v.toNat : Int)) :
    (execOp a.eval o).run Tryz.prog W = .ok (.value (.slice (some ⟨W.heap.size, 0, none⟩) 2 2)) (W.alloc (.cells (bcs [u, v]).toArray 5)) := by
  unfold execOp
  simp only [ho, List.map_toArray, List.map_cons, List.map_nil, hx, hy, two_made, Sem.run_bind, Sem.run_pure, Result.andThen_ok]
  rfl
set_option maxHeartbeats 1000000 in
theorem r2_walk (n : Nat) (w : World) (hn : n ≤ 99) : Calls Tryz.prog 71 #[.int .i64 (n : Int)] w fun e w' => e = .returned (strV (two n)) ∧ Turn nowhere w w' := by
  obtain ⟨u, hu⟩ : ∃ u, u = UInt8.ofNat (48 + n / 10) := ⟨_, rfl⟩
  obtain ⟨v, hv⟩ : ∃ v, v = UInt8.ofNat (48 + n % 10) := ⟨_, rfl⟩
  have hun : (u.toNat : Int) = 48 + ((n / 10 : Nat) : Int) := by rw [hu, UInt8.toNat_ofNat']; omega
  have hvn : (v.toNat : Int) = 48 + ((n % 10 : Nat) : Int) := by rw [hv, UInt8.toNat_ofNat']; omega
  have htw : two n = [u, v] := by rw [hu, hv]; rfl
  rw [htw]
  have hq : (n : Int).tdiv 10 = ((n / 10 : Nat) : Int) := rfl
  have hr : (n : Int).tmod 10 = ((n % 10 : Nat) : Int) := rfl
  have hd1 : n / 10 ≤ 9 := by omega
  have hd2 : n % 10 ≤ 9 := by omega
  have hw1 : IntKind.i64.wrap (48 + ((n / 10 : Nat) : Int)) = (u.toNat : Int) := by rw [IntKind.wrap_i64, hun]; omega
  have hw2 : IntKind.i64.wrap (48 + ((n % 10 : Nat) : Int)) = (v.toNat : Int) := by rw [IntKind.wrap_i64, hvn]; omega
  have hw3 : IntKind.u8.wrap (u.toNat : Int) = (u.toNat : Int) := by rw [wrapu8]; have := u.toNat_lt; omega
  have hw4 : IntKind.u8.wrap (v.toNat : Int) = (v.toNat : Int) := by rw [wrapu8]; have := v.toNat_lt; omega
  have hw5 : IntKind.i64.wrap ((n / 10 : Nat) : Int) = ((n / 10 : Nat) : Int) := by rw [IntKind.wrap_i64]; omega
  have H := Lib.hid (And.intro hq (And.intro hr (And.intro hw1 (And.intro hw2 (And.intro hw3 hw4)))))
  have H5 := Lib.hid hw5
  clear hu hv hun hvn htw hq hr hd1 hd2 hw1 hw2 hw3 hw4 hw5 hn
  generalize hn10 : ((n / 10 : Nat) : Int) = q at *
  generalize hm10 : ((n % 10 : Nat) : Int) = r at *
  clear hn10 hm10
  go_enter Tryz.func71, Tryz.ntmps71
  go_upto_region 1 with fail
  refine wp_region_lit ?_
  refine wR (v := .int .i64 (n : Int)) rfl (exec_move rfl rfl) ?_
  simp only [Act.put, zzA, zz0, zz1]
  refine wR (v := .int .i64 q) (w' := w) rfl (by have h := H.out.1; have h5 := H5.out; go_simp) ?_
  simp only [Act.put, zzA, zz0, zz1]
  refine wR (v := .int .i64 (u.toNat : Int)) (w' := w) rfl (by have h := H.out.2.2.1; go_simp) ?_
  simp only [Act.put, zzA, zz0, zz1]
  refine wR (v := .int .u8 (u.toNat : Int)) (w' := w) rfl (by have h := H.out.2.2.2.2.1; go_simp) ?_
  simp only [Act.put, zzA, zz0, zz1]
  refine wR (v := .int .i64 (n : Int)) rfl (exec_move rfl rfl) ?_
  simp only [Act.put, zzA, zz0, zz1]
  refine wR (v := .int .i64 r) (w' := w) rfl (by have h := H.out.2.1; go_simp) ?_
  simp only [Act.put, zzA, zz0, zz1]
  refine wR (v := .int .i64 (v.toNat : Int)) (w' := w) rfl (by have h := H.out.2.2.2.1; go_simp) ?_
  simp only [Act.put, zzA, zz0, zz1]
  refine wR (v := .int .u8 (v.toNat : Int)) (w' := w) rfl (by have h := H.out.2.2.2.2.2; go_simp) ?_
  simp only [Act.put, zzA, zz0, zz1]
  refine wR (v := _) rfl (exec_two (u := u) (v := v) rfl rfl rfl) ?_
  simp only [Act.put, zzA, zz0, zz1]
  have hb := Blk.new w 5 (bcs [u, v]).toArray
  have ht : Turn nowhere w (w.alloc (.cells (bcs [u, v]).toArray 5)) := (Turn.refl nowhere w).alloc _
  generalize w.alloc (.cells (bcs [u, v]).toArray 5) = w1 at *
  have HB := Lib.hid (bs_blk hb (n := 2) rfl (by unfold maxLen; omega))
  have HT := Lib.hid ht
  clear hb ht
  refine wR (v := strV [u, v]) (w' := w1) rfl (exec_strBs rfl rfl HB.out) ?_
  simp only [Act.put, zzA, zz0, zz1]
  go_wp2_with fail
  go_ret
  exact ⟨rfl, HT.out⟩
theorem rdig_walk (code : Int) (t : List UInt8) (w : World) (hl : t.length ≤ 1000) (ht : onlyOf t dec = true) :
    Calls Tryz.prog 70 #[.int .i64 code, strV t] w (Made w (rdigits code t)) := by
  have hp := packed_walk t w hl (onlyOf_of fun c hc => dec_hex c (only_in ht c hc))
  have hs := signs_walk code t w hl
  by_cases h : code = 2
  · have e : rdigits code t = rpack (padded t) := by unfold rdigits; rw [if_pos h]
    rw [e]
    subst h
    have HP := Lib.hid hp
    clear hp hs e ht hl
    generalize rpack (padded t) = l at *
    go_enter Tryz.func70, Tryz.ntmps70
    go_wp2_with (go_at_call 73; refine HP.out.mono ?_; rintro e w1 ⟨A, n, c, rfl, ho, ht⟩; have HO := Lib.hid ho; have HT := Lib.hid ht; clear ho ht)
    go_ret
    exact ⟨A, n, c, rfl, HO.out, HT.out⟩
  · have e : rdigits code t = rsigns code t := by unfold rdigits; rw [if_neg h]
    rw [e]
    have h2 : (code == 2) = false := by simpa using h
    have HP := Lib.hid hs
    clear hp hs e ht hl h
    generalize rsigns code t = l at *
    go_enter Tryz.func70, Tryz.ntmps70
    go_wp2_with (go_at_call 72; refine HP.out.mono ?_; rintro e w1 ⟨A, n, c, rfl, ho, ht⟩; have HO := Lib.hid ho; have HT := Lib.hid ht; clear ho ht)
    go_ret
    exact ⟨A, n, c, rfl, HO.out, HT.out⟩
/-- what a call made behind a turn that made nothing of it -/
theorem Made.of {w w1 w' : World} {l : List UInt8} {e : Ending} (h : Made w1 l e w') (ht : Turn nowhere w w1) : Made w l e w' := by
  obtain ⟨A, n, c, he, ho, h2⟩ := h
  refine ⟨A, n, c, he, ⟨ho.1, ?_⟩, ht.trans h2 fun _ _ e => e⟩
  rcases ho.2 with hn | ⟨g, cap, cur, hv, hg, hr⟩
  · exact .inl hn
  · exact .inr ⟨g, cap, cur, hv, Nat.le_trans ht.size hg, hr⟩
theorem own_lower {w : World} {B B' : Nat} {e : TypeId} {v : Value} {l : List UInt8} (h : Own w B e v l) (hb : B' ≤ B) : Own w B' e v l := by
  refine ⟨h.1, ?_⟩
  rcases h.2 with hn | ⟨g, cap, cur, hv, hg, hr⟩
  · exact .inl hn
  · exact .inr ⟨g, cap, cur, hv, Nat.le_trans hb hg, hr⟩
set_option maxHeartbeats 1000000 in
theorem bytes1_walk (s : Nat) (code : Int) (t : List UInt8) (w : World) (hl : t.length ≤ 1000) (ht : onlyOf t dec = true) :
    Calls Tryz.prog 44 #[fmV ⟨1, (s : Int), code⟩, strV t] w (Made w (rdigits code t)) := by
  have HC := Lib.hid (fun W => rdig_walk code t W hl ht)
  clear hl ht
  unfold fmV
  obtain ⟨b2, hb2⟩ : ∃ b2, b2 = w.heap.size := ⟨_, rfl⟩
  have HB2 := Lib.hid hb2
  go_enter Tryz.func44, Tryz.ntmps44
  go_upto_region 1 with fail
  have hb0 := Blk.new w 49 #[.int .i64 1, .int .i64 (s : Int), .int .i64 code]
  have ht0 := (Turn.refl nowhere w).alloc (.cells #[.int .i64 1, .int .i64 (s : Int), .int .i64 code] 49)
  generalize (w.alloc (.cells #[.int .i64 1, .int .i64 (s : Int), .int .i64 code] 49)) = w1 at *
  rw [← hb2] at hb0 ⊢
  have HBK := Lib.hid hb0
  have HT0 := Lib.hid ht0
  have c0 : w1.cell? ⟨b2, 0, none⟩ = some (.int .i64 1) := hb0.cell 0
  have c2 : w1.cell? ⟨b2, 2, none⟩ = some (.int .i64 code) := hb0.cell 2
  clear hb0 ht0 hb2
  go_wp2_with (go_at_call 70; refine (HC.out _).mono ?_; rintro e w2 hm; obtain ⟨A, n, c, rfl, ho, ht⟩ := hm.of HT0.out; have HO := Lib.hid ho; have HT := Lib.hid ht; clear ho ht hm)
  go_ret
  exact ⟨A, n, c, rfl, HO.out, HT.out⟩
set_option maxHeartbeats 1000000 in
theorem bytes3_walk (s : Nat) (code : Int) (t : List UInt8) (w : World) (hl : t.length ≤ 1000) :
    Calls Tryz.prog 44 #[fmV ⟨3, (s : Int), code⟩, strV t] w (Made w (rsigns code t)) := by
  have HC := Lib.hid (fun W => signs_walk code t W hl)
  clear hl
  unfold fmV
  obtain ⟨b2, hb2⟩ : ∃ b2, b2 = w.heap.size := ⟨_, rfl⟩
  have HB2 := Lib.hid hb2
  go_enter Tryz.func44, Tryz.ntmps44
  go_upto_region 1 with fail
  have hb0 := Blk.new w 49 #[.int .i64 3, .int .i64 (s : Int), .int .i64 code]
  have ht0 := (Turn.refl nowhere w).alloc (.cells #[.int .i64 3, .int .i64 (s : Int), .int .i64 code] 49)
  generalize (w.alloc (.cells #[.int .i64 3, .int .i64 (s : Int), .int .i64 code] 49)) = w1 at *
  rw [← hb2] at hb0 ⊢
  have HBK := Lib.hid hb0
  have HT0 := Lib.hid ht0
  have c0 : w1.cell? ⟨b2, 0, none⟩ = some (.int .i64 3) := hb0.cell 0
  have c2 : w1.cell? ⟨b2, 2, none⟩ = some (.int .i64 code) := hb0.cell 2
  clear hb0 ht0 hb2
  go_wp2_with (go_at_call 72; refine (HC.out _).mono ?_; rintro e w2 hm; obtain ⟨A, n, c, rfl, ho, ht⟩ := hm.of HT0.out; have HO := Lib.hid ho; have HT := Lib.hid ht; clear ho ht hm)
  go_ret
  exact ⟨A, n, c, rfl, HO.out, HT.out⟩
set_option maxHeartbeats 1000000 in
theorem bytes4p_walk (s : Nat) (code : Int) (t : List UInt8) (w : World) (hl : t.length ≤ 1000) (ht : onlyOf t hexs = true) (hc : code ≠ 1) :
    Calls Tryz.prog 44 #[fmV ⟨4, (s : Int), code⟩, strV t] w (Made w (rpack (padded t))) := by
  have HC := Lib.hid (fun W => packed_walk t W hl ht)
  have h1 : (code == 1) = false := by simpa using hc
  have h2 : (code != 1) = true := by simpa using hc
  clear hl ht hc
  unfold fmV
  obtain ⟨b2, hb2⟩ : ∃ b2, b2 = w.heap.size := ⟨_, rfl⟩
  have HB2 := Lib.hid hb2
  go_enter Tryz.func44, Tryz.ntmps44
  go_upto_region 1 with fail
  have hb0 := Blk.new w 49 #[.int .i64 4, .int .i64 (s : Int), .int .i64 code]
  have ht0 := (Turn.refl nowhere w).alloc (.cells #[.int .i64 4, .int .i64 (s : Int), .int .i64 code] 49)
  generalize (w.alloc (.cells #[.int .i64 4, .int .i64 (s : Int), .int .i64 code] 49)) = w1 at *
  rw [← hb2] at hb0 ⊢
  have HBK := Lib.hid hb0
  have HT0 := Lib.hid ht0
  have c0 : w1.cell? ⟨b2, 0, none⟩ = some (.int .i64 4) := hb0.cell 0
  have c2 : w1.cell? ⟨b2, 2, none⟩ = some (.int .i64 code) := hb0.cell 2
  clear hb0 ht0 hb2
  go_wp2_with (go_at_call 73; refine (HC.out _).mono ?_; rintro e w2 hm; obtain ⟨A, n, c, rfl, ho, ht⟩ := hm.of HT0.out; have HO := Lib.hid ho; have HT := Lib.hid ht; clear ho ht hm)
  go_ret
  exact ⟨A, n, c, rfl, HO.out, HT.out⟩
end Go.Proofs.YticofobhkmabiaaGreatDoor
namespace Go.Proofs.YticofobhkmabiaaGreatDoor
open Go.RowKit
open Fdd
set_option linter.unusedVariables false
set_option linter.unusedSimpArgs false
def FoS (b2 : Nat) (x y z : Int) (W : World) : Prop := Blk W b2 49 #[.int .i64 x, .int .i64 y, .int .i64 z]
theorem FoS.turn {b2 : Nat} {x y z : Int} {W W' : World} (h : FoS b2 x y z W) (ht : Turn nowhere W W') : FoS b2 x y z W' := Blk.turn (F := nowhere) h ht fun e => e
theorem rdigits_len (code : Int) (t : List UInt8) : (rdigits code t).length ≤ t.length + 1 := by
  unfold rdigits
  split
  · have h1 := rpack_len (padded t)
    have h2 := (padded_two t).2
    unfold padded at h1 ⊢
    split at h1
    · rename_i h
      rw [if_pos h]
      simpa using h1
    · rename_i h
      rw [if_neg h]
      omega
  · unfold rsigns
    split
    · simp
    · omega
theorem rsigns_len (code : Int) (t : List UInt8) : (rsigns code t).length = t.length := by
  unfold rsigns
  split
  · simp
  · rfl
theorem exec_sto1 {W : World} {a : Act} {o : Oper} {x : Operand} {l : List UInt8} (ho : o.op = .slice 9 x none (some (.const (.int .i64 1))) none) (hx : a.eval x = strV l) (hn : 1 ≤ l.length) : (execOp a.eval o).run Tryz.prog W = .ok (.value (strV (l.take 1))) W :=
  exec_sto (n := 1) ho hx rfl hn
theorem exec_sfrom1 {W : World} {a : Act} {o : Oper} {x : Operand} {l : List UInt8} (ho : o.op = .slice 9 x (some (.const (.int .i64 1))) none none) (hx : a.eval x = strV l) (hn : 1 ≤ l.length) : (execOp a.eval o).run Tryz.prog W = .ok (.value (strV (l.drop 1))) W :=
  exec_sfrom (n := 1) ho hx rfl hn
set_option maxHeartbeats 2000000 in
set_option maxRecDepth 20000 in
theorem bytes2_walk (s : Nat) (code : Int) (t : List UInt8) (w : World) (hl : t.length ≤ 99) (ht : onlyOf t dec = true) :
    Calls Tryz.prog 44 #[fmV ⟨2, (s : Int), code⟩, strV t] w (Made w (rdigits code (two t.length) ++ rdigits code t)) := by
  have HC0 := Lib.hid (fun W => r2_walk t.length W hl)
  have HC1 := Lib.hid (fun W => rdig_walk code (two t.length) W (by rw [two_len]; omega) (two_ok hl).2)
  have HC2 := Lib.hid (fun W => rdig_walk code t W (by omega) ht)
  have h1 := rdigits_len code (two t.length)
  have h2 := rdigits_len code t
  rw [two_len] at h1
  have HLS := Lib.hid (show (rdigits code (two t.length)).length + (rdigits code t).length ≤ 1000 by omega)
  clear hl ht h1 h2
  generalize rdigits code (two t.length) = l1 at *
  generalize rdigits code t = l2 at *
  unfold fmV
  obtain ⟨b2, hb2⟩ : ∃ b2, b2 = w.heap.size := ⟨_, rfl⟩
  have HB2 := Lib.hid hb2
  go_enter Tryz.func44, Tryz.ntmps44
  go_upto_region 1 with fail
  have hb0 := Blk.new w 49 #[.int .i64 2, .int .i64 (s : Int), .int .i64 code]
  have ht0 := (Turn.refl nowhere w).alloc (.cells #[.int .i64 2, .int .i64 (s : Int), .int .i64 code] 49)
  generalize (w.alloc (.cells #[.int .i64 2, .int .i64 (s : Int), .int .i64 code] 49)) = w1 at *
  rw [← hb2] at hb0 ⊢
  have HBK := Lib.hid hb0
  have HT0 := Lib.hid ht0
  have c0 : w1.cell? ⟨b2, 0, none⟩ = some (.int .i64 2) := hb0.cell 0
  have c2 : w1.cell? ⟨b2, 2, none⟩ = some (.int .i64 code) := hb0.cell 2
  clear hb0 ht0 hb2
  go_upto_region 5 with fail
  have hS0 : FoS b2 2 (s : Int) code w1.drew := HBK.out
  refine wp_region_till (FoS b2 2 (s : Int) code) 11 (by kernel_rfl) ?_
  refine till_pure (i := 0) (v := .pointer (some ⟨b2, 2, none⟩)) rfl (by kernel_rfl) (by kernel_rfl) (fun _ _ _ h => h) (.inl ⟨by rfl, fun W hW => exec_field (off := 0) (d := 2) rfl rfl (by kernel_rfl)⟩) hS0 ?_
  simp only [Act.put, zzA, zz0, zz1]
  refine till_take (i := 1) (v := .int .i64 code) rfl (by kernel_rfl) (by kernel_rfl) (fun _ _ _ h => h) (.inl ⟨by rfl, fun W hW => exec_load1 rfl rfl (by kernel_rfl) (hW.cell 2)⟩) hS0 ?_
  simp only [Act.put, zzA, zz0, zz1]
  refine till_pure (i := 2) (v := strV t) rfl (by kernel_rfl) (by kernel_rfl) (fun _ _ _ h => h) (.inl ⟨by rfl, fun W hW => exec_move rfl rfl⟩) hS0 ?_
  simp only [Act.put, zzA, zz0, zz1]
  refine till_pure (i := 3) (v := .int .i64 (t.length : Int)) rfl (by kernel_rfl) (by kernel_rfl) (fun _ _ _ h => h) (.inl ⟨by rfl, fun W hW => exec_slen rfl rfl⟩) hS0 ?_
  simp only [Act.put, zzA, zz0, zz1]
  refine till_pure (i := 6) (v := .pointer (some ⟨b2, 2, none⟩)) rfl (by kernel_rfl) (by kernel_rfl) (fun _ _ _ h => h) (.inl ⟨by rfl, fun W hW => exec_field (off := 0) (d := 2) rfl rfl (by kernel_rfl)⟩) hS0 ?_
  simp only [Act.put, zzA, zz0, zz1]
  refine till_take (i := 7) (v := .int .i64 code) rfl (by kernel_rfl) (by kernel_rfl) (fun _ _ _ h => h) (.inl ⟨by rfl, fun W hW => exec_load1 rfl rfl (by kernel_rfl) (hW.cell 2)⟩) hS0 ?_
  simp only [Act.put, zzA, zz0, zz1]
  refine till_pure (i := 8) (v := strV t) rfl (by kernel_rfl) (by kernel_rfl) (fun _ _ _ h => h) (.inl ⟨by rfl, fun W hW => exec_move rfl rfl⟩) hS0 ?_
  simp only [Act.put, zzA, zz0, zz1]
  refine till_step (i := 4) (by kernel_rfl) rfl rfl ?_
  intro K1 HK1
  go_wp2_with fail
  refine (HC0.out w1.drew).mono ?_
  rintro e w2 ⟨rfl, ht2⟩
  have hS2 : FoS b2 2 (s : Int) code w2 := hS0.turn ht2
  refine HK1.out _ _ ⟨fun _ => hS2, ?_⟩
  clear HK1
  refine till_step (i := 5) (by kernel_rfl) rfl rfl ?_
  intro K1 HK1
  go_wp2_with fail
  refine (HC1.out w2).mono ?_
  rintro e w3 ⟨A1, n1, c1, rfl, ho1, ht3⟩
  have hS3 : FoS b2 2 (s : Int) code w3 := hS2.turn ht3
  refine HK1.out _ _ ⟨fun _ => hS3, ?_⟩
  clear HK1
  refine till_step (i := 9) (by kernel_rfl) rfl rfl ?_
  intro K1 HK1
  go_wp2_with fail
  refine (HC2.out w3).mono ?_
  rintro e w4 ⟨A2, n2, c2, rfl, ho2, ht4⟩
  have hS4 : FoS b2 2 (s : Int) code w4 := hS3.turn ht4
  refine HK1.out _ _ ⟨fun _ => hS4, ?_⟩
  clear HK1
  refine till_step (i := 10) (by kernel_rfl) rfl rfl ?_
  intro K1 HK1
  have ho1' : Own w4 w1.heap.size 5 (.slice A1 n1 c1) l1 := own_lower (Own.below ho1 (ht4.below (Nat.le_refl _) (fun _ _ e=>e)) (Nat.le_refl _)) ht2.size
  obtain ⟨hb2, hn2, hz2⟩ := own_bs ho2
  have hle : w1.heap.size ≤ w4.heap.size := Nat.le_trans ht2.size (Nat.le_trans ht3.size ht4.size)
  refine wp_append_bytes w4 _ _ _ rfl w1.heap.size 5 byteInfo Tryz.underlying26 _ _ rfl ho1' _ n2 c2 l2 rfl hb2 hz2 (by have := hb2.1; have := HLS.out; omega) hle ?_
  intro v5 w5 ho5 hb5
  have hbl : b2 < w1.heap.size := Blk.lt (w := w1) HBK.out
  have hS5 : FoS b2 2 (s : Int) code w5 := (hb5.block b2 hbl).trans hS4
  refine HK1.out _ _ ⟨fun _ => hS5, ?_⟩
  clear HK1
  simp only [Act.put, zzA, zz0, zz1]
  obtain ⟨A5, n5, c5, rfl, _⟩ := ho5.form
  have HO5 := Lib.hid (own_lower ho5 HT0.out.size)
  have HT5 := Lib.hid (turn_below (((HT0.out.drew.trans ht2 fun _ _ e => e).trans ht3 fun _ _ e => e).trans ht4 fun _ _ e => e) (hb5.mono HT0.out.size))
  clear hS0 hS2 hS3 hS4 hS5 ho1 ho2 ho1' ho5 hb5 hb2 hn2 hz2 hle ht2 ht3 ht4 hbl
  refine till_tail 11 rfl (by kernel_rfl) ?_
  go_wp2_with fail
  refine NoPanic.normal ?_
  go_wp2_with fail
  go_ret
  exact ⟨A5, n5, c5, rfl, HO5.out, HT5.out⟩
set_option maxHeartbeats 2000000 in
set_option maxRecDepth 20000 in
theorem bytes5_walk (s : Nat) (code : Int) (t : List UInt8) (w : World) (hl : t.length ≤ 99) (h1 : 1 ≤ t.length) (ht : onlyOf (t.drop 1) dec = true) :
    Calls Tryz.prog 44 #[fmV ⟨5, (s : Int), code⟩, strV t] w (Made w (rsigns code (t.take 1) ++ rdigits code (t.drop 1))) := by
  have HT1 := Lib.hid h1
  obtain ⟨m, hm⟩ : ∃ m, m = t.take 1 := ⟨_, rfl⟩
  obtain ⟨d, hd⟩ : ∃ d, d = t.drop 1 := ⟨_, rfl⟩
  have hml : m.length ≤ 1 := by rw [hm, List.length_take]; omega
  have hdl : d.length ≤ 99 := by rw [hd, List.length_drop]; omega
  rw [← hm, ← hd]
  rw [← hd] at ht
  have HM := Lib.hid hm
  have HD := Lib.hid hd
  have HC1 := Lib.hid (fun W => signs_walk code m W (by omega))
  have HC2 := Lib.hid (fun W => rdig_walk code d W (by omega) ht)
  have h2 := rdigits_len code d
  have h3 := rsigns_len code m
  have HLS := Lib.hid (show (rsigns code m).length + (rdigits code d).length ≤ 1000 by omega)
  clear hl ht h1 h2 h3 hm hd hml hdl
  generalize rsigns code m = l1 at *
  generalize rdigits code d = l2 at *
  unfold fmV
  obtain ⟨b2, hb2⟩ : ∃ b2, b2 = w.heap.size := ⟨_, rfl⟩
  have HB2 := Lib.hid hb2
  go_enter Tryz.func44, Tryz.ntmps44
  go_upto_region 1 with fail
  have hb0 := Blk.new w 49 #[.int .i64 5, .int .i64 (s : Int), .int .i64 code]
  have ht0 := (Turn.refl nowhere w).alloc (.cells #[.int .i64 5, .int .i64 (s : Int), .int .i64 code] 49)
  generalize (w.alloc (.cells #[.int .i64 5, .int .i64 (s : Int), .int .i64 code] 49)) = w1 at *
  rw [← hb2] at hb0 ⊢
  have HBK := Lib.hid hb0
  have HT0 := Lib.hid ht0
  have c0 : w1.cell? ⟨b2, 0, none⟩ = some (.int .i64 5) := hb0.cell 0
  have c2 : w1.cell? ⟨b2, 2, none⟩ = some (.int .i64 code) := hb0.cell 2
  clear hb0 ht0 hb2
  go_upto_region 7 with fail
  have hS0 : FoS b2 5 (s : Int) code w1.drew := HBK.out
  refine wp_region_till (FoS b2 5 (s : Int) code) 11 (by kernel_rfl) ?_
  refine till_pure (i := 0) (v := .pointer (some ⟨b2, 2, none⟩)) rfl (by kernel_rfl) (by kernel_rfl) (fun _ _ _ h => h) (.inl ⟨by rfl, fun W hW => exec_field (off := 0) (d := 2) rfl rfl (by kernel_rfl)⟩) hS0 ?_
  simp only [Act.put, zzA, zz0, zz1]
  refine till_take (i := 1) (v := .int .i64 code) rfl (by kernel_rfl) (by kernel_rfl) (fun _ _ _ h => h) (.inl ⟨by rfl, fun W hW => exec_load1 rfl rfl (by kernel_rfl) (hW.cell 2)⟩) hS0 ?_
  simp only [Act.put, zzA, zz0, zz1]
  refine till_pure (i := 2) (v := strV t) rfl (by kernel_rfl) (by kernel_rfl) (fun _ _ _ h => h) (.inl ⟨by rfl, fun W hW => exec_move rfl rfl⟩) hS0 ?_
  simp only [Act.put, zzA, zz0, zz1]
  refine till_pure (i := 3) (v := strV m) rfl (by kernel_rfl) (by kernel_rfl) (fun _ _ _ h => h) (.inl ⟨by rfl, fun W hW => by rw [HM.out]; exact exec_sto1 rfl rfl HT1.out⟩) hS0 ?_
  simp only [Act.put, zzA, zz0, zz1]
  refine till_pure (i := 5) (v := .pointer (some ⟨b2, 2, none⟩)) rfl (by kernel_rfl) (by kernel_rfl) (fun _ _ _ h => h) (.inl ⟨by rfl, fun W hW => exec_field (off := 0) (d := 2) rfl rfl (by kernel_rfl)⟩) hS0 ?_
  simp only [Act.put, zzA, zz0, zz1]
  refine till_take (i := 6) (v := .int .i64 code) rfl (by kernel_rfl) (by kernel_rfl) (fun _ _ _ h => h) (.inl ⟨by rfl, fun W hW => exec_load1 rfl rfl (by kernel_rfl) (hW.cell 2)⟩) hS0 ?_
  simp only [Act.put, zzA, zz0, zz1]
  refine till_pure (i := 7) (v := strV t) rfl (by kernel_rfl) (by kernel_rfl) (fun _ _ _ h => h) (.inl ⟨by rfl, fun W hW => exec_move rfl rfl⟩) hS0 ?_
  simp only [Act.put, zzA, zz0, zz1]
  refine till_pure (i := 8) (v := strV d) rfl (by kernel_rfl) (by kernel_rfl) (fun _ _ _ h => h) (.inl ⟨by rfl, fun W hW => by rw [HD.out]; exact exec_sfrom1 rfl rfl HT1.out⟩) hS0 ?_
  simp only [Act.put, zzA, zz0, zz1]
  have ht2 : Turn nowhere w1.drew w1.drew := Turn.refl _ _
  have hS2 : FoS b2 5 (s : Int) code w1.drew := hS0
  refine till_step (i := 4) (by kernel_rfl) rfl rfl ?_
  intro K1 HK1
  go_wp2_with fail
  refine (HC1.out w1.drew).mono ?_
  rintro e w3 ⟨A1, n1, c1, rfl, ho1, ht3⟩
  have hS3 : FoS b2 5 (s : Int) code w3 := hS2.turn ht3
  refine HK1.out _ _ ⟨fun _ => hS3, ?_⟩
  clear HK1
  refine till_step (i := 9) (by kernel_rfl) rfl rfl ?_
  intro K1 HK1
  go_wp2_with fail
  refine (HC2.out w3).mono ?_
  rintro e w4 ⟨A2, n2, c2, rfl, ho2, ht4⟩
  have hS4 : FoS b2 5 (s : Int) code w4 := hS3.turn ht4
  refine HK1.out _ _ ⟨fun _ => hS4, ?_⟩
  clear HK1
  refine till_step (i := 10) (by kernel_rfl) rfl rfl ?_
  intro K1 HK1
  have ho1' : Own w4 w1.heap.size 5 (.slice A1 n1 c1) l1 := own_lower (Own.below ho1 (ht4.below (Nat.le_refl _) (fun _ _ e=>e)) (Nat.le_refl _)) ht2.size
  obtain ⟨hb2, hn2, hz2⟩ := own_bs ho2
  have hle : w1.heap.size ≤ w4.heap.size := Nat.le_trans ht2.size (Nat.le_trans ht3.size ht4.size)
  refine wp_append_bytes w4 _ _ _ rfl w1.heap.size 5 byteInfo Tryz.underlying26 _ _ rfl ho1' _ n2 c2 l2 rfl hb2 hz2 (by have := hb2.1; have := HLS.out; omega) hle ?_
  intro v5 w5 ho5 hb5
  have hbl : b2 < w1.heap.size := Blk.lt (w := w1) HBK.out
  have hS5 : FoS b2 5 (s : Int) code w5 := (hb5.block b2 hbl).trans hS4
  refine HK1.out _ _ ⟨fun _ => hS5, ?_⟩
  clear HK1
  simp only [Act.put, zzA, zz0, zz1]
  obtain ⟨A5, n5, c5, rfl, _⟩ := ho5.form
  have HO5 := Lib.hid (own_lower ho5 HT0.out.size)
  have HT5 := Lib.hid (turn_below (((HT0.out.drew.trans ht2 fun _ _ e => e).trans ht3 fun _ _ e => e).trans ht4 fun _ _ e => e) (hb5.mono HT0.out.size))
  clear hS0 hS2 hS3 hS4 hS5 ho1 ho2 ho1' ho5 hb5 hb2 hn2 hz2 hle ht2 ht3 ht4 hbl
  refine till_tail 11 rfl (by kernel_rfl) ?_
  go_wp2_with fail
  refine NoPanic.normal ?_
  go_wp2_with fail
  go_ret
  exact ⟨A5, n5, c5, rfl, HO5.out, HT5.out⟩
theorem upc_nat (b : UInt8) : ((upc b).toNat : Int) = if 97 ≤ b.toNat then (b.toNat : Int) - 32 else (b.toNat : Int) := by
  have h := byte_of (P := fun b => (upc b).toNat = if 97 ≤ b.toNat then b.toNat - 32 else b.toNat) (by decide +kernel) b
  rw [h]
  split <;> omega
set_option maxHeartbeats 2000000 in
set_option maxRecDepth 20000 in
theorem bytes4a_walk (s : Nat) (t : List UInt8) (w : World) (hl : t.length ≤ 1000) :
    Calls Tryz.prog 44 #[fmV ⟨4, (s : Int), 1⟩, strV t] w (Made w (t.map upc)) := by
  have HL := Lib.hid hl
  clear hl
  obtain ⟨n, hn⟩ : ∃ n, n = t.length := ⟨_, rfl⟩
  have HN := Lib.hid hn
  clear hn
  unfold fmV
  obtain ⟨b2, hb2⟩ : ∃ b2, b2 = w.heap.size := ⟨_, rfl⟩
  have HB2 := Lib.hid hb2
  go_enter Tryz.func44, Tryz.ntmps44
  go_upto_region 1 with fail
  have hb0 := Blk.new w 49 #[.int .i64 4, .int .i64 (s : Int), .int .i64 1]
  have ht0 := (Turn.refl nowhere w).alloc (.cells #[.int .i64 4, .int .i64 (s : Int), .int .i64 1] 49)
  generalize (w.alloc (.cells #[.int .i64 4, .int .i64 (s : Int), .int .i64 1] 49)) = w1 at *
  rw [← hb2] at hb0 ⊢
  have HBK := Lib.hid hb0
  have HT0 := Lib.hid ht0
  have c0 : w1.cell? ⟨b2, 0, none⟩ = some (.int .i64 4) := hb0.cell 0
  have c2 : w1.cell? ⟨b2, 2, none⟩ = some (.int .i64 1) := hb0.cell 2
  clear hb0 ht0 hb2
  go_upto_region 12 with fail
  have hown0 := Own.empty w1 w1.heap.size 5 (Nat.le_refl _)
  have hbel0 : Below w1.heap.size w1 (w1.alloc (.cells #[] 5)) := (Below.refl _ w1).alloc (Nat.le_refl _) _
  obtain ⟨B, hB⟩ : ∃ B, B = w1.heap.size := ⟨_, rfl⟩
  rw [← hB] at hown0 hbel0
  have HB := Lib.hid hB
  clear hB
  refine wp_region_lit ?_
  refine wR (v := _) rfl (exec_make0 rfl) ?_
  simp only [Act.put, zzA, zz0, zz1]
  refine wR (v := .slice (some ⟨w1.heap.size, 0, none⟩) 0 0) rfl (gx_assign rfl rfl) ?_
  simp only [Act.put, zzA, zz0, zz1]
  rw [← HB.out]
  generalize (w1.alloc (.cells #[] 5)) = w2 at *
  have HO0 := Lib.hid hown0
  have HB0 := Lib.hid hbel0
  clear hown0 hbel0 c0 c2
  go_wp2_with fail
  go_loopg [5, 6] n (fun gk b i wr => ∃ (k : Nat) (A : Option Addr) (m c : Nat), k + gk = n ∧ i = .int .i64 (k : Int) ∧ b = .slice A m c ∧ Own wr B 5 (.slice A m c) ((t.take k).map upc) ∧ Below B w1 wr)
  case atStart => exact ⟨0, some ⟨B, 0, none⟩, 0, 0, by omega, rfl, rfl, HO0.out, HB0.out⟩
  case round =>
    obtain ⟨k, A, m, c, hkl, rfl, rfl, hown, hbel⟩ := hrel
    have HKL := Lib.hid hkl
    have HO := Lib.hid hown
    have HE := Lib.hid hbel
    clear hkl hown hbel
    go_upto_region 14 with fail
    refine wp_region_lit ?_
    refine wR (v := .int .i64 (k : Int)) rfl (exec_move rfl rfl) ?_
    simp only [Act.put, zzA, zz0, zz1]
    refine wR (v := strV t) rfl (exec_move rfl rfl) ?_
    simp only [Act.put, zzA, zz0, zz1]
    refine wR (v := .int .i64 (n : Int)) (w' := wr) rfl (by rw [HN.out]; exact exec_slen rfl rfl) ?_
    simp only [Act.put, zzA, zz0, zz1]
    by_cases hlt : k < n
    · refine wR (v := .bool true) (w' := wr) rfl (exec_lss rfl rfl rfl (by omega)) ?_
      simp only [Act.put, zzA, zz0, zz1]
      have HLT := Lib.hid hlt
      have HKT := Lib.hid (show k < t.length by rw [← HN.out]; exact hlt)
      clear hlt
      have htk : (t.take (k + 1)).map upc = (t.take k).map upc ++ [upc (t.getD k 0)] := by rw [take_one HKT.out, List.map_append]; rfl
      have hz := upc_nat (t.getD k 0)
      have HTK := Lib.hid htk
      clear htk
      go_upto_region 16 with fail
      refine wp_region_lit ?_
      refine wR (v := strV t) rfl (exec_move rfl rfl) ?_
      simp only [Act.put, zzA, zz0, zz1]
      refine wR (v := .int .i64 (k : Int)) rfl (exec_move rfl rfl) ?_
      simp only [Act.put, zzA, zz0, zz1]
      refine wR (v := .int .u8 ((t.getD k 0).toNat : Int)) (w' := wr) rfl (exec_sidx rfl rfl rfl HKT.out) ?_
      simp only [Act.put, zzA, zz0, zz1]
      generalize upc (t.getD k 0) = z at *
      generalize t.getD k 0 = y at *
      have hyb := y.toNat_lt
      by_cases h97 : 97 ≤ y.toNat
      all_goals
        first
          | (rw [if_pos h97] at hz; have v1 : (97 : Int) ≤ (y.toNat : Int) := (by omega); have v2 : IntKind.u8.wrap ((y.toNat : Int) - 97) = (y.toNat : Int) - 97 := (by rw [wrapu8]; omega); have v3 : IntKind.u8.wrap ((y.toNat : Int) - 97 + 65) = (z.toNat : Int) := (by rw [wrapu8]; omega))
          | (rw [if_neg h97] at hz; have v1 : ¬ ((97 : Int) ≤ (y.toNat : Int)) := (by omega); have v2 : True := trivial; have v3 : True := trivial; obtain rfl : z = y := UInt8.toNat_inj.1 (by omega))
        clear hz h97
        go_upto_region 19 with fail
        clear v1 v2 v3
        refine wp_region_lit ?_
        refine wR (v := .slice A m c) rfl (exec_move rfl rfl) ?_
        simp only [Act.put, zzA, zz0, zz1]
        refine wR (v := .int .u8 (z.toNat : Int)) rfl (exec_move rfl rfl) ?_
        simp only [Act.put, zzA, zz0, zz1]
        refine wR (v := _) rfl (exec_one (z := z) rfl rfl) ?_
        simp only [Act.put, zzA, zz0, zz1]
        have hone := bs_blk (Blk.new wr 5 (bcs [z]).toArray) (n := 1) rfl (by unfold maxLen; omega)
        have hown1 : Own (wr.alloc (.cells (bcs [z]).toArray 5)) B 5 (.slice A m c) ((t.take k).map upc) := HO.out.alloc _
        refine wpList_append_bytes _ rfl _ _ _ rfl B 5 byteInfo Tryz.underlying26 _ _ rfl hown1 _ 1 1 [z] rfl hone (fun h => by cases h) (by rw [List.length_map, List.length_take]; have := HN.out; have := HL.out; omega) (by have := HE.out.size; have := HB.out; simp; omega) ?_
        intro v2 w3 ho2 hb2
        simp only [Act.put, zzA, zz0, zz1]
        obtain ⟨A2, m2, c2, rfl, _⟩ := ho2.form
        have HO2 := Lib.hid ho2
        have HB2 := Lib.hid hb2
        clear ho2 hb2 hone hown1 hyb
        have b0 : (0 : Int) ≤ (k : Int) := by omega
        have b1 : (k : Int) ≤ 1000 := by have := HLT.out; have := HN.out; have := HL.out; omega
        go_wp2_with fail
        go_roundg (gk - 1)
        case measure => have := HKL.out; have := HLT.out; omega
        case rel =>
          refine ⟨k + 1, A2, m2, c2, by have := HKL.out; have := HLT.out; omega, by go_num, rfl, ?_, (HE.out.alloc (by have := HE.out.size; have := HB.out; omega) _).trans HB2.out⟩
          rw [HTK.out]
          exact HO2.out
    · refine wR (v := .bool false) (w' := wr) rfl (exec_nlss rfl rfl rfl (by omega)) ?_
      simp only [Act.put, zzA, zz0, zz1]
      have hkn : t.take k = t := List.take_of_length_le (by have := HKL.out; have := HN.out; omega)
      have ho := HO.out
      rw [hkn] at ho
      have HOO := Lib.hid ho
      have HTW := Lib.hid (turn_below HT0.out (HE.out.mono (by rw [HB.out]; exact HT0.out.size)))
      clear hlt hkn ho
      go_wp2_with fail
      go_ret
      exact ⟨A, m, c, rfl, own_lower HOO.out (by rw [HB.out]; exact HT0.out.size), HTW.out⟩
/-- the reference's bytes of a right text -/
theorem bytes_walk {k s c : Nat} {t : List UInt8} (w : World) (hk : 1 ≤ k ∧ k ≤ 5) (hc : 1 ≤ c ∧ c ≤ 3) (hs : 1 ≤ s ∧ s ≤ 64) (hr : (nf k s c).right t = true) :
    Calls Tryz.prog 44 #[fmV (nf k s c), strV t] w (Made w ((nf k s c).put t)) := by
  rw [← rbytes_put hk hc hs hr]
  have hkk : k = 1 ∨ k = 2 ∨ k = 3 ∨ k = 4 ∨ k = 5 := by omega
  rcases hkk with rfl | rfl | rfl | rfl | rfl
  · rw [right_nl (by decide)] at hr
    obtain ⟨h1, h2⟩ := right_one (p := ⟨s, dec, _⟩) hr
    have h2' : t.length = s := h2
    exact bytes1_walk s (c : Int) t w (by omega) h1
  · obtain ⟨hl, hr2⟩ := ll_right hr
    obtain ⟨h1, h2⟩ := right_one (p := ⟨t.length, dec, _⟩) hr2
    exact bytes2_walk s (c : Int) t w (by omega) h1
  · rw [right_nl (by decide)] at hr
    obtain ⟨h1, h2⟩ := right_one (p := ⟨s, sgn, _⟩) hr
    have h2' : t.length = s := h2
    exact bytes3_walk s (c : Int) t w (by omega)
  · rw [right_nl (by decide)] at hr
    obtain ⟨h1, h2⟩ := right_one (p := ⟨2 * s, hexs, _⟩) hr
    have h2' : t.length = 2 * s := h2
    by_cases h : c = 1
    · subst h
      exact bytes4a_walk s t w (by omega)
    · have e : rbytes (nf 4 s c) t = rpack (padded t) := by
        show (if (c : Int) ≠ 1 then rpack (padded t) else t.map upc) = _
        rw [if_pos (by omega)]
      rw [e]
      exact bytes4p_walk s (c : Int) t w (by omega) h1 (by omega)
  · rw [right_nl (by decide)] at hr
    obtain ⟨h1, h2, h3⟩ := right_two (p := ⟨1, mk, _⟩) (q := ⟨s, dec, _⟩) hr
    obtain ⟨h4, h5⟩ := right_one h3
    have h1' : 1 ≤ t.length := h1
    have h5' : (t.drop 1).length = s := h5
    rw [List.length_drop] at h5'
    exact bytes5_walk s (c : Int) t w (by omega) h1' h4
end Go.Proofs.YticofobhkmabiaaGreatDoor
namespace Go.Proofs.YticofobhkmabiaaGreatDoor
open Go.RowKit
open Fdd
set_option linter.unusedVariables false
set_option linter.unusedSimpArgs false
set_option maxHeartbeats 2000000 in
set_option maxRecDepth 20000 in
theorem rput_walk {w : World} {f : Fm} {n cap : Nat} {A : Option Addr} {b t : List UInt8} (hb : Bs w A n b) (hz : A = none → cap = 0) (hn : n ≤ 140737488351232) (hl : t.length ≤ 9223372036854775807) :
    Calls Tryz.prog 21 #[.slice A n cap, fmV f, strV t] w (PutPost w f t b) := by
  have HCK := Lib.hid (fun W => rcheck_walk (f := f) W hl)
  have HB := Lib.hid hb
  have HZ := Lib.hid hz
  have HN := Lib.hid hn
  have hby : f.check t = 0 → (∀ W, Calls Tryz.prog 44 #[fmV f, strV t] W (Made W (f.put t))) ∧ (f.put t).length ≤ 1000 := by
    intro h
    have hs := put_small h
    obtain ⟨hm, hrt⟩ := check_cases h
    obtain ⟨k, s, c, rfl, h1, h2, h3⟩ := fm_exp hm
    exact ⟨fun W => bytes_walk W h1 h2 h3 hrt, hs⟩
  have HBY := Lib.hid hby
  have hR : putR f t b = if f.check t = 0 then b ++ f.put t else [] := rfl
  have HR := Lib.hid hR
  clear hb hz hn hl hby hR
  obtain ⟨ke, hke⟩ : ∃ ke, ke = f.check t := ⟨_, rfl⟩
  have hpp : PutPost w f t b = fun e w' => ∃ A n c, e = .returned (.tuple #[.slice A n c, .int .i64 ke]) ∧ Own w' w.heap.size 5 (.slice A n c) (putR f t b) ∧ Turn nowhere w w' := by
    rw [hke]
    rfl
  rw [hpp]
  rw [← hke] at HCK HBY HR
  clear hpp hke
  generalize putR f t b = R at *
  generalize f.put t = pv at *
  obtain ⟨x0, x1, x2⟩ := f
  have hfv : fmV ⟨x0, x1, x2⟩ = .agg #[.int .i64 x0, .int .i64 x1, .int .i64 x2] := rfl
  rw [hfv] at HCK HBY ⊢
  clear hfv
  obtain ⟨b4, hb4⟩ : ∃ b4, b4 = w.heap.size := ⟨_, rfl⟩
  have HB4 := Lib.hid hb4
  go_enter Tryz.func21, Tryz.ntmps21
  go_upto_region 1 with fail
  have hb0 := Blk.new w 49 #[.int .i64 x0, .int .i64 x1, .int .i64 x2]
  have ht0 := (Turn.refl nowhere w).alloc (.cells #[.int .i64 x0, .int .i64 x1, .int .i64 x2] 49)
  generalize (w.alloc (.cells #[.int .i64 x0, .int .i64 x1, .int .i64 x2] 49)) = w1 at *
  rw [← hb4] at hb0 ⊢
  have HBK := Lib.hid hb0
  have HT0 := Lib.hid ht0
  clear hb0 ht0 hb4
  refine wp_region_lit ?_
  refine wR (v := .agg #[.int .i64 x0, .int .i64 x1, .int .i64 x2]) (w' := w1) rfl (exec_load rfl rfl (load_blkForm HBK.out)) ?_
  simp only [Act.put, zzA, zz0, zz1]
  go_wp2_with fail
  refine (HCK.out w1).mono ?_
  rintro e w2 ⟨rfl, ht2⟩
  have HT2 := Lib.hid (HT0.out.trans ht2 fun _ _ e => e)
  have HBK := Lib.hid (HBK.out.turn ht2 fun e => e)
  clear ht2
  by_cases h0 : ke = 0
  · subst h0
    have hr := HR.out
    rw [if_pos rfl] at hr
    subst hr
    obtain ⟨hbw, hpl⟩ := HBY.out rfl
    have HBW := Lib.hid hbw
    have HPL := Lib.hid hpl
    clear hbw hpl HR HBY
    go_upto_region 4 with fail
    refine wp_region_lit ?_
    refine wR (v := _) rfl (exec_make0 rfl) ?_
    simp only [Act.put, zzA, zz0, zz1]
    refine wR (v := .slice A n cap) rfl (exec_move rfl rfl) ?_
    simp only [Act.put, zzA, zz0, zz1]
    have hown0 := Own.empty w2 w2.heap.size 5 (Nat.le_refl _)
    have hb1 : Bs (w2.alloc (.cells #[] 5)) A n b := bs_turn HB.out (HT2.out.alloc _)
    have hb2t : Below w2.heap.size w2 (w2.alloc (.cells #[] 5)) := (Below.refl _ w2).alloc (Nat.le_refl _) _
    have hle3 : w2.heap.size ≤ (w2.alloc (.cells #[] 5)).heap.size := by simp
    generalize (w2.alloc (.cells #[] 5)) = w3 at *
    refine wpList_append_bytes w3 rfl _ _ _ rfl w2.heap.size 5 byteInfo Tryz.underlying26 _ [] rfl hown0 A n cap b rfl hb1 HZ.out (by have := HN.out; simp; omega) hle3 ?_
    intro v4 w4 ho4 hb4
    rw [List.nil_append] at ho4
    obtain ⟨A4, n4, c4, rfl, hbs4, _⟩ := ho4.form
    simp only [Act.put, zzA, zz0, zz1]
    have HO4 := Lib.hid ho4
    have hbel := hb2t.trans hb4
    have HT4 := Lib.hid (turn_below HT2.out (hbel.mono HT2.out.size))
    have HBK4 := Lib.hid (HBK.out.turn (Turn.of_below hbel (Nat.le_refl _)) fun e => e)
    have HL4 := Lib.hid (show b.length ≤ 140737488351232 by have := HB.out.1; have := HN.out; omega)
    have HLE4 := Lib.hid hbel.size
    clear ho4 hb4 hown0 hb1 hb2t hle3 hbs4 hbel
    go_upto_region 5 with fail
    refine wp_region_lit ?_
    refine wR (v := .slice A4 n4 c4) rfl (exec_move rfl rfl) ?_
    simp only [Act.put, zzA, zz0, zz1]
    refine wR (v := .agg #[.int .i64 x0, .int .i64 x1, .int .i64 x2]) (w' := w4) rfl (exec_load rfl rfl (load_blkForm HBK4.out)) ?_
    simp only [Act.put, zzA, zz0, zz1]
    refine wR (v := strV t) rfl (exec_move rfl rfl) ?_
    simp only [Act.put, zzA, zz0, zz1]
    refine wpList_call rfl ?_
    intro K1 HK1
    go_wp2_with fail
    refine (HBW.out w4).mono ?_
    rintro e w5 ⟨A5, n5, c5, rfl, ho5, ht5⟩
    refine HK1.out _ _ ?_
    clear HK1
    try simp only [Act.put, zzA, zz0, zz1]
    obtain ⟨hbs5, hn5, hz5⟩ := own_bs ho5
    have ho4' : Own w5 w2.heap.size 5 (.slice A4 n4 c4) b := Own.below HO4.out (ht5.below (Nat.le_refl _) (fun _ _ e=>e)) (Nat.le_refl _)
    refine wpList_append_bytes w5 rfl _ _ _ rfl w2.heap.size 5 byteInfo Tryz.underlying26 _ b rfl ho4' A5 n5 c5 pv rfl hbs5 hz5 (by have := HL4.out; have := HPL.out; have := hbs5.1; omega) (Nat.le_trans HLE4.out ht5.size) ?_
    intro v6 w6 ho6 hb6
    obtain ⟨A6, n6, c6, rfl, _⟩ := ho6.form
    simp only [Act.put, zzA, zz0, zz1]
    have HO6 := Lib.hid (own_lower ho6 HT2.out.size)
    have HT6 := Lib.hid (turn_below (HT4.out.trans ht5 fun _ _ e => e) (hb6.mono HT2.out.size))
    clear ho6 hb6 hbs5 hn5 hz5 ho4' ho5 ht5
    go_wp2_with fail
    exact bodyPost_ret (v := .tuple #[.slice A6 n6 c6, .int .i64 0]) (by simp [results, Tryz.results21, go_sem]) rfl ⟨A6, n6, c6, rfl, HO6.out, HT6.out⟩
  · have hr := HR.out
    rw [if_neg h0] at hr
    subst hr
    have y0 : (ke == 0) = false := by simpa using h0
    have y1 : (ke != 0) = true := by simpa using h0
    clear h0
    go_wp2_with fail
    exact bodyPost_ret (v := .tuple #[.slice none 0 0, .int .i64 ke]) (by simp [results, Tryz.results21, go_sem]) rfl ⟨none, 0, 0, rfl, World.ownsRow_nil _ _ _ _, HT2.out⟩
end Go.Proofs.YticofobhkmabiaaGreatDoor
namespace Go.Proofs.YticofobhkmabiaaGreatDoor
open Go.RowKit
open Fdd
set_option linter.unusedVariables false
set_option linter.unusedSimpArgs false
theorem b8_or {a : Act} {o : Oper} {W : World} {x y : Operand} {t u : TypeId} {b : UInt8} {m : Nat} (ho : o.op = .binOp .or t x y u) (hx : a.eval x = .int .u8 (b.toNat : Int)) (hy : a.eval y = .int .u8 (m : Int)) (hm : m < 256) : (execOp a.eval o).run Tryz.prog W = .ok (.value (.int .u8 ((b ||| UInt8.ofNat m).toNat : Int))) W := by
  have e : ((b ||| UInt8.ofNat m).toNat : Int) = ((b.toNat ||| m : Nat) : Int) := by
    rw [UInt8.toNat_or, UInt8.toNat_ofNat', Nat.mod_eq_of_lt (by omega)]
  rw [e]
  unfold execOp
  simp only [ho, hx, hy]
  go_simp
  rw [u8_or_nat b.toNat m (UInt8.toNat_lt _) (by omega)]
theorem b8_shr {a : Act} {o : Oper} {W : World} {y : Operand} {u : TypeId} {k : Nat} (ho : o.op = .binOp .shr 5 (.const (.int .u8 128)) y u) (hy : a.eval y = .int .i64 (k : Int)) (hk : k < 8) : (execOp a.eval o).run Tryz.prog W = .ok (.value (.int .u8 ((128 / 2 ^ k : Nat) : Int))) W := by
  unfold execOp
  simp only [ho, hy]
  have hc : k = 0 ∨ k = 1 ∨ k = 2 ∨ k = 3 ∨ k = 4 ∨ k = 5 ∨ k = 6 ∨ k = 7 := by omega
  rcases hc with rfl | rfl | rfl | rfl | rfl | rfl | rfl | rfl <;> go_simp
theorem b8_quo {a : Act} {o : Oper} {W : World} {x : Operand} {n : Nat} (ho : o.op = .binOp .quo 5 x (.const (.int .u8 16)) 5) (hx : a.eval x = .int .u8 (n : Int)) (hn : n < 256) : (execOp a.eval o).run Tryz.prog W = .ok (.value (.int .u8 ((n / 16 : Nat) : Int))) W := by
  have hw : IntKind.u8.wrap ((n : Int) / 16) = (n : Int) / 16 := by rw [wrapu8]; omega
  unfold execOp
  simp only [ho, hx]
  go_simp
  all_goals (first | rfl | exact hw | (rw [hw]; rfl) | simp [hw])
theorem b8_rem {a : Act} {o : Oper} {W : World} {x : Operand} {n : Nat} (ho : o.op = .binOp .rem 5 x (.const (.int .u8 16)) 5) (hx : a.eval x = .int .u8 (n : Int)) : (execOp a.eval o).run Tryz.prog W = .ok (.value (.int .u8 ((n % 16 : Nat) : Int))) W := by
  unfold execOp
  simp only [ho, hx]
  go_simp
  exact Int.tmod_eq_emod_of_nonneg (by omega)
theorem blk_byte {W : World} {g : Nat} {t : TypeId} {l : List UInt8} (h : Blk W g t (bcs l).toArray) {i : Nat} (hi : i < l.length) : W.cell? ⟨g, i, none⟩ = some (.int .u8 ((l.getD i 0).toNat : Int)) := by
  rw [h.cell]
  simpa using bcs_at l i hi
theorem mbcs_set (l : List UInt8) (i : Nat) (x : UInt8) : (bcs l).toArray.setIfInBounds i (.int .u8 (x.toNat : Int)) = (bcs (l.set i x)).toArray := by
  rw [List.setIfInBounds_toArray]
  unfold bcs
  rw [List.map_set]
theorem bcs_size (l : List UInt8) : (bcs l).toArray.size = l.length := by rw [List.size_toArray, bcs_length]
theorem mk16 (W : World) : (Instr.makeSlice 26 (.int .i64 16) (.int .i64 16)).run Tryz.prog W = .ok (.slice (some ⟨W.heap.size, 0, none⟩) 16 16) (W.alloc (.cells (bcs (List.replicate 16 0)).toArray 5)) := by kernel_rfl
theorem size_byte1 : (Tryz.prog.info? 5).map (·.size) = some 1 := by kernel_rfl
theorem wp_store1 {P : Program} {o : Oper} {a : Act} {w : World} {K : Act → World → Prop} {Q : Exit → Act → World → Prop} (ty : TypeId) (x y : Operand) (ho : o.op = .store ty x y) {g i : Nat} {t : TypeId} {old : Array Value} {v : Value} (hb : Blk w g t old)
    (hx : a.eval x = .pointer (some ⟨g, i, none⟩)) (hy : a.eval y = v) (hi : i < old.size) (hv : v.cells = #[v]) (h1 : v.oneCell' = true) (hsz : (P.info? ty).map (·.size) = some 1)
    (h : Blk (w.setCell ⟨g, i, none⟩ v) g t (old.setIfInBounds i v) → Turn (only g) w (w.setCell ⟨g, i, none⟩ v) → K (a.put o.dst undef) (w.setCell ⟨g, i, none⟩ v)) : o.wp P a w K Q := by
  obtain ⟨j, hj, hjs⟩ := Option.map_eq_some_iff.1 hsz
  have hc : w.cell? ⟨g, i, none⟩ = some (old[i]) := by rw [hb.cell i, Array.getElem?_eq_getElem hi]
  have hf : w.frozen? ⟨g, i, none⟩ = false := hb.frozen i
  have hst : (Instr.storeAt ty (.pointer (some ⟨g, i, none⟩)) v).run P w = .ok () (w.setCell ⟨g, i, none⟩ v) := by
    have h0 : (⟨g, i, none⟩ : Addr).add 0 = ⟨g, i, none⟩ := by simp [Addr.add]
    simp [Instr.storeAt, storeVar, hv, Instr.sureAddr, sizeOf, typeInfo, hj, hjs, Result.andThen, storeCells, run_store _ _ _ _ _ h1, stored, h0, hc, hf]
  unfold Oper.wp execOp
  simp only [ho, hx, hy, hst, Sem.run_bind, Sem.run_pure, Result.andThen_ok]
  exact h (hb.set_ i v) ((Turn.refl _ w).at_ i v)
theorem type_small {ty : Int} (h : mtypes.contains ty = true) : ∃ t : Nat, ty = (t : Int) ∧ t ≤ 999 := by
  have hall : ∀ t ∈ mtypes, 0 ≤ t ∧ t ≤ 999 := by decide
  have := hall ty (by simpa using h)
  exact ⟨ty.toNat, by omega, by omega⟩
theorem amt_len {fs : List Fld} (h : Fdd.Good fs) {f : Fld} (hf : f ∈ fs) (h4 : f.1 = 4) : f.2.length = 12 := by
  obtain ⟨m, hm, hc⟩ := h.2 f hf
  obtain ⟨k, s, rfl, hk, hs, _, _, _, hx⟩ := form_nf hm
  have hu1 : unsaid 1 f.1 = [] := by unfold unsaid; rw [if_neg (fun h => by omega)]
  obtain ⟨e1, e2⟩ := hx h4
  subst e1
  rw [hu1] at e2
  have h5 := (Fdd.right_n.1 ((check_zero hk (by decide) hs).1 hc)).1
  simp only [List.length_nil] at e2
  omega
theorem body_take_le (d : Nat) (fs : List Fld) (j : Nat) : (body d (fs.take j)).length ≤ (body d fs).length := by
  have e : body d fs = body d (fs.take j) ++ body d (fs.drop j) := by
    have : ∀ a b : List Fld, body d (a ++ b) = body d a ++ body d b := fun a b => by
      unfold body
      induction a with
      | nil => simp
      | cons x l ih => simp [ih]
    rw [← this, List.take_append_drop]
  rw [e, List.length_append]
  omega
end Go.Proofs.YticofobhkmabiaaGreatDoor
namespace Go.Proofs.YticofobhkmabiaaGreatDoor
open Go.RowKit
open Fdd
set_option linter.unusedVariables false
set_option linter.unusedSimpArgs false
theorem sneq_f {a : Act} {o : Oper} {W : World} {x y : Operand} {l m : List UInt8} {t u : TypeId} (ho : o.op = .binOp .neq t x y u) (hx : a.eval x = strV l) (hy : a.eval y = strV m) (h : l = m) : (execOp a.eval o).run Tryz.prog W = .ok (.value (.bool false)) W := by
  rw [exec_sneq ho hx hy, h]
  simp
theorem sneq_t {a : Act} {o : Oper} {W : World} {x y : Operand} {l m : List UInt8} {t u : TypeId} (ho : o.op = .binOp .neq t x y u) (hx : a.eval x = strV l) (hy : a.eval y = strV m) (h : ¬ l = m) : (execOp a.eval o).run Tryz.prog W = .ok (.value (.bool true)) W := by
  rw [exec_sneq ho hx hy]
  simp [h]
theorem enc_err {r : Except Int (List UInt8)} {k : Int} {w w' : World} (h : r = .error k) (ht : Turn nowhere w w') : EncodeP r w (.returned (.tuple #[.slice none 0 0, .int .i64 k])) w' := by
  subst h
  exact ⟨none, 0, 0, rfl, World.ownsRow_nil w' _ _ _, ht⟩
/-- what the first loop leaves: the map's bytes, whether a field is beyond the 64th one, and that all amounts can be said -/
def Bits1 (gb : Nat) (d : Nat) (wb : World) (fs : List Fld) (lv : Bool) (wr : World) : Prop := lv = far64 fs ∧ Blk wr gb 5 (bcs (B16 fs)).toArray ∧ Turn nowhere wb wr ∧ ∀ f ∈ fs, Amt d f
theorem head_ty {w : World} {d : Nat} {ty : Int} (hd : 1 ≤ d ∧ d ≤ 3) (h : mtypes.contains ty = true) :
    Calls Tryz.prog 23 #[.int .i64 (d : Int), .int .i64 ty] w fun e w' => e = .returned (strV (ver d ++ dig3 ty.toNat)) ∧ Turn nowhere w w' := by
  obtain ⟨t, rfl, h9⟩ := type_small h
  exact head_walk hd h9
theorem rput_ok {w : World} {f : Fm} {n cap : Nat} {A : Option Addr} {b t : List UInt8} (h : f.check t = 0) (hb : Bs w A n b) (hz : A = none → cap = 0) (hn : n ≤ 140737488351232) (hl : t.length ≤ 9223372036854775807) :
    Calls Tryz.prog 21 #[.slice A n cap, .agg (fmA f), strV t] w fun e w' => ∃ A n c, e = .returned (.tuple #[.slice A n c, .int .i64 0]) ∧ Own w' w.heap.size 5 (.slice A n c) (b ++ f.put t) ∧ Turn nowhere w w' := by
  refine (rput_walk (f := f) (cap := cap) hb hz hn hl).mono ?_
  rintro e w' ⟨A', n', c', rfl, ho, ht⟩
  rw [h]
  unfold putR at ho
  rw [if_pos h] at ho
  exact ⟨_, _, _, rfl, ho, ht⟩
theorem put_type {w : World} {d : Nat} {ty : Int} (hd : 1 ≤ d ∧ d ≤ 3) (h : mtypes.contains ty = true) :
    Calls Tryz.prog 21 #[.slice none 0 0, .agg (fmA ⟨1, 4, (d : Int)⟩), strV (ver d ++ dig3 ty.toNat)] w fun e w' => ∃ A n c, e = .returned (.tuple #[.slice A n c, .int .i64 0]) ∧ Own w' w.heap.size 5 (.slice A n c) ((typeFm d).put (ver d ++ dig3 ty.toNat)) ∧ Turn nowhere w w' := by
  have hr := (type_right hd h).1
  have hl := (Fdd.right_n.1 hr).1
  have := rput_ok (w := w) (f := typeFm d) (A := none) (n := 0) (cap := 0) (b := []) ((check_zero (by decide) hd (by decide)).2 hr) (bs_nil w none) (fun _ => rfl) (by decide) (by rw [hl]; decide)
  rw [List.nil_append] at this
  exact this
set_option maxRecDepth 40000 in
set_option maxHeartbeats 8000000 in
theorem rEncode_walk {w : World} {dd ty : Int} {A : Option Addr} {n c : Nat} {fs : List Fld} (hf : Fl w A n fs) (htx : Txts fs) :
    Calls Tryz.prog 9 #[.int .i64 dd, msgV ty A n c] w (EncodeP (mencode dd ty fs) w) := by
  have HF := Lib.hid hf
  have HTX := Lib.hid htx
  have HNL := Lib.hid hf.1
  have y9 : (n : Int) ≤ 140737488355328 := by
    have := hf.2.1
    omega
  clear hf htx
  unfold msgV
  go_enter Tryz.func9, Tryz.ntmps9
  go_upto_region 1 with fail
  have hb0 := Blk.new w 24 #[.int .i64 ty, .slice A n c]
  have hu0 := (Turn.refl nowhere w).alloc (.cells #[.int .i64 ty, .slice A n c] 24)
  obtain ⟨gm, hg0⟩ : ∃ g, g = w.heap.size := ⟨_, rfl⟩
  rw [← hg0] at hb0 ⊢
  clear hg0
  generalize w.alloc (.cells #[.int .i64 ty, .slice A n c] 24) = w1 at *
  have HBgm := Lib.hid hb0
  have HT0 := Lib.hid hu0
  clear hb0 hu0
  refine wp_region_lit ?_
  refine wR (v := .int .i64 dd) rfl (exec_move rfl rfl) ?_
  simp only [Act.put, zzA, zz0, zz1]
  by_cases h1 : dd < 1
  · have HX9 := Lib.hid (show mencode dd ty fs = .error 50 from by unfold mencode; rw [if_neg (by omega)])
    refine wR (v := .bool true) rfl (ix_lss rfl rfl rfl (decide_eq_true h1)) ?_
    simp only [Act.put, zzA, zz0, zz1]
    refine wR (v := .bool true) rfl (exec_move rfl rfl) ?_
    simp only [Act.put, zzA, zz0, zz1]
    refine wpList_skip (by go_simp) ?_
    simp only [Act.put, zzA, zz0, zz1]
    refine wpList_skip (by go_simp) ?_
    simp only [Act.put, zzA, zz0, zz1]
    refine wR (v := .bool true) rfl (ix_pickT rfl rfl rfl) ?_
    simp only [Act.put, zzA, zz0, zz1]
    clear h1
    go_wp2_with fail
    go_ret2
    exact enc_err HX9.out HT0.out
  · refine wR (v := .bool false) rfl (ix_lss rfl rfl rfl (decide_eq_false h1)) ?_
    simp only [Act.put, zzA, zz0, zz1]
    refine wR (v := .bool false) rfl (exec_move rfl rfl) ?_
    simp only [Act.put, zzA, zz0, zz1]
    refine wR (v := .int .i64 dd) rfl (exec_move rfl rfl) ?_
    simp only [Act.put, zzA, zz0, zz1]
    by_cases h2 : 3 < dd
    · have HX9 := Lib.hid (show mencode dd ty fs = .error 50 from by unfold mencode; rw [if_neg (by omega)])
      refine wR (v := .bool true) rfl (ix_gtr rfl rfl rfl (decide_eq_true h2)) ?_
      simp only [Act.put, zzA, zz0, zz1]
      refine wR (v := .bool true) rfl (ix_pickF rfl rfl rfl) ?_
      simp only [Act.put, zzA, zz0, zz1]
      clear h1 h2
      go_wp2_with fail
      go_ret2
      exact enc_err HX9.out HT0.out
    · refine wR (v := .bool false) rfl (ix_gtr rfl rfl rfl (decide_eq_false h2)) ?_
      simp only [Act.put, zzA, zz0, zz1]
      refine wR (v := .bool false) rfl (ix_pickF rfl rfl rfl) ?_
      simp only [Act.put, zzA, zz0, zz1]
      obtain ⟨d, rfl⟩ : ∃ d : Nat, dd = (d : Int) := ⟨dd.toNat, by omega⟩
      have HD := Lib.hid (show 1 ≤ d ∧ d ≤ 3 by omega)
      have HDI := Lib.hid (show 1 ≤ (d : Int) ∧ (d : Int) ≤ 3 by omega)
      clear h1 h2
      go_upto_region 3 with fail
      refine wp_region_lit ?_
      refine wR (v := msgV ty A n c) rfl (gx_loads rfl rfl (blk_range HBgm.out) Tryz.underlying24 rfl (by rw [size_msg]; rfl)) ?_
      simp only [Act.put, zzA, zz0, zz1]
      have hC := rCheck_walk (ty := ty) (c := c) (HF.out.still HT0.out) HTX.out
      refine wpList_op rfl fun K9 HK9 => ?_
      go_wp2_with fail
      refine (hC).mono ?_
      rintro e w2 ⟨rfl, htx⟩
      refine HK9.out _ _ ?_
      clear HK9
      try simp only [Act.put, zzA, zz0, zz1]
      clear hC
      have HT2 := Lib.hid htx
      clear htx
      refine wR (v := .int .i64 (mcheck ty fs)) rfl (gx_assign rfl rfl) ?_
      simp only [Act.put, zzA, zz0, zz1]
      go_upto_region 4 with fail
      refine wp_region_lit ?_
      refine wR (v := .int .i64 (mcheck ty fs)) rfl (exec_move rfl rfl) ?_
      simp only [Act.put, zzA, zz0, zz1]
      by_cases hck : mcheck ty fs = 0
      · refine wR (v := .bool false) rfl (ix_neq rfl rfl rfl (by rw [hck]; decide)) ?_
        simp only [Act.put, zzA, zz0, zz1]
        obtain ⟨hty, hn24, hgood⟩ := mcheck_zero.1 hck
        have HREF := Lib.hid (show ((∀ f ∈ fs, Amt d f) → mencode (d : Int) ty fs = .ok (wire d ty fs)) ∧ ((∃ f ∈ fs, ¬ Amt d f) → mencode (d : Int) ty fs = .error 41) from by
          have h := mencode_ref (d := (d : Int)) (ty := ty) (fs := fs) HDI.out hck
          rwa [Int.toNat_natCast] at h)
        have HTY := Lib.hid hty
        have HGD := Lib.hid hgood
        have HNO := Lib.hid (good_nos hgood).2
        clear hck hty hn24 hgood
        go_upto_region 6 with fail
        refine wp_region_lit ?_
        refine wR (v := .slice (some ⟨w2.heap.size, 0, none⟩) 16 16) (w' := w2.alloc (.cells (bcs (List.replicate 16 0)).toArray 5)) rfl (gx_make rfl rfl rfl (mk16 w2)) ?_
        simp only [Act.put, zzA, zz0, zz1]
        have hb5 := Blk.new w2 5 (bcs (List.replicate 16 0)).toArray
        rw [← B16_nil] at hb5 ⊢
        have hu5 := (Turn.refl nowhere w2).alloc (.cells (bcs (B16 [])).toArray 5)
        obtain ⟨gb, hgb⟩ : ∃ g, g = w2.heap.size := ⟨_, rfl⟩
        rw [← hgb] at hb5 ⊢
        have HGB := Lib.hid (show w2.heap.size ≤ gb from by omega)
        clear hgb
        generalize w2.alloc (.cells (bcs (B16 [])).toArray 5) = w3 at *
        have HB5 := Lib.hid hb5
        have HU5 := Lib.hid hu5
        clear hb5 hu5
        refine wR (v := .slice (some ⟨gb, 0, none⟩) 16 16) rfl (gx_assign rfl rfl) ?_
        simp only [Act.put, zzA, zz0, zz1]
        go_upto_region 7 with fail
        refine wp_region_lit ?_
        refine wR (v := .bool false) rfl (gx_assign rfl rfl) ?_
        simp only [Act.put, zzA, zz0, zz1]
        go_upto_region 8 with fail
        refine wp_region_lit ?_
        refine wR (v := .int .i64 0) rfl (gx_assign rfl rfl) ?_
        simp only [Act.put, zzA, zz0, zz1]
        go_wp2_with fail
        go_loopg [8, 9] n (fun gk lv jv wr => ∃ (j : Nat) (lb : Bool), j + gk = n ∧ jv = .int .i64 (j : Int) ∧ lv = .bool lb ∧ Bits1 gb d w2 (fs.take j) lb wr)
        case atStart => exact ⟨0, false, by omega, rfl, rfl, rfl, HB5.out, HU5.out, fun f hf => by cases hf⟩
        obtain ⟨j, lb, hjl, rfl, rfl, hb1, hb2, hb3, hb4⟩ := hrel
        have HJL := Lib.hid hjl
        have HLB := Lib.hid hb1
        have HB6 := Lib.hid hb2
        have HTR := Lib.hid hb3
        have HAM := Lib.hid hb4
        clear hjl hb1 hb2 hb3 hb4
        have HB2 := Lib.hid (HBgm.out.turn (HT2.out.next HTR.out) (fun e => e))
        go_upto_region 9 with fail
        refine wp_region_lit ?_
        refine wR (v := .int .i64 (j : Int)) rfl (exec_move rfl rfl) ?_
        simp only [Act.put, zzA, zz0, zz1]
        refine wR (v := .pointer (some ⟨gm, 1, none⟩)) rfl (exec_field (off := 0) (d := 1) rfl rfl (by kernel_rfl)) ?_
        simp only [Act.put, zzA, zz0, zz1]
        refine wR (v := .slice A n c) rfl (exec_load1 rfl rfl (by kernel_rfl) (HB2.out.cell 1)) ?_
        simp only [Act.put, zzA, zz0, zz1]
        refine wR (v := .int .i64 (n : Int)) rfl (gx_len rfl rfl Tryz.underlying22) ?_
        simp only [Act.put, zzA, zz0, zz1]
        by_cases hlt : j < n
        · have HLT := Lib.hid hlt
          have y1 : (j : Int) < (n : Int) := by omega
          obtain ⟨bF, oF, rfl, hr⟩ := (HF.out.still ((HT0.out.next HT2.out).next HTR.out)).2.2 (by omega)
          obtain ⟨f, hf⟩ : ∃ f, fs[j]? = some f := ⟨_, List.getElem?_eq_getElem (show j < fs.length from by rw [HNL.out]; exact hlt)⟩
          have hmem := List.mem_of_getElem? hf
          obtain ⟨q, hq⟩ : ∃ q : Nat, f.1 = (q : Int) := ⟨f.1.toNat, by have := HNO.out f hmem; omega⟩
          have HQ := Lib.hid hq
          have HQ2 := Lib.hid (show 2 ≤ q ∧ q ≤ 97 by have := HNO.out f hmem; omega)
          obtain ⟨p, hp⟩ : ∃ p, p = q - 1 := ⟨_, rfl⟩
          have HP := Lib.hid hp
          have y3 : p < 128 := by have := HQ2.out; omega
          have HRR := Lib.hid (hr j f hf)
          have HMEM := Lib.hid hmem
          have HSN := Lib.hid (take_snoc hf)
          clear hr hf hlt hmem hq hp
          refine wR (v := .bool true) rfl (ix_lss rfl rfl rfl (decide_eq_true y1)) ?_
          simp only [Act.put, zzA, zz0, zz1]
          go_upto_region 11 with fail
          refine wp_region_lit ?_
          refine wR (v := .pointer (some ⟨gm, 1, none⟩)) rfl (exec_field (off := 0) (d := 1) rfl rfl (by kernel_rfl)) ?_
          simp only [Act.put, zzA, zz0, zz1]
          refine wR (v := .slice (some ⟨bF, oF, none⟩) n c) rfl (exec_load1 rfl rfl (by kernel_rfl) (HB2.out.cell 1)) ?_
          simp only [Act.put, zzA, zz0, zz1]
          refine wR (v := .int .i64 (j : Int)) rfl (exec_move rfl rfl) ?_
          simp only [Act.put, zzA, zz0, zz1]
          refine wR (v := .pointer (some ⟨bF, oF + j * 2, none⟩)) rfl (gx_iaddr (i := j) (sz := 2) rfl rfl rfl Tryz.underlying22 size_field HLT.out (by omega)) ?_
          simp only [Act.put, zzA, zz0, zz1]
          refine wR (v := .pointer (some ⟨bF, oF + j * 2, none⟩)) rfl (exec_field (off := oF + j * 2) (d := 0) rfl rfl (by kernel_rfl)) ?_
          simp only [Act.put, zzA, zz0, zz1]
          refine wR (v := .int .i64 f.1) rfl (exec_load1 rfl rfl (by kernel_rfl) (HRR.out 0 _ rfl)) ?_
          simp only [Act.put, zzA, zz0, zz1]
          refine wR (v := .int .i64 (p : Int)) rfl (ix_sub rfl rfl rfl (by have := HQ.out; have := HP.out; have := HQ2.out; omega) (by omega)) ?_
          simp only [Act.put, zzA, zz0, zz1]
          refine wR (v := .int .i64 (p : Int)) rfl (gx_assign rfl rfl) ?_
          simp only [Act.put, zzA, zz0, zz1]
          go_upto_region 12 with fail
          have hS0 : Blk wr.drew gb 5 (bcs (B16 (fs.take j))).toArray := HB6.out.drew
          have HUd := Lib.hid (HTR.out.drew)
          refine wp_region_till (fun W => Blk W gb 5 (bcs (B16 (fs.take j))).toArray) 13 (by kernel_rfl) ?_
          generalize wr.drew = w4 at *
          refine till_take (i := 0) (v := .slice (some ⟨gb, 0, none⟩) 16 16) rfl (by kernel_rfl) (by kernel_rfl) (fun _ _ _ h => h) (.inl ⟨by rfl, fun W hW => exec_move rfl rfl⟩) hS0 ?_
          simp only [Act.put, zzA, zz0, zz1]
          refine till_take (i := 1) (v := .int .i64 (p : Int)) rfl (by kernel_rfl) (by kernel_rfl) (fun _ _ _ h => h) (.inl ⟨by rfl, fun W hW => exec_move rfl rfl⟩) hS0 ?_
          simp only [Act.put, zzA, zz0, zz1]
          refine till_take (i := 2) (v := .int .i64 ((p / 8 : Nat) : Int)) rfl (by kernel_rfl) (by kernel_rfl) (fun _ _ _ h => h) (.inl ⟨by rfl, fun W hW => ix_quo (n := p) (m := 8) rfl rfl rfl (by decide) (by omega)⟩) hS0 ?_
          simp only [Act.put, zzA, zz0, zz1]
          refine till_take (i := 3) (v := .slice (some ⟨gb, 0, none⟩) 16 16) rfl (by kernel_rfl) (by kernel_rfl) (fun _ _ _ h => h) (.inl ⟨by rfl, fun W hW => exec_move rfl rfl⟩) hS0 ?_
          simp only [Act.put, zzA, zz0, zz1]
          refine till_take (i := 4) (v := .int .i64 (p : Int)) rfl (by kernel_rfl) (by kernel_rfl) (fun _ _ _ h => h) (.inl ⟨by rfl, fun W hW => exec_move rfl rfl⟩) hS0 ?_
          simp only [Act.put, zzA, zz0, zz1]
          refine till_take (i := 5) (v := .int .i64 ((p / 8 : Nat) : Int)) rfl (by kernel_rfl) (by kernel_rfl) (fun _ _ _ h => h) (.inl ⟨by rfl, fun W hW => ix_quo (n := p) (m := 8) rfl rfl rfl (by decide) (by omega)⟩) hS0 ?_
          simp only [Act.put, zzA, zz0, zz1]
          refine till_take (i := 6) (v := .pointer (some ⟨gb, p / 8, none⟩)) rfl (by kernel_rfl) (by kernel_rfl) (fun _ _ _ h => h) (.inl ⟨by rfl, fun W hW => gx_iaddr (i := p / 8) (sz := 1) rfl rfl rfl Tryz.underlying26 size_byte1 (by omega) (by omega)⟩) hS0 ?_
          simp only [Act.put, zzA, zz0, zz1]
          refine till_take (i := 7) (v := .int .u8 (((B16 (fs.take j)).getD (p / 8) 0).toNat : Int)) rfl (by kernel_rfl) (by kernel_rfl) (fun _ _ _ h => h) (.inl ⟨by rfl, fun W hW => exec_load1 rfl rfl (by kernel_rfl) (blk_byte hW (by rw [B16_len]; omega))⟩) hS0 ?_
          simp only [Act.put, zzA, zz0, zz1]
          refine till_take (i := 8) (v := .int .i64 (p : Int)) rfl (by kernel_rfl) (by kernel_rfl) (fun _ _ _ h => h) (.inl ⟨by rfl, fun W hW => exec_move rfl rfl⟩) hS0 ?_
          simp only [Act.put, zzA, zz0, zz1]
          refine till_take (i := 9) (v := .int .i64 ((p % 8 : Nat) : Int)) rfl (by kernel_rfl) (by kernel_rfl) (fun _ _ _ h => h) (.inl ⟨by rfl, fun W hW => ix_rem (n := p) (m := 8) rfl rfl rfl (by decide) (by omega)⟩) hS0 ?_
          simp only [Act.put, zzA, zz0, zz1]
          refine till_take (i := 10) (v := .int .u8 ((128 / 2 ^ (p % 8) : Nat) : Int)) rfl (by kernel_rfl) (by kernel_rfl) (fun _ _ _ h => h) (.inl ⟨by rfl, fun W hW => b8_shr rfl rfl (Nat.mod_lt _ (by decide))⟩) hS0 ?_
          simp only [Act.put, zzA, zz0, zz1]
          refine till_take (i := 11) (v := .int .u8 (((B16 (fs.take j)).getD (p / 8) 0 ||| UInt8.ofNat (128 / 2 ^ (p % 8))).toNat : Int)) rfl (by kernel_rfl) (by kernel_rfl) (fun _ _ _ h => h) (.inl ⟨by rfl, fun W hW => b8_or rfl rfl rfl (by have := Nat.div_le_self 128 (2 ^ (p % 8)); omega)⟩) hS0 ?_
          simp only [Act.put, zzA, zz0, zz1]
          refine till_take (i := 12) (v := .pointer (some ⟨gb, p / 8, none⟩)) rfl (by kernel_rfl) (by kernel_rfl) (fun _ _ _ h => h) (.inl ⟨by rfl, fun W hW => gx_iaddr (i := p / 8) (sz := 1) rfl rfl rfl Tryz.underlying26 size_byte1 (by omega) (by omega)⟩) hS0 ?_
          simp only [Act.put, zzA, zz0, zz1]
          refine till_step (i := 13) (by kernel_rfl) rfl rfl ?_
          intro K1 HK1
          refine wp_store1 (v := .int .u8 (((B16 (fs.take j)).getD (p / 8) 0 ||| UInt8.ofNat (128 / 2 ^ (p % 8))).toNat : Int)) 5 (.tmp 56) (.tmp 55) rfl hS0 rfl rfl (by rw [bcs_size, B16_len]; omega) rfl rfl size_byte1 ?_
          intro hbz huz
          rw [mbcs_set] at hbz
          have HBZ := Lib.hid (show Blk _ gb 5 (bcs (B16 (fs.take (j + 1)))).toArray from by
            rw [HSN.out, B16_snoc _ _ HQ.out HQ2.out.1 HQ2.out.2, ← HP.out]
            exact hbz)
          have HTZ := Lib.hid (above HUd.out HGB.out huz)
          clear hbz huz hS0
          generalize w4.setCell ⟨gb, p / 8, none⟩ (.int .u8 (((B16 (fs.take j)).getD (p / 8) 0 ||| UInt8.ofNat (128 / 2 ^ (p % 8))).toNat : Int)) = w5 at *
          refine HK1.out _ _ ⟨fun h => absurd h (by decide), ?_⟩
          clear HK1
          simp only [Act.put, zzA, zz0, zz1]
          refine till_done (by kernel_rfl) ?_
          refine NoPanic.normal ?_
          cases lb with
          | true =>
            have HFN := Lib.hid (show (true) = far64 (fs.take (j + 1)) from by
              rw [HSN.out, far_snoc, ← HLB.out]
              rfl)
            have HB7 := Lib.hid (HBgm.out.turn (HT2.out.next HTZ.out) (fun e => e))
            obtain ⟨bG, oG, hgo, hr⟩ := (HF.out.still ((HT0.out.next HT2.out).next HTZ.out)).2.2 (by have := HLT.out; omega)
            injection hgo with hgo
            injection hgo with hgo1 hgo2
            subst hgo1 hgo2
            obtain ⟨f9, hf9⟩ : ∃ f, fs[j]? = some f := ⟨_, List.getElem?_eq_getElem (show j < fs.length from by rw [HNL.out]; exact HLT.out)⟩
            obtain rfl : f9 = f := by
              have := (take_snoc hf9).symm.trans HSN.out
              simpa using this
            have HR7 := Lib.hid (hr j f9 hf9)
            clear hr hf9
            go_upto_region 13 with fail
            refine wp_region_lit ?_
            refine wR (v := .bool true) rfl (exec_move rfl rfl) ?_
            simp only [Act.put, zzA, zz0, zz1]
            refine wR (v := .bool true) rfl (exec_move rfl rfl) ?_
            simp only [Act.put, zzA, zz0, zz1]
            refine wpList_skip (by go_simp) ?_
            simp only [Act.put, zzA, zz0, zz1]
            refine wpList_skip (by go_simp) ?_
            simp only [Act.put, zzA, zz0, zz1]
            refine wR (v := .bool true) rfl (ix_pickT rfl rfl rfl) ?_
            simp only [Act.put, zzA, zz0, zz1]
            refine wR (v := .bool true) rfl (gx_assign rfl rfl) ?_
            simp only [Act.put, zzA, zz0, zz1]
            go_upto_region 14 with fail
            refine wp_region_lit ?_
            refine wR (v := .int .i64 (d : Int)) rfl (exec_move rfl rfl) ?_
            simp only [Act.put, zzA, zz0, zz1]
            by_cases h3 : (d : Int) = 3
            · refine wR (v := .bool true) rfl (ix_eql rfl rfl rfl (decide_eq_true h3)) ?_
              simp only [Act.put, zzA, zz0, zz1]
              refine wR (v := .bool true) rfl (exec_move rfl rfl) ?_
              simp only [Act.put, zzA, zz0, zz1]
              refine wR (v := .pointer (some ⟨gm, 1, none⟩)) rfl (exec_field (off := 0) (d := 1) rfl rfl (by kernel_rfl)) ?_
              simp only [Act.put, zzA, zz0, zz1]
              refine wR (v := .slice (some ⟨bF, oF, none⟩) n c) rfl (exec_load1 rfl rfl (by kernel_rfl) (HB7.out.cell 1)) ?_
              simp only [Act.put, zzA, zz0, zz1]
              refine wR (v := .int .i64 (j : Int)) rfl (exec_move rfl rfl) ?_
              simp only [Act.put, zzA, zz0, zz1]
              refine wR (v := .pointer (some ⟨bF, oF + j * 2, none⟩)) rfl (gx_iaddr (i := j) (sz := 2) rfl rfl rfl Tryz.underlying22 size_field HLT.out (by omega)) ?_
              simp only [Act.put, zzA, zz0, zz1]
              refine wR (v := .pointer (some ⟨bF, oF + j * 2, none⟩)) rfl (exec_field (off := oF + j * 2) (d := 0) rfl rfl (by kernel_rfl)) ?_
              simp only [Act.put, zzA, zz0, zz1]
              refine wR (v := .int .i64 f9.1) rfl (exec_load1 rfl rfl (by kernel_rfl) (HR7.out 0 _ rfl)) ?_
              simp only [Act.put, zzA, zz0, zz1]
              by_cases h4 : f9.1 = 4
              · have HL12 := Lib.hid (amt_len HGD.out HMEM.out h4)
                refine wR (v := .bool true) rfl (ix_eql rfl rfl rfl (decide_eq_true h4)) ?_
                simp only [Act.put, zzA, zz0, zz1]
                refine wR (v := .bool true) rfl (ix_pickT rfl rfl rfl) ?_
                simp only [Act.put, zzA, zz0, zz1]
                refine wR (v := .bool true) rfl (exec_move rfl rfl) ?_
                simp only [Act.put, zzA, zz0, zz1]
                refine wR (v := .pointer (some ⟨gm, 1, none⟩)) rfl (exec_field (off := 0) (d := 1) rfl rfl (by kernel_rfl)) ?_
                simp only [Act.put, zzA, zz0, zz1]
                refine wR (v := .slice (some ⟨bF, oF, none⟩) n c) rfl (exec_load1 rfl rfl (by kernel_rfl) (HB7.out.cell 1)) ?_
                simp only [Act.put, zzA, zz0, zz1]
                refine wR (v := .int .i64 (j : Int)) rfl (exec_move rfl rfl) ?_
                simp only [Act.put, zzA, zz0, zz1]
                refine wR (v := .pointer (some ⟨bF, oF + j * 2, none⟩)) rfl (gx_iaddr (i := j) (sz := 2) rfl rfl rfl Tryz.underlying22 size_field HLT.out (by omega)) ?_
                simp only [Act.put, zzA, zz0, zz1]
                refine wR (v := .pointer (some ⟨bF, oF + j * 2 + 1, none⟩)) rfl (exec_field (off := oF + j * 2) (d := 1) rfl rfl (by kernel_rfl)) ?_
                simp only [Act.put, zzA, zz0, zz1]
                refine wR (v := strV f9.2) rfl (exec_load1 rfl rfl (by kernel_rfl) (HR7.out 1 _ rfl)) ?_
                simp only [Act.put, zzA, zz0, zz1]
                refine wR (v := strV (f9.2.take 2)) rfl (exec_sto (n := 2) rfl rfl rfl (by rw [HL12.out]; decide)) ?_
                simp only [Act.put, zzA, zz0, zz1]
                by_cases h5 : f9.2.take 2 = [48, 48]
                · refine wR (v := .bool false) rfl (sneq_f (l := f9.2.take 2) (m := [48, 48]) rfl rfl rfl h5) ?_
                  simp only [Act.put, zzA, zz0, zz1]
                  refine wR (v := .bool false) rfl (ix_pickT rfl rfl rfl) ?_
                  simp only [Act.put, zzA, zz0, zz1]
                  have HA5 := Lib.hid (show Amt d f9 from fun _ _ => h5)
                  clear h3 h4 h5
                  have HAN := Lib.hid (show ∀ f ∈ fs.take (j + 1), Amt d f from by
                    rw [HSN.out]
                    intro g hg
                    rcases List.mem_append.1 hg with hg | hg
                    · exact HAM.out g hg
                    · obtain rfl := List.mem_singleton.1 hg
                      exact HA5.out)
                  go_upto_region 10 with fail
                  refine wp_region_lit ?_
                  refine wR (v := .int .i64 (j : Int)) rfl (exec_move rfl rfl) ?_
                  simp only [Act.put, zzA, zz0, zz1]
                  refine wR (v := .int .i64 ((j + 1 : Nat) : Int)) rfl (ix_add rfl rfl rfl (by omega) (by omega)) ?_
                  simp only [Act.put, zzA, zz0, zz1]
                  refine wR (v := .int .i64 ((j + 1 : Nat) : Int)) rfl (gx_assign rfl rfl) ?_
                  simp only [Act.put, zzA, zz0, zz1]
                  go_wp2_with fail
                  go_roundg (gk - 1)
                  case measure => have := HJL.out; have := HLT.out; omega
                  case rel => exact ⟨j + 1, _, by have := HJL.out; have := HLT.out; omega, by go_num, rfl, HFN.out, HBZ.out, HTZ.out, HAN.out⟩
                · refine wR (v := .bool true) rfl (sneq_t (l := f9.2.take 2) (m := [48, 48]) rfl rfl rfl h5) ?_
                  simp only [Act.put, zzA, zz0, zz1]
                  refine wR (v := .bool true) rfl (ix_pickT rfl rfl rfl) ?_
                  simp only [Act.put, zzA, zz0, zz1]
                  have HX9 := Lib.hid (HREF.out.2 ⟨f9, HMEM.out, fun ha => h5 (ha (by omega) h4)⟩)
                  clear h3 h4 h5
                  go_wp2_with fail
                  go_ret2
                  exact enc_err HX9.out ((HT0.out.next HT2.out).next HTZ.out)
              · refine wR (v := .bool false) rfl (ix_eql rfl rfl rfl (decide_eq_false h4)) ?_
                simp only [Act.put, zzA, zz0, zz1]
                refine wR (v := .bool false) rfl (ix_pickT rfl rfl rfl) ?_
                simp only [Act.put, zzA, zz0, zz1]
                refine wR (v := .bool false) rfl (exec_move rfl rfl) ?_
                simp only [Act.put, zzA, zz0, zz1]
                have HA5 := Lib.hid (show Amt d f9 from fun _ h => absurd h h4)
                clear h3 h4
                go_upto_region 10 with fail
                refine wp_region_lit ?_
                have HAN := Lib.hid (show ∀ f ∈ fs.take (j + 1), Amt d f from by
                  rw [HSN.out]
                  intro g hg
                  rcases List.mem_append.1 hg with hg | hg
                  · exact HAM.out g hg
                  · obtain rfl := List.mem_singleton.1 hg
                    exact HA5.out)
                refine wR (v := .int .i64 (j : Int)) rfl (exec_move rfl rfl) ?_
                simp only [Act.put, zzA, zz0, zz1]
                refine wR (v := .int .i64 ((j + 1 : Nat) : Int)) rfl (ix_add rfl rfl rfl (by omega) (by omega)) ?_
                simp only [Act.put, zzA, zz0, zz1]
                refine wR (v := .int .i64 ((j + 1 : Nat) : Int)) rfl (gx_assign rfl rfl) ?_
                simp only [Act.put, zzA, zz0, zz1]
                go_wp2_with fail
                go_roundg (gk - 1)
                case measure => have := HJL.out; have := HLT.out; omega
                case rel => exact ⟨j + 1, _, by have := HJL.out; have := HLT.out; omega, by go_num, rfl, HFN.out, HBZ.out, HTZ.out, HAN.out⟩
            · refine wR (v := .bool false) rfl (ix_eql rfl rfl rfl (decide_eq_false h3)) ?_
              simp only [Act.put, zzA, zz0, zz1]
              refine wR (v := .bool false) rfl (exec_move rfl rfl) ?_
              simp only [Act.put, zzA, zz0, zz1]
              have HA5 := Lib.hid (show Amt d f9 from fun h => absurd (by omega) h3)
              clear h3
              go_upto_region 10 with fail
              refine wp_region_lit ?_
              have HAN := Lib.hid (show ∀ f ∈ fs.take (j + 1), Amt d f from by
                rw [HSN.out]
                intro g hg
                rcases List.mem_append.1 hg with hg | hg
                · exact HAM.out g hg
                · obtain rfl := List.mem_singleton.1 hg
                  exact HA5.out)
              refine wR (v := .int .i64 (j : Int)) rfl (exec_move rfl rfl) ?_
              simp only [Act.put, zzA, zz0, zz1]
              refine wR (v := .int .i64 ((j + 1 : Nat) : Int)) rfl (ix_add rfl rfl rfl (by omega) (by omega)) ?_
              simp only [Act.put, zzA, zz0, zz1]
              refine wR (v := .int .i64 ((j + 1 : Nat) : Int)) rfl (gx_assign rfl rfl) ?_
              simp only [Act.put, zzA, zz0, zz1]
              go_wp2_with fail
              go_roundg (gk - 1)
              case measure => have := HJL.out; have := HLT.out; omega
              case rel => exact ⟨j + 1, _, by have := HJL.out; have := HLT.out; omega, by go_num, rfl, HFN.out, HBZ.out, HTZ.out, HAN.out⟩
          | false =>
            have HFN := Lib.hid (show (decide ((64 : Int) ≤ (p : Int))) = far64 (fs.take (j + 1)) from by
              rw [HSN.out, far_snoc, ← HLB.out]
              rw [Bool.false_or, decide_eq_decide]
              have := HQ.out
              have := HP.out
              have := HQ2.out
              omega)
            have HB7 := Lib.hid (HBgm.out.turn (HT2.out.next HTZ.out) (fun e => e))
            obtain ⟨bG, oG, hgo, hr⟩ := (HF.out.still ((HT0.out.next HT2.out).next HTZ.out)).2.2 (by have := HLT.out; omega)
            injection hgo with hgo
            injection hgo with hgo1 hgo2
            subst hgo1 hgo2
            obtain ⟨f9, hf9⟩ : ∃ f, fs[j]? = some f := ⟨_, List.getElem?_eq_getElem (show j < fs.length from by rw [HNL.out]; exact HLT.out)⟩
            obtain rfl : f9 = f := by
              have := (take_snoc hf9).symm.trans HSN.out
              simpa using this
            have HR7 := Lib.hid (hr j f9 hf9)
            clear hr hf9
            go_upto_region 13 with fail
            refine wp_region_lit ?_
            refine wR (v := .bool false) rfl (exec_move rfl rfl) ?_
            simp only [Act.put, zzA, zz0, zz1]
            refine wR (v := .bool false) rfl (exec_move rfl rfl) ?_
            simp only [Act.put, zzA, zz0, zz1]
            refine wR (v := .int .i64 (p : Int)) rfl (exec_move rfl rfl) ?_
            simp only [Act.put, zzA, zz0, zz1]
            refine wR (v := .bool (decide ((64 : Int) ≤ (p : Int)))) rfl (ix_geq rfl rfl rfl rfl) ?_
            simp only [Act.put, zzA, zz0, zz1]
            refine wR (v := .bool (decide ((64 : Int) ≤ (p : Int)))) rfl (ix_pickF rfl rfl rfl) ?_
            simp only [Act.put, zzA, zz0, zz1]
            refine wR (v := .bool (decide ((64 : Int) ≤ (p : Int)))) rfl (gx_assign rfl rfl) ?_
            simp only [Act.put, zzA, zz0, zz1]
            go_upto_region 14 with fail
            refine wp_region_lit ?_
            refine wR (v := .int .i64 (d : Int)) rfl (exec_move rfl rfl) ?_
            simp only [Act.put, zzA, zz0, zz1]
            by_cases h3 : (d : Int) = 3
            · refine wR (v := .bool true) rfl (ix_eql rfl rfl rfl (decide_eq_true h3)) ?_
              simp only [Act.put, zzA, zz0, zz1]
              refine wR (v := .bool true) rfl (exec_move rfl rfl) ?_
              simp only [Act.put, zzA, zz0, zz1]
              refine wR (v := .pointer (some ⟨gm, 1, none⟩)) rfl (exec_field (off := 0) (d := 1) rfl rfl (by kernel_rfl)) ?_
              simp only [Act.put, zzA, zz0, zz1]
              refine wR (v := .slice (some ⟨bF, oF, none⟩) n c) rfl (exec_load1 rfl rfl (by kernel_rfl) (HB7.out.cell 1)) ?_
              simp only [Act.put, zzA, zz0, zz1]
              refine wR (v := .int .i64 (j : Int)) rfl (exec_move rfl rfl) ?_
              simp only [Act.put, zzA, zz0, zz1]
              refine wR (v := .pointer (some ⟨bF, oF + j * 2, none⟩)) rfl (gx_iaddr (i := j) (sz := 2) rfl rfl rfl Tryz.underlying22 size_field HLT.out (by omega)) ?_
              simp only [Act.put, zzA, zz0, zz1]
              refine wR (v := .pointer (some ⟨bF, oF + j * 2, none⟩)) rfl (exec_field (off := oF + j * 2) (d := 0) rfl rfl (by kernel_rfl)) ?_
              simp only [Act.put, zzA, zz0, zz1]
              refine wR (v := .int .i64 f9.1) rfl (exec_load1 rfl rfl (by kernel_rfl) (HR7.out 0 _ rfl)) ?_
              simp only [Act.put, zzA, zz0, zz1]
              by_cases h4 : f9.1 = 4
              · have HL12 := Lib.hid (amt_len HGD.out HMEM.out h4)
                refine wR (v := .bool true) rfl (ix_eql rfl rfl rfl (decide_eq_true h4)) ?_
                simp only [Act.put, zzA, zz0, zz1]
                refine wR (v := .bool true) rfl (ix_pickT rfl rfl rfl) ?_
                simp only [Act.put, zzA, zz0, zz1]
                refine wR (v := .bool true) rfl (exec_move rfl rfl) ?_
                simp only [Act.put, zzA, zz0, zz1]
                refine wR (v := .pointer (some ⟨gm, 1, none⟩)) rfl (exec_field (off := 0) (d := 1) rfl rfl (by kernel_rfl)) ?_
                simp only [Act.put, zzA, zz0, zz1]
                refine wR (v := .slice (some ⟨bF, oF, none⟩) n c) rfl (exec_load1 rfl rfl (by kernel_rfl) (HB7.out.cell 1)) ?_
                simp only [Act.put, zzA, zz0, zz1]
                refine wR (v := .int .i64 (j : Int)) rfl (exec_move rfl rfl) ?_
                simp only [Act.put, zzA, zz0, zz1]
                refine wR (v := .pointer (some ⟨bF, oF + j * 2, none⟩)) rfl (gx_iaddr (i := j) (sz := 2) rfl rfl rfl Tryz.underlying22 size_field HLT.out (by omega)) ?_
                simp only [Act.put, zzA, zz0, zz1]
                refine wR (v := .pointer (some ⟨bF, oF + j * 2 + 1, none⟩)) rfl (exec_field (off := oF + j * 2) (d := 1) rfl rfl (by kernel_rfl)) ?_
                simp only [Act.put, zzA, zz0, zz1]
                refine wR (v := strV f9.2) rfl (exec_load1 rfl rfl (by kernel_rfl) (HR7.out 1 _ rfl)) ?_
                simp only [Act.put, zzA, zz0, zz1]
                refine wR (v := strV (f9.2.take 2)) rfl (exec_sto (n := 2) rfl rfl rfl (by rw [HL12.out]; decide)) ?_
                simp only [Act.put, zzA, zz0, zz1]
                by_cases h5 : f9.2.take 2 = [48, 48]
                · refine wR (v := .bool false) rfl (sneq_f (l := f9.2.take 2) (m := [48, 48]) rfl rfl rfl h5) ?_
                  simp only [Act.put, zzA, zz0, zz1]
                  refine wR (v := .bool false) rfl (ix_pickT rfl rfl rfl) ?_
                  simp only [Act.put, zzA, zz0, zz1]
                  have HA5 := Lib.hid (show Amt d f9 from fun _ _ => h5)
                  clear h3 h4 h5
                  have HAN := Lib.hid (show ∀ f ∈ fs.take (j + 1), Amt d f from by
                    rw [HSN.out]
                    intro g hg
                    rcases List.mem_append.1 hg with hg | hg
                    · exact HAM.out g hg
                    · obtain rfl := List.mem_singleton.1 hg
                      exact HA5.out)
                  go_upto_region 10 with fail
                  refine wp_region_lit ?_
                  refine wR (v := .int .i64 (j : Int)) rfl (exec_move rfl rfl) ?_
                  simp only [Act.put, zzA, zz0, zz1]
                  refine wR (v := .int .i64 ((j + 1 : Nat) : Int)) rfl (ix_add rfl rfl rfl (by omega) (by omega)) ?_
                  simp only [Act.put, zzA, zz0, zz1]
                  refine wR (v := .int .i64 ((j + 1 : Nat) : Int)) rfl (gx_assign rfl rfl) ?_
                  simp only [Act.put, zzA, zz0, zz1]
                  go_wp2_with fail
                  go_roundg (gk - 1)
                  case measure => have := HJL.out; have := HLT.out; omega
                  case rel => exact ⟨j + 1, _, by have := HJL.out; have := HLT.out; omega, by go_num, rfl, HFN.out, HBZ.out, HTZ.out, HAN.out⟩
                · refine wR (v := .bool true) rfl (sneq_t (l := f9.2.take 2) (m := [48, 48]) rfl rfl rfl h5) ?_
                  simp only [Act.put, zzA, zz0, zz1]
                  refine wR (v := .bool true) rfl (ix_pickT rfl rfl rfl) ?_
                  simp only [Act.put, zzA, zz0, zz1]
                  have HX9 := Lib.hid (HREF.out.2 ⟨f9, HMEM.out, fun ha => h5 (ha (by omega) h4)⟩)
                  clear h3 h4 h5
                  go_wp2_with fail
                  go_ret2
                  exact enc_err HX9.out ((HT0.out.next HT2.out).next HTZ.out)
              · refine wR (v := .bool false) rfl (ix_eql rfl rfl rfl (decide_eq_false h4)) ?_
                simp only [Act.put, zzA, zz0, zz1]
                refine wR (v := .bool false) rfl (ix_pickT rfl rfl rfl) ?_
                simp only [Act.put, zzA, zz0, zz1]
                refine wR (v := .bool false) rfl (exec_move rfl rfl) ?_
                simp only [Act.put, zzA, zz0, zz1]
                have HA5 := Lib.hid (show Amt d f9 from fun _ h => absurd h h4)
                clear h3 h4
                go_upto_region 10 with fail
                refine wp_region_lit ?_
                have HAN := Lib.hid (show ∀ f ∈ fs.take (j + 1), Amt d f from by
                  rw [HSN.out]
                  intro g hg
                  rcases List.mem_append.1 hg with hg | hg
                  · exact HAM.out g hg
                  · obtain rfl := List.mem_singleton.1 hg
                    exact HA5.out)
                refine wR (v := .int .i64 (j : Int)) rfl (exec_move rfl rfl) ?_
                simp only [Act.put, zzA, zz0, zz1]
                refine wR (v := .int .i64 ((j + 1 : Nat) : Int)) rfl (ix_add rfl rfl rfl (by omega) (by omega)) ?_
                simp only [Act.put, zzA, zz0, zz1]
                refine wR (v := .int .i64 ((j + 1 : Nat) : Int)) rfl (gx_assign rfl rfl) ?_
                simp only [Act.put, zzA, zz0, zz1]
                go_wp2_with fail
                go_roundg (gk - 1)
                case measure => have := HJL.out; have := HLT.out; omega
                case rel => exact ⟨j + 1, _, by have := HJL.out; have := HLT.out; omega, by go_num, rfl, HFN.out, HBZ.out, HTZ.out, HAN.out⟩
            · refine wR (v := .bool false) rfl (ix_eql rfl rfl rfl (decide_eq_false h3)) ?_
              simp only [Act.put, zzA, zz0, zz1]
              refine wR (v := .bool false) rfl (exec_move rfl rfl) ?_
              simp only [Act.put, zzA, zz0, zz1]
              have HA5 := Lib.hid (show Amt d f9 from fun h => absurd (by omega) h3)
              clear h3
              go_upto_region 10 with fail
              refine wp_region_lit ?_
              have HAN := Lib.hid (show ∀ f ∈ fs.take (j + 1), Amt d f from by
                rw [HSN.out]
                intro g hg
                rcases List.mem_append.1 hg with hg | hg
                · exact HAM.out g hg
                · obtain rfl := List.mem_singleton.1 hg
                  exact HA5.out)
              refine wR (v := .int .i64 (j : Int)) rfl (exec_move rfl rfl) ?_
              simp only [Act.put, zzA, zz0, zz1]
              refine wR (v := .int .i64 ((j + 1 : Nat) : Int)) rfl (ix_add rfl rfl rfl (by omega) (by omega)) ?_
              simp only [Act.put, zzA, zz0, zz1]
              refine wR (v := .int .i64 ((j + 1 : Nat) : Int)) rfl (gx_assign rfl rfl) ?_
              simp only [Act.put, zzA, zz0, zz1]
              go_wp2_with fail
              go_roundg (gk - 1)
              case measure => have := HJL.out; have := HLT.out; omega
              case rel => exact ⟨j + 1, _, by have := HJL.out; have := HLT.out; omega, by go_num, rfl, HFN.out, HBZ.out, HTZ.out, HAN.out⟩
        · refine wR (v := .bool false) rfl (ix_lss rfl rfl rfl (decide_eq_false (by omega))) ?_
          simp only [Act.put, zzA, zz0, zz1]
          cases lb with
          | true =>
            have hall : fs.take j = fs := List.take_of_length_le (by rw [HNL.out]; omega)
            have hlb := HLB.out
            have hb6 := HB6.out
            have ham := HAM.out
            rw [hall] at hlb hb6 ham
            have HENC := Lib.hid (HREF.out.1 ham)
            have HSAID := Lib.hid ((mencode_ok.1 (HREF.out.1 ham)).2.1.2.2.2)
            have HWL := Lib.hid (wire_len HD.out (show Wr d ty fs from by
              have h := (mencode_ok.1 (HREF.out.1 ham)).2.1
              rwa [Int.toNat_natCast] at h))
            have HB9 := Lib.hid hb6
            have HFA := Lib.hid hlb
            clear hall hlb hb6 ham hlt HLB HB6 HAM HJL
            have HBM9 := Lib.hid (HBgm.out.turn (HT2.out.next HTR.out) (fun e => e))
            go_upto_region 16 with fail
            refine wp_region_lit ?_
            refine wR (v := .bool true) rfl (exec_move rfl rfl) ?_
            simp only [Act.put, zzA, zz0, zz1]
            have HH2 := Lib.hid ((far_half HNO.out).1 HFA.out.symm)
            go_upto_region 17 with fail
            refine wp_region_lit ?_
            refine wR (v := .slice (some ⟨gb, 0, none⟩) 16 16) rfl (exec_move rfl rfl) ?_
            simp only [Act.put, zzA, zz0, zz1]
            refine wR (v := .slice (some ⟨gb, 0, none⟩) 16 16) rfl (exec_move rfl rfl) ?_
            simp only [Act.put, zzA, zz0, zz1]
            refine wR (v := .pointer (some ⟨gb, 0, none⟩)) rfl (gx_iaddr (i := 0) (sz := 1) rfl rfl rfl Tryz.underlying26 size_byte1 (by decide) (by omega)) ?_
            simp only [Act.put, zzA, zz0, zz1]
            refine wR (v := .int .u8 (((B16 fs).getD 0 0).toNat : Int)) rfl (exec_load1 rfl rfl (by kernel_rfl) (blk_byte HB9.out (by rw [B16_len]; decide))) ?_
            simp only [Act.put, zzA, zz0, zz1]
            refine wR (v := .int .u8 (((B16 fs).getD 0 0 ||| UInt8.ofNat 128).toNat : Int)) rfl (b8_or rfl rfl rfl (by decide)) ?_
            simp only [Act.put, zzA, zz0, zz1]
            refine wR (v := .pointer (some ⟨gb, 0, none⟩)) rfl (gx_iaddr (i := 0) (sz := 1) rfl rfl rfl Tryz.underlying26 size_byte1 (by decide) (by omega)) ?_
            simp only [Act.put, zzA, zz0, zz1]
            refine wpList_store1 (v := .int .u8 (((B16 fs).getD 0 0 ||| UInt8.ofNat 128).toNat : Int)) rfl 5 (.tmp 89) (.tmp 88) rfl HB9.out rfl rfl (by rw [bcs_size, B16_len]; decide) rfl rfl size_byte1 ?_
            intro hbz huz
            rw [mbcs_set] at hbz
            have HBX := Lib.hid (show Blk _ gb 5 (bcs (bitsL fs)).toArray from by
              rw [← bits_far HH2.out]
              exact hbz)
            have HTL := Lib.hid (above HTR.out HGB.out huz)
            have HBM := Lib.hid (HBM9.out.turn huz (fun e => by
              have e : gm = gb := e
              have h1 := HBgm.out.lt
              have h2 := HT2.out.size
              have h3 := HGB.out
              omega))
            clear hbz huz
            generalize wr.setCell ⟨gb, 0, none⟩ (.int .u8 (((B16 fs).getD 0 0 ||| UInt8.ofNat 128).toNat : Int)) = w5 at *
            try simp only [Act.put, zzA, zz0, zz1]
            have HXT := Lib.hid (show (bitsL fs).take 16 = bitsL fs from List.take_of_length_le (by unfold bitsL; rw [if_neg HH2.out, List.length_append, be_len, be_len]; decide))
            have HXL := Lib.hid (show (bitsL fs).length = 16 from by unfold bitsL; rw [if_neg HH2.out, List.length_append, be_len, be_len])
            have HXM := Lib.hid (show (bitsL fs).length = 16 from by unfold bitsL; rw [if_neg HH2.out, List.length_append, be_len, be_len])
            clear HTR HB9 HBM9 HFA HREF
            obtain ⟨T, hT⟩ : ∃ T, T = (typeFm d).put (ver d ++ dig3 ty.toNat) := ⟨_, rfl⟩
            have HTT := Lib.hid hT
            have HPL := Lib.hid (show ∀ k, (T ++ mapB d ((bitsL fs).take k)).length ≤ 500 from fun k => by
              have h1 := HWL.out
              unfold wire at h1
              rw [← HTT.out, mapPut_bits HD.out, ← List.take_append_drop k (bitsL fs), mapB_append] at h1
              simp only [List.length_append] at h1 ⊢
              omega)
            have HBL := Lib.hid (show ∀ k, (T ++ mapPut d fs ++ body d (fs.take k)).length ≤ 500 from fun k => by
              have h1 := HWL.out
              have h2 := body_take_le d fs k
              unfold wire at h1
              rw [← HTT.out] at h1
              simp only [List.length_append] at h1 ⊢
              omega)
            have HWI := Lib.hid (show wire d ty fs = T ++ mapPut d fs ++ body d fs from by
              unfold wire
              rw [← HTT.out, List.append_assoc])
            clear hT
            go_upto_region 19 with fail
            have hS0 : Blk w5.drew gm 24 #[.int .i64 ty, .slice A n c] := HBM.out.drew
            have HTD := Lib.hid (Turn.drew (Turn.refl nowhere w5))
            refine wp_region_alw (fun W => Blk W gm 24 #[.int .i64 ty, .slice A n c]) (by kernel_rfl) ?_
            generalize w5.drew = w6 at *
            refine alw_take (i := 0) (v := .int .i64 (d : Int)) rfl (by kernel_rfl) (by kernel_rfl) (fun _ _ _ h => h) (.inl ⟨by rfl, fun W hW => exec_move rfl rfl⟩) hS0 ?_
            simp only [Act.put, zzA, zz0, zz1]
            refine alw_take (i := 2) (v := .int .i64 (d : Int)) rfl (by kernel_rfl) (by kernel_rfl) (fun _ _ _ h => h) (.inl ⟨by rfl, fun W hW => exec_move rfl rfl⟩) hS0 ?_
            simp only [Act.put, zzA, zz0, zz1]
            refine alw_take (i := 3) (v := .pointer (some ⟨gm, 0, none⟩)) rfl (by kernel_rfl) (by kernel_rfl) (fun _ _ _ h => h) (.inl ⟨by rfl, fun W hW => exec_field (off := 0) (d := 0) rfl rfl (by kernel_rfl)⟩) hS0 ?_
            simp only [Act.put, zzA, zz0, zz1]
            refine alw_take (i := 4) (v := .int .i64 ty) rfl (by kernel_rfl) (by kernel_rfl) (fun _ _ _ h => h) (.inl ⟨by rfl, fun W hW => exec_load1 rfl rfl (by kernel_rfl) (hW.cell 0)⟩) hS0 ?_
            simp only [Act.put, zzA, zz0, zz1]
            refine alw_step (i := 1) (by kernel_rfl) rfl rfl ?_
            intro K1 HK1
            go_wp2_with fail
            refine (number_walk (w := w6) (dd := (d : Int)) (sz := 4)).mono ?_
            rintro e w7 ⟨rfl, ht7⟩
            have hS1 := hS0.turn ht7 (fun e => e)
            refine HK1.out _ _ ⟨hS1, ?_⟩
            have HT7 := Lib.hid ht7
            clear HK1 hS0 ht7
            try simp only [Act.put, zzA, zz0, zz1]
            have hH := head_ty (w := w7) HD.out HTY.out
            refine alw_step (i := 5) (by kernel_rfl) rfl rfl ?_
            intro K1 HK1
            go_wp2_with fail
            refine hH.mono ?_
            rintro e w8 ⟨rfl, ht8⟩
            have hS2 := hS1.turn ht8 (fun e => e)
            refine HK1.out _ _ ⟨hS2, ?_⟩
            have HT8 := Lib.hid ht8
            clear HK1 hS1 ht8 hH
            try simp only [Act.put, zzA, zz0, zz1]
            have hP := put_type (w := w8) HD.out HTY.out
            rw [← HTT.out] at hP
            refine alw_step (i := 6) (by kernel_rfl) rfl rfl ?_
            intro K1 HK1
            go_wp2_with fail
            refine hP.mono ?_
            rintro e w9 ⟨A9, n9, c9, rfl, ho9, ht9⟩
            have hS3 := hS2.turn ht9 (fun e => e)
            refine HK1.out _ _ ⟨hS3, ?_⟩
            have HT9 := Lib.hid ht9
            have HO9 := Lib.hid ho9
            clear HK1 hS2 ht9 ho9 hP
            try simp only [Act.put, zzA, zz0, zz1]
            refine alw_take (i := 7) (v := .tuple #[.slice A9 n9 c9, .int .i64 0]) rfl (by kernel_rfl) (by kernel_rfl) (fun _ _ _ h => h) (.inl ⟨by rfl, fun W hW => exec_move rfl rfl⟩) hS3 ?_
            simp only [Act.put, zzA, zz0, zz1]
            refine alw_take (i := 8) (v := .slice A9 n9 c9) rfl (by kernel_rfl) (by kernel_rfl) (fun _ _ _ h => h) (.inl ⟨by rfl, fun W hW => ix_extract rfl rfl rfl⟩) hS3 ?_
            simp only [Act.put, zzA, zz0, zz1]
            refine alw_take (i := 9) (v := .int .i64 0) rfl (by kernel_rfl) (by kernel_rfl) (fun _ _ _ h => h) (.inl ⟨by rfl, fun W hW => ix_extract rfl rfl rfl⟩) hS3 ?_
            simp only [Act.put, zzA, zz0, zz1]
            refine alw_take (i := 10) (v := .slice A9 n9 c9) rfl (by kernel_rfl) (by kernel_rfl) (fun _ _ _ h => h) (.inl ⟨by rfl, fun W hW => gx_assign rfl rfl⟩) hS3 ?_
            simp only [Act.put, zzA, zz0, zz1]
            refine alw_take (i := 11) (v := .int .i64 0) rfl (by kernel_rfl) (by kernel_rfl) (fun _ _ _ h => h) (.inl ⟨by rfl, fun W hW => gx_assign rfl rfl⟩) hS3 ?_
            simp only [Act.put, zzA, zz0, zz1]
            refine alw_done rfl ?_
            clear hS3
            refine NoPanic.normal ?_
            have HGP := Lib.hid (show gb < w8.heap.size from by
              have h1 := HBX.out.lt
              have h2 := HTD.out.size
              have h3 := HT7.out.size
              have h4 := HT8.out.size
              omega)
            have HBX8 := Lib.hid (HBX.out.turn ((HTD.out.next HT7.out).next HT8.out) (fun e => e))
            go_upto_region 20 with fail
            refine wp_region_lit ?_
            refine wR (v := .int .i64 0) rfl (gx_assign rfl rfl) ?_
            simp only [Act.put, zzA, zz0, zz1]
            go_wp2_with fail
            go_loopg [11, 13] 16 (fun gk bv jv wr => ∃ (k : Nat) (A' : Option Addr) (n' c' : Nat), k + gk = 16 ∧ jv = .int .i64 (k : Int) ∧ bv = .slice A' n' c' ∧ Own wr w8.heap.size 5 (.slice A' n' c') (T ++ mapB d ((bitsL fs).take k)) ∧ Turn nowhere w8 wr)
            case atStart => exact ⟨0, _, _, _, by omega, rfl, rfl, by rw [List.take_zero, show mapB d [] = [] from by unfold mapB; split <;> rfl, List.append_nil]; exact HO9.out, HT9.out⟩
            obtain ⟨k, A', n', c', hkl, rfl, rfl, ho, htr⟩ := hrel
            have HKL := Lib.hid hkl
            have HO := Lib.hid ho
            have HTR := Lib.hid htr
            clear hkl ho htr
            go_upto_region 21 with fail
            refine wp_region_lit ?_
            refine wR (v := .int .i64 (k : Int)) rfl (exec_move rfl rfl) ?_
            simp only [Act.put, zzA, zz0, zz1]
            refine wR (v := .slice (some ⟨gb, 0, none⟩) 16 16) rfl (exec_move rfl rfl) ?_
            simp only [Act.put, zzA, zz0, zz1]
            refine wR (v := .int .i64 16) rfl (gx_len rfl rfl Tryz.underlying26) ?_
            simp only [Act.put, zzA, zz0, zz1]
            by_cases hk : k < 16
            · refine wR (v := .bool true) rfl (ix_lss rfl rfl rfl (decide_eq_true (by omega))) ?_
              simp only [Act.put, zzA, zz0, zz1]
              have HK := Lib.hid hk
              have y4 : (k : Int) < 16 := by omega
              obtain ⟨x, hx⟩ : ∃ x, x = (bitsL fs).getD k 0 := ⟨_, rfl⟩
              have HX := Lib.hid hx
              have HBK := Lib.hid (HBX8.out.turn HTR.out (fun e => e))
              have HMB := Lib.hid (show (bitsL fs).take (k + 1) = (bitsL fs).take k ++ [x] from by
                have h1 : (bitsL fs)[k]? = some x := by
                  rw [← HXT.out, List.getElem?_take, if_pos hk, hx, List.getD, List.getElem?_eq_getElem (by rw [HXL.out]; omega)]
                  rfl
                rw [List.take_add_one, h1]
                rfl)
              have hP0 := HPL.out k
              clear hk hx
              go_upto_region 23 with fail
              refine wp_region_lit ?_
              refine wR (v := .int .i64 (d : Int)) rfl (exec_move rfl rfl) ?_
              simp only [Act.put, zzA, zz0, zz1]
              by_cases h1 : (d : Int) = 1
              · refine wR (v := .bool true) rfl (ix_eql rfl rfl rfl (decide_eq_true h1)) ?_
                simp only [Act.put, zzA, zz0, zz1]
                have HD1 := Lib.hid (show d = 1 by omega)
                clear h1
                go_upto_region 24 with fail
                have hS0 : Blk wr.drew gb 5 (bcs (bitsL fs)).toArray := HBK.out.drew
                have HOd := Lib.hid (HO.out.drew)
                have HTd := Lib.hid (HTR.out.drew)
                refine wp_region_alw (fun W => Blk W gb 5 (bcs (bitsL fs)).toArray) (by kernel_rfl) ?_
                generalize wr.drew = wa at *
                refine alw_take (i := 0) (v := .slice A' n' c') rfl (by kernel_rfl) (by kernel_rfl) (fun _ _ _ h => h) (.inl ⟨by rfl, fun W hW => exec_move rfl rfl⟩) hS0 ?_
                simp only [Act.put, zzA, zz0, zz1]
                refine alw_take (i := 1) (v := .slice (some ⟨gb, 0, none⟩) 16 16) rfl (by kernel_rfl) (by kernel_rfl) (fun _ _ _ h => h) (.inl ⟨by rfl, fun W hW => exec_move rfl rfl⟩) hS0 ?_
                simp only [Act.put, zzA, zz0, zz1]
                refine alw_take (i := 2) (v := .int .i64 (k : Int)) rfl (by kernel_rfl) (by kernel_rfl) (fun _ _ _ h => h) (.inl ⟨by rfl, fun W hW => exec_move rfl rfl⟩) hS0 ?_
                simp only [Act.put, zzA, zz0, zz1]
                refine alw_take (i := 3) (v := .pointer (some ⟨gb, k, none⟩)) rfl (by kernel_rfl) (by kernel_rfl) (fun _ _ _ h => h) (.inl ⟨by rfl, fun W hW => gx_iaddr (i := k) (sz := 1) rfl rfl rfl Tryz.underlying26 size_byte1 (by have := HK.out; omega) (by omega)⟩) hS0 ?_
                simp only [Act.put, zzA, zz0, zz1]
                refine alw_take (i := 4) (v := .int .u8 (x.toNat : Int)) rfl (by kernel_rfl) (by kernel_rfl) (fun _ _ _ h => h) (.inl ⟨by rfl, fun W hW => exec_load1 rfl rfl (by kernel_rfl) (by rw [HX.out]; exact blk_byte hW (by rw [HXL.out]; have := HK.out; omega))⟩) hS0 ?_
                simp only [Act.put, zzA, zz0, zz1]
                refine alw_take (i := 5) (v := .int .u8 ((x.toNat / 16 : Nat) : Int)) rfl (by kernel_rfl) (by kernel_rfl) (fun _ _ _ h => h) (.inl ⟨by rfl, fun W hW => b8_quo rfl rfl (UInt8.toNat_lt _)⟩) hS0 ?_
                simp only [Act.put, zzA, zz0, zz1]
                refine alw_take (i := 6) (v := .int .u8 ((hexU.getD (x.toNat / 16) 0).toNat : Int)) rfl (by kernel_rfl) (by kernel_rfl) (fun _ _ _ h => h) (.inl ⟨by rfl, fun W hW => exec_sidx (l := hexU) (i := x.toNat / 16) rfl rfl rfl (by have := UInt8.toNat_lt x; show x.toNat / 16 < 16; omega)⟩) hS0 ?_
                simp only [Act.put, zzA, zz0, zz1]
                refine alw_take (i := 7) (v := .slice (some ⟨gb, 0, none⟩) 16 16) rfl (by kernel_rfl) (by kernel_rfl) (fun _ _ _ h => h) (.inl ⟨by rfl, fun W hW => exec_move rfl rfl⟩) hS0 ?_
                simp only [Act.put, zzA, zz0, zz1]
                refine alw_take (i := 8) (v := .int .i64 (k : Int)) rfl (by kernel_rfl) (by kernel_rfl) (fun _ _ _ h => h) (.inl ⟨by rfl, fun W hW => exec_move rfl rfl⟩) hS0 ?_
                simp only [Act.put, zzA, zz0, zz1]
                refine alw_take (i := 9) (v := .pointer (some ⟨gb, k, none⟩)) rfl (by kernel_rfl) (by kernel_rfl) (fun _ _ _ h => h) (.inl ⟨by rfl, fun W hW => gx_iaddr (i := k) (sz := 1) rfl rfl rfl Tryz.underlying26 size_byte1 (by have := HK.out; omega) (by omega)⟩) hS0 ?_
                simp only [Act.put, zzA, zz0, zz1]
                refine alw_take (i := 10) (v := .int .u8 (x.toNat : Int)) rfl (by kernel_rfl) (by kernel_rfl) (fun _ _ _ h => h) (.inl ⟨by rfl, fun W hW => exec_load1 rfl rfl (by kernel_rfl) (by rw [HX.out]; exact blk_byte hW (by rw [HXL.out]; have := HK.out; omega))⟩) hS0 ?_
                simp only [Act.put, zzA, zz0, zz1]
                refine alw_take (i := 11) (v := .int .u8 ((x.toNat % 16 : Nat) : Int)) rfl (by kernel_rfl) (by kernel_rfl) (fun _ _ _ h => h) (.inl ⟨by rfl, fun W hW => b8_rem rfl rfl⟩) hS0 ?_
                simp only [Act.put, zzA, zz0, zz1]
                refine alw_take (i := 12) (v := .int .u8 ((hexU.getD (x.toNat % 16) 0).toNat : Int)) rfl (by kernel_rfl) (by kernel_rfl) (fun _ _ _ h => h) (.inl ⟨by rfl, fun W hW => exec_sidx (l := hexU) (i := x.toNat % 16) rfl rfl rfl (by show x.toNat % 16 < 16; omega)⟩) hS0 ?_
                simp only [Act.put, zzA, zz0, zz1]
                have hu2 := (Turn.refl nowhere wa).alloc (.cells (bcs [hexU.getD (x.toNat / 16) 0, hexU.getD (x.toNat % 16) 0]).toArray 5)
                have hs2 := bs_blk (Blk.new wa 5 (bcs [hexU.getD (x.toNat / 16) 0, hexU.getD (x.toNat % 16) 0]).toArray) (n := 2) rfl (by unfold maxLen; omega)
                have ho2 := own_still HOd.out hu2
                have hS1 := hS0.turn hu2 (fun e => e)
                refine alw_step (i := 13) (by kernel_rfl) rfl rfl ?_
                intro K1 HK1
                refine wp_run (exec_two rfl rfl rfl) ?_
                refine HK1.out _ _ ⟨hS1, ?_⟩
                clear HK1 hS0
                obtain ⟨g2, hg2⟩ : ∃ g, g = wa.heap.size := ⟨_, rfl⟩
                rw [← hg2] at hs2 ⊢
                clear hg2
                generalize wa.alloc (.cells (bcs [hexU.getD (x.toNat / 16) 0, hexU.getD (x.toNat % 16) 0]).toArray 5) = wb at *
                try simp only [Act.put, zzA, zz0, zz1]
                refine alw_step (i := 14) (by kernel_rfl) rfl rfl ?_
                intro K1 HK1
                refine wp_append_bytes wb _ _ _ rfl w8.heap.size 5 byteInfo Tryz.underlying26 _ _ rfl ho2 _ 2 2 [hexU.getD (x.toNat / 16) 0, hexU.getD (x.toNat % 16) 0] rfl hs2 (fun h => by cases h) (by omega) (Nat.le_trans HTd.out.size hu2.size) ?_
                intro v5 w10 ho5 hb5
                obtain ⟨A5, n5, c5, rfl, _⟩ := ho5.form
                have hS2 : Blk w10 gb 5 (bcs (bitsL fs)).toArray := (hb5.block gb HGP.out).trans hS1
                refine HK1.out _ _ ⟨hS2, ?_⟩
                clear HK1 hS1
                try simp only [Act.put, zzA, zz0, zz1]
                have HON := Lib.hid (show Own w10 w8.heap.size 5 (.slice A5 n5 c5) (T ++ mapB d ((bitsL fs).take (k + 1))) from by
                  rw [HMB.out, mapB_append, ← List.append_assoc, show mapB d [x] = [hexU.getD (x.toNat / 16) 0, hexU.getD (x.toNat % 16) 0] from by unfold mapB; rw [if_pos HD1.out]; rfl]
                  exact ho5)
                have HTN := Lib.hid (Turn.of_below (((HTd.out.next hu2).below (Nat.le_refl _) (fun _ _ e=>e)).trans hb5) (Nat.le_refl _))
                clear ho5 hb5 ho2 hs2 hu2
                refine alw_take (i := 15) (v := .slice A5 n5 c5) rfl (by kernel_rfl) (by kernel_rfl) (fun _ _ _ h => h) (.inl ⟨by rfl, fun W hW => gx_assign rfl rfl⟩) hS2 ?_
                simp only [Act.put, zzA, zz0, zz1]
                refine alw_done rfl ?_
                clear hS2
                refine NoPanic.normal ?_
                go_upto_region 22 with fail
                refine wp_region_lit ?_
                refine wR (v := .int .i64 (k : Int)) rfl (exec_move rfl rfl) ?_
                simp only [Act.put, zzA, zz0, zz1]
                refine wR (v := .int .i64 ((k + 1 : Nat) : Int)) rfl (ix_add rfl rfl rfl (by omega) (by omega)) ?_
                simp only [Act.put, zzA, zz0, zz1]
                refine wR (v := .int .i64 ((k + 1 : Nat) : Int)) rfl (gx_assign rfl rfl) ?_
                simp only [Act.put, zzA, zz0, zz1]
                go_wp2_with fail
                go_roundg (gk - 1)
                case measure => have := HKL.out; have := HK.out; omega
                case rel => exact ⟨k + 1, _, _, _, by have := HKL.out; have := HK.out; omega, by go_num, rfl, HON.out, HTN.out⟩
              · refine wR (v := .bool false) rfl (ix_eql rfl rfl rfl (decide_eq_false h1)) ?_
                simp only [Act.put, zzA, zz0, zz1]
                have HD1 := Lib.hid (show ¬ d = 1 by omega)
                clear h1
                go_upto_region 25 with fail
                refine wp_region_lit ?_
                refine wR (v := .slice A' n' c') rfl (exec_move rfl rfl) ?_
                simp only [Act.put, zzA, zz0, zz1]
                refine wR (v := .slice (some ⟨gb, 0, none⟩) 16 16) rfl (exec_move rfl rfl) ?_
                simp only [Act.put, zzA, zz0, zz1]
                refine wR (v := .int .i64 (k : Int)) rfl (exec_move rfl rfl) ?_
                simp only [Act.put, zzA, zz0, zz1]
                refine wR (v := .pointer (some ⟨gb, k, none⟩)) rfl (gx_iaddr (i := k) (sz := 1) rfl rfl rfl Tryz.underlying26 size_byte1 (by have := HK.out; omega) (by omega)) ?_
                simp only [Act.put, zzA, zz0, zz1]
                refine wR (v := .int .u8 (x.toNat : Int)) rfl (exec_load1 rfl rfl (by kernel_rfl) (by rw [HX.out]; exact blk_byte HBK.out (by rw [HXL.out]; have := HK.out; omega))) ?_
                simp only [Act.put, zzA, zz0, zz1]
                refine wR (v := .slice (some ⟨wr.heap.size, 0, none⟩) 1 1) (w' := wr.alloc (.cells (bcs [x]).toArray 5)) rfl (exec_one (z := x) rfl rfl) ?_
                simp only [Act.put, zzA, zz0, zz1]
                have hu2 := (Turn.refl nowhere wr).alloc (.cells (bcs [x]).toArray 5)
                have hs2 := bs_blk (Blk.new wr 5 (bcs [x]).toArray) (n := 1) rfl (by unfold maxLen; omega)
                have ho2 := own_still HO.out hu2
                obtain ⟨g2, hg2⟩ : ∃ g, g = wr.heap.size := ⟨_, rfl⟩
                rw [← hg2] at hs2 ⊢
                clear hg2
                generalize wr.alloc (.cells (bcs [x]).toArray 5) = wb at *
                refine wpList_append_bytes wb rfl _ _ _ rfl w8.heap.size 5 byteInfo Tryz.underlying26 _ _ rfl ho2 _ 1 1 [x] rfl hs2 (fun h => by cases h) (by omega) (Nat.le_trans HTR.out.size hu2.size) ?_
                intro v5 w10 ho5 hb5
                obtain ⟨A5, n5, c5, rfl, _⟩ := ho5.form
                simp only [Act.put, zzA, zz0, zz1]
                have HON := Lib.hid (show Own w10 w8.heap.size 5 (.slice A5 n5 c5) (T ++ mapB d ((bitsL fs).take (k + 1))) from by
                  rw [HMB.out, mapB_append, ← List.append_assoc, show mapB d [x] = [x] from by unfold mapB; rw [if_neg HD1.out]]
                  exact ho5)
                have HTN := Lib.hid (Turn.of_below (((HTR.out.next hu2).below (Nat.le_refl _) (fun _ _ e=>e)).trans hb5) (Nat.le_refl _))
                clear ho5 hb5 ho2 hs2 hu2
                refine wR (v := .slice A5 n5 c5) rfl (gx_assign rfl rfl) ?_
                simp only [Act.put, zzA, zz0, zz1]
                go_upto_region 22 with fail
                refine wp_region_lit ?_
                refine wR (v := .int .i64 (k : Int)) rfl (exec_move rfl rfl) ?_
                simp only [Act.put, zzA, zz0, zz1]
                refine wR (v := .int .i64 ((k + 1 : Nat) : Int)) rfl (ix_add rfl rfl rfl (by omega) (by omega)) ?_
                simp only [Act.put, zzA, zz0, zz1]
                refine wR (v := .int .i64 ((k + 1 : Nat) : Int)) rfl (gx_assign rfl rfl) ?_
                simp only [Act.put, zzA, zz0, zz1]
                go_wp2_with fail
                go_roundg (gk - 1)
                case measure => have := HKL.out; have := HK.out; omega
                case rel => exact ⟨k + 1, _, _, _, by have := HKL.out; have := HK.out; omega, by go_num, rfl, HON.out, HTN.out⟩
            · refine wR (v := .bool false) rfl (ix_lss rfl rfl rfl (decide_eq_false (by omega))) ?_
              simp only [Act.put, zzA, zz0, zz1]
              have HOW := Lib.hid (show Own wr w8.heap.size 5 (.slice A' n' c') (T ++ mapPut d fs) from by
                have h1 := HO.out
                rw [List.take_of_length_le (by rw [HXM.out]; omega), ← mapPut_bits HD.out] at h1
                exact h1)
              have HTW := Lib.hid HTR.out
              clear hk HO HTR HKL
              go_upto_region 26 with fail
              refine wp_region_lit ?_
              refine wR (v := .int .i64 0) rfl (gx_assign rfl rfl) ?_
              simp only [Act.put, zzA, zz0, zz1]
              go_wp2_with fail
              go_loopg [11, 14] n (fun gk bv jv wq => ∃ (j : Nat) (A' : Option Addr) (n' c' : Nat), j + gk = n ∧ jv = .int .i64 (j : Int) ∧ bv = .slice A' n' c' ∧ Own wq w8.heap.size 5 (.slice A' n' c') (T ++ mapPut d fs ++ body d (fs.take j)) ∧ Turn nowhere w8 wq)
              case atStart => exact ⟨0, _, _, _, by omega, rfl, rfl, by rw [List.take_zero, show body d [] = [] from rfl, List.append_nil]; exact HOW.out, HTW.out⟩
              clear HOW HTW
              obtain ⟨j, A', n', c', hjl, rfl, rfl, ho, htr⟩ := hrel
              have HJL := Lib.hid hjl
              have HO := Lib.hid ho
              have HTR := Lib.hid htr
              clear hjl ho htr
              have HB2 := Lib.hid ((HBgm.out.turn (((((HT2.out.next HTL.out).next HTD.out).next HT7.out).next HT8.out).next HTR.out) (fun e => e)))
              go_upto_region 27 with fail
              refine wp_region_lit ?_
              refine wR (v := .int .i64 (j : Int)) rfl (exec_move rfl rfl) ?_
              simp only [Act.put, zzA, zz0, zz1]
              refine wR (v := .pointer (some ⟨gm, 1, none⟩)) rfl (exec_field (off := 0) (d := 1) rfl rfl (by kernel_rfl)) ?_
              simp only [Act.put, zzA, zz0, zz1]
              refine wR (v := .slice A n c) rfl (exec_load1 rfl rfl (by kernel_rfl) (HB2.out.cell 1)) ?_
              simp only [Act.put, zzA, zz0, zz1]
              refine wR (v := .int .i64 (n : Int)) rfl (gx_len rfl rfl Tryz.underlying22) ?_
              simp only [Act.put, zzA, zz0, zz1]
              by_cases hlt : j < n
              · have HLT := Lib.hid hlt
                have y1 : (j : Int) < (n : Int) := by omega
                obtain ⟨bF, oF, rfl, hr⟩ := (HF.out.still ((((((HT0.out.next HT2.out).next HTL.out).next HTD.out).next HT7.out).next HT8.out).next HTR.out)).2.2 (by omega)
                obtain ⟨f, hf⟩ : ∃ f, fs[j]? = some f := ⟨_, List.getElem?_eq_getElem (show j < fs.length from by rw [HNL.out]; exact hlt)⟩
                have hmem := List.mem_of_getElem? hf
                have HRR := Lib.hid (hr j f hf)
                have HSN := Lib.hid (take_snoc hf)
                have HTF := Lib.hid (HTX.out f hmem)
                have hsd := HSAID.out f hmem
                rw [Int.toNat_natCast] at hsd
                obtain ⟨m1, hm1, hc1⟩ := HGD.out.2 f hmem
                have HSAY := Lib.hid (say_amt ((said_amt HD.out hm1 hc1).1 hsd))
                obtain ⟨m, hm, hc⟩ := hsd
                have HM := Lib.hid hm
                have HC := Lib.hid hc
                have HL12 := Lib.hid (fun h4 => amt_len HGD.out hmem h4)
                have HB0 := Lib.hid (HBL.out j)
                clear hr hf hlt hmem hm1 hc1 hm hc
                refine wR (v := .bool true) rfl (ix_lss rfl rfl rfl (decide_eq_true y1)) ?_
                simp only [Act.put, zzA, zz0, zz1]
                go_upto_region 29 with fail
                refine wp_region_lit ?_
                refine wR (v := .int .i64 (d : Int)) rfl (exec_move rfl rfl) ?_
                simp only [Act.put, zzA, zz0, zz1]
                refine wR (v := .pointer (some ⟨gm, 1, none⟩)) rfl (exec_field (off := 0) (d := 1) rfl rfl (by kernel_rfl)) ?_
                simp only [Act.put, zzA, zz0, zz1]
                refine wR (v := .slice (some ⟨bF, oF, none⟩) n c) rfl (exec_load1 rfl rfl (by kernel_rfl) (HB2.out.cell 1)) ?_
                simp only [Act.put, zzA, zz0, zz1]
                refine wR (v := .int .i64 (j : Int)) rfl (exec_move rfl rfl) ?_
                simp only [Act.put, zzA, zz0, zz1]
                refine wR (v := .pointer (some ⟨bF, oF + j * 2, none⟩)) rfl (gx_iaddr (i := j) (sz := 2) rfl rfl rfl Tryz.underlying22 size_field HLT.out (by omega)) ?_
                simp only [Act.put, zzA, zz0, zz1]
                refine wR (v := .pointer (some ⟨bF, oF + j * 2, none⟩)) rfl (exec_field (off := oF + j * 2) (d := 0) rfl rfl (by kernel_rfl)) ?_
                simp only [Act.put, zzA, zz0, zz1]
                refine wR (v := .int .i64 f.1) rfl (exec_load1 rfl rfl (by kernel_rfl) (HRR.out 0 _ rfl)) ?_
                simp only [Act.put, zzA, zz0, zz1]
                have hFm := rForm_walk (w := wr) (dd := (d : Int)) (no := f.1)
                rw [show formE (d : Int) f.1 = (m, 0) from by
                  unfold formE
                  rw [if_pos HDI.out, Int.toNat_natCast, HM.out]] at hFm
                refine wpList_op rfl fun K9 HK9 => ?_
                go_wp2_with fail
                refine (hFm).mono ?_
                rintro e w10 ⟨rfl, htx⟩
                refine HK9.out _ _ ?_
                clear HK9
                try simp only [Act.put, zzA, zz0, zz1]
                clear hFm
                have HT10 := Lib.hid htx
                clear htx
                refine wR (v := .tuple #[.agg (fmA m), .int .i64 0]) rfl (exec_move rfl rfl) ?_
                simp only [Act.put, zzA, zz0, zz1]
                refine wR (v := .agg (fmA m)) rfl (ix_extract rfl rfl rfl) ?_
                simp only [Act.put, zzA, zz0, zz1]
                refine wR (v := .int .i64 0) rfl (ix_extract rfl rfl rfl) ?_
                simp only [Act.put, zzA, zz0, zz1]
                refine wpList_new 49 (.tmp 15) (.tmp 148) (fmA m) rfl rfl (zero_fm _) rfl rfl rfl rfl rfl rfl (by rw [size_form]; rfl) (fmA_one _) ?_
                intro w11 g11 _ hbx hux
                simp only [Act.put, zzA, zz0, zz1]
                have HBg11 := Lib.hid hbx
                have HT11 := Lib.hid hux
                clear hbx hux
                have HB3 := Lib.hid (HB2.out.turn (HT10.out.next HT11.out) (fun e => e))
                have HR3 := Lib.hid (show w11.rangeAt bF (oF + j * 2) (fldA f).toList from fun i v hv => ((HT10.out.next HT11.out).cell (World.block_lt_of_cell? _ _ (HRR.out i v hv)) (fun e => e)).trans (HRR.out i v hv))
                refine wR (v := .int .i64 0) rfl (gx_assign rfl rfl) ?_
                simp only [Act.put, zzA, zz0, zz1]
                go_upto_region 30 with fail
                refine wp_region_lit ?_
                refine wR (v := .pointer (some ⟨gm, 1, none⟩)) rfl (exec_field (off := 0) (d := 1) rfl rfl (by kernel_rfl)) ?_
                simp only [Act.put, zzA, zz0, zz1]
                refine wR (v := .slice (some ⟨bF, oF, none⟩) n c) rfl (exec_load1 rfl rfl (by kernel_rfl) (HB3.out.cell 1)) ?_
                simp only [Act.put, zzA, zz0, zz1]
                refine wR (v := .int .i64 (j : Int)) rfl (exec_move rfl rfl) ?_
                simp only [Act.put, zzA, zz0, zz1]
                refine wR (v := .pointer (some ⟨bF, oF + j * 2, none⟩)) rfl (gx_iaddr (i := j) (sz := 2) rfl rfl rfl Tryz.underlying22 size_field HLT.out (by omega)) ?_
                simp only [Act.put, zzA, zz0, zz1]
                refine wR (v := .pointer (some ⟨bF, oF + j * 2 + 1, none⟩)) rfl (exec_field (off := oF + j * 2) (d := 1) rfl rfl (by kernel_rfl)) ?_
                simp only [Act.put, zzA, zz0, zz1]
                refine wR (v := strV f.2) rfl (exec_load1 rfl rfl (by kernel_rfl) (HR3.out 1 _ rfl)) ?_
                simp only [Act.put, zzA, zz0, zz1]
                refine wR (v := strV f.2) rfl (gx_assign rfl rfl) ?_
                simp only [Act.put, zzA, zz0, zz1]
                go_upto_region 31 with fail
                refine wp_region_lit ?_
                refine wR (v := .int .i64 (d : Int)) rfl (exec_move rfl rfl) ?_
                simp only [Act.put, zzA, zz0, zz1]
                by_cases h3 : (d : Int) = 3
                · refine wR (v := .bool true) rfl (ix_eql rfl rfl rfl (decide_eq_true h3)) ?_
                  simp only [Act.put, zzA, zz0, zz1]
                  refine wR (v := .bool true) rfl (exec_move rfl rfl) ?_
                  simp only [Act.put, zzA, zz0, zz1]
                  refine wR (v := .pointer (some ⟨gm, 1, none⟩)) rfl (exec_field (off := 0) (d := 1) rfl rfl (by kernel_rfl)) ?_
                  simp only [Act.put, zzA, zz0, zz1]
                  refine wR (v := .slice (some ⟨bF, oF, none⟩) n c) rfl (exec_load1 rfl rfl (by kernel_rfl) (HB3.out.cell 1)) ?_
                  simp only [Act.put, zzA, zz0, zz1]
                  refine wR (v := .int .i64 (j : Int)) rfl (exec_move rfl rfl) ?_
                  simp only [Act.put, zzA, zz0, zz1]
                  refine wR (v := .pointer (some ⟨bF, oF + j * 2, none⟩)) rfl (gx_iaddr (i := j) (sz := 2) rfl rfl rfl Tryz.underlying22 size_field HLT.out (by omega)) ?_
                  simp only [Act.put, zzA, zz0, zz1]
                  refine wR (v := .pointer (some ⟨bF, oF + j * 2, none⟩)) rfl (exec_field (off := oF + j * 2) (d := 0) rfl rfl (by kernel_rfl)) ?_
                  simp only [Act.put, zzA, zz0, zz1]
                  refine wR (v := .int .i64 f.1) rfl (exec_load1 rfl rfl (by kernel_rfl) (HR3.out 0 _ rfl)) ?_
                  simp only [Act.put, zzA, zz0, zz1]
                  by_cases h4 : f.1 = 4
                  · refine wR (v := .bool true) rfl (ix_eql rfl rfl rfl (decide_eq_true h4)) ?_
                    simp only [Act.put, zzA, zz0, zz1]
                    refine wR (v := .bool true) rfl (ix_pickT rfl rfl rfl) ?_
                    simp only [Act.put, zzA, zz0, zz1]
                    have HL2 := Lib.hid (HL12.out h4)
                    have H3 := Lib.hid h3
                    have H4 := Lib.hid h4
                    clear h3 h4
                    go_upto_region 32 with fail
                    refine wp_region_lit ?_
                    refine wR (v := strV f.2) rfl (exec_move rfl rfl) ?_
                    simp only [Act.put, zzA, zz0, zz1]
                    refine wR (v := strV (f.2.drop 2)) rfl (exec_sfrom (n := 2) rfl rfl rfl (by rw [HL2.out]; decide)) ?_
                    simp only [Act.put, zzA, zz0, zz1]
                    refine wR (v := strV (f.2.drop 2)) rfl (gx_assign rfl rfl) ?_
                    simp only [Act.put, zzA, zz0, zz1]
                    have HSX := Lib.hid (show say d f = f.2.drop 2 from by rw [HSAY.out, if_pos ⟨by have := H3.out; omega, H4.out⟩])
                    clear H3 H4
                    obtain ⟨A6, n6, c6, hf6, hb6, hnc6, hz6⟩ := HO.out.form
                    injection hf6 with g1 g2 g3
                    subst g1 g2 g3
                    have HB6 := Lib.hid hb6
                    have HZ6 := Lib.hid hz6
                    have HN6 := Lib.hid (show n' ≤ 500 from by rw [← hb6.1]; exact HB0.out)
                    clear hb6 hnc6 hz6
                    go_upto_region 33 with fail
                    refine wp_region_lit ?_
                    refine wR (v := .slice A' n' c') rfl (exec_move rfl rfl) ?_
                    simp only [Act.put, zzA, zz0, zz1]
                    refine wR (v := .agg (fmA m)) rfl (gx_loads rfl rfl (blk_range HBg11.out) Tryz.underlying49 rfl (by rw [size_form]; rfl)) ?_
                    simp only [Act.put, zzA, zz0, zz1]
                    refine wR (v := strV (f.2.drop 2)) rfl (exec_move rfl rfl) ?_
                    simp only [Act.put, zzA, zz0, zz1]
                    have hP := rput_ok (w := w11) (cap := c') HC.out (bs_still HB6.out (HT10.out.next HT11.out)) HZ6.out (by have := HN6.out; omega) (by rw [HSX.out]; have := HTF.out; rw [List.length_drop]; omega)
                    rw [HSX.out] at hP
                    refine wpList_op rfl fun K9 HK9 => ?_
                    go_wp2_with fail
                    refine (hP).mono ?_
                    rintro e w12 ⟨A7, n7, c7, rfl, hox, htx⟩
                    refine HK9.out _ _ ?_
                    clear HK9
                    try simp only [Act.put, zzA, zz0, zz1]
                    clear hP
                    have HON := Lib.hid (show Own w12 w8.heap.size 5 (.slice A7 n7 c7) (T ++ mapPut d fs ++ body d (fs.take (j + 1))) from by
                      rw [HSN.out, body_snoc, ← List.append_assoc, show sayPut d f = m.put (f.2.drop 2) from by unfold sayPut; rw [HM.out]; show m.put (say d f) = _; rw [HSX.out]]
                      exact own_base hox (Nat.le_trans HTR.out.size (HT10.out.next HT11.out).size))
                    have HTN := Lib.hid (((HTR.out.next HT10.out).next HT11.out).next htx)
                    clear hox htx
                    refine wR (v := .tuple #[.slice A7 n7 c7, .int .i64 0]) rfl (exec_move rfl rfl) ?_
                    simp only [Act.put, zzA, zz0, zz1]
                    refine wR (v := .slice A7 n7 c7) rfl (ix_extract rfl rfl rfl) ?_
                    simp only [Act.put, zzA, zz0, zz1]
                    refine wR (v := .int .i64 0) rfl (ix_extract rfl rfl rfl) ?_
                    simp only [Act.put, zzA, zz0, zz1]
                    refine wR (v := .slice A7 n7 c7) rfl (gx_assign rfl rfl) ?_
                    simp only [Act.put, zzA, zz0, zz1]
                    go_upto_region 28 with fail
                    refine wp_region_lit ?_
                    refine wR (v := .int .i64 (j : Int)) rfl (exec_move rfl rfl) ?_
                    simp only [Act.put, zzA, zz0, zz1]
                    refine wR (v := .int .i64 ((j + 1 : Nat) : Int)) rfl (ix_add rfl rfl rfl (by omega) (by omega)) ?_
                    simp only [Act.put, zzA, zz0, zz1]
                    refine wR (v := .int .i64 ((j + 1 : Nat) : Int)) rfl (gx_assign rfl rfl) ?_
                    simp only [Act.put, zzA, zz0, zz1]
                    go_wp2_with fail
                    go_roundg (gk - 1)
                    case measure => have := HJL.out; have := HLT.out; omega
                    case rel => exact ⟨j + 1, _, _, _, by have := HJL.out; have := HLT.out; omega, by go_num, rfl, HON.out, HTN.out⟩
                  · refine wR (v := .bool false) rfl (ix_eql rfl rfl rfl (decide_eq_false h4)) ?_
                    simp only [Act.put, zzA, zz0, zz1]
                    refine wR (v := .bool false) rfl (ix_pickT rfl rfl rfl) ?_
                    simp only [Act.put, zzA, zz0, zz1]
                    have HSX := Lib.hid (show say d f = f.2 from by rw [HSAY.out, if_neg (fun h => h4 h.2)])
                    clear h3 h4
                    obtain ⟨A6, n6, c6, hf6, hb6, hnc6, hz6⟩ := HO.out.form
                    injection hf6 with g1 g2 g3
                    subst g1 g2 g3
                    have HB6 := Lib.hid hb6
                    have HZ6 := Lib.hid hz6
                    have HN6 := Lib.hid (show n' ≤ 500 from by rw [← hb6.1]; exact HB0.out)
                    clear hb6 hnc6 hz6
                    go_upto_region 33 with fail
                    refine wp_region_lit ?_
                    refine wR (v := .slice A' n' c') rfl (exec_move rfl rfl) ?_
                    simp only [Act.put, zzA, zz0, zz1]
                    refine wR (v := .agg (fmA m)) rfl (gx_loads rfl rfl (blk_range HBg11.out) Tryz.underlying49 rfl (by rw [size_form]; rfl)) ?_
                    simp only [Act.put, zzA, zz0, zz1]
                    refine wR (v := strV f.2) rfl (exec_move rfl rfl) ?_
                    simp only [Act.put, zzA, zz0, zz1]
                    have hP := rput_ok (w := w11) (cap := c') HC.out (bs_still HB6.out (HT10.out.next HT11.out)) HZ6.out (by have := HN6.out; omega) (by rw [HSX.out]; have := HTF.out; exact this)
                    rw [HSX.out] at hP
                    refine wpList_op rfl fun K9 HK9 => ?_
                    go_wp2_with fail
                    refine (hP).mono ?_
                    rintro e w12 ⟨A7, n7, c7, rfl, hox, htx⟩
                    refine HK9.out _ _ ?_
                    clear HK9
                    try simp only [Act.put, zzA, zz0, zz1]
                    clear hP
                    have HON := Lib.hid (show Own w12 w8.heap.size 5 (.slice A7 n7 c7) (T ++ mapPut d fs ++ body d (fs.take (j + 1))) from by
                      rw [HSN.out, body_snoc, ← List.append_assoc, show sayPut d f = m.put (f.2) from by unfold sayPut; rw [HM.out]; show m.put (say d f) = _; rw [HSX.out]]
                      exact own_base hox (Nat.le_trans HTR.out.size (HT10.out.next HT11.out).size))
                    have HTN := Lib.hid (((HTR.out.next HT10.out).next HT11.out).next htx)
                    clear hox htx
                    refine wR (v := .tuple #[.slice A7 n7 c7, .int .i64 0]) rfl (exec_move rfl rfl) ?_
                    simp only [Act.put, zzA, zz0, zz1]
                    refine wR (v := .slice A7 n7 c7) rfl (ix_extract rfl rfl rfl) ?_
                    simp only [Act.put, zzA, zz0, zz1]
                    refine wR (v := .int .i64 0) rfl (ix_extract rfl rfl rfl) ?_
                    simp only [Act.put, zzA, zz0, zz1]
                    refine wR (v := .slice A7 n7 c7) rfl (gx_assign rfl rfl) ?_
                    simp only [Act.put, zzA, zz0, zz1]
                    go_upto_region 28 with fail
                    refine wp_region_lit ?_
                    refine wR (v := .int .i64 (j : Int)) rfl (exec_move rfl rfl) ?_
                    simp only [Act.put, zzA, zz0, zz1]
                    refine wR (v := .int .i64 ((j + 1 : Nat) : Int)) rfl (ix_add rfl rfl rfl (by omega) (by omega)) ?_
                    simp only [Act.put, zzA, zz0, zz1]
                    refine wR (v := .int .i64 ((j + 1 : Nat) : Int)) rfl (gx_assign rfl rfl) ?_
                    simp only [Act.put, zzA, zz0, zz1]
                    go_wp2_with fail
                    go_roundg (gk - 1)
                    case measure => have := HJL.out; have := HLT.out; omega
                    case rel => exact ⟨j + 1, _, _, _, by have := HJL.out; have := HLT.out; omega, by go_num, rfl, HON.out, HTN.out⟩
                · refine wR (v := .bool false) rfl (ix_eql rfl rfl rfl (decide_eq_false h3)) ?_
                  simp only [Act.put, zzA, zz0, zz1]
                  have H3 := Lib.hid h3
                  clear h3
                  have HSX := Lib.hid (show say d f = f.2 from by rw [HSAY.out, if_neg (fun h => H3.out (by omega))])
                  clear H3
                  obtain ⟨A6, n6, c6, hf6, hb6, hnc6, hz6⟩ := HO.out.form
                  injection hf6 with g1 g2 g3
                  subst g1 g2 g3
                  have HB6 := Lib.hid hb6
                  have HZ6 := Lib.hid hz6
                  have HN6 := Lib.hid (show n' ≤ 500 from by rw [← hb6.1]; exact HB0.out)
                  clear hb6 hnc6 hz6
                  go_upto_region 33 with fail
                  refine wp_region_lit ?_
                  refine wR (v := .slice A' n' c') rfl (exec_move rfl rfl) ?_
                  simp only [Act.put, zzA, zz0, zz1]
                  refine wR (v := .agg (fmA m)) rfl (gx_loads rfl rfl (blk_range HBg11.out) Tryz.underlying49 rfl (by rw [size_form]; rfl)) ?_
                  simp only [Act.put, zzA, zz0, zz1]
                  refine wR (v := strV f.2) rfl (exec_move rfl rfl) ?_
                  simp only [Act.put, zzA, zz0, zz1]
                  have hP := rput_ok (w := w11) (cap := c') HC.out (bs_still HB6.out (HT10.out.next HT11.out)) HZ6.out (by have := HN6.out; omega) (by rw [HSX.out]; have := HTF.out; exact this)
                  rw [HSX.out] at hP
                  refine wpList_op rfl fun K9 HK9 => ?_
                  go_wp2_with fail
                  refine (hP).mono ?_
                  rintro e w12 ⟨A7, n7, c7, rfl, hox, htx⟩
                  refine HK9.out _ _ ?_
                  clear HK9
                  try simp only [Act.put, zzA, zz0, zz1]
                  clear hP
                  have HON := Lib.hid (show Own w12 w8.heap.size 5 (.slice A7 n7 c7) (T ++ mapPut d fs ++ body d (fs.take (j + 1))) from by
                    rw [HSN.out, body_snoc, ← List.append_assoc, show sayPut d f = m.put (f.2) from by unfold sayPut; rw [HM.out]; show m.put (say d f) = _; rw [HSX.out]]
                    exact own_base hox (Nat.le_trans HTR.out.size (HT10.out.next HT11.out).size))
                  have HTN := Lib.hid (((HTR.out.next HT10.out).next HT11.out).next htx)
                  clear hox htx
                  refine wR (v := .tuple #[.slice A7 n7 c7, .int .i64 0]) rfl (exec_move rfl rfl) ?_
                  simp only [Act.put, zzA, zz0, zz1]
                  refine wR (v := .slice A7 n7 c7) rfl (ix_extract rfl rfl rfl) ?_
                  simp only [Act.put, zzA, zz0, zz1]
                  refine wR (v := .int .i64 0) rfl (ix_extract rfl rfl rfl) ?_
                  simp only [Act.put, zzA, zz0, zz1]
                  refine wR (v := .slice A7 n7 c7) rfl (gx_assign rfl rfl) ?_
                  simp only [Act.put, zzA, zz0, zz1]
                  go_upto_region 28 with fail
                  refine wp_region_lit ?_
                  refine wR (v := .int .i64 (j : Int)) rfl (exec_move rfl rfl) ?_
                  simp only [Act.put, zzA, zz0, zz1]
                  refine wR (v := .int .i64 ((j + 1 : Nat) : Int)) rfl (ix_add rfl rfl rfl (by omega) (by omega)) ?_
                  simp only [Act.put, zzA, zz0, zz1]
                  refine wR (v := .int .i64 ((j + 1 : Nat) : Int)) rfl (gx_assign rfl rfl) ?_
                  simp only [Act.put, zzA, zz0, zz1]
                  go_wp2_with fail
                  go_roundg (gk - 1)
                  case measure => have := HJL.out; have := HLT.out; omega
                  case rel => exact ⟨j + 1, _, _, _, by have := HJL.out; have := HLT.out; omega, by go_num, rfl, HON.out, HTN.out⟩
              · refine wR (v := .bool false) rfl (ix_lss rfl rfl rfl (decide_eq_false (by omega))) ?_
                simp only [Act.put, zzA, zz0, zz1]
                have HOW := Lib.hid (show Own wr w8.heap.size 5 (.slice A' n' c') (wire d ty fs) from by
                  have h1 := HO.out
                  rw [List.take_of_length_le (by rw [HNL.out]; omega), ← HWI.out] at h1
                  exact h1)
                clear hlt
                go_upto_region 34 with fail
                refine wp_region_lit ?_
                refine wR (v := .slice A' n' c') rfl (exec_move rfl rfl) ?_
                simp only [Act.put, zzA, zz0, zz1]
                refine wR (v := .slice A' n' c') rfl (gx_assign rfl rfl) ?_
                simp only [Act.put, zzA, zz0, zz1]
                refine wR (v := .int .i64 0) rfl (gx_assign rfl rfl) ?_
                simp only [Act.put, zzA, zz0, zz1]
                go_wp2_with fail
                go_ret2
                rw [show mencode (d : Int) ty fs = .ok (wire d ty fs) from HENC.out]
                exact ⟨_, _, _, rfl, own_base HOW.out ((((((HT0.out.next HT2.out).next HTL.out).next HTD.out).next HT7.out).next HT8.out)).size, ((((((HT0.out.next HT2.out).next HTL.out).next HTD.out).next HT7.out).next HT8.out).next HTR.out)⟩
          | false =>
            have hall : fs.take j = fs := List.take_of_length_le (by rw [HNL.out]; omega)
            have hlb := HLB.out
            have hb6 := HB6.out
            have ham := HAM.out
            rw [hall] at hlb hb6 ham
            have HENC := Lib.hid (HREF.out.1 ham)
            have HSAID := Lib.hid ((mencode_ok.1 (HREF.out.1 ham)).2.1.2.2.2)
            have HWL := Lib.hid (wire_len HD.out (show Wr d ty fs from by
              have h := (mencode_ok.1 (HREF.out.1 ham)).2.1
              rwa [Int.toNat_natCast] at h))
            have HB9 := Lib.hid hb6
            have HFA := Lib.hid hlb
            clear hall hlb hb6 ham hlt HLB HB6 HAM HJL
            have HBM9 := Lib.hid (HBgm.out.turn (HT2.out.next HTR.out) (fun e => e))
            go_upto_region 16 with fail
            refine wp_region_lit ?_
            refine wR (v := .bool false) rfl (exec_move rfl rfl) ?_
            simp only [Act.put, zzA, zz0, zz1]
            have HH2 := Lib.hid (show half2 fs = 0 from Classical.byContradiction fun h => by
              have h1 := (far_half HNO.out).2 h
              rw [← HFA.out] at h1
              cases h1)
            go_upto_region 18 with fail
            refine wp_region_lit ?_
            refine wR (v := .slice (some ⟨gb, 0, none⟩) 16 16) rfl (exec_move rfl rfl) ?_
            simp only [Act.put, zzA, zz0, zz1]
            refine wR (v := .slice (some ⟨gb, 0, none⟩) 8 16) rfl (exec_slice rfl rfl rfl rfl rfl (slice_to_any (some ⟨gb, 0, none⟩) 16 16 8 (by decide) (by decide) _)) ?_
            simp only [Act.put, zzA, zz0, zz1]
            refine wR (v := .slice (some ⟨gb, 0, none⟩) 8 16) rfl (gx_assign rfl rfl) ?_
            simp only [Act.put, zzA, zz0, zz1]
            have HBX := Lib.hid HB9.out
            have HTL := Lib.hid HTR.out
            have HBM := Lib.hid HBM9.out
            have HXT := Lib.hid (bits_near HH2.out)
            have HXL := Lib.hid (B16_len fs)
            have HXM := Lib.hid (show (bitsL fs).length = 8 from by unfold bitsL; rw [if_pos HH2.out, be_len])
            generalize wr = w5 at *
            clear HTR HB9 HBM9 HFA HREF
            obtain ⟨T, hT⟩ : ∃ T, T = (typeFm d).put (ver d ++ dig3 ty.toNat) := ⟨_, rfl⟩
            have HTT := Lib.hid hT
            have HPL := Lib.hid (show ∀ k, (T ++ mapB d ((bitsL fs).take k)).length ≤ 500 from fun k => by
              have h1 := HWL.out
              unfold wire at h1
              rw [← HTT.out, mapPut_bits HD.out, ← List.take_append_drop k (bitsL fs), mapB_append] at h1
              simp only [List.length_append] at h1 ⊢
              omega)
            have HBL := Lib.hid (show ∀ k, (T ++ mapPut d fs ++ body d (fs.take k)).length ≤ 500 from fun k => by
              have h1 := HWL.out
              have h2 := body_take_le d fs k
              unfold wire at h1
              rw [← HTT.out] at h1
              simp only [List.length_append] at h1 ⊢
              omega)
            have HWI := Lib.hid (show wire d ty fs = T ++ mapPut d fs ++ body d fs from by
              unfold wire
              rw [← HTT.out, List.append_assoc])
            clear hT
            go_upto_region 19 with fail
            have hS0 : Blk w5.drew gm 24 #[.int .i64 ty, .slice A n c] := HBM.out.drew
            have HTD := Lib.hid (Turn.drew (Turn.refl nowhere w5))
            refine wp_region_alw (fun W => Blk W gm 24 #[.int .i64 ty, .slice A n c]) (by kernel_rfl) ?_
            generalize w5.drew = w6 at *
            refine alw_take (i := 0) (v := .int .i64 (d : Int)) rfl (by kernel_rfl) (by kernel_rfl) (fun _ _ _ h => h) (.inl ⟨by rfl, fun W hW => exec_move rfl rfl⟩) hS0 ?_
            simp only [Act.put, zzA, zz0, zz1]
            refine alw_take (i := 2) (v := .int .i64 (d : Int)) rfl (by kernel_rfl) (by kernel_rfl) (fun _ _ _ h => h) (.inl ⟨by rfl, fun W hW => exec_move rfl rfl⟩) hS0 ?_
            simp only [Act.put, zzA, zz0, zz1]
            refine alw_take (i := 3) (v := .pointer (some ⟨gm, 0, none⟩)) rfl (by kernel_rfl) (by kernel_rfl) (fun _ _ _ h => h) (.inl ⟨by rfl, fun W hW => exec_field (off := 0) (d := 0) rfl rfl (by kernel_rfl)⟩) hS0 ?_
            simp only [Act.put, zzA, zz0, zz1]
            refine alw_take (i := 4) (v := .int .i64 ty) rfl (by kernel_rfl) (by kernel_rfl) (fun _ _ _ h => h) (.inl ⟨by rfl, fun W hW => exec_load1 rfl rfl (by kernel_rfl) (hW.cell 0)⟩) hS0 ?_
            simp only [Act.put, zzA, zz0, zz1]
            refine alw_step (i := 1) (by kernel_rfl) rfl rfl ?_
            intro K1 HK1
            go_wp2_with fail
            refine (number_walk (w := w6) (dd := (d : Int)) (sz := 4)).mono ?_
            rintro e w7 ⟨rfl, ht7⟩
            have hS1 := hS0.turn ht7 (fun e => e)
            refine HK1.out _ _ ⟨hS1, ?_⟩
            have HT7 := Lib.hid ht7
            clear HK1 hS0 ht7
            try simp only [Act.put, zzA, zz0, zz1]
            have hH := head_ty (w := w7) HD.out HTY.out
            refine alw_step (i := 5) (by kernel_rfl) rfl rfl ?_
            intro K1 HK1
            go_wp2_with fail
            refine hH.mono ?_
            rintro e w8 ⟨rfl, ht8⟩
            have hS2 := hS1.turn ht8 (fun e => e)
            refine HK1.out _ _ ⟨hS2, ?_⟩
            have HT8 := Lib.hid ht8
            clear HK1 hS1 ht8 hH
            try simp only [Act.put, zzA, zz0, zz1]
            have hP := put_type (w := w8) HD.out HTY.out
            rw [← HTT.out] at hP
            refine alw_step (i := 6) (by kernel_rfl) rfl rfl ?_
            intro K1 HK1
            go_wp2_with fail
            refine hP.mono ?_
            rintro e w9 ⟨A9, n9, c9, rfl, ho9, ht9⟩
            have hS3 := hS2.turn ht9 (fun e => e)
            refine HK1.out _ _ ⟨hS3, ?_⟩
            have HT9 := Lib.hid ht9
            have HO9 := Lib.hid ho9
            clear HK1 hS2 ht9 ho9 hP
            try simp only [Act.put, zzA, zz0, zz1]
            refine alw_take (i := 7) (v := .tuple #[.slice A9 n9 c9, .int .i64 0]) rfl (by kernel_rfl) (by kernel_rfl) (fun _ _ _ h => h) (.inl ⟨by rfl, fun W hW => exec_move rfl rfl⟩) hS3 ?_
            simp only [Act.put, zzA, zz0, zz1]
            refine alw_take (i := 8) (v := .slice A9 n9 c9) rfl (by kernel_rfl) (by kernel_rfl) (fun _ _ _ h => h) (.inl ⟨by rfl, fun W hW => ix_extract rfl rfl rfl⟩) hS3 ?_
            simp only [Act.put, zzA, zz0, zz1]
            refine alw_take (i := 9) (v := .int .i64 0) rfl (by kernel_rfl) (by kernel_rfl) (fun _ _ _ h => h) (.inl ⟨by rfl, fun W hW => ix_extract rfl rfl rfl⟩) hS3 ?_
            simp only [Act.put, zzA, zz0, zz1]
            refine alw_take (i := 10) (v := .slice A9 n9 c9) rfl (by kernel_rfl) (by kernel_rfl) (fun _ _ _ h => h) (.inl ⟨by rfl, fun W hW => gx_assign rfl rfl⟩) hS3 ?_
            simp only [Act.put, zzA, zz0, zz1]
            refine alw_take (i := 11) (v := .int .i64 0) rfl (by kernel_rfl) (by kernel_rfl) (fun _ _ _ h => h) (.inl ⟨by rfl, fun W hW => gx_assign rfl rfl⟩) hS3 ?_
            simp only [Act.put, zzA, zz0, zz1]
            refine alw_done rfl ?_
            clear hS3
            refine NoPanic.normal ?_
            have HGP := Lib.hid (show gb < w8.heap.size from by
              have h1 := HBX.out.lt
              have h2 := HTD.out.size
              have h3 := HT7.out.size
              have h4 := HT8.out.size
              omega)
            have HBX8 := Lib.hid (HBX.out.turn ((HTD.out.next HT7.out).next HT8.out) (fun e => e))
            go_upto_region 20 with fail
            refine wp_region_lit ?_
            refine wR (v := .int .i64 0) rfl (gx_assign rfl rfl) ?_
            simp only [Act.put, zzA, zz0, zz1]
            go_wp2_with fail
            go_loopg [11, 13] 8 (fun gk bv jv wr => ∃ (k : Nat) (A' : Option Addr) (n' c' : Nat), k + gk = 8 ∧ jv = .int .i64 (k : Int) ∧ bv = .slice A' n' c' ∧ Own wr w8.heap.size 5 (.slice A' n' c') (T ++ mapB d ((bitsL fs).take k)) ∧ Turn nowhere w8 wr)
            case atStart => exact ⟨0, _, _, _, by omega, rfl, rfl, by rw [List.take_zero, show mapB d [] = [] from by unfold mapB; split <;> rfl, List.append_nil]; exact HO9.out, HT9.out⟩
            obtain ⟨k, A', n', c', hkl, rfl, rfl, ho, htr⟩ := hrel
            have HKL := Lib.hid hkl
            have HO := Lib.hid ho
            have HTR := Lib.hid htr
            clear hkl ho htr
            go_upto_region 21 with fail
            refine wp_region_lit ?_
            refine wR (v := .int .i64 (k : Int)) rfl (exec_move rfl rfl) ?_
            simp only [Act.put, zzA, zz0, zz1]
            refine wR (v := .slice (some ⟨gb, 0, none⟩) 8 16) rfl (exec_move rfl rfl) ?_
            simp only [Act.put, zzA, zz0, zz1]
            refine wR (v := .int .i64 8) rfl (gx_len rfl rfl Tryz.underlying26) ?_
            simp only [Act.put, zzA, zz0, zz1]
            by_cases hk : k < 8
            · refine wR (v := .bool true) rfl (ix_lss rfl rfl rfl (decide_eq_true (by omega))) ?_
              simp only [Act.put, zzA, zz0, zz1]
              have HK := Lib.hid hk
              have y4 : (k : Int) < 8 := by omega
              obtain ⟨x, hx⟩ : ∃ x, x = (B16 fs).getD k 0 := ⟨_, rfl⟩
              have HX := Lib.hid hx
              have HBK := Lib.hid (HBX8.out.turn HTR.out (fun e => e))
              have HMB := Lib.hid (show (bitsL fs).take (k + 1) = (bitsL fs).take k ++ [x] from by
                have h1 : (bitsL fs)[k]? = some x := by
                  rw [← HXT.out, List.getElem?_take, if_pos hk, hx, List.getD, List.getElem?_eq_getElem (by rw [HXL.out]; omega)]
                  rfl
                rw [List.take_add_one, h1]
                rfl)
              have hP0 := HPL.out k
              clear hk hx
              go_upto_region 23 with fail
              refine wp_region_lit ?_
              refine wR (v := .int .i64 (d : Int)) rfl (exec_move rfl rfl) ?_
              simp only [Act.put, zzA, zz0, zz1]
              by_cases h1 : (d : Int) = 1
              · refine wR (v := .bool true) rfl (ix_eql rfl rfl rfl (decide_eq_true h1)) ?_
                simp only [Act.put, zzA, zz0, zz1]
                have HD1 := Lib.hid (show d = 1 by omega)
                clear h1
                go_upto_region 24 with fail
                have hS0 : Blk wr.drew gb 5 (bcs (B16 fs)).toArray := HBK.out.drew
                have HOd := Lib.hid (HO.out.drew)
                have HTd := Lib.hid (HTR.out.drew)
                refine wp_region_alw (fun W => Blk W gb 5 (bcs (B16 fs)).toArray) (by kernel_rfl) ?_
                generalize wr.drew = wa at *
                refine alw_take (i := 0) (v := .slice A' n' c') rfl (by kernel_rfl) (by kernel_rfl) (fun _ _ _ h => h) (.inl ⟨by rfl, fun W hW => exec_move rfl rfl⟩) hS0 ?_
                simp only [Act.put, zzA, zz0, zz1]
                refine alw_take (i := 1) (v := .slice (some ⟨gb, 0, none⟩) 8 16) rfl (by kernel_rfl) (by kernel_rfl) (fun _ _ _ h => h) (.inl ⟨by rfl, fun W hW => exec_move rfl rfl⟩) hS0 ?_
                simp only [Act.put, zzA, zz0, zz1]
                refine alw_take (i := 2) (v := .int .i64 (k : Int)) rfl (by kernel_rfl) (by kernel_rfl) (fun _ _ _ h => h) (.inl ⟨by rfl, fun W hW => exec_move rfl rfl⟩) hS0 ?_
                simp only [Act.put, zzA, zz0, zz1]
                refine alw_take (i := 3) (v := .pointer (some ⟨gb, k, none⟩)) rfl (by kernel_rfl) (by kernel_rfl) (fun _ _ _ h => h) (.inl ⟨by rfl, fun W hW => gx_iaddr (i := k) (sz := 1) rfl rfl rfl Tryz.underlying26 size_byte1 (by have := HK.out; omega) (by omega)⟩) hS0 ?_
                simp only [Act.put, zzA, zz0, zz1]
                refine alw_take (i := 4) (v := .int .u8 (x.toNat : Int)) rfl (by kernel_rfl) (by kernel_rfl) (fun _ _ _ h => h) (.inl ⟨by rfl, fun W hW => exec_load1 rfl rfl (by kernel_rfl) (by rw [HX.out]; exact blk_byte hW (by rw [HXL.out]; have := HK.out; omega))⟩) hS0 ?_
                simp only [Act.put, zzA, zz0, zz1]
                refine alw_take (i := 5) (v := .int .u8 ((x.toNat / 16 : Nat) : Int)) rfl (by kernel_rfl) (by kernel_rfl) (fun _ _ _ h => h) (.inl ⟨by rfl, fun W hW => b8_quo rfl rfl (UInt8.toNat_lt _)⟩) hS0 ?_
                simp only [Act.put, zzA, zz0, zz1]
                refine alw_take (i := 6) (v := .int .u8 ((hexU.getD (x.toNat / 16) 0).toNat : Int)) rfl (by kernel_rfl) (by kernel_rfl) (fun _ _ _ h => h) (.inl ⟨by rfl, fun W hW => exec_sidx (l := hexU) (i := x.toNat / 16) rfl rfl rfl (by have := UInt8.toNat_lt x; show x.toNat / 16 < 16; omega)⟩) hS0 ?_
                simp only [Act.put, zzA, zz0, zz1]
                refine alw_take (i := 7) (v := .slice (some ⟨gb, 0, none⟩) 8 16) rfl (by kernel_rfl) (by kernel_rfl) (fun _ _ _ h => h) (.inl ⟨by rfl, fun W hW => exec_move rfl rfl⟩) hS0 ?_
                simp only [Act.put, zzA, zz0, zz1]
                refine alw_take (i := 8) (v := .int .i64 (k : Int)) rfl (by kernel_rfl) (by kernel_rfl) (fun _ _ _ h => h) (.inl ⟨by rfl, fun W hW => exec_move rfl rfl⟩) hS0 ?_
                simp only [Act.put, zzA, zz0, zz1]
                refine alw_take (i := 9) (v := .pointer (some ⟨gb, k, none⟩)) rfl (by kernel_rfl) (by kernel_rfl) (fun _ _ _ h => h) (.inl ⟨by rfl, fun W hW => gx_iaddr (i := k) (sz := 1) rfl rfl rfl Tryz.underlying26 size_byte1 (by have := HK.out; omega) (by omega)⟩) hS0 ?_
                simp only [Act.put, zzA, zz0, zz1]
                refine alw_take (i := 10) (v := .int .u8 (x.toNat : Int)) rfl (by kernel_rfl) (by kernel_rfl) (fun _ _ _ h => h) (.inl ⟨by rfl, fun W hW => exec_load1 rfl rfl (by kernel_rfl) (by rw [HX.out]; exact blk_byte hW (by rw [HXL.out]; have := HK.out; omega))⟩) hS0 ?_
                simp only [Act.put, zzA, zz0, zz1]
                refine alw_take (i := 11) (v := .int .u8 ((x.toNat % 16 : Nat) : Int)) rfl (by kernel_rfl) (by kernel_rfl) (fun _ _ _ h => h) (.inl ⟨by rfl, fun W hW => b8_rem rfl rfl⟩) hS0 ?_
                simp only [Act.put, zzA, zz0, zz1]
                refine alw_take (i := 12) (v := .int .u8 ((hexU.getD (x.toNat % 16) 0).toNat : Int)) rfl (by kernel_rfl) (by kernel_rfl) (fun _ _ _ h => h) (.inl ⟨by rfl, fun W hW => exec_sidx (l := hexU) (i := x.toNat % 16) rfl rfl rfl (by show x.toNat % 16 < 16; omega)⟩) hS0 ?_
                simp only [Act.put, zzA, zz0, zz1]
                have hu2 := (Turn.refl nowhere wa).alloc (.cells (bcs [hexU.getD (x.toNat / 16) 0, hexU.getD (x.toNat % 16) 0]).toArray 5)
                have hs2 := bs_blk (Blk.new wa 5 (bcs [hexU.getD (x.toNat / 16) 0, hexU.getD (x.toNat % 16) 0]).toArray) (n := 2) rfl (by unfold maxLen; omega)
                have ho2 := own_still HOd.out hu2
                have hS1 := hS0.turn hu2 (fun e => e)
                refine alw_step (i := 13) (by kernel_rfl) rfl rfl ?_
                intro K1 HK1
                refine wp_run (exec_two rfl rfl rfl) ?_
                refine HK1.out _ _ ⟨hS1, ?_⟩
                clear HK1 hS0
                obtain ⟨g2, hg2⟩ : ∃ g, g = wa.heap.size := ⟨_, rfl⟩
                rw [← hg2] at hs2 ⊢
                clear hg2
                generalize wa.alloc (.cells (bcs [hexU.getD (x.toNat / 16) 0, hexU.getD (x.toNat % 16) 0]).toArray 5) = wb at *
                try simp only [Act.put, zzA, zz0, zz1]
                refine alw_step (i := 14) (by kernel_rfl) rfl rfl ?_
                intro K1 HK1
                refine wp_append_bytes wb _ _ _ rfl w8.heap.size 5 byteInfo Tryz.underlying26 _ _ rfl ho2 _ 2 2 [hexU.getD (x.toNat / 16) 0, hexU.getD (x.toNat % 16) 0] rfl hs2 (fun h => by cases h) (by omega) (Nat.le_trans HTd.out.size hu2.size) ?_
                intro v5 w10 ho5 hb5
                obtain ⟨A5, n5, c5, rfl, _⟩ := ho5.form
                have hS2 : Blk w10 gb 5 (bcs (B16 fs)).toArray := (hb5.block gb HGP.out).trans hS1
                refine HK1.out _ _ ⟨hS2, ?_⟩
                clear HK1 hS1
                try simp only [Act.put, zzA, zz0, zz1]
                have HON := Lib.hid (show Own w10 w8.heap.size 5 (.slice A5 n5 c5) (T ++ mapB d ((bitsL fs).take (k + 1))) from by
                  rw [HMB.out, mapB_append, ← List.append_assoc, show mapB d [x] = [hexU.getD (x.toNat / 16) 0, hexU.getD (x.toNat % 16) 0] from by unfold mapB; rw [if_pos HD1.out]; rfl]
                  exact ho5)
                have HTN := Lib.hid (Turn.of_below (((HTd.out.next hu2).below (Nat.le_refl _) (fun _ _ e=>e)).trans hb5) (Nat.le_refl _))
                clear ho5 hb5 ho2 hs2 hu2
                refine alw_take (i := 15) (v := .slice A5 n5 c5) rfl (by kernel_rfl) (by kernel_rfl) (fun _ _ _ h => h) (.inl ⟨by rfl, fun W hW => gx_assign rfl rfl⟩) hS2 ?_
                simp only [Act.put, zzA, zz0, zz1]
                refine alw_done rfl ?_
                clear hS2
                refine NoPanic.normal ?_
                go_upto_region 22 with fail
                refine wp_region_lit ?_
                refine wR (v := .int .i64 (k : Int)) rfl (exec_move rfl rfl) ?_
                simp only [Act.put, zzA, zz0, zz1]
                refine wR (v := .int .i64 ((k + 1 : Nat) : Int)) rfl (ix_add rfl rfl rfl (by omega) (by omega)) ?_
                simp only [Act.put, zzA, zz0, zz1]
                refine wR (v := .int .i64 ((k + 1 : Nat) : Int)) rfl (gx_assign rfl rfl) ?_
                simp only [Act.put, zzA, zz0, zz1]
                go_wp2_with fail
                go_roundg (gk - 1)
                case measure => have := HKL.out; have := HK.out; omega
                case rel => exact ⟨k + 1, _, _, _, by have := HKL.out; have := HK.out; omega, by go_num, rfl, HON.out, HTN.out⟩
              · refine wR (v := .bool false) rfl (ix_eql rfl rfl rfl (decide_eq_false h1)) ?_
                simp only [Act.put, zzA, zz0, zz1]
                have HD1 := Lib.hid (show ¬ d = 1 by omega)
                clear h1
                go_upto_region 25 with fail
                refine wp_region_lit ?_
                refine wR (v := .slice A' n' c') rfl (exec_move rfl rfl) ?_
                simp only [Act.put, zzA, zz0, zz1]
                refine wR (v := .slice (some ⟨gb, 0, none⟩) 8 16) rfl (exec_move rfl rfl) ?_
                simp only [Act.put, zzA, zz0, zz1]
                refine wR (v := .int .i64 (k : Int)) rfl (exec_move rfl rfl) ?_
                simp only [Act.put, zzA, zz0, zz1]
                refine wR (v := .pointer (some ⟨gb, k, none⟩)) rfl (gx_iaddr (i := k) (sz := 1) rfl rfl rfl Tryz.underlying26 size_byte1 (by have := HK.out; omega) (by omega)) ?_
                simp only [Act.put, zzA, zz0, zz1]
                refine wR (v := .int .u8 (x.toNat : Int)) rfl (exec_load1 rfl rfl (by kernel_rfl) (by rw [HX.out]; exact blk_byte HBK.out (by rw [HXL.out]; have := HK.out; omega))) ?_
                simp only [Act.put, zzA, zz0, zz1]
                refine wR (v := .slice (some ⟨wr.heap.size, 0, none⟩) 1 1) (w' := wr.alloc (.cells (bcs [x]).toArray 5)) rfl (exec_one (z := x) rfl rfl) ?_
                simp only [Act.put, zzA, zz0, zz1]
                have hu2 := (Turn.refl nowhere wr).alloc (.cells (bcs [x]).toArray 5)
                have hs2 := bs_blk (Blk.new wr 5 (bcs [x]).toArray) (n := 1) rfl (by unfold maxLen; omega)
                have ho2 := own_still HO.out hu2
                obtain ⟨g2, hg2⟩ : ∃ g, g = wr.heap.size := ⟨_, rfl⟩
                rw [← hg2] at hs2 ⊢
                clear hg2
                generalize wr.alloc (.cells (bcs [x]).toArray 5) = wb at *
                refine wpList_append_bytes wb rfl _ _ _ rfl w8.heap.size 5 byteInfo Tryz.underlying26 _ _ rfl ho2 _ 1 1 [x] rfl hs2 (fun h => by cases h) (by omega) (Nat.le_trans HTR.out.size hu2.size) ?_
                intro v5 w10 ho5 hb5
                obtain ⟨A5, n5, c5, rfl, _⟩ := ho5.form
                simp only [Act.put, zzA, zz0, zz1]
                have HON := Lib.hid (show Own w10 w8.heap.size 5 (.slice A5 n5 c5) (T ++ mapB d ((bitsL fs).take (k + 1))) from by
                  rw [HMB.out, mapB_append, ← List.append_assoc, show mapB d [x] = [x] from by unfold mapB; rw [if_neg HD1.out]]
                  exact ho5)
                have HTN := Lib.hid (Turn.of_below (((HTR.out.next hu2).below (Nat.le_refl _) (fun _ _ e=>e)).trans hb5) (Nat.le_refl _))
                clear ho5 hb5 ho2 hs2 hu2
                refine wR (v := .slice A5 n5 c5) rfl (gx_assign rfl rfl) ?_
                simp only [Act.put, zzA, zz0, zz1]
                go_upto_region 22 with fail
                refine wp_region_lit ?_
                refine wR (v := .int .i64 (k : Int)) rfl (exec_move rfl rfl) ?_
                simp only [Act.put, zzA, zz0, zz1]
                refine wR (v := .int .i64 ((k + 1 : Nat) : Int)) rfl (ix_add rfl rfl rfl (by omega) (by omega)) ?_
                simp only [Act.put, zzA, zz0, zz1]
                refine wR (v := .int .i64 ((k + 1 : Nat) : Int)) rfl (gx_assign rfl rfl) ?_
                simp only [Act.put, zzA, zz0, zz1]
                go_wp2_with fail
                go_roundg (gk - 1)
                case measure => have := HKL.out; have := HK.out; omega
                case rel => exact ⟨k + 1, _, _, _, by have := HKL.out; have := HK.out; omega, by go_num, rfl, HON.out, HTN.out⟩
            · refine wR (v := .bool false) rfl (ix_lss rfl rfl rfl (decide_eq_false (by omega))) ?_
              simp only [Act.put, zzA, zz0, zz1]
              have HOW := Lib.hid (show Own wr w8.heap.size 5 (.slice A' n' c') (T ++ mapPut d fs) from by
                have h1 := HO.out
                rw [List.take_of_length_le (by rw [HXM.out]; omega), ← mapPut_bits HD.out] at h1
                exact h1)
              have HTW := Lib.hid HTR.out
              clear hk HO HTR HKL
              go_upto_region 26 with fail
              refine wp_region_lit ?_
              refine wR (v := .int .i64 0) rfl (gx_assign rfl rfl) ?_
              simp only [Act.put, zzA, zz0, zz1]
              go_wp2_with fail
              go_loopg [11, 14] n (fun gk bv jv wq => ∃ (j : Nat) (A' : Option Addr) (n' c' : Nat), j + gk = n ∧ jv = .int .i64 (j : Int) ∧ bv = .slice A' n' c' ∧ Own wq w8.heap.size 5 (.slice A' n' c') (T ++ mapPut d fs ++ body d (fs.take j)) ∧ Turn nowhere w8 wq)
              case atStart => exact ⟨0, _, _, _, by omega, rfl, rfl, by rw [List.take_zero, show body d [] = [] from rfl, List.append_nil]; exact HOW.out, HTW.out⟩
              clear HOW HTW
              obtain ⟨j, A', n', c', hjl, rfl, rfl, ho, htr⟩ := hrel
              have HJL := Lib.hid hjl
              have HO := Lib.hid ho
              have HTR := Lib.hid htr
              clear hjl ho htr
              have HB2 := Lib.hid ((HBgm.out.turn (((((HT2.out.next HTL.out).next HTD.out).next HT7.out).next HT8.out).next HTR.out) (fun e => e)))
              go_upto_region 27 with fail
              refine wp_region_lit ?_
              refine wR (v := .int .i64 (j : Int)) rfl (exec_move rfl rfl) ?_
              simp only [Act.put, zzA, zz0, zz1]
              refine wR (v := .pointer (some ⟨gm, 1, none⟩)) rfl (exec_field (off := 0) (d := 1) rfl rfl (by kernel_rfl)) ?_
              simp only [Act.put, zzA, zz0, zz1]
              refine wR (v := .slice A n c) rfl (exec_load1 rfl rfl (by kernel_rfl) (HB2.out.cell 1)) ?_
              simp only [Act.put, zzA, zz0, zz1]
              refine wR (v := .int .i64 (n : Int)) rfl (gx_len rfl rfl Tryz.underlying22) ?_
              simp only [Act.put, zzA, zz0, zz1]
              by_cases hlt : j < n
              · have HLT := Lib.hid hlt
                have y1 : (j : Int) < (n : Int) := by omega
                obtain ⟨bF, oF, rfl, hr⟩ := (HF.out.still ((((((HT0.out.next HT2.out).next HTL.out).next HTD.out).next HT7.out).next HT8.out).next HTR.out)).2.2 (by omega)
                obtain ⟨f, hf⟩ : ∃ f, fs[j]? = some f := ⟨_, List.getElem?_eq_getElem (show j < fs.length from by rw [HNL.out]; exact hlt)⟩
                have hmem := List.mem_of_getElem? hf
                have HRR := Lib.hid (hr j f hf)
                have HSN := Lib.hid (take_snoc hf)
                have HTF := Lib.hid (HTX.out f hmem)
                have hsd := HSAID.out f hmem
                rw [Int.toNat_natCast] at hsd
                obtain ⟨m1, hm1, hc1⟩ := HGD.out.2 f hmem
                have HSAY := Lib.hid (say_amt ((said_amt HD.out hm1 hc1).1 hsd))
                obtain ⟨m, hm, hc⟩ := hsd
                have HM := Lib.hid hm
                have HC := Lib.hid hc
                have HL12 := Lib.hid (fun h4 => amt_len HGD.out hmem h4)
                have HB0 := Lib.hid (HBL.out j)
                clear hr hf hlt hmem hm1 hc1 hm hc
                refine wR (v := .bool true) rfl (ix_lss rfl rfl rfl (decide_eq_true y1)) ?_
                simp only [Act.put, zzA, zz0, zz1]
                go_upto_region 29 with fail
                refine wp_region_lit ?_
                refine wR (v := .int .i64 (d : Int)) rfl (exec_move rfl rfl) ?_
                simp only [Act.put, zzA, zz0, zz1]
                refine wR (v := .pointer (some ⟨gm, 1, none⟩)) rfl (exec_field (off := 0) (d := 1) rfl rfl (by kernel_rfl)) ?_
                simp only [Act.put, zzA, zz0, zz1]
                refine wR (v := .slice (some ⟨bF, oF, none⟩) n c) rfl (exec_load1 rfl rfl (by kernel_rfl) (HB2.out.cell 1)) ?_
                simp only [Act.put, zzA, zz0, zz1]
                refine wR (v := .int .i64 (j : Int)) rfl (exec_move rfl rfl) ?_
                simp only [Act.put, zzA, zz0, zz1]
                refine wR (v := .pointer (some ⟨bF, oF + j * 2, none⟩)) rfl (gx_iaddr (i := j) (sz := 2) rfl rfl rfl Tryz.underlying22 size_field HLT.out (by omega)) ?_
                simp only [Act.put, zzA, zz0, zz1]
                refine wR (v := .pointer (some ⟨bF, oF + j * 2, none⟩)) rfl (exec_field (off := oF + j * 2) (d := 0) rfl rfl (by kernel_rfl)) ?_
                simp only [Act.put, zzA, zz0, zz1]
                refine wR (v := .int .i64 f.1) rfl (exec_load1 rfl rfl (by kernel_rfl) (HRR.out 0 _ rfl)) ?_
                simp only [Act.put, zzA, zz0, zz1]
                have hFm := rForm_walk (w := wr) (dd := (d : Int)) (no := f.1)
                rw [show formE (d : Int) f.1 = (m, 0) from by
                  unfold formE
                  rw [if_pos HDI.out, Int.toNat_natCast, HM.out]] at hFm
                refine wpList_op rfl fun K9 HK9 => ?_
                go_wp2_with fail
                refine (hFm).mono ?_
                rintro e w10 ⟨rfl, htx⟩
                refine HK9.out _ _ ?_
                clear HK9
                try simp only [Act.put, zzA, zz0, zz1]
                clear hFm
                have HT10 := Lib.hid htx
                clear htx
                refine wR (v := .tuple #[.agg (fmA m), .int .i64 0]) rfl (exec_move rfl rfl) ?_
                simp only [Act.put, zzA, zz0, zz1]
                refine wR (v := .agg (fmA m)) rfl (ix_extract rfl rfl rfl) ?_
                simp only [Act.put, zzA, zz0, zz1]
                refine wR (v := .int .i64 0) rfl (ix_extract rfl rfl rfl) ?_
                simp only [Act.put, zzA, zz0, zz1]
                refine wpList_new 49 (.tmp 15) (.tmp 148) (fmA m) rfl rfl (zero_fm _) rfl rfl rfl rfl rfl rfl (by rw [size_form]; rfl) (fmA_one _) ?_
                intro w11 g11 _ hbx hux
                simp only [Act.put, zzA, zz0, zz1]
                have HBg11 := Lib.hid hbx
                have HT11 := Lib.hid hux
                clear hbx hux
                have HB3 := Lib.hid (HB2.out.turn (HT10.out.next HT11.out) (fun e => e))
                have HR3 := Lib.hid (show w11.rangeAt bF (oF + j * 2) (fldA f).toList from fun i v hv => ((HT10.out.next HT11.out).cell (World.block_lt_of_cell? _ _ (HRR.out i v hv)) (fun e => e)).trans (HRR.out i v hv))
                refine wR (v := .int .i64 0) rfl (gx_assign rfl rfl) ?_
                simp only [Act.put, zzA, zz0, zz1]
                go_upto_region 30 with fail
                refine wp_region_lit ?_
                refine wR (v := .pointer (some ⟨gm, 1, none⟩)) rfl (exec_field (off := 0) (d := 1) rfl rfl (by kernel_rfl)) ?_
                simp only [Act.put, zzA, zz0, zz1]
                refine wR (v := .slice (some ⟨bF, oF, none⟩) n c) rfl (exec_load1 rfl rfl (by kernel_rfl) (HB3.out.cell 1)) ?_
                simp only [Act.put, zzA, zz0, zz1]
                refine wR (v := .int .i64 (j : Int)) rfl (exec_move rfl rfl) ?_
                simp only [Act.put, zzA, zz0, zz1]
                refine wR (v := .pointer (some ⟨bF, oF + j * 2, none⟩)) rfl (gx_iaddr (i := j) (sz := 2) rfl rfl rfl Tryz.underlying22 size_field HLT.out (by omega)) ?_
                simp only [Act.put, zzA, zz0, zz1]
                refine wR (v := .pointer (some ⟨bF, oF + j * 2 + 1, none⟩)) rfl (exec_field (off := oF + j * 2) (d := 1) rfl rfl (by kernel_rfl)) ?_
                simp only [Act.put, zzA, zz0, zz1]
                refine wR (v := strV f.2) rfl (exec_load1 rfl rfl (by kernel_rfl) (HR3.out 1 _ rfl)) ?_
                simp only [Act.put, zzA, zz0, zz1]
                refine wR (v := strV f.2) rfl (gx_assign rfl rfl) ?_
                simp only [Act.put, zzA, zz0, zz1]
                go_upto_region 31 with fail
                refine wp_region_lit ?_
                refine wR (v := .int .i64 (d : Int)) rfl (exec_move rfl rfl) ?_
                simp only [Act.put, zzA, zz0, zz1]
                by_cases h3 : (d : Int) = 3
                · refine wR (v := .bool true) rfl (ix_eql rfl rfl rfl (decide_eq_true h3)) ?_
                  simp only [Act.put, zzA, zz0, zz1]
                  refine wR (v := .bool true) rfl (exec_move rfl rfl) ?_
                  simp only [Act.put, zzA, zz0, zz1]
                  refine wR (v := .pointer (some ⟨gm, 1, none⟩)) rfl (exec_field (off := 0) (d := 1) rfl rfl (by kernel_rfl)) ?_
                  simp only [Act.put, zzA, zz0, zz1]
                  refine wR (v := .slice (some ⟨bF, oF, none⟩) n c) rfl (exec_load1 rfl rfl (by kernel_rfl) (HB3.out.cell 1)) ?_
                  simp only [Act.put, zzA, zz0, zz1]
                  refine wR (v := .int .i64 (j : Int)) rfl (exec_move rfl rfl) ?_
                  simp only [Act.put, zzA, zz0, zz1]
                  refine wR (v := .pointer (some ⟨bF, oF + j * 2, none⟩)) rfl (gx_iaddr (i := j) (sz := 2) rfl rfl rfl Tryz.underlying22 size_field HLT.out (by omega)) ?_
                  simp only [Act.put, zzA, zz0, zz1]
                  refine wR (v := .pointer (some ⟨bF, oF + j * 2, none⟩)) rfl (exec_field (off := oF + j * 2) (d := 0) rfl rfl (by kernel_rfl)) ?_
                  simp only [Act.put, zzA, zz0, zz1]
                  refine wR (v := .int .i64 f.1) rfl (exec_load1 rfl rfl (by kernel_rfl) (HR3.out 0 _ rfl)) ?_
                  simp only [Act.put, zzA, zz0, zz1]
                  by_cases h4 : f.1 = 4
                  · refine wR (v := .bool true) rfl (ix_eql rfl rfl rfl (decide_eq_true h4)) ?_
                    simp only [Act.put, zzA, zz0, zz1]
                    refine wR (v := .bool true) rfl (ix_pickT rfl rfl rfl) ?_
                    simp only [Act.put, zzA, zz0, zz1]
                    have HL2 := Lib.hid (HL12.out h4)
                    have H3 := Lib.hid h3
                    have H4 := Lib.hid h4
                    clear h3 h4
                    go_upto_region 32 with fail
                    refine wp_region_lit ?_
                    refine wR (v := strV f.2) rfl (exec_move rfl rfl) ?_
                    simp only [Act.put, zzA, zz0, zz1]
                    refine wR (v := strV (f.2.drop 2)) rfl (exec_sfrom (n := 2) rfl rfl rfl (by rw [HL2.out]; decide)) ?_
                    simp only [Act.put, zzA, zz0, zz1]
                    refine wR (v := strV (f.2.drop 2)) rfl (gx_assign rfl rfl) ?_
                    simp only [Act.put, zzA, zz0, zz1]
                    have HSX := Lib.hid (show say d f = f.2.drop 2 from by rw [HSAY.out, if_pos ⟨by have := H3.out; omega, H4.out⟩])
                    clear H3 H4
                    obtain ⟨A6, n6, c6, hf6, hb6, hnc6, hz6⟩ := HO.out.form
                    injection hf6 with g1 g2 g3
                    subst g1 g2 g3
                    have HB6 := Lib.hid hb6
                    have HZ6 := Lib.hid hz6
                    have HN6 := Lib.hid (show n' ≤ 500 from by rw [← hb6.1]; exact HB0.out)
                    clear hb6 hnc6 hz6
                    go_upto_region 33 with fail
                    refine wp_region_lit ?_
                    refine wR (v := .slice A' n' c') rfl (exec_move rfl rfl) ?_
                    simp only [Act.put, zzA, zz0, zz1]
                    refine wR (v := .agg (fmA m)) rfl (gx_loads rfl rfl (blk_range HBg11.out) Tryz.underlying49 rfl (by rw [size_form]; rfl)) ?_
                    simp only [Act.put, zzA, zz0, zz1]
                    refine wR (v := strV (f.2.drop 2)) rfl (exec_move rfl rfl) ?_
                    simp only [Act.put, zzA, zz0, zz1]
                    have hP := rput_ok (w := w11) (cap := c') HC.out (bs_still HB6.out (HT10.out.next HT11.out)) HZ6.out (by have := HN6.out; omega) (by rw [HSX.out]; have := HTF.out; rw [List.length_drop]; omega)
                    rw [HSX.out] at hP
                    refine wpList_op rfl fun K9 HK9 => ?_
                    go_wp2_with fail
                    refine (hP).mono ?_
                    rintro e w12 ⟨A7, n7, c7, rfl, hox, htx⟩
                    refine HK9.out _ _ ?_
                    clear HK9
                    try simp only [Act.put, zzA, zz0, zz1]
                    clear hP
                    have HON := Lib.hid (show Own w12 w8.heap.size 5 (.slice A7 n7 c7) (T ++ mapPut d fs ++ body d (fs.take (j + 1))) from by
                      rw [HSN.out, body_snoc, ← List.append_assoc, show sayPut d f = m.put (f.2.drop 2) from by unfold sayPut; rw [HM.out]; show m.put (say d f) = _; rw [HSX.out]]
                      exact own_base hox (Nat.le_trans HTR.out.size (HT10.out.next HT11.out).size))
                    have HTN := Lib.hid (((HTR.out.next HT10.out).next HT11.out).next htx)
                    clear hox htx
                    refine wR (v := .tuple #[.slice A7 n7 c7, .int .i64 0]) rfl (exec_move rfl rfl) ?_
                    simp only [Act.put, zzA, zz0, zz1]
                    refine wR (v := .slice A7 n7 c7) rfl (ix_extract rfl rfl rfl) ?_
                    simp only [Act.put, zzA, zz0, zz1]
                    refine wR (v := .int .i64 0) rfl (ix_extract rfl rfl rfl) ?_
                    simp only [Act.put, zzA, zz0, zz1]
                    refine wR (v := .slice A7 n7 c7) rfl (gx_assign rfl rfl) ?_
                    simp only [Act.put, zzA, zz0, zz1]
                    go_upto_region 28 with fail
                    refine wp_region_lit ?_
                    refine wR (v := .int .i64 (j : Int)) rfl (exec_move rfl rfl) ?_
                    simp only [Act.put, zzA, zz0, zz1]
                    refine wR (v := .int .i64 ((j + 1 : Nat) : Int)) rfl (ix_add rfl rfl rfl (by omega) (by omega)) ?_
                    simp only [Act.put, zzA, zz0, zz1]
                    refine wR (v := .int .i64 ((j + 1 : Nat) : Int)) rfl (gx_assign rfl rfl) ?_
                    simp only [Act.put, zzA, zz0, zz1]
                    go_wp2_with fail
                    go_roundg (gk - 1)
                    case measure => have := HJL.out; have := HLT.out; omega
                    case rel => exact ⟨j + 1, _, _, _, by have := HJL.out; have := HLT.out; omega, by go_num, rfl, HON.out, HTN.out⟩
                  · refine wR (v := .bool false) rfl (ix_eql rfl rfl rfl (decide_eq_false h4)) ?_
                    simp only [Act.put, zzA, zz0, zz1]
                    refine wR (v := .bool false) rfl (ix_pickT rfl rfl rfl) ?_
                    simp only [Act.put, zzA, zz0, zz1]
                    have HSX := Lib.hid (show say d f = f.2 from by rw [HSAY.out, if_neg (fun h => h4 h.2)])
                    clear h3 h4
                    obtain ⟨A6, n6, c6, hf6, hb6, hnc6, hz6⟩ := HO.out.form
                    injection hf6 with g1 g2 g3
                    subst g1 g2 g3
                    have HB6 := Lib.hid hb6
                    have HZ6 := Lib.hid hz6
                    have HN6 := Lib.hid (show n' ≤ 500 from by rw [← hb6.1]; exact HB0.out)
                    clear hb6 hnc6 hz6
                    go_upto_region 33 with fail
                    refine wp_region_lit ?_
                    refine wR (v := .slice A' n' c') rfl (exec_move rfl rfl) ?_
                    simp only [Act.put, zzA, zz0, zz1]
                    refine wR (v := .agg (fmA m)) rfl (gx_loads rfl rfl (blk_range HBg11.out) Tryz.underlying49 rfl (by rw [size_form]; rfl)) ?_
                    simp only [Act.put, zzA, zz0, zz1]
                    refine wR (v := strV f.2) rfl (exec_move rfl rfl) ?_
                    simp only [Act.put, zzA, zz0, zz1]
                    have hP := rput_ok (w := w11) (cap := c') HC.out (bs_still HB6.out (HT10.out.next HT11.out)) HZ6.out (by have := HN6.out; omega) (by rw [HSX.out]; have := HTF.out; exact this)
                    rw [HSX.out] at hP
                    refine wpList_op rfl fun K9 HK9 => ?_
                    go_wp2_with fail
                    refine (hP).mono ?_
                    rintro e w12 ⟨A7, n7, c7, rfl, hox, htx⟩
                    refine HK9.out _ _ ?_
                    clear HK9
                    try simp only [Act.put, zzA, zz0, zz1]
                    clear hP
                    have HON := Lib.hid (show Own w12 w8.heap.size 5 (.slice A7 n7 c7) (T ++ mapPut d fs ++ body d (fs.take (j + 1))) from by
                      rw [HSN.out, body_snoc, ← List.append_assoc, show sayPut d f = m.put (f.2) from by unfold sayPut; rw [HM.out]; show m.put (say d f) = _; rw [HSX.out]]
                      exact own_base hox (Nat.le_trans HTR.out.size (HT10.out.next HT11.out).size))
                    have HTN := Lib.hid (((HTR.out.next HT10.out).next HT11.out).next htx)
                    clear hox htx
                    refine wR (v := .tuple #[.slice A7 n7 c7, .int .i64 0]) rfl (exec_move rfl rfl) ?_
                    simp only [Act.put, zzA, zz0, zz1]
                    refine wR (v := .slice A7 n7 c7) rfl (ix_extract rfl rfl rfl) ?_
                    simp only [Act.put, zzA, zz0, zz1]
                    refine wR (v := .int .i64 0) rfl (ix_extract rfl rfl rfl) ?_
                    simp only [Act.put, zzA, zz0, zz1]
                    refine wR (v := .slice A7 n7 c7) rfl (gx_assign rfl rfl) ?_
                    simp only [Act.put, zzA, zz0, zz1]
                    go_upto_region 28 with fail
                    refine wp_region_lit ?_
                    refine wR (v := .int .i64 (j : Int)) rfl (exec_move rfl rfl) ?_
                    simp only [Act.put, zzA, zz0, zz1]
                    refine wR (v := .int .i64 ((j + 1 : Nat) : Int)) rfl (ix_add rfl rfl rfl (by omega) (by omega)) ?_
                    simp only [Act.put, zzA, zz0, zz1]
                    refine wR (v := .int .i64 ((j + 1 : Nat) : Int)) rfl (gx_assign rfl rfl) ?_
                    simp only [Act.put, zzA, zz0, zz1]
                    go_wp2_with fail
                    go_roundg (gk - 1)
                    case measure => have := HJL.out; have := HLT.out; omega
                    case rel => exact ⟨j + 1, _, _, _, by have := HJL.out; have := HLT.out; omega, by go_num, rfl, HON.out, HTN.out⟩
                · refine wR (v := .bool false) rfl (ix_eql rfl rfl rfl (decide_eq_false h3)) ?_
                  simp only [Act.put, zzA, zz0, zz1]
                  have H3 := Lib.hid h3
                  clear h3
                  have HSX := Lib.hid (show say d f = f.2 from by rw [HSAY.out, if_neg (fun h => H3.out (by omega))])
                  clear H3
                  obtain ⟨A6, n6, c6, hf6, hb6, hnc6, hz6⟩ := HO.out.form
                  injection hf6 with g1 g2 g3
                  subst g1 g2 g3
                  have HB6 := Lib.hid hb6
                  have HZ6 := Lib.hid hz6
                  have HN6 := Lib.hid (show n' ≤ 500 from by rw [← hb6.1]; exact HB0.out)
                  clear hb6 hnc6 hz6
                  go_upto_region 33 with fail
                  refine wp_region_lit ?_
                  refine wR (v := .slice A' n' c') rfl (exec_move rfl rfl) ?_
                  simp only [Act.put, zzA, zz0, zz1]
                  refine wR (v := .agg (fmA m)) rfl (gx_loads rfl rfl (blk_range HBg11.out) Tryz.underlying49 rfl (by rw [size_form]; rfl)) ?_
                  simp only [Act.put, zzA, zz0, zz1]
                  refine wR (v := strV f.2) rfl (exec_move rfl rfl) ?_
                  simp only [Act.put, zzA, zz0, zz1]
                  have hP := rput_ok (w := w11) (cap := c') HC.out (bs_still HB6.out (HT10.out.next HT11.out)) HZ6.out (by have := HN6.out; omega) (by rw [HSX.out]; have := HTF.out; exact this)
                  rw [HSX.out] at hP
                  refine wpList_op rfl fun K9 HK9 => ?_
                  go_wp2_with fail
                  refine (hP).mono ?_
                  rintro e w12 ⟨A7, n7, c7, rfl, hox, htx⟩
                  refine HK9.out _ _ ?_
                  clear HK9
                  try simp only [Act.put, zzA, zz0, zz1]
                  clear hP
                  have HON := Lib.hid (show Own w12 w8.heap.size 5 (.slice A7 n7 c7) (T ++ mapPut d fs ++ body d (fs.take (j + 1))) from by
                    rw [HSN.out, body_snoc, ← List.append_assoc, show sayPut d f = m.put (f.2) from by unfold sayPut; rw [HM.out]; show m.put (say d f) = _; rw [HSX.out]]
                    exact own_base hox (Nat.le_trans HTR.out.size (HT10.out.next HT11.out).size))
                  have HTN := Lib.hid (((HTR.out.next HT10.out).next HT11.out).next htx)
                  clear hox htx
                  refine wR (v := .tuple #[.slice A7 n7 c7, .int .i64 0]) rfl (exec_move rfl rfl) ?_
                  simp only [Act.put, zzA, zz0, zz1]
                  refine wR (v := .slice A7 n7 c7) rfl (ix_extract rfl rfl rfl) ?_
                  simp only [Act.put, zzA, zz0, zz1]
                  refine wR (v := .int .i64 0) rfl (ix_extract rfl rfl rfl) ?_
                  simp only [Act.put, zzA, zz0, zz1]
                  refine wR (v := .slice A7 n7 c7) rfl (gx_assign rfl rfl) ?_
                  simp only [Act.put, zzA, zz0, zz1]
                  go_upto_region 28 with fail
                  refine wp_region_lit ?_
                  refine wR (v := .int .i64 (j : Int)) rfl (exec_move rfl rfl) ?_
                  simp only [Act.put, zzA, zz0, zz1]
                  refine wR (v := .int .i64 ((j + 1 : Nat) : Int)) rfl (ix_add rfl rfl rfl (by omega) (by omega)) ?_
                  simp only [Act.put, zzA, zz0, zz1]
                  refine wR (v := .int .i64 ((j + 1 : Nat) : Int)) rfl (gx_assign rfl rfl) ?_
                  simp only [Act.put, zzA, zz0, zz1]
                  go_wp2_with fail
                  go_roundg (gk - 1)
                  case measure => have := HJL.out; have := HLT.out; omega
                  case rel => exact ⟨j + 1, _, _, _, by have := HJL.out; have := HLT.out; omega, by go_num, rfl, HON.out, HTN.out⟩
              · refine wR (v := .bool false) rfl (ix_lss rfl rfl rfl (decide_eq_false (by omega))) ?_
                simp only [Act.put, zzA, zz0, zz1]
                have HOW := Lib.hid (show Own wr w8.heap.size 5 (.slice A' n' c') (wire d ty fs) from by
                  have h1 := HO.out
                  rw [List.take_of_length_le (by rw [HNL.out]; omega), ← HWI.out] at h1
                  exact h1)
                clear hlt
                go_upto_region 34 with fail
                refine wp_region_lit ?_
                refine wR (v := .slice A' n' c') rfl (exec_move rfl rfl) ?_
                simp only [Act.put, zzA, zz0, zz1]
                refine wR (v := .slice A' n' c') rfl (gx_assign rfl rfl) ?_
                simp only [Act.put, zzA, zz0, zz1]
                refine wR (v := .int .i64 0) rfl (gx_assign rfl rfl) ?_
                simp only [Act.put, zzA, zz0, zz1]
                go_wp2_with fail
                go_ret2
                rw [show mencode (d : Int) ty fs = .ok (wire d ty fs) from HENC.out]
                exact ⟨_, _, _, rfl, own_base HOW.out ((((((HT0.out.next HT2.out).next HTL.out).next HTD.out).next HT7.out).next HT8.out)).size, ((((((HT0.out.next HT2.out).next HTL.out).next HTD.out).next HT7.out).next HT8.out).next HTR.out)⟩
      · have HX9 := Lib.hid (show mencode (d : Int) ty fs = .error (mcheck ty fs) from by unfold mencode; rw [if_pos HDI.out, if_neg hck])
        refine wR (v := .bool true) rfl (ix_neq rfl rfl rfl (decide_eq_true hck)) ?_
        simp only [Act.put, zzA, zz0, zz1]
        clear hck
        go_wp2_with fail
        go_ret2
        exact enc_err HX9.out (HT0.out.next HT2.out)
end Go.Proofs.YticofobhkmabiaaGreatDoor
