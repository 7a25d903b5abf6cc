/-
  Money in plain data: checked sums, what a rate makes of an amount, and what follows of them. No conditions; nothing of the program.
-/
namespace Go.Proofs.Ythoefjaapjaeeaa.Mn
set_option linter.unusedVariables false
abbrev lo : Int := -9223372036854775808
abbrev hi : Int := 9223372036854775807
abbrev top : Int := 999999999999
def in64 (n : Int) : Prop := -9223372036854775808 ≤ n ∧ n ≤ 9223372036854775807
instance (n : Int) : Decidable (in64 n) := by unfold in64; exact inferInstance
/-- a + b, or an error -/
def addV (a b : Int) : Int := if in64 (a + b) then a + b else 0
def addE (a b : Int) : Int := if in64 (a + b) then 0 else 100
def subV (a b : Int) : Int := if in64 (a - b) then a - b else 0
def subE (a b : Int) : Int := if in64 (a - b) then 0 else 100
theorem addV_in (a b : Int) : in64 (addV a b) := by
  unfold addV
  split
  · assumption
  · decide
/-- the nearest whole number of ten thousandth parts, a half to the even one -/
def rnd (all : Int) : Int := if 10000 < 2 * (all % 10000) ∨ (2 * (all % 10000) = 10000 ∧ all / 10000 % 2 = 1) then all / 10000 + 1 else all / 10000
def rateOk (p l m : Int) : Prop := 0 ≤ p ∧ p ≤ 10000 ∧ 0 ≤ l ∧ l ≤ top ∧ l ≤ m ∧ m ≤ top
instance (p l m : Int) : Decidable (rateOk p l m) := by unfold rateOk; exact inferInstance
def amtOk (a : Int) : Prop := 0 ≤ a ∧ a ≤ top
instance (a : Int) : Decidable (amtOk a) := by unfold amtOk; exact inferInstance
def checkE (p l m : Int) : Int := if rateOk p l m then 0 else 101
def fee (p l m a : Int) : Int := min (min (max (rnd (a * p)) l) m) a
def feeV (p l m a : Int) : Int := if rateOk p l m ∧ amtOk a then fee p l m a else 0
def feeE (p l m a : Int) : Int := if rateOk p l m then (if amtOk a then 0 else 100) else 101
theorem rnd_mono {a b : Int} (h0 : 0 ≤ a) (h : a ≤ b) : rnd a ≤ rnd b := by
  unfold rnd
  split <;> split <;> omega
theorem rnd_near (a : Int) (h0 : 0 ≤ a) : -10000 ≤ 2 * (a - rnd a * 10000) ∧ 2 * (a - rnd a * 10000) ≤ 10000 ∧ (2 * (a - rnd a * 10000) = 10000 ∨ 2 * (a - rnd a * 10000) = -10000 → rnd a % 2 = 0) := by
  unfold rnd
  split <;> omega
theorem rnd_pos {a : Int} (h0 : 0 ≤ a) : 0 ≤ rnd a := by
  unfold rnd
  split <;> omega
theorem rnd_le {a p : Int} (h0 : 0 ≤ a) (hp : 0 ≤ p) (hp1 : p ≤ 10000) : rnd (a * p) ≤ a := by
  have h1 : a * p ≤ a * 10000 := Int.mul_le_mul_of_nonneg_left hp1 h0
  have h2 : 0 ≤ a * p := Int.mul_nonneg h0 hp
  generalize a * p = q at *
  unfold rnd
  split <;> omega
theorem mul_in {a p : Int} (h0 : 0 ≤ a) (h1 : a ≤ top) (hp : 0 ≤ p) (hp1 : p ≤ 10000) : 0 ≤ a * p ∧ a * p ≤ 10000000000000000 := by
  have h3 : a * p ≤ a * 10000 := Int.mul_le_mul_of_nonneg_left hp1 h0
  have h2 : 0 ≤ a * p := Int.mul_nonneg h0 hp
  generalize a * p = q at *
  unfold top at *
  omega
theorem fee_pos {p l m a : Int} (hr : rateOk p l m) (ha : amtOk a) : 0 ≤ fee p l m a ∧ fee p l m a ≤ a ∧ fee p l m a ≤ m ∧ (l ≤ fee p l m a ∨ fee p l m a = a) := by
  obtain ⟨h1, h2, h3, h4, h5, h6⟩ := hr
  obtain ⟨h7, h8⟩ := ha
  have := rnd_pos (Int.mul_nonneg h7 h1)
  unfold fee
  generalize rnd (a * p) = r at *
  omega
theorem fee_mono {p l m a b : Int} (hp : 0 ≤ p) (ha : 0 ≤ a) (h : a ≤ b) : fee p l m a ≤ fee p l m b := by
  have h1 : a * p ≤ b * p := Int.mul_le_mul_of_nonneg_right h hp
  have := rnd_mono (Int.mul_nonneg ha hp) h1
  unfold fee
  generalize rnd (a * p) = r at *
  generalize rnd (b * p) = s at *
  omega
theorem fee_parts {p q l m a : Int} (hp : 0 ≤ p) (ha : 0 ≤ a) (h : p ≤ q) : fee p l m a ≤ fee q l m a := by
  have h1 : a * p ≤ a * q := Int.mul_le_mul_of_nonneg_left h ha
  have := rnd_mono (Int.mul_nonneg ha hp) h1
  unfold fee
  generalize rnd (a * p) = r at *
  generalize rnd (a * q) = s at *
  omega
/-- without ends a fee is the rounded share -/
theorem fee_bare {p a : Int} (hp : 0 ≤ p) (hp1 : p ≤ 10000) (ha : amtOk a) : fee p 0 top a = rnd (a * p) := by
  obtain ⟨h7, h8⟩ := ha
  have h1 := rnd_le h7 hp hp1
  have h2 := rnd_pos (Int.mul_nonneg h7 hp)
  unfold fee
  generalize rnd (a * p) = r at *
  unfold top at *
  omega
theorem rnd_two {a b : Int} (ha : 0 ≤ a) (hb : 0 ≤ b) : -1 ≤ rnd (a + b) - rnd a - rnd b ∧ rnd (a + b) - rnd a - rnd b ≤ 1 := by
  unfold rnd
  split <;> split <;> split <;> omega
theorem rnd_whole (a : Int) (ha : 0 ≤ a) : rnd (a * 10000) = a := by
  unfold rnd
  split <;> omega
theorem rnd_none (a : Int) : rnd (a * 0) = 0 := by
  rw [Int.mul_zero]
  decide
theorem undoes (a b c : Int) (ha : in64 a) (hb : in64 b) (hc : in64 c) :
    (addE b a = addE a b ∧ addV b a = addV a b ∧ ¬ addE a b = 0) ∨
    (addE b a = addE a b ∧ addV b a = addV a b ∧ addE a b = 0 ∧ subE (addV a b) b = 0 ∧ subV (addV a b) b = a ∧ subE (addV a b) a = 0 ∧ subV (addV a b) a = b ∧ ¬ addE b c = 0) ∨
    (addE b a = addE a b ∧ addV b a = addV a b ∧ addE a b = 0 ∧ subE (addV a b) b = 0 ∧ subV (addV a b) b = a ∧ subE (addV a b) a = 0 ∧ subV (addV a b) a = b ∧ addE b c = 0 ∧ addV (addV a b) c = addV a (addV b c) ∧ addE (addV a b) c = addE a (addV b c)) := by
  have e1 : addE b a = addE a b := by unfold addE; rw [Int.add_comm]
  have e2 : addV b a = addV a b := by unfold addV; rw [Int.add_comm]
  by_cases h : in64 (a + b)
  · have h1 : addE a b = 0 := if_pos h
    have h2 : addV a b = a + b := if_pos h
    have h3 : a + b - b = a := by omega
    have h4 : a + b - a = b := by omega
    have h5 : subE (a + b) b = 0 := if_pos (by rw [h3]; exact ha)
    have h6 : subV (a + b) b = a := (if_pos (by rw [h3]; exact ha)).trans h3
    have h7 : subE (a + b) a = 0 := if_pos (by rw [h4]; exact hb)
    have h8 : subV (a + b) a = b := (if_pos (by rw [h4]; exact hb)).trans h4
    by_cases g : in64 (b + c)
    · have g1 : addE b c = 0 := if_pos g
      have g2 : addV b c = b + c := if_pos g
      refine .inr (.inr ⟨e1, e2, h1, ?_, ?_, ?_, ?_, g1, ?_, ?_⟩) <;> rw [h2] <;> (try assumption)
      · rw [g2]; unfold addV; rw [Int.add_assoc]
      · rw [g2]; unfold addE; rw [Int.add_assoc]
    · have g1 : addE b c = 100 := if_neg g
      refine .inr (.inl ⟨e1, e2, h1, ?_, ?_, ?_, ?_, ?_⟩) <;> (try rw [h2]) <;> (try assumption)
      rw [g1]; decide
  · have h1 : addE a b = 100 := if_neg h
    exact .inl ⟨e1, e2, by rw [h1]; decide⟩
theorem feeCases (p l m a : Int) :
    (checkE p l m = 101 ∧ feeE p l m a = 101 ∧ feeV p l m a = 0) ∨
    (checkE p l m = 0 ∧ feeE p l m a = 100 ∧ feeV p l m a = 0 ∧ (a < 0 ∨ 999999999999 < a)) ∨
    (checkE p l m = 0 ∧ feeE p l m a = 0 ∧ 0 ≤ feeV p l m a ∧ feeV p l m a ≤ a ∧ feeV p l m a ≤ m ∧ (l ≤ feeV p l m a ∨ feeV p l m a = a) ∧ 0 ≤ a ∧ a ≤ 999999999999) := by
  by_cases hr : rateOk p l m
  · have h1 : checkE p l m = 0 := if_pos hr
    by_cases ha : amtOk a
    · have h2 : feeE p l m a = 0 := (if_pos hr).trans (if_pos ha)
      have h3 : feeV p l m a = fee p l m a := if_pos ⟨hr, ha⟩
      have h4 := fee_pos hr ha
      rw [h3]
      exact .inr (.inr ⟨h1, h2, h4.1, h4.2.1, h4.2.2.1, h4.2.2.2, ha.1, ha.2⟩)
    · have h2 : feeE p l m a = 100 := (if_pos hr).trans (if_neg ha)
      have h3 : feeV p l m a = 0 := if_neg fun e => ha e.2
      exact .inr (.inl ⟨h1, h2, h3, by unfold amtOk top at ha; omega⟩)
  · have h1 : checkE p l m = 101 := if_neg hr
    have h2 : feeE p l m a = 101 := if_neg hr
    have h3 : feeV p l m a = 0 := if_neg fun e => hr e.1
    exact .inl ⟨h1, h2, h3⟩
end Go.Proofs.Ythoefjaapjaeeaa.Mn
namespace Go.Proofs.Ythoefjaapjaeeaa.Mn
theorem partsFacts {p a : Int} (hp : 0 ≤ p) (hp1 : p ≤ 10000) (ha : 0 ≤ a) (ha1 : a ≤ 999999999999) :
    ∃ v, feeV p 0 999999999999 a = v ∧ feeE p 0 999999999999 a = 0 ∧ 0 ≤ v ∧ v ≤ a ∧ -10000 ≤ 2 * (a * p - v * 10000) ∧ 2 * (a * p - v * 10000) ≤ 10000 ∧
      ((¬ 2 * (a * p - v * 10000) = 10000 ∧ ¬ 2 * (a * p - v * 10000) = -10000) ∨ v % 2 = 0) ∧ 0 ≤ a * p ∧ a * p ≤ 10000000000000000 ∧
      feeE 10000 0 999999999999 a = 0 ∧ feeV 10000 0 999999999999 a = a ∧ feeE 0 0 0 a = 0 ∧ feeV 0 0 0 a = 0 := by
  have hA : amtOk a := ⟨ha, ha1⟩
  have r1 : rateOk p 0 999999999999 := by unfold rateOk top; omega
  have r2 : rateOk 10000 0 999999999999 := by unfold rateOk top; omega
  have r3 : rateOk 0 0 0 := by unfold rateOk top; omega
  have hm := mul_in (a := a) (p := p) ha ha1 hp hp1
  have hv : feeV p 0 999999999999 a = rnd (a * p) := (if_pos ⟨r1, hA⟩).trans (fee_bare hp hp1 hA)
  have hn := rnd_near (a * p) hm.1
  have hb := rnd_pos hm.1
  have hle := rnd_le ha hp hp1
  have hw : feeV 10000 0 999999999999 a = a := ((if_pos ⟨r2, hA⟩).trans (fee_bare (by omega) (by omega) hA)).trans (rnd_whole a ha)
  have h0 : feeV 0 0 0 a = 0 := (if_pos ⟨r3, hA⟩).trans (by
    unfold fee
    rw [rnd_none]
    omega)
  refine ⟨_, hv, (if_pos r1).trans (if_pos hA), hb, hle, hn.1, hn.2.1, ?_, hm.1, hm.2, (if_pos r2).trans (if_pos hA), hw, (if_pos r3).trans (if_pos hA), h0⟩
  have h2 := hn.2.2
  generalize rnd (a * p) = v at *
  by_cases g : v % 2 = 0
  · exact .inr g
  · exact .inl ⟨fun e => g (h2 (.inl e)), fun e => g (h2 (.inr e))⟩
theorem feeE_in {p l m a : Int} (h : feeE p l m a = 0) : rateOk p l m ∧ amtOk a := by
  unfold feeE at h
  by_cases hr : rateOk p l m
  · rw [if_pos hr] at h
    by_cases ha : amtOk a
    · exact ⟨hr, ha⟩
    · rw [if_neg ha] at h; cases h
  · rw [if_neg hr] at h; cases h
theorem pairsFacts (p a b : Int) :
    ¬ feeE p 0 999999999999 a = 0 ∨ (feeE p 0 999999999999 a = 0 ∧ ¬ feeE p 0 999999999999 b = 0) ∨
    (feeE p 0 999999999999 a = 0 ∧ feeE p 0 999999999999 b = 0 ∧ 0 ≤ a ∧ a ≤ 999999999999 ∧ 0 ≤ b ∧ b ≤ 999999999999 ∧ 999999999999 < a + b) ∨
    ∃ x y z, feeV p 0 999999999999 a = x ∧ feeV p 0 999999999999 b = y ∧ feeV p 0 999999999999 (a + b) = z ∧ feeE p 0 999999999999 a = 0 ∧ feeE p 0 999999999999 b = 0 ∧ feeE p 0 999999999999 (a + b) = 0 ∧
      0 ≤ a ∧ a ≤ 999999999999 ∧ 0 ≤ b ∧ b ≤ 999999999999 ∧ a + b ≤ 999999999999 ∧ 0 ≤ x ∧ x ≤ 999999999999 ∧ 0 ≤ y ∧ y ≤ 999999999999 ∧ 0 ≤ z ∧ z ≤ 999999999999 ∧ -1 ≤ z - x - y ∧ z - x - y ≤ 1 := by
  by_cases h1 : feeE p 0 999999999999 a = 0
  · by_cases h2 : feeE p 0 999999999999 b = 0
    · obtain ⟨hr, ha⟩ := feeE_in h1
      obtain ⟨_, hb⟩ := feeE_in h2
      by_cases h3 : a + b ≤ 999999999999
      · have hab : amtOk (a + b) := ⟨by have := ha.1; have := hb.1; omega, h3⟩
        have va : feeV p 0 999999999999 a = rnd (a * p) := (if_pos ⟨hr, ha⟩).trans (fee_bare hr.1 hr.2.1 ha)
        have vb : feeV p 0 999999999999 b = rnd (b * p) := (if_pos ⟨hr, hb⟩).trans (fee_bare hr.1 hr.2.1 hb)
        have vc : feeV p 0 999999999999 (a + b) = rnd ((a + b) * p) := (if_pos ⟨hr, hab⟩).trans (fee_bare hr.1 hr.2.1 hab)
        have pa := Int.mul_nonneg ha.1 hr.1
        have pb := Int.mul_nonneg hb.1 hr.1
        have la := rnd_le ha.1 hr.1 hr.2.1
        have lb := rnd_le hb.1 hr.1 hr.2.1
        have lc := rnd_le hab.1 hr.1 hr.2.1
        have qa := rnd_pos pa
        have qb := rnd_pos pb
        have t := rnd_two pa pb
        have qc := rnd_pos (Int.mul_nonneg hab.1 hr.1)
        rw [Int.add_mul] at vc lc qc
        have a1 := ha.2
        have b1 := hb.2
        unfold top at a1 b1
        refine .inr (.inr (.inr ⟨_, _, _, va, vb, vc, h1, h2, (if_pos hr).trans (if_pos hab), ha.1, a1, hb.1, b1, h3, qa, ?_, qb, ?_, qc, ?_, t.1, t.2⟩)) <;> omega
      · exact .inr (.inr (.inl ⟨h1, h2, ha.1, ha.2, hb.1, hb.2, by omega⟩))
    · exact .inr (.inl ⟨h1, h2⟩)
  · exact .inl h1
theorem risesFacts (p q l m a b : Int) (hab : a ≤ b) (hpq : p ≤ q) :
    (¬ feeE p l m a = 0 ∨ (0 ≤ feeV p l m a ∧ feeV p l m a ≤ a)) ∧ (¬ feeE p l m a = 0 ∨ ¬ feeE p l m b = 0 ∨ feeV p l m a ≤ feeV p l m b) ∧
    (¬ feeE p l m a = 0 ∨ ¬ feeE q l m a = 0 ∨ feeV p l m a ≤ feeV q l m a) := by
  by_cases h1 : feeE p l m a = 0
  · obtain ⟨hr, ha⟩ := feeE_in h1
    have va : feeV p l m a = fee p l m a := if_pos ⟨hr, ha⟩
    have hp := fee_pos hr ha
    refine ⟨.inr (by rw [va]; exact ⟨hp.1, hp.2.1⟩), ?_, ?_⟩
    · by_cases h2 : feeE p l m b = 0
      · obtain ⟨_, hb⟩ := feeE_in h2
        exact .inr (.inr (by rw [va, show feeV p l m b = fee p l m b from if_pos ⟨hr, hb⟩]; exact fee_mono hr.1 ha.1 hab))
      · exact .inr (.inl h2)
    · by_cases h2 : feeE q l m a = 0
      · obtain ⟨hq, _⟩ := feeE_in h2
        exact .inr (.inr (by rw [va, show feeV q l m a = fee q l m a from if_pos ⟨hq, ha⟩]; exact fee_parts hr.1 ha.1 hpq))
      · exact .inr (.inl h2)
  · exact ⟨.inl h1, .inl h1, .inl h1⟩
end Go.Proofs.Ythoefjaapjaeeaa.Mn
