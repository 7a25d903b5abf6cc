/-
  PLAIN MATHEMATICS OF THE CHECK SUM: one bit's step is linear and injective; four steps by the table; bytes as bits; what is turned is seen. No conditions. It imports nothing of the program.
-/
namespace Go.Proofs.YtbdpedagaojjkaaDoor.Crc

/-- one bit's step -/
def S (r : BitVec 32) : BitVec 32 := (r >>> 1) ^^^ (if r.getLsbD 0 then 0x82f63b78#32 else 0#32)
def S4 (r : BitVec 32) : BitVec 32 := S (S (S (S r)))
def S8 (r : BitVec 32) : BitVec 32 := S4 (S4 r)

theorem xor4 (a b c d : BitVec 32) : (a ^^^ b) ^^^ (c ^^^ d) = (a ^^^ c) ^^^ (b ^^^ d) := by
  ext i
  simp only [BitVec.getElem_xor]
  cases a[i] <;> cases b[i] <;> cases c[i] <;> cases d[i] <;> rfl

theorem S_xor (a b : BitVec 32) : S (a ^^^ b) = S a ^^^ S b := by
  unfold S
  rw [BitVec.ushiftRight_xor_distrib, BitVec.getLsbD_xor, xor4]
  congr 1
  cases a.getLsbD 0 <;> cases b.getLsbD 0 <;> decide
theorem S_zero : S 0#32 = 0#32 := by decide
theorem S4_xor (a b : BitVec 32) : S4 (a ^^^ b) = S4 a ^^^ S4 b := by simp only [S4, S_xor]
theorem S8_xor (a b : BitVec 32) : S8 (a ^^^ b) = S8 a ^^^ S8 b := by simp only [S8, S4_xor]

theorem S_even (a : BitVec 32) (h : a.getLsbD 0 = false) : S a = a >>> 1 := by
  unfold S; rw [h]; simp

theorem S_inj0 (a : BitVec 32) (h : S a = 0#32) : a = 0#32 := by
  have h31 : (S a).getLsbD 31 = a.getLsbD 0 := by
    unfold S
    rw [BitVec.getLsbD_xor, BitVec.getLsbD_ushiftRight]
    have : a.getLsbD (1 + 31) = false := BitVec.getLsbD_of_ge a _ (by omega)
    rw [this]
    cases a.getLsbD 0 <;> decide
  have h0 : a.getLsbD 0 = false := by rw [← h31, h]; simp
  rw [S_even a h0] at h
  apply BitVec.eq_of_getLsbD_eq
  intro i hi
  cases i with
  | zero => simpa using h0
  | succ i =>
    have := congrArg (fun x => BitVec.getLsbD x i) h
    simp only [BitVec.getLsbD_ushiftRight] at this
    rw [Nat.add_comm]
    simpa using this

/-- a shift's four steps -/
theorem S4_shift (a : BitVec 32) (h : ∀ i, i < 4 → a.getLsbD i = false) : S4 a = a >>> 4 := by
  unfold S4
  rw [S_even a (h 0 (by omega))]
  rw [S_even (a >>> 1) (by rw [BitVec.getLsbD_ushiftRight]; exact h 1 (by omega))]
  rw [S_even (a >>> 1 >>> 1) (by rw [BitVec.getLsbD_ushiftRight, BitVec.getLsbD_ushiftRight]; exact h 2 (by omega))]
  rw [S_even (a >>> 1 >>> 1 >>> 1) (by rw [BitVec.getLsbD_ushiftRight, BitVec.getLsbD_ushiftRight, BitVec.getLsbD_ushiftRight]; exact h 3 (by omega))]
  simp only [← BitVec.shiftRight_add]
theorem S8_shift (a : BitVec 32) (h : ∀ i, i < 8 → a.getLsbD i = false) : S8 a = a >>> 8 := by
  unfold S8
  rw [S4_shift a (fun i hi => h i (by omega)), S4_shift (a >>> 4) (fun i hi => by rw [BitVec.getLsbD_ushiftRight]; exact h (4 + i) (by omega))]
  simp only [← BitVec.shiftRight_add]

/-- the table -/
def tab : List Nat := [0, 274646895, 549293790, 820201905, 1098587580, 1361435347, 1640403810, 1905808397, 2197175160, 2460548119, 2722870694, 2987750089, 3280807620, 3553878443, 3811616794, 4084100981]
def T (r : BitVec 32) : BitVec 32 := (r >>> 4) ^^^ BitVec.ofNat 32 (tab.getD (r.toNat % 16) 0)

theorem S4_tab : ∀ k : Fin 16, S4 (BitVec.ofNat 32 k.val) = BitVec.ofNat 32 (tab.getD k.val 0) := by decide

theorem split4 (r : BitVec 32) : r = ((r >>> 4) <<< 4) ^^^ BitVec.ofNat 32 (r.toNat % 16) := by
  apply BitVec.eq_of_getLsbD_eq
  intro i hi
  rw [BitVec.getLsbD_xor, BitVec.getLsbD_shiftLeft, BitVec.getLsbD_ushiftRight, BitVec.getLsbD_ofNat]
  have h16 : (r.toNat % 16).testBit i = (decide (i < 4) && r.toNat.testBit i) := Nat.testBit_mod_two_pow r.toNat 4 i
  rw [h16]
  have : r.toNat.testBit i = r.getLsbD i := rfl
  rw [this]
  by_cases h : i < 4
  · simp [h, hi]
  · have : 4 + (i - 4) = i := by omega
    simp [h, hi, this]

theorem T_eq (r : BitVec 32) : T r = S4 r := by
  have h := S4_tab ⟨r.toNat % 16, by omega⟩
  simp only at h
  rw [show S4 r = S4 (((r >>> 4) <<< 4) ^^^ BitVec.ofNat 32 (r.toNat % 16)) from by rw [← split4], S4_xor, h, S4_shift _ (fun i hi => by rw [BitVec.getLsbD_shiftLeft]; simp [hi])]
  unfold T
  congr 1
  apply BitVec.eq_of_getLsbD_eq
  intro i hi
  rw [BitVec.getLsbD_ushiftRight, BitVec.getLsbD_ushiftRight, BitVec.getLsbD_shiftLeft, BitVec.getLsbD_ushiftRight]
  have : 4 + i - 4 = i := by omega
  by_cases h32 : 4 + i < 32
  · simp [h32, this]
  · rw [BitVec.getLsbD_of_ge r (4 + i) (by omega)]; simp [h32]

def wide (x : UInt8) : BitVec 32 := BitVec.ofNat 32 x.toNat
/-- one byte's step, and a row of bytes -/
def B (r : BitVec 32) (x : UInt8) : BitVec 32 := S8 (r ^^^ wide x)
def reg (r : BitVec 32) (bs : List UInt8) : BitVec 32 := bs.foldl B r
def more (s : BitVec 32) (bs : List UInt8) : BitVec 32 := ~~~ (reg (~~~ s) bs)
def sum (bs : List UInt8) : BitVec 32 := more 0#32 bs

theorem B_T (r : BitVec 32) (x : UInt8) : B r x = T (T (r ^^^ wide x)) := by rw [T_eq, T_eq]; rfl
theorem reg_nil (r : BitVec 32) : reg r [] = r := rfl
theorem reg_append (r : BitVec 32) (a b : List UInt8) : reg r (a ++ b) = reg (reg r a) b := List.foldl_append
theorem reg_snoc (r : BitVec 32) (a : List UInt8) (x : UInt8) : reg r (a ++ [x]) = B (reg r a) x := by rw [reg_append]; rfl
theorem more_nil (s : BitVec 32) : more s [] = s := by unfold more; rw [reg_nil]; simp
theorem more_append (s : BitVec 32) (a b : List UInt8) : more s (a ++ b) = more (more s a) b := by unfold more; rw [reg_append]; simp
theorem sum_append (a b : List UInt8) : sum (a ++ b) = more (sum a) b := more_append _ _ _

theorem B_xor3 (a b c : BitVec 32) (x y z : UInt8) : B (a ^^^ b ^^^ c) (x ^^^ y ^^^ z) = B a x ^^^ B b y ^^^ B c z := by
  unfold B
  rw [← S8_xor, ← S8_xor]
  congr 1
  have hw : wide (x ^^^ y ^^^ z) = wide x ^^^ wide y ^^^ wide z := by
    unfold wide
    apply BitVec.eq_of_getLsbD_eq
    intro i hi
    simp [hi]
  rw [hw]
  ext i
  simp only [BitVec.getElem_xor]
  cases a[i] <;> cases b[i] <;> cases c[i] <;> cases (wide x)[i] <;> cases (wide y)[i] <;> cases (wide z)[i] <;> rfl

/-- what three rows of one length make, byte by byte -/
def zip3 : List UInt8 → List UInt8 → List UInt8 → List UInt8
  | x :: a, y :: b, z :: c => (x ^^^ y ^^^ z) :: zip3 a b c
  | _, _, _ => []
theorem reg_zip3 : ∀ (a b c : List UInt8) (p q r : BitVec 32), a.length = b.length → a.length = c.length → reg (p ^^^ q ^^^ r) (zip3 a b c) = reg p a ^^^ reg q b ^^^ reg r c
  | [], [], [], _, _, _, _, _ => rfl
  | x :: a, y :: b, z :: c, p, q, r, h1, h2 => by
    have := reg_zip3 a b c (B p x) (B q y) (B r z) (Nat.succ.inj h1) (Nat.succ.inj h2)
    rw [← B_xor3] at this
    exact this
theorem not3 (a b c : BitVec 32) : ~~~ (a ^^^ b ^^^ c) = ~~~ a ^^^ ~~~ b ^^^ ~~~ c := by
  apply BitVec.eq_of_getLsbD_eq
  intro i hi
  simp only [BitVec.getLsbD_not, BitVec.getLsbD_xor, hi, decide_true, Bool.true_and]
  cases a.getLsbD i <;> cases b.getLsbD i <;> cases c.getLsbD i <;> rfl
theorem sum_zip3 (a b c : List UInt8) (h1 : a.length = b.length) (h2 : a.length = c.length) : sum (zip3 a b c) = sum a ^^^ sum b ^^^ sum c := by
  unfold sum more
  rw [← not3, ← reg_zip3 a b c _ _ _ h1 h2]
  rfl

/-! ### the bits of bytes, one by one -/
def one (e : Bool) : BitVec 32 := if e then 1#32 else 0#32
def G (r : BitVec 32) (e : Nat → Bool) : Nat → BitVec 32
  | 0 => r
  | m + 1 => S (G r e m ^^^ one (e m))

theorem G_congr (r : BitVec 32) (e f : Nat → Bool) : ∀ m, (∀ k, k < m → e k = f k) → G r e m = G r f m
  | 0, _ => rfl
  | m + 1, h => by
    show S (G r e m ^^^ one (e m)) = S (G r f m ^^^ one (f m))
    rw [G_congr r e f m (fun k hk => h k (by omega)), h m (by omega)]
theorem one_xor (a b : Bool) : one (a ^^ b) = one a ^^^ one b := by cases a <;> cases b <;> decide
theorem G_xor (r s : BitVec 32) (e f : Nat → Bool) : ∀ m, G (r ^^^ s) (fun k => e k ^^ f k) m = G r e m ^^^ G s f m
  | 0 => rfl
  | m + 1 => by
    show S (G (r ^^^ s) (fun k => e k ^^ f k) m ^^^ one (e m ^^ f m)) = S (G r e m ^^^ one (e m)) ^^^ S (G s f m ^^^ one (f m))
    rw [G_xor r s e f m, one_xor, xor4, S_xor]
theorem G_add (r : BitVec 32) (e : Nat → Bool) (m : Nat) : ∀ n, G r e (m + n) = G (G r e m) (fun k => e (m + k)) n
  | 0 => rfl
  | n + 1 => by
    show S (G r e (m + n) ^^^ one (e (m + n))) = S (G (G r e m) (fun k => e (m + k)) n ^^^ one (e (m + n)))
    rw [G_add r e m n]

theorem one_step (r X : BitVec 32) : S (r ^^^ X) = S (r ^^^ one (X.getLsbD 0)) ^^^ (X >>> 1) := by
  have h : X = one (X.getLsbD 0) ^^^ (X ^^^ one (X.getLsbD 0)) := by
    rw [BitVec.xor_comm X, ← BitVec.xor_assoc, BitVec.xor_self]; simp
  have h0 : (X ^^^ one (X.getLsbD 0)).getLsbD 0 = false := by
    rw [BitVec.getLsbD_xor]
    cases X.getLsbD 0 <;> decide
  have h1 : (X ^^^ one (X.getLsbD 0)) >>> 1 = X >>> 1 := by
    rw [BitVec.ushiftRight_xor_distrib]
    have : one (X.getLsbD 0) >>> 1 = 0#32 := by cases X.getLsbD 0 <;> decide
    rw [this]; simp
  rw [show S (r ^^^ X) = S ((r ^^^ one (X.getLsbD 0)) ^^^ (X ^^^ one (X.getLsbD 0))) from by rw [BitVec.xor_assoc, ← h], S_xor, S_even _ h0, h1]

theorem S8_bits (r X : BitVec 32) (hX : X >>> 8 = 0#32) : S8 (r ^^^ X) = G r (fun k => X.getLsbD k) 8 := by
  have e : ∀ k, (X >>> k).getLsbD 0 = X.getLsbD k := fun k => by rw [BitVec.getLsbD_ushiftRight]; rfl
  have s : ∀ k q, S (q ^^^ (X >>> k)) = S (q ^^^ one (X.getLsbD k)) ^^^ (X >>> (k + 1)) := fun k q => by
    rw [one_step, e, ← BitVec.shiftRight_add]
  unfold S8 S4
  have e0 : X = X >>> 0 := by simp
  rw [e0, s 0, s 1, s 2, s 3, s 4, s 5, s 6, s 7, hX]
  simp only [BitVec.xor_zero]
  simp [G]

/-- the bit of number k of a row of bytes, the lowest of a byte first -/
def bit (bs : List UInt8) (k : Nat) : Bool := (bs.getD (k / 8) 0).toNat.testBit (k % 8)

theorem B_bits (r : BitVec 32) (x : UInt8) : B r x = G r (fun k => x.toNat.testBit k) 8 := by
  unfold B
  have hx : x.toNat < 256 := x.toNat_lt
  rw [S8_bits r (wide x)]
  · apply G_congr
    intro k hk
    unfold wide
    rw [BitVec.getLsbD_ofNat]
    have : k < 32 := by omega
    simp [this]
  · unfold wide
    apply BitVec.eq_of_toNat_eq
    rw [BitVec.toNat_ushiftRight, BitVec.toNat_ofNat, Nat.shiftRight_eq_div_pow]
    simp
    omega

theorem reg_bits (r : BitVec 32) (bs : List UInt8) : ∀ j, j ≤ bs.length → reg r (bs.take j) = G r (bit bs) (8 * j)
  | 0, _ => by simp [reg, G]
  | j + 1, h => by
    rw [List.take_succ_eq_append_getElem (by omega), reg_snoc, reg_bits r bs j (by omega), B_bits, show 8 * (j + 1) = 8 * j + 8 from by omega, G_add]
    apply G_congr
    intro k hk
    unfold bit
    have h1 : (8 * j + k) / 8 = j := by omega
    have h2 : (8 * j + k) % 8 = k := by omega
    rw [h1, h2, List.getD_eq_getElem?_getD, List.getElem?_eq_getElem (by omega)]
    rfl
theorem reg_all (r : BitVec 32) (bs : List UInt8) : reg r bs = G r (bit bs) (8 * bs.length) := by
  rw [← reg_bits r bs bs.length (Nat.le_refl _), List.take_length]

def Sn : Nat → BitVec 32 → BitVec 32
  | 0, r => r
  | n + 1, r => S (Sn n r)
theorem Sn_xor (a b : BitVec 32) : ∀ n, Sn n (a ^^^ b) = Sn n a ^^^ Sn n b
  | 0 => rfl
  | n + 1 => by simp only [Sn, Sn_xor a b n, S_xor]
theorem Sn_inj0 (a : BitVec 32) : ∀ n, Sn n a = 0#32 → a = 0#32
  | 0, h => h
  | n + 1, h => Sn_inj0 a n (S_inj0 _ h)
theorem Sn_zero : ∀ n, Sn n 0#32 = 0#32
  | 0 => rfl
  | n + 1 => by simp only [Sn, Sn_zero n, S_zero]
theorem Sn_one : ∀ j : Fin 32, Sn j.val (BitVec.ofNat 32 (2 ^ j.val)) = 1#32 := by decide

/-- what is turned: the bits of w from place p on -/
def turn (p w : Nat) (k : Nat) : Bool := decide (p ≤ k) && w.testBit (k - p)
theorem G_before (p w : Nat) : ∀ m, m ≤ p → G 0#32 (turn p w) m = 0#32
  | 0, _ => rfl
  | m + 1, h => by
    show S (G 0#32 (turn p w) m ^^^ one (turn p w m)) = 0#32
    rw [G_before p w m (by omega)]
    have : turn p w m = false := by unfold turn; have : ¬ p ≤ m := by omega
                                    simp [this]
    rw [this]; decide
theorem ofNat_mod_succ (w j : Nat) : BitVec.ofNat 32 (w % 2 ^ (j + 1)) = BitVec.ofNat 32 (w % 2 ^ j) ^^^ (if w.testBit j then BitVec.ofNat 32 (2 ^ j) else 0#32) := by
  apply BitVec.eq_of_getLsbD_eq
  intro i hi
  rw [BitVec.getLsbD_xor, BitVec.getLsbD_ofNat, BitVec.getLsbD_ofNat, Nat.testBit_mod_two_pow, Nat.testBit_mod_two_pow]
  have hif : (if w.testBit j then BitVec.ofNat 32 (2 ^ j) else 0#32).getLsbD i = (w.testBit j && decide (i < 32) && decide (j = i)) := by
    cases w.testBit j
    · simp
    · simp only [if_true, Bool.true_and]; rw [BitVec.getLsbD_ofNat, Nat.testBit_two_pow]
  rw [hif]
  by_cases h1 : i < j
  · have h2 : i < j + 1 := by omega
    have h3 : ¬ j = i := by omega
    simp [h1, h2, h3]
  · by_cases h3 : j = i
    · subst h3; simp [hi]
    · have h2 : ¬ i < j + 1 := by omega
      simp [h1, h2, h3]
theorem G_from (p w : Nat) (hw : w < 2 ^ 32) : ∀ j, G 0#32 (turn p w) (p + j) = Sn j (BitVec.ofNat 32 (w % 2 ^ j))
  | 0 => by
    have e0 : BitVec.ofNat 32 (w % 2 ^ 0) = 0#32 := by simp [Nat.mod_one]
    rw [e0]; exact G_before p w p (Nat.le_refl _)
  | j + 1 => by
    show S (G 0#32 (turn p w) (p + j) ^^^ one (turn p w (p + j))) = S (Sn j (BitVec.ofNat 32 (w % 2 ^ (j + 1))))
    rw [G_from p w hw j, ofNat_mod_succ, Sn_xor]
    congr 2
    have ht : turn p w (p + j) = w.testBit j := by
      unfold turn
      have h1 : p ≤ p + j := by omega
      have h2 : p + j - p = j := by omega
      simp [h1, h2]
    rw [ht]
    cases hb : w.testBit j
    · simp [one, Sn_zero]
    · have hj : j < 32 := by
        apply Classical.byContradiction
        intro hn
        have : w.testBit j = false := Nat.testBit_lt_two_pow (Nat.lt_of_lt_of_le hw (Nat.pow_le_pow_right (by omega) (by omega)))
        rw [this] at hb; cases hb
      simp only [one, if_true]
      exact (Sn_one ⟨j, hj⟩).symm

/-- WHAT IS TURNED IS SEEN: c is b with the bits of w turned from p on; the sums are alike just if none of them lies within. -/
theorem turned (b c : List UInt8) (p w : Nat) (hw : w < 2 ^ 32) (hp : p ≤ 8 * b.length) (hl : c.length = b.length) (hc : ∀ k, k < 8 * b.length → bit c k = (bit b k ^^ turn p w k)) :
    sum b = sum c ↔ w % 2 ^ (8 * b.length - p) = 0 := by
  have hx : reg (~~~ 0#32) c = reg (~~~ 0#32) b ^^^ G 0#32 (turn p w) (8 * b.length) := by
    rw [reg_all, reg_all, hl, ← G_xor]
    rw [BitVec.xor_zero]
    exact G_congr _ _ _ _ hc
  have hg : G 0#32 (turn p w) (8 * b.length) = Sn (8 * b.length - p) (BitVec.ofNat 32 (w % 2 ^ (8 * b.length - p))) := by
    rw [← G_from p w hw]
    congr 1
    omega
  have key : sum b = sum c ↔ G 0#32 (turn p w) (8 * b.length) = 0#32 := by
    unfold sum more
    rw [hx]
    constructor
    · intro h
      have h2 := congrArg (fun x => ~~~ x) h
      simp only [BitVec.not_not] at h2
      generalize reg (~~~ 0#32) b = r at h2
      generalize G 0#32 (turn p w) (8 * b.length) = g at h2 ⊢
      have h3 := congrArg (fun x => r ^^^ x) h2
      simp only [← BitVec.xor_assoc, BitVec.xor_self, BitVec.zero_xor] at h3
      exact h3.symm
    · intro h; rw [h, BitVec.xor_zero]
  rw [key, hg]
  constructor
  · intro h
    have h1 := Sn_inj0 _ _ h
    have h2 := congrArg BitVec.toNat h1
    rw [BitVec.toNat_ofNat] at h2
    have h3 : w % 2 ^ (8 * b.length - p) ≤ w := Nat.mod_le _ _
    have h4 : w % 2 ^ (8 * b.length - p) % 2 ^ 32 = w % 2 ^ (8 * b.length - p) := Nat.mod_eq_of_lt (by omega)
    rw [h4] at h2
    simpa using h2
  · intro h; rw [h]; exact Sn_zero _

/-! ### a sum behind its bytes -/
def low (s : BitVec 32) (k : Nat) : UInt8 := UInt8.ofNat (s.toNat / 2 ^ (8 * k))
def tail (s : BitVec 32) : List UInt8 := [low s 0, low s 1, low s 2, low s 3]
theorem bit_tail (s : BitVec 32) (k : Nat) (hk : k < 32) : bit (tail s) k = s.getLsbD k := by
  have hs : s.getLsbD k = s.toNat.testBit k := rfl
  have h : ∀ j, j < 4 → k / 8 = j → bit (tail s) k = s.toNat.testBit k := by
    intro j hj hkj
    have hg : (tail s).getD (k / 8) 0 = low s j := by
      rw [hkj]
      rcases j with _ | _ | _ | _ | j
      · rfl
      · rfl
      · rfl
      · rfl
      · omega
    unfold bit
    rw [hg]
    unfold low
    have e : (UInt8.ofNat (s.toNat / 2 ^ (8 * j))).toNat = s.toNat / 2 ^ (8 * j) % 2 ^ 8 := by simp
    rw [e, Nat.testBit_mod_two_pow, Nat.testBit_div_two_pow]
    have h8 : k % 8 < 8 := by omega
    have h9 : k % 8 + 8 * j = k := by omega
    rw [h9]
    simp [h8]
  rw [hs]
  exact h (k / 8) (by omega) rfl
theorem more_tail (s : BitVec 32) : more s (tail s) = 0x48674bc7#32 := by
  have h : reg (~~~ s) (tail s) = G (~~~ s) (fun k => s.getLsbD k) 32 := by
    rw [reg_all]
    exact G_congr _ _ _ _ (fun k hk => bit_tail s k hk)
  have h2 : G (~~~ s) (fun k => s.getLsbD k) 32 = G (~~~ 0#32) (fun _ => false) 32 := by
    have e : ~~~ s = ~~~ 0#32 ^^^ s := by
      apply BitVec.eq_of_getLsbD_eq
      intro i hi
      simp only [BitVec.getLsbD_not, BitVec.getLsbD_xor, BitVec.getLsbD_zero, hi, decide_true, Bool.true_and]
      cases s.getLsbD i <;> rfl
    have hz : G s (fun k => s.getLsbD k) 32 = 0#32 := by
      have hm : ∀ m, m ≤ 32 → G s (fun k => s.getLsbD k) m = s >>> m := by
        intro m
        induction m with
        | zero => intro _; simp [G]
        | succ m ih =>
          intro hm
          show S (G s (fun k => s.getLsbD k) m ^^^ one (s.getLsbD m)) = s >>> (m + 1)
          rw [ih (by omega), S_even]
          · rw [BitVec.ushiftRight_xor_distrib, ← BitVec.shiftRight_add]
            have : one (s.getLsbD m) >>> 1 = 0#32 := by cases s.getLsbD m <;> decide
            rw [this, BitVec.xor_zero]
          · rw [BitVec.getLsbD_xor, BitVec.getLsbD_ushiftRight]
            simp only [Nat.add_zero]
            cases s.getLsbD m <;> decide
      rw [hm 32 (Nat.le_refl _)]
      apply BitVec.eq_of_toNat_eq
      rw [BitVec.toNat_ushiftRight, Nat.shiftRight_eq_div_pow]
      have := s.isLt
      simp only [BitVec.toNat_ofNat, Nat.zero_mod]
      omega
    have hx := G_xor (~~~ 0#32) s (fun _ => false) (fun k => s.getLsbD k) 32
    rw [hz, BitVec.xor_zero, ← e] at hx
    simpa using hx
  unfold more
  rw [h, h2]
  decide +kernel

theorem shown1 : sum [49, 50, 51, 52, 53, 54, 55, 56, 57] = 0xe3069283#32 := by decide +kernel
theorem shown2 : sum [0] = 0x527d5351#32 := by decide +kernel

/-! ### the same over natural numbers, closed to the walk -/
def regN (n : Nat) (bs : List UInt8) : Nat := (reg (BitVec.ofNat 32 n) bs).toNat
def moreN (n : Nat) (bs : List UInt8) : Nat := (more (BitVec.ofNat 32 n) bs).toNat
def sumN (bs : List UInt8) : Nat := (sum bs).toNat
def notN (n : Nat) : Nat := 4294967295 - n
theorem ofNat_toNat (r : BitVec 32) : BitVec.ofNat 32 r.toNat = r := by simp
theorem regN_lt (n : Nat) (bs : List UInt8) : regN n bs < 4294967296 := (reg _ _).isLt
theorem moreN_lt (n : Nat) (bs : List UInt8) : moreN n bs < 4294967296 := (more _ _).isLt
theorem sumN_lt (bs : List UInt8) : sumN bs < 4294967296 := (sum _).isLt
theorem notN_lt (n : Nat) : notN n < 4294967296 := by unfold notN; omega
theorem regN_nil (n : Nat) (h : n < 4294967296) : regN n [] = n := by
  unfold regN; rw [reg_nil, BitVec.toNat_ofNat]; exact Nat.mod_eq_of_lt h
theorem regN_snoc (n : Nat) (bs : List UInt8) (x : UInt8) : regN n (bs ++ [x]) = regN (regN n bs) [x] := by
  unfold regN; rw [reg_append, ofNat_toNat]
theorem not_ofNat (n : Nat) (h : n < 4294967296) : ~~~ (BitVec.ofNat 32 n) = BitVec.ofNat 32 (notN n) := by
  apply BitVec.eq_of_toNat_eq
  rw [BitVec.toNat_not, BitVec.toNat_ofNat, BitVec.toNat_ofNat, Nat.mod_eq_of_lt h, Nat.mod_eq_of_lt (notN_lt n)]
  unfold notN; omega
theorem moreN_eq (n : Nat) (h : n < 4294967296) (bs : List UInt8) : moreN n bs = notN (regN (notN n) bs) := by
  unfold moreN more regN
  rw [not_ofNat n h, BitVec.toNat_not]
  rfl
theorem sumN_eq (bs : List UInt8) : sumN bs = moreN 0 bs := rfl
theorem moreN_nil (n : Nat) (h : n < 4294967296) : moreN n [] = n := by
  unfold moreN; rw [more_nil, BitVec.toNat_ofNat]; exact Nat.mod_eq_of_lt h
theorem moreN_append (n : Nat) (a b : List UInt8) : moreN n (a ++ b) = moreN (moreN n a) b := by
  unfold moreN; rw [more_append, ofNat_toNat]
theorem sumN_append (a b : List UInt8) : sumN (a ++ b) = moreN (sumN a) b := moreN_append 0 a b
theorem shownN1 : sumN [49, 50, 51, 52, 53, 54, 55, 56, 57] = 3808858755 := by unfold sumN; rw [shown1]; rfl
theorem shownN2 : sumN [0] = 1383945041 := by unfold sumN; rw [shown2]; rfl
theorem shownN0 : sumN [] = 0 := by decide +kernel
def tailN (n : Nat) : List UInt8 := tail (BitVec.ofNat 32 n)
theorem moreN_tail (n : Nat) : moreN n (tailN n) = 1214729159 := by
  unfold moreN tailN; rw [more_tail]; rfl
theorem sumN_tail (bs : List UInt8) : sumN (bs ++ tailN (sumN bs)) = 1214729159 := by rw [sumN_append, moreN_tail]

/-- four steps by the table -/
def tN (n : Nat) : Nat := (n / 16) ^^^ (tab.getD (n % 16) 0)
theorem tab_lt : ∀ k : Fin 16, tab.getD k.val 0 < 4294967296 := by decide
theorem T_nat (r : BitVec 32) : (T r).toNat = tN r.toNat := by
  unfold T tN
  have h := tab_lt ⟨r.toNat % 16, by omega⟩
  rw [BitVec.toNat_xor, BitVec.toNat_ushiftRight, BitVec.toNat_ofNat, Nat.mod_eq_of_lt h, Nat.shiftRight_eq_div_pow]
theorem wide_nat (x : UInt8) : (wide x).toNat = x.toNat := by
  unfold wide
  have := x.toNat_lt
  rw [BitVec.toNat_ofNat]; omega
theorem regN_one (n : Nat) (h : n < 4294967296) (x : UInt8) : regN n [x] = tN (tN (n ^^^ x.toNat)) := by
  show (B (BitVec.ofNat 32 n) x).toNat = _
  rw [B_T, T_nat, T_nat, BitVec.toNat_xor, wide_nat, BitVec.toNat_ofNat, Nat.mod_eq_of_lt h]
theorem tN_lt (n : Nat) (h : n < 4294967296) : tN n < 4294967296 := by
  have := T_nat (BitVec.ofNat 32 n)
  rw [BitVec.toNat_ofNat, Nat.mod_eq_of_lt h] at this
  rw [← this]; exact (T _).isLt
theorem xor_lt (n : Nat) (h : n < 4294967296) (x : UInt8) : n ^^^ x.toNat < 4294967296 := by
  have := x.toNat_lt
  exact Nat.xor_lt_two_pow (n := 32) h (by omega)

/-- one bit's step -/
def sN (n : Nat) : Nat := if n % 2 = 1 then (n / 2) ^^^ 2197175160 else n / 2
theorem S_nat (r : BitVec 32) : (S r).toNat = sN r.toNat := by
  unfold S sN
  have h0 : r.getLsbD 0 = decide (r.toNat % 2 = 1) := Nat.testBit_zero r.toNat
  rw [h0, BitVec.toNat_xor, BitVec.toNat_ushiftRight, Nat.shiftRight_eq_div_pow]
  by_cases h : r.toNat % 2 = 1
  · simp [h]
  · simp [h]
theorem sN_lt (n : Nat) (h : n < 4294967296) : sN n < 4294967296 := by
  have := S_nat (BitVec.ofNat 32 n)
  rw [BitVec.toNat_ofNat, Nat.mod_eq_of_lt h] at this
  rw [← this]; exact (S _).isLt
def sNs : Nat → Nat → Nat
  | 0, n => n
  | k + 1, n => sN (sNs k n)
theorem sNs_lt (n : Nat) (h : n < 4294967296) : ∀ k, sNs k n < 4294967296
  | 0 => h
  | k + 1 => sN_lt _ (sNs_lt n h k)
theorem regN_bits (n : Nat) (h : n < 4294967296) (x : UInt8) : regN n [x] = sNs 8 (n ^^^ x.toNat) := by
  show (B (BitVec.ofNat 32 n) x).toNat = _
  unfold B S8 S4
  simp only [S_nat, sNs]
  rw [BitVec.toNat_xor, wide_nat, BitVec.toNat_ofNat, Nat.mod_eq_of_lt h]

end Go.Proofs.YtbdpedagaojjkaaDoor.Crc
