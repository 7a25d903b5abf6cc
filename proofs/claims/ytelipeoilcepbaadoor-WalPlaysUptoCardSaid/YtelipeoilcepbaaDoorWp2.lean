/-
  Texts in one file: WlA WlB WlC WlD. Conditions: the tables and the errors read as the program's text lays them.
-/

namespace Go.Proofs.YtelipeoilcepbaaDoor.Wl
set_option linter.unusedVariables false
abbrev B8 := List UInt8
def be4 (n : Nat) : B8 := [UInt8.ofNat (n / 16777216), UInt8.ofNat (n / 65536), UInt8.ofNat (n / 256), UInt8.ofNat n]
def be2 (n : Nat) : B8 := [UInt8.ofNat (n / 256), UInt8.ofNat n]
def num (l : B8) : Nat := l.foldl (fun n x => n * 256 + x.toNat) 0
theorem of_nat (n : Nat) : (UInt8.ofNat n).toNat = n % 256 := UInt8.toNat_ofNat'
theorem num_be4 {n : Nat} (h : n < 4294967296) : num (be4 n) = n := by
  simp only [num, be4, List.foldl_cons, List.foldl_nil, of_nat]; omega
theorem num_be2 (n : Nat) : num (be2 n) = n % 65536 := by
  simp only [num, be2, List.foldl_cons, List.foldl_nil, of_nat]; omega
structure Stamp where
  age : Nat
  no : Nat
  cost : Nat
  sum : Nat
def hs (sum h : Nat) : Nat := if h % 2 = 0 then sum / 65536 else sum
def Stamp.tag (s : Stamp) (h : Nat) : B8 := [UInt8.ofNat h, UInt8.ofNat s.cost] ++ be4 s.age ++ be4 s.no ++ be2 (hs s.sum h)
theorem tag_len (s : Stamp) (h : Nat) : (s.tag h).length = 12 := rfl
structure Stamp.ok (s : Stamp) : Prop where
  age : s.age < 4294967296
  no : s.no < 4294967296
  cost : s.cost < 128
  sum : s.sum < 4294967296
def tst (t : B8) : Stamp := ⟨num ((t.drop 2).take 4), num ((t.drop 6).take 4), (t.getD 1 0).toNat, num (t.drop 10)⟩
theorem tst_tag {s : Stamp} (hs_ : s.ok) (h : Nat) : tst (s.tag h) = ⟨s.age, s.no, s.cost, hs s.sum h % 65536⟩ := by
  have h1 := hs_.age
  have h2 := hs_.no
  have h3 := hs_.cost
  unfold tst Stamp.tag
  have e1 : ((([UInt8.ofNat h, UInt8.ofNat s.cost] ++ be4 s.age ++ be4 s.no ++ be2 (hs s.sum h)).drop 2).take 4) = be4 s.age := rfl
  have e2 : ((([UInt8.ofNat h, UInt8.ofNat s.cost] ++ be4 s.age ++ be4 s.no ++ be2 (hs s.sum h)).drop 6).take 4) = be4 s.no := rfl
  have e3 : (([UInt8.ofNat h, UInt8.ofNat s.cost] ++ be4 s.age ++ be4 s.no ++ be2 (hs s.sum h)).drop 10) = be2 (hs s.sum h) := rfl
  have e4 : (([UInt8.ofNat h, UInt8.ofNat s.cost] ++ be4 s.age ++ be4 s.no ++ be2 (hs s.sum h)).getD 1 0) = UInt8.ofNat s.cost := rfl
  rw [e1, e2, e3, e4, num_be4 h1, num_be4 h2, num_be2, of_nat]
  congr 1
  omega
theorem tag_inj {s s' : Stamp} {h h' : Nat} (a : s.ok) (b : s'.ok) (hh : h < 256) (hh' : h' < 256) (e : s.tag h = s'.tag h') : h = h' ∧ s.age = s'.age ∧ s.no = s'.no ∧ s.cost = s'.cost ∧ hs s.sum h % 65536 = hs s'.sum h' % 65536 := by
  have e2 := congrArg tst e
  rw [tst_tag a, tst_tag b] at e2
  injection e2 with e1 e2 e3 e4
  have e5 : UInt8.ofNat h = UInt8.ofNat h' := by
    have := congrArg (fun l : B8 => l.getD 0 0) e
    exact this
  have e6 := congrArg UInt8.toNat e5
  rw [of_nat, of_nat] at e6
  exact ⟨by omega, e1, e2, e3, e4⟩
abbrev Disk := Nat → B8
def Whole (D : Disk) : Prop := ∀ q, (D q).length = 64
def halfAt (D : Disk) (q j : Nat) : B8 := ((D q).drop (32 * j)).take 32
def tagAt (D : Disk) (q j : Nat) : B8 := (halfAt D q j).take 12
def pieceAt (D : Disk) (q j : Nat) : B8 := (halfAt D q j).drop 12
theorem half_len {D : Disk} (h : Whole D) (q : Nat) {j : Nat} (hj : j < 2) : (halfAt D q j).length = 32 := by
  unfold halfAt
  rw [List.length_take, List.length_drop, h q]
  omega
theorem halves_eq {D D' : Disk} (h : Whole D) (h' : Whole D') {q : Nat} (h0 : halfAt D q 0 = halfAt D' q 0) (h1 : halfAt D q 1 = halfAt D' q 1) : D q = D' q := by
  have a := h q
  have b := h' q
  unfold halfAt at h0 h1
  simp only [Nat.mul_zero, List.drop_zero, Nat.mul_one] at h0 h1
  rw [List.take_of_length_le (l := (D q).drop 32) (by rw [List.length_drop]; omega), List.take_of_length_le (l := (D' q).drop 32) (by rw [List.length_drop]; omega)] at h1
  rw [← List.take_append_drop 32 (D q), ← List.take_append_drop 32 (D' q), h0, h1]
def stampOf (D : Disk) (q : Nat) : Stamp := ⟨(tst (tagAt D q 0)).age, (tst (tagAt D q 0)).no, (tst (tagAt D q 0)).cost, (tst (tagAt D q 0)).sum * 65536 + (tst (tagAt D q 1)).sum⟩
theorem num2_lt {l : B8} (h : l.length ≤ 2) : num l < 65536 := by
  match l, h with
  | [], _ => decide
  | [a], _ =>
    simp only [num, List.foldl_cons, List.foldl_nil]
    have := a.toNat_lt; omega
  | [a, b], _ =>
    simp only [num, List.foldl_cons, List.foldl_nil]
    have := a.toNat_lt; have := b.toNat_lt; omega
theorem num4_lt {l : B8} (h : l.length ≤ 4) : num l < 4294967296 := by
  match l, h with
  | [], _ => decide
  | [a], _ =>
    simp only [num, List.foldl_cons, List.foldl_nil]
    have := a.toNat_lt; omega
  | [a, b], _ =>
    simp only [num, List.foldl_cons, List.foldl_nil]
    have := a.toNat_lt; have := b.toNat_lt; omega
  | [a, b, c], _ =>
    simp only [num, List.foldl_cons, List.foldl_nil]
    have := a.toNat_lt; have := b.toNat_lt; have := c.toNat_lt; omega
  | [a, b, c, d], _ =>
    simp only [num, List.foldl_cons, List.foldl_nil]
    have := a.toNat_lt; have := b.toNat_lt; have := c.toNat_lt; have := d.toNat_lt; omega
def Tagged (D : Disk) (P c : Nat) (s : Stamp) : Prop := ∀ i, i < c → ∀ j, j < 2 → tagAt D (P + i) j = s.tag (2 * i + j)
def textAt (D : Disk) (P c : Nat) : B8 := (List.range c).flatMap fun i => pieceAt D (P + i) 0 ++ pieceAt D (P + i) 1
theorem textAt_succ (D : Disk) (P c : Nat) : textAt D P (c + 1) = textAt D P c ++ (pieceAt D (P + c) 0 ++ pieceAt D (P + c) 1) := by
  unfold textAt
  rw [List.range_succ, List.flatMap_append]
  simp
theorem textAt_same {D D' : Disk} {P c : Nat} (h : ∀ i, i < c → D' (P + i) = D (P + i)) : textAt D' P c = textAt D P c := by
  induction c with
  | zero => rfl
  | succ c ih =>
    rw [textAt_succ, textAt_succ, ih fun i hi => h i (by omega)]
    unfold pieceAt halfAt
    rw [h c (by omega)]
open Classical in
noncomputable def grp (D : Disk) (E P : Nat) : Option (Stamp × B8) :=
  if (stampOf D P).cost ≠ 0 ∧ P + (stampOf D P).cost ≤ E ∧ Tagged D P (stampOf D P).cost (stampOf D P) then some (stampOf D P, textAt D P (stampOf D P).cost) else none
theorem grp_some {D : Disk} {E P : Nat} {s : Stamp} {t : B8} : grp D E P = some (s, t) ↔ s = stampOf D P ∧ s.cost ≠ 0 ∧ P + s.cost ≤ E ∧ Tagged D P s.cost s ∧ t = textAt D P s.cost := by
  unfold grp
  constructor
  · intro h
    split at h
    · rename_i hc
      injection h with h
      injection h with h1 h2
      subst h1 h2
      exact ⟨rfl, hc.1, hc.2.1, hc.2.2, rfl⟩
    · cases h
  · rintro ⟨rfl, h1, h2, h3, rfl⟩
    rw [if_pos ⟨h1, h2, h3⟩]
theorem stampOf_same {D D' : Disk} {P : Nat} (h : D' P = D P) : stampOf D' P = stampOf D P := by
  unfold stampOf tagAt halfAt
  rw [h]
theorem tagAt_same {D D' : Disk} {P j : Nat} (h : D' P = D P) : tagAt D' P j = tagAt D P j := by
  unfold tagAt halfAt
  rw [h]
theorem grp_keep {D D' : Disk} {E P : Nat} {s : Stamp} {t : B8} (h : grp D E P = some (s, t)) (hs : ∀ i, i < s.cost → D' (P + i) = D (P + i)) : grp D' E P = some (s, t) := by
  obtain ⟨h1, h2, h3, h4, h5⟩ := grp_some.1 h
  have h0 : D' P = D P := hs 0 (by omega)
  exact grp_some.2 ⟨by rw [stampOf_same h0]; exact h1, h2, h3, fun i hi j hj => by rw [tagAt_same (hs i hi)]; exact h4 i hi j hj, by rw [textAt_same hs]; exact h5⟩
def enc (s : Stamp) (t : B8) (i : Nat) : B8 := s.tag (2 * i) ++ (t.drop (40 * i)).take 20 ++ (s.tag (2 * i + 1) ++ (t.drop (40 * i + 20)).take 20)
def lay (D : Disk) (P c : Nat) (s : Stamp) (t : B8) : Disk := fun q => if P ≤ q ∧ q < P + c then enc s t (q - P) else D q
theorem enc_len {s : Stamp} {t : B8} {c i : Nat} (ht : t.length = 40 * c) (hi : i < c) : (enc s t i).length = 64 := by
  unfold enc
  simp only [List.length_append, tag_len, List.length_take, List.length_drop, ht]
  omega
theorem lay_whole {D : Disk} {P c : Nat} {s : Stamp} {t : B8} (h : Whole D) (ht : t.length = 40 * c) : Whole (lay D P c s t) := fun q => by
  unfold lay
  split
  · exact enc_len ht (by omega)
  · exact h q
theorem lay_at {D : Disk} {P c i : Nat} {s : Stamp} {t : B8} (hi : i < c) : lay D P c s t (P + i) = enc s t i := by
  unfold lay
  rw [if_pos (by omega), Nat.add_sub_cancel_left]
theorem lay_off {D : Disk} {P c q : Nat} {s : Stamp} {t : B8} (h : ¬ (P ≤ q ∧ q < P + c)) : lay D P c s t q = D q := if_neg h
theorem enc_half0 {s : Stamp} {t : B8} {c i : Nat} (ht : t.length = 40 * c) (hi : i < c) : (enc s t i).take 32 = s.tag (2 * i) ++ (t.drop (40 * i)).take 20 := by
  unfold enc
  have : (s.tag (2 * i) ++ (t.drop (40 * i)).take 20).length = 32 := by
    simp only [List.length_append, tag_len, List.length_take, List.length_drop, ht]; omega
  rw [List.take_append_of_le_length (by omega), List.take_of_length_le (by omega)]
theorem enc_half1 {s : Stamp} {t : B8} {c i : Nat} (ht : t.length = 40 * c) (hi : i < c) : ((enc s t i).drop 32).take 32 = s.tag (2 * i + 1) ++ (t.drop (40 * i + 20)).take 20 := by
  unfold enc
  have h1 : (s.tag (2 * i) ++ (t.drop (40 * i)).take 20).length = 32 := by
    simp only [List.length_append, tag_len, List.length_take, List.length_drop, ht]; omega
  have h2 : (s.tag (2 * i + 1) ++ (t.drop (40 * i + 20)).take 20).length = 32 := by
    simp only [List.length_append, tag_len, List.length_take, List.length_drop, ht]; omega
  rw [List.drop_append, List.drop_of_length_le (by omega), List.nil_append, h1, Nat.sub_self, List.drop_zero, List.take_of_length_le (by omega)]
theorem lay_tag {D : Disk} {P c i j : Nat} {s : Stamp} {t : B8} (ht : t.length = 40 * c) (hi : i < c) (hj : j < 2) : tagAt (lay D P c s t) (P + i) j = s.tag (2 * i + j) := by
  unfold tagAt halfAt
  rw [lay_at hi]
  match j, hj with
  | 0, _ =>
    rw [Nat.mul_zero, List.drop_zero, enc_half0 ht hi, List.take_append_of_le_length (by rw [tag_len]; omega), List.take_of_length_le (by rw [tag_len]; omega)]; rfl
  | 1, _ =>
    rw [Nat.mul_one, enc_half1 ht hi, List.take_append_of_le_length (by rw [tag_len]; omega), List.take_of_length_le (by rw [tag_len]; omega)]
theorem lay_piece {D : Disk} {P c i j : Nat} {s : Stamp} {t : B8} (ht : t.length = 40 * c) (hi : i < c) (hj : j < 2) : pieceAt (lay D P c s t) (P + i) j = (t.drop (40 * i + 20 * j)).take 20 := by
  unfold pieceAt halfAt
  rw [lay_at hi]
  match j, hj with
  | 0, _ =>
    rw [Nat.mul_zero, List.drop_zero, enc_half0 ht hi, List.drop_append, List.drop_of_length_le (by rw [tag_len]; omega), List.nil_append, tag_len]; rfl
  | 1, _ =>
    rw [Nat.mul_one, enc_half1 ht hi, List.drop_append, List.drop_of_length_le (by rw [tag_len]; omega), List.nil_append, tag_len]; rfl
theorem lay_text_n {D : Disk} {P c : Nat} {s : Stamp} {t : B8} (ht : t.length = 40 * c) : ∀ n, n ≤ c → textAt (lay D P c s t) P n = t.take (40 * n)
  | 0, _ => by rw [Nat.mul_zero, List.take_zero]; rfl
  | n + 1, h => by
    rw [textAt_succ, lay_text_n ht n (by omega), lay_piece ht (by omega) (by omega), lay_piece ht (by omega) (by omega), Nat.mul_zero, Nat.add_zero, Nat.mul_one]
    rw [show 40 * (n + 1) = 40 * n + (20 + 20) from by omega, List.take_add, List.take_add, List.drop_drop]
theorem lay_text {D : Disk} {P c : Nat} {s : Stamp} {t : B8} (ht : t.length = 40 * c) : textAt (lay D P c s t) P c = t := by
  rw [lay_text_n ht c (Nat.le_refl _), List.take_of_length_le (by omega)]
theorem lay_stamp {D : Disk} {P c : Nat} {s : Stamp} {t : B8} (hs_ : s.ok) (ht : t.length = 40 * c) (hc : 0 < c) : stampOf (lay D P c s t) P = s := by
  have e0 := lay_tag (D := D) (P := P) (i := 0) (j := 0) (s := s) ht hc (by omega)
  have e1 := lay_tag (D := D) (P := P) (i := 0) (j := 1) (s := s) ht hc (by omega)
  rw [Nat.add_zero] at e0 e1
  unfold stampOf
  rw [e0, e1, tst_tag hs_, tst_tag hs_]
  have h4 := hs_.sum
  show (⟨s.age, s.no, s.cost, hs s.sum 0 % 65536 * 65536 + hs s.sum 1 % 65536⟩ : Stamp) = s
  have e : hs s.sum 0 % 65536 * 65536 + hs s.sum 1 % 65536 = s.sum := by
    unfold hs
    simp only [Nat.zero_mod, if_true, show (1 % 2 = 0) = False from by decide, if_false]
    omega
  rw [e]
theorem grp_lay {D : Disk} {E P : Nat} {s : Stamp} {t : B8} (hs_ : s.ok) (ht : t.length = 40 * s.cost) (hc : 0 < s.cost) (hE : P + s.cost ≤ E) : grp (lay D P s.cost s t) E P = some (s, t) :=
  grp_some.2 ⟨(lay_stamp hs_ ht hc).symm, by omega, hE, fun i hi j hj => lay_tag ht hi hj, (lay_text ht).symm⟩
def Mix (D N D' : Disk) : Prop := ∀ q j, j < 2 → halfAt D' q j = halfAt D q j ∨ halfAt D' q j = halfAt N q j
theorem mix_off {D N D' : Disk} (h : Mix D N D') (w : Whole D) (w' : Whole D') {q : Nat} (hq : N q = D q) : D' q = D q := by
  have e : ∀ j, j < 2 → halfAt D' q j = halfAt D q j := fun j hj => by
    rcases h q j hj with h | h
    · exact h
    · rw [h]; unfold halfAt; rw [hq]
  exact halves_eq w' w (e 0 (by omega)) (e 1 (by omega))
theorem mix_all {N D' : Disk} (w : Whole N) (w' : Whole D') {q : Nat} (h : ∀ j, j < 2 → halfAt D' q j = halfAt N q j) : D' q = N q := halves_eq w' w (h 0 (by omega)) (h 1 (by omega))
def Fresh (D : Disk) (P c age no : Nat) : Prop := ∀ i, i < c → ∀ j, j < 2 → ¬ ((tst (tagAt D (P + i) j)).age = age ∧ (tst (tagAt D (P + i) j)).no = no)
theorem tag_of_half {D D' : Disk} {q j : Nat} (h : halfAt D' q j = halfAt D q j) : tagAt D' q j = tagAt D q j := by
  unfold tagAt; rw [h]
theorem stamp_lt (D : Disk) (P : Nat) : (stampOf D P).age < 4294967296 ∧ (stampOf D P).no < 4294967296 ∧ (stampOf D P).cost < 256 ∧ (stampOf D P).sum < 4294967296 := by
  have a0 : (tagAt D P 0).length ≤ 12 := by unfold tagAt; rw [List.length_take]; omega
  have a1 : (tagAt D P 1).length ≤ 12 := by unfold tagAt; rw [List.length_take]; omega
  have h1 := num2_lt (l := (tagAt D P 0).drop 10) (by rw [List.length_drop]; omega)
  have h2 := num2_lt (l := (tagAt D P 1).drop 10) (by rw [List.length_drop]; omega)
  refine ⟨num4_lt (by rw [List.length_take]; omega), num4_lt (by rw [List.length_take]; omega), ((tagAt D P 0).getD 1 0).toNat_lt, ?_⟩
  show num ((tagAt D P 0).drop 10) * 65536 + num ((tagAt D P 1).drop 10) < 4294967296
  omega
theorem grp_ok {D : Disk} {E P : Nat} {s : Stamp} {t : B8} (h : grp D E P = some (s, t)) (hE : E ≤ P + 64) : s.ok := by
  obtain ⟨h1, h2, h3, _, _⟩ := grp_some.1 h
  have := stamp_lt D P
  rw [← h1] at this
  exact ⟨this.1, this.2.1, by omega, this.2.2.2⟩
theorem mix_grp {D D' : Disk} {P E Q : Nat} {s : Stamp} {t : B8} (hs_ : s.ok) (ht : t.length = 40 * s.cost) (w : Whole D) (w' : Whole D') (hm : Mix D (lay D P s.cost s t) D') (hf : Fresh D P s.cost s.age s.no) {s' : Stamp} {t' : B8} (hQ : E ≤ Q + 64) (h : grp D' E Q = some (s', t')) :
    grp D E Q = some (s', t') ∨ (Q = P ∧ s' = s ∧ t' = t ∧ ∀ q, D' q = lay D P s.cost s t q) := by
  have hok := grp_ok h hQ
  obtain ⟨h1, h2, h3, h4, h5⟩ := grp_some.1 h
  by_cases hall : ∀ i, i < s'.cost → ∀ j, j < 2 → halfAt D' (Q + i) j = halfAt D (Q + i) j
  · refine .inl ?_
    have hD : ∀ i, i < s'.cost → D (Q + i) = D' (Q + i) := fun i hi => (halves_eq w' w (hall i hi 0 (by omega)) (hall i hi 1 (by omega))).symm
    exact grp_keep h hD
  · refine .inr ?_
    simp only [Classical.not_forall] at hall
    obtain ⟨i, hi, j, hj, hne⟩ := hall
    have hN := (hm (Q + i) j hj).resolve_left hne
    have hin : P ≤ Q + i ∧ Q + i < P + s.cost := by
      refine Classical.byContradiction fun hc => hne ?_
      rw [hN]; unfold halfAt; rw [lay_off hc]
    obtain ⟨i0, hi0⟩ : ∃ i0, Q + i = P + i0 := ⟨Q + i - P, by omega⟩
    have hi0c : i0 < s.cost := by omega
    have ht1 : tagAt D' (Q + i) j = s.tag (2 * i0 + j) := by
      rw [tag_of_half hN, hi0]
      exact lay_tag ht hi0c hj
    have ht2 := h4 i hi j hj
    rw [ht1] at ht2
    have hc1 := hs_.cost
    have hc2 := hok.cost
    obtain ⟨e1, e2, e3, e4, _⟩ := tag_inj hs_ hok (by omega) (by omega) ht2
    obtain rfl : Q = P := by omega
    have hnew : ∀ i, i < s.cost → ∀ j, j < 2 → halfAt D' (Q + i) j = halfAt (lay D Q s.cost s t) (Q + i) j := fun i hi j hj => by
      rcases hm (Q + i) j hj with hh | hh
      · exfalso
        have htt := h4 i (by omega) j hj
        rw [tag_of_half hh] at htt
        refine hf i hi j hj ?_
        rw [htt, tst_tag hok]
        exact ⟨e2.symm, e3.symm⟩
      · exact hh
    have hwN : Whole (lay D Q s.cost s t) := lay_whole w ht
    have hD' : ∀ q, D' q = lay D Q s.cost s t q := fun q => by
      by_cases hq : Q ≤ q ∧ q < Q + s.cost
      · obtain ⟨i, rfl⟩ : ∃ i, q = Q + i := ⟨q - Q, by omega⟩
        exact mix_all hwN w' fun j hj => hnew i (by omega) j hj
      · rw [lay_off hq]
        exact mix_off hm w w' (lay_off hq)
    have hg : grp (lay D Q s.cost s t) E Q = some (s, t) := grp_lay hs_ ht (by omega) (by omega)
    have hgg : grp D' E Q = some (s, t) := grp_keep hg fun i _ => hD' (Q + i)
    rw [h] at hgg
    injection hgg with hgg
    injection hgg with g1 g2
    exact ⟨rfl, g1, g2, hD'⟩
end Go.Proofs.YtelipeoilcepbaaDoor.Wl
namespace Go.Proofs.YtelipeoilcepbaaDoor.Wl
set_option linter.unusedVariables false
structure Gp where
  s : Stamp
  P : Nat
  t : B8
def nxOk (nx : Option Nat) (n : Nat) : Bool := match nx with | none => true | some m => decide (n = m)
noncomputable def chain (D : Disk) (E : Nat) : Nat → Nat → Option Nat → List Gp
  | 0, _, _ => []
  | k + 1, P, nx => match grp D E P with
    | none => []
    | some (s, t) => if nxOk nx s.no = true then ⟨s, P, t⟩ :: chain D E k (P + s.cost) (some (s.no + 1)) else []
theorem chain_none {D : Disk} {E k P : Nat} {nx : Option Nat} (h : grp D E P = none) : chain D E (k + 1) P nx = [] := by
  rw [chain, h]
theorem chain_some {D : Disk} {E k P : Nat} {nx : Option Nat} {s : Stamp} {t : B8} (h : grp D E P = some (s, t)) (hn : nxOk nx s.no = true) : chain D E (k + 1) P nx = ⟨s, P, t⟩ :: chain D E k (P + s.cost) (some (s.no + 1)) := by
  rw [chain, h]; exact if_pos hn
theorem chain_stop {D : Disk} {E k P : Nat} {nx : Option Nat} {s : Stamp} {t : B8} (h : grp D E P = some (s, t)) (hn : nxOk nx s.no = false) : chain D E (k + 1) P nx = [] := by
  rw [chain, h]; exact if_neg (by rw [hn]; decide)
def endP (P : Nat) : List Gp → Nat
  | [] => P
  | g :: l => endP (P + g.s.cost) l
def endN (nx : Option Nat) : List Gp → Option Nat
  | [] => nx
  | g :: l => endN (some (g.s.no + 1)) l
theorem endP_app (P : Nat) (l m : List Gp) : endP P (l ++ m) = endP (endP P l) m := by
  induction l generalizing P with
  | nil => rfl
  | cons g l ih => exact ih _
theorem endN_app (nx : Option Nat) (l m : List Gp) : endN nx (l ++ m) = endN (endN nx l) m := by
  induction l generalizing nx with
  | nil => rfl
  | cons g l ih => exact ih _
theorem endP_ge (P : Nat) (l : List Gp) : P ≤ endP P l := by
  induction l generalizing P with
  | nil => exact Nat.le_refl _
  | cons g l ih => exact Nat.le_trans (Nat.le_add_right _ _) (ih _)
theorem chain_pre {D D' : Disk} {E : Nat} : ∀ {k P : Nat} {nx : Option Nat}, (∀ q, P ≤ q → q < endP P (chain D E k P nx) → D' q = D q) →
    chain D' E k P nx = chain D E k P nx ++ chain D' E (k - (chain D E k P nx).length) (endP P (chain D E k P nx)) (endN nx (chain D E k P nx))
  | 0, P, nx, _ => rfl
  | k + 1, P, nx, h => by
    cases hg : grp D E P with
    | none => rw [chain_none hg]; rfl
    | some x =>
      obtain ⟨s, t⟩ := x
      cases hn : nxOk nx s.no with
      | false => rw [chain_stop hg hn]; rfl
      | true =>
        rw [chain_some hg hn] at h ⊢
        have hge := endP_ge (P + s.cost) (chain D E k (P + s.cost) (some (s.no + 1)))
        have hg' : grp D' E P = some (s, t) := grp_keep hg fun i hi => h _ (by omega) (by show P + i < endP (P + s.cost) _; omega)
        rw [chain_some hg' hn, List.cons_append]
        have ih := chain_pre (D := D) (D' := D') (E := E) (k := k) (P := P + s.cost) (nx := some (s.no + 1)) fun q h1 h2 => h q (by omega) h2
        rw [ih]
        simp only [List.length_cons, Nat.add_sub_add_right]
        rfl
theorem chain_same {D D' : Disk} {E : Nat} (hE : ∀ q, q < E → D' q = D q) {L : Nat} (hL : ∀ q, L ≤ q → q < E → D' q = D q) : ∀ {k P : Nat} {nx : Option Nat}, chain D' E k P nx = chain D E k P nx
  | 0, P, nx => rfl
  | k + 1, P, nx => by
    cases hg : grp D E P with
    | none =>
      rw [chain_none hg]
      cases hg' : grp D' E P with
      | none => rw [chain_none hg']
      | some x =>
        obtain ⟨s, t⟩ := x
        have h3 := (grp_some.1 hg').2.2.1
        rw [grp_keep hg' fun i hi => (hE _ (by omega)).symm] at hg
        cases hg
    | some x =>
      obtain ⟨s, t⟩ := x
      have h3 := (grp_some.1 hg).2.2.1
      have hg' : grp D' E P = some (s, t) := grp_keep hg fun i hi => hE _ (by omega)
      cases hn : nxOk nx s.no with
      | false => rw [chain_stop hg hn, chain_stop hg' hn]
      | true => rw [chain_some hg hn, chain_some hg' hn, chain_same hE hL]
theorem chain_seg {D D' : Disk} {B E : Nat} (h : ∀ q, B ≤ q → q < E → D' q = D q) : ∀ {k P : Nat} {nx : Option Nat}, B ≤ P → chain D' E k P nx = chain D E k P nx
  | 0, P, nx, _ => rfl
  | k + 1, P, nx, hP => by
    cases hg : grp D E P with
    | none =>
      rw [chain_none hg]
      cases hg' : grp D' E P with
      | none => rw [chain_none hg']
      | some x =>
        obtain ⟨s, t⟩ := x
        have h3 := (grp_some.1 hg').2.2.1
        rw [grp_keep hg' fun i hi => (h _ (by omega) (by omega)).symm] at hg
        cases hg
    | some x =>
      obtain ⟨s, t⟩ := x
      have h3 := (grp_some.1 hg).2.2.1
      have hg' : grp D' E P = some (s, t) := grp_keep hg fun i hi => h _ (by omega) (by omega)
      cases hn : nxOk nx s.no with
      | false => rw [chain_stop hg hn, chain_stop hg' hn]
      | true => rw [chain_some hg hn, chain_some hg' hn, chain_seg h (by omega)]
theorem chain_less {D D' : Disk} {E L : Nat} (h : ∀ Q s t, L ≤ Q → grp D' E Q = some (s, t) → grp D E Q = some (s, t)) : ∀ {k P : Nat} {nx : Option Nat}, L ≤ P → ∃ r, chain D E k P nx = chain D' E k P nx ++ r
  | 0, P, nx, _ => ⟨[], rfl⟩
  | k + 1, P, nx, hP => by
    cases hg : grp D' E P with
    | none => rw [chain_none hg]; exact ⟨_, rfl⟩
    | some x =>
      obtain ⟨s, t⟩ := x
      have hg' := h P s t hP hg
      cases hn : nxOk nx s.no with
      | false => rw [chain_stop hg hn]; exact ⟨_, rfl⟩
      | true =>
        rw [chain_some hg hn, chain_some hg' hn]
        obtain ⟨r, hr⟩ := chain_less h (k := k) (P := P + s.cost) (nx := some (s.no + 1)) (by omega)
        exact ⟨r, by rw [hr]; rfl⟩
noncomputable def live (D : Disk) (B first : Nat) : List Gp := (chain D (B + 64) 65 B none).filter fun g => decide (first ≤ g.s.no)
theorem live_seg {D D' : Disk} {B first : Nat} (h : ∀ q, B ≤ q → q < B + 64 → D' q = D q) : live D' B first = live D B first := by
  unfold live
  rw [chain_seg h (Nat.le_refl _)]
def Stale (D : Disk) (B n : Nat) : Prop := ∀ Q s t, B ≤ Q → grp D (B + 64) Q = some (s, t) → s.no < n
def Cur (D : Disk) (B P n first : Nat) : Prop :=
  (P = B ∧ live D B first = []) ∨ (chain D (B + 64) 65 B none ≠ [] ∧ endP B (chain D (B + 64) 65 B none) = P ∧ endN none (chain D (B + 64) 65 B none) = some n)
theorem chain_len {D : Disk} {E : Nat} : ∀ {k P : Nat} {nx : Option Nat}, P + (chain D E k P nx).length ≤ endP P (chain D E k P nx)
  | 0, P, nx => Nat.le_refl _
  | k + 1, P, nx => by
    cases hg : grp D E P with
    | none => rw [chain_none hg]; exact Nat.le_refl _
    | some x =>
      obtain ⟨s, t⟩ := x
      have h2 := (grp_some.1 hg).2.1
      cases hn : nxOk nx s.no with
      | false => rw [chain_stop hg hn]; exact Nat.le_refl _
      | true =>
        rw [chain_some hg hn]
        have := chain_len (D := D) (E := E) (k := k) (P := P + s.cost) (nx := some (s.no + 1))
        simp only [List.length_cons, endP]
        omega
theorem mix_live {D D' : Disk} {B P n first : Nat} {s : Stamp} {t : B8} (hs_ : s.ok) (ht : t.length = 40 * s.cost) (w : Whole D) (w' : Whole D') (hm : Mix D (lay D P s.cost s t) D') (hf : Fresh D P s.cost s.age s.no) (hc : Cur D B P n first) (hst : Stale D B n) (hn : s.no = n) (hfn : first ≤ n) (hc0 : 0 < s.cost) (hB : B ≤ P) (hPE : P + s.cost ≤ B + 64) :
    (live D' B first = live D B first ∧ ¬ (∀ q, D' q = lay D P s.cost s t q)) ∨
    (live D' B first = live D B first ++ [⟨s, P, t⟩] ∧ (∀ q, D' q = lay D P s.cost s t q) ∧ endP B (chain D' (B + 64) 65 B none) = P + s.cost ∧ endN none (chain D' (B + 64) 65 B none) = some (n + 1) ∧ chain D' (B + 64) 65 B none ≠ []) := by
  have hg1 : ∀ Q s' t', B ≤ Q → grp D' (B + 64) Q = some (s', t') → grp D (B + 64) Q = some (s', t') ∨ (Q = P ∧ s' = s ∧ t' = t ∧ ∀ q, D' q = lay D P s.cost s t q) := fun Q s' t' hQ h => mix_grp hs_ ht w w' hm hf (by omega) h
  have hoff : ∀ q, q < P → D' q = D q := fun q hq => mix_off hm w w' (lay_off (by omega))
  have hnew : (∀ q, D' q = lay D P s.cost s t q) → grp D' (B + 64) P = some (s, t) := fun h => grp_keep (grp_lay hs_ ht hc0 hPE) fun i _ => h _
  have stop : ∀ k, (∀ q, D' q = lay D P s.cost s t q) → chain D' (B + 64) k (P + s.cost) (some (s.no + 1)) = [] := fun k hN => by
    match k with
    | 0 => rfl
    | k + 1 =>
      cases hg : grp D' (B + 64) (P + s.cost) with
      | none => rw [chain_none hg]
      | some x =>
        obtain ⟨s', t'⟩ := x
        rcases hg1 _ s' t' (by omega) hg with h | ⟨h, _⟩
        · have := hst _ _ _ (by omega) h
          exact chain_stop hg (by unfold nxOk; exact decide_eq_false (by omega))
        · omega
  by_cases hN : ∀ q, D' q = lay D P s.cost s t q
  · refine .inr ?_
    have hgP := hnew hN
    rcases hc with ⟨rfl, hl⟩ | ⟨hne, he, hx⟩
    · have hch : chain D' (P + 64) 65 P none = [⟨s, P, t⟩] := by rw [chain_some hgP rfl, stop 64 hN]
      refine ⟨?_, hN, by rw [hch]; rfl, by rw [hch, ← hn]; rfl, by rw [hch]; exact List.cons_ne_nil _ _⟩
      rw [hl]
      unfold live
      rw [hch, List.filter_cons_of_pos (by simp; omega)]; rfl
    · have hpre := chain_pre (D := D) (D' := D') (E := B + 64) (k := 65) (P := B) (nx := none) fun q _ h2 => hoff q (by rw [he] at h2; exact h2)
      have hlen := chain_len (D := D) (E := B + 64) (k := 65) (P := B) (nx := none)
      rw [he] at hlen hpre
      rw [hx] at hpre
      obtain ⟨m, hm'⟩ : ∃ m, 65 - (chain D (B + 64) 65 B none).length = m + 1 := ⟨64 - (chain D (B + 64) 65 B none).length, by omega⟩
      rw [hm', chain_some hgP (by unfold nxOk; exact decide_eq_true hn), stop m hN] at hpre
      refine ⟨?_, hN, ?_, ?_, ?_⟩
      · unfold live
        rw [hpre, List.filter_append, List.filter_cons_of_pos (by simp; omega)]; rfl
      · rw [hpre, endP_app, he]; rfl
      · rw [hpre, endN_app, ← hn]; rfl
      · rw [hpre]; intro h; exact hne (List.append_eq_nil_iff.1 h).1
  · refine .inl ⟨?_, hN⟩
    have hold : ∀ Q s' t', B ≤ Q → grp D' (B + 64) Q = some (s', t') → grp D (B + 64) Q = some (s', t') := fun Q s' t' hQ h => (hg1 Q s' t' hQ h).resolve_right fun e => hN e.2.2.2
    rcases hc with ⟨rfl, hl⟩ | ⟨hne, he, hx⟩
    · rw [hl]
      obtain ⟨r, hr⟩ := chain_less hold (k := 65) (P := P) (nx := none) (Nat.le_refl _)
      unfold live at hl ⊢
      rw [hr, List.filter_append] at hl
      exact (List.append_eq_nil_iff.1 hl).1
    · have hpre := chain_pre (D := D) (D' := D') (E := B + 64) (k := 65) (P := B) (nx := none) fun q _ h2 => hoff q (by rw [he] at h2; exact h2)
      rw [he] at hpre
      rw [hx] at hpre
      have hz : chain D' (B + 64) (65 - (chain D (B + 64) 65 B none).length) P (some n) = [] := by
        match 65 - (chain D (B + 64) 65 B none).length with
        | 0 => rfl
        | k + 1 =>
          cases hg : grp D' (B + 64) P with
          | none => rw [chain_none hg]
          | some x =>
            obtain ⟨s', t'⟩ := x
            have h := hold _ s' t' hB hg
            have := hst _ _ _ hB h
            exact chain_stop hg (by unfold nxOk; exact decide_eq_false (by omega))
      rw [hz, List.append_nil] at hpre
      unfold live
      rw [hpre]
end Go.Proofs.YtelipeoilcepbaaDoor.Wl
namespace Go.Proofs.YtelipeoilcepbaaDoor.Wl
set_option linter.unusedVariables false
set_option linter.unusedSimpArgs false
abbrev Rec := List B8
def size (l : Rec) : Nat := (l.map List.length).sum
def cost (l : Rec) : Nat := (1 + 2 * l.length + size l + 39) / 40
def long (l : Rec) : Prop := 16 < l.length ∨ 2048 < size l
instance (l : Rec) : Decidable (long l) := by unfold long; exact inferInstance
def body (l : Rec) : B8 := [UInt8.ofNat l.length] ++ l.flatMap (fun r => be2 r.length) ++ l.flatten
def pack (l : Rec) : B8 := body l ++ List.replicate (40 * cost l - (body l).length) 0
def cutRecs : List Nat → B8 → Option Rec
  | [], _ => some []
  | n :: ns, r => if r.length < n then none else (cutRecs ns (r.drop n)).map (r.take n :: ·)
def lens (k : Nat) (t : B8) : List Nat := (List.range k).map fun i => num ((t.drop (2 * i)).take 2)
def unpack (crc : B8 → Nat) (s : Stamp) (t : B8) : Option Rec :=
  if t.length < 40 ∨ s.sum ≠ crc t then none
  else if (t.drop 1).length < 2 * (t.getD 0 0).toNat then none
  else cutRecs (lens (t.getD 0 0).toNat (t.drop 1)) (t.drop (1 + 2 * (t.getD 0 0).toNat))
theorem size_cons (r : B8) (l : Rec) : size (r :: l) = r.length + size l := by simp [size]
theorem flat_size (l : Rec) : l.flatten.length = size l := by simp [size]
theorem lens_size (l : Rec) : (l.flatMap fun r => be2 r.length).length = 2 * l.length := by
  induction l with
  | nil => rfl
  | cons r l ih => rw [List.flatMap_cons, List.length_append, ih, List.length_cons]; simp [be2]; omega
theorem body_len (l : Rec) : (body l).length = 1 + 2 * l.length + size l := by
  unfold body
  rw [List.length_append, List.length_append, lens_size, flat_size]; simp
theorem cost_le (l : Rec) : (body l).length ≤ 40 * cost l := by rw [body_len]; unfold cost; omega
theorem pack_len (l : Rec) : (pack l).length = 40 * cost l := by
  have := cost_le l
  unfold pack
  rw [List.length_append, List.length_replicate]; omega
theorem cost_pos (l : Rec) : 0 < cost l := by unfold cost; omega
theorem cost_max {l : Rec} (h : ¬ long l) : cost l ≤ 53 := by unfold long at h; unfold cost; omega
theorem len_le_size {r : B8} {l : Rec} (h : r ∈ l) : r.length ≤ size l := by
  induction l with
  | nil => cases h
  | cons x l ih =>
    rw [size_cons]
    rcases List.mem_cons.1 h with rfl | h
    · omega
    · have := ih h; omega
theorem lens_at : ∀ (l : Rec) (rest : B8), (∀ r ∈ l, r.length < 65536) → lens l.length ((l.flatMap fun r => be2 r.length) ++ rest) = l.map List.length := fun l rest h => by
  apply List.ext_getElem?
  intro i
  unfold lens
  by_cases hi : i < l.length
  · rw [List.getElem?_map, List.getElem?_range hi, List.getElem?_map, List.getElem?_eq_getElem hi]
    simp only [Option.map_some]
    have key : ∀ (l : Rec) (i : Nat) (hi : i < l.length), (((l.flatMap fun r => be2 r.length) ++ rest).drop (2 * i)).take 2 = be2 (l[i]).length := by
      intro l
      induction l with
      | nil => intro i hi; simp at hi
      | cons x l ih =>
        intro i hi
        cases i with
        | zero => simp [be2]
        | succ i =>
          have e : 2 * (i + 1) = 2 * i + 2 := by omega
          rw [List.flatMap_cons, e]
          have := ih i (by simpa using hi)
          simp only [be2, List.cons_append, List.nil_append, List.append_assoc, List.drop_succ_cons, List.getElem_cons_succ] at this ⊢
          exact this
    rw [key l i hi, num_be2]
    have := h l[i] (List.getElem_mem _)
    congr 1; omega
  · rw [List.getElem?_eq_none (by simp; omega), List.getElem?_eq_none (by simp; omega)]
theorem cut_at : ∀ (l : Rec) (rest : B8), cutRecs (l.map List.length) (l.flatten ++ rest) = some l
  | [], _ => rfl
  | r :: l, rest => by
    rw [List.map_cons, cutRecs, List.flatten_cons, List.append_assoc, if_neg (by rw [List.length_append]; omega), List.drop_left, cut_at l rest, List.take_left]
    rfl
theorem unpack_pack {crc : B8 → Nat} {s : Stamp} {l : Rec} (h : ¬ long l) (hs : s.sum = crc (pack l)) : unpack crc s (pack l) = some l := by
  have hl := pack_len l
  have hp := cost_pos l
  have h16 : l.length ≤ 16 := by unfold long at h; omega
  have hsz : size l ≤ 2048 := by unfold long at h; omega
  have e0 : ((pack l).getD 0 0).toNat = l.length := by
    have : (pack l).getD 0 0 = UInt8.ofNat l.length := rfl
    rw [this, of_nat]; omega
  obtain ⟨z, hz⟩ : ∃ z, z = List.replicate (40 * cost l - (body l).length) (0 : UInt8) := ⟨_, rfl⟩
  have e1 : (pack l).drop 1 = (l.flatMap fun r => be2 r.length) ++ (l.flatten ++ z) := by
    unfold pack
    rw [← hz]
    unfold body
    simp [List.append_assoc]
  have e2 : (pack l).drop (1 + 2 * l.length) = l.flatten ++ z := by
    rw [← List.drop_drop, e1, ← lens_size l, List.drop_left]
  have hd : ((pack l).drop 1).length = 40 * cost l - 1 := by rw [List.length_drop, hl]
  have hb := cost_le l
  rw [body_len] at hb
  unfold unpack
  rw [if_neg (by rw [hl]; intro hc; rcases hc with hc | hc; omega; exact hc hs), e0, if_neg (by rw [hd]; omega), e1, e2, lens_at l _ (fun r hr => by have := len_le_size hr; omega), cut_at]
end Go.Proofs.YtelipeoilcepbaaDoor.Wl
namespace Go.Proofs.YtelipeoilcepbaaDoor.Wl
set_option linter.unusedVariables false
set_option linter.unusedSimpArgs false
def beg (sg : Nat) : Nat := 2 + 64 * sg
def Hw (crc : B8 → Nat) (D : Disk) (q : Nat) : Prop := Tagged D q 1 (stampOf D q) ∧ (stampOf D q).cost = 0 ∧ (stampOf D q).sum = crc (textAt D q 1)
def ageAt (D : Disk) (q j : Nat) : Nat := (tst (tagAt D q j)).age
def ages (D : Disk) (q : Nat) : Nat := max (ageAt D q 0) (ageAt D q 1)
def grt (D : Disk) : Nat := max (ages D 0) (ages D 1)
theorem age_stamp (D : Disk) (q : Nat) : (stampOf D q).age = ageAt D q 0 := rfl
theorem age_le (D : Disk) (q : Nat) {j : Nat} (hj : j < 2) : ageAt D q j ≤ ages D q := by
  unfold ages
  match j, hj with
  | 0, _ | 1, _ => omega
theorem age_grt (D : Disk) {q : Nat} (hq : q < 2) {j : Nat} (hj : j < 2) : ageAt D q j ≤ grt D := by
  have := age_le D q hj
  unfold grt
  match q, hq with
  | 0, _ | 1, _ => omega
structure Hd (crc : B8 → Nat) (D : Disk) (slot a f : Nat) : Prop where
  lt : slot < 2
  hw : Hw crc D slot
  age : (stampOf D slot).age = a
  no : (stampOf D slot).no = f
  old : ¬ Hw crc D (1 - slot) ∨ (stampOf D (1 - slot)).age < a
structure Good (crc : B8 → Nat) (D : Disk) (S f : Nat) (L : List Rec) (gs : List Gp) : Prop where
  len : gs.length = L.length
  no : ∀ (k : Nat) (g : Gp), gs[k]? = some g → g.s.no = f + k
  unp : ∀ (k : Nat) (g : Gp) (l : Rec), gs[k]? = some g → L[k]? = some l → unpack crc g.s g.t = some l
  seg : ∀ g ∈ gs, ∃ sg, sg < S ∧ beg sg ≤ g.P ∧ g.P + g.s.cost ≤ beg sg + 64 ∧ 0 < g.s.cost
  liv : ∀ sg, sg < S → live D (beg sg) f = gs.filter fun g => decide (beg sg ≤ g.P ∧ g.P < beg sg + 64)
  stale : ∀ sg, sg < S → Stale D (beg sg) (f + L.length)
def Aged (D : Disk) (S a : Nat) : Prop := ∀ q, 2 ≤ q → q < beg S → ∀ j, j < 2 → ageAt D q j ≤ a
def DiskOk (crc : B8 → Nat) (D : Disk) (S f : Nat) (L : List Rec) : Prop := ∃ slot a gs, Hd crc D slot a f ∧ Good crc D S f L gs ∧ Aged D S (grt D)
section
variable {crc : B8 → Nat} {D D' : Disk} {S f : Nat} {L : List Rec} {gs : List Gp}
theorem Good.same (h : Good crc D S f L gs) (e : ∀ q, 2 ≤ q → q < beg S → D' q = D q) : Good crc D' S f L gs := by
  have e2 : ∀ sg, sg < S → ∀ q, beg sg ≤ q → q < beg sg + 64 → D' q = D q := fun sg hs q h1 h2 => e q (by unfold beg at h1; omega) (by unfold beg at *; omega)
  refine ⟨h.len, h.no, h.unp, h.seg, fun sg hs => by rw [live_seg (e2 sg hs)]; exact h.liv sg hs, fun sg hs Q s t hQ hg => h.stale sg hs Q s t hQ (grp_keep hg fun i hi => ?_)⟩
  have := (grp_some.1 hg).2.2.1
  exact (e2 sg hs _ (by omega) (by omega)).symm
theorem Good.drop (h : Good crc D S f L gs) {k : Nat} (hk : k ≤ L.length) : Good crc D S (f + k) (L.drop k) (gs.drop k) := by
  have hno : ∀ g ∈ gs.drop k, f + k ≤ g.s.no := fun g hg => by
    obtain ⟨i, hi⟩ := List.mem_iff_getElem?.1 hg
    rw [List.getElem?_drop] at hi
    rw [h.no _ _ hi]; omega
  have hno2 : ∀ g ∈ gs.take k, ¬ f + k ≤ g.s.no := fun g hg => by
    obtain ⟨i, hi⟩ := List.mem_iff_getElem?.1 hg
    rw [List.getElem?_take] at hi
    split at hi
    · rw [h.no _ _ hi]; omega
    · cases hi
  refine ⟨by rw [List.length_drop, List.length_drop, h.len], fun i g hi => ?_, fun i g l hi hl => ?_, fun g hg => h.seg g (List.mem_of_mem_drop hg), fun sg hs => ?_, fun sg hs => ?_⟩
  · rw [List.getElem?_drop] at hi
    rw [h.no _ _ hi]; omega
  · rw [List.getElem?_drop] at hi hl
    exact h.unp _ _ _ hi hl
  · have e1 : live D (beg sg) (f + k) = (live D (beg sg) f).filter fun g => decide (f + k ≤ g.s.no) := by
      unfold live
      rw [List.filter_filter]
      congr 1
      funext g
      rw [Bool.eq_iff_iff]
      simp
      omega
    rw [e1, h.liv sg hs, List.filter_filter]
    conv => lhs; rw [← List.take_append_drop k gs]
    rw [List.filter_append]
    have e2 : (gs.take k).filter (fun g => decide (f + k ≤ g.s.no) && decide (beg sg ≤ g.P ∧ g.P < beg sg + 64)) = [] := List.filter_eq_nil_iff.2 fun g hg => by
      have := hno2 g hg
      simp; omega
    rw [e2, List.nil_append]
    apply List.filter_congr
    intro g hg
    have := hno g hg
    simp [this]
  · have e : f + k + (L.drop k).length = f + L.length := by rw [List.length_drop]; omega
    rw [e]
    exact h.stale sg hs
theorem hw_same {q : Nat} (e : D' q = D q) (h : Hw crc D' q) : Hw crc D q := by
  obtain ⟨h1, h2, h3⟩ := h
  rw [stampOf_same e] at h1 h2 h3
  have ht : textAt D' q 1 = textAt D q 1 := textAt_same fun i hi => by
    obtain rfl : i = 0 := by omega
    exact e
  rw [ht] at h3
  refine ⟨fun i hi j hj => ?_, h2, h3⟩
  obtain rfl : i = 0 := by omega
  have := h1 0 (by omega) j hj
  rw [Nat.add_zero] at this ⊢
  rwa [tagAt_same e] at this
def z40 : B8 := List.replicate 40 0
def hst (crc : B8 → Nat) (a f : Nat) : Stamp := ⟨a, f, 0, crc z40⟩
theorem Hd.renew {slot a a' f' : Nat} (hcrc : ∀ t, crc t < 4294967296) (w : Whole D) (w' : Whole D') (h : Hd crc D slot a f) (ha : grt D < a') (ha4 : a' < 4294967296) (hf4 : f' < 4294967296) (hm : Mix D (lay D (1 - slot) 1 (hst crc a' f') z40) D') :
    (∀ q, 2 ≤ q → D' q = D q) ∧ grt D ≤ grt D' ∧ grt D' ≤ a' ∧ (Hd crc D' slot a f ∨ ((∀ q, D' q = lay D (1 - slot) 1 (hst crc a' f') z40 q) ∧ Hd crc D' (1 - slot) a' f' ∧ grt D' = a')) := by
  have hs := h.lt
  have hok : (hst crc a' f').ok := ⟨ha4, hf4, by show (0 : Nat) < 128; omega, hcrc _⟩
  have htl : z40.length = 40 * 1 := rfl
  have hoff : ∀ q, q ≠ 1 - slot → D' q = D q := fun q hq => mix_off hm w w' (lay_off (by omega))
  have hlay : ∀ j, j < 2 → tagAt (lay D (1 - slot) 1 (hst crc a' f') z40) (1 - slot) j = (hst crc a' f').tag j := fun j hj => by
    have := lay_tag (D := D) (P := 1 - slot) (c := 1) (i := 0) (j := j) (s := hst crc a' f') htl (by omega) hj
    rw [Nat.add_zero, Nat.mul_zero, Nat.zero_add] at this
    exact this
  have hage : ∀ j, j < 2 → ageAt (lay D (1 - slot) 1 (hst crc a' f') z40) (1 - slot) j = a' := fun j hj => by unfold ageAt; rw [hlay j hj, tst_tag hok]; rfl
  have hslot : D' slot = D slot := hoff slot (by omega)
  have hH : ∀ j, j < 2 → ageAt D' (1 - slot) j = ageAt D (1 - slot) j ∨ ageAt D' (1 - slot) j = a' := fun j hj => by
    rcases hm (1 - slot) j hj with e | e
    · exact .inl (by unfold ageAt; rw [tag_of_half e])
    · exact .inr (by rw [← hage j hj]; unfold ageAt; rw [tag_of_half e])
  have hS : ∀ j, ageAt D' slot j = ageAt D slot j := fun j => by unfold ageAt; rw [tagAt_same hslot]
  have hO : ∀ j, j < 2 → ageAt D (1 - slot) j ≤ grt D := fun j hj => age_grt D (by omega) hj
  have hO0 := hO 0 (by omega)
  have hO1 := hO 1 (by omega)
  have e1 : ∀ X : Disk, grt X = max (max (ageAt X slot 0) (ageAt X slot 1)) (max (ageAt X (1 - slot) 0) (ageAt X (1 - slot) 1)) := fun X => by
    unfold grt ages
    match slot, hs with
    | 0, _ => rfl
    | 1, _ => exact Nat.max_comm _ _
  have hg := e1 D
  have hg' := e1 D'
  rw [hS 0, hS 1] at hg'
  have hh0 := hH 0 (by omega)
  have hh1 := hH 1 (by omega)
  have hmono : grt D ≤ grt D' := by rcases hh0 with e | e <;> rcases hh1 with e' | e' <;> omega
  have hle : grt D' ≤ a' := by rcases hh0 with e | e <;> rcases hh1 with e' | e' <;> omega
  refine ⟨fun q hq => hoff q (by omega), hmono, hle, ?_⟩
  have keep : Hw crc D' slot := hw_same hslot.symm h.hw
  have he : (stampOf D' slot).age = a ∧ (stampOf D' slot).no = f := by rw [stampOf_same hslot]; exact ⟨h.age, h.no⟩
  by_cases hall : ∀ j, j < 2 → halfAt D' (1 - slot) j = halfAt (lay D (1 - slot) 1 (hst crc a' f') z40) (1 - slot) j
  · refine .inr ?_
    have hN : ∀ q, D' q = lay D (1 - slot) 1 (hst crc a' f') z40 q := fun q => by
      by_cases hq : q = 1 - slot
      · subst hq
        exact mix_all (lay_whole w htl) w' hall
      · rw [hoff q hq, lay_off (by omega)]
    have hst' : stampOf D' (1 - slot) = hst crc a' f' := by rw [stampOf_same (hN _)]; exact lay_stamp hok htl (by omega)
    have htx : textAt D' (1 - slot) 1 = z40 := by rw [textAt_same (fun i _ => hN (1 - slot + i))]; exact lay_text htl
    refine ⟨hN, ⟨by omega, ⟨fun i hi j hj => ?_, by rw [hst']; rfl, by rw [hst', htx]; rfl⟩, by rw [hst']; rfl, by rw [hst']; rfl, .inr ?_⟩, ?_⟩
    · rw [hst', show 1 - slot + i = 1 - slot from by omega, tagAt_same (hN _), hlay j hj, show 2 * i + j = j from by omega]
    · rw [show 1 - (1 - slot) = slot from by omega, stampOf_same hslot, age_stamp]
      have := age_grt D hs (j := 0) (by omega)
      omega
    · have h0 : ageAt D' (1 - slot) 0 = a' := by unfold ageAt; rw [tagAt_same (hN _)]; exact hage 0 (by omega)
      omega
  · refine .inl ⟨hs, keep, he.1, he.2, ?_⟩
    by_cases hold : ∀ j, j < 2 → halfAt D' (1 - slot) j = halfAt D (1 - slot) j
    · have hDD : D' (1 - slot) = D (1 - slot) := halves_eq w' w (hold 0 (by omega)) (hold 1 (by omega))
      rcases h.old with ho | ho
      · exact .inl fun hx => ho (hw_same hDD hx)
      · rw [stampOf_same hDD]; exact .inr ho
    · refine .inl fun hx => ?_
      -- one half is new, the other one old: their ages are unlike
      have t0 := hx.1 0 (by omega) 0 (by omega)
      have t1 := hx.1 0 (by omega) 1 (by omega)
      rw [Nat.add_zero] at t0 t1
      have hb := stamp_lt D' (1 - slot)
      have hokx : (stampOf D' (1 - slot)).ok := ⟨hb.1, hb.2.1, by rw [hx.2.1]; omega, hb.2.2.2⟩
      have a0 : ageAt D' (1 - slot) 0 = (stampOf D' (1 - slot)).age := by unfold ageAt; rw [t0, tst_tag hokx]
      have a1 : ageAt D' (1 - slot) 1 = (stampOf D' (1 - slot)).age := by unfold ageAt; rw [t1, tst_tag hokx]
      have p0 := hm (1 - slot) 0 (by omega)
      have p1 := hm (1 - slot) 1 (by omega)
      have q0 : halfAt D' (1 - slot) 0 = halfAt D (1 - slot) 0 → ageAt D' (1 - slot) 0 ≤ grt D := fun e => by unfold ageAt; rw [tag_of_half e]; exact hO0
      have q1 : halfAt D' (1 - slot) 1 = halfAt D (1 - slot) 1 → ageAt D' (1 - slot) 1 ≤ grt D := fun e => by unfold ageAt; rw [tag_of_half e]; exact hO1
      have r0 : halfAt D' (1 - slot) 0 = halfAt (lay D (1 - slot) 1 (hst crc a' f') z40) (1 - slot) 0 → ageAt D' (1 - slot) 0 = a' := fun e => by rw [← hage 0 (by omega)]; unfold ageAt; rw [tag_of_half e]
      have r1 : halfAt D' (1 - slot) 1 = halfAt (lay D (1 - slot) 1 (hst crc a' f') z40) (1 - slot) 1 → ageAt D' (1 - slot) 1 = a' := fun e => by rw [← hage 1 (by omega)]; unfold ageAt; rw [tag_of_half e]
      rcases p0 with p0 | p0 <;> rcases p1 with p1 | p1
      · exact hold fun j hj => by
          match j, hj with
          | 0, _ => exact p0
          | 1, _ => exact p1
      · have := q0 p0; have := r1 p1; omega
      · have := r0 p0; have := q1 p1; omega
      · exact hall fun j hj => by
          match j, hj with
          | 0, _ => exact p0
          | 1, _ => exact p1
end
end Go.Proofs.YtelipeoilcepbaaDoor.Wl
