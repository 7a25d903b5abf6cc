/-
  Frames on a line, in plain data: how a line is split, and its mathematics. No conditions; it imports nothing of the program.
-/
import Derived.Test.YtagoijgmoaffdaaAppend
namespace Go.Proofs.Ytagoijgmoaffdaa.Lkk
set_option linter.unusedVariables false
def hdr (l : List UInt8) : Nat := 256 * (l.getD 0 0).toNat + (l.getD 1 0).toNat
/-- frames, what is left, whether all lengths were right -/
structure Sp where
  fs : List (List UInt8)
  rest : List UInt8
  ok : Bool
def Sp.pre (r : Sp) (fs : List (List UInt8)) : Sp := ⟨fs ++ r.fs, r.rest, r.ok⟩
def spl : Nat → List UInt8 → Sp
  | 0, l => ⟨[], l, true⟩
  | k + 1, l => if l.length < 2 then ⟨[], l, true⟩ else if hdr l < 1 ∨ 512 < hdr l then ⟨[], [], false⟩ else if l.length < 2 + hdr l then ⟨[], l, true⟩ else (spl k (l.drop (2 + hdr l))).pre [(l.drop 2).take (hdr l)]
def feed (l : List UInt8) : Sp := spl l.length l
theorem pre_nil (r : Sp) : r.pre [] = r := rfl
theorem pre_pre (r : Sp) (a b : List (List UInt8)) : (r.pre b).pre a = r.pre (a ++ b) := by simp [Sp.pre]
theorem spl_more : ∀ (k : Nat) (l : List UInt8), l.length ≤ k → spl k l = feed l := by
  suffices h : ∀ (n k m : Nat) (l : List UInt8), l.length ≤ n → n ≤ k → n ≤ m → spl k l = spl m l from fun k l hk => h l.length k l.length l (Nat.le_refl _) hk (Nat.le_refl _)
  intro n
  induction n with
  | zero =>
    intro k m l hl _ _
    have : l = [] := List.eq_nil_of_length_eq_zero (by omega)
    subst this
    cases k <;> cases m <;> simp [spl]
  | succ n ih =>
    intro k m l hl hk hm
    obtain ⟨k, rfl⟩ : ∃ j, k = j + 1 := ⟨k - 1, by omega⟩
    obtain ⟨m, rfl⟩ : ∃ j, m = j + 1 := ⟨m - 1, by omega⟩
    unfold spl
    by_cases h1 : l.length < 2
    · rw [if_pos h1, if_pos h1]
    · rw [if_neg h1, if_neg h1]
      by_cases h2 : hdr l < 1 ∨ 512 < hdr l
      · rw [if_pos h2, if_pos h2]
      · rw [if_neg h2, if_neg h2]
        by_cases h3 : l.length < 2 + hdr l
        · rw [if_pos h3, if_pos h3]
        · rw [if_neg h3, if_neg h3, ih k m _ (by rw [List.length_drop]; omega) (by omega) (by omega)]
theorem feed_few {l : List UInt8} (h : l.length < 2) : feed l = ⟨[], l, true⟩ := by
  rw [← spl_more (l.length + 1) l (by omega)]
  unfold spl
  rw [if_pos h]
theorem feed_bad {l : List UInt8} (h : 2 ≤ l.length) (h2 : hdr l < 1 ∨ 512 < hdr l) : feed l = ⟨[], [], false⟩ := by
  rw [← spl_more (l.length + 1) l (by omega)]
  unfold spl
  rw [if_neg (by omega), if_pos h2]
theorem feed_part {l : List UInt8} (h : 2 ≤ l.length) (h1 : 1 ≤ hdr l) (h2 : hdr l ≤ 512) (h3 : l.length < 2 + hdr l) : feed l = ⟨[], l, true⟩ := by
  rw [← spl_more (l.length + 1) l (by omega)]
  unfold spl
  rw [if_neg (by omega), if_neg (by omega), if_pos h3]
theorem feed_step {l : List UInt8} (h : 2 ≤ l.length) (h1 : 1 ≤ hdr l) (h2 : hdr l ≤ 512) (h3 : 2 + hdr l ≤ l.length) : feed l = (feed (l.drop (2 + hdr l))).pre [(l.drop 2).take (hdr l)] := by
  rw [← spl_more (l.length + 1) l (by omega)]
  conv => lhs; unfold spl
  rw [if_neg (by omega), if_neg (by omega), if_neg (by omega), spl_more _ _ (by rw [List.length_drop]; omega)]
/-- by the four cases -/
theorem feed_ind {P : List UInt8 → Prop} (few : ∀ l : List UInt8, l.length < 2 → P l) (bad : ∀ l : List UInt8, 2 ≤ l.length → (hdr l < 1 ∨ 512 < hdr l) → P l)
    (part : ∀ l : List UInt8, 2 ≤ l.length → 1 ≤ hdr l → hdr l ≤ 512 → l.length < 2 + hdr l → P l) (step : ∀ l : List UInt8, 2 ≤ l.length → 1 ≤ hdr l → hdr l ≤ 512 → 2 + hdr l ≤ l.length → P (l.drop (2 + hdr l)) → P l) : ∀ l, P l := by
  suffices h : ∀ n (l : List UInt8), l.length ≤ n → P l from fun l => h l.length l (Nat.le_refl _)
  intro n
  induction n with
  | zero => exact fun l hl => few l (by omega)
  | succ n ih =>
    intro l hl
    by_cases h1 : l.length < 2
    · exact few l h1
    · by_cases h2 : hdr l < 1 ∨ 512 < hdr l
      · exact bad l (by omega) h2
      · by_cases h3 : l.length < 2 + hdr l
        · exact part l (by omega) (by omega) (by omega) h3
        · exact step l (by omega) (by omega) (by omega) (by omega) (ih _ (by rw [List.length_drop]; omega))
theorem hdr_append {a b : List UInt8} (h : 2 ≤ a.length) : hdr (a ++ b) = hdr a := by
  unfold hdr
  rw [List.getD_eq_getElem?_getD, List.getD_eq_getElem?_getD, List.getElem?_append_left (by omega), List.getElem?_append_left (by omega), ← List.getD_eq_getElem?_getD, ← List.getD_eq_getElem?_getD]
/-- what is held waits -/
def Waits (h : List UInt8) : Prop := feed h = ⟨[], h, true⟩
theorem rest_waits : ∀ l, (feed l).ok = true → Waits (feed l).rest := by
  refine feed_ind ?_ ?_ ?_ ?_
  · intro l h _
    rw [feed_few h]
    exact feed_few h
  · intro l h h2 h3
    rw [feed_bad h h2] at h3
    cases h3
  · intro l h h1 h2 h3 _
    rw [feed_part h h1 h2 h3]
    exact feed_part h h1 h2 h3
  · intro l h h1 h2 h3 ih h4
    rw [feed_step h h1 h2 h3] at h4 ⊢
    exact ih h4
theorem rest_bad : ∀ l, (feed l).ok = false → (feed l).rest = [] := by
  refine feed_ind ?_ ?_ ?_ ?_
  · intro l h h2
    rw [feed_few h] at h2
    cases h2
  · intro l h h2 h3
    rw [feed_bad h h2]
  · intro l h h1 h2 h3 h4
    rw [feed_part h h1 h2 h3] at h4
    cases h4
  · intro l h h1 h2 h3 ih h4
    rw [feed_step h h1 h2 h3] at h4 ⊢
    exact ih h4
theorem waits_nil : Waits [] := feed_few (by simp)
theorem waits_len {h : List UInt8} (hw : Waits h) : h.length < 514 := by
  by_cases h1 : h.length < 2
  · omega
  · by_cases h2 : hdr h < 1 ∨ 512 < hdr h
    · have := feed_bad (by omega) h2
      rw [hw] at this
      injection this with _ _ h3
      cases h3
    · by_cases h3 : h.length < 2 + hdr h
      · omega
      · have := feed_step (by omega) (by omega) (by omega) (by omega : 2 + hdr h ≤ h.length)
        rw [hw] at this
        injection this with h4 _ _
        cases h4
theorem rest_len (l : List UInt8) : (feed l).rest.length < 514 := by
  cases h : (feed l).ok with
  | true => exact waits_len (rest_waits l h)
  | false => rw [rest_bad l h]; simp
theorem rest_le : ∀ l, (feed l).rest.length ≤ l.length := by
  refine feed_ind ?_ ?_ ?_ ?_
  · intro l h; rw [feed_few h]; exact Nat.le_refl _
  · intro l h h2; rw [feed_bad h h2]; simp
  · intro l h h1 h2 h3; rw [feed_part h h1 h2 h3]; exact Nat.le_refl _
  · intro l h h1 h2 h3 ih
    rw [feed_step h h1 h2 h3]
    have : (feed (l.drop (2 + hdr l))).rest.length ≤ (l.drop (2 + hdr l)).length := ih
    rw [List.length_drop] at this
    show (feed (l.drop (2 + hdr l))).rest.length ≤ _
    omega
theorem feed_none {l : List UInt8} (h : (feed l).ok = true) (h0 : (feed l).fs = []) : (feed l).rest = l := by
  by_cases h1 : l.length < 2
  · rw [feed_few h1]
  · by_cases h2 : hdr l < 1 ∨ 512 < hdr l
    · rw [feed_bad (by omega) h2] at h
      cases h
    · by_cases h3 : l.length < 2 + hdr l
      · rw [feed_part (by omega) (by omega) (by omega) h3]
      · rw [feed_step (by omega) (by omega) (by omega) (by omega)] at h0
        cases h0
theorem feed_join (b : List UInt8) : ∀ a, (feed a).ok = true → feed (a ++ b) = (feed ((feed a).rest ++ b)).pre (feed a).fs := by
  refine feed_ind ?_ ?_ ?_ ?_
  · intro a h _
    rw [feed_few h]
    rfl
  · intro a h h2 h3
    rw [feed_bad h h2] at h3
    cases h3
  · intro a h h1 h2 h3 _
    rw [feed_part h h1 h2 h3]
    rfl
  · intro a h h1 h2 h3 ih h4
    rw [feed_step h h1 h2 h3] at h4 ⊢
    have e := hdr_append (b := b) h
    rw [feed_step (l := a ++ b) (by simp; omega) (by omega) (by omega) (by simp; omega), e, List.drop_append_of_le_length h3, ih h4, pre_pre,
      List.drop_append_of_le_length h, List.take_append_of_le_length (by rw [List.length_drop]; omega)]
    rfl
theorem feed_err (b : List UInt8) : ∀ a, (feed a).ok = false → feed (a ++ b) = ⟨(feed a).fs, [], false⟩ := by
  refine feed_ind ?_ ?_ ?_ ?_
  · intro a h h2
    rw [feed_few h] at h2
    cases h2
  · intro a h h2 _
    have e := hdr_append (b := b) h
    rw [feed_bad h h2, feed_bad (by simp; omega) (by omega)]
  · intro a h h1 h2 h3 h4
    rw [feed_part h h1 h2 h3] at h4
    cases h4
  · intro a h h1 h2 h3 ih h4
    rw [feed_step h h1 h2 h3] at h4 ⊢
    have e := hdr_append (b := b) h
    rw [feed_step (l := a ++ b) (by simp; omega) (by omega) (by omega) (by simp; omega), e, List.drop_append_of_le_length h3, ih h4,
      List.drop_append_of_le_length h, List.take_append_of_le_length (by rw [List.length_drop]; omega)]
    rfl
/-- a packed frame -/
def pk (b : List UInt8) : List UInt8 := [UInt8.ofNat (b.length / 256), UInt8.ofNat b.length] ++ b
theorem pk_len (b : List UInt8) : (pk b).length = b.length + 2 := by simp [pk]
theorem pk_hdr (b r : List UInt8) (h : b.length ≤ 512) : hdr (pk b ++ r) = b.length := by
  unfold hdr pk
  simp only [List.cons_append, List.getD_cons_zero, List.getD_cons_succ, UInt8.toNat_ofNat']
  omega
theorem feed_pk (b r : List UInt8) (h1 : 1 ≤ b.length) (h2 : b.length ≤ 512) : feed (pk b ++ r) = (feed r).pre [b] := by
  have e := pk_hdr b r h2
  have hl : (pk b ++ r).length = b.length + 2 + r.length := by rw [List.length_append, pk_len]
  rw [feed_step (by omega) (by omega) (by omega) (by omega), e]
  have e1 : (pk b ++ r).drop 2 = b ++ r := rfl
  rw [← List.drop_drop, e1, List.drop_left, List.take_left]
def pks (fs : List (List UInt8)) : List UInt8 := (fs.map pk).flatten
def Right (fs : List (List UInt8)) : Prop := ∀ f ∈ fs, 1 ≤ f.length ∧ f.length ≤ 512
theorem pks_append (a b : List (List UInt8)) : pks (a ++ b) = pks a ++ pks b := by simp [pks]
theorem feed_pks : ∀ (fs : List (List UInt8)) (r : List UInt8), Right fs → feed (pks fs ++ r) = (feed r).pre fs
  | [], r, _ => rfl
  | f :: fs, r, h => by
    have h1 := h f (by simp)
    show feed (pk f ++ pks fs ++ r) = _
    rw [List.append_assoc, feed_pk f _ h1.1 h1.2, feed_pks fs r (fun x hx => h x (by simp [hx])), pre_pre]
    rfl
theorem getD_pair {l : List UInt8} (h : 2 ≤ l.length) : l = l.getD 0 0 :: l.getD 1 0 :: l.drop 2 := by
  match l, h with
  | a :: b :: r, _ => rfl
theorem pk_of {l : List UInt8} (h : 2 ≤ l.length) (h2 : hdr l ≤ 512) (h3 : 2 + hdr l ≤ l.length) : pk ((l.drop 2).take (hdr l)) = l.take (2 + hdr l) := by
  have hl : ((l.drop 2).take (hdr l)).length = hdr l := by rw [List.length_take, List.length_drop]; omega
  unfold pk
  rw [hl]
  have e : l = l.getD 0 0 :: l.getD 1 0 :: l.drop 2 := getD_pair h
  have e0 : UInt8.ofNat (hdr l / 256) = l.getD 0 0 := by
    apply UInt8.toNat_inj.1
    have := (l.getD 0 0).toNat_lt
    have := (l.getD 1 0).toNat_lt
    rw [UInt8.toNat_ofNat']
    unfold hdr
    omega
  have e1 : UInt8.ofNat (hdr l) = l.getD 1 0 := by
    apply UInt8.toNat_inj.1
    have := (l.getD 1 0).toNat_lt
    rw [UInt8.toNat_ofNat']
    unfold hdr
    omega
  rw [e0, e1]
  generalize hdr l = n at *
  conv => rhs; rw [e]
  rw [show 2 + n = n + 1 + 1 from by omega, List.take_succ_cons, List.take_succ_cons]
  rfl
theorem feed_right : ∀ l, Right (feed l).fs := by
  refine feed_ind ?_ ?_ ?_ ?_
  · intro l h; rw [feed_few h]; exact fun f hf => by cases hf
  · intro l h h2; rw [feed_bad h h2]; exact fun f hf => by cases hf
  · intro l h h1 h2 h3; rw [feed_part h h1 h2 h3]; exact fun f hf => by cases hf
  · intro l h h1 h2 h3 ih
    rw [feed_step h h1 h2 h3]
    intro f hf
    rcases List.mem_append.1 (show f ∈ [(l.drop 2).take (hdr l)] ++ (feed (l.drop (2 + hdr l))).fs from hf) with hf | hf
    · have : f = (l.drop 2).take (hdr l) := by simpa using hf
      subst this
      rw [List.length_take, List.length_drop]
      omega
    · exact ih f hf
theorem feed_all : ∀ l, (feed l).ok = true → l = pks (feed l).fs ++ (feed l).rest := by
  refine feed_ind ?_ ?_ ?_ ?_
  · intro l h _; rw [feed_few h]; rfl
  · intro l h h2 h3; rw [feed_bad h h2] at h3; cases h3
  · intro l h h1 h2 h3 _; rw [feed_part h h1 h2 h3]; rfl
  · intro l h h1 h2 h3 ih h4
    rw [feed_step h h1 h2 h3] at h4 ⊢
    have := ih h4
    show l = pk ((l.drop 2).take (hdr l)) ++ pks (feed (l.drop (2 + hdr l))).fs ++ (feed (l.drop (2 + hdr l))).rest
    rw [List.append_assoc, ← this, pk_of h h2 h3, List.take_append_drop]
theorem fs_count : ∀ l, (feed l).fs.length * 3 ≤ l.length := by
  refine feed_ind ?_ ?_ ?_ ?_
  · intro l h; rw [feed_few h]; exact Nat.zero_le _
  · intro l h h2; rw [feed_bad h h2]; exact Nat.zero_le _
  · intro l h h1 h2 h3; rw [feed_part h h1 h2 h3]; exact Nat.zero_le _
  · intro l h h1 h2 h3 ih
    rw [feed_step h h1 h2 h3]
    show ([(l.drop 2).take (hdr l)] ++ (feed (l.drop (2 + hdr l))).fs).length * 3 ≤ _
    rw [List.length_append, List.length_drop] at *
    simp only [List.length_cons, List.length_nil]
    omega
/-- how many noughts there are till a length is wrong -/
def left (h : List UInt8) : Nat := match h with
  | [] => 2
  | [x] => if 1 ≤ 256 * x.toNat ∧ 256 * x.toNat ≤ 512 then 256 * x.toNat + 3 else 1
  | a :: b :: r => hdr (a :: b :: r) + 2 - r.length
theorem left_le {h : List UInt8} (hw : Waits h) : left h ≤ 515 := by
  unfold left
  split
  · omega
  · split <;> omega
  · rename_i a b r
    by_cases h2 : hdr (a :: b :: r) < 1 ∨ 512 < hdr (a :: b :: r)
    · have := feed_bad (l := a :: b :: r) (by simp) h2
      rw [hw] at this
      injection this with _ _ h3
      cases h3
    · omega
theorem left_pos {h : List UInt8} (hw : Waits h) : 0 < left h := by
  unfold left
  split
  · omega
  · split <;> omega
  · rename_i a b r
    have := waits_len hw
    by_cases h2 : hdr (a :: b :: r) < 1 ∨ 512 < hdr (a :: b :: r)
    · have := feed_bad (l := a :: b :: r) (by simp) h2
      rw [hw] at this
      injection this with _ _ h3
      cases h3
    · by_cases h3 : (a :: b :: r).length < 2 + hdr (a :: b :: r)
      · simp at h3
        omega
      · have := feed_step (l := a :: b :: r) (by simp) (by omega) (by omega) (by omega)
        rw [hw] at this
        injection this with h4 _ _
        cases h4
theorem left_step {h : List UInt8} (hw : Waits h) : (feed (h ++ [0])).ok = false ∨ ((feed (h ++ [0])).ok = true ∧ left (feed (h ++ [0])).rest < left h) := by
  match h, hw with
  | [], _ => 
    right
    rw [feed_few (by simp)]
    exact ⟨rfl, by decide⟩
  | [x], _ =>
    by_cases hx : 1 ≤ 256 * x.toNat ∧ 256 * x.toNat ≤ 512
    · right
      have e : hdr ([x] ++ [0]) = 256 * x.toNat := by simp [hdr]
      rw [feed_part (by simp) (by rw [e]; omega) (by rw [e]; omega) (by rw [e]; simp; omega)]
      refine ⟨rfl, ?_⟩
      show hdr [x, 0] + 2 - 0 < (if 1 ≤ 256 * x.toNat ∧ 256 * x.toNat ≤ 512 then 256 * x.toNat + 3 else 1)
      rw [if_pos hx]
      have : hdr [x, 0] = 256 * x.toNat := e
      omega
    · left
      have e : hdr ([x] ++ [0]) = 256 * x.toNat := by simp [hdr]
      rw [feed_bad (by simp) (by rw [e]; omega)]
  | a :: b :: r, hw =>
    right
    have hl : 2 ≤ (a :: b :: r).length := by simp
    have e : hdr (a :: b :: r ++ [0]) = hdr (a :: b :: r) := hdr_append hl
    have h2 : ¬ (hdr (a :: b :: r) < 1 ∨ 512 < hdr (a :: b :: r)) := fun h2 => by
      have := feed_bad hl h2
      rw [hw] at this
      injection this with _ _ h3
      cases h3
    have h3 : (a :: b :: r).length < 2 + hdr (a :: b :: r) := by
      by_cases h3 : (a :: b :: r).length < 2 + hdr (a :: b :: r)
      · exact h3
      · have := feed_step hl (by omega) (by omega) (by omega)
        rw [hw] at this
        injection this with h4 _ _
        cases h4
    have e4 : left (a :: b :: r) = hdr (a :: b :: r) + 2 - r.length := rfl
    simp only [List.length_cons] at h3
    by_cases h4 : r.length + 3 < 2 + hdr (a :: b :: r)
    · rw [feed_part (by simp) (by rw [e]; omega) (by rw [e]; omega) (by rw [e]; simp; omega)]
      refine ⟨rfl, ?_⟩
      show hdr (a :: b :: (r ++ [0])) + 2 - (r ++ [0]).length < _
      rw [e4, List.length_append, show hdr (a :: b :: (r ++ [0])) = hdr (a :: b :: r) from e]
      simp
      omega
    · rw [feed_step (by simp) (by rw [e]; omega) (by rw [e]; omega) (by rw [e]; simp; omega), e, List.drop_of_length_le (by simp; omega)]
      refine ⟨rfl, ?_⟩
      show left (feed []).rest < _
      rw [waits_nil, e4]
      show 2 < _
      omega
end Go.Proofs.Ytagoijgmoaffdaa.Lkk
