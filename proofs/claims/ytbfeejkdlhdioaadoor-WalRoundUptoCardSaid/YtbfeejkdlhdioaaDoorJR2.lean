/-
  Texts in one file: WlB WlC WlD WlE. Conditions: the tables and the errors read as the program's text lays them.
-/
import Derived.Test.YtbfeejkdlhdioaaDoorJR1
namespace Go.Proofs.YtbfeejkdlhdioaaDoor.Wl
set_option linter.unusedVariables false
/-- a group that was found -/
structure Gp where
  s : Stamp
  P : Nat
  t : B8
def nxOk (nx : Option Nat) (n : Nat) : Bool := match nx with | none => true | some m => decide (n = m)
/-- the groups of a segment, from a place on, that follow one another -/
noncomputable def chain (D : Disk) (E : Nat) : Nat → Nat → Option Nat → List Gp
  | 0, _, _ => []
  | k + 1, P, nx => match grp D E P with
    | none => []
    | some (s, t) => if nxOk nx s.no = true then ⟨s, P, t⟩ :: chain D E k (P + s.cost) (some (s.no + 1)) else []
theorem chain_none {D : Disk} {E k P : Nat} {nx : Option Nat} (h : grp D E P = none) : chain D E (k + 1) P nx = [] := by
  rw [chain, h]
theorem chain_some {D : Disk} {E k P : Nat} {nx : Option Nat} {s : Stamp} {t : B8} (h : grp D E P = some (s, t)) (hn : nxOk nx s.no = true) : chain D E (k + 1) P nx = ⟨s, P, t⟩ :: chain D E k (P + s.cost) (some (s.no + 1)) := by
  rw [chain, h]; exact if_pos hn
theorem chain_stop {D : Disk} {E k P : Nat} {nx : Option Nat} {s : Stamp} {t : B8} (h : grp D E P = some (s, t)) (hn : nxOk nx s.no = false) : chain D E (k + 1) P nx = [] := by
  rw [chain, h]; exact if_neg (by rw [hn]; decide)
/-- where a chain ends, and which number it asks for then -/
def endP (P : Nat) : List Gp → Nat
  | [] => P
  | g :: l => endP (P + g.s.cost) l
def endN (nx : Option Nat) : List Gp → Option Nat
  | [] => nx
  | g :: l => endN (some (g.s.no + 1)) l
theorem endP_app (P : Nat) (l m : List Gp) : endP P (l ++ m) = endP (endP P l) m := by
  induction l generalizing P with
  | nil => rfl
  | cons g l ih => exact ih _
theorem endN_app (nx : Option Nat) (l m : List Gp) : endN nx (l ++ m) = endN (endN nx l) m := by
  induction l generalizing nx with
  | nil => rfl
  | cons g l ih => exact ih _
theorem endP_ge (P : Nat) (l : List Gp) : P ≤ endP P l := by
  induction l generalizing P with
  | nil => exact Nat.le_refl _
  | cons g l ih => exact Nat.le_trans (Nat.le_add_right _ _) (ih _)
/-- what lies ahead of a chain's end is as it was: the chain goes the same way, and then on -/
theorem chain_pre {D D' : Disk} {E : Nat} : ∀ {k P : Nat} {nx : Option Nat}, (∀ q, P ≤ q → q < endP P (chain D E k P nx) → D' q = D q) →
    chain D' E k P nx = chain D E k P nx ++ chain D' E (k - (chain D E k P nx).length) (endP P (chain D E k P nx)) (endN nx (chain D E k P nx))
  | 0, P, nx, _ => rfl
  | k + 1, P, nx, h => by
    cases hg : grp D E P with
    | none => rw [chain_none hg]; rfl
    | some x =>
      obtain ⟨s, t⟩ := x
      cases hn : nxOk nx s.no with
      | false => rw [chain_stop hg hn]; rfl
      | true =>
        rw [chain_some hg hn] at h ⊢
        have hge := endP_ge (P + s.cost) (chain D E k (P + s.cost) (some (s.no + 1)))
        have hg' : grp D' E P = some (s, t) := grp_keep hg fun i hi => h _ (by omega) (by show P + i < endP (P + s.cost) _; omega)
        rw [chain_some hg' hn, List.cons_append]
        have ih := chain_pre (D := D) (D' := D') (E := E) (k := k) (P := P + s.cost) (nx := some (s.no + 1)) fun q h1 h2 => h q (by omega) h2
        rw [ih]
        simp only [List.length_cons, Nat.add_sub_add_right]
        rfl
/-- a chain all of whose sectors are as they were -/
theorem chain_same {D D' : Disk} {E : Nat} (hE : ∀ q, q < E → D' q = D q) {L : Nat} (hL : ∀ q, L ≤ q → q < E → D' q = D q) : ∀ {k P : Nat} {nx : Option Nat}, chain D' E k P nx = chain D E k P nx
  | 0, P, nx => rfl
  | k + 1, P, nx => by
    cases hg : grp D E P with
    | none =>
      rw [chain_none hg]
      cases hg' : grp D' E P with
      | none => rw [chain_none hg']
      | some x =>
        obtain ⟨s, t⟩ := x
        have h3 := (grp_some.1 hg').2.2.1
        rw [grp_keep hg' fun i hi => (hE _ (by omega)).symm] at hg
        cases hg
    | some x =>
      obtain ⟨s, t⟩ := x
      have h3 := (grp_some.1 hg).2.2.1
      have hg' : grp D' E P = some (s, t) := grp_keep hg fun i hi => hE _ (by omega)
      cases hn : nxOk nx s.no with
      | false => rw [chain_stop hg hn, chain_stop hg' hn]
      | true => rw [chain_some hg hn, chain_some hg' hn, chain_same hE hL]
/-- a chain in a part of the disk that is as it was -/
theorem chain_seg {D D' : Disk} {B E : Nat} (h : ∀ q, B ≤ q → q < E → D' q = D q) : ∀ {k P : Nat} {nx : Option Nat}, B ≤ P → chain D' E k P nx = chain D E k P nx
  | 0, P, nx, _ => rfl
  | k + 1, P, nx, hP => by
    cases hg : grp D E P with
    | none =>
      rw [chain_none hg]
      cases hg' : grp D' E P with
      | none => rw [chain_none hg']
      | some x =>
        obtain ⟨s, t⟩ := x
        have h3 := (grp_some.1 hg').2.2.1
        rw [grp_keep hg' fun i hi => (h _ (by omega) (by omega)).symm] at hg
        cases hg
    | some x =>
      obtain ⟨s, t⟩ := x
      have h3 := (grp_some.1 hg).2.2.1
      have hg' : grp D' E P = some (s, t) := grp_keep hg fun i hi => h _ (by omega) (by omega)
      cases hn : nxOk nx s.no with
      | false => rw [chain_stop hg hn, chain_stop hg' hn]
      | true => rw [chain_some hg hn, chain_some hg' hn, chain_seg h (by omega)]
/-- groups that all were there: the chain is a beginning of what it was -/
theorem chain_less {D D' : Disk} {E L : Nat} (h : ∀ Q s t, L ≤ Q → grp D' E Q = some (s, t) → grp D E Q = some (s, t)) : ∀ {k P : Nat} {nx : Option Nat}, L ≤ P → ∃ r, chain D E k P nx = chain D' E k P nx ++ r
  | 0, P, nx, _ => ⟨[], rfl⟩
  | k + 1, P, nx, hP => by
    cases hg : grp D' E P with
    | none => rw [chain_none hg]; exact ⟨_, rfl⟩
    | some x =>
      obtain ⟨s, t⟩ := x
      have hg' := h P s t hP hg
      cases hn : nxOk nx s.no with
      | false => rw [chain_stop hg hn]; exact ⟨_, rfl⟩
      | true =>
        rw [chain_some hg hn, chain_some hg' hn]
        obtain ⟨r, hr⟩ := chain_less h (k := k) (P := P + s.cost) (nx := some (s.no + 1)) (by omega)
        exact ⟨r, by rw [hr]; rfl⟩
/-- what is looked for: those from a number on -/
noncomputable def live (D : Disk) (B first : Nat) : List Gp := (chain D (B + 64) 65 B none).filter fun g => decide (first ≤ g.s.no)
theorem live_seg {D D' : Disk} {B first : Nat} (h : ∀ q, B ≤ q → q < B + 64 → D' q = D q) : live D' B first = live D B first := by
  unfold live
  rw [chain_seg h (Nat.le_refl _)]
/-- all groups of a segment are below a number -/
def Stale (D : Disk) (B n : Nat) : Prop := ∀ Q s t, B ≤ Q → grp D (B + 64) Q = some (s, t) → s.no < n
/-- a place at which the next group may be laid down: the segment's beginning, if nothing in it is looked for; or the end of its chain, that asks for just this number -/
def Cur (D : Disk) (B P n first : Nat) : Prop :=
  (P = B ∧ live D B first = []) ∨ (chain D (B + 64) 65 B none ≠ [] ∧ endP B (chain D (B + 64) 65 B none) = P ∧ endN none (chain D (B + 64) 65 B none) = some n)
theorem chain_len {D : Disk} {E : Nat} : ∀ {k P : Nat} {nx : Option Nat}, P + (chain D E k P nx).length ≤ endP P (chain D E k P nx)
  | 0, P, nx => Nat.le_refl _
  | k + 1, P, nx => by
    cases hg : grp D E P with
    | none => rw [chain_none hg]; exact Nat.le_refl _
    | some x =>
      obtain ⟨s, t⟩ := x
      have h2 := (grp_some.1 hg).2.1
      cases hn : nxOk nx s.no with
      | false => rw [chain_stop hg hn]; exact Nat.le_refl _
      | true =>
        rw [chain_some hg hn]
        have := chain_len (D := D) (E := E) (k := k) (P := P + s.cost) (nx := some (s.no + 1))
        simp only [List.length_cons, endP]
        omega
/-- a segment behind a crash of a group that was laid down at P: it has what it had, or the new one more -/
theorem mix_live {D D' : Disk} {B P n first : Nat} {s : Stamp} {t : B8} (hs_ : s.ok) (ht : t.length = 40 * s.cost) (w : Whole D) (w' : Whole D') (hm : Mix D (lay D P s.cost s t) D') (hf : Fresh D P s.cost s.age s.no) (hc : Cur D B P n first) (hst : Stale D B n) (hn : s.no = n) (hfn : first ≤ n) (hc0 : 0 < s.cost) (hB : B ≤ P) (hPE : P + s.cost ≤ B + 64) :
    (live D' B first = live D B first ∧ ¬ (∀ q, D' q = lay D P s.cost s t q)) ∨
    (live D' B first = live D B first ++ [⟨s, P, t⟩] ∧ (∀ q, D' q = lay D P s.cost s t q) ∧ endP B (chain D' (B + 64) 65 B none) = P + s.cost ∧ endN none (chain D' (B + 64) 65 B none) = some (n + 1) ∧ chain D' (B + 64) 65 B none ≠ []) := by
  have hg1 : ∀ Q s' t', B ≤ Q → grp D' (B + 64) Q = some (s', t') → grp D (B + 64) Q = some (s', t') ∨ (Q = P ∧ s' = s ∧ t' = t ∧ ∀ q, D' q = lay D P s.cost s t q) := fun Q s' t' hQ h => mix_grp hs_ ht w w' hm hf (by omega) h
  have hoff : ∀ q, q < P → D' q = D q := fun q hq => mix_off hm w w' (lay_off (by omega))
  have hnew : (∀ q, D' q = lay D P s.cost s t q) → grp D' (B + 64) P = some (s, t) := fun h => grp_keep (grp_lay hs_ ht hc0 hPE) fun i _ => h _
  have stop : ∀ k, (∀ q, D' q = lay D P s.cost s t q) → chain D' (B + 64) k (P + s.cost) (some (s.no + 1)) = [] := fun k hN => by
    match k with
    | 0 => rfl
    | k + 1 =>
      cases hg : grp D' (B + 64) (P + s.cost) with
      | none => rw [chain_none hg]
      | some x =>
        obtain ⟨s', t'⟩ := x
        rcases hg1 _ s' t' (by omega) hg with h | ⟨h, _⟩
        · have := hst _ _ _ (by omega) h
          exact chain_stop hg (by unfold nxOk; exact decide_eq_false (by omega))
        · omega
  by_cases hN : ∀ q, D' q = lay D P s.cost s t q
  · refine .inr ?_
    have hgP := hnew hN
    rcases hc with ⟨rfl, hl⟩ | ⟨hne, he, hx⟩
    · have hch : chain D' (P + 64) 65 P none = [⟨s, P, t⟩] := by rw [chain_some hgP rfl, stop 64 hN]
      refine ⟨?_, hN, by rw [hch]; rfl, by rw [hch, ← hn]; rfl, by rw [hch]; exact List.cons_ne_nil _ _⟩
      rw [hl]
      unfold live
      rw [hch, List.filter_cons_of_pos (by simp; omega)]; rfl
    · have hpre := chain_pre (D := D) (D' := D') (E := B + 64) (k := 65) (P := B) (nx := none) fun q _ h2 => hoff q (by rw [he] at h2; exact h2)
      have hlen := chain_len (D := D) (E := B + 64) (k := 65) (P := B) (nx := none)
      rw [he] at hlen hpre
      rw [hx] at hpre
      obtain ⟨m, hm'⟩ : ∃ m, 65 - (chain D (B + 64) 65 B none).length = m + 1 := ⟨64 - (chain D (B + 64) 65 B none).length, by omega⟩
      rw [hm', chain_some hgP (by unfold nxOk; exact decide_eq_true hn), stop m hN] at hpre
      refine ⟨?_, hN, ?_, ?_, ?_⟩
      · unfold live
        rw [hpre, List.filter_append, List.filter_cons_of_pos (by simp; omega)]; rfl
      · rw [hpre, endP_app, he]; rfl
      · rw [hpre, endN_app, ← hn]; rfl
      · rw [hpre]; intro h; exact hne (List.append_eq_nil_iff.1 h).1
  · refine .inl ⟨?_, hN⟩
    have hold : ∀ Q s' t', B ≤ Q → grp D' (B + 64) Q = some (s', t') → grp D (B + 64) Q = some (s', t') := fun Q s' t' hQ h => (hg1 Q s' t' hQ h).resolve_right fun e => hN e.2.2.2
    rcases hc with ⟨rfl, hl⟩ | ⟨hne, he, hx⟩
    · rw [hl]
      obtain ⟨r, hr⟩ := chain_less hold (k := 65) (P := P) (nx := none) (Nat.le_refl _)
      unfold live at hl ⊢
      rw [hr, List.filter_append] at hl
      exact (List.append_eq_nil_iff.1 hl).1
    · have hpre := chain_pre (D := D) (D' := D') (E := B + 64) (k := 65) (P := B) (nx := none) fun q _ h2 => hoff q (by rw [he] at h2; exact h2)
      rw [he] at hpre
      rw [hx] at hpre
      have hz : chain D' (B + 64) (65 - (chain D (B + 64) 65 B none).length) P (some n) = [] := by
        match 65 - (chain D (B + 64) 65 B none).length with
        | 0 => rfl
        | k + 1 =>
          cases hg : grp D' (B + 64) P with
          | none => rw [chain_none hg]
          | some x =>
            obtain ⟨s', t'⟩ := x
            have h := hold _ s' t' hB hg
            have := hst _ _ _ hB h
            exact chain_stop hg (by unfold nxOk; exact decide_eq_false (by omega))
      rw [hz, List.append_nil] at hpre
      unfold live
      rw [hpre]
end Go.Proofs.YtbfeejkdlhdioaaDoor.Wl
namespace Go.Proofs.YtbfeejkdlhdioaaDoor.Wl
set_option linter.unusedVariables false
set_option linter.unusedSimpArgs false
/-- a group: its records -/
abbrev Rec := List B8
def size (l : Rec) : Nat := (l.map List.length).sum
def cost (l : Rec) : Nat := (1 + 2 * l.length + size l + 39) / 40
def long (l : Rec) : Prop := 16 < l.length ∨ 2048 < size l
instance (l : Rec) : Decidable (long l) := by unfold long; exact inferInstance
def body (l : Rec) : B8 := [UInt8.ofNat l.length] ++ l.flatMap (fun r => be2 r.length) ++ l.flatten
def pack (l : Rec) : B8 := body l ++ List.replicate (40 * cost l - (body l).length) 0
def cutRecs : List Nat → B8 → Option Rec
  | [], _ => some []
  | n :: ns, r => if r.length < n then none else (cutRecs ns (r.drop n)).map (r.take n :: ·)
def lens (k : Nat) (t : B8) : List Nat := (List.range k).map fun i => num ((t.drop (2 * i)).take 2)
def unpack (crc : B8 → Nat) (s : Stamp) (t : B8) : Option Rec :=
  if t.length < 40 ∨ s.sum ≠ crc t then none
  else if (t.drop 1).length < 2 * (t.getD 0 0).toNat then none
  else cutRecs (lens (t.getD 0 0).toNat (t.drop 1)) (t.drop (1 + 2 * (t.getD 0 0).toNat))
theorem size_cons (r : B8) (l : Rec) : size (r :: l) = r.length + size l := by simp [size]
theorem flat_size (l : Rec) : l.flatten.length = size l := by simp [size]
theorem lens_size (l : Rec) : (l.flatMap fun r => be2 r.length).length = 2 * l.length := by
  induction l with
  | nil => rfl
  | cons r l ih => rw [List.flatMap_cons, List.length_append, ih, List.length_cons]; simp [be2]; omega
theorem body_len (l : Rec) : (body l).length = 1 + 2 * l.length + size l := by
  unfold body
  rw [List.length_append, List.length_append, lens_size, flat_size]; simp
theorem cost_le (l : Rec) : (body l).length ≤ 40 * cost l := by rw [body_len]; unfold cost; omega
theorem pack_len (l : Rec) : (pack l).length = 40 * cost l := by
  have := cost_le l
  unfold pack
  rw [List.length_append, List.length_replicate]; omega
theorem cost_pos (l : Rec) : 0 < cost l := by unfold cost; omega
theorem cost_max {l : Rec} (h : ¬ long l) : cost l ≤ 53 := by unfold long at h; unfold cost; omega
theorem len_le_size {r : B8} {l : Rec} (h : r ∈ l) : r.length ≤ size l := by
  induction l with
  | nil => cases h
  | cons x l ih =>
    rw [size_cons]
    rcases List.mem_cons.1 h with rfl | h
    · omega
    · have := ih h; omega
theorem lens_at : ∀ (l : Rec) (rest : B8), (∀ r ∈ l, r.length < 65536) → lens l.length ((l.flatMap fun r => be2 r.length) ++ rest) = l.map List.length := fun l rest h => by
  apply List.ext_getElem?
  intro i
  unfold lens
  by_cases hi : i < l.length
  · rw [List.getElem?_map, List.getElem?_range hi, List.getElem?_map, List.getElem?_eq_getElem hi]
    simp only [Option.map_some]
    have key : ∀ (l : Rec) (i : Nat) (hi : i < l.length), (((l.flatMap fun r => be2 r.length) ++ rest).drop (2 * i)).take 2 = be2 (l[i]).length := by
      intro l
      induction l with
      | nil => intro i hi; simp at hi
      | cons x l ih =>
        intro i hi
        cases i with
        | zero => simp [be2]
        | succ i =>
          have e : 2 * (i + 1) = 2 * i + 2 := by omega
          rw [List.flatMap_cons, e]
          have := ih i (by simpa using hi)
          simp only [be2, List.cons_append, List.nil_append, List.append_assoc, List.drop_succ_cons, List.getElem_cons_succ] at this ⊢
          exact this
    rw [key l i hi, num_be2]
    have := h l[i] (List.getElem_mem _)
    congr 1; omega
  · rw [List.getElem?_eq_none (by simp; omega), List.getElem?_eq_none (by simp; omega)]
theorem cut_at : ∀ (l : Rec) (rest : B8), cutRecs (l.map List.length) (l.flatten ++ rest) = some l
  | [], _ => rfl
  | r :: l, rest => by
    rw [List.map_cons, cutRecs, List.flatten_cons, List.append_assoc, if_neg (by rw [List.length_append]; omega), List.drop_left, cut_at l rest, List.take_left]
    rfl
theorem unpack_pack {crc : B8 → Nat} {s : Stamp} {l : Rec} (h : ¬ long l) (hs : s.sum = crc (pack l)) : unpack crc s (pack l) = some l := by
  have hl := pack_len l
  have hp := cost_pos l
  have h16 : l.length ≤ 16 := by unfold long at h; omega
  have hsz : size l ≤ 2048 := by unfold long at h; omega
  have e0 : ((pack l).getD 0 0).toNat = l.length := by
    have : (pack l).getD 0 0 = UInt8.ofNat l.length := rfl
    rw [this, of_nat]; omega
  obtain ⟨z, hz⟩ : ∃ z, z = List.replicate (40 * cost l - (body l).length) (0 : UInt8) := ⟨_, rfl⟩
  have e1 : (pack l).drop 1 = (l.flatMap fun r => be2 r.length) ++ (l.flatten ++ z) := by
    unfold pack
    rw [← hz]
    unfold body
    simp [List.append_assoc]
  have e2 : (pack l).drop (1 + 2 * l.length) = l.flatten ++ z := by
    rw [← List.drop_drop, e1, ← lens_size l, List.drop_left]
  have hd : ((pack l).drop 1).length = 40 * cost l - 1 := by rw [List.length_drop, hl]
  have hb := cost_le l
  rw [body_len] at hb
  unfold unpack
  rw [if_neg (by rw [hl]; intro hc; rcases hc with hc | hc; omega; exact hc hs), e0, if_neg (by rw [hd]; omega), e1, e2, lens_at l _ (fun r hr => by have := len_le_size hr; omega), cut_at]
end Go.Proofs.YtbfeejkdlhdioaaDoor.Wl
namespace Go.Proofs.YtbfeejkdlhdioaaDoor.Wl
set_option linter.unusedVariables false
set_option linter.unusedSimpArgs false
def beg (sg : Nat) : Nat := 2 + 64 * sg
/-- the header in a slot is whole -/
def Hw (crc : B8 → Nat) (D : Disk) (q : Nat) : Prop := Tagged D q 1 (stampOf D q) ∧ (stampOf D q).cost = 0 ∧ (stampOf D q).sum = crc (textAt D q 1)
def ageAt (D : Disk) (q j : Nat) : Nat := (tst (tagAt D q j)).age
def ages (D : Disk) (q : Nat) : Nat := max (ageAt D q 0) (ageAt D q 1)
def grt (D : Disk) : Nat := max (ages D 0) (ages D 1)
theorem age_stamp (D : Disk) (q : Nat) : (stampOf D q).age = ageAt D q 0 := rfl
theorem age_le (D : Disk) (q : Nat) {j : Nat} (hj : j < 2) : ageAt D q j ≤ ages D q := by
  unfold ages
  match j, hj with
  | 0, _ | 1, _ => omega
theorem age_grt (D : Disk) {q : Nat} (hq : q < 2) {j : Nat} (hj : j < 2) : ageAt D q j ≤ grt D := by
  have := age_le D q hj
  unfold grt
  match q, hq with
  | 0, _ | 1, _ => omega
/-- the header that counts stands in this slot, and says this -/
structure Hd (crc : B8 → Nat) (D : Disk) (slot a f : Nat) : Prop where
  lt : slot < 2
  hw : Hw crc D slot
  age : (stampOf D slot).age = a
  no : (stampOf D slot).no = f
  old : ¬ Hw crc D (1 - slot) ∨ (stampOf D (1 - slot)).age < a
/-- the groups of a log: in each segment just those that are looked for -/
structure Good (crc : B8 → Nat) (D : Disk) (S f : Nat) (L : List Rec) (gs : List Gp) : Prop where
  len : gs.length = L.length
  no : ∀ (k : Nat) (g : Gp), gs[k]? = some g → g.s.no = f + k
  unp : ∀ (k : Nat) (g : Gp) (l : Rec), gs[k]? = some g → L[k]? = some l → unpack crc g.s g.t = some l
  seg : ∀ g ∈ gs, ∃ sg, sg < S ∧ beg sg ≤ g.P ∧ g.P + g.s.cost ≤ beg sg + 64 ∧ 0 < g.s.cost
  liv : ∀ sg, sg < S → live D (beg sg) f = gs.filter fun g => decide (beg sg ≤ g.P ∧ g.P < beg sg + 64)
  stale : ∀ sg, sg < S → Stale D (beg sg) (f + L.length)
/-- the segments' ages -/
def Aged (D : Disk) (S a : Nat) : Prop := ∀ q, 2 ≤ q → q < beg S → ∀ j, j < 2 → ageAt D q j ≤ a
/-- a disk on which there is a log of these groups, from number f on -/
def DiskOk (crc : B8 → Nat) (D : Disk) (S f : Nat) (L : List Rec) : Prop := ∃ slot a gs, Hd crc D slot a f ∧ Good crc D S f L gs ∧ Aged D S (grt D)
section
variable {crc : B8 → Nat} {D D' : Disk} {S f : Nat} {L : List Rec} {gs : List Gp}
theorem Good.same (h : Good crc D S f L gs) (e : ∀ q, 2 ≤ q → q < beg S → D' q = D q) : Good crc D' S f L gs := by
  have e2 : ∀ sg, sg < S → ∀ q, beg sg ≤ q → q < beg sg + 64 → D' q = D q := fun sg hs q h1 h2 => e q (by unfold beg at h1; omega) (by unfold beg at *; omega)
  refine ⟨h.len, h.no, h.unp, h.seg, fun sg hs => by rw [live_seg (e2 sg hs)]; exact h.liv sg hs, fun sg hs Q s t hQ hg => h.stale sg hs Q s t hQ (grp_keep hg fun i hi => ?_)⟩
  have := (grp_some.1 hg).2.2.1
  exact (e2 sg hs _ (by omega) (by omega)).symm
/-- groups that are given up -/
theorem Good.drop (h : Good crc D S f L gs) {k : Nat} (hk : k ≤ L.length) : Good crc D S (f + k) (L.drop k) (gs.drop k) := by
  have hno : ∀ g ∈ gs.drop k, f + k ≤ g.s.no := fun g hg => by
    obtain ⟨i, hi⟩ := List.mem_iff_getElem?.1 hg
    rw [List.getElem?_drop] at hi
    rw [h.no _ _ hi]; omega
  have hno2 : ∀ g ∈ gs.take k, ¬ f + k ≤ g.s.no := fun g hg => by
    obtain ⟨i, hi⟩ := List.mem_iff_getElem?.1 hg
    rw [List.getElem?_take] at hi
    split at hi
    · rw [h.no _ _ hi]; omega
    · cases hi
  refine ⟨by rw [List.length_drop, List.length_drop, h.len], fun i g hi => ?_, fun i g l hi hl => ?_, fun g hg => h.seg g (List.mem_of_mem_drop hg), fun sg hs => ?_, fun sg hs => ?_⟩
  · rw [List.getElem?_drop] at hi
    rw [h.no _ _ hi]; omega
  · rw [List.getElem?_drop] at hi hl
    exact h.unp _ _ _ hi hl
  · have e1 : live D (beg sg) (f + k) = (live D (beg sg) f).filter fun g => decide (f + k ≤ g.s.no) := by
      unfold live
      rw [List.filter_filter]
      congr 1
      funext g
      rw [Bool.eq_iff_iff]
      simp
      omega
    rw [e1, h.liv sg hs, List.filter_filter]
    conv => lhs; rw [← List.take_append_drop k gs]
    rw [List.filter_append]
    have e2 : (gs.take k).filter (fun g => decide (f + k ≤ g.s.no) && decide (beg sg ≤ g.P ∧ g.P < beg sg + 64)) = [] := List.filter_eq_nil_iff.2 fun g hg => by
      have := hno2 g hg
      simp; omega
    rw [e2, List.nil_append]
    apply List.filter_congr
    intro g hg
    have := hno g hg
    simp [this]
  · have e : f + k + (L.drop k).length = f + L.length := by rw [List.length_drop]; omega
    rw [e]
    exact h.stale sg hs
theorem hw_same {q : Nat} (e : D' q = D q) (h : Hw crc D' q) : Hw crc D q := by
  obtain ⟨h1, h2, h3⟩ := h
  rw [stampOf_same e] at h1 h2 h3
  have ht : textAt D' q 1 = textAt D q 1 := textAt_same fun i hi => by
    obtain rfl : i = 0 := by omega
    exact e
  rw [ht] at h3
  refine ⟨fun i hi j hj => ?_, h2, h3⟩
  obtain rfl : i = 0 := by omega
  have := h1 0 (by omega) j hj
  rw [Nat.add_zero] at this ⊢
  rwa [tagAt_same e] at this
def z40 : B8 := List.replicate 40 0
def hst (crc : B8 → Nat) (a f : Nat) : Stamp := ⟨a, f, 0, crc z40⟩
/-- a new header is laid down in the other slot; some of it may be kept -/
theorem Hd.renew {slot a a' f' : Nat} (hcrc : ∀ t, crc t < 4294967296) (w : Whole D) (w' : Whole D') (h : Hd crc D slot a f) (ha : grt D < a') (ha4 : a' < 4294967296) (hf4 : f' < 4294967296) (hm : Mix D (lay D (1 - slot) 1 (hst crc a' f') z40) D') :
    (∀ q, 2 ≤ q → D' q = D q) ∧ grt D ≤ grt D' ∧ grt D' ≤ a' ∧ (Hd crc D' slot a f ∨ ((∀ q, D' q = lay D (1 - slot) 1 (hst crc a' f') z40 q) ∧ Hd crc D' (1 - slot) a' f' ∧ grt D' = a')) := by
  have hs := h.lt
  have hok : (hst crc a' f').ok := ⟨ha4, hf4, by show (0 : Nat) < 128; omega, hcrc _⟩
  have htl : z40.length = 40 * 1 := rfl
  have hoff : ∀ q, q ≠ 1 - slot → D' q = D q := fun q hq => mix_off hm w w' (lay_off (by omega))
  have hlay : ∀ j, j < 2 → tagAt (lay D (1 - slot) 1 (hst crc a' f') z40) (1 - slot) j = (hst crc a' f').tag j := fun j hj => by
    have := lay_tag (D := D) (P := 1 - slot) (c := 1) (i := 0) (j := j) (s := hst crc a' f') htl (by omega) hj
    rw [Nat.add_zero, Nat.mul_zero, Nat.zero_add] at this
    exact this
  have hage : ∀ j, j < 2 → ageAt (lay D (1 - slot) 1 (hst crc a' f') z40) (1 - slot) j = a' := fun j hj => by unfold ageAt; rw [hlay j hj, tst_tag hok]; rfl
  have hslot : D' slot = D slot := hoff slot (by omega)
  have hH : ∀ j, j < 2 → ageAt D' (1 - slot) j = ageAt D (1 - slot) j ∨ ageAt D' (1 - slot) j = a' := fun j hj => by
    rcases hm (1 - slot) j hj with e | e
    · exact .inl (by unfold ageAt; rw [tag_of_half e])
    · exact .inr (by rw [← hage j hj]; unfold ageAt; rw [tag_of_half e])
  have hS : ∀ j, ageAt D' slot j = ageAt D slot j := fun j => by unfold ageAt; rw [tagAt_same hslot]
  have hO : ∀ j, j < 2 → ageAt D (1 - slot) j ≤ grt D := fun j hj => age_grt D (by omega) hj
  have hO0 := hO 0 (by omega)
  have hO1 := hO 1 (by omega)
  have e1 : ∀ X : Disk, grt X = max (max (ageAt X slot 0) (ageAt X slot 1)) (max (ageAt X (1 - slot) 0) (ageAt X (1 - slot) 1)) := fun X => by
    unfold grt ages
    match slot, hs with
    | 0, _ => rfl
    | 1, _ => exact Nat.max_comm _ _
  have hg := e1 D
  have hg' := e1 D'
  rw [hS 0, hS 1] at hg'
  have hh0 := hH 0 (by omega)
  have hh1 := hH 1 (by omega)
  have hmono : grt D ≤ grt D' := by rcases hh0 with e | e <;> rcases hh1 with e' | e' <;> omega
  have hle : grt D' ≤ a' := by rcases hh0 with e | e <;> rcases hh1 with e' | e' <;> omega
  refine ⟨fun q hq => hoff q (by omega), hmono, hle, ?_⟩
  have keep : Hw crc D' slot := hw_same hslot.symm h.hw
  have he : (stampOf D' slot).age = a ∧ (stampOf D' slot).no = f := by rw [stampOf_same hslot]; exact ⟨h.age, h.no⟩
  by_cases hall : ∀ j, j < 2 → halfAt D' (1 - slot) j = halfAt (lay D (1 - slot) 1 (hst crc a' f') z40) (1 - slot) j
  · refine .inr ?_
    have hN : ∀ q, D' q = lay D (1 - slot) 1 (hst crc a' f') z40 q := fun q => by
      by_cases hq : q = 1 - slot
      · subst hq
        exact mix_all (lay_whole w htl) w' hall
      · rw [hoff q hq, lay_off (by omega)]
    have hst' : stampOf D' (1 - slot) = hst crc a' f' := by rw [stampOf_same (hN _)]; exact lay_stamp hok htl (by omega)
    have htx : textAt D' (1 - slot) 1 = z40 := by rw [textAt_same (fun i _ => hN (1 - slot + i))]; exact lay_text htl
    refine ⟨hN, ⟨by omega, ⟨fun i hi j hj => ?_, by rw [hst']; rfl, by rw [hst', htx]; rfl⟩, by rw [hst']; rfl, by rw [hst']; rfl, .inr ?_⟩, ?_⟩
    · rw [hst', show 1 - slot + i = 1 - slot from by omega, tagAt_same (hN _), hlay j hj, show 2 * i + j = j from by omega]
    · rw [show 1 - (1 - slot) = slot from by omega, stampOf_same hslot, age_stamp]
      have := age_grt D hs (j := 0) (by omega)
      omega
    · have h0 : ageAt D' (1 - slot) 0 = a' := by unfold ageAt; rw [tagAt_same (hN _)]; exact hage 0 (by omega)
      omega
  · refine .inl ⟨hs, keep, he.1, he.2, ?_⟩
    by_cases hold : ∀ j, j < 2 → halfAt D' (1 - slot) j = halfAt D (1 - slot) j
    · have hDD : D' (1 - slot) = D (1 - slot) := halves_eq w' w (hold 0 (by omega)) (hold 1 (by omega))
      rcases h.old with ho | ho
      · exact .inl fun hx => ho (hw_same hDD hx)
      · rw [stampOf_same hDD]; exact .inr ho
    · refine .inl fun hx => ?_
      -- one half is new, the other one old: their ages are unlike
      have t0 := hx.1 0 (by omega) 0 (by omega)
      have t1 := hx.1 0 (by omega) 1 (by omega)
      rw [Nat.add_zero] at t0 t1
      have hb := stamp_lt D' (1 - slot)
      have hokx : (stampOf D' (1 - slot)).ok := ⟨hb.1, hb.2.1, by rw [hx.2.1]; omega, hb.2.2.2⟩
      have a0 : ageAt D' (1 - slot) 0 = (stampOf D' (1 - slot)).age := by unfold ageAt; rw [t0, tst_tag hokx]
      have a1 : ageAt D' (1 - slot) 1 = (stampOf D' (1 - slot)).age := by unfold ageAt; rw [t1, tst_tag hokx]
      have p0 := hm (1 - slot) 0 (by omega)
      have p1 := hm (1 - slot) 1 (by omega)
      have q0 : halfAt D' (1 - slot) 0 = halfAt D (1 - slot) 0 → ageAt D' (1 - slot) 0 ≤ grt D := fun e => by unfold ageAt; rw [tag_of_half e]; exact hO0
      have q1 : halfAt D' (1 - slot) 1 = halfAt D (1 - slot) 1 → ageAt D' (1 - slot) 1 ≤ grt D := fun e => by unfold ageAt; rw [tag_of_half e]; exact hO1
      have r0 : halfAt D' (1 - slot) 0 = halfAt (lay D (1 - slot) 1 (hst crc a' f') z40) (1 - slot) 0 → ageAt D' (1 - slot) 0 = a' := fun e => by rw [← hage 0 (by omega)]; unfold ageAt; rw [tag_of_half e]
      have r1 : halfAt D' (1 - slot) 1 = halfAt (lay D (1 - slot) 1 (hst crc a' f') z40) (1 - slot) 1 → ageAt D' (1 - slot) 1 = a' := fun e => by rw [← hage 1 (by omega)]; unfold ageAt; rw [tag_of_half e]
      rcases p0 with p0 | p0 <;> rcases p1 with p1 | p1
      · exact hold fun j hj => by
          match j, hj with
          | 0, _ => exact p0
          | 1, _ => exact p1
      · have := q0 p0; have := r1 p1; omega
      · have := r0 p0; have := q1 p1; omega
      · exact hall fun j hj => by
          match j, hj with
          | 0, _ => exact p0
          | 1, _ => exact p1
end
end Go.Proofs.YtbfeejkdlhdioaaDoor.Wl
namespace Go.Proofs.YtbfeejkdlhdioaaDoor.Wl
set_option linter.unusedVariables false
set_option linter.unusedSimpArgs false
def noAt (D : Disk) (q j : Nat) : Nat := (tst (tagAt D q j)).no
/-- a log that is open: the newest header's slot, its age; where the next group may lie -/
structure On (crc : B8 → Nat) (D : Disk) (S f : Nat) (L : List Rec) (gs : List Gp) (slot age seg used : Nat) : Prop where
  hd : Hd crc D slot age f
  gr : grt D = age
  good : Good crc D S f L gs
  aged : ∀ q, 2 ≤ q → q < beg S → ∀ j, j < 2 → ageAt D q j ≤ age ∧ (ageAt D q j = age → noAt D q j < f + L.length)
  sgl : seg < S
  usl : used ≤ 64
  cur : Cur D (beg seg) (beg seg + used) (f + L.length) f
section
variable {crc : B8 → Nat} {D D' : Disk} {S f : Nat} {L : List Rec} {gs : List Gp} {slot age seg used : Nat}
theorem On.disk (h : On crc D S f L gs slot age seg used) : DiskOk crc D S f L :=
  ⟨slot, age, gs, h.hd, h.good, fun q h1 h2 j hj => by rw [h.gr]; exact (h.aged q h1 h2 j hj).1⟩
theorem beg_lt {sg S : Nat} (h : sg < S) : 2 ≤ beg sg ∧ beg sg + 64 ≤ beg S := by unfold beg; omega
theorem beg_off {a b q : Nat} (h1 : beg a ≤ q) (h2 : q < beg a + 64) (h3 : beg b ≤ q) (h4 : q < beg b + 64) : a = b := by unfold beg at *; omega
theorem On.fresh (h : On crc D S f L gs slot age seg used) {P c : Nat} {sg : Nat} (hs : sg < S) (h1 : beg sg ≤ P) (h2 : P + c ≤ beg sg + 64) : Fresh D P c age (f + L.length) := fun i hi j hj e => by
  have := beg_lt hs
  have h3 := (h.aged (P + i) (by omega) (by omega) j hj).2 e.1
  have e2 : noAt D (P + i) j = f + L.length := e.2
  omega
theorem get_app {gs : List Gp} {g x : Gp} {k : Nat} (h : (gs ++ [x])[k]? = some g) : gs[k]? = some g ∨ (k = gs.length ∧ g = x) := by
  rcases Nat.lt_or_ge k gs.length with hk | hk
  · rw [List.getElem?_append_left hk] at h; exact .inl h
  · rw [List.getElem?_append_right hk] at h
    obtain ⟨hk2, _⟩ := List.getElem?_eq_some_iff.1 h
    simp at hk2
    have : k = gs.length := by omega
    subst this
    rw [Nat.sub_self] at h
    exact .inr ⟨rfl, (Option.some.inj h).symm⟩
def ast (crc : B8 → Nat) (age no : Nat) (l : Rec) : Stamp := ⟨age, no, cost l, crc (pack l)⟩
/-- a group is laid down behind the others; some of it may be kept -/
theorem On.append (hcrc : ∀ t, crc t < 4294967296) (w : Whole D) (w' : Whole D') (h : On crc D S f L gs slot age seg used) (ha4 : age < 4294967296) (hn4 : f + L.length < 4294967296) {l : Rec} (hl : ¬ long l) {sg us : Nat} (hs : sg < S) (hcur : Cur D (beg sg) (beg sg + us) (f + L.length) f) (hfit : us + cost l ≤ 64)
    (hm : Mix D (lay D (beg sg + us) (cost l) (ast crc age (f + L.length) l) (pack l)) D') :
    ((¬ ∀ q, D' q = lay D (beg sg + us) (cost l) (ast crc age (f + L.length) l) (pack l) q) ∧ DiskOk crc D' S f L) ∨
    ((∀ q, D' q = lay D (beg sg + us) (cost l) (ast crc age (f + L.length) l) (pack l) q) ∧ On crc D' S f (L ++ [l]) (gs ++ [⟨ast crc age (f + L.length) l, beg sg + us, pack l⟩]) slot age sg (us + cost l)) := by
  obtain ⟨n, hn⟩ : ∃ n, n = f + L.length := ⟨_, rfl⟩
  obtain ⟨s, hsd⟩ : ∃ s, s = ast crc age (f + L.length) l := ⟨_, rfl⟩
  obtain ⟨P, hP⟩ : ∃ P, P = beg sg + us := ⟨_, rfl⟩
  have hsok : s.ok := by
    subst hsd
    exact ⟨ha4, hn4, by have := cost_max hl; show cost l < 128; omega, hcrc _⟩
  have hsc : s.cost = cost l := by rw [hsd]; rfl
  have hsn : s.no = n := by rw [hsd, hn]; rfl
  have hsa : s.age = age := by rw [hsd]; rfl
  have hcp := cost_pos l
  have htl : (pack l).length = 40 * s.cost := by rw [hsc]; exact pack_len l
  rw [← hsd, ← hP] at hm ⊢
  rw [← hP, ← hn] at hcur
  rw [← hsc] at hm hfit ⊢
  have hb := beg_lt hs
  have hfr : Fresh D P s.cost s.age s.no := by
    rw [hsa, hsn, hn]
    exact h.fresh hs (by omega) (by omega)
  have hoff : ∀ q, ¬ (P ≤ q ∧ q < P + s.cost) → D' q = D q := fun q hq => mix_off hm w w' (lay_off hq)
  have hoth : ∀ b, b < S → b ≠ sg → ∀ q, beg b ≤ q → q < beg b + 64 → D' q = D q := fun b hbS hne q h1 h2 => hoff q fun hc => hne (beg_off h1 h2 (by omega) (by omega))
  have hst' : ∀ b, b < S → ∀ Q s' t', beg b ≤ Q → grp D' (beg b + 64) Q = some (s', t') → s'.no < n ∨ (s'.no = n ∧ ∀ q, D' q = lay D P s.cost s (pack l) q) := fun b hbS Q s' t' hQ hg => by
    rcases mix_grp hsok htl w w' hm hfr (by omega) hg with hg | ⟨_, h2, _, h4⟩
    · exact .inl (by rw [hn]; exact h.good.stale b hbS Q s' t' hQ hg)
    · exact .inr ⟨by rw [h2, hsn], h4⟩
  have hml := mix_live hsok htl w w' hm hfr hcur (by rw [hn]; exact h.good.stale sg hs) hsn (by omega) (by omega) (by omega) (by omega)
  have hhd : ∀ q, q < 2 → D' q = D q := fun q hq => hoff q (by omega)
  have hgrt : grt D' = age := by
    rw [← h.gr]
    unfold grt ages ageAt
    rw [tagAt_same (hhd 0 (by omega)), tagAt_same (hhd 0 (by omega)), tagAt_same (hhd 1 (by omega)), tagAt_same (hhd 1 (by omega))]
  have hHd : Hd crc D' slot age f := by
    have hsl := h.hd.lt
    have e1 := hhd slot hsl
    have e2 := hhd (1 - slot) (by omega)
    exact ⟨hsl, hw_same e1.symm h.hd.hw, by rw [stampOf_same e1]; exact h.hd.age, by rw [stampOf_same e1]; exact h.hd.no, h.hd.old.imp (fun ho hx => ho (hw_same e2 hx)) (fun ho => by rw [stampOf_same e2]; exact ho)⟩
  have hAge : ∀ q, 2 ≤ q → q < beg S → ∀ j, j < 2 → (ageAt D' q j ≤ age ∧ (ageAt D' q j = age → noAt D' q j < n)) ∨ (ageAt D' q j = age ∧ noAt D' q j = n) := fun q h1 h2 j hj => by
    rcases hm q j hj with e | e
    · left
      unfold ageAt noAt
      rw [tag_of_half e]
      have := h.aged q h1 h2 j hj
      unfold ageAt noAt at this
      rw [hn]; exact this
    · by_cases hin : P ≤ q ∧ q < P + s.cost
      · right
        obtain ⟨i, rfl⟩ : ∃ i, q = P + i := ⟨q - P, by omega⟩
        unfold ageAt noAt
        rw [tag_of_half e, lay_tag htl (by omega) hj, tst_tag hsok]
        exact ⟨hsa, hsn⟩
      · left
        unfold ageAt noAt
        rw [tag_of_half e]
        have e3 : tagAt (lay D P s.cost s (pack l)) q j = tagAt D q j := tagAt_same (lay_off hin)
        rw [e3, hn]
        exact h.aged q h1 h2 j hj
  rcases hml with ⟨hl1, hne⟩ | ⟨hl1, heq, he1, he2, he3⟩
  · refine .inl ⟨hne, slot, age, gs, hHd, ⟨h.good.len, h.good.no, h.good.unp, h.good.seg, fun b hbS => ?_, fun b hbS Q s' t' hQ hg => ?_⟩, fun q h1 h2 j hj => ?_⟩
    · by_cases e : b = sg
      · subst e; rw [hl1]; exact h.good.liv b hbS
      · rw [live_seg (hoth b hbS e)]; exact h.good.liv b hbS
    · rcases hst' b hbS Q s' t' hQ hg with e | ⟨_, e⟩
      · omega
      · exact absurd e hne
    · rw [hgrt]
      rcases hAge q h1 h2 j hj with e | e
      · exact e.1
      · omega
  · refine .inr ⟨heq, hHd, hgrt, ⟨by simp [h.good.len], fun k g hk => ?_, fun k g r hk hr => ?_, fun g hg => ?_, fun b hbS => ?_, fun b hbS Q s' t' hQ hg => ?_⟩, fun q h1 h2 j hj => ?_, hs, by omega, .inr ⟨he3, ?_, ?_⟩⟩
    · rcases get_app hk with hk | ⟨rfl, rfl⟩
      · exact h.good.no k g hk
      · show s.no = f + gs.length
        rw [hsn, hn, h.good.len]
    · rcases get_app hk with hk | ⟨rfl, rfl⟩
      · have hkl : k < L.length := by rw [← h.good.len]; exact (List.getElem?_eq_some_iff.1 hk).1
        rw [List.getElem?_append_left hkl] at hr
        exact h.good.unp k g r hk hr
      · rw [h.good.len, List.getElem?_append_right (Nat.le_refl _), Nat.sub_self] at hr
        obtain rfl : l = r := by simpa using hr
        exact unpack_pack hl (by rw [hsd]; rfl)
    · rcases List.mem_append.1 hg with hg | hg
      · exact h.good.seg g hg
      · obtain rfl := List.mem_singleton.1 hg
        exact ⟨sg, hs, by show beg sg ≤ P; omega, by show P + s.cost ≤ beg sg + 64; omega, by show 0 < s.cost; omega⟩
    · rw [List.filter_append]
      by_cases e : b = sg
      · subst e
        rw [hl1, h.good.liv b hbS, List.filter_cons_of_pos (by simp; omega)]; rfl
      · rw [live_seg (hoth b hbS e), h.good.liv b hbS, List.filter_cons_of_neg (by
          simp only [decide_eq_true_eq]
          intro hc
          exact e (beg_off hc.1 hc.2 (by omega) (by omega)))]
        rw [List.filter_nil, List.append_nil]
    · rw [List.length_append, List.length_singleton]
      rcases hst' b hbS Q s' t' hQ hg with e | ⟨e, _⟩ <;> omega
    · rw [List.length_append, List.length_singleton]
      rcases hAge q h1 h2 j hj with e | e
      · exact ⟨e.1, fun ee => by have := e.2 ee; omega⟩
      · exact ⟨by omega, fun _ => by omega⟩
    · rw [he1]; omega
    · rw [he2, List.length_append, List.length_singleton]
      congr 1; omega
/-- a number at which the log is cut: a new header; some of it may be kept -/
theorem On.cut (hcrc : ∀ t, crc t < 4294967296) (w : Whole D) (w' : Whole D') (h : On crc D S f L gs slot age seg used) (ha4 : age + 1 < 4294967296) (hn4 : f + L.length < 4294967296) {k : Nat} (hk : k ≤ L.length)
    (hm : Mix D (lay D (1 - slot) 1 (hst crc (age + 1) (f + k)) z40) D') :
    ((¬ ∀ q, D' q = lay D (1 - slot) 1 (hst crc (age + 1) (f + k)) z40 q) ∧ DiskOk crc D' S f L) ∨
    ((∀ q, D' q = lay D (1 - slot) 1 (hst crc (age + 1) (f + k)) z40 q) ∧ On crc D' S (f + k) (L.drop k) (gs.drop k) (1 - slot) (age + 1) seg used) := by
  obtain ⟨h1, h2, h3, h4⟩ := h.hd.renew hcrc w w' (by rw [h.gr]; omega) ha4 (by omega) hm
  have hsame : ∀ q, 2 ≤ q → q < beg S → D' q = D q := fun q hq _ => h1 q hq
  have hbs := beg_lt h.sgl
  have hlive : ∀ ff, live D' (beg seg) ff = live D (beg seg) ff := fun ff => live_seg fun q a b => h1 q (by omega)
  have hchain : chain D' (beg seg + 64) 65 (beg seg) none = chain D (beg seg + 64) 65 (beg seg) none := chain_seg (fun q a b => h1 q (by omega)) (Nat.le_refl _)
  have hcases : (∀ q, D' q = lay D (1 - slot) 1 (hst crc (age + 1) (f + k)) z40 q) ∨ ¬ ∀ q, D' q = lay D (1 - slot) 1 (hst crc (age + 1) (f + k)) z40 q := Classical.em _
  rcases hcases with hN | hN
  · have hall : Hd crc D' (1 - slot) (age + 1) (f + k) ∧ grt D' = age + 1 := by
      rcases h4 with h4 | ⟨_, h5, h6⟩
      · -- the whole of it is there: the other case cannot be
        have hmm : Mix D (lay D (1 - slot) 1 (hst crc (age + 1) (f + k)) z40) (lay D (1 - slot) 1 (hst crc (age + 1) (f + k)) z40) := fun q j hj => .inr rfl
        have hwl : Whole (lay D (1 - slot) 1 (hst crc (age + 1) (f + k)) z40) := lay_whole w rfl
        have hsl := h.hd.lt
        have hold : (stampOf D' (1 - slot)).age < age ∨ ¬ Hw crc D' (1 - slot) := h4.old.symm
        have hok : (hst crc (age + 1) (f + k)).ok := ⟨ha4, by show f + k < 4294967296; omega, by show (0 : Nat) < 128; omega, hcrc _⟩
        have hst' : stampOf D' (1 - slot) = hst crc (age + 1) (f + k) := by rw [stampOf_same (hN _)]; exact lay_stamp hok rfl (by omega)
        exfalso
        rcases hold with ho | ho
        · rw [hst'] at ho
          have : age + 1 < age := ho
          omega
        · refine ho ⟨fun i hi j hj => ?_, by rw [hst']; rfl, ?_⟩
          · obtain rfl : i = 0 := by omega
            rw [hst', Nat.add_zero, tagAt_same (hN _)]
            have := lay_tag (D := D) (P := 1 - slot) (c := 1) (i := 0) (j := j) (s := hst crc (age + 1) (f + k)) (t := z40) rfl (by omega) hj
            rwa [Nat.add_zero] at this
          · rw [hst', textAt_same (fun i _ => hN (1 - slot + i)), lay_text rfl]; rfl
      · exact ⟨h5, h6⟩
    refine .inr ⟨hN, hall.1, hall.2, (h.good.drop hk).same hsame, fun q a b j hj => ?_, h.sgl, h.usl, ?_⟩
    · have := h.aged q a b j hj
      unfold ageAt at this ⊢
      rw [tagAt_same (h1 q a)]
      exact ⟨by omega, fun e => by omega⟩
    · have e : f + k + (L.drop k).length = f + L.length := by rw [List.length_drop]; omega
      rw [e]
      rcases h.cur with ⟨c1, c2⟩ | ⟨c1, c2, c3⟩
      · refine .inl ⟨c1, ?_⟩
        rw [hlive]
        unfold live at c2 ⊢
        refine List.filter_eq_nil_iff.2 fun g hg => ?_
        have := List.filter_eq_nil_iff.1 c2 g hg
        simp at this ⊢; omega
      · refine .inr ?_
        rw [hchain]
        exact ⟨c1, c2, c3⟩
  · refine .inl ⟨hN, ?_⟩
    rcases h4 with h4 | ⟨h5, _, _⟩
    · refine ⟨slot, age, gs, h4, h.good.same hsame, fun q a b j hj => ?_⟩
      have := (h.aged q a b j hj).1
      rw [← h.gr] at this
      unfold ageAt at this ⊢
      rw [tagAt_same (h1 q a)]
      omega
    · exact absurd h5 hN
end
end Go.Proofs.YtbfeejkdlhdioaaDoor.Wl
