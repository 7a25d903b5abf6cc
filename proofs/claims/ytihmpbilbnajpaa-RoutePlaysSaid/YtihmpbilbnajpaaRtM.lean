/-
  Routes in plain data: a table is a row of prefixes with members, by rising prefixes. No conditions; it imports nothing of the program.
-/
import Derived.Test.YtihmpbilbnajpaaIxJ
namespace Go.Proofs.Ytihmpbilbnajpaa
namespace Rt
open Ix (Key klt klt_irr klt_tr klt_eq klt_as klt_ne)
set_option linter.unusedVariables false
/-- a prefix with its members -/
abbrev R := Key × List Int
def digit (c : UInt8) : Bool := decide (48 ≤ c.toNat ∧ c.toNat ≤ 57)
def prefOk (p : Key) : Bool := p.all digit && decide (1 ≤ p.length ∧ p.length ≤ 8)
/-- members that can be: none twice -/
def toOk (m : Int) (to_ : List Int) : Prop := (1 ≤ to_.length ∧ to_.length ≤ 6) ∧ (∀ x ∈ to_, 0 ≤ x ∧ x < m) ∧ to_.Nodup
instance (m : Int) (to_ : List Int) : Decidable (toOk m to_) := by unfold toOk; exact inferInstance
def Srt (l : List R) : Prop := l.Pairwise fun a b => klt a.1 b.1 = true
def has (p : Key) (l : List R) : Prop := ∃ x ∈ l, x.1 = p
instance (p : Key) (l : List R) : Decidable (has p l) := by unfold has; exact inferInstance
/-- how many stand below -/
def pos (p : Key) : List R → Nat
  | [] => 0
  | x :: l => if klt x.1 p = true then pos p l + 1 else 0
theorem pos_le (p : Key) : ∀ l : List R, pos p l ≤ l.length
  | [] => Nat.le_refl _
  | x :: l => by
    unfold pos
    have := pos_le p l
    split
    · rw [List.length_cons]; omega
    · exact Nat.zero_le _
theorem pos_lo {p : Key} : ∀ {l : List R} {i : Nat} {x : R}, l[i]? = some x → i < pos p l → klt x.1 p = true
  | y :: l, 0, x, hx, hi => by
    unfold pos at hi
    split at hi
    · rename_i h
      cases hx
      exact h
    · omega
  | y :: l, i + 1, x, hx, hi => by
    unfold pos at hi
    split at hi
    · exact pos_lo (l := l) (i := i) hx (by omega)
    · omega
theorem pos_hi {p : Key} : ∀ {l : List R} {i : Nat} {x : R}, Srt l → l[i]? = some x → pos p l ≤ i → klt x.1 p = false
  | y :: l, 0, x, hs, hx, hi => by
    unfold pos at hi
    split at hi
    · omega
    · rename_i h
      cases hx
      simpa using h
  | y :: l, i + 1, x, hs, hx, hi => by
    obtain ⟨h1, h2⟩ := List.pairwise_cons.1 hs
    unfold pos at hi
    split at hi
    · exact pos_hi (l := l) (i := i) h2 hx (by omega)
    · rename_i h
      have hm : x ∈ l := List.mem_of_getElem? hx
      cases e : klt x.1 p with
      | false => rfl
      | true => exact absurd (klt_tr (h1 x hm) e) h
def ins (p : Key) (to_ : List Int) (l : List R) : List R := l.take (pos p l) ++ (p, to_) :: l.drop (pos p l)
def addE (m : Int) (l : List R) (p : Key) (to_ : List Int) : Int :=
  if prefOk p = false then 110 else if ¬ toOk m to_ then 112 else if has p l then 111 else if l.length = 32 then 3 else 0
def addL (m : Int) (l : List R) (p : Key) (to_ : List Int) : List R := if addE m l p to_ = 0 then ins p to_ l else l
def dropE (l : List R) (p : Key) : Int := if has p l then 0 else 113
def dropL (l : List R) (p : Key) : List R := l.filter fun x => x.1 != p
/-- the routes of rs added, one behind the other, as long as none is refused -/
def newE (m : Int) : List R → List R → Int
  | l, [] => 0
  | l, x :: rs => if addE m l x.1 x.2 = 0 then newE m (ins x.1 x.2 l) rs else addE m l x.1 x.2
def newL (m : Int) : List R → List R → List R
  | l, [] => l
  | l, x :: rs => newL m (addL m l x.1 x.2) rs
/-- what a card finds -/
def Best (l : List R) (pan : Key) : Option (List Int) → Prop
  | none => ∀ x ∈ l, ¬ x.1 <+: pan
  | some t => ∃ p, (p, t) ∈ l ∧ p <+: pan ∧ ∀ x ∈ l, x.1 <+: pan → x.1.length ≤ p.length
theorem mem_ins {p : Key} {to_ : List Int} {l : List R} {x : R} : x ∈ ins p to_ l ↔ x = (p, to_) ∨ x ∈ l := by
  unfold ins
  constructor
  · intro h
    rcases List.mem_append.1 h with h | h
    · exact .inr (List.mem_of_mem_take h)
    · rcases List.mem_cons.1 h with h | h
      · exact .inl h
      · exact .inr (List.mem_of_mem_drop h)
  · rintro (h | h)
    · rw [h]; simp
    · rw [← List.take_append_drop (pos p l) l] at h
      rcases List.mem_append.1 h with h | h
      · exact List.mem_append_left _ h
      · exact List.mem_append_right _ (List.mem_cons_of_mem _ h)
theorem ins_len (p : Key) (to_ : List Int) (l : List R) : (ins p to_ l).length = l.length + 1 := by
  have := pos_le p l
  unfold ins
  rw [List.length_append, List.length_cons, List.length_take, List.length_drop]
  omega
theorem ins_srt {p : Key} {to_ : List Int} {l : List R} (hs : Srt l) (hp : ¬ has p l) : Srt (ins p to_ l) := by
  have hs' := hs
  rw [← List.take_append_drop (pos p l) l] at hs'
  obtain ⟨h1, h2, h3⟩ := List.pairwise_append.1 hs'
  have lo : ∀ x ∈ l.take (pos p l), klt x.1 p = true := fun x hx => by
    obtain ⟨i, hi⟩ := List.mem_iff_getElem?.1 hx
    rw [List.getElem?_take] at hi
    split at hi
    · exact pos_lo hi (by assumption)
    · cases hi
  have hi : ∀ x ∈ l.drop (pos p l), klt p x.1 = true := fun x hx => by
    obtain ⟨i, hi⟩ := List.mem_iff_getElem?.1 hx
    rw [List.getElem?_drop] at hi
    have h4 := pos_hi (p := p) hs hi (by omega)
    cases e : klt p x.1 with
    | true => rfl
    | false => exact absurd ⟨x, List.mem_of_getElem? hi, klt_eq h4 e⟩ hp
  exact List.pairwise_append.2 ⟨h1, List.pairwise_cons.2 ⟨hi, h2⟩, fun a ha b hb => by
    rcases List.mem_cons.1 hb with rfl | hb
    · exact lo a ha
    · exact h3 a ha b hb⟩
theorem srt_one {l : List R} (hs : Srt l) {x y : R} (hx : x ∈ l) (hy : y ∈ l) (e : x.1 = y.1) : x = y := by
  obtain ⟨i, hi⟩ := List.mem_iff_getElem?.1 hx
  obtain ⟨j, hj⟩ := List.mem_iff_getElem?.1 hy
  obtain ⟨h1, rfl⟩ := List.getElem?_eq_some_iff.1 hi
  obtain ⟨h2, rfl⟩ := List.getElem?_eq_some_iff.1 hj
  rcases Nat.lt_trichotomy i j with h | h | h
  · exact absurd e (klt_ne (List.pairwise_iff_getElem.1 hs i j h1 h2 h))
  · subst h; rfl
  · exact absurd e.symm (klt_ne (List.pairwise_iff_getElem.1 hs j i h2 h1 h))
theorem drop_srt {l : List R} (hs : Srt l) (p : Key) : Srt (dropL l p) := List.Pairwise.sublist List.filter_sublist hs
/-- two rows with the same in them are the same -/
theorem srt_ext : ∀ {a b : List R}, Srt a → Srt b → (∀ x, x ∈ a ↔ x ∈ b) → a = b
  | [], [], _, _, _ => rfl
  | [], y :: b, _, _, h => absurd ((h y).2 (List.mem_cons_self ..)) (by simp)
  | x :: a, [], _, _, h => absurd ((h x).1 (List.mem_cons_self ..)) (by simp)
  | x :: a, y :: b, ha, hb, h => by
    obtain ⟨a1, a2⟩ := List.pairwise_cons.1 ha
    obtain ⟨b1, b2⟩ := List.pairwise_cons.1 hb
    have exy : x = y := by
      rcases List.mem_cons.1 ((h x).1 (List.mem_cons_self ..)) with e | e
      · exact e
      · rcases List.mem_cons.1 ((h y).2 (List.mem_cons_self ..)) with e2 | e2
        · exact e2.symm
        · have h1 := b1 x e
          have h2 := a1 y e2
          rw [klt_as h1] at h2
          cases h2
    subst exy
    rw [srt_ext a2 b2 fun z => ⟨fun hz => by
      rcases List.mem_cons.1 ((h z).1 (List.mem_cons_of_mem _ hz)) with rfl | e
      · have := a1 z hz
        rw [klt_irr] at this
        cases this
      · exact e, fun hz => by
      rcases List.mem_cons.1 ((h z).2 (List.mem_cons_of_mem _ hz)) with rfl | e
      · have := b1 z hz
        rw [klt_irr] at this
        cases this
      · exact e⟩]
theorem addE_zero {m : Int} {l : List R} {p : Key} {to_ : List Int} (h : addE m l p to_ = 0) : prefOk p = true ∧ toOk m to_ ∧ ¬ has p l ∧ l.length ≠ 32 := by
  unfold addE at h
  split at h
  · cases h
  · split at h
    · cases h
    · split at h
      · cases h
      · split at h
        · cases h
        · rename_i h1 h2 h3 h4
          exact ⟨by simpa using h1, by simpa using h2, h3, h4⟩
theorem addE_ok {m : Int} {l : List R} {p : Key} {to_ : List Int} (h1 : prefOk p = true) (h2 : toOk m to_) (h3 : ¬ has p l) (h4 : l.length ≠ 32) : addE m l p to_ = 0 := by
  unfold addE
  rw [if_neg (by rw [h1]; decide), if_neg (not_not_intro h2), if_neg h3, if_neg h4]
theorem addL_ok {m : Int} {l : List R} {p : Key} {to_ : List Int} (h : addE m l p to_ = 0) : addL m l p to_ = ins p to_ l := if_pos h
theorem addL_no {m : Int} {l : List R} {p : Key} {to_ : List Int} (h : ¬ addE m l p to_ = 0) : addL m l p to_ = l := if_neg h
theorem addL_srt {m : Int} {l : List R} {p : Key} {to_ : List Int} (hs : Srt l) : Srt (addL m l p to_) := by
  by_cases h : addE m l p to_ = 0
  · rw [addL_ok h]; exact ins_srt hs (addE_zero h).2.2.1
  · rw [addL_no h]; exact hs
theorem addL_len {m : Int} {l : List R} {p : Key} {to_ : List Int} (hl : l.length ≤ 32) : (addL m l p to_).length ≤ 32 := by
  by_cases h : addE m l p to_ = 0
  · rw [addL_ok h, ins_len]
    have := (addE_zero h).2.2.2
    omega
  · rw [addL_no h]; exact hl
theorem newL_srt {m : Int} : ∀ {rs l : List R}, Srt l → Srt (newL m l rs)
  | [], l, h => h
  | x :: rs, l, h => newL_srt (rs := rs) (addL_srt h)
theorem newL_len {m : Int} : ∀ {rs l : List R}, l.length ≤ 32 → (newL m l rs).length ≤ 32
  | [], l, h => h
  | x :: rs, l, h => newL_len (rs := rs) (addL_len h)
/-- all of them were taken -/
structure AllOk (m : Int) (l rs : List R) : Prop where
  each : ∀ x ∈ rs, prefOk x.1 = true ∧ toOk m x.2
  new_ : ∀ x ∈ rs, ¬ has x.1 l
  unlike : rs.Pairwise fun a b => a.1 ≠ b.1
  room : l.length + rs.length ≤ 32
theorem has_ins {p q : Key} {to_ : List Int} {l : List R} : has q (ins p to_ l) ↔ q = p ∨ has q l := by
  unfold has
  constructor
  · rintro ⟨x, hx, e⟩
    rcases mem_ins.1 hx with rfl | hx
    · exact .inl e.symm
    · exact .inr ⟨x, hx, e⟩
  · rintro (rfl | ⟨x, hx, e⟩)
    · exact ⟨_, mem_ins.2 (.inl rfl), rfl⟩
    · exact ⟨x, mem_ins.2 (.inr hx), e⟩
theorem newE_ok {m : Int} : ∀ {rs l : List R}, l.length ≤ 32 → newE m l rs = 0 → AllOk m l rs
  | [], l, hl, _ => ⟨fun x h => (by cases h), fun x h => (by cases h), List.Pairwise.nil, by simpa using hl⟩
  | x :: rs, l, hl, h => by
    by_cases h0 : addE m l x.1 x.2 = 0
    · obtain ⟨a1, a2, a3, a4⟩ := addE_zero h0
      have h : newE m (ins x.1 x.2 l) rs = 0 := by unfold newE at h; rw [if_pos h0] at h; exact h
      obtain ⟨b1, b2, b3, b4⟩ := newE_ok (rs := rs) (by rw [ins_len]; omega) h
      rw [ins_len] at b4
      refine ⟨fun y hy => ?_, fun y hy => ?_, List.pairwise_cons.2 ⟨fun y hy e => b2 y hy (has_ins.2 (.inl e.symm)), b3⟩, by rw [List.length_cons]; omega⟩
      · rcases List.mem_cons.1 hy with rfl | hy
        · exact ⟨a1, a2⟩
        · exact b1 y hy
      · rcases List.mem_cons.1 hy with rfl | hy
        · exact a3
        · exact fun e => b2 y hy (has_ins.2 (.inr e))
    · unfold newE at h
      rw [if_neg h0] at h
      exact absurd h h0
theorem newE_of {m : Int} : ∀ {rs l : List R}, AllOk m l rs → newE m l rs = 0 ∧ (newL m l rs).length = l.length + rs.length ∧ ∀ y, y ∈ newL m l rs ↔ y ∈ l ∨ y ∈ rs
  | [], l, _ => ⟨rfl, rfl, fun y => by simp [newL]⟩
  | x :: rs, l, h => by
    obtain ⟨h1, h2, h3, h4⟩ := h
    obtain ⟨u1, u2⟩ := List.pairwise_cons.1 h3
    rw [List.length_cons] at h4
    have h0 : addE m l x.1 x.2 = 0 := addE_ok (h1 x (List.mem_cons_self ..)).1 (h1 x (List.mem_cons_self ..)).2 (h2 x (List.mem_cons_self ..)) (by omega)
    obtain ⟨g1, g2, g3⟩ := newE_of (m := m) (rs := rs) (l := ins x.1 x.2 l) ⟨fun y hy => h1 y (List.mem_cons_of_mem _ hy), fun y hy e => by
      rcases has_ins.1 e with e | e
      · exact u1 y hy e.symm
      · exact h2 y (List.mem_cons_of_mem _ hy) e, u2, by rw [ins_len]; omega⟩
    refine ⟨by unfold newE; rw [if_pos h0]; exact g1, ?_, fun y => ?_⟩
    · show (newL m (addL m l x.1 x.2) rs).length = _
      rw [addL_ok h0, g2, ins_len, List.length_cons]
      omega
    · show y ∈ newL m (addL m l x.1 x.2) rs ↔ _
      rw [addL_ok h0, g3, mem_ins, List.mem_cons]
      constructor
      · rintro ((h | h) | h)
        · exact .inr (.inl h)
        · exact .inl h
        · exact .inr (.inr h)
      · rintro (h | h | h)
        · exact .inl (.inr h)
        · exact .inl (.inl h)
        · exact .inr h
theorem allOk_rev {m : Int} {rs : List R} (h : AllOk m [] rs) : AllOk m [] rs.reverse :=
  ⟨fun x hx => h.each x (List.mem_reverse.1 hx), fun x hx => h.new_ x (List.mem_reverse.1 hx), by rw [List.pairwise_reverse]; exact h.unlike.imp fun e => e.symm, by rw [List.length_reverse]; exact h.room⟩
/-- the order is not seen -/
theorem new_rev {m : Int} {rs : List R} (h : newE m [] rs = 0) : newE m [] rs.reverse = 0 ∧ newL m [] rs.reverse = newL m [] rs := by
  have ha := newE_ok (l := []) (by simp) h
  obtain ⟨_, _, a3⟩ := newE_of ha
  obtain ⟨b1, _, b3⟩ := newE_of (allOk_rev ha)
  exact ⟨b1, srt_ext (newL_srt List.Pairwise.nil) (newL_srt List.Pairwise.nil) fun x => by rw [a3, b3, List.mem_reverse]⟩
theorem pre_len {p q pan : Key} (hp : p <+: pan) (hq : q <+: pan) (h : p.length = q.length) : p = q := by
  obtain ⟨a, ha⟩ := hp
  obtain ⟨b, hb⟩ := hq
  exact (List.append_inj (ha.trans hb.symm) h).1
theorem best_one {l : List R} {pan : Key} {a b : Option (List Int)} (hs : Srt l) (ha : Best l pan a) (hb : Best l pan b) : a = b := by
  cases a with
  | none => cases b with
    | none => rfl
    | some t =>
      obtain ⟨p, h1, h2, _⟩ := hb
      exact absurd h2 (ha _ h1)
  | some s => cases b with
    | none =>
      obtain ⟨p, h1, h2, _⟩ := ha
      exact absurd h2 (hb _ h1)
    | some t =>
      obtain ⟨p, h1, h2, h3⟩ := ha
      obtain ⟨q, g1, g2, g3⟩ := hb
      have e1 := h3 _ g1 g2
      have e2 := g3 _ h1 h2
      have e : p = q := pre_len h2 g2 (by have e1 : q.length ≤ p.length := e1; have e2 : p.length ≤ q.length := e2; omega)
      have := srt_one hs h1 g1 e
      injection this with _ e
      rw [e]
/-- a prefix that a card does not begin with changes nothing for it -/
theorem best_add {l : List R} {pan p : Key} {to_ : List Int} {a : Option (List Int)} (h : Best l pan a) (hn : ¬ p <+: pan) : Best (ins p to_ l) pan a := by
  cases a with
  | none =>
    intro x hx
    rcases mem_ins.1 hx with rfl | hx
    · exact hn
    · exact h x hx
  | some t =>
    obtain ⟨q, h1, h2, h3⟩ := h
    exact ⟨q, mem_ins.2 (.inr h1), h2, fun x hx hp => by
      rcases mem_ins.1 hx with rfl | hx
      · exact absurd hp hn
      · exact h3 x hx hp⟩
theorem drop_ins {l : List R} {p : Key} {to_ : List Int} (hs : Srt l) (hp : ¬ has p l) : dropL (ins p to_ l) p = l :=
  srt_ext (drop_srt (ins_srt hs hp) p) hs fun x => by
    unfold dropL
    rw [List.mem_filter, mem_ins]
    constructor
    · rintro ⟨h | h, g⟩
      · rw [h] at g
        simp at g
      · exact h
    · intro h
      refine ⟨.inr h, ?_⟩
      have : x.1 ≠ p := fun e => hp ⟨x, h, e⟩
      simpa using this
theorem best_own {l : List R} {x : R} (h : x ∈ l) : Best l x.1 (some x.2) := ⟨x.1, h, List.prefix_rfl, fun y _ hy => hy.length_le⟩
theorem best_none {l : List R} {pan : Key} (h : Best l pan none) : ∀ x ∈ l, ¬ x.1 <+: pan := h
theorem best_some {l : List R} {pan : Key} {t : List Int} (h : Best l pan (some t)) : ∃ x ∈ l, x.1 <+: pan := by
  obtain ⟨p, h1, h2, _⟩ := h
  exact ⟨_, h1, h2⟩
end Rt
end Go.Proofs.Ytihmpbilbnajpaa
