/-
  Index: the whole index in memory. No conditions.
-/
import Derived.Test.YtmlkdkbpbleilaaIyB
namespace Go.Proofs.Ytmlkdkbpbleilaa
open Go.RowKit
open Ix
set_option linter.unusedVariables false
set_option linter.unusedSimpArgs false
theorem lput_len {k : Key} {v : Int} {l : List Pr} (hs : Srt l) : (lput k v l).length = l.length + (if (lget k l).isSome then 0 else 1) := by
  rw [lput_at hs, lget_at hs]
  have hle := fnd_le k l
  cases hp : l[fnd k l]? with
  | none =>
    rw [if_neg (by simp)]
    simp only [List.length_append, List.length_cons, List.length_take, List.length_drop]
    simp
    omega
  | some p =>
    by_cases e : p.1 = k
    · rw [if_pos (by rw [← e]; rfl), List.length_set]
      simp [e]
    · rw [if_neg (by intro h; exact e (by simpa using h))]
      simp only [List.length_append, List.length_cons, List.length_take, List.length_drop]
      simp [e]
      omega
theorem lget_none_abo {k : Key} : ∀ {l : List Pr}, Abo l k → lget k l = none
  | [], _ => rfl
  | p :: l, h => by
    show (if p.1 = k then _ else lget k l) = none
    rw [if_neg (fun e => klt_ne (h p (List.mem_cons_self ..)) e.symm)]
    exact lget_none_abo fun q hq => h q (List.mem_cons_of_mem _ hq)
theorem ldrop_len {k : Key} : ∀ {l : List Pr}, Srt l → (ldrop k l).length + (if (lget k l).isSome then 1 else 0) = l.length
  | [], _ => rfl
  | p :: l, hs => by
    obtain ⟨h1, h2⟩ := List.pairwise_cons.1 hs
    by_cases e : p.1 = k
    · have ha : Abo l k := fun q hq => by rw [← e]; exact h1 q hq
      have e1 : ldrop k (p :: l) = l := by
        unfold ldrop
        rw [List.filter_cons_of_neg (by simp [e])]
        exact ldrop_abo ha
      have e2 : lget k (p :: l) = some p.2 := if_pos e
      rw [e1, e2]
      rfl
    · have e1 : ldrop k (p :: l) = p :: ldrop k l := by
        unfold ldrop
        rw [List.filter_cons_of_pos (by simp [e])]
      have e2 : lget k (p :: l) = lget k l := if_neg e
      rw [e1, e2, List.length_cons, List.length_cons, ← ldrop_len (k := k) h2]
      omega
theorem lput_srt {k : Key} {v : Int} {l : List Pr} (hs : Srt l) : Srt (lput k v l) := by
  induction l with
  | nil => exact List.pairwise_singleton ..
  | cons p l ih =>
    obtain ⟨h1, h2⟩ := List.pairwise_cons.1 hs
    show Srt (if p.1 = k then (k, v) :: l else if klt k p.1 = true then (k, v) :: p :: l else p :: lput k v l)
    by_cases e : p.1 = k
    · rw [if_pos e]
      exact List.pairwise_cons.2 ⟨fun q hq => by rw [← e]; exact h1 q hq, h2⟩
    · rw [if_neg e]
      by_cases g : klt k p.1 = true
      · rw [if_pos g]
        refine List.pairwise_cons.2 ⟨fun q hq => ?_, hs⟩
        rcases List.mem_cons.1 hq with rfl | hq
        · exact g
        · exact klt_tr g (h1 q hq)
      · rw [if_neg g]
        have hpk : klt p.1 k = true := by
          cases h : klt p.1 k with
          | true => rfl
          | false => exact absurd (klt_eq h (by simpa using g)) e
        refine List.pairwise_cons.2 ⟨fun q hq => ?_, ih h2⟩
        have : ∀ (l : List Pr) q, q ∈ lput k v l → q = (k, v) ∨ q ∈ l := by
          intro l
          induction l with
          | nil => intro q hq; exact .inl (by simpa [lput] using hq)
          | cons a l ih2 =>
            intro q hq
            have hq : q ∈ (if a.1 = k then (k, v) :: l else if klt k a.1 = true then (k, v) :: a :: l else a :: lput k v l) := hq
            split at hq
            · rcases List.mem_cons.1 hq with h | h
              · exact .inl h
              · exact .inr (List.mem_cons_of_mem _ h)
            · split at hq
              · rcases List.mem_cons.1 hq with h | h
                · exact .inl h
                · exact .inr h
              · rcases List.mem_cons.1 hq with h | h
                · exact .inr (by rw [h]; exact List.mem_cons_self ..)
                · rcases ih2 q h with h | h
                  · exact .inl h
                  · exact .inr (List.mem_cons_of_mem _ h)
        rcases this l q hq with rfl | h
        · exact hpk
        · exact h1 q h
theorem ldrop_srt {k : Key} {l : List Pr} (hs : Srt l) : Srt (ldrop k l) := List.Pairwise.sublist List.filter_sublist hs
/-- what the top of an index is -/
def Top (H : Hp) (M : Nat) (top : Value) (l : List Pr) : Prop :=
  (top = .pointer none ∧ l = []) ∨ ∃ (d p : Nat) (t : Tr d) (F : List Nat), top = .pointer (some ⟨p, 0, none⟩) ∧ TrAt H p t F ∧ Nd1 F ∧ Nd (M / 2) M 1 M t ∧ Srt (flat t) ∧ flat t = l
/-- an index at x: its order M, what it holds, no more than N calls so far -/
structure Idx (w : World) (x : Nat) (H : Hp) (M : Nat) (l : List Pr) (N : Nat) : Prop where
  hin : In w H
  ord : 2 ≤ M ∧ M ≤ 64
  blk : ∃ (top : Value) (ch : Nat), Blk w x 58 #[.int .i64 (M : Int), top, .int .i64 (l.length : Int), .int .i64 (ch : Int)] ∧ ch ≤ N ∧ Top H M top l
  cnt : l.length ≤ N
  big : N ≤ 1099511627776
def own (x : Nat) (H : Hp) : Nat → Prop := fun b => b = x ∨ foot H b
theorem Idx.lt {w : World} {x : Nat} {H : Hp} {M N : Nat} {l : List Pr} (h : Idx w x H M l N) {b : Nat} (hb : own x H b) : b < w.heap.size := by
  rcases hb with rfl | hb
  · obtain ⟨_, _, hb, _⟩ := h.blk
    exact hb.lt
  · exact h.hin.foot_lt hb
theorem Idx.turn {w w' : World} {x : Nat} {H : Hp} {M N : Nat} {l : List Pr} {G : Nat → Prop} (h : Idx w x H M l N) (ht : Turn G w w') (hG : ∀ b, G b → ¬ own x H b) : Idx w' x H M l N := by
  obtain ⟨top, ch, h1, h2, h3⟩ := h.blk
  exact ⟨h.hin.turn ht fun b e f => hG b e (.inr f), h.ord, ⟨top, ch, h1.turn ht fun e => hG x e (.inl rfl), h2, h3⟩, h.cnt, h.big⟩
theorem Idx.still {w w' : World} {x : Nat} {H : Hp} {M N : Nat} {l : List Pr} (h : Idx w x H M l N) (ht : Turn nowhere w w') : Idx w' x H M l N := h.turn ht fun _ e => e.elim
/-- no node is the index, none of its rows -/
theorem In.off {w : World} {H : Hp} (h : In w H) {x : Nat} {cs : Array Value} (hb : Blk w x 58 cs) : ¬ foot H x := by
  rintro ⟨p, nd, hp, e | e | e⟩
  · subst e
    exact (h.at_ hp).blk.ne_ hb (by decide) rfl
  · exact (h.at_ hp).prs.ne hb (by decide) _ e rfl
  · exact (h.at_ hp).kds.ne hb (by decide) _ e rfl
theorem TrAt.root {H : Hp} {d : Nat} {p : Nat} {t : Tr d} {F : List Nat} (h : TrAt H p t F) : ∃ vp vk ks, H p = some ⟨t.ps, ks, vp, vk⟩ := by
  obtain ⟨ks, _, ⟨vp, vk, h⟩, _⟩ := h.top
  exact ⟨vp, vk, ks, h⟩
theorem tput_pos {k : Key} {v : Int} {m M lo hi : Nat} (hm : m = M / 2) (h2 : 2 ≤ M) : ∀ {d : Nat} {t : Tr d}, Nd m M lo hi t → Srt (flat t) → (1 ≤ lo ∨ d = 0) → 1 ≤ (tput k v M t).ps.length
  | 0, t, hn, hs, _ => by
    obtain ⟨h1, _⟩ := tput_ok (k := k) (n := v) hm h2 hn hs
    have h1 : (tput k v M t).1 = lput k v t.1 := h1
    show 1 ≤ (tput k v M t).1.length
    rw [h1, lput_at (show Srt t.1 from hs)]
    split
    · rename_i h
      obtain ⟨p, hp, _⟩ := Option.map_eq_some_iff.1 h
      have := (List.getElem?_eq_some_iff.1 hp).1
      rw [List.length_set]
      omega
    · rw [List.length_append, List.length_cons]; omega
  | d + 1, t, hn, hs, h => by
    obtain ⟨_, h1⟩ := tput_ok (k := k) (n := v) hm h2 hn hs
    have := h1.lo
    rcases h with h | h
    · omega
    · cases h
end Go.Proofs.Ytmlkdkbpbleilaa
