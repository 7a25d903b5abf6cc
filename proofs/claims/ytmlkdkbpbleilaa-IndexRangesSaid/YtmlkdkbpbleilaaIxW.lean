/-
  Index: what calls leave of a tree, one behind the other. No conditions.
-/
import Derived.Test.YtmlkdkbpbleilaaIxV
namespace Go.Proofs.Ytmlkdkbpbleilaa
open Go.RowKit
open Ix
set_option linter.unusedVariables false
set_option linter.unusedSimpArgs false
structure AfterX (w : World) (H : Hp) (p : Nat) (F : List Nat) {d : Nat} (t' : Tr d) (w' : World) (H' : Hp) (F' : List Nat) : Prop where
  to : To w H w' H'
  tr : TrAt H' p t' F'
  nd : Nd1 F'
  sub : ∀ q ∈ F', q ∈ F ∨ w.heap.size ≤ q
  off : ∀ q, q ∉ F → q < w.heap.size → H' q = H q
theorem After.x {w w' : World} {H : Hp} {p : Nat} {F : List Nat} {d : Nat} {t' : Tr d} (h : After w H p F t' w') : ∃ H' F', AfterX w H p F t' w' H' F' := by
  obtain ⟨H', F', h1, h2, h3, h4, h5⟩ := h
  exact ⟨H', F', h1, h2, h3, h4, h5⟩
theorem AfterX.a {w w' : World} {H H' : Hp} {p : Nat} {F F' : List Nat} {d : Nat} {t' : Tr d} (h : AfterX w H p F t' w' H' F') : After w H p F t' w' := ⟨H', F', h.to, h.tr, h.nd, h.sub, h.off⟩
theorem AfterX.trans {w w1 w2 : World} {H H1 H2 : Hp} {p : Nat} {F F1 F2 : List Nat} {d : Nat} {t1 t2 : Tr d} (h : AfterX w H p F t1 w1 H1 F1) (g : AfterX w1 H1 p F1 t2 w2 H2 F2) : AfterX w H p F t2 w2 H2 F2 := by
  have hs := h.to.turn.size
  refine ⟨h.to.trans g.to, g.tr, g.nd, fun q hq => ?_, fun q hq hl => ?_⟩
  · rcases g.sub q hq with h1 | h1
    · exact h.sub q h1
    · exact .inr (by omega)
  · rw [g.off q (fun e => by rcases h.sub q e with h1 | h1; exact hq h1; omega) (by omega)]
    exact h.off q hq hl
theorem AfterX.pre {w w1 w' : World} {H H' : Hp} {p : Nat} {F F' : List Nat} {d : Nat} {t' : Tr d} (hin : In w H) (ht : Turn nowhere w w1) (h : AfterX w1 H p F t' w' H' F') : AfterX w H p F t' w' H' F' := by
  have hs := ht.size
  exact ⟨(To.still hin ht).trans h.to, h.tr, h.nd, fun q hq => by
    rcases h.sub q hq with h1 | h1
    · exact .inl h1
    · exact .inr (by omega), fun q hq hl => h.off q hq (by omega)⟩
theorem AfterX.aux {w w1 w' : World} {H H' : Hp} {p g : Nat} {F F' : List Nat} {d : Nat} {t' : Tr d} {ty : TypeId} {cs : Array Value} (h : AfterX w H p F t' w1 H' F') (hg : w.heap.size ≤ g) (ha : Aux w1 H' g ty cs) (ht : Turn (only g) w1 w') : AfterX w H p F t' w' H' F' :=
  ⟨h.to.aux hg ha ht, h.tr, h.nd, h.sub, h.off⟩
theorem AfterX.post {w w1 w' : World} {H H' : Hp} {p : Nat} {F F' : List Nat} {d : Nat} {t' : Tr d} (h : AfterX w H p F t' w1 H' F') (ht : Turn nowhere w1 w') : AfterX w H p F t' w' H' F' :=
  ⟨h.to.trans (To.still h.to.in_ ht), h.tr, h.nd, h.sub, h.off⟩
/-- nothing done -/
theorem AfterX.refl {w : World} {H : Hp} {p : Nat} {F : List Nat} {d : Nat} {t : Tr d} (hin : In w H) (ht : TrAt H p t F) (hnd : Nd1 F) : AfterX w H p F t w H F := ⟨To.refl hin, ht, hnd, fun q hq => .inl hq, fun _ _ _ => rfl⟩
/-- a lowest node changed -/
theorem after_leaf {w w' : World} {H H' : Hp} {p : Nat} {ps' : List Pr} (hto : To w H w' H') (his : Is H' p ps' []) (hs : Same H H' (fun q => q = p)) : AfterX (d := 0) w H p [p] (ps', ()) w' H' [p] :=
  ⟨hto, ⟨his, rfl⟩, fun a => by simp only [List.count_cons, List.count_nil]; split <;> omega, fun q hq => .inl hq, fun q hq _ => hs q fun e => hq (by rw [e]; exact List.mem_cons_self ..)⟩
/-- one kid changed -/
theorem after_kid {w w' : World} {H H' : Hp} {n x i : Nat} {d : Nat} {t : Tr (d + 1)} {ks1 ks2 F1 Gx F2 G' : List Nat} {tx' : Tr d} (hin : In w H) (hnd : Nd1 (n :: (F1 ++ (Gx ++ F2)))) (hlt : ∀ q ∈ n :: (F1 ++ (Gx ++ F2)), q < w.heap.size) (hn : Is H n t.1 (ks1 ++ x :: ks2))
    (h1 : KidsAt (TrAt H (d := d)) ks1 (t.2.take i) F1) (h2 : KidsAt (TrAt H (d := d)) ks2 (t.2.drop (i + 1)) F2) (hi : i < t.2.length) (ha : AfterX w H x Gx tx' w' H' G') : AfterX w H n (n :: (F1 ++ (Gx ++ F2))) (nodeT t.1 (t.2.set i tx')) w' H' (n :: (F1 ++ (G' ++ F2))) := by
  have hout : ∀ {F : List Nat}, (∀ a, (n :: (F1 ++ (Gx ++ F2))).count a ≥ F.count a + Gx.count a) → (∀ q ∈ F, q < w.heap.size) → ∀ q ∈ F, ¬ (¬ (q ∉ Gx ∧ q < w.heap.size)) := by
    intro F h hl q hq e
    apply e
    refine ⟨fun e2 => ?_, hl q hq⟩
    have a1 := h q
    have a2 := hnd q
    have a3 := cnt_mem hq
    have a4 := cnt_mem e2
    omega
  have hs : Same H H' (fun q => ¬ (q ∉ Gx ∧ q < w.heap.size)) := fun q hq => by
    have hq : q ∉ Gx ∧ q < w.heap.size := Decidable.of_not_not hq
    exact ha.off q hq.1 hq.2
  have m1 : ∀ q ∈ F1, q < w.heap.size := fun q hq => hlt q (by simp [hq])
  have m2 : ∀ q ∈ F2, q < w.heap.size := fun q hq => hlt q (by simp [hq])
  have m0 : ∀ q ∈ [n], q < w.heap.size := fun q hq => hlt q (by simp at hq; simp [hq])
  have hG : ∀ a, 1 ≤ (n :: (F1 ++ F2)).count a → G'.count a = 0 := by
    intro a h
    rcases Nat.eq_zero_or_pos (G'.count a) with h0 | h0
    · exact h0
    · exfalso
      rcases ha.sub a (List.count_pos_iff.1 h0) with h3 | h3
      · have := hnd a
        have := cnt_mem h3
        simp only [List.count_append, List.count_cons] at *
        omega
      · have := hlt a (by
          have := List.count_pos_iff.1 h
          simp only [List.mem_cons, List.mem_append] at this ⊢
          rcases this with h | h | h
          · exact .inl h
          · exact .inr (.inl h)
          · exact .inr (.inr (.inr h)))
        omega
  refine ⟨ha.to, ⟨ks1 ++ x :: ks2, F1 ++ (G' ++ F2), hn.same hs (hout (F := [n]) (fun a => ?_) m0 n (List.mem_cons_self ..)), ?_, rfl⟩, fun a => ?_, fun q hq => ?_, fun q hq hl => ?_⟩
  · simp only [List.count_append, List.count_cons, List.count_nil]; omega
  · show KidsAt _ _ (t.2.set i tx') _
    rw [set_at _ _ _ hi]
    exact (h1.same hs (hout (fun a => by simp only [List.count_append, List.count_cons]; omega) m1)).app ⟨G', F2, rfl, ha.tr, h2.same hs (hout (fun a => by simp only [List.count_append, List.count_cons]; omega) m2)⟩
  · have a1 := hnd a
    have a2 := ha.nd a
    have a3 := hG a
    simp only [List.count_append, List.count_cons] at a1 a3 ⊢
    omega
  · have hq : q ∈ n :: (F1 ++ (G' ++ F2)) := hq
    simp only [List.mem_cons, List.mem_append] at hq ⊢
    rcases hq with h | h | h | h
    · exact .inl (.inl h)
    · exact .inl (.inr (.inl h))
    · rcases ha.sub q h with h3 | h3
      · exact .inl (.inr (.inr (.inl h3)))
      · exact .inr h3
    · exact .inl (.inr (.inr (.inr h)))
  · exact ha.off q (fun e => hq (by simp [e])) hl
/-- a node's pairs changed, its kids the same -/
theorem after_pairs {w w' : World} {H H' : Hp} {n : Nat} {d : Nat} {t : Tr (d + 1)} {F : List Nat} {ps' : List Pr} {ks : List Nat} (ht : TrAt H n t F) (hnd : Nd1 F) (hks : Is H n t.1 ks) (hto : To w H w' H') (his : Is H' n ps' ks) (hs : Same H H' (fun q => q = n)) : AfterX w H n F (nodeT ps' t.2) w' H' F := by
  obtain ⟨ks', F', h1, h2, rfl⟩ := ht
  obtain ⟨_, e⟩ := hks.inj h1
  subst e
  refine ⟨hto, ⟨ks, F', his, h2.same hs fun q hq e => ?_, rfl⟩, hnd, fun q hq => .inl hq, fun q hq _ => hs q fun e => hq (by rw [e]; exact List.mem_cons_self ..)⟩
  subst e
  have := hnd q
  have := cnt_mem hq
  simp only [List.count_cons, beq_self_eq_true, if_true] at *
  omega
end Go.Proofs.Ytmlkdkbpbleilaa
