/-
  Index: going through a tree: walk, at a tree. No conditions.
-/
import Derived.Test.YtmlkdkbpbleilaaIyF
namespace Go.Proofs.Ytmlkdkbpbleilaa
open Go.RowKit
open Ix
set_option linter.unusedVariables false
theorem tlr_nil {K : Nat → List Pr} (hK : ∀ i, K i = []) : ∀ (ps : List Pr) (i : Nat), tlr K ps i = ps
  | [], _ => rfl
  | p :: ps, i => by
    show p :: (K (i + 1) ++ tlr K ps (i + 1)) = _
    rw [hK, List.nil_append, tlr_nil hK ps]
theorem fdrop_leaf {k : Key} {ps : List Pr} (hs : Srt ps) : fdrop k ps = ps.drop (fnd k ps) := by
  have h1 : Bel (ps.take (fnd k ps)) k := fun p hp => by
    obtain ⟨i, hi⟩ := List.mem_iff_getElem?.1 hp
    rw [List.getElem?_take] at hi
    split at hi
    · rename_i hlt
      exact (fnd_lt hs hi).1 hlt
    · cases hi
  have h2 : Nlo (ps.drop (fnd k ps)) k := fun p hp => by
    obtain ⟨i, hi⟩ := List.mem_iff_getElem?.1 hp
    rw [List.getElem?_drop] at hi
    cases h : klt p.1 k with
    | false => rfl
    | true =>
      have := (fnd_lt hs hi).2 h
      omega
  have h3 : fdrop k (ps.take (fnd k ps) ++ ps.drop (fnd k ps)) = ps.drop (fnd k ps) := by
    rw [fdrop_app, fdrop_bel h1, fdrop_nlo h2, List.nil_append]
  rwa [List.take_append_drop] at h3
theorem tlr_post {k : Key} {K : Nat → List Pr} : ∀ (ps : List Pr) (B : List (List Pr)) (i : Nat), B.length = ps.length → Nlo (post ps B) k → (∀ j a, B[j]? = some a → K (i + 1 + j) = fdrop k a) → tlr K ps i = post ps B
  | [], [], _, _, _, _ => rfl
  | [], _ :: _, _, h, _, _ => by cases h
  | _ :: _, [], _, h, _, _ => by cases h
  | p :: ps, a :: B, i, h, hn, hK => by
    show p :: (K (i + 1) ++ tlr K ps (i + 1)) = _
    rw [post_cons] at hn ⊢
    have h1 : K (i + 1) = fdrop k a := hK 0 a rfl
    have h2 : fdrop k a = a := fdrop_nlo fun q hq => hn q (by simp [hq])
    rw [tlr_post ps B (i + 1) (by simpa using h) (fun q hq => hn q (by simp [hq])) (fun j b hb => by
      have := hK (j + 1) b hb
      rwa [show i + 1 + (j + 1) = i + 1 + 1 + j from by omega] at this), h1, h2]
    rfl
theorem inter_mem : ∀ {L : List (List Pr)} {ps : List Pr} {i : Nat} {a : List Pr}, L[i]? = some a → a.Sublist (inter L ps)
  | b :: L, [], 0, a, h => by
    obtain rfl : b = a := by simpa using h
    exact List.sublist_append_left _ _
  | b :: L, p :: ps, 0, a, h => by
    obtain rfl : b = a := by simpa using h
    exact List.sublist_append_left _ _
  | b :: L, [], i + 1, a, h => (inter_mem (L := L) (ps := []) (i := i) (by simpa using h)).trans (List.sublist_append_right _ _)
  | b :: L, p :: ps, i + 1, a, h => ((inter_mem (L := L) (ps := ps) (i := i) (by simpa using h)).cons p).trans (List.sublist_append_right _ _)
theorem walk_tree {H : Hp} {y x b : Nat} {fr to : Key} {J Jx : List Pr → World → Prop} {N : Nat} (hT : TellC y x b J Jx N) (hJ : JT J) (hin : ∀ l W, J l W → In W H) {m M : Nat} (hM : M ≤ 64) :
    ∀ {d lo : Nat} {t : Tr d} {p : Nat} {F : List Nat}, TrAt H p t F → Nd m M lo M t → Srt (flat t) → WalkC y x b fr to J Jx N p (fdrop fr (flat t))
  | 0, lo, t, p, F, ht, hn, hs => by
    obtain ⟨⟨vp, vk, hp⟩, _⟩ := ht
    have hs : Srt t.1 := hs
    have h := walk_node (fr := fr) (to := to) hT hJ hin hp hs (Nat.le_trans hn.2 hM) rfl (K := fun _ => []) (.inl ⟨rfl, fun _ => rfl⟩)
    rw [tlr_nil (fun _ => rfl), List.nil_append, ← fdrop_leaf hs] at h
    exact h
  | d + 1, lo, t, p, F, ht, hn, hs => by
    obtain ⟨ks, F', ⟨vp, vk, hp⟩, hk, _⟩ := ht
    have hs : Srt (inter (t.2.map flat) t.1) := hs
    have hlen : (t.2.map (flat (d := d))).length = t.1.length + 1 := by rw [List.length_map]; exact hn.2.2.1
    obtain ⟨A, c, B, hL, hA, hB, hsc, hsp, hfd, hnl⟩ := fdrop_at fr hlen hs
    have h := walk_node (fr := fr) (to := to) hT hJ hin hp (srt_top hn hs) (Nat.le_trans hn.2.1 hM) rfl (K := fun i => fdrop fr (((t.2.map flat)[i]?).getD [])) (.inr ⟨?_, ?_⟩)
    · have e1 : (t.2.map flat)[fnd fr t.1]? = some c := by
        rw [hL, ← hA, List.getElem?_append_right (Nat.le_refl _), Nat.sub_self]
        rfl
      have e2 : tlr (fun i => fdrop fr (((t.2.map flat)[i]?).getD [])) (t.1.drop (fnd fr t.1)) (fnd fr t.1) = post (t.1.drop (fnd fr t.1)) B := by
        refine tlr_post (k := fr) _ _ _ hB hnl fun j a ha => ?_
        have : (t.2.map flat)[fnd fr t.1 + 1 + j]? = some a := by
          rw [hL, ← hA, show A.length + 1 + j = A.length + (j + 1) from by omega, List.getElem?_append_right (Nat.le_add_right _ _), Nat.add_sub_cancel_left]
          exact ha
        show fdrop fr (((t.2.map flat)[fnd fr t.1 + 1 + j]?).getD []) = _
        rw [this]
        rfl
      rw [e2] at h
      simp only [e1, Option.getD_some] at h
      have e3 : fdrop fr (flat t) = fdrop fr c ++ post (t.1.drop (fnd fr t.1)) B := hfd
      rw [e3]
      exact h
    · intro e
      have := hk.len
      rw [e] at this
      have h2 := hn.2.2.1
      rw [← this] at h2
      cases h2
    · intro i _ hi
      obtain ⟨u, hu⟩ : ∃ u, t.2[i]? = some u := ⟨_, List.getElem?_eq_getElem (show i < t.2.length from by have := hn.2.2.1; omega)⟩
      obtain ⟨kp, G, h1, h2, _⟩ := hk.get hu
      have e1 : (t.2.map flat)[i]? = some (flat u) := by rw [List.getElem?_map, hu]; rfl
      refine ⟨kp, h1, ?_⟩
      simp only [e1, Option.getD_some]
      exact walk_tree hT hJ hin hM h2 (nd_kid hn hu) (hs.sublist (inter_mem e1))
end Go.Proofs.Ytmlkdkbpbleilaa
