/-
  Index: a kid in two, in memory. No conditions.
-/
import Derived.Test.YtmlkdkbpbleilaaIxZ
namespace Go.Proofs.Ytmlkdkbpbleilaa
open Go.RowKit
open Ix
set_option linter.unusedVariables false
set_option linter.unusedSimpArgs false
theorem split_tree {w : World} {H H' : Hp} {n x r : Nat} {d : Nat} {c : Tr d} {G xk : List Nat} (hin : In w H) (hx : TrAt H x c G) (ix : Is H x c.ps xk) (hc : Nd1 (n :: G)) (hr : w.heap.size ≤ r)
    (jx : Is H' x (c.ps.take (c.ps.length / 2)) (xk.take (c.ps.length / 2 + 1))) (jr : Is H' r (c.ps.drop (c.ps.length / 2 + 1)) (xk.drop (c.ps.length / 2 + 1))) (hs : Same H H' (fun q => q = n ∨ q = x ∨ q = r)) :
    ∃ Gl Gr, TrAt H' x (splitL c) Gl ∧ TrAt H' r (splitR c) Gr ∧ ∀ a, (Gl ++ Gr).count a = G.count a + ([r] : List Nat).count a := by
  have hlt := fun q hq => TrAt.lt hin hx q hq
  cases d with
  | zero =>
    obtain ⟨hx1, rfl⟩ := hx
    obtain ⟨_, e1⟩ := ix.inj hx1
    subst e1
    refine ⟨[x], [r], ⟨?_, rfl⟩, ⟨?_, rfl⟩, fun a => List.count_append ..⟩
    · have h := jx; rw [List.take_nil] at h; exact h
    · have h := jr; rw [List.drop_nil] at h; exact h
  | succ d =>
    obtain ⟨xk', Fx, hx1, hx2, rfl⟩ := hx
    obtain ⟨_, e1⟩ := ix.inj hx1
    subst e1
    have hh : c.2 = c.2.take (c.1.length / 2 + 1) ++ c.2.drop (c.1.length / 2 + 1) := (List.take_append_drop _ _).symm
    rw [hh] at hx2
    obtain ⟨ks1, ks2, F1, F2, rfl, rfl, h3, h4⟩ := hx2.cut
    have off : ∀ {F : List Nat}, (∀ a, (n :: (x :: (F1 ++ F2))).count a ≥ F.count a + ([n, x] : List Nat).count a) → ∀ q ∈ F, ¬ (q = n ∨ q = x ∨ q = r) := by
      intro F h q hq e
      have a1 := h q
      have a2 := hc q
      have a3 := cnt_mem hq
      rcases e with e | e | e
      · have a4 : 1 ≤ ([n, x] : List Nat).count q := cnt_mem (by simp [e])
        omega
      · have a4 : 1 ≤ ([n, x] : List Nat).count q := cnt_mem (by simp [e])
        omega
      · have a5 : q ∈ x :: (F1 ++ F2) := List.count_pos_iff.1 (by
          simp only [List.count_append, List.count_cons, List.count_nil] at a1 ⊢
          omega)
        have := hlt q a5
        omega
    have hl : ks1.length = c.2.length - (c.2.length - (c.1.length / 2 + 1)) := by
      rw [h3.len, List.length_take]; omega
    have e2 : (ks1 ++ ks2).take (c.1.length / 2 + 1) = ks1 ∧ (ks1 ++ ks2).drop (c.1.length / 2 + 1) = ks2 := by
      have l1 := h3.len
      have l2 := h4.len
      rw [List.length_take] at l1
      rw [List.length_drop] at l2
      by_cases hle : c.1.length / 2 + 1 ≤ c.2.length
      · have : ks1.length = c.1.length / 2 + 1 := by omega
        exact ⟨List.take_left' this, List.drop_left' this⟩
      · have e3 : ks2 = [] := List.eq_nil_of_length_eq_zero (by omega)
        subst e3
        rw [List.append_nil]
        exact ⟨List.take_of_length_le (by omega), List.drop_of_length_le (by omega)⟩
    have jx : Is H' x (c.1.take (c.1.length / 2)) ((ks1 ++ ks2).take (c.1.length / 2 + 1)) := jx
    have jr : Is H' r (c.1.drop (c.1.length / 2 + 1)) ((ks1 ++ ks2).drop (c.1.length / 2 + 1)) := jr
    rw [e2.1] at jx
    rw [e2.2] at jr
    refine ⟨x :: F1, r :: F2, ⟨ks1, F1, jx, h3.same hs (off fun a => ?_), rfl⟩, ⟨ks2, F2, jr, h4.same hs (off fun a => ?_), rfl⟩, fun a => ?_⟩
    · simp only [List.count_append, List.count_cons, List.count_nil]; omega
    · simp only [List.count_append, List.count_cons, List.count_nil]; omega
    · simp only [List.count_append, List.count_cons, List.count_nil]; omega
/-- a kid in two: the parent put together -/
theorem after_split {w w' : World} {H H' : Hp} {n r i : Nat} {d : Nat} {t : Tr (d + 1)} {F : List Nat} {c : Tr d} {ps' : List Pr} {ks xk : List Nat} {x : Nat} (hin : In w H) (ht : TrAt H n t F) (hnd : Nd1 F) (hc : t.2[i]? = some c) (hn : Is H n t.1 ks) (hx : ks[i]? = some x) (ix : Is H x c.ps xk) (hr : w.heap.size ≤ r) (hto : To w H w' H')
    (jn : Is H' n ps' (ks.take (i + 1) ++ r :: ks.drop (i + 1))) (jx : Is H' x (c.ps.take (c.ps.length / 2)) (xk.take (c.ps.length / 2 + 1))) (jr : Is H' r (c.ps.drop (c.ps.length / 2 + 1)) (xk.drop (c.ps.length / 2 + 1))) (hs : Same H H' (fun q => q = n ∨ q = x ∨ q = r)) :
    After w H n F (nodeT ps' (t.2.take i ++ splitL c :: splitR c :: t.2.drop (i + 1))) w' := by
  have hlt := fun q hq => TrAt.lt hin ht q hq
  obtain ⟨ks1, y, ks2, F1, G, F2, q1, q2, q3, q4, q5, rfl⟩ := one_kid ht hc
  obtain ⟨_, e⟩ := hn.inj q1
  subst e
  obtain rfl : y = x := by
    have := ks_at1 (x := y) (ks2 := ks2) q2
    rw [this] at hx
    exact Option.some.inj hx
  have hnG : Nd1 (n :: G) := fun a => by
    have := hnd a
    simp only [List.count_append, List.count_cons] at this ⊢
    omega
  obtain ⟨Gl, Gr, t1, t2, t3⟩ := split_tree hin q4 ix hnG hr jx jr hs
  have e2 : (ks1 ++ y :: ks2).take (i + 1) ++ r :: (ks1 ++ y :: ks2).drop (i + 1) = ks1 ++ y :: r :: ks2 := by
    subst q2
    rw [List.take_length_add_append, List.drop_length_add_append]
    simp
  rw [e2] at jn
  have rG : ∀ q, q = r → ∀ {F : List Nat}, (∀ q ∈ F, q < w.heap.size) → q ∉ F := fun q e F h hq => by
    have := h q hq
    omega
  have off : ∀ {F : List Nat}, (∀ a, (n :: (F1 ++ (G ++ F2))).count a ≥ F.count a + (n :: G).count a) → (∀ q ∈ F, q < w.heap.size) → ∀ q ∈ F, ¬ (q = n ∨ q = y ∨ q = r) := by
    intro F h hl q hq e
    have a1 := h q
    have a2 := hnd q
    have a3 := cnt_mem hq
    rcases e with e | e | e
    · have a4 : 1 ≤ (n :: G).count q := cnt_mem (by simp [e])
      omega
    · have a4 : 1 ≤ (n :: G).count q := cnt_mem (by rw [e]; exact List.mem_cons_of_mem _ q4.mem)
      omega
    · exact rG q e hl hq
  have t3' : ∀ a, Gl.count a + Gr.count a = G.count a + ([r] : List Nat).count a := fun a => by
    have := t3 a
    rwa [List.count_append] at this
  refine ⟨H', n :: (F1 ++ (Gl ++ (Gr ++ F2))), hto, ⟨_, F1 ++ (Gl ++ (Gr ++ F2)), jn, (q3.same hs (off (fun a => ?_) fun q hq => hlt q (by simp [hq]))).app ⟨Gl, Gr ++ F2, rfl, t1, ⟨Gr, F2, rfl, t2, q5.same hs (off (fun a => ?_) fun q hq => hlt q (by simp [hq]))⟩⟩, rfl⟩, fun a => ?_, fun q hq => ?_, fun q hq hl => hs q ?_⟩
  · simp only [List.count_append, List.count_cons]; omega
  · simp only [List.count_append, List.count_cons]; omega
  · have a1 := hnd a
    have a2 := t3' a
    have a3 : 1 ≤ ([r] : List Nat).count a → (n :: (F1 ++ (G ++ F2))).count a = 0 := fun h => by
      have e : a = r := by simpa using List.count_pos_iff.1 h
      rcases Nat.eq_zero_or_pos ((n :: (F1 ++ (G ++ F2))).count a) with h0 | h0
      · exact h0
      · exact absurd (List.count_pos_iff.1 h0) (rG a e hlt)
    have a4 : ([r] : List Nat).count a ≤ 1 := by simp only [List.count_cons, List.count_nil]; split <;> omega
    simp only [List.count_append, List.count_cons] at a1 a3 ⊢
    simp only [List.count_nil, List.count_cons] at a2 a3 a4
    omega
  · have h1 := cnt_mem hq
    have a2 := t3' q
    by_cases e : q = r
    · exact .inr (by omega)
    · refine .inl (List.count_pos_iff.1 ?_)
      have a4 : ([r] : List Nat).count q = 0 := List.count_eq_zero.2 (by simp [e])
      simp only [List.count_append, List.count_cons] at h1 ⊢
      rw [a4] at a2
      omega
  · rintro (e | e | e)
    · exact hq (by rw [e]; exact List.mem_cons_self ..)
    · exact hq (by rw [e]; have := q4.mem; simp [this])
    · omega
/-- a pair's number set, in its row -/
theorem orw_num {w w' : World} {b n c i : Nat} {ps : List Pr} {q : Pr} {v : Int} (h : Orw w 0 65 2 (.slice (some ⟨b, 0, none⟩) n c) (ps.map encP)) {cur : Array Value} (hb : Blk w b 65 cur) (hb' : Blk w' b 65 (cur.setIfInBounds (0 + i * 2 + 1) (.int .i64 v))) (hi : i < n) (hq : ps[i]? = some q) : Orw w' 0 65 2 (.slice (some ⟨b, 0, none⟩) n c) ((ps.set i (q.1, v)).map encP) := by
  have hel := h.el0 (i := i) (r := encP q) (by rw [List.getElem?_map, hq]; rfl) 0 (strV q.1) rfl
  rw [hb.cell] at hel
  obtain ⟨cur0, hcur, hcs, _, hn, hnc, _, _⟩ := orw_block h
  obtain rfl := hcur.inj hb
  rw [List.map_set]
  refine orw_set h hb hb' (by rw [Array.size_setIfInBounds]) hi rfl (encP_one _) (fun j => ?_) (by decide)
  rw [Array.getElem?_setIfInBounds]
  by_cases h1 : 0 + i * 2 + 1 = j
  · rw [if_pos h1, if_pos (by omega), if_pos (by omega), show j - i * 2 = 1 from by omega]
    rfl
  · rw [if_neg h1]
    by_cases h2 : i * 2 ≤ j ∧ j < i * 2 + 2
    · rw [if_pos h2, show j - i * 2 = 0 from by omega, show j = 0 + i * 2 + 0 from by omega]
      exact hel
    · rw [if_neg h2]
end Go.Proofs.Ytmlkdkbpbleilaa
