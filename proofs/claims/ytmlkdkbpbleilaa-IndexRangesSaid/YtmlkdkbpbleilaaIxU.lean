/-
  Index: a tree in memory, two neighbours, one kid: taken apart and put together. No conditions.
-/
import Derived.Test.YtmlkdkbpbleilaaIxO
namespace Go.Proofs.Ytmlkdkbpbleilaa
open Go.RowKit
open Ix
set_option linter.unusedVariables false
set_option linter.unusedSimpArgs false
section
variable {w w' : World} {H H' : Hp} {n x y : Nat}
theorem off3 {Gx Gy F : List Nat} (hc : Nd1 (n :: (Gx ++ Gy))) (hx : x ∈ Gx) (hy : y ∈ Gy) (h : ∀ a, (n :: (Gx ++ Gy)).count a ≥ F.count a + ([n, x, y] : List Nat).count a) : ∀ q ∈ F, ¬ (q = n ∨ q = x ∨ q = y) := by
  intro q hq e
  have h1 := h q
  have h2 := hc q
  have h3 := cnt_mem hq
  have h4 : 1 ≤ ([n, x, y] : List Nat).count q := cnt_mem (by rcases e with rfl | rfl | rfl <;> simp)
  omega
theorem lendR_tree {d : Nat} {tx ty : Tr d} {Gx Gy : List Nat} {xk yk : List Nat} {p0 q0 : Pr} (hx : TrAt H x tx Gx) (hy : TrAt H y ty Gy) (ix : Is H x tx.ps xk) (iy : Is H y ty.ps yk) (hc : Nd1 (n :: (Gx ++ Gy))) (hq : ty.ps[0]? = some q0)
    (jx : Is H' x (tx.ps ++ [p0]) (xk ++ (yk[0]?).toList)) (jy : Is H' y (ty.ps.drop 1) (yk.drop 1)) (hs : Same H H' (fun q => q = n ∨ q = x ∨ q = y)) :
    ∃ Gx' Gy', TrAt H' x (lendR tx p0 ty).1 Gx' ∧ TrAt H' y (lendR tx p0 ty).2.2 Gy' ∧ (∀ a, (Gx' ++ Gy').count a = (Gx ++ Gy).count a) ∧ (lendR tx p0 ty).2.1 = q0 := by
  cases d with
  | zero =>
    obtain ⟨hx1, rfl⟩ := hx
    obtain ⟨hy1, rfl⟩ := hy
    obtain ⟨_, e1⟩ := ix.inj hx1
    obtain ⟨_, e2⟩ := iy.inj hy1
    subst e1 e2
    refine ⟨[x], [y], ⟨jx, rfl⟩, ⟨jy, rfl⟩, fun a => rfl, ?_⟩
    show (ty.1[0]?).getD _ = q0
    have hq : ty.1[0]? = some q0 := hq
    rw [hq]
    rfl
  | succ d =>
    obtain ⟨xk', Fx, hx1, hx2, rfl⟩ := hx
    obtain ⟨yk', Fy, hy1, hy2, rfl⟩ := hy
    obtain ⟨_, e1⟩ := ix.inj hx1
    obtain ⟨_, e2⟩ := iy.inj hy1
    subst e1 e2
    have key : ∃ F1 F2, Fy = F1 ++ F2 ∧ KidsAt (TrAt H (d := d)) (yk[0]?).toList (ty.2[0]?).toList F1 ∧ KidsAt (TrAt H (d := d)) (yk.drop 1) (ty.2.drop 1) F2 := by
      rcases hty : ty.2 with _ | ⟨z, ts⟩
      · rw [hty] at hy2
        have e4 : yk = [] := List.eq_nil_of_length_eq_zero hy2.len
        rw [e4] at hy2
        have hy2 : Fy = [] := hy2
        rw [e4, hy2]
        exact ⟨[], [], rfl, rfl, rfl⟩
      · rw [hty] at hy2
        obtain ⟨kz, ks', G, F', e7, e8, h5, h6⟩ := hy2.cons
        rw [e7]
        exact ⟨G, F', e8, KidsAt.one h5, h6⟩
    obtain ⟨F1, F2, e4, h3, h4⟩ := key
    subst e4
    have off : ∀ {F : List Nat}, (∀ a, (n :: ((x :: Fx) ++ (y :: (F1 ++ F2)))).count a ≥ F.count a + ([n, x, y] : List Nat).count a) → ∀ q ∈ F, ¬ (q = n ∨ q = x ∨ q = y) := fun h => off3 hc (List.mem_cons_self ..) (List.mem_cons_self ..) h
    refine ⟨x :: (Fx ++ F1), y :: F2, ⟨_, Fx ++ F1, jx, (hx2.same hs (off fun a => ?_)).app (h3.same hs (off fun a => ?_)), rfl⟩, ⟨_, F2, jy, h4.same hs (off fun a => ?_), rfl⟩, fun a => ?_, ?_⟩
    · simp only [List.count_append, List.count_cons, List.count_nil]; omega
    · simp only [List.count_append, List.count_cons, List.count_nil]; omega
    · simp only [List.count_append, List.count_cons, List.count_nil]; omega
    · simp only [List.count_append, List.count_cons, List.count_nil]; omega
    · show (ty.1[0]?).getD _ = q0
      have hq : ty.1[0]? = some q0 := hq
      rw [hq]
      rfl
theorem join_tree {d : Nat} {tx ty : Tr d} {Gx Gy : List Nat} {xk yk : List Nat} {p0 : Pr} (hx : TrAt H x tx Gx) (hy : TrAt H y ty Gy) (ix : Is H x tx.ps xk) (iy : Is H y ty.ps yk) (hc : Nd1 (n :: (Gx ++ Gy)))
    (jx : Is H' x (tx.ps ++ [p0] ++ ty.ps) (xk ++ yk)) (hs : Same H H' (fun q => q = n ∨ q = x ∨ q = y)) :
    ∃ G', TrAt H' x (joinK tx p0 ty) G' ∧ ∀ a, G'.count a + ([y] : List Nat).count a = (Gx ++ Gy).count a := by
  have e0 : tx.ps ++ [p0] ++ ty.ps = tx.ps ++ p0 :: ty.ps := by rw [List.append_assoc]; rfl
  rw [e0] at jx
  cases d with
  | zero =>
    obtain ⟨hx1, rfl⟩ := hx
    obtain ⟨hy1, rfl⟩ := hy
    obtain ⟨_, e1⟩ := ix.inj hx1
    obtain ⟨_, e2⟩ := iy.inj hy1
    subst e1 e2
    exact ⟨[x], ⟨jx, rfl⟩, fun a => by simp only [List.count_append]⟩
  | succ d =>
    obtain ⟨xk', Fx, hx1, hx2, rfl⟩ := hx
    obtain ⟨yk', Fy, hy1, hy2, rfl⟩ := hy
    obtain ⟨_, e1⟩ := ix.inj hx1
    obtain ⟨_, e2⟩ := iy.inj hy1
    subst e1 e2
    have off : ∀ {F : List Nat}, (∀ a, (n :: ((x :: Fx) ++ (y :: Fy))).count a ≥ F.count a + ([n, x, y] : List Nat).count a) → ∀ q ∈ F, ¬ (q = n ∨ q = x ∨ q = y) := fun h => off3 hc (List.mem_cons_self ..) (List.mem_cons_self ..) h
    refine ⟨x :: (Fx ++ Fy), ⟨_, Fx ++ Fy, jx, (hx2.same hs (off fun a => ?_)).app (hy2.same hs (off fun a => ?_)), rfl⟩, fun a => ?_⟩
    · simp only [List.count_append, List.count_cons, List.count_nil]; omega
    · simp only [List.count_append, List.count_cons, List.count_nil]; omega
    · simp only [List.count_append, List.count_cons, List.count_nil]; omega
/-- a node's two neighbours -/
theorem two_kids {d : Nat} {t : Tr (d + 1)} {F : List Nat} {i : Nat} {tx ty : Tr d} (h : TrAt H n t F) (hx : t.2[i]? = some tx) (hy : t.2[i + 1]? = some ty) : ∃ ks1 x y ks2 F1 Gx Gy F2, Is H n t.1 (ks1 ++ x :: y :: ks2) ∧ ks1.length = i ∧ KidsAt (TrAt H (d := d)) ks1 (t.2.take i) F1 ∧ TrAt H x tx Gx ∧ TrAt H y ty Gy ∧
    KidsAt (TrAt H (d := d)) ks2 (t.2.drop (i + 2)) F2 ∧ F = n :: (F1 ++ (Gx ++ (Gy ++ F2))) := by
  obtain ⟨ks, F', h1, h2, rfl⟩ := h
  have hi := (List.getElem?_eq_some_iff.1 hx).1
  rw [two_cut hx hy] at h2
  obtain ⟨ks1, ks2, F1, F2, rfl, rfl, h3, h4⟩ := h2.cut
  obtain ⟨x, ks3, Gx, F3, rfl, rfl, h5, h6⟩ := h4.cons
  obtain ⟨y, ks4, Gy, F4, rfl, rfl, h7, h8⟩ := h6.cons
  exact ⟨ks1, x, y, ks4, F1, Gx, Gy, F4, h1, by rw [h3.len, List.length_take]; omega, h3, h5, h7, h8, rfl⟩
theorem one_kid {d : Nat} {t : Tr (d + 1)} {F : List Nat} {i : Nat} {tx : Tr d} (h : TrAt H n t F) (hx : t.2[i]? = some tx) : ∃ ks1 x ks2 F1 Gx F2, Is H n t.1 (ks1 ++ x :: ks2) ∧ ks1.length = i ∧ KidsAt (TrAt H (d := d)) ks1 (t.2.take i) F1 ∧ TrAt H x tx Gx ∧
    KidsAt (TrAt H (d := d)) ks2 (t.2.drop (i + 1)) F2 ∧ F = n :: (F1 ++ (Gx ++ F2)) := by
  obtain ⟨ks, F', h1, h2, rfl⟩ := h
  have hi := (List.getElem?_eq_some_iff.1 hx).1
  rw [one_cut hx] at h2
  obtain ⟨ks1, ks2, F1, F2, rfl, rfl, h3, h4⟩ := h2.cut
  obtain ⟨x, ks3, Gx, F3, rfl, rfl, h5, h6⟩ := h4.cons
  exact ⟨ks1, x, ks3, F1, Gx, F3, h1, by rw [h3.len, List.length_take]; omega, h3, h5, h6, rfl⟩
theorem ks_at {ks1 ks2 : List Nat} {x y i : Nat} (h : ks1.length = i) : (ks1 ++ x :: y :: ks2)[i]? = some x ∧ (ks1 ++ x :: y :: ks2)[i + 1]? = some y := by
  subst h
  constructor
  · rw [List.getElem?_append_right (Nat.le_refl _), Nat.sub_self]; rfl
  · rw [List.getElem?_append_right (by omega), show ks1.length + 1 - ks1.length = 1 from by omega]; rfl
theorem ks_at1 {ks1 ks2 : List Nat} {x i : Nat} (h : ks1.length = i) : (ks1 ++ x :: ks2)[i]? = some x := by
  subst h
  rw [List.getElem?_append_right (Nat.le_refl _), Nat.sub_self]; rfl
theorem ks_cut {ks1 ks2 : List Nat} {x y i : Nat} (h : ks1.length = i) : (ks1 ++ x :: y :: ks2).take (i + 1) ++ (ks1 ++ x :: y :: ks2).drop (i + 1 + 1) = ks1 ++ x :: ks2 := by
  subst h
  rw [List.take_length_add_append, show ks1.length + 1 + 1 = ks1.length + 2 from rfl, List.drop_length_add_append]
  simp
end
/-- lends: the parent put together -/
theorem after_two {w w' : World} {H H' : Hp} {n x y i : Nat} {d : Nat} {t : Tr (d + 1)} {ks1 ks2 F1 Gx Gy F2 Gx' Gy' : List Nat} {tx' ty' : Tr d} {ps' : List Pr} (hin : In w H) (hnd : Nd1 (n :: (F1 ++ (Gx ++ (Gy ++ F2))))) (hlt : ∀ q ∈ n :: (F1 ++ (Gx ++ (Gy ++ F2))), q < w.heap.size)
    (h1 : KidsAt (TrAt H (d := d)) ks1 (t.2.take i) F1) (h2 : KidsAt (TrAt H (d := d)) ks2 (t.2.drop (i + 2)) F2) (hx : x ∈ Gx) (hy : y ∈ Gy) (hto : To w H w' H') (jn : Is H' n ps' (ks1 ++ x :: y :: ks2)) (jx : TrAt H' x tx' Gx') (jy : TrAt H' y ty' Gy') (hcnt : ∀ a, (Gx' ++ Gy').count a = (Gx ++ Gy).count a)
    (hs : Same H H' (fun q => q = n ∨ q = x ∨ q = y)) : After w H n (n :: (F1 ++ (Gx ++ (Gy ++ F2)))) (nodeT ps' (t.2.take i ++ tx' :: ty' :: t.2.drop (i + 2))) w' := by
  have off : ∀ {F : List Nat}, (∀ a, (n :: (F1 ++ (Gx ++ (Gy ++ F2)))).count a ≥ F.count a + (n :: (Gx ++ Gy)).count a) → ∀ q ∈ F, ¬ (q = n ∨ q = x ∨ q = y) := by
    intro F h q hq e
    have a1 := h q
    have a2 := hnd q
    have a3 := cnt_mem hq
    have a4 : 1 ≤ (n :: (Gx ++ Gy)).count q := cnt_mem (by rcases e with rfl | rfl | rfl <;> simp [hx, hy])
    omega
  have hc2 : ∀ a, Gx'.count a + Gy'.count a = Gx.count a + Gy.count a := fun a => by
    have := hcnt a
    rw [List.count_append, List.count_append] at this
    exact this
  have hall : ∀ a, (n :: (F1 ++ (Gx' ++ (Gy' ++ F2)))).count a = (n :: (F1 ++ (Gx ++ (Gy ++ F2)))).count a := fun a => by
    have := hc2 a
    simp only [List.count_append, List.count_cons]; omega
  refine ⟨H', n :: (F1 ++ (Gx' ++ (Gy' ++ F2))), hto, ⟨_, F1 ++ (Gx' ++ (Gy' ++ F2)), jn, (h1.same hs (off fun a => ?_)).app ⟨Gx', Gy' ++ F2, rfl, jx, ⟨Gy', F2, rfl, jy, h2.same hs (off fun a => ?_)⟩⟩, rfl⟩, fun a => by rw [hall]; exact hnd a, fun q hq => .inl ?_, fun q hq hlt2 => hs q ?_⟩
  · simp only [List.count_append, List.count_cons]; omega
  · simp only [List.count_append, List.count_cons]; omega
  · have h3 := cnt_mem hq
    rw [hall] at h3
    exact List.count_pos_iff.1 h3
  · rintro (rfl | rfl | rfl)
    · exact hq (List.mem_cons_self ..)
    · exact hq (by simp [hx])
    · exact hq (by simp [hy])
/-- a join: the parent put together -/
theorem after_join {w w' : World} {H H' : Hp} {n x y i : Nat} {d : Nat} {t : Tr (d + 1)} {ks1 ks2 F1 Gx Gy F2 G' : List Nat} {tz : Tr d} {ps' : List Pr} (hin : In w H) (hnd : Nd1 (n :: (F1 ++ (Gx ++ (Gy ++ F2)))))
    (h1 : KidsAt (TrAt H (d := d)) ks1 (t.2.take i) F1) (h2 : KidsAt (TrAt H (d := d)) ks2 (t.2.drop (i + 2)) F2) (hx : x ∈ Gx) (hy : y ∈ Gy) (hto : To w H w' H') (jn : Is H' n ps' (ks1 ++ x :: ks2)) (jx : TrAt H' x tz G') (hcnt : ∀ a, G'.count a + ([y] : List Nat).count a = (Gx ++ Gy).count a)
    (hs : Same H H' (fun q => q = n ∨ q = x ∨ q = y)) : After w H n (n :: (F1 ++ (Gx ++ (Gy ++ F2)))) (nodeT ps' (t.2.take i ++ tz :: t.2.drop (i + 2))) w' := by
  have off : ∀ {F : List Nat}, (∀ a, (n :: (F1 ++ (Gx ++ (Gy ++ F2)))).count a ≥ F.count a + (n :: (Gx ++ Gy)).count a) → ∀ q ∈ F, ¬ (q = n ∨ q = x ∨ q = y) := by
    intro F h q hq e
    have a1 := h q
    have a2 := hnd q
    have a3 := cnt_mem hq
    have a4 : 1 ≤ (n :: (Gx ++ Gy)).count q := cnt_mem (by rcases e with rfl | rfl | rfl <;> simp [hx, hy])
    omega
  have hc2 : ∀ a, G'.count a ≤ Gx.count a + Gy.count a := fun a => by
    have := hcnt a
    rw [List.count_append] at this
    omega
  have hall : ∀ a, (n :: (F1 ++ (G' ++ F2))).count a ≤ (n :: (F1 ++ (Gx ++ (Gy ++ F2)))).count a := fun a => by
    have := hc2 a
    simp only [List.count_append, List.count_cons]; omega
  refine ⟨H', n :: (F1 ++ (G' ++ F2)), hto, ⟨_, F1 ++ (G' ++ F2), jn, (h1.same hs (off fun a => ?_)).app ⟨G', F2, rfl, jx, h2.same hs (off fun a => ?_)⟩, rfl⟩, fun a => Nat.le_trans (hall a) (hnd a), fun q hq => .inl ?_, fun q hq hlt2 => hs q ?_⟩
  · simp only [List.count_append, List.count_cons]; omega
  · simp only [List.count_append, List.count_cons]; omega
  · have h3 := cnt_mem hq
    exact List.count_pos_iff.1 (Nat.le_trans h3 (hall q))
  · rintro (rfl | rfl | rfl)
    · exact hq (List.mem_cons_self ..)
    · exact hq (by simp [hx])
    · exact hq (by simp [hy])
end Go.Proofs.Ytmlkdkbpbleilaa
