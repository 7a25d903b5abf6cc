/-
  Index: a kid with one pair too few is mended. No conditions.
-/
import Derived.Test.YtmlkdkbpbleilaaIxU
namespace Go.Proofs.Ytmlkdkbpbleilaa
open Go.RowKit
open Ix
set_option linter.unusedVariables false
set_option linter.unusedSimpArgs false
theorem wpList_skip {P : Program} {ops : Array Oper} {rest : List Oper} {o : Oper} {a : Act} {w : World} {Q : Exit → Act → World → Prop} (hgd : Region.wanted o (yielded ops a.tmps) = false) (h : wpList P ops Q rest (a.put o.dst undef) w) : wpList P ops Q (o :: rest) a w :=
  wpList_step fun K hK => by
    rw [if_neg (by rw [hgd]; decide)]
    exact hK _ _ h
theorem TrAt.mem {H : Hp} {d : Nat} {p : Nat} {t : Tr d} {F : List Nat} (h : TrAt H p t F) : p ∈ F := by
  obtain ⟨ks, F', _, rfl⟩ := h.top
  exact List.mem_cons_self ..
theorem kid_len {H : Hp} {m M lo hi : Nat} : ∀ {d : Nat} {p : Nat} {t : Tr d} {F : List Nat} {xk : List Nat}, TrAt H p t F → Is H p t.ps xk → Nd m M lo hi t → xk.length ≤ hi + 1
  | 0, p, t, F, xk, h, ix, _ => by
    obtain ⟨_, e⟩ := ix.inj h.1
    subst e
    exact Nat.zero_le _
  | d + 1, p, t, F, xk, h, ix, hn => by
    obtain ⟨ks, F', h1, h2, _⟩ := h
    obtain ⟨_, e⟩ := ix.inj h1
    subst e
    rw [h2.len, hn.2.2.1]
    have := hn.2.1
    omega
theorem nd_two {n : Nat} {F1 Gx Gy F2 : List Nat} (h : Nd1 (n :: (F1 ++ (Gx ++ (Gy ++ F2))))) : Nd1 (n :: (Gx ++ Gy)) := fun a => by
  have := h a
  simp only [List.count_append, List.count_cons] at this ⊢
  omega
theorem nd_ne {n x y : Nat} {Gx Gy : List Nat} (h : Nd1 (n :: (Gx ++ Gy))) (hx : x ∈ Gx) (hy : y ∈ Gy) : n ≠ x ∧ n ≠ y ∧ x ≠ y := by
  have hx := cnt_mem hx
  have hy := cnt_mem hy
  refine ⟨fun e => ?_, fun e => ?_, fun e => ?_⟩ <;> subst e
  · have := h n
    simp only [List.count_append, List.count_cons, beq_self_eq_true, if_true] at this
    omega
  · have := h n
    simp only [List.count_append, List.count_cons, beq_self_eq_true, if_true] at this
    omega
  · have := h x
    simp only [List.count_append, List.count_cons] at this
    omega
theorem sz_eq {d : Nat} {t : Tr (d + 1)} {j : Nat} {c : Tr d} (h : t.2[j]? = some c) : sz t j = c.ps.length := sz_at h
section
variable {d : Nat} {t : Tr (d + 1)} {w : World} {H : Hp} {n i m M : Nat} {F : List Nat}
/-- what mend needs -/
structure Mn (t : Tr (d + 1)) (w : World) (H : Hp) (n m M : Nat) (F : List Nat) : Prop where
  hin : In w H
  tr : TrAt H n t F
  nd : Nd1 F
  len : t.2.length = t.1.length + 1
  one : 1 ≤ t.1.length
  lt : t.1.length < 800
  kid : ∀ (j : Nat) (c : Tr d), t.2[j]? = some c → Nd m M (m - 1) M c
  hM : M < 800
theorem lendL_mend {j : Nat} (h : Mn t w H n m M F) (hij : i = j + 1) (hi : i < t.2.length) (hsz : m < sz t j) :
    Calls Try.prog 55 #[.pointer (some ⟨n, 0, none⟩), .int .i64 (i : Int)] w fun e w' => e = .returned (.tuple #[]) ∧ After w H n F (lendLeft i t) w' := by
  obtain ⟨X, gx⟩ : ∃ X, t.2[j]? = some X := ⟨_, List.getElem?_eq_getElem (show j < t.2.length by omega)⟩
  obtain ⟨Y, gy⟩ : ∃ X, t.2[j + 1]? = some X := ⟨_, List.getElem?_eq_getElem (show j + 1 < t.2.length by omega)⟩
  obtain ⟨p0, gp⟩ : ∃ X, t.1[j]? = some X := ⟨_, List.getElem?_eq_getElem (show j < t.1.length by have := h.len; omega)⟩
  have gy2 : t.2[i]? = some Y := by rw [hij]; exact gy
  rw [sz_at gx] at hsz
  have nx := h.kid _ _ gx
  have ny := h.kid _ _ gy
  have hlt := fun q hq => TrAt.lt h.hin h.tr q hq
  have hnd := h.nd
  have htr := h.tr
  have hl : lendLeft i t = nodeT (t.1.take j ++ (lendL X p0 Y).2.1 :: t.1.drop (j + 1)) (t.2.take j ++ (lendL X p0 Y).1 :: (lendL X p0 Y).2.2 :: t.2.drop (j + 2)) := by
    unfold lendLeft
    rw [show i - 1 = j from by omega, gx, gy2, gp, hij]
  rw [hl]
  obtain ⟨ks1, x, y, ks2, F1, Gx, Gy, F2, h1, h2, h3, h4, h5, h6, rfl⟩ := two_kids htr gx gy
  obtain ⟨xk, Fx, ix, e1⟩ := h4.top
  obtain ⟨yk, Fy, iy, e2⟩ := h5.top
  have hq : X.ps[X.ps.length - 1]? = some X.ps[X.ps.length - 1] := List.getElem?_eq_getElem (by omega)
  obtain ⟨q0, hq0⟩ : ∃ q0, q0 = X.ps[X.ps.length - 1] := ⟨_, rfl⟩
  rw [← hq0] at hq
  obtain ⟨k1, k2⟩ := ks_at (ks2 := ks2) (x := x) (y := y) h2
  obtain ⟨d1, d2, d3⟩ := nd_ne (nd_two hnd) h4.mem h5.mem
  have lx := kid_len h4 ix nx
  have ly := kid_len h5 iy ny
  have a1 := nx.hi
  have a2 := ny.hi
  have a3 := h.hM
  have a4 := h.lt
  have a5 := h.len
  have a6 : (ks1 ++ x :: y :: ks2).length < 1000 := by
    obtain ⟨ks, F', b1, b2, _⟩ := htr
    obtain ⟨_, e⟩ := h1.inj b1
    rw [e, b2.len]
    omega
  refine (lendL_walk (j := j) (i := i) h.hin h1 ix iy hij k1 (by rw [hij]; exact k2) gp hq d1 d2 d3 (by omega) (by omega) (by omega) a6 (by omega) (by omega)).mono ?_
  rintro e w' ⟨rfl, H', hto, jn, jx, jy, hs⟩
  refine ⟨rfl, ?_⟩
  obtain ⟨Gx', Gy', t1, t2, t3, t4⟩ := lendL_tree (n := n) (p0 := p0) h4 h5 ix iy (nd_two hnd) hq jx jy hs
  rw [t4]
  have jn' : Is H' n (t.1.take j ++ q0 :: t.1.drop (j + 1)) (ks1 ++ x :: y :: ks2) := by
    rw [set_at _ _ _ (by omega)] at jn
    exact jn
  exact after_two h.hin hnd hlt h3 h6 h4.mem h5.mem hto jn' t1 t2 t3 hs
theorem lendR_mend (h : Mn t w H n m M F) (hi : i + 1 < t.2.length) (hsz : m < sz t (i + 1)) :
    Calls Try.prog 56 #[.pointer (some ⟨n, 0, none⟩), .int .i64 (i : Int)] w fun e w' => e = .returned (.tuple #[]) ∧ After w H n F (lendRight i t) w' := by
  obtain ⟨X, gx⟩ : ∃ X, t.2[i]? = some X := ⟨_, List.getElem?_eq_getElem (show i < t.2.length by omega)⟩
  obtain ⟨Y, gy⟩ : ∃ X, t.2[i + 1]? = some X := ⟨_, List.getElem?_eq_getElem (show i + 1 < t.2.length by omega)⟩
  obtain ⟨p0, gp⟩ : ∃ X, t.1[i]? = some X := ⟨_, List.getElem?_eq_getElem (show i < t.1.length by have := h.len; omega)⟩
  rw [sz_at gy] at hsz
  have nx := h.kid _ _ gx
  have ny := h.kid _ _ gy
  have hlt := fun q hq => TrAt.lt h.hin h.tr q hq
  have hnd := h.nd
  have htr := h.tr
  have hl : lendRight i t = nodeT (t.1.take i ++ (lendR X p0 Y).2.1 :: t.1.drop (i + 1)) (t.2.take i ++ (lendR X p0 Y).1 :: (lendR X p0 Y).2.2 :: t.2.drop (i + 2)) := by
    unfold lendRight
    rw [gx, gy, gp]
  rw [hl]
  obtain ⟨ks1, x, y, ks2, F1, Gx, Gy, F2, h1, h2, h3, h4, h5, h6, rfl⟩ := two_kids htr gx gy
  obtain ⟨xk, Fx, ix, e1⟩ := h4.top
  obtain ⟨yk, Fy, iy, e2⟩ := h5.top
  have hq : Y.ps[0]? = some Y.ps[0] := List.getElem?_eq_getElem (by omega)
  obtain ⟨q0, hq0⟩ : ∃ q0, q0 = Y.ps[0] := ⟨_, rfl⟩
  rw [← hq0] at hq
  obtain ⟨k1, k2⟩ := ks_at (ks2 := ks2) (x := x) (y := y) h2
  obtain ⟨d1, d2, d3⟩ := nd_ne (nd_two hnd) h4.mem h5.mem
  have lx := kid_len h4 ix nx
  have ly := kid_len h5 iy ny
  have a1 := nx.hi
  have a2 := ny.hi
  have a3 := h.hM
  have a4 := h.lt
  have a5 := h.len
  have a6 : (ks1 ++ x :: y :: ks2).length < 1000 := by
    obtain ⟨ks, F', b1, b2, _⟩ := htr
    obtain ⟨_, e⟩ := h1.inj b1
    rw [e, b2.len]
    omega
  refine (lendR_walk (j := i + 1) (i := i) h.hin h1 ix iy rfl k1 k2 gp hq d1 d2 d3 (by omega) (by omega) (by omega) a6 (by omega) (by omega)).mono ?_
  rintro e w' ⟨rfl, H', hto, jn, jx, jy, hs⟩
  refine ⟨rfl, ?_⟩
  obtain ⟨Gx', Gy', t1, t2, t3, t4⟩ := lendR_tree (n := n) (p0 := p0) h4 h5 ix iy (nd_two hnd) hq jx jy hs
  rw [t4]
  have jn' : Is H' n (t.1.take i ++ q0 :: t.1.drop (i + 1)) (ks1 ++ x :: y :: ks2) := by
    rw [set_at _ _ _ (by omega)] at jn
    exact jn
  exact after_two h.hin hnd hlt h3 h6 h4.mem h5.mem hto jn' t1 t2 t3 hs
theorem join_mend (h : Mn t w H n m M F) (hi : i + 1 < t.2.length) :
    Calls Try.prog 57 #[.pointer (some ⟨n, 0, none⟩), .int .i64 (i : Int)] w fun e w' => e = .returned (.tuple #[]) ∧ After w H n F (joinAt i t) w' := by
  obtain ⟨X, gx⟩ : ∃ X, t.2[i]? = some X := ⟨_, List.getElem?_eq_getElem (show i < t.2.length by omega)⟩
  obtain ⟨Y, gy⟩ : ∃ X, t.2[i + 1]? = some X := ⟨_, List.getElem?_eq_getElem (show i + 1 < t.2.length by omega)⟩
  obtain ⟨p0, gp⟩ : ∃ X, t.1[i]? = some X := ⟨_, List.getElem?_eq_getElem (show i < t.1.length by have := h.len; omega)⟩
  have nx := h.kid _ _ gx
  have ny := h.kid _ _ gy
  have hnd := h.nd
  have htr := h.tr
  have hl : joinAt i t = nodeT (t.1.take i ++ t.1.drop (i + 1)) (t.2.take i ++ joinK X p0 Y :: t.2.drop (i + 2)) := by
    unfold joinAt
    rw [gx, gy, gp]
  rw [hl]
  obtain ⟨ks1, x, y, ks2, F1, Gx, Gy, F2, h1, h2, h3, h4, h5, h6, rfl⟩ := two_kids htr gx gy
  obtain ⟨xk, Fx, ix, e1⟩ := h4.top
  obtain ⟨yk, Fy, iy, e2⟩ := h5.top
  obtain ⟨k1, k2⟩ := ks_at (ks2 := ks2) (x := x) (y := y) h2
  obtain ⟨d1, d2, d3⟩ := nd_ne (nd_two hnd) h4.mem h5.mem
  have lx := kid_len h4 ix nx
  have ly := kid_len h5 iy ny
  have a1 := nx.hi
  have a2 := ny.hi
  have a3 := h.hM
  have a4 := h.lt
  have a5 := h.len
  have a6 : (ks1 ++ x :: y :: ks2).length < 900 := by
    obtain ⟨ks, F', b1, b2, _⟩ := htr
    obtain ⟨_, e⟩ := h1.inj b1
    rw [e, b2.len]
    omega
  refine (join_walk (j := i + 1) (i := i) h.hin h1 ix iy rfl k1 k2 gp d1 d2 d3 (by omega) (by omega) (by omega) a6 (by omega) (by omega)).mono ?_
  rintro e w' ⟨rfl, H', hto, jn, jx, hs⟩
  refine ⟨rfl, ?_⟩
  obtain ⟨G', t1, t3⟩ := join_tree (n := n) (p0 := p0) h4 h5 ix iy (nd_two hnd) jx hs
  rw [ks_cut h2] at jn
  exact after_join h.hin hnd h3 h6 h4.mem h5.mem hto jn t1 t3 hs
end
set_option maxRecDepth 20000 in
set_option maxHeartbeats 4000000 in
theorem mend_walk {d : Nat} {t : Tr (d + 1)} {w : World} {H : Hp} {n i m M : Nat} {F : List Nat} (h : Mn t w H n m M F) (hi : i < t.2.length) (hm : m < 800) :
    Calls Try.prog 45 #[.pointer (some ⟨n, 0, none⟩), .int .i64 (i : Int), .int .i64 (m : Int)] w fun e w' => e = .returned (.tuple #[]) ∧ After w H n F (mend m i t) w' := by
  have HM := Lib.hid h
  have HI := Lib.hid hi
  obtain ⟨ks, F', his, hka, hF⟩ := id h.tr
  have HKA := Lib.hid hka
  have HFE := Lib.hid hF
  have HLK := Lib.hid hka.len
  have HKN := Lib.hid (show ∀ (j : Nat) (c : Tr d), t.2[j]? = some c → c.ps.length ≤ M from fun j c hc => (h.kid j c hc).hi)
  obtain ⟨vp, vk, hp⟩ := his
  have HIN := Lib.hid h.hin
  have HP := Lib.hid hp
  obtain ⟨b, c, e, hnc, _⟩ := (show NodeAt w n vp vk t.1 ks from HIN.out.at_ hp).kds.some_ (by rw [List.length_map, hka.len]; omega)
  rw [List.length_map, hka.len] at e hnc
  obtain ⟨N, hN⟩ : ∃ N, N = t.2.length := ⟨_, rfl⟩
  rw [← hN] at e hnc hi
  subst e
  have HN := Lib.hid hN
  have HIN2 := Lib.hid hi
  have HA := Lib.hid (show NodeAt w n vp (.slice (some ⟨b, 0, none⟩) N c) t.1 ks from HIN.out.at_ hp)
  have y1 : (i : Int) < (N : Int) := by omega
  have y2 : (N : Int) ≤ 800 := by have := h.len; have := h.lt; omega
  have y3 : (m : Int) ≤ 800 := by omega
  have HMM := Lib.hid h.hM
  clear h hi hka hF hp hnc hN hm
  go_enter Try.func45, Try.ntmps45
  obtain ⟨T0, hT0⟩ : ∃ T, t.2[i]? = some T := ⟨_, List.getElem?_eq_getElem (by rw [← HN.out]; exact HIN2.out)⟩
  have HT0 := Lib.hid hT0
  obtain ⟨k0, G0, hk0, htr0, _⟩ := HKA.out.get hT0
  have HK0 := Lib.hid hk0
  obtain ⟨xk0, _, ⟨vp0, vk0, hi0⟩, _⟩ := htr0.top
  obtain ⟨A0, c0, e9, _⟩ := (HIN.out.at_ hi0).prs.form
  rw [List.length_map] at e9
  obtain ⟨n0, hn0⟩ : ∃ q, q = T0.ps.length := ⟨_, rfl⟩
  replace e9 := e9.trans (show _ = Value.slice A0 n0 c0 from by rw [hn0])
  subst e9
  have HB0 := Lib.hid (show Blk w k0 62 #[.slice A0 n0 c0, vk0] from (HIN.out.at_ hi0).blk)
  have HS0 := Lib.hid (show sz t i = n0 from (sz_at hT0).trans hn0.symm)
  have z0 : (n0 : Int) ≤ 800 := by have := HKN.out _ _ hT0; have := HMM.out; omega
  clear hT0 hk0 htr0 hi0 hn0
  go_upto_region 1 with fail
  refine wp_region_lit ?_
  refine wpList_run (v := .pointer (some ⟨n, 0, none⟩)) (wanted_none rfl) (exec_move rfl rfl) ?_
  simp only [Act.put, List.setIfInBounds_toArray, List.set_cons_zero, List.set_cons_succ]
  refine wpList_run (v := .pointer (some ⟨n, 0, none⟩)) (wanted_none rfl) (exec_nil rfl rfl) ?_
  simp only [Act.put, List.setIfInBounds_toArray, List.set_cons_zero, List.set_cons_succ]
  refine wpList_run (v := .pointer (some ⟨n, 1, none⟩)) (wanted_none rfl) (exec_field (off := 0) (d := 1) rfl rfl (by kernel_rfl)) ?_
  simp only [Act.put, List.setIfInBounds_toArray, List.set_cons_zero, List.set_cons_succ]
  refine wpList_run (v := .slice (some ⟨b, 0, none⟩) N c) (wanted_none rfl) (exec_load1 rfl rfl (by kernel_rfl) (HA.out.blk.cell 1)) ?_
  simp only [Act.put, List.setIfInBounds_toArray, List.set_cons_zero, List.set_cons_succ]
  refine wpList_run (v := .int .i64 (i : Int)) (wanted_none rfl) (exec_move rfl rfl) ?_
  simp only [Act.put, List.setIfInBounds_toArray, List.set_cons_zero, List.set_cons_succ]
  refine wpList_run (v := .pointer (some ⟨b, 0 + i * 1, none⟩)) (wanted_none rfl) (gx_iaddr (i := i) (sz := 1) rfl rfl rfl Try.underlying60 size_ptr HIN2.out rfl) ?_
  simp only [Act.put, List.setIfInBounds_toArray, List.set_cons_zero, List.set_cons_succ]
  refine wpList_run (v := .pointer (some ⟨k0, 0, none⟩)) (wanted_none rfl) (exec_load1 rfl rfl (by kernel_rfl) (kid_cell HA.out HK0.out)) ?_
  simp only [Act.put, List.setIfInBounds_toArray, List.set_cons_zero, List.set_cons_succ]
  refine wpList_run (v := .pointer (some ⟨k0, 0, none⟩)) (wanted_none rfl) (exec_nil rfl rfl) ?_
  simp only [Act.put, List.setIfInBounds_toArray, List.set_cons_zero, List.set_cons_succ]
  refine wpList_run (v := .pointer (some ⟨k0, 0, none⟩)) (wanted_none rfl) (exec_field (off := 0) (d := 0) rfl rfl (by kernel_rfl)) ?_
  simp only [Act.put, List.setIfInBounds_toArray, List.set_cons_zero, List.set_cons_succ]
  refine wpList_run (v := .slice A0 n0 c0) (wanted_none rfl) (exec_load1 rfl rfl (by kernel_rfl) (HB0.out.cell 0)) ?_
  simp only [Act.put, List.setIfInBounds_toArray, List.set_cons_zero, List.set_cons_succ]
  refine wpList_run (v := .int .i64 (n0 : Int)) (wanted_none rfl) (gx_len rfl rfl Try.underlying59) ?_
  simp only [Act.put, List.setIfInBounds_toArray, List.set_cons_zero, List.set_cons_succ]
  refine wpList_run (v := .int .i64 (m : Int)) (wanted_none rfl) (exec_move rfl rfl) ?_
  simp only [Act.put, List.setIfInBounds_toArray, List.set_cons_zero, List.set_cons_succ]
  by_cases hA : m ≤ n0
  · have HE := Lib.hid (show mend m i t = t from if_pos (by rw [HS0.out]; exact hA))
    refine wpList_run (v := .bool true) (wanted_none rfl) (ix_geq rfl rfl rfl (decide_eq_true (by omega))) ?_
    simp only [Act.put, List.setIfInBounds_toArray, List.set_cons_zero, List.set_cons_succ]
    refine wpList_run (v := .bool true) (wanted_none rfl) (gx_assign rfl rfl) ?_
    simp only [Act.put, List.setIfInBounds_toArray, List.set_cons_zero, List.set_cons_succ]
    go_wp2_with fail
    go_end0
    rw [HE.out]
    exact ⟨rfl, H, F, To.refl HIN.out, HM.out.tr, HM.out.nd, fun q hq => .inl hq, fun _ _ _ => rfl⟩
  · refine wpList_run (v := .bool false) (wanted_none rfl) (ix_geq rfl rfl rfl (decide_eq_false (by omega))) ?_
    simp only [Act.put, List.setIfInBounds_toArray, List.set_cons_zero, List.set_cons_succ]
    refine wpList_run (v := .bool false) (wanted_none rfl) (gx_assign rfl rfl) ?_
    simp only [Act.put, List.setIfInBounds_toArray, List.set_cons_zero, List.set_cons_succ]
    have H0 := Lib.hid (show ¬ m ≤ sz t i from by rw [HS0.out]; exact hA)
    clear hA
    go_upto_region 2 with fail
    rename_i K9 hK9
    have HKC := Lib.hid hK9
    clear hK9
    refine wp_region_lit ?_
    refine wpList_run (v := .int .i64 (i : Int)) (wanted_none rfl) (exec_move rfl rfl) ?_
    simp only [Act.put, List.setIfInBounds_toArray, List.set_cons_zero, List.set_cons_succ]
    by_cases hi0 : 0 < i
    · obtain ⟨j, hj⟩ : ∃ j, i = j + 1 := ⟨i - 1, by omega⟩
      have HJ := Lib.hid hj
      have y5 : (i : Int) ≤ (j : Int) + 1 := by omega
      have y6 : (j : Int) + 1 ≤ (i : Int) := by omega
      have HJN := Lib.hid (show j < N from by have := HIN2.out; omega)
      have HI0 := Lib.hid hi0
      clear hj hi0
      obtain ⟨T1, hT1⟩ : ∃ T, t.2[j]? = some T := ⟨_, List.getElem?_eq_getElem (by rw [← HN.out]; exact HJN.out)⟩
      have HT1 := Lib.hid hT1
      obtain ⟨k1, G1, hk1, htr1, _⟩ := HKA.out.get hT1
      have HK1 := Lib.hid hk1
      obtain ⟨xk1, _, ⟨vp1, vk1, hi1⟩, _⟩ := htr1.top
      obtain ⟨A1, c1, e9, _⟩ := (HIN.out.at_ hi1).prs.form
      rw [List.length_map] at e9
      obtain ⟨n1, hn1⟩ : ∃ q, q = T1.ps.length := ⟨_, rfl⟩
      replace e9 := e9.trans (show _ = Value.slice A1 n1 c1 from by rw [hn1])
      subst e9
      have HB1 := Lib.hid (show Blk w k1 62 #[.slice A1 n1 c1, vk1] from (HIN.out.at_ hi1).blk)
      have HS1 := Lib.hid (show sz t j = n1 from (sz_at hT1).trans hn1.symm)
      have z1 : (n1 : Int) ≤ 800 := by have := HKN.out _ _ hT1; have := HMM.out; omega
      clear hT1 hk1 htr1 hi1 hn1
      refine wpList_run (v := .bool true) (wanted_none rfl) (ix_gtr rfl rfl rfl (decide_eq_true (by omega))) ?_
      simp only [Act.put, List.setIfInBounds_toArray, List.set_cons_zero, List.set_cons_succ]
      refine wpList_run (v := .bool true) (wanted_none rfl) (exec_move rfl rfl) ?_
      simp only [Act.put, List.setIfInBounds_toArray, List.set_cons_zero, List.set_cons_succ]
      refine wpList_run (v := .pointer (some ⟨n, 0, none⟩)) rfl (exec_move rfl rfl) ?_
      simp only [Act.put, List.setIfInBounds_toArray, List.set_cons_zero, List.set_cons_succ]
      refine wpList_run (v := .pointer (some ⟨n, 0, none⟩)) rfl (exec_nil rfl rfl) ?_
      simp only [Act.put, List.setIfInBounds_toArray, List.set_cons_zero, List.set_cons_succ]
      refine wpList_run (v := .pointer (some ⟨n, 1, none⟩)) rfl (exec_field (off := 0) (d := 1) rfl rfl (by kernel_rfl)) ?_
      simp only [Act.put, List.setIfInBounds_toArray, List.set_cons_zero, List.set_cons_succ]
      refine wpList_run (v := .slice (some ⟨b, 0, none⟩) N c) rfl (exec_load1 rfl rfl (by kernel_rfl) (HA.out.blk.cell 1)) ?_
      simp only [Act.put, List.setIfInBounds_toArray, List.set_cons_zero, List.set_cons_succ]
      refine wpList_run (v := .int .i64 (i : Int)) rfl (exec_move rfl rfl) ?_
      simp only [Act.put, List.setIfInBounds_toArray, List.set_cons_zero, List.set_cons_succ]
      refine wpList_run (v := .int .i64 (j : Int)) rfl (ix_sub rfl rfl rfl (by omega) (by omega)) ?_
      simp only [Act.put, List.setIfInBounds_toArray, List.set_cons_zero, List.set_cons_succ]
      refine wpList_run (v := .pointer (some ⟨b, 0 + j * 1, none⟩)) rfl (gx_iaddr (i := j) (sz := 1) rfl rfl rfl Try.underlying60 size_ptr HJN.out rfl) ?_
      simp only [Act.put, List.setIfInBounds_toArray, List.set_cons_zero, List.set_cons_succ]
      refine wpList_run (v := .pointer (some ⟨k1, 0, none⟩)) rfl (exec_load1 rfl rfl (by kernel_rfl) (kid_cell HA.out HK1.out)) ?_
      simp only [Act.put, List.setIfInBounds_toArray, List.set_cons_zero, List.set_cons_succ]
      refine wpList_run (v := .pointer (some ⟨k1, 0, none⟩)) rfl (exec_nil rfl rfl) ?_
      simp only [Act.put, List.setIfInBounds_toArray, List.set_cons_zero, List.set_cons_succ]
      refine wpList_run (v := .pointer (some ⟨k1, 0, none⟩)) rfl (exec_field (off := 0) (d := 0) rfl rfl (by kernel_rfl)) ?_
      simp only [Act.put, List.setIfInBounds_toArray, List.set_cons_zero, List.set_cons_succ]
      refine wpList_run (v := .slice A1 n1 c1) rfl (exec_load1 rfl rfl (by kernel_rfl) (HB1.out.cell 0)) ?_
      simp only [Act.put, List.setIfInBounds_toArray, List.set_cons_zero, List.set_cons_succ]
      refine wpList_run (v := .int .i64 (n1 : Int)) rfl (gx_len rfl rfl Try.underlying59) ?_
      simp only [Act.put, List.setIfInBounds_toArray, List.set_cons_zero, List.set_cons_succ]
      refine wpList_run (v := .int .i64 (m : Int)) rfl (exec_move rfl rfl) ?_
      simp only [Act.put, List.setIfInBounds_toArray, List.set_cons_zero, List.set_cons_succ]
      by_cases hB : m < n1
      · have HE := Lib.hid (show mend m i t = lendLeft i t from (if_neg H0.out).trans (if_pos ⟨HI0.out, by rw [show i - 1 = j from by have := HJ.out; omega, HS1.out]; exact hB⟩))
        have HW := Lib.hid (lendL_mend HM.out HJ.out HI.out (by rw [HS1.out]; exact hB))
        refine wpList_run (v := .bool true) rfl (ix_gtr rfl rfl rfl (decide_eq_true (by omega))) ?_
        simp only [Act.put, List.setIfInBounds_toArray, List.set_cons_zero, List.set_cons_succ]
        refine wpList_run (v := .bool true) (wanted_none rfl) (ix_pickT rfl rfl rfl) ?_
        simp only [Act.put, List.setIfInBounds_toArray, List.set_cons_zero, List.set_cons_succ]
        refine wpList_run (v := .bool true) (wanted_none rfl) (gx_assign rfl rfl) ?_
        simp only [Act.put, List.setIfInBounds_toArray, List.set_cons_zero, List.set_cons_succ]
        refine wpList_nil ?_
        refine HKC.out _ _ ?_
        clear hB
        go_upto_region 3 with fail
        refine wp_region_lit ?_
        refine wpList_run (v := .pointer (some ⟨n, 0, none⟩)) (wanted_none rfl) (exec_move rfl rfl) ?_
        simp only [Act.put, List.setIfInBounds_toArray, List.set_cons_zero, List.set_cons_succ]
        refine wpList_run (v := .int .i64 (i : Int)) (wanted_none rfl) (exec_move rfl rfl) ?_
        simp only [Act.put, List.setIfInBounds_toArray, List.set_cons_zero, List.set_cons_succ]
        refine wpList_op rfl fun K9 HK9 => ?_
        go_wp2_with fail
        refine (HW.out).mono ?_
        rintro e w1 ⟨rfl, haf⟩
        refine HK9.out _ _ ?_
        clear HK9
        try simp only [Act.put, List.setIfInBounds_toArray, List.set_cons_zero, List.set_cons_succ]
        go_wp2_with fail
        go_end0
        rw [HE.out]
        exact ⟨rfl, haf⟩
      · have H1 := Lib.hid (show ¬ (0 < i ∧ m < sz t (i - 1)) from fun e => hB (by have e2 := e.2; rwa [show i - 1 = j from by have := HJ.out; omega, HS1.out] at e2))
        refine wpList_run (v := .bool false) rfl (ix_gtr rfl rfl rfl (decide_eq_false (by omega))) ?_
        simp only [Act.put, List.setIfInBounds_toArray, List.set_cons_zero, List.set_cons_succ]
        refine wpList_run (v := .bool false) (wanted_none rfl) (ix_pickT rfl rfl rfl) ?_
        simp only [Act.put, List.setIfInBounds_toArray, List.set_cons_zero, List.set_cons_succ]
        refine wpList_run (v := .bool false) (wanted_none rfl) (gx_assign rfl rfl) ?_
        simp only [Act.put, List.setIfInBounds_toArray, List.set_cons_zero, List.set_cons_succ]
        refine wpList_nil ?_
        refine HKC.out _ _ ?_
        clear hB
        obtain ⟨g, hg⟩ : ∃ g, g = i + 1 := ⟨_, rfl⟩
        have HG := Lib.hid hg
        have y7 : (g : Int) ≤ (i : Int) + 1 := by omega
        have y8 : (i : Int) + 1 ≤ (g : Int) := by omega
        clear hg
        go_upto_region 4 with fail
        rename_i K8 hK8
        have HKD := Lib.hid hK8
        clear hK8
        refine wp_region_lit ?_
        refine wpList_run (v := .int .i64 (i : Int)) (wanted_none rfl) (exec_move rfl rfl) ?_
        simp only [Act.put, List.setIfInBounds_toArray, List.set_cons_zero, List.set_cons_succ]
        refine wpList_run (v := .int .i64 (g : Int)) (wanted_none rfl) (ix_add rfl rfl rfl (by omega) (by omega)) ?_
        simp only [Act.put, List.setIfInBounds_toArray, List.set_cons_zero, List.set_cons_succ]
        refine wpList_run (v := .pointer (some ⟨n, 0, none⟩)) (wanted_none rfl) (exec_move rfl rfl) ?_
        simp only [Act.put, List.setIfInBounds_toArray, List.set_cons_zero, List.set_cons_succ]
        refine wpList_run (v := .pointer (some ⟨n, 0, none⟩)) (wanted_none rfl) (exec_nil rfl rfl) ?_
        simp only [Act.put, List.setIfInBounds_toArray, List.set_cons_zero, List.set_cons_succ]
        refine wpList_run (v := .pointer (some ⟨n, 1, none⟩)) (wanted_none rfl) (exec_field (off := 0) (d := 1) rfl rfl (by kernel_rfl)) ?_
        simp only [Act.put, List.setIfInBounds_toArray, List.set_cons_zero, List.set_cons_succ]
        refine wpList_run (v := .slice (some ⟨b, 0, none⟩) N c) (wanted_none rfl) (exec_load1 rfl rfl (by kernel_rfl) (HA.out.blk.cell 1)) ?_
        simp only [Act.put, List.setIfInBounds_toArray, List.set_cons_zero, List.set_cons_succ]
        refine wpList_run (v := .int .i64 (N : Int)) (wanted_none rfl) (gx_len rfl rfl Try.underlying60) ?_
        simp only [Act.put, List.setIfInBounds_toArray, List.set_cons_zero, List.set_cons_succ]
        by_cases hgN : g < N
        · have HGN := Lib.hid hgN
          clear hgN
          obtain ⟨T2, hT2⟩ : ∃ T, t.2[g]? = some T := ⟨_, List.getElem?_eq_getElem (by rw [← HN.out]; exact HGN.out)⟩
          have HT2 := Lib.hid hT2
          obtain ⟨k2, G2, hk2, htr2, _⟩ := HKA.out.get hT2
          have HK2 := Lib.hid hk2
          obtain ⟨xk2, _, ⟨vp2, vk2, hi2⟩, _⟩ := htr2.top
          obtain ⟨A2, c2, e9, _⟩ := (HIN.out.at_ hi2).prs.form
          rw [List.length_map] at e9
          obtain ⟨n2, hn2⟩ : ∃ q, q = T2.ps.length := ⟨_, rfl⟩
          replace e9 := e9.trans (show _ = Value.slice A2 n2 c2 from by rw [hn2])
          subst e9
          have HB2 := Lib.hid (show Blk w k2 62 #[.slice A2 n2 c2, vk2] from (HIN.out.at_ hi2).blk)
          have HS2 := Lib.hid (show sz t g = n2 from (sz_at hT2).trans hn2.symm)
          have z2 : (n2 : Int) ≤ 800 := by have := HKN.out _ _ hT2; have := HMM.out; omega
          clear hT2 hk2 htr2 hi2 hn2
          have yg : (g : Int) < (N : Int) := by have := HGN.out; omega
          refine wpList_run (v := .bool true) (wanted_none rfl) (ix_lss rfl rfl rfl (decide_eq_true yg)) ?_
          simp only [Act.put, List.setIfInBounds_toArray, List.set_cons_zero, List.set_cons_succ]
          refine wpList_run (v := .bool true) (wanted_none rfl) (exec_move rfl rfl) ?_
          simp only [Act.put, List.setIfInBounds_toArray, List.set_cons_zero, List.set_cons_succ]
          refine wpList_run (v := .pointer (some ⟨n, 0, none⟩)) rfl (exec_move rfl rfl) ?_
          simp only [Act.put, List.setIfInBounds_toArray, List.set_cons_zero, List.set_cons_succ]
          refine wpList_run (v := .pointer (some ⟨n, 0, none⟩)) rfl (exec_nil rfl rfl) ?_
          simp only [Act.put, List.setIfInBounds_toArray, List.set_cons_zero, List.set_cons_succ]
          refine wpList_run (v := .pointer (some ⟨n, 1, none⟩)) rfl (exec_field (off := 0) (d := 1) rfl rfl (by kernel_rfl)) ?_
          simp only [Act.put, List.setIfInBounds_toArray, List.set_cons_zero, List.set_cons_succ]
          refine wpList_run (v := .slice (some ⟨b, 0, none⟩) N c) rfl (exec_load1 rfl rfl (by kernel_rfl) (HA.out.blk.cell 1)) ?_
          simp only [Act.put, List.setIfInBounds_toArray, List.set_cons_zero, List.set_cons_succ]
          refine wpList_run (v := .int .i64 (i : Int)) rfl (exec_move rfl rfl) ?_
          simp only [Act.put, List.setIfInBounds_toArray, List.set_cons_zero, List.set_cons_succ]
          refine wpList_run (v := .int .i64 (g : Int)) rfl (ix_add rfl rfl rfl (by omega) (by omega)) ?_
          simp only [Act.put, List.setIfInBounds_toArray, List.set_cons_zero, List.set_cons_succ]
          refine wpList_run (v := .pointer (some ⟨b, 0 + g * 1, none⟩)) rfl (gx_iaddr (i := g) (sz := 1) rfl rfl rfl Try.underlying60 size_ptr HGN.out rfl) ?_
          simp only [Act.put, List.setIfInBounds_toArray, List.set_cons_zero, List.set_cons_succ]
          refine wpList_run (v := .pointer (some ⟨k2, 0, none⟩)) rfl (exec_load1 rfl rfl (by kernel_rfl) (kid_cell HA.out HK2.out)) ?_
          simp only [Act.put, List.setIfInBounds_toArray, List.set_cons_zero, List.set_cons_succ]
          refine wpList_run (v := .pointer (some ⟨k2, 0, none⟩)) rfl (exec_nil rfl rfl) ?_
          simp only [Act.put, List.setIfInBounds_toArray, List.set_cons_zero, List.set_cons_succ]
          refine wpList_run (v := .pointer (some ⟨k2, 0, none⟩)) rfl (exec_field (off := 0) (d := 0) rfl rfl (by kernel_rfl)) ?_
          simp only [Act.put, List.setIfInBounds_toArray, List.set_cons_zero, List.set_cons_succ]
          refine wpList_run (v := .slice A2 n2 c2) rfl (exec_load1 rfl rfl (by kernel_rfl) (HB2.out.cell 0)) ?_
          simp only [Act.put, List.setIfInBounds_toArray, List.set_cons_zero, List.set_cons_succ]
          refine wpList_run (v := .int .i64 (n2 : Int)) rfl (gx_len rfl rfl Try.underlying59) ?_
          simp only [Act.put, List.setIfInBounds_toArray, List.set_cons_zero, List.set_cons_succ]
          refine wpList_run (v := .int .i64 (m : Int)) rfl (exec_move rfl rfl) ?_
          simp only [Act.put, List.setIfInBounds_toArray, List.set_cons_zero, List.set_cons_succ]
          by_cases hB2 : m < n2
          · have HE := Lib.hid (show mend m i t = lendRight i t from (if_neg H0.out).trans ((if_neg H1.out).trans (if_pos ⟨by rw [← HG.out, ← HN.out]; exact HGN.out, by rw [← HG.out, HS2.out]; exact hB2⟩)))
            have HW := Lib.hid (lendR_mend HM.out (by rw [← HG.out, ← HN.out]; exact HGN.out) (by rw [← HG.out, HS2.out]; exact hB2))
            refine wpList_run (v := .bool true) rfl (ix_gtr rfl rfl rfl (decide_eq_true (by omega))) ?_
            simp only [Act.put, List.setIfInBounds_toArray, List.set_cons_zero, List.set_cons_succ]
            refine wpList_run (v := .bool true) (wanted_none rfl) (ix_pickT rfl rfl rfl) ?_
            simp only [Act.put, List.setIfInBounds_toArray, List.set_cons_zero, List.set_cons_succ]
            refine wpList_run (v := .bool true) (wanted_none rfl) (gx_assign rfl rfl) ?_
            simp only [Act.put, List.setIfInBounds_toArray, List.set_cons_zero, List.set_cons_succ]
            refine wpList_nil ?_
            refine HKD.out _ _ ?_
            clear hB2
            go_upto_region 5 with fail
            refine wp_region_lit ?_
            refine wpList_run (v := .pointer (some ⟨n, 0, none⟩)) (wanted_none rfl) (exec_move rfl rfl) ?_
            simp only [Act.put, List.setIfInBounds_toArray, List.set_cons_zero, List.set_cons_succ]
            refine wpList_run (v := .int .i64 (i : Int)) (wanted_none rfl) (exec_move rfl rfl) ?_
            simp only [Act.put, List.setIfInBounds_toArray, List.set_cons_zero, List.set_cons_succ]
            refine wpList_op rfl fun K9 HK9 => ?_
            go_wp2_with fail
            refine (HW.out).mono ?_
            rintro e w1 ⟨rfl, haf⟩
            refine HK9.out _ _ ?_
            clear HK9
            try simp only [Act.put, List.setIfInBounds_toArray, List.set_cons_zero, List.set_cons_succ]
            go_wp2_with fail
            go_end0
            rw [HE.out]
            exact ⟨rfl, haf⟩
          · have H2 := Lib.hid (show ¬ (i + 1 < t.2.length ∧ m < sz t (i + 1)) from fun e => hB2 (by have e2 := e.2; rwa [← HG.out, HS2.out] at e2))
            have HG2 := Lib.hid (fun _ : ¬ 0 < i => show i + 1 < t.2.length from by rw [← HG.out, ← HN.out]; exact HGN.out)
            refine wpList_run (v := .bool false) rfl (ix_gtr rfl rfl rfl (decide_eq_false (by omega))) ?_
            simp only [Act.put, List.setIfInBounds_toArray, List.set_cons_zero, List.set_cons_succ]
            refine wpList_run (v := .bool false) (wanted_none rfl) (ix_pickT rfl rfl rfl) ?_
            simp only [Act.put, List.setIfInBounds_toArray, List.set_cons_zero, List.set_cons_succ]
            refine wpList_run (v := .bool false) (wanted_none rfl) (gx_assign rfl rfl) ?_
            simp only [Act.put, List.setIfInBounds_toArray, List.set_cons_zero, List.set_cons_succ]
            refine wpList_nil ?_
            refine HKD.out _ _ ?_
            clear hB2
            have HE := Lib.hid (show mend m i t = joinAt j t from (if_neg H0.out).trans ((if_neg H1.out).trans ((if_neg H2.out).trans ((if_pos HI0.out).trans (by rw [show i - 1 = j from by have := HJ.out; omega])))))
            have HW := Lib.hid (join_mend (i := j) HM.out (by have := HJ.out; have := HI.out; omega))
            go_upto_region 6 with fail
            refine wp_region_lit ?_
            refine wpList_run (v := .int .i64 (i : Int)) (wanted_none rfl) (exec_move rfl rfl) ?_
            simp only [Act.put, List.setIfInBounds_toArray, List.set_cons_zero, List.set_cons_succ]
            refine wpList_run (v := .bool true) (wanted_none rfl) (ix_gtr rfl rfl rfl (decide_eq_true (by have := HI0.out; omega))) ?_
            simp only [Act.put, List.setIfInBounds_toArray, List.set_cons_zero, List.set_cons_succ]
            refine wpList_run (v := .bool true) (wanted_none rfl) (gx_assign rfl rfl) ?_
            simp only [Act.put, List.setIfInBounds_toArray, List.set_cons_zero, List.set_cons_succ]
            go_upto_region 7 with fail
            refine wp_region_lit ?_
            refine wpList_run (v := .pointer (some ⟨n, 0, none⟩)) (wanted_none rfl) (exec_move rfl rfl) ?_
            simp only [Act.put, List.setIfInBounds_toArray, List.set_cons_zero, List.set_cons_succ]
            refine wpList_run (v := .int .i64 (i : Int)) (wanted_none rfl) (exec_move rfl rfl) ?_
            simp only [Act.put, List.setIfInBounds_toArray, List.set_cons_zero, List.set_cons_succ]
            refine wpList_run (v := .int .i64 (j : Int)) (wanted_none rfl) (ix_sub rfl rfl rfl (by omega) (by omega)) ?_
            simp only [Act.put, List.setIfInBounds_toArray, List.set_cons_zero, List.set_cons_succ]
            refine wpList_op rfl fun K9 HK9 => ?_
            go_wp2_with fail
            refine (HW.out).mono ?_
            rintro e w1 ⟨rfl, haf⟩
            refine HK9.out _ _ ?_
            clear HK9
            try simp only [Act.put, List.setIfInBounds_toArray, List.set_cons_zero, List.set_cons_succ]
            go_wp2_with fail
            go_end0
            rw [HE.out]
            exact ⟨rfl, haf⟩
        · have H2 := Lib.hid (show ¬ (i + 1 < t.2.length ∧ m < sz t (i + 1)) from fun e => hgN (by rw [HG.out, HN.out]; exact e.1))
          have HG2 := Lib.hid (fun h0 : ¬ 0 < i => show i + 1 < t.2.length from by have := HM.out.len; have := HM.out.one; omega)
          have yg : ¬ (g : Int) < (N : Int) := by omega
          clear hgN
          refine wpList_run (v := .bool false) (wanted_none rfl) (ix_lss rfl rfl rfl (decide_eq_false yg)) ?_
          simp only [Act.put, List.setIfInBounds_toArray, List.set_cons_zero, List.set_cons_succ]
          go_wp2_with fail
          refine HKD.out _ _ ?_
          have HE := Lib.hid (show mend m i t = joinAt j t from (if_neg H0.out).trans ((if_neg H1.out).trans ((if_neg H2.out).trans ((if_pos HI0.out).trans (by rw [show i - 1 = j from by have := HJ.out; omega])))))
          have HW := Lib.hid (join_mend (i := j) HM.out (by have := HJ.out; have := HI.out; omega))
          go_upto_region 6 with fail
          refine wp_region_lit ?_
          refine wpList_run (v := .int .i64 (i : Int)) (wanted_none rfl) (exec_move rfl rfl) ?_
          simp only [Act.put, List.setIfInBounds_toArray, List.set_cons_zero, List.set_cons_succ]
          refine wpList_run (v := .bool true) (wanted_none rfl) (ix_gtr rfl rfl rfl (decide_eq_true (by have := HI0.out; omega))) ?_
          simp only [Act.put, List.setIfInBounds_toArray, List.set_cons_zero, List.set_cons_succ]
          refine wpList_run (v := .bool true) (wanted_none rfl) (gx_assign rfl rfl) ?_
          simp only [Act.put, List.setIfInBounds_toArray, List.set_cons_zero, List.set_cons_succ]
          go_upto_region 7 with fail
          refine wp_region_lit ?_
          refine wpList_run (v := .pointer (some ⟨n, 0, none⟩)) (wanted_none rfl) (exec_move rfl rfl) ?_
          simp only [Act.put, List.setIfInBounds_toArray, List.set_cons_zero, List.set_cons_succ]
          refine wpList_run (v := .int .i64 (i : Int)) (wanted_none rfl) (exec_move rfl rfl) ?_
          simp only [Act.put, List.setIfInBounds_toArray, List.set_cons_zero, List.set_cons_succ]
          refine wpList_run (v := .int .i64 (j : Int)) (wanted_none rfl) (ix_sub rfl rfl rfl (by omega) (by omega)) ?_
          simp only [Act.put, List.setIfInBounds_toArray, List.set_cons_zero, List.set_cons_succ]
          refine wpList_op rfl fun K9 HK9 => ?_
          go_wp2_with fail
          refine (HW.out).mono ?_
          rintro e w1 ⟨rfl, haf⟩
          refine HK9.out _ _ ?_
          clear HK9
          try simp only [Act.put, List.setIfInBounds_toArray, List.set_cons_zero, List.set_cons_succ]
          go_wp2_with fail
          go_end0
          rw [HE.out]
          exact ⟨rfl, haf⟩
    · have H1 := Lib.hid (show ¬ (0 < i ∧ m < sz t (i - 1)) from fun e => hi0 e.1)
      have HI0 := Lib.hid hi0
      have y5 : ¬ (0 : Int) < (i : Int) := by omega
      clear hi0
      refine wpList_run (v := .bool false) (wanted_none rfl) (ix_gtr rfl rfl rfl (decide_eq_false (by omega))) ?_
      simp only [Act.put, List.setIfInBounds_toArray, List.set_cons_zero, List.set_cons_succ]
      go_wp2_with fail
      refine HKC.out _ _ ?_
      obtain ⟨g, hg⟩ : ∃ g, g = i + 1 := ⟨_, rfl⟩
      have HG := Lib.hid hg
      have y7 : (g : Int) ≤ (i : Int) + 1 := by omega
      have y8 : (i : Int) + 1 ≤ (g : Int) := by omega
      clear hg
      go_upto_region 4 with fail
      rename_i K8 hK8
      have HKD := Lib.hid hK8
      clear hK8
      refine wp_region_lit ?_
      refine wpList_run (v := .int .i64 (i : Int)) (wanted_none rfl) (exec_move rfl rfl) ?_
      simp only [Act.put, List.setIfInBounds_toArray, List.set_cons_zero, List.set_cons_succ]
      refine wpList_run (v := .int .i64 (g : Int)) (wanted_none rfl) (ix_add rfl rfl rfl (by omega) (by omega)) ?_
      simp only [Act.put, List.setIfInBounds_toArray, List.set_cons_zero, List.set_cons_succ]
      refine wpList_run (v := .pointer (some ⟨n, 0, none⟩)) (wanted_none rfl) (exec_move rfl rfl) ?_
      simp only [Act.put, List.setIfInBounds_toArray, List.set_cons_zero, List.set_cons_succ]
      refine wpList_run (v := .pointer (some ⟨n, 0, none⟩)) (wanted_none rfl) (exec_nil rfl rfl) ?_
      simp only [Act.put, List.setIfInBounds_toArray, List.set_cons_zero, List.set_cons_succ]
      refine wpList_run (v := .pointer (some ⟨n, 1, none⟩)) (wanted_none rfl) (exec_field (off := 0) (d := 1) rfl rfl (by kernel_rfl)) ?_
      simp only [Act.put, List.setIfInBounds_toArray, List.set_cons_zero, List.set_cons_succ]
      refine wpList_run (v := .slice (some ⟨b, 0, none⟩) N c) (wanted_none rfl) (exec_load1 rfl rfl (by kernel_rfl) (HA.out.blk.cell 1)) ?_
      simp only [Act.put, List.setIfInBounds_toArray, List.set_cons_zero, List.set_cons_succ]
      refine wpList_run (v := .int .i64 (N : Int)) (wanted_none rfl) (gx_len rfl rfl Try.underlying60) ?_
      simp only [Act.put, List.setIfInBounds_toArray, List.set_cons_zero, List.set_cons_succ]
      by_cases hgN : g < N
      · have HGN := Lib.hid hgN
        clear hgN
        obtain ⟨T2, hT2⟩ : ∃ T, t.2[g]? = some T := ⟨_, List.getElem?_eq_getElem (by rw [← HN.out]; exact HGN.out)⟩
        have HT2 := Lib.hid hT2
        obtain ⟨k2, G2, hk2, htr2, _⟩ := HKA.out.get hT2
        have HK2 := Lib.hid hk2
        obtain ⟨xk2, _, ⟨vp2, vk2, hi2⟩, _⟩ := htr2.top
        obtain ⟨A2, c2, e9, _⟩ := (HIN.out.at_ hi2).prs.form
        rw [List.length_map] at e9
        obtain ⟨n2, hn2⟩ : ∃ q, q = T2.ps.length := ⟨_, rfl⟩
        replace e9 := e9.trans (show _ = Value.slice A2 n2 c2 from by rw [hn2])
        subst e9
        have HB2 := Lib.hid (show Blk w k2 62 #[.slice A2 n2 c2, vk2] from (HIN.out.at_ hi2).blk)
        have HS2 := Lib.hid (show sz t g = n2 from (sz_at hT2).trans hn2.symm)
        have z2 : (n2 : Int) ≤ 800 := by have := HKN.out _ _ hT2; have := HMM.out; omega
        clear hT2 hk2 htr2 hi2 hn2
        have yg : (g : Int) < (N : Int) := by have := HGN.out; omega
        refine wpList_run (v := .bool true) (wanted_none rfl) (ix_lss rfl rfl rfl (decide_eq_true yg)) ?_
        simp only [Act.put, List.setIfInBounds_toArray, List.set_cons_zero, List.set_cons_succ]
        refine wpList_run (v := .bool true) (wanted_none rfl) (exec_move rfl rfl) ?_
        simp only [Act.put, List.setIfInBounds_toArray, List.set_cons_zero, List.set_cons_succ]
        refine wpList_run (v := .pointer (some ⟨n, 0, none⟩)) rfl (exec_move rfl rfl) ?_
        simp only [Act.put, List.setIfInBounds_toArray, List.set_cons_zero, List.set_cons_succ]
        refine wpList_run (v := .pointer (some ⟨n, 0, none⟩)) rfl (exec_nil rfl rfl) ?_
        simp only [Act.put, List.setIfInBounds_toArray, List.set_cons_zero, List.set_cons_succ]
        refine wpList_run (v := .pointer (some ⟨n, 1, none⟩)) rfl (exec_field (off := 0) (d := 1) rfl rfl (by kernel_rfl)) ?_
        simp only [Act.put, List.setIfInBounds_toArray, List.set_cons_zero, List.set_cons_succ]
        refine wpList_run (v := .slice (some ⟨b, 0, none⟩) N c) rfl (exec_load1 rfl rfl (by kernel_rfl) (HA.out.blk.cell 1)) ?_
        simp only [Act.put, List.setIfInBounds_toArray, List.set_cons_zero, List.set_cons_succ]
        refine wpList_run (v := .int .i64 (i : Int)) rfl (exec_move rfl rfl) ?_
        simp only [Act.put, List.setIfInBounds_toArray, List.set_cons_zero, List.set_cons_succ]
        refine wpList_run (v := .int .i64 (g : Int)) rfl (ix_add rfl rfl rfl (by omega) (by omega)) ?_
        simp only [Act.put, List.setIfInBounds_toArray, List.set_cons_zero, List.set_cons_succ]
        refine wpList_run (v := .pointer (some ⟨b, 0 + g * 1, none⟩)) rfl (gx_iaddr (i := g) (sz := 1) rfl rfl rfl Try.underlying60 size_ptr HGN.out rfl) ?_
        simp only [Act.put, List.setIfInBounds_toArray, List.set_cons_zero, List.set_cons_succ]
        refine wpList_run (v := .pointer (some ⟨k2, 0, none⟩)) rfl (exec_load1 rfl rfl (by kernel_rfl) (kid_cell HA.out HK2.out)) ?_
        simp only [Act.put, List.setIfInBounds_toArray, List.set_cons_zero, List.set_cons_succ]
        refine wpList_run (v := .pointer (some ⟨k2, 0, none⟩)) rfl (exec_nil rfl rfl) ?_
        simp only [Act.put, List.setIfInBounds_toArray, List.set_cons_zero, List.set_cons_succ]
        refine wpList_run (v := .pointer (some ⟨k2, 0, none⟩)) rfl (exec_field (off := 0) (d := 0) rfl rfl (by kernel_rfl)) ?_
        simp only [Act.put, List.setIfInBounds_toArray, List.set_cons_zero, List.set_cons_succ]
        refine wpList_run (v := .slice A2 n2 c2) rfl (exec_load1 rfl rfl (by kernel_rfl) (HB2.out.cell 0)) ?_
        simp only [Act.put, List.setIfInBounds_toArray, List.set_cons_zero, List.set_cons_succ]
        refine wpList_run (v := .int .i64 (n2 : Int)) rfl (gx_len rfl rfl Try.underlying59) ?_
        simp only [Act.put, List.setIfInBounds_toArray, List.set_cons_zero, List.set_cons_succ]
        refine wpList_run (v := .int .i64 (m : Int)) rfl (exec_move rfl rfl) ?_
        simp only [Act.put, List.setIfInBounds_toArray, List.set_cons_zero, List.set_cons_succ]
        by_cases hB2 : m < n2
        · have HE := Lib.hid (show mend m i t = lendRight i t from (if_neg H0.out).trans ((if_neg H1.out).trans (if_pos ⟨by rw [← HG.out, ← HN.out]; exact HGN.out, by rw [← HG.out, HS2.out]; exact hB2⟩)))
          have HW := Lib.hid (lendR_mend HM.out (by rw [← HG.out, ← HN.out]; exact HGN.out) (by rw [← HG.out, HS2.out]; exact hB2))
          refine wpList_run (v := .bool true) rfl (ix_gtr rfl rfl rfl (decide_eq_true (by omega))) ?_
          simp only [Act.put, List.setIfInBounds_toArray, List.set_cons_zero, List.set_cons_succ]
          refine wpList_run (v := .bool true) (wanted_none rfl) (ix_pickT rfl rfl rfl) ?_
          simp only [Act.put, List.setIfInBounds_toArray, List.set_cons_zero, List.set_cons_succ]
          refine wpList_run (v := .bool true) (wanted_none rfl) (gx_assign rfl rfl) ?_
          simp only [Act.put, List.setIfInBounds_toArray, List.set_cons_zero, List.set_cons_succ]
          refine wpList_nil ?_
          refine HKD.out _ _ ?_
          clear hB2
          go_upto_region 5 with fail
          refine wp_region_lit ?_
          refine wpList_run (v := .pointer (some ⟨n, 0, none⟩)) (wanted_none rfl) (exec_move rfl rfl) ?_
          simp only [Act.put, List.setIfInBounds_toArray, List.set_cons_zero, List.set_cons_succ]
          refine wpList_run (v := .int .i64 (i : Int)) (wanted_none rfl) (exec_move rfl rfl) ?_
          simp only [Act.put, List.setIfInBounds_toArray, List.set_cons_zero, List.set_cons_succ]
          refine wpList_op rfl fun K9 HK9 => ?_
          go_wp2_with fail
          refine (HW.out).mono ?_
          rintro e w1 ⟨rfl, haf⟩
          refine HK9.out _ _ ?_
          clear HK9
          try simp only [Act.put, List.setIfInBounds_toArray, List.set_cons_zero, List.set_cons_succ]
          go_wp2_with fail
          go_end0
          rw [HE.out]
          exact ⟨rfl, haf⟩
        · have H2 := Lib.hid (show ¬ (i + 1 < t.2.length ∧ m < sz t (i + 1)) from fun e => hB2 (by have e2 := e.2; rwa [← HG.out, HS2.out] at e2))
          have HG2 := Lib.hid (fun _ : ¬ 0 < i => show i + 1 < t.2.length from by rw [← HG.out, ← HN.out]; exact HGN.out)
          refine wpList_run (v := .bool false) rfl (ix_gtr rfl rfl rfl (decide_eq_false (by omega))) ?_
          simp only [Act.put, List.setIfInBounds_toArray, List.set_cons_zero, List.set_cons_succ]
          refine wpList_run (v := .bool false) (wanted_none rfl) (ix_pickT rfl rfl rfl) ?_
          simp only [Act.put, List.setIfInBounds_toArray, List.set_cons_zero, List.set_cons_succ]
          refine wpList_run (v := .bool false) (wanted_none rfl) (gx_assign rfl rfl) ?_
          simp only [Act.put, List.setIfInBounds_toArray, List.set_cons_zero, List.set_cons_succ]
          refine wpList_nil ?_
          refine HKD.out _ _ ?_
          clear hB2
          have HE := Lib.hid (show mend m i t = joinAt i t from (if_neg H0.out).trans ((if_neg H1.out).trans ((if_neg H2.out).trans (if_neg HI0.out))))
          have HW := Lib.hid (join_mend HM.out (HG2.out HI0.out))
          go_upto_region 6 with fail
          refine wp_region_lit ?_
          refine wpList_run (v := .int .i64 (i : Int)) (wanted_none rfl) (exec_move rfl rfl) ?_
          simp only [Act.put, List.setIfInBounds_toArray, List.set_cons_zero, List.set_cons_succ]
          refine wpList_run (v := .bool false) (wanted_none rfl) (ix_gtr rfl rfl rfl (decide_eq_false (by omega))) ?_
          simp only [Act.put, List.setIfInBounds_toArray, List.set_cons_zero, List.set_cons_succ]
          refine wpList_run (v := .bool false) (wanted_none rfl) (gx_assign rfl rfl) ?_
          simp only [Act.put, List.setIfInBounds_toArray, List.set_cons_zero, List.set_cons_succ]
          go_upto_region 0 with fail
          refine wp_region_lit ?_
          refine wpList_run (v := .pointer (some ⟨n, 0, none⟩)) (wanted_none rfl) (exec_move rfl rfl) ?_
          simp only [Act.put, List.setIfInBounds_toArray, List.set_cons_zero, List.set_cons_succ]
          refine wpList_run (v := .int .i64 (i : Int)) (wanted_none rfl) (exec_move rfl rfl) ?_
          simp only [Act.put, List.setIfInBounds_toArray, List.set_cons_zero, List.set_cons_succ]
          refine wpList_op rfl fun K9 HK9 => ?_
          go_wp2_with fail
          refine (HW.out).mono ?_
          rintro e w1 ⟨rfl, haf⟩
          refine HK9.out _ _ ?_
          clear HK9
          try simp only [Act.put, List.setIfInBounds_toArray, List.set_cons_zero, List.set_cons_succ]
          go_wp2_with fail
          go_end0
          rw [HE.out]
          exact ⟨rfl, haf⟩
      · have H2 := Lib.hid (show ¬ (i + 1 < t.2.length ∧ m < sz t (i + 1)) from fun e => hgN (by rw [HG.out, HN.out]; exact e.1))
        have HG2 := Lib.hid (fun h0 : ¬ 0 < i => show i + 1 < t.2.length from by have := HM.out.len; have := HM.out.one; omega)
        have yg : ¬ (g : Int) < (N : Int) := by omega
        clear hgN
        refine wpList_run (v := .bool false) (wanted_none rfl) (ix_lss rfl rfl rfl (decide_eq_false yg)) ?_
        simp only [Act.put, List.setIfInBounds_toArray, List.set_cons_zero, List.set_cons_succ]
        go_wp2_with fail
        refine HKD.out _ _ ?_
        have HE := Lib.hid (show mend m i t = joinAt i t from (if_neg H0.out).trans ((if_neg H1.out).trans ((if_neg H2.out).trans (if_neg HI0.out))))
        have HW := Lib.hid (join_mend HM.out (HG2.out HI0.out))
        go_upto_region 6 with fail
        refine wp_region_lit ?_
        refine wpList_run (v := .int .i64 (i : Int)) (wanted_none rfl) (exec_move rfl rfl) ?_
        simp only [Act.put, List.setIfInBounds_toArray, List.set_cons_zero, List.set_cons_succ]
        refine wpList_run (v := .bool false) (wanted_none rfl) (ix_gtr rfl rfl rfl (decide_eq_false (by omega))) ?_
        simp only [Act.put, List.setIfInBounds_toArray, List.set_cons_zero, List.set_cons_succ]
        refine wpList_run (v := .bool false) (wanted_none rfl) (gx_assign rfl rfl) ?_
        simp only [Act.put, List.setIfInBounds_toArray, List.set_cons_zero, List.set_cons_succ]
        go_upto_region 0 with fail
        refine wp_region_lit ?_
        refine wpList_run (v := .pointer (some ⟨n, 0, none⟩)) (wanted_none rfl) (exec_move rfl rfl) ?_
        simp only [Act.put, List.setIfInBounds_toArray, List.set_cons_zero, List.set_cons_succ]
        refine wpList_run (v := .int .i64 (i : Int)) (wanted_none rfl) (exec_move rfl rfl) ?_
        simp only [Act.put, List.setIfInBounds_toArray, List.set_cons_zero, List.set_cons_succ]
        refine wpList_op rfl fun K9 HK9 => ?_
        go_wp2_with fail
        refine (HW.out).mono ?_
        rintro e w1 ⟨rfl, haf⟩
        refine HK9.out _ _ ?_
        clear HK9
        try simp only [Act.put, List.setIfInBounds_toArray, List.set_cons_zero, List.set_cons_succ]
        go_wp2_with fail
        go_end0
        rw [HE.out]
        exact ⟨rfl, haf⟩
end Go.Proofs.Ytmlkdkbpbleilaa
