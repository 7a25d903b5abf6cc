/-
  Index: a pair lent by the neighbour behind; two neighbours in one. No conditions.
-/
import Derived.Test.YtmlkdkbpbleilaaIxL
namespace Go.Proofs.Ytmlkdkbpbleilaa
open Go.RowKit
open Ix
set_option linter.unusedVariables false
set_option linter.unusedSimpArgs false
theorem append1P {w : World} {A : Option Addr} {n c g : Nat} {ps : List Pr} {x : Pr} (h : Orw w 0 65 2 (.slice A n c) (ps.map encP)) (hx : Blk w g 65 (encP x).toArray) (hl : ps.length < 1000) :
    ∃ A' n' c' w', (Builtin.append_ #[59, 59] 59 #[.slice A n c, .slice (some ⟨g, 0, none⟩) 1 1]).run Try.prog w = .ok (.slice A' n' c') w' ∧ Orw w' 0 65 2 (.slice A' n' c') ((ps ++ [x]).map encP) ∧ RowTo w (.slice A n c) w' (.slice A' n' c') := by
  obtain ⟨A', c', w', h1, h2, h3, h4⟩ := orw_grow elmP (ty := 59) (c := 1) h (Nat.zero_le _) (rws_blk hx rfl) (Fit.one rfl (encP_one x)) (fun h => by cases h) (by rw [List.length_map]; omega)
  refine ⟨_, _, _, w', h1, by rw [List.map_append]; exact h2, (Turn.refl _ w).grown h3 fun g e _ => e, fun b hb => ?_⟩
  rcases h4 with e | e
  · exact .inl (e.symm.trans hb)
  · rw [e] at hb
    exact .inr (by have := Option.some.inj hb; omega)
theorem append1K {w : World} {A : Option Addr} {n c g : Nat} {ks : List Nat} {x : Nat} (h : Orw w 0 56 1 (.slice A n c) (ks.map encK)) (hx : Blk w g 56 (encK x).toArray) (hl : ks.length < 1000) :
    ∃ A' n' c' w', (Builtin.append_ #[60, 60] 60 #[.slice A n c, .slice (some ⟨g, 0, none⟩) 1 1]).run Try.prog w = .ok (.slice A' n' c') w' ∧ Orw w' 0 56 1 (.slice A' n' c') ((ks ++ [x]).map encK) ∧ RowTo w (.slice A n c) w' (.slice A' n' c') := by
  obtain ⟨A', c', w', h1, h2, h3, h4⟩ := orw_grow elmK (ty := 60) (c := 1) h (Nat.zero_le _) (rws_blk hx rfl) (Fit.one rfl (encK_one x)) (fun h => by cases h) (by rw [List.length_map]; omega)
  refine ⟨_, _, _, w', h1, by rw [List.map_append]; exact h2, (Turn.refl _ w).grown h3 fun g e _ => e, fun b hb => ?_⟩
  rcases h4 with e | e
  · exact .inl (e.symm.trans hb)
  · rw [e] at hb
    exact .inr (by have := Option.some.inj hb; omega)
theorem appendRP {w : World} {A B : Option Addr} {n c m d : Nat} {ps qs : List Pr} (h : Orw w 0 65 2 (.slice A n c) (ps.map encP)) (h2 : Orw w 0 65 2 (.slice B m d) (qs.map encP)) (hl : ps.length < 1000) (hl2 : qs.length < 1000) :
    ∃ A' n' c' w', (Builtin.append_ #[59, 59] 59 #[.slice A n c, .slice B m d]).run Try.prog w = .ok (.slice A' n' c') w' ∧ Orw w' 0 65 2 (.slice A' n' c') ((ps ++ qs).map encP) ∧ RowTo w (.slice A n c) w' (.slice A' n' c') := by
  obtain ⟨B', d', e, _, _, hz, _⟩ := h2.form
  injection e with e1 e2 e3
  subst e1 e2 e3
  have hr := h2.rws (by rw [List.length_map]; omega) (by decide)
  obtain ⟨A', c', w', h1, h2, h3, h4⟩ := orw_grow elmP (ty := 59) (c := d) h (Nat.zero_le _) hr (fitP qs) hz (by rw [List.length_map, List.length_map]; omega)
  refine ⟨_, _, _, w', h1, by rw [List.map_append]; exact h2, (Turn.refl _ w).grown h3 fun g e _ => e, fun b hb => ?_⟩
  rcases h4 with e | e
  · exact .inl (e.symm.trans hb)
  · rw [e] at hb
    exact .inr (by have := Option.some.inj hb; omega)
theorem appendRK {w : World} {A B : Option Addr} {n c m d : Nat} {ps qs : List Nat} (h : Orw w 0 56 1 (.slice A n c) (ps.map encK)) (h2 : Orw w 0 56 1 (.slice B m d) (qs.map encK)) (hl : ps.length < 1000) (hl2 : qs.length < 1000) :
    ∃ A' n' c' w', (Builtin.append_ #[60, 60] 60 #[.slice A n c, .slice B m d]).run Try.prog w = .ok (.slice A' n' c') w' ∧ Orw w' 0 56 1 (.slice A' n' c') ((ps ++ qs).map encK) ∧ RowTo w (.slice A n c) w' (.slice A' n' c') := by
  obtain ⟨B', d', e, _, _, hz, _⟩ := h2.form
  injection e with e1 e2 e3
  subst e1 e2 e3
  have hr := h2.rws (by rw [List.length_map]; omega) (by decide)
  obtain ⟨A', c', w', h1, h2, h3, h4⟩ := orw_grow elmK (ty := 60) (c := d) h (Nat.zero_le _) hr (fitK qs) hz (by rw [List.length_map, List.length_map]; omega)
  refine ⟨_, _, _, w', h1, by rw [List.map_append]; exact h2, (Turn.refl _ w).grown h3 fun g e _ => e, fun b hb => ?_⟩
  rcases h4 with e | e
  · exact .inl (e.symm.trans hb)
  · rw [e] at hb
    exact .inr (by have := Option.some.inj hb; omega)
set_option maxRecDepth 20000 in
set_option maxHeartbeats 4000000 in
theorem lendR_walk {w : World} {H : Hp} {n c r i j : Nat} {ps cp rp : List Pr} {ks ck rk : List Nat} {p0 q0 : Pr} (hin : In w H) (hn : Is H n ps ks) (hc : Is H c cp ck) (hr : Is H r rp rk) (hij : j = i + 1) (hkc : ks[i]? = some c) (hkr : ks[j]? = some r) (hp : ps[i]? = some p0) (hq : rp[0]? = some q0)
    (hnc : n ≠ c) (hnr : n ≠ r) (hcr : c ≠ r) (b1 : ps.length < 1000) (b2 : rp.length < 1000) (b3 : cp.length < 1000) (b4 : ks.length < 1000) (b5 : rk.length < 1000) (b6 : ck.length < 1000) :
    Calls Try.prog 56 #[.pointer (some ⟨n, 0, none⟩), .int .i64 (i : Int)] w fun e w' => e = .returned (.tuple #[]) ∧ ∃ H', To w H w' H' ∧ Is H' n (ps.set i q0) ks ∧ Is H' c (cp ++ [p0]) (ck ++ (rk[0]?).toList) ∧
      Is H' r (rp.drop 1) (rk.drop 1) ∧ Same H H' (fun q => q = n ∨ q = c ∨ q = r) := by
  obtain ⟨vpn, vkn, hn⟩ := hn
  obtain ⟨vpc, vkc, hc⟩ := hc
  obtain ⟨vpr, vkr, hr⟩ := hr
  have HNC := Lib.hid hnc
  have HNR := Lib.hid hnr
  have HCR := Lib.hid hcr
  have HKR := Lib.hid hkr
  have HKC := Lib.hid hkc
  have HPJ := Lib.hid hp
  have B1 := Lib.hid b1
  have B2 := Lib.hid b2
  have B3 := Lib.hid b3
  have B4 := Lib.hid b4
  have B5 := Lib.hid b5
  have B6 := Lib.hid b6
  have y1 : (j : Int) ≤ (i : Int) + 1 := by omega
  have y2 : (i : Int) + 1 ≤ (j : Int) := by omega
  have HIK := Lib.hid (show i < ks.length from (List.getElem?_eq_some_iff.1 hkc).1)
  have HJK := Lib.hid (show j < ks.length from (List.getElem?_eq_some_iff.1 hkr).1)
  have HIP := Lib.hid (show i < ps.length from (List.getElem?_eq_some_iff.1 hp).1)
  obtain ⟨z0, hz0⟩ : ∃ z0 : Nat, z0 = 0 := ⟨0, rfl⟩
  have HQ := Lib.hid hq
  have y3 : (j : Int) ≤ 1000 := by have := HJK.out; omega
  clear hnc hnr hcr hkr hkc hp hq b1 b2 b3 b4 b5 b6 hij hz0
  have HTO0 := Lib.hid (To.refl hin)
  have HI0 := Lib.hid hin
  have HS0 := Lib.hid (show Same H H (fun q => q = n ∨ q = c ∨ q = r) from fun q _ => rfl)
  have HP0_n := Lib.hid hn
  have HP0_c := Lib.hid hc
  have HP0_r := Lib.hid hr
  clear hin hn hc hr
  obtain ⟨bP, cP, e9, hc9, _⟩ := (HI0.out.at_ HP0_n.out).prs.some_ (by rw [List.length_map]; show 0 < (ps).length; have := HIP.out; omega)
  obtain ⟨nP, hl9⟩ : ∃ q, q = (ps).length := ⟨_, rfl⟩
  rw [List.length_map] at hc9 e9
  replace e9 := e9.trans (show _ = Value.slice (some ⟨bP, 0, none⟩) nP cP from by rw [hl9])
  subst e9
  have HLP := Lib.hid hl9
  have HCP := Lib.hid (show nP ≤ cP from by rw [hl9]; exact hc9)
  clear hl9 hc9
  obtain ⟨bK, cK, e9, hc9, _⟩ := (HI0.out.at_ HP0_n.out).kds.some_ (by rw [List.length_map]; show 0 < (ks).length; have := HJK.out; omega)
  obtain ⟨nK, hl9⟩ : ∃ q, q = (ks).length := ⟨_, rfl⟩
  rw [List.length_map] at hc9 e9
  replace e9 := e9.trans (show _ = Value.slice (some ⟨bK, 0, none⟩) nK cK from by rw [hl9])
  subst e9
  have HLK := Lib.hid hl9
  have HCK := Lib.hid (show nK ≤ cK from by rw [hl9]; exact hc9)
  clear hl9 hc9
  obtain ⟨AC, cC, e9, hc9, _, hz9, _⟩ := (HI0.out.at_ HP0_c.out).prs.form
  obtain ⟨nC, hl9⟩ : ∃ q, q = (cp).length := ⟨_, rfl⟩
  rw [List.length_map] at hc9 e9
  replace e9 := e9.trans (show _ = Value.slice AC nC cC from by rw [hl9])
  subst e9
  have HLC := Lib.hid hl9
  have HCC := Lib.hid (show nC ≤ cC from by rw [hl9]; exact hc9)
  have HZC := Lib.hid hz9
  clear hl9 hc9 hz9
  have HIn := Lib.hid (show i < nK from by rw [HLK.out]; exact HIK.out)
  have HJn := Lib.hid (show j < nK from by rw [HLK.out]; exact HJK.out)
  have HIp := Lib.hid (show i < nP from by rw [HLP.out]; exact HIP.out)
  go_enter Try.func56, Try.ntmps56
  go_upto_region 0 with fail
  refine wp_region_alw (fun W => Blk W n 62 #[.slice (some ⟨bP, 0, none⟩) nP cP, .slice (some ⟨bK, 0, none⟩) nK cK] ∧ W.cell? ⟨bK, 0 + i * 1, none⟩ = some (.pointer (some ⟨c, 0, none⟩)) ∧ W.cell? ⟨bK, 0 + j * 1, none⟩ = some (.pointer (some ⟨r, 0, none⟩))) (by kernel_rfl) ?_
  have HTd := Lib.hid ((Turn.refl nowhere w).drew)
  have hS0 : Blk w.drew n 62 #[.slice (some ⟨bP, 0, none⟩) nP cP, .slice (some ⟨bK, 0, none⟩) nK cK] ∧ w.drew.cell? ⟨bK, 0 + i * 1, none⟩ = some (.pointer (some ⟨c, 0, none⟩)) ∧ w.drew.cell? ⟨bK, 0 + j * 1, none⟩ = some (.pointer (some ⟨r, 0, none⟩)) := ⟨(HI0.out.at_ HP0_n.out).blk, kid_cell (HI0.out.at_ HP0_n.out) HKC.out, kid_cell (HI0.out.at_ HP0_n.out) HKR.out⟩
  refine alw_take (i := 0) (v := .pointer (some ⟨n, 0, none⟩)) rfl (by kernel_rfl) (by kernel_rfl) (fun _ _ _ h => h) (.inl ⟨by rfl, fun W hW => exec_move rfl rfl⟩) hS0 ?_
  simp only [Act.put, List.setIfInBounds_toArray, List.set_cons_zero, List.set_cons_succ]
  refine alw_take (i := 1) (v := .pointer (some ⟨n, 0, none⟩)) rfl (by kernel_rfl) (by kernel_rfl) (fun _ _ _ h => h) (.inl ⟨by rfl, fun W hW => exec_nil rfl rfl⟩) hS0 ?_
  simp only [Act.put, List.setIfInBounds_toArray, List.set_cons_zero, List.set_cons_succ]
  refine alw_take (i := 2) (v := .pointer (some ⟨n, 1, none⟩)) rfl (by kernel_rfl) (by kernel_rfl) (fun _ _ _ h => h) (.inl ⟨by rfl, fun W hW => exec_field (off := 0) (d := 1) rfl rfl (by kernel_rfl)⟩) hS0 ?_
  simp only [Act.put, List.setIfInBounds_toArray, List.set_cons_zero, List.set_cons_succ]
  refine alw_take (i := 3) (v := .slice (some ⟨bK, 0, none⟩) nK cK) rfl (by kernel_rfl) (by kernel_rfl) (fun _ _ _ h => h) (.inl ⟨by rfl, fun W hW => exec_load1 rfl rfl (by kernel_rfl) (hW.1.cell 1)⟩) hS0 ?_
  simp only [Act.put, List.setIfInBounds_toArray, List.set_cons_zero, List.set_cons_succ]
  refine alw_take (i := 4) (v := .int .i64 (i : Int)) rfl (by kernel_rfl) (by kernel_rfl) (fun _ _ _ h => h) (.inl ⟨by rfl, fun W hW => exec_move rfl rfl⟩) hS0 ?_
  simp only [Act.put, List.setIfInBounds_toArray, List.set_cons_zero, List.set_cons_succ]
  refine alw_take (i := 5) (v := .pointer (some ⟨bK, 0 + i * 1, none⟩)) rfl (by kernel_rfl) (by kernel_rfl) (fun _ _ _ h => h) (.inl ⟨by rfl, fun W hW => gx_iaddr (i := i) (sz := 1) rfl rfl rfl Try.underlying60 size_ptr HIn.out rfl⟩) hS0 ?_
  simp only [Act.put, List.setIfInBounds_toArray, List.set_cons_zero, List.set_cons_succ]
  refine alw_take (i := 6) (v := .pointer (some ⟨c, 0, none⟩)) rfl (by kernel_rfl) (by kernel_rfl) (fun _ _ _ h => h) (.inl ⟨by rfl, fun W hW => exec_load1 rfl rfl (by kernel_rfl) hW.2.1⟩) hS0 ?_
  simp only [Act.put, List.setIfInBounds_toArray, List.set_cons_zero, List.set_cons_succ]
  refine alw_take (i := 7) (v := .pointer (some ⟨n, 0, none⟩)) rfl (by kernel_rfl) (by kernel_rfl) (fun _ _ _ h => h) (.inl ⟨by rfl, fun W hW => exec_move rfl rfl⟩) hS0 ?_
  simp only [Act.put, List.setIfInBounds_toArray, List.set_cons_zero, List.set_cons_succ]
  refine alw_take (i := 8) (v := .pointer (some ⟨n, 0, none⟩)) rfl (by kernel_rfl) (by kernel_rfl) (fun _ _ _ h => h) (.inl ⟨by rfl, fun W hW => exec_nil rfl rfl⟩) hS0 ?_
  simp only [Act.put, List.setIfInBounds_toArray, List.set_cons_zero, List.set_cons_succ]
  refine alw_take (i := 9) (v := .pointer (some ⟨n, 1, none⟩)) rfl (by kernel_rfl) (by kernel_rfl) (fun _ _ _ h => h) (.inl ⟨by rfl, fun W hW => exec_field (off := 0) (d := 1) rfl rfl (by kernel_rfl)⟩) hS0 ?_
  simp only [Act.put, List.setIfInBounds_toArray, List.set_cons_zero, List.set_cons_succ]
  refine alw_take (i := 10) (v := .slice (some ⟨bK, 0, none⟩) nK cK) rfl (by kernel_rfl) (by kernel_rfl) (fun _ _ _ h => h) (.inl ⟨by rfl, fun W hW => exec_load1 rfl rfl (by kernel_rfl) (hW.1.cell 1)⟩) hS0 ?_
  simp only [Act.put, List.setIfInBounds_toArray, List.set_cons_zero, List.set_cons_succ]
  refine alw_take (i := 11) (v := .int .i64 (i : Int)) rfl (by kernel_rfl) (by kernel_rfl) (fun _ _ _ h => h) (.inl ⟨by rfl, fun W hW => exec_move rfl rfl⟩) hS0 ?_
  simp only [Act.put, List.setIfInBounds_toArray, List.set_cons_zero, List.set_cons_succ]
  refine alw_take (i := 12) (v := .int .i64 (j : Int)) rfl (by kernel_rfl) (by kernel_rfl) (fun _ _ _ h => h) (.inl ⟨by rfl, fun W hW => ix_add rfl rfl rfl (by omega) (by omega)⟩) hS0 ?_
  simp only [Act.put, List.setIfInBounds_toArray, List.set_cons_zero, List.set_cons_succ]
  refine alw_take (i := 13) (v := .pointer (some ⟨bK, 0 + j * 1, none⟩)) rfl (by kernel_rfl) (by kernel_rfl) (fun _ _ _ h => h) (.inl ⟨by rfl, fun W hW => gx_iaddr (i := j) (sz := 1) rfl rfl rfl Try.underlying60 size_ptr HJn.out rfl⟩) hS0 ?_
  simp only [Act.put, List.setIfInBounds_toArray, List.set_cons_zero, List.set_cons_succ]
  refine alw_take (i := 14) (v := .pointer (some ⟨r, 0, none⟩)) rfl (by kernel_rfl) (by kernel_rfl) (fun _ _ _ h => h) (.inl ⟨by rfl, fun W hW => exec_load1 rfl rfl (by kernel_rfl) hW.2.2⟩) hS0 ?_
  simp only [Act.put, List.setIfInBounds_toArray, List.set_cons_zero, List.set_cons_succ]
  refine alw_take (i := 15) (v := .pointer (some ⟨c, 0, none⟩)) rfl (by kernel_rfl) (by kernel_rfl) (fun _ _ _ h => h) (.inl ⟨by rfl, fun W hW => gx_assign rfl rfl⟩) hS0 ?_
  simp only [Act.put, List.setIfInBounds_toArray, List.set_cons_zero, List.set_cons_succ]
  refine alw_take (i := 16) (v := .pointer (some ⟨r, 0, none⟩)) rfl (by kernel_rfl) (by kernel_rfl) (fun _ _ _ h => h) (.inl ⟨by rfl, fun W hW => gx_assign rfl rfl⟩) hS0 ?_
  simp only [Act.put, List.setIfInBounds_toArray, List.set_cons_zero, List.set_cons_succ]
  refine alw_done rfl ?_
  clear hS0
  refine NoPanic.normal ?_
  try simp only [Act.put, List.setIfInBounds_toArray, List.set_cons_zero, List.set_cons_succ]
  have HTO1 := Lib.hid (HTO0.out.trans (To.still HI0.out HTd.out))
  have HP1_n := HP0_n
  have HP1_c := HP0_c
  have HP1_r := HP0_r
  have HS1 := HS0
  have HI1 := Lib.hid HTO1.out.in_
  obtain ⟨w1, hw1⟩ : ∃ q, q = w.drew := ⟨_, rfl⟩
  rw [← hw1] at HTO1 HI1 ⊢
  clear hw1 HTd
  go_upto_region 1 with fail
  refine wp_region_till (fun W => Blk W c 62 #[.slice AC nC cC, vkc] ∧ Blk W n 62 #[.slice (some ⟨bP, 0, none⟩) nP cP, .slice (some ⟨bK, 0, none⟩) nK cK]) 14 (by kernel_rfl) ?_
  have HD := Lib.hid ((Turn.refl nowhere w1).drew)
  have hS0 : Blk w1.drew c 62 #[.slice AC nC cC, vkc] ∧ Blk w1.drew n 62 #[.slice (some ⟨bP, 0, none⟩) nP cP, .slice (some ⟨bK, 0, none⟩) nK cK] := ⟨(HI1.out.at_ HP1_c.out).blk, (HI1.out.at_ HP1_n.out).blk⟩
  refine till_take (i := 0) (v := .pointer (some ⟨c, 0, none⟩)) rfl (by kernel_rfl) (by kernel_rfl) (fun _ _ _ h => h) (.inl ⟨by rfl, fun W hW => exec_move rfl rfl⟩) hS0 ?_
  simp only [Act.put, List.setIfInBounds_toArray, List.set_cons_zero, List.set_cons_succ]
  refine till_take (i := 1) (v := .pointer (some ⟨c, 0, none⟩)) rfl (by kernel_rfl) (by kernel_rfl) (fun _ _ _ h => h) (.inl ⟨by rfl, fun W hW => exec_move rfl rfl⟩) hS0 ?_
  simp only [Act.put, List.setIfInBounds_toArray, List.set_cons_zero, List.set_cons_succ]
  refine till_take (i := 2) (v := .pointer (some ⟨c, 0, none⟩)) rfl (by kernel_rfl) (by kernel_rfl) (fun _ _ _ h => h) (.inl ⟨by rfl, fun W hW => exec_nil rfl rfl⟩) hS0 ?_
  simp only [Act.put, List.setIfInBounds_toArray, List.set_cons_zero, List.set_cons_succ]
  refine till_take (i := 3) (v := .pointer (some ⟨c, 0, none⟩)) rfl (by kernel_rfl) (by kernel_rfl) (fun _ _ _ h => h) (.inl ⟨by rfl, fun W hW => exec_field (off := 0) (d := 0) rfl rfl (by kernel_rfl)⟩) hS0 ?_
  simp only [Act.put, List.setIfInBounds_toArray, List.set_cons_zero, List.set_cons_succ]
  refine till_take (i := 4) (v := .slice AC nC cC) rfl (by kernel_rfl) (by kernel_rfl) (fun _ _ _ h => h) (.inl ⟨by rfl, fun W hW => exec_load1 rfl rfl (by kernel_rfl) (hW.1.cell 0)⟩) hS0 ?_
  simp only [Act.put, List.setIfInBounds_toArray, List.set_cons_zero, List.set_cons_succ]
  refine till_take (i := 5) (v := .pointer (some ⟨n, 0, none⟩)) rfl (by kernel_rfl) (by kernel_rfl) (fun _ _ _ h => h) (.inl ⟨by rfl, fun W hW => exec_move rfl rfl⟩) hS0 ?_
  simp only [Act.put, List.setIfInBounds_toArray, List.set_cons_zero, List.set_cons_succ]
  refine till_take (i := 6) (v := .pointer (some ⟨n, 0, none⟩)) rfl (by kernel_rfl) (by kernel_rfl) (fun _ _ _ h => h) (.inl ⟨by rfl, fun W hW => exec_nil rfl rfl⟩) hS0 ?_
  simp only [Act.put, List.setIfInBounds_toArray, List.set_cons_zero, List.set_cons_succ]
  refine till_take (i := 7) (v := .pointer (some ⟨n, 0, none⟩)) rfl (by kernel_rfl) (by kernel_rfl) (fun _ _ _ h => h) (.inl ⟨by rfl, fun W hW => exec_field (off := 0) (d := 0) rfl rfl (by kernel_rfl)⟩) hS0 ?_
  simp only [Act.put, List.setIfInBounds_toArray, List.set_cons_zero, List.set_cons_succ]
  refine till_take (i := 8) (v := .slice (some ⟨bP, 0, none⟩) nP cP) rfl (by kernel_rfl) (by kernel_rfl) (fun _ _ _ h => h) (.inl ⟨by rfl, fun W hW => exec_load1 rfl rfl (by kernel_rfl) (hW.2.cell 0)⟩) hS0 ?_
  simp only [Act.put, List.setIfInBounds_toArray, List.set_cons_zero, List.set_cons_succ]
  refine till_take (i := 9) (v := .int .i64 (i : Int)) rfl (by kernel_rfl) (by kernel_rfl) (fun _ _ _ h => h) (.inl ⟨by rfl, fun W hW => exec_move rfl rfl⟩) hS0 ?_
  simp only [Act.put, List.setIfInBounds_toArray, List.set_cons_zero, List.set_cons_succ]
  refine till_take (i := 10) (v := .pointer (some ⟨bP, 0 + i * 2, none⟩)) rfl (by kernel_rfl) (by kernel_rfl) (fun _ _ _ h => h) (.inl ⟨by rfl, fun W hW => gx_iaddr (i := i) (sz := 2) rfl rfl rfl Try.underlying59 size_pair HIp.out rfl⟩) hS0 ?_
  simp only [Act.put, List.setIfInBounds_toArray, List.set_cons_zero, List.set_cons_succ]
  refine till_step (i := 11) (by kernel_rfl) rfl rfl ?_
  intro K1 HK1
  refine wp_run (v := .agg (encP p0).toArray) (gx_loads rfl rfl (((HI1.out.still HD.out).at_ HP1_n.out).prs.el0 (by rw [List.getElem?_map, HPJ.out]; rfl)) Try.underlying65 rfl (by rw [size_pair]; rfl)) ?_
  refine HK1.out _ _ ⟨fun _ => hS0, ?_⟩
  clear HK1
  simp only [Act.put, List.setIfInBounds_toArray, List.set_cons_zero, List.set_cons_succ]
  have hb2 := Blk.new w1.drew 65 (encP p0).toArray
  have ht2 := (Turn.refl nowhere w1.drew).alloc (.cells (encP p0).toArray 65)
  obtain ⟨g2, hg2⟩ : ∃ q, q = w1.drew.heap.size := ⟨_, rfl⟩
  have hS1 : Blk (w1.drew.alloc (.cells (encP p0).toArray 65)) c 62 #[.slice AC nC cC, vkc] ∧ Blk (w1.drew.alloc (.cells (encP p0).toArray 65)) n 62 #[.slice (some ⟨bP, 0, none⟩) nP cP, .slice (some ⟨bK, 0, none⟩) nK cK] := ⟨hS0.1.alloc _, hS0.2.alloc _⟩
  have hbld := build_oneP p0 w1.drew
  rw [← hg2] at hb2 hbld
  generalize w1.drew.alloc (.cells (encP p0).toArray 65) = w2 at *
  refine till_step (i := 12) (by kernel_rfl) rfl rfl ?_
  intro K1 HK1
  refine wp_run (v := .slice (some ⟨g2, 0, none⟩) 1 1) (w' := w2) (exec_buildSlice1 rfl rfl hbld) ?_
  refine HK1.out _ _ ⟨fun _ => hS1, ?_⟩
  clear HK1
  simp only [Act.put, List.setIfInBounds_toArray, List.set_cons_zero, List.set_cons_succ]
  have HT12 := Lib.hid (HD.out.trans ht2 fun _ _ e => e)
  have HI12 := Lib.hid (HI1.out.still HT12.out)
  obtain ⟨A4, n4, c4, w3, hrun, hrow, hto⟩ := append1P (HI12.out.at_ HP1_c.out).prs hb2 B3.out
  have hS3 : Blk w3 c 62 #[.slice AC nC cC, vkc] ∧ Blk w3 n 62 #[.slice (some ⟨bP, 0, none⟩) nP cP, .slice (some ⟨bK, 0, none⟩) nK cK] := ⟨HI12.out.blkP HP1_c.out HP1_c.out hto.1, HI12.out.blkP HP1_c.out HP1_n.out hto.1⟩
  clear hb2 ht2 hbld hg2
  refine till_step (i := 13) (by kernel_rfl) rfl rfl ?_
  intro K1 HK1
  refine wp_run (v := .slice A4 n4 c4) (w' := w3) (exec_append rfl rfl rfl hrun) ?_
  refine HK1.out _ _ ⟨fun _ => hS3, ?_⟩
  clear HK1
  simp only [Act.put, List.setIfInBounds_toArray, List.set_cons_zero, List.set_cons_succ]
  clear hrun
  refine till_tail 14 rfl (by kernel_rfl) ?_
  refine wpList_run (v := .pointer (some ⟨c, 0, none⟩)) rfl (exec_nil rfl rfl) ?_
  simp only [Act.put, List.setIfInBounds_toArray, List.set_cons_zero, List.set_cons_succ]
  refine wpList_run (v := .pointer (some ⟨c, 0, none⟩)) rfl (exec_field (off := 0) (d := 0) rfl rfl (by kernel_rfl)) ?_
  simp only [Act.put, List.setIfInBounds_toArray, List.set_cons_zero, List.set_cons_succ]
  refine wpList_storeU 0 (.slice A4 n4 c4) rfl 59 _ _ rfl hS3.1 rfl rfl (by show 0 < 2; omega) (slice_one hrow) size_sP ?_
  intro w4 hb4 ht4
  have h24 := HI12.out.setP (ps' := cp ++ [p0]) HP1_c.out hto.1 hto.2 ht4 hb4 hrow
  have HX4 := Lib.hid (To.trans (To.still HI1.out HT12.out) h24)
  clear hrow hto hb4 ht4 h24 hS3 hS1 hS0
  refine wpList_nil ?_
  refine NoPanic.normal ?_
  try simp only [Act.put, List.setIfInBounds_toArray, List.set_cons_zero, List.set_cons_succ]
  have HT2 := Lib.hid (HX4.out)
  obtain ⟨H2, hH2⟩ : ∃ q, q = up H c ⟨(cp ++ [p0]), ck, (.slice A4 n4 c4), vkc⟩ := ⟨_, rfl⟩
  have HP2_n := Lib.hid (show H2 n = some ⟨ps, ks, .slice (some ⟨bP, 0, none⟩) nP cP, .slice (some ⟨bK, 0, none⟩) nK cK⟩ from by rw [hH2, up_other _ _ _ HNC.out]; exact HP1_n.out)
  have HP2_c := Lib.hid (show H2 c = some ⟨(cp ++ [p0]), ck, (.slice A4 n4 c4), vkc⟩ from by rw [hH2]; exact up_same _ _ _)
  have HP2_r := Lib.hid (show H2 r = some ⟨rp, rk, vpr, vkr⟩ from by rw [hH2, up_other _ _ _ (Ne.symm HCR.out)]; exact HP1_r.out)
  have HS2 := Lib.hid (show Same H H2 (fun q => q = n ∨ q = c ∨ q = r) from by rw [hH2]; exact HS1.out.trans (same_up _ _ _) (fun _ e => e) fun _ e => .inr (.inl e))
  rw [← hH2] at HT2
  have HTO2 := Lib.hid (HTO1.out.trans HT2.out)
  have HI2 := Lib.hid HTO2.out.in_
  clear hH2
  clear HX4 HT12 HI12 HD
  go_upto_region 2 with fail
  refine wp_region_till (fun W => Blk W n 62 #[.slice (some ⟨bP, 0, none⟩) nP cP, .slice (some ⟨bK, 0, none⟩) nK cK]) 7 (by kernel_rfl) ?_
  have HD := Lib.hid ((Turn.refl nowhere w4).drew)
  have HI4d := Lib.hid (HI2.out.still HD.out)
  have hS0 : Blk w4.drew n 62 #[.slice (some ⟨bP, 0, none⟩) nP cP, .slice (some ⟨bK, 0, none⟩) nK cK] := (HI2.out.at_ HP2_n.out).blk
  refine till_take (i := 0) (v := .pointer (some ⟨n, 0, none⟩)) rfl (by kernel_rfl) (by kernel_rfl) (fun _ _ _ h => h) (.inl ⟨by rfl, fun W hW => exec_move rfl rfl⟩) hS0 ?_
  simp only [Act.put, List.setIfInBounds_toArray, List.set_cons_zero, List.set_cons_succ]
  refine till_take (i := 1) (v := .pointer (some ⟨n, 0, none⟩)) rfl (by kernel_rfl) (by kernel_rfl) (fun _ _ _ h => h) (.inl ⟨by rfl, fun W hW => exec_nil rfl rfl⟩) hS0 ?_
  simp only [Act.put, List.setIfInBounds_toArray, List.set_cons_zero, List.set_cons_succ]
  refine till_take (i := 2) (v := .pointer (some ⟨n, 0, none⟩)) rfl (by kernel_rfl) (by kernel_rfl) (fun _ _ _ h => h) (.inl ⟨by rfl, fun W hW => exec_field (off := 0) (d := 0) rfl rfl (by kernel_rfl)⟩) hS0 ?_
  simp only [Act.put, List.setIfInBounds_toArray, List.set_cons_zero, List.set_cons_succ]
  refine till_take (i := 3) (v := .slice (some ⟨bP, 0, none⟩) nP cP) rfl (by kernel_rfl) (by kernel_rfl) (fun _ _ _ h => h) (.inl ⟨by rfl, fun W hW => exec_load1 rfl rfl (by kernel_rfl) (hW.cell 0)⟩) hS0 ?_
  simp only [Act.put, List.setIfInBounds_toArray, List.set_cons_zero, List.set_cons_succ]
  refine till_take (i := 4) (v := .int .i64 (i : Int)) rfl (by kernel_rfl) (by kernel_rfl) (fun _ _ _ h => h) (.inl ⟨by rfl, fun W hW => exec_move rfl rfl⟩) hS0 ?_
  simp only [Act.put, List.setIfInBounds_toArray, List.set_cons_zero, List.set_cons_succ]
  refine till_take (i := 5) (v := .pointer (some ⟨r, 0, none⟩)) rfl (by kernel_rfl) (by kernel_rfl) (fun _ _ _ h => h) (.inl ⟨by rfl, fun W hW => exec_move rfl rfl⟩) hS0 ?_
  simp only [Act.put, List.setIfInBounds_toArray, List.set_cons_zero, List.set_cons_succ]
  refine till_step (i := 6) (by kernel_rfl) rfl rfl ?_
  intro K1 HK1
  go_wp2_with fail
  refine (takePair_walk (i := 0) HI4d.out ⟨_, _, HP2_r.out⟩ HQ.out (by have := B2.out; omega)).mono ?_
  rintro e w5 ⟨rfl, H3, hto, his, hsame⟩
  have hn5 := (hsame n HNR.out).trans HP2_n.out
  have hS5 : Blk w5 n 62 #[.slice (some ⟨bP, 0, none⟩) nP cP, .slice (some ⟨bK, 0, none⟩) nK cK] := (hto.in_.at_ hn5).blk
  refine HK1.out _ _ ⟨fun _ => hS5, ?_⟩
  clear HK1
  try simp only [Act.put, List.setIfInBounds_toArray, List.set_cons_zero, List.set_cons_succ]
  clear hn5
  have hto5 := To.trans (To.still HI2.out HD.out) hto
  rw [List.take_zero, List.nil_append, Nat.zero_add] at his
  obtain ⟨vp3, vk3, hp3⟩ := his
  have HP3_r := Lib.hid hp3
  clear hp3
  have HP3_n := Lib.hid ((hsame n HNR.out).trans HP2_n.out)
  have HP3_c := Lib.hid ((hsame c HCR.out).trans HP2_c.out)
  have HS3 := Lib.hid (HS2.out.trans hsame (fun _ e => e) fun _ e => .inr (.inr e))
  have HTO3 := Lib.hid (HTO2.out.trans hto5)
  have HI3 := Lib.hid HTO3.out.in_
  clear hto5 hto hsame
  refine till_tail 7 rfl (by kernel_rfl) ?_
  refine wpList_run (v := .pointer (some ⟨bP, 0 + i * 2, none⟩)) rfl (gx_iaddr (i := i) (sz := 2) rfl rfl rfl Try.underlying59 size_pair HIp.out rfl) ?_
  simp only [Act.put, List.setIfInBounds_toArray, List.set_cons_zero, List.set_cons_succ]
  obtain ⟨cur, hcur, hcs, _, _, hnc, _, _⟩ := orw_block (HI3.out.at_ HP3_n.out).prs
  refine wpList_store_mid rfl 65 _ _ rfl (g := bP) (off := 0 + i * 2) (t := 65) (encP q0).toArray hcur rfl rfl (by rw [hcs]; show 0 + i * 2 + 2 ≤ cP * 2; have := HIp.out; omega) (by rw [size_pair]; rfl) (fun v hv => encP_one q0 v (by simpa using hv)) ?_
  intro w6 C6 hb6 hs6 hc6 ht6
  have hrow6 := orw_mid (HI3.out.at_ HP3_n.out).prs hcur hb6 hs6 HIp.out hc6
  have ht6' : Turn (fun b => (.slice (some ⟨bP, 0, none⟩) nP cP : Value).ownBlock = some b) w5 w6 := ht6.mono fun k _ e => by
    have e : k = bP := e
    rw [e]; rfl
  have HX6 := Lib.hid (HI3.out.setP (ps' := ps.set i q0) HP3_n.out ht6' (fun b hb => .inl hb) (Turn.refl _ _) (HI3.out.blkP HP3_n.out HP3_n.out ht6') hrow6)
  clear hcur hcs hnc hb6 hs6 hc6 ht6 hrow6 ht6' hS5 hS0
  refine wpList_nil ?_
  refine NoPanic.normal ?_
  try simp only [Act.put, List.setIfInBounds_toArray, List.set_cons_zero, List.set_cons_succ]
  have HT4 := Lib.hid (HX6.out)
  obtain ⟨H4, hH4⟩ : ∃ q, q = up H3 n ⟨(ps.set i q0), ks, .slice (some ⟨bP, 0, none⟩) nP cP, .slice (some ⟨bK, 0, none⟩) nK cK⟩ := ⟨_, rfl⟩
  have HP4_n := Lib.hid (show H4 n = some ⟨(ps.set i q0), ks, .slice (some ⟨bP, 0, none⟩) nP cP, .slice (some ⟨bK, 0, none⟩) nK cK⟩ from by rw [hH4]; exact up_same _ _ _)
  have HP4_c := Lib.hid (show H4 c = some ⟨(cp ++ [p0]), ck, (.slice A4 n4 c4), vkc⟩ from by rw [hH4, up_other _ _ _ (Ne.symm HNC.out)]; exact HP3_c.out)
  have HP4_r := Lib.hid (show H4 r = some ⟨(rp.drop 1), rk, vp3, vk3⟩ from by rw [hH4, up_other _ _ _ (Ne.symm HNR.out)]; exact HP3_r.out)
  have HS4 := Lib.hid (show Same H H4 (fun q => q = n ∨ q = c ∨ q = r) from by rw [hH4]; exact HS3.out.trans (same_up _ _ _) (fun _ e => e) fun _ e => .inl e)
  rw [← hH4] at HT4
  have HTO4 := Lib.hid (HTO3.out.trans HT4.out)
  have HI4 := Lib.hid HTO4.out.in_
  clear hH4
  clear HX6 HI4d HD
  have HN_r := Lib.hid (show NodeAt w6 r vp3 vk3 (rp.drop 1) rk from (HI4.out.at_ HP4_r.out))
  have hw := lowest_walk HN_r.out
  by_cases hks : rk = []
  · subst hks
    rw [show decide (([] : List Nat) = []) = true from rfl] at hw
    have HW := Lib.hid hw
    clear hw
    go_upto_region 3 with fail
    refine wp_region_lit ?_
    refine wpList_run (v := .pointer (some ⟨r, 0, none⟩)) rfl (exec_move rfl rfl) ?_
    simp only [Act.put, List.setIfInBounds_toArray, List.set_cons_zero, List.set_cons_succ]
    refine wpList_op rfl fun K9 HK9 => ?_
    go_wp2_with fail
    refine (HW.out).mono ?_
    rintro e w7 ⟨rfl, rfl⟩
    refine HK9.out _ _ ?_
    clear HK9
    try simp only [Act.put, List.setIfInBounds_toArray, List.set_cons_zero, List.set_cons_succ]
    refine wpList_run (v := .bool false) rfl (ix_not (b := true) rfl rfl) ?_
    simp only [Act.put, List.setIfInBounds_toArray, List.set_cons_zero, List.set_cons_succ]
    go_wp2_with fail
    go_end0
    exact ⟨rfl, H4, HTO4.out, ⟨_, _, HP4_n.out⟩, (by first | exact ⟨_, _, HP4_c.out⟩ | (simp only [List.getElem?_nil, Option.toList_none, List.append_nil]; exact ⟨_, _, HP4_c.out⟩)), (by first | exact ⟨_, _, HP4_r.out⟩ | (rw [← List.drop_one]; exact ⟨_, _, HP4_r.out⟩)), HS4.out⟩
  · rw [show decide (rk = []) = false from decide_eq_false hks] at hw
    have HW := Lib.hid hw
    obtain ⟨x, hx⟩ : ∃ x, rk[0]? = some x := ⟨_, List.getElem?_eq_getElem (show 0 < rk.length from List.length_pos_iff.2 hks)⟩
    have HX := Lib.hid hx
    clear hw hks HN_r hx
    go_upto_region 3 with fail
    refine wp_region_lit ?_
    refine wpList_run (v := .pointer (some ⟨r, 0, none⟩)) rfl (exec_move rfl rfl) ?_
    simp only [Act.put, List.setIfInBounds_toArray, List.set_cons_zero, List.set_cons_succ]
    refine wpList_op rfl fun K9 HK9 => ?_
    go_wp2_with fail
    refine (HW.out).mono ?_
    rintro e w7 ⟨rfl, rfl⟩
    refine HK9.out _ _ ?_
    clear HK9
    try simp only [Act.put, List.setIfInBounds_toArray, List.set_cons_zero, List.set_cons_succ]
    clear HW
    refine wpList_run (v := .bool true) rfl (ix_not (b := false) rfl rfl) ?_
    simp only [Act.put, List.setIfInBounds_toArray, List.set_cons_zero, List.set_cons_succ]
    obtain ⟨AD, cD, e9, hc9, _, hz9, _⟩ := (HI4.out.at_ HP4_c.out).kds.form
    obtain ⟨nD, hl9⟩ : ∃ q, q = (ck).length := ⟨_, rfl⟩
    rw [List.length_map] at hc9 e9
    replace e9 := e9.trans (show _ = Value.slice AD nD cD from by rw [hl9])
    subst e9
    have HLD := Lib.hid hl9
    have HCD := Lib.hid (show nD ≤ cD from by rw [hl9]; exact hc9)
    have HZD := Lib.hid hz9
    clear hl9 hc9 hz9
    go_upto_region 4 with fail
    refine wp_region_till (fun W => Blk W c 62 #[(.slice A4 n4 c4), .slice AD nD cD]) 9 (by kernel_rfl) ?_
    have HD := Lib.hid ((Turn.refl nowhere w7).drew)
    have HI7d := Lib.hid (HI4.out.still HD.out)
    have hS0 : Blk w7.drew c 62 #[(.slice A4 n4 c4), .slice AD nD cD] := (HI4.out.at_ HP4_c.out).blk
    refine till_take (i := 0) (v := .pointer (some ⟨c, 0, none⟩)) rfl (by kernel_rfl) (by kernel_rfl) (fun _ _ _ h => h) (.inl ⟨by rfl, fun W hW => exec_move rfl rfl⟩) hS0 ?_
    simp only [Act.put, List.setIfInBounds_toArray, List.set_cons_zero, List.set_cons_succ]
    refine till_take (i := 1) (v := .pointer (some ⟨c, 0, none⟩)) rfl (by kernel_rfl) (by kernel_rfl) (fun _ _ _ h => h) (.inl ⟨by rfl, fun W hW => exec_move rfl rfl⟩) hS0 ?_
    simp only [Act.put, List.setIfInBounds_toArray, List.set_cons_zero, List.set_cons_succ]
    refine till_take (i := 2) (v := .pointer (some ⟨c, 0, none⟩)) rfl (by kernel_rfl) (by kernel_rfl) (fun _ _ _ h => h) (.inl ⟨by rfl, fun W hW => exec_nil rfl rfl⟩) hS0 ?_
    simp only [Act.put, List.setIfInBounds_toArray, List.set_cons_zero, List.set_cons_succ]
    refine till_take (i := 3) (v := .pointer (some ⟨c, 1, none⟩)) rfl (by kernel_rfl) (by kernel_rfl) (fun _ _ _ h => h) (.inl ⟨by rfl, fun W hW => exec_field (off := 0) (d := 1) rfl rfl (by kernel_rfl)⟩) hS0 ?_
    simp only [Act.put, List.setIfInBounds_toArray, List.set_cons_zero, List.set_cons_succ]
    refine till_take (i := 4) (v := .slice AD nD cD) rfl (by kernel_rfl) (by kernel_rfl) (fun _ _ _ h => h) (.inl ⟨by rfl, fun W hW => exec_load1 rfl rfl (by kernel_rfl) (hW.cell 1)⟩) hS0 ?_
    simp only [Act.put, List.setIfInBounds_toArray, List.set_cons_zero, List.set_cons_succ]
    refine till_take (i := 5) (v := .pointer (some ⟨r, 0, none⟩)) rfl (by kernel_rfl) (by kernel_rfl) (fun _ _ _ h => h) (.inl ⟨by rfl, fun W hW => exec_move rfl rfl⟩) hS0 ?_
    simp only [Act.put, List.setIfInBounds_toArray, List.set_cons_zero, List.set_cons_succ]
    refine till_step (i := 6) (by kernel_rfl) rfl rfl ?_
    intro K1 HK1
    go_wp2_with fail
    refine (takeKid_walk (i := 0) HI7d.out ⟨_, _, HP4_r.out⟩ HX.out (by have := B5.out; omega)).mono ?_
    rintro e w8 ⟨rfl, H8, hto, his, hsame⟩
    have hn8 := (hsame c HCR.out).trans HP4_c.out
    have hS8 : Blk w8 c 62 #[(.slice A4 n4 c4), .slice AD nD cD] := (hto.in_.at_ hn8).blk
    refine HK1.out _ _ ⟨fun _ => hS8, ?_⟩
    clear HK1
    try simp only [Act.put, List.setIfInBounds_toArray, List.set_cons_zero, List.set_cons_succ]
    clear hn8
    have hto8 := To.trans (To.still HI4.out HD.out) hto
    rw [List.take_zero, List.nil_append, Nat.zero_add] at his
    obtain ⟨vp5, vk5, hp5⟩ := his
    have HP5_r := Lib.hid hp5
    clear hp5
    have HP5_n := Lib.hid ((hsame n HNR.out).trans HP4_n.out)
    have HP5_c := Lib.hid ((hsame c HCR.out).trans HP4_c.out)
    have HS5 := Lib.hid (HS4.out.trans hsame (fun _ e => e) fun _ e => .inr (.inr e))
    have HTO5 := Lib.hid (HTO4.out.trans hto8)
    have HI5 := Lib.hid HTO5.out.in_
    clear hto8 hto hsame HI7d HD
    have hb2 := Blk.new w8 56 (encK x).toArray
    have ht2 := (Turn.refl nowhere w8).alloc (.cells (encK x).toArray 56)
    obtain ⟨g2, hg2⟩ : ∃ q, q = w8.heap.size := ⟨_, rfl⟩
    have hS1 : Blk (w8.alloc (.cells (encK x).toArray 56)) c 62 #[(.slice A4 n4 c4), .slice AD nD cD] := hS8.alloc _
    have hbld := build_oneK x w8
    rw [← hg2] at hb2 hbld
    generalize w8.alloc (.cells (encK x).toArray 56) = w9 at *
    refine till_step (i := 7) (by kernel_rfl) rfl rfl ?_
    intro K1 HK1
    refine wp_run (v := .slice (some ⟨g2, 0, none⟩) 1 1) (w' := w9) (exec_buildSlice1 rfl rfl hbld) ?_
    refine HK1.out _ _ ⟨fun _ => hS1, ?_⟩
    clear HK1
    simp only [Act.put, List.setIfInBounds_toArray, List.set_cons_zero, List.set_cons_succ]
    have HI89 := Lib.hid (HI5.out.still ht2)
    have HT89 := Lib.hid ht2
    obtain ⟨A7, n7, c7, w10, hrun, hrow, hto⟩ := append1K (HI89.out.at_ HP5_c.out).kds hb2 B6.out
    have hS10 : Blk w10 c 62 #[(.slice A4 n4 c4), .slice AD nD cD] := HI89.out.blkK HP5_c.out HP5_c.out hto.1
    clear hb2 ht2 hbld hg2
    refine till_step (i := 8) (by kernel_rfl) rfl rfl ?_
    intro K1 HK1
    refine wp_run (v := .slice A7 n7 c7) (w' := w10) (exec_append rfl rfl rfl hrun) ?_
    refine HK1.out _ _ ⟨fun _ => hS10, ?_⟩
    clear HK1
    simp only [Act.put, List.setIfInBounds_toArray, List.set_cons_zero, List.set_cons_succ]
    clear hrun
    refine till_tail 9 rfl (by kernel_rfl) ?_
    refine wpList_run (v := .pointer (some ⟨c, 0, none⟩)) rfl (exec_nil rfl rfl) ?_
    simp only [Act.put, List.setIfInBounds_toArray, List.set_cons_zero, List.set_cons_succ]
    refine wpList_run (v := .pointer (some ⟨c, 1, none⟩)) rfl (exec_field (off := 0) (d := 1) rfl rfl (by kernel_rfl)) ?_
    simp only [Act.put, List.setIfInBounds_toArray, List.set_cons_zero, List.set_cons_succ]
    refine wpList_storeU 1 (.slice A7 n7 c7) rfl 60 _ _ rfl hS10 rfl rfl (by show 1 < 2; omega) (slice_one hrow) size_sK ?_
    intro w11 hb11 ht11
    have h24 := HI89.out.setK (ks' := ck ++ [x]) HP5_c.out hto.1 hto.2 ht11 hb11 hrow
    have HX11 := Lib.hid (To.trans (To.still HI5.out HT89.out) h24)
    clear hrow hto hb11 ht11 h24 hS10 hS1 hS8 hS0
    refine wpList_nil ?_
    refine NoPanic.normal ?_
    try simp only [Act.put, List.setIfInBounds_toArray, List.set_cons_zero, List.set_cons_succ]
    have HT6 := Lib.hid (HX11.out)
    obtain ⟨H6, hH6⟩ : ∃ q, q = up H8 c ⟨(cp ++ [p0]), (ck ++ [x]), (.slice A4 n4 c4), (.slice A7 n7 c7)⟩ := ⟨_, rfl⟩
    have HP6_n := Lib.hid (show H6 n = some ⟨(ps.set i q0), ks, .slice (some ⟨bP, 0, none⟩) nP cP, .slice (some ⟨bK, 0, none⟩) nK cK⟩ from by rw [hH6, up_other _ _ _ HNC.out]; exact HP5_n.out)
    have HP6_c := Lib.hid (show H6 c = some ⟨(cp ++ [p0]), (ck ++ [x]), (.slice A4 n4 c4), (.slice A7 n7 c7)⟩ from by rw [hH6]; exact up_same _ _ _)
    have HP6_r := Lib.hid (show H6 r = some ⟨(rp.drop 1), (rk.drop 1), vp5, vk5⟩ from by rw [hH6, up_other _ _ _ (Ne.symm HCR.out)]; exact HP5_r.out)
    have HS6 := Lib.hid (show Same H H6 (fun q => q = n ∨ q = c ∨ q = r) from by rw [hH6]; exact HS5.out.trans (same_up _ _ _) (fun _ e => e) fun _ e => .inr (.inl e))
    rw [← hH6] at HT6
    have HTO6 := Lib.hid (HTO5.out.trans HT6.out)
    have HI6 := Lib.hid HTO6.out.in_
    clear hH6
    go_wp2_with fail
    go_end0
    rw [HX.out]
    exact ⟨rfl, H6, HTO6.out, ⟨_, _, HP6_n.out⟩, ⟨_, _, HP6_c.out⟩, (by rw [← List.drop_one, ← List.drop_one]; exact ⟨_, _, HP6_r.out⟩), HS6.out⟩
set_option maxRecDepth 20000 in
set_option maxHeartbeats 4000000 in
theorem join_walk {w : World} {H : Hp} {n l r i j : Nat} {ps lp rp : List Pr} {ks lk rk : List Nat} {p0 : Pr} (hin : In w H) (hn : Is H n ps ks) (hl : Is H l lp lk) (hr : Is H r rp rk) (hij : j = i + 1) (hkl : ks[i]? = some l) (hkr : ks[j]? = some r) (hp : ps[i]? = some p0)
    (hnl : n ≠ l) (hnr : n ≠ r) (hlr : l ≠ r) (b1 : ps.length < 900) (b2 : rp.length < 900) (b3 : lp.length < 900) (b4 : ks.length < 900) (b5 : rk.length < 900) (b6 : lk.length < 900) :
    Calls Try.prog 57 #[.pointer (some ⟨n, 0, none⟩), .int .i64 (i : Int)] w fun e w' => e = .returned (.tuple #[]) ∧ ∃ H', To w H w' H' ∧ Is H' n (ps.take i ++ ps.drop (i + 1)) (ks.take j ++ ks.drop (j + 1)) ∧ Is H' l (lp ++ [p0] ++ rp) (lk ++ rk) ∧
      Same H H' (fun q => q = n ∨ q = l ∨ q = r) := by
  obtain ⟨vpn, vkn, hn⟩ := hn
  obtain ⟨vpl, vkl, hl⟩ := hl
  obtain ⟨vpr, vkr, hr⟩ := hr
  have HNL := Lib.hid hnl
  have HNR := Lib.hid hnr
  have HLR := Lib.hid hlr
  have HKR := Lib.hid hkr
  have HPJ := Lib.hid hp
  have B1 := Lib.hid b1
  have B2 := Lib.hid b2
  have B3 := Lib.hid b3
  have B4 := Lib.hid b4
  have B5 := Lib.hid b5
  have B6 := Lib.hid b6
  have y1 : (j : Int) ≤ (i : Int) + 1 := by omega
  have y2 : (i : Int) + 1 ≤ (j : Int) := by omega
  have HJK := Lib.hid (show j < ks.length from (List.getElem?_eq_some_iff.1 hkr).1)
  have HKL := Lib.hid (show (ks.take j ++ ks.drop (j + 1))[i]? = some l from by
    rw [List.getElem?_append_left (by rw [List.length_take]; have := HJK.out; omega), List.getElem?_take, if_pos (by omega)]
    exact hkl)
  have HLN := Lib.hid (show (ks.take j ++ ks.drop (j + 1)).length < 900 from by rw [List.length_append, List.length_take, List.length_drop]; have := HJK.out; have := B4.out; omega)
  have HL0 := Lib.hid (show i < (ks.take j ++ ks.drop (j + 1)).length from by rw [List.length_append, List.length_take, List.length_drop]; have := HJK.out; omega)
  have y3 : (j : Int) ≤ 1000 := by have := HJK.out; omega
  clear hnl hnr hlr hkr hkl hp b1 b2 b3 b4 b5 b6 hij
  have HTO0 := Lib.hid (To.refl hin)
  have HI0 := Lib.hid hin
  have HS0 := Lib.hid (show Same H H (fun q => q = n ∨ q = l ∨ q = r) from fun q _ => rfl)
  have HP0_n := Lib.hid hn
  have HP0_l := Lib.hid hl
  have HP0_r := Lib.hid hr
  clear hin hn hl hr
  go_enter Try.func57, Try.ntmps57
  go_upto_region 0 with fail
  refine wp_region_lit ?_
  refine wpList_run (v := .pointer (some ⟨n, 0, none⟩)) rfl (exec_move rfl rfl) ?_
  simp only [Act.put, List.setIfInBounds_toArray, List.set_cons_zero, List.set_cons_succ]
  refine wpList_run (v := .int .i64 (i : Int)) rfl (exec_move rfl rfl) ?_
  simp only [Act.put, List.setIfInBounds_toArray, List.set_cons_zero, List.set_cons_succ]
  refine wpList_run (v := .int .i64 (j : Int)) rfl (ix_add rfl rfl rfl (by omega) (by omega)) ?_
  simp only [Act.put, List.setIfInBounds_toArray, List.set_cons_zero, List.set_cons_succ]
  refine wpList_op rfl fun K9 HK9 => ?_
  go_wp2_with fail
  refine (takeKid_walk HI0.out ⟨_, _, HP0_n.out⟩ HKR.out (by have := B4.out; omega)).mono ?_
  rintro e w1 ⟨rfl, H1, hto, his, hsame⟩
  refine HK9.out _ _ ?_
  clear HK9
  try simp only [Act.put, List.setIfInBounds_toArray, List.set_cons_zero, List.set_cons_succ]
  obtain ⟨vp1, vk1, hp1⟩ := his
  have HP1_n := Lib.hid hp1
  clear hp1
  have HP1_l := Lib.hid ((hsame l (Ne.symm HNL.out)).trans HP0_l.out)
  have HP1_r := Lib.hid ((hsame r (Ne.symm HNR.out)).trans HP0_r.out)
  have HS1 := Lib.hid (HS0.out.trans hsame (fun _ e => e) fun _ e => .inl e)
  have HTO1 := Lib.hid (HTO0.out.trans hto)
  have HI1 := Lib.hid HTO1.out.in_
  clear hto hsame
  refine wpList_run (v := .pointer (some ⟨r, 0, none⟩)) rfl (gx_assign rfl rfl) ?_
  simp only [Act.put, List.setIfInBounds_toArray, List.set_cons_zero, List.set_cons_succ]
  obtain ⟨bK, cK, e9, hc9, _⟩ := (HI1.out.at_ HP1_n.out).kds.some_ (by rw [List.length_map]; show 0 < ((ks.take j ++ ks.drop (j + 1))).length; have := HL0.out; omega)
  obtain ⟨nK, hl9⟩ : ∃ q, q = ((ks.take j ++ ks.drop (j + 1))).length := ⟨_, rfl⟩
  rw [List.length_map] at hc9 e9
  replace e9 := e9.trans (show _ = Value.slice (some ⟨bK, 0, none⟩) nK cK from by rw [hl9])
  subst e9
  have HLK := Lib.hid hl9
  have HCK := Lib.hid (show nK ≤ cK from by rw [hl9]; exact hc9)
  clear hl9 hc9
  have HIn := Lib.hid (show i < nK from by rw [HLK.out]; exact HL0.out)
  go_upto_region 1 with fail
  refine wp_region_lit ?_
  refine wpList_run (v := .pointer (some ⟨n, 0, none⟩)) rfl (exec_move rfl rfl) ?_
  simp only [Act.put, List.setIfInBounds_toArray, List.set_cons_zero, List.set_cons_succ]
  refine wpList_run (v := .pointer (some ⟨n, 0, none⟩)) rfl (exec_nil rfl rfl) ?_
  simp only [Act.put, List.setIfInBounds_toArray, List.set_cons_zero, List.set_cons_succ]
  refine wpList_run (v := .pointer (some ⟨n, 1, none⟩)) rfl (exec_field (off := 0) (d := 1) rfl rfl (by kernel_rfl)) ?_
  simp only [Act.put, List.setIfInBounds_toArray, List.set_cons_zero, List.set_cons_succ]
  refine wpList_run (v := .slice (some ⟨bK, 0, none⟩) nK cK) rfl (exec_load1 rfl rfl (by kernel_rfl) ((HI1.out.at_ HP1_n.out).blk.cell 1)) ?_
  simp only [Act.put, List.setIfInBounds_toArray, List.set_cons_zero, List.set_cons_succ]
  refine wpList_run (v := .int .i64 (i : Int)) rfl (exec_move rfl rfl) ?_
  simp only [Act.put, List.setIfInBounds_toArray, List.set_cons_zero, List.set_cons_succ]
  refine wpList_run (v := .pointer (some ⟨bK, 0 + i * 1, none⟩)) rfl (gx_iaddr (i := i) (sz := 1) rfl rfl rfl Try.underlying60 size_ptr HIn.out rfl) ?_
  simp only [Act.put, List.setIfInBounds_toArray, List.set_cons_zero, List.set_cons_succ]
  refine wpList_run (v := .pointer (some ⟨l, 0, none⟩)) rfl (exec_load1 rfl rfl (by kernel_rfl) (kid_cell (HI1.out.at_ HP1_n.out) HKL.out)) ?_
  simp only [Act.put, List.setIfInBounds_toArray, List.set_cons_zero, List.set_cons_succ]
  refine wpList_run (v := .pointer (some ⟨l, 0, none⟩)) rfl (gx_assign rfl rfl) ?_
  simp only [Act.put, List.setIfInBounds_toArray, List.set_cons_zero, List.set_cons_succ]
  obtain ⟨AC, cC, e9, hc9, _, hz9, _⟩ := (HI1.out.at_ HP1_l.out).prs.form
  obtain ⟨nC, hl9⟩ : ∃ q, q = (lp).length := ⟨_, rfl⟩
  rw [List.length_map] at hc9 e9
  replace e9 := e9.trans (show _ = Value.slice AC nC cC from by rw [hl9])
  subst e9
  have HLC := Lib.hid hl9
  have HCC := Lib.hid (show nC ≤ cC from by rw [hl9]; exact hc9)
  have HZC := Lib.hid hz9
  clear hl9 hc9 hz9
  go_upto_region 2 with fail
  refine wp_region_till (fun W => Blk W l 62 #[.slice AC nC cC, vkl]) 10 (by kernel_rfl) ?_
  have HD := Lib.hid ((Turn.refl nowhere w1).drew)
  have HId := Lib.hid (HI1.out.still HD.out)
  have hS0 : Blk w1.drew l 62 #[.slice AC nC cC, vkl] := (HI1.out.at_ HP1_l.out).blk
  refine till_take (i := 0) (v := .pointer (some ⟨l, 0, none⟩)) rfl (by kernel_rfl) (by kernel_rfl) (fun _ _ _ h => h) (.inl ⟨by rfl, fun W hW => exec_move rfl rfl⟩) hS0 ?_
  simp only [Act.put, List.setIfInBounds_toArray, List.set_cons_zero, List.set_cons_succ]
  refine till_take (i := 1) (v := .pointer (some ⟨l, 0, none⟩)) rfl (by kernel_rfl) (by kernel_rfl) (fun _ _ _ h => h) (.inl ⟨by rfl, fun W hW => exec_move rfl rfl⟩) hS0 ?_
  simp only [Act.put, List.setIfInBounds_toArray, List.set_cons_zero, List.set_cons_succ]
  refine till_take (i := 2) (v := .pointer (some ⟨l, 0, none⟩)) rfl (by kernel_rfl) (by kernel_rfl) (fun _ _ _ h => h) (.inl ⟨by rfl, fun W hW => exec_nil rfl rfl⟩) hS0 ?_
  simp only [Act.put, List.setIfInBounds_toArray, List.set_cons_zero, List.set_cons_succ]
  refine till_take (i := 3) (v := .pointer (some ⟨l, 0, none⟩)) rfl (by kernel_rfl) (by kernel_rfl) (fun _ _ _ h => h) (.inl ⟨by rfl, fun W hW => exec_field (off := 0) (d := 0) rfl rfl (by kernel_rfl)⟩) hS0 ?_
  simp only [Act.put, List.setIfInBounds_toArray, List.set_cons_zero, List.set_cons_succ]
  refine till_take (i := 4) (v := .slice AC nC cC) rfl (by kernel_rfl) (by kernel_rfl) (fun _ _ _ h => h) (.inl ⟨by rfl, fun W hW => exec_load1 rfl rfl (by kernel_rfl) (hW.cell 0)⟩) hS0 ?_
  simp only [Act.put, List.setIfInBounds_toArray, List.set_cons_zero, List.set_cons_succ]
  refine till_take (i := 5) (v := .pointer (some ⟨n, 0, none⟩)) rfl (by kernel_rfl) (by kernel_rfl) (fun _ _ _ h => h) (.inl ⟨by rfl, fun W hW => exec_move rfl rfl⟩) hS0 ?_
  simp only [Act.put, List.setIfInBounds_toArray, List.set_cons_zero, List.set_cons_succ]
  refine till_take (i := 6) (v := .int .i64 (i : Int)) rfl (by kernel_rfl) (by kernel_rfl) (fun _ _ _ h => h) (.inl ⟨by rfl, fun W hW => exec_move rfl rfl⟩) hS0 ?_
  simp only [Act.put, List.setIfInBounds_toArray, List.set_cons_zero, List.set_cons_succ]
  refine till_step (i := 7) (by kernel_rfl) rfl rfl ?_
  intro K1 HK1
  go_wp2_with fail
  refine (takePair_walk HId.out ⟨_, _, HP1_n.out⟩ HPJ.out (by have := B1.out; omega)).mono ?_
  rintro e w2 ⟨rfl, H2, hto, his, hsame⟩
  have hn2 := (hsame l (Ne.symm HNL.out)).trans HP1_l.out
  have hS2 : Blk w2 l 62 #[.slice AC nC cC, vkl] := (hto.in_.at_ hn2).blk
  refine HK1.out _ _ ⟨fun _ => hS2, ?_⟩
  clear HK1
  try simp only [Act.put, List.setIfInBounds_toArray, List.set_cons_zero, List.set_cons_succ]
  clear hn2
  have hto2 := To.trans (To.still HI1.out HD.out) hto
  obtain ⟨vp2, vk2, hp2⟩ := his
  have HP2_n := Lib.hid hp2
  clear hp2
  have HP2_l := Lib.hid ((hsame l (Ne.symm HNL.out)).trans HP1_l.out)
  have HP2_r := Lib.hid ((hsame r (Ne.symm HNR.out)).trans HP1_r.out)
  have HS2 := Lib.hid (HS1.out.trans hsame (fun _ e => e) fun _ e => .inl e)
  have HTO2 := Lib.hid (HTO1.out.trans hto2)
  have HI2 := Lib.hid HTO2.out.in_
  clear hto2 hto hsame HD HId
  have hb2 := Blk.new w2 65 (encP p0).toArray
  have ht2 := (Turn.refl nowhere w2).alloc (.cells (encP p0).toArray 65)
  obtain ⟨g2, hg2⟩ : ∃ q, q = w2.heap.size := ⟨_, rfl⟩
  have hS1 : Blk (w2.alloc (.cells (encP p0).toArray 65)) l 62 #[.slice AC nC cC, vkl] := hS2.alloc _
  have hbld := build_oneP p0 w2
  rw [← hg2] at hb2 hbld
  generalize w2.alloc (.cells (encP p0).toArray 65) = w3 at *
  refine till_step (i := 8) (by kernel_rfl) rfl rfl ?_
  intro K1 HK1
  refine wp_run (v := .slice (some ⟨g2, 0, none⟩) 1 1) (w' := w3) (exec_buildSlice1 rfl rfl hbld) ?_
  refine HK1.out _ _ ⟨fun _ => hS1, ?_⟩
  clear HK1
  simp only [Act.put, List.setIfInBounds_toArray, List.set_cons_zero, List.set_cons_succ]
  have HI3a := Lib.hid (HI2.out.still ht2)
  have HT3a := Lib.hid ht2
  obtain ⟨A4, n4, c4, w4, hrun, hrow, hto⟩ := append1P (HI3a.out.at_ HP2_l.out).prs hb2 (by have := B3.out; show lp.length < 1000; omega)
  have hS4 : Blk w4 l 62 #[.slice AC nC cC, vkl] := HI3a.out.blkP HP2_l.out HP2_l.out hto.1
  clear hb2 ht2 hbld hg2
  refine till_step (i := 9) (by kernel_rfl) rfl rfl ?_
  intro K1 HK1
  refine wp_run (v := .slice A4 n4 c4) (w' := w4) (exec_append rfl rfl rfl hrun) ?_
  refine HK1.out _ _ ⟨fun _ => hS4, ?_⟩
  clear HK1
  simp only [Act.put, List.setIfInBounds_toArray, List.set_cons_zero, List.set_cons_succ]
  clear hrun
  refine till_tail 10 rfl (by kernel_rfl) ?_
  refine wpList_run (v := .pointer (some ⟨l, 0, none⟩)) rfl (exec_nil rfl rfl) ?_
  simp only [Act.put, List.setIfInBounds_toArray, List.set_cons_zero, List.set_cons_succ]
  refine wpList_run (v := .pointer (some ⟨l, 0, none⟩)) rfl (exec_field (off := 0) (d := 0) rfl rfl (by kernel_rfl)) ?_
  simp only [Act.put, List.setIfInBounds_toArray, List.set_cons_zero, List.set_cons_succ]
  refine wpList_storeU 0 (.slice A4 n4 c4) rfl 59 _ _ rfl hS4 rfl rfl (by show 0 < 2; omega) (slice_one hrow) size_sP ?_
  intro w5 hb4 ht4
  have h24 := HI3a.out.setP (ps' := lp ++ [p0]) HP2_l.out hto.1 hto.2 ht4 hb4 hrow
  have HX5 := Lib.hid (To.trans (To.still HI2.out HT3a.out) h24)
  clear hrow hto hb4 ht4 h24 hS4 hS1 hS2 hS0
  refine wpList_nil ?_
  refine NoPanic.normal ?_
  try simp only [Act.put, List.setIfInBounds_toArray, List.set_cons_zero, List.set_cons_succ]
  have HT3 := Lib.hid (HX5.out)
  obtain ⟨H3, hH3⟩ : ∃ q, q = up H2 l ⟨(lp ++ [p0]), lk, (.slice A4 n4 c4), vkl⟩ := ⟨_, rfl⟩
  have HP3_n := Lib.hid (show H3 n = some ⟨(ps.take i ++ ps.drop (i + 1)), (ks.take j ++ ks.drop (j + 1)), vp2, vk2⟩ from by rw [hH3, up_other _ _ _ HNL.out]; exact HP2_n.out)
  have HP3_l := Lib.hid (show H3 l = some ⟨(lp ++ [p0]), lk, (.slice A4 n4 c4), vkl⟩ from by rw [hH3]; exact up_same _ _ _)
  have HP3_r := Lib.hid (show H3 r = some ⟨rp, rk, vpr, vkr⟩ from by rw [hH3, up_other _ _ _ (Ne.symm HLR.out)]; exact HP2_r.out)
  have HS3 := Lib.hid (show Same H H3 (fun q => q = n ∨ q = l ∨ q = r) from by rw [hH3]; exact HS2.out.trans (same_up _ _ _) (fun _ e => e) fun _ e => .inr (.inl e))
  rw [← hH3] at HT3
  have HTO3 := Lib.hid (HTO2.out.trans HT3.out)
  have HI3 := Lib.hid HTO3.out.in_
  clear hH3
  clear HX5 HI3a HT3a
  obtain ⟨AR3, cR3, e9, hc9, _, hz9, _⟩ := (HI3.out.at_ HP3_r.out).prs.form
  obtain ⟨nR3, hl9⟩ : ∃ q, q = (rp).length := ⟨_, rfl⟩
  rw [List.length_map] at hc9 e9
  replace e9 := e9.trans (show _ = Value.slice AR3 nR3 cR3 from by rw [hl9])
  subst e9
  have HLR3 := Lib.hid hl9
  have HCR3 := Lib.hid (show nR3 ≤ cR3 from by rw [hl9]; exact hc9)
  have HZR3 := Lib.hid hz9
  clear hl9 hc9 hz9
  go_upto_region 3 with fail
  refine wp_region_till (fun W => Blk W l 62 #[(.slice A4 n4 c4), vkl] ∧ Blk W r 62 #[.slice AR3 nR3 cR3, vkr]) 10 (by kernel_rfl) ?_
  have HD := Lib.hid ((Turn.refl nowhere w5).drew)
  have HId := Lib.hid (HI3.out.still HD.out)
  have hS0 : Blk w5.drew l 62 #[(.slice A4 n4 c4), vkl] ∧ Blk w5.drew r 62 #[.slice AR3 nR3 cR3, vkr] := ⟨(HI3.out.at_ HP3_l.out).blk, (HI3.out.at_ HP3_r.out).blk⟩
  refine till_take (i := 0) (v := .pointer (some ⟨l, 0, none⟩)) rfl (by kernel_rfl) (by kernel_rfl) (fun _ _ _ h => h) (.inl ⟨by rfl, fun W hW => exec_move rfl rfl⟩) hS0 ?_
  simp only [Act.put, List.setIfInBounds_toArray, List.set_cons_zero, List.set_cons_succ]
  refine till_take (i := 1) (v := .pointer (some ⟨l, 0, none⟩)) rfl (by kernel_rfl) (by kernel_rfl) (fun _ _ _ h => h) (.inl ⟨by rfl, fun W hW => exec_move rfl rfl⟩) hS0 ?_
  simp only [Act.put, List.setIfInBounds_toArray, List.set_cons_zero, List.set_cons_succ]
  refine till_take (i := 2) (v := .pointer (some ⟨l, 0, none⟩)) rfl (by kernel_rfl) (by kernel_rfl) (fun _ _ _ h => h) (.inl ⟨by rfl, fun W hW => exec_nil rfl rfl⟩) hS0 ?_
  simp only [Act.put, List.setIfInBounds_toArray, List.set_cons_zero, List.set_cons_succ]
  refine till_take (i := 3) (v := .pointer (some ⟨l, 0, none⟩)) rfl (by kernel_rfl) (by kernel_rfl) (fun _ _ _ h => h) (.inl ⟨by rfl, fun W hW => exec_field (off := 0) (d := 0) rfl rfl (by kernel_rfl)⟩) hS0 ?_
  simp only [Act.put, List.setIfInBounds_toArray, List.set_cons_zero, List.set_cons_succ]
  refine till_take (i := 4) (v := (.slice A4 n4 c4)) rfl (by kernel_rfl) (by kernel_rfl) (fun _ _ _ h => h) (.inl ⟨by rfl, fun W hW => exec_load1 rfl rfl (by kernel_rfl) (hW.1.cell 0)⟩) hS0 ?_
  simp only [Act.put, List.setIfInBounds_toArray, List.set_cons_zero, List.set_cons_succ]
  refine till_take (i := 5) (v := .pointer (some ⟨r, 0, none⟩)) rfl (by kernel_rfl) (by kernel_rfl) (fun _ _ _ h => h) (.inl ⟨by rfl, fun W hW => exec_move rfl rfl⟩) hS0 ?_
  simp only [Act.put, List.setIfInBounds_toArray, List.set_cons_zero, List.set_cons_succ]
  refine till_take (i := 6) (v := .pointer (some ⟨r, 0, none⟩)) rfl (by kernel_rfl) (by kernel_rfl) (fun _ _ _ h => h) (.inl ⟨by rfl, fun W hW => exec_nil rfl rfl⟩) hS0 ?_
  simp only [Act.put, List.setIfInBounds_toArray, List.set_cons_zero, List.set_cons_succ]
  refine till_take (i := 7) (v := .pointer (some ⟨r, 0, none⟩)) rfl (by kernel_rfl) (by kernel_rfl) (fun _ _ _ h => h) (.inl ⟨by rfl, fun W hW => exec_field (off := 0) (d := 0) rfl rfl (by kernel_rfl)⟩) hS0 ?_
  simp only [Act.put, List.setIfInBounds_toArray, List.set_cons_zero, List.set_cons_succ]
  refine till_take (i := 8) (v := .slice AR3 nR3 cR3) rfl (by kernel_rfl) (by kernel_rfl) (fun _ _ _ h => h) (.inl ⟨by rfl, fun W hW => exec_load1 rfl rfl (by kernel_rfl) (hW.2.cell 0)⟩) hS0 ?_
  simp only [Act.put, List.setIfInBounds_toArray, List.set_cons_zero, List.set_cons_succ]
  obtain ⟨A3, n3', c3', w3a, hrun, hrow, hto⟩ := appendRP (HId.out.at_ HP3_l.out).prs (HId.out.at_ HP3_r.out).prs (by show (lp ++ [p0]).length < 1000; rw [List.length_append]; have := B3.out; show lp.length + 1 < 1000; omega) (by have := B2.out; show rp.length < 1000; omega)
  have hSa : Blk w3a l 62 #[(.slice A4 n4 c4), vkl] ∧ Blk w3a r 62 #[.slice AR3 nR3 cR3, vkr] := ⟨HId.out.blkP HP3_l.out HP3_l.out hto.1, HId.out.blkP HP3_l.out HP3_r.out hto.1⟩
  refine till_step (i := 9) (by kernel_rfl) rfl rfl ?_
  intro K1 HK1
  refine wp_run (v := .slice A3 n3' c3') (w' := w3a) (exec_append rfl rfl rfl hrun) ?_
  refine HK1.out _ _ ⟨fun _ => hSa, ?_⟩
  clear HK1
  simp only [Act.put, List.setIfInBounds_toArray, List.set_cons_zero, List.set_cons_succ]
  clear hrun
  refine till_tail 10 rfl (by kernel_rfl) ?_
  refine wpList_run (v := .pointer (some ⟨l, 0, none⟩)) rfl (exec_nil rfl rfl) ?_
  simp only [Act.put, List.setIfInBounds_toArray, List.set_cons_zero, List.set_cons_succ]
  refine wpList_run (v := .pointer (some ⟨l, 0, none⟩)) rfl (exec_field (off := 0) (d := 0) rfl rfl (by kernel_rfl)) ?_
  simp only [Act.put, List.setIfInBounds_toArray, List.set_cons_zero, List.set_cons_succ]
  refine wpList_storeU 0 (.slice A3 n3' c3') rfl 59 _ _ rfl hSa.1 rfl rfl (by show 0 < 2; omega) (slice_one hrow) size_sP ?_
  intro w3b hb4 ht4
  have h24 := HId.out.setP (ps' := ((lp ++ [p0]) ++ rp)) HP3_l.out hto.1 hto.2 ht4 hb4 hrow
  have HXx := Lib.hid (To.trans (To.still HI3.out HD.out) h24)
  clear hrow hto hb4 ht4 h24 hSa hS0
  refine wpList_nil ?_
  refine NoPanic.normal ?_
  try simp only [Act.put, List.setIfInBounds_toArray, List.set_cons_zero, List.set_cons_succ]
  have HT4 := Lib.hid (HXx.out)
  obtain ⟨H4, hH4⟩ : ∃ q, q = up H3 l ⟨((lp ++ [p0]) ++ rp), lk, (.slice A3 n3' c3'), vkl⟩ := ⟨_, rfl⟩
  have HP4_n := Lib.hid (show H4 n = some ⟨(ps.take i ++ ps.drop (i + 1)), (ks.take j ++ ks.drop (j + 1)), vp2, vk2⟩ from by rw [hH4, up_other _ _ _ HNL.out]; exact HP3_n.out)
  have HP4_l := Lib.hid (show H4 l = some ⟨((lp ++ [p0]) ++ rp), lk, (.slice A3 n3' c3'), vkl⟩ from by rw [hH4]; exact up_same _ _ _)
  have HP4_r := Lib.hid (show H4 r = some ⟨rp, rk, .slice AR3 nR3 cR3, vkr⟩ from by rw [hH4, up_other _ _ _ (Ne.symm HLR.out)]; exact HP3_r.out)
  have HS4 := Lib.hid (show Same H H4 (fun q => q = n ∨ q = l ∨ q = r) from by rw [hH4]; exact HS3.out.trans (same_up _ _ _) (fun _ e => e) fun _ e => .inr (.inl e))
  rw [← hH4] at HT4
  have HTO4 := Lib.hid (HTO3.out.trans HT4.out)
  have HI4 := Lib.hid HTO4.out.in_
  clear hH4
  clear HXx HD HId
  obtain ⟨AM, cM, e9, hc9, _, hz9, _⟩ := (HI4.out.at_ HP4_l.out).kds.form
  obtain ⟨nM, hl9⟩ : ∃ q, q = (lk).length := ⟨_, rfl⟩
  rw [List.length_map] at hc9 e9
  replace e9 := e9.trans (show _ = Value.slice AM nM cM from by rw [hl9])
  subst e9
  have HLM := Lib.hid hl9
  have HCM := Lib.hid (show nM ≤ cM from by rw [hl9]; exact hc9)
  have HZM := Lib.hid hz9
  clear hl9 hc9 hz9
  obtain ⟨AR4, cR4, e9, hc9, _, hz9, _⟩ := (HI4.out.at_ HP4_r.out).kds.form
  obtain ⟨nR4, hl9⟩ : ∃ q, q = (rk).length := ⟨_, rfl⟩
  rw [List.length_map] at hc9 e9
  replace e9 := e9.trans (show _ = Value.slice AR4 nR4 cR4 from by rw [hl9])
  subst e9
  have HLR4 := Lib.hid hl9
  have HCR4 := Lib.hid (show nR4 ≤ cR4 from by rw [hl9]; exact hc9)
  have HZR4 := Lib.hid hz9
  clear hl9 hc9 hz9
  go_upto_region 4 with fail
  refine wp_region_till (fun W => Blk W l 62 #[(.slice A3 n3' c3'), .slice AM nM cM] ∧ Blk W r 62 #[.slice AR3 nR3 cR3, .slice AR4 nR4 cR4]) 10 (by kernel_rfl) ?_
  have HD := Lib.hid ((Turn.refl nowhere w3b).drew)
  have HId := Lib.hid (HI4.out.still HD.out)
  have hS0 : Blk w3b.drew l 62 #[(.slice A3 n3' c3'), .slice AM nM cM] ∧ Blk w3b.drew r 62 #[.slice AR3 nR3 cR3, .slice AR4 nR4 cR4] := ⟨(HI4.out.at_ HP4_l.out).blk, (HI4.out.at_ HP4_r.out).blk⟩
  refine till_take (i := 0) (v := .pointer (some ⟨l, 0, none⟩)) rfl (by kernel_rfl) (by kernel_rfl) (fun _ _ _ h => h) (.inl ⟨by rfl, fun W hW => exec_move rfl rfl⟩) hS0 ?_
  simp only [Act.put, List.setIfInBounds_toArray, List.set_cons_zero, List.set_cons_succ]
  refine till_take (i := 1) (v := .pointer (some ⟨l, 0, none⟩)) rfl (by kernel_rfl) (by kernel_rfl) (fun _ _ _ h => h) (.inl ⟨by rfl, fun W hW => exec_move rfl rfl⟩) hS0 ?_
  simp only [Act.put, List.setIfInBounds_toArray, List.set_cons_zero, List.set_cons_succ]
  refine till_take (i := 2) (v := .pointer (some ⟨l, 0, none⟩)) rfl (by kernel_rfl) (by kernel_rfl) (fun _ _ _ h => h) (.inl ⟨by rfl, fun W hW => exec_nil rfl rfl⟩) hS0 ?_
  simp only [Act.put, List.setIfInBounds_toArray, List.set_cons_zero, List.set_cons_succ]
  refine till_take (i := 3) (v := .pointer (some ⟨l, 1, none⟩)) rfl (by kernel_rfl) (by kernel_rfl) (fun _ _ _ h => h) (.inl ⟨by rfl, fun W hW => exec_field (off := 0) (d := 1) rfl rfl (by kernel_rfl)⟩) hS0 ?_
  simp only [Act.put, List.setIfInBounds_toArray, List.set_cons_zero, List.set_cons_succ]
  refine till_take (i := 4) (v := .slice AM nM cM) rfl (by kernel_rfl) (by kernel_rfl) (fun _ _ _ h => h) (.inl ⟨by rfl, fun W hW => exec_load1 rfl rfl (by kernel_rfl) (hW.1.cell 1)⟩) hS0 ?_
  simp only [Act.put, List.setIfInBounds_toArray, List.set_cons_zero, List.set_cons_succ]
  refine till_take (i := 5) (v := .pointer (some ⟨r, 0, none⟩)) rfl (by kernel_rfl) (by kernel_rfl) (fun _ _ _ h => h) (.inl ⟨by rfl, fun W hW => exec_move rfl rfl⟩) hS0 ?_
  simp only [Act.put, List.setIfInBounds_toArray, List.set_cons_zero, List.set_cons_succ]
  refine till_take (i := 6) (v := .pointer (some ⟨r, 0, none⟩)) rfl (by kernel_rfl) (by kernel_rfl) (fun _ _ _ h => h) (.inl ⟨by rfl, fun W hW => exec_nil rfl rfl⟩) hS0 ?_
  simp only [Act.put, List.setIfInBounds_toArray, List.set_cons_zero, List.set_cons_succ]
  refine till_take (i := 7) (v := .pointer (some ⟨r, 1, none⟩)) rfl (by kernel_rfl) (by kernel_rfl) (fun _ _ _ h => h) (.inl ⟨by rfl, fun W hW => exec_field (off := 0) (d := 1) rfl rfl (by kernel_rfl)⟩) hS0 ?_
  simp only [Act.put, List.setIfInBounds_toArray, List.set_cons_zero, List.set_cons_succ]
  refine till_take (i := 8) (v := .slice AR4 nR4 cR4) rfl (by kernel_rfl) (by kernel_rfl) (fun _ _ _ h => h) (.inl ⟨by rfl, fun W hW => exec_load1 rfl rfl (by kernel_rfl) (hW.2.cell 1)⟩) hS0 ?_
  simp only [Act.put, List.setIfInBounds_toArray, List.set_cons_zero, List.set_cons_succ]
  obtain ⟨A4, n4', c4', w4a, hrun, hrow, hto⟩ := appendRK (HId.out.at_ HP4_l.out).kds (HId.out.at_ HP4_r.out).kds (by have := B6.out; show lk.length < 1000; omega) (by have := B5.out; show rk.length < 1000; omega)
  have hSa : Blk w4a l 62 #[(.slice A3 n3' c3'), .slice AM nM cM] ∧ Blk w4a r 62 #[.slice AR3 nR3 cR3, .slice AR4 nR4 cR4] := ⟨HId.out.blkK HP4_l.out HP4_l.out hto.1, HId.out.blkK HP4_l.out HP4_r.out hto.1⟩
  refine till_step (i := 9) (by kernel_rfl) rfl rfl ?_
  intro K1 HK1
  refine wp_run (v := .slice A4 n4' c4') (w' := w4a) (exec_append rfl rfl rfl hrun) ?_
  refine HK1.out _ _ ⟨fun _ => hSa, ?_⟩
  clear HK1
  simp only [Act.put, List.setIfInBounds_toArray, List.set_cons_zero, List.set_cons_succ]
  clear hrun
  refine till_tail 10 rfl (by kernel_rfl) ?_
  refine wpList_run (v := .pointer (some ⟨l, 0, none⟩)) rfl (exec_nil rfl rfl) ?_
  simp only [Act.put, List.setIfInBounds_toArray, List.set_cons_zero, List.set_cons_succ]
  refine wpList_run (v := .pointer (some ⟨l, 1, none⟩)) rfl (exec_field (off := 0) (d := 1) rfl rfl (by kernel_rfl)) ?_
  simp only [Act.put, List.setIfInBounds_toArray, List.set_cons_zero, List.set_cons_succ]
  refine wpList_storeU 1 (.slice A4 n4' c4') rfl 60 _ _ rfl hSa.1 rfl rfl (by show 1 < 2; omega) (slice_one hrow) size_sK ?_
  intro w4b hb4 ht4
  have h24 := HId.out.setK (ks' := (lk ++ rk)) HP4_l.out hto.1 hto.2 ht4 hb4 hrow
  have HXx := Lib.hid (To.trans (To.still HI4.out HD.out) h24)
  clear hrow hto hb4 ht4 h24 hSa hS0
  refine wpList_nil ?_
  refine NoPanic.normal ?_
  try simp only [Act.put, List.setIfInBounds_toArray, List.set_cons_zero, List.set_cons_succ]
  have HT5 := Lib.hid (HXx.out)
  obtain ⟨H5, hH5⟩ : ∃ q, q = up H4 l ⟨((lp ++ [p0]) ++ rp), (lk ++ rk), (.slice A3 n3' c3'), (.slice A4 n4' c4')⟩ := ⟨_, rfl⟩
  have HP5_n := Lib.hid (show H5 n = some ⟨(ps.take i ++ ps.drop (i + 1)), (ks.take j ++ ks.drop (j + 1)), vp2, vk2⟩ from by rw [hH5, up_other _ _ _ HNL.out]; exact HP4_n.out)
  have HP5_l := Lib.hid (show H5 l = some ⟨((lp ++ [p0]) ++ rp), (lk ++ rk), (.slice A3 n3' c3'), (.slice A4 n4' c4')⟩ from by rw [hH5]; exact up_same _ _ _)
  have HP5_r := Lib.hid (show H5 r = some ⟨rp, rk, .slice AR3 nR3 cR3, .slice AR4 nR4 cR4⟩ from by rw [hH5, up_other _ _ _ (Ne.symm HLR.out)]; exact HP4_r.out)
  have HS5 := Lib.hid (show Same H H5 (fun q => q = n ∨ q = l ∨ q = r) from by rw [hH5]; exact HS4.out.trans (same_up _ _ _) (fun _ e => e) fun _ e => .inr (.inl e))
  rw [← hH5] at HT5
  have HTO5 := Lib.hid (HTO4.out.trans HT5.out)
  have HI5 := Lib.hid HTO5.out.in_
  clear hH5
  clear HXx HD HId
  go_wp2_with fail
  go_end0
  exact ⟨rfl, H5, HTO5.out, ⟨_, _, HP5_n.out⟩, ⟨_, _, HP5_l.out⟩, HS5.out⟩
end Go.Proofs.Ytmlkdkbpbleilaa
