/-
  Several texts in one file, in their order:
  - Index: a pair lent by the neighbour behind; two neighbours in one. No conditions.
  - Index: a tree in memory, by its depth; what is left of one behind changes of some of its nodes. No conditions.
  - Index: a tree in memory, two neighbours, one kid: taken apart and put together. No conditions.
  - Index: a kid with one pair too few is mended. No conditions.
  - Index: what calls leave of a tree, one behind the other. No conditions.
  - Index: the last pair taken out of a tree; a key taken out of a tree. No conditions.
  - Index: a key taken out of a tree: the walk. No conditions.
  - strings.Clone: the same bytes; of what was there nothing turns. No conditions. (The walk follows the library's own one of internal/stringslite.Clone.)
  - Index: a kid in two, in memory. No conditions.
  - Index: a key put into a tree: the walk. No conditions.
  - Index: the whole index in memory. No conditions.
-/
import Derived.Test.YtmlkdkbpbleilaaJa1
import Derived.Test.YtmlkdkbpbleilaaJa0
import Derived.Lib.Strings
import Derived.Lib.Walk
import Derived.Lib.BufferWrite
import Derived.Lib.UnsafeStr
import Derived.Laws.MakeOwn
namespace Go.Proofs.Ytmlkdkbpbleilaa
open Go.RowKit
open Ix
set_option linter.unusedVariables false
set_option linter.unusedSimpArgs false
theorem append1P {w : World} {A : Option Addr} {n c g : Nat} {ps : List Pr} {x : Pr} (h : Orw w 0 65 2 (.slice A n c) (ps.map encP)) (hx : Blk w g 65 (encP x).toArray) (hl : ps.length < 1000) :
    ∃ A' n' c' w', (Builtin.append_ #[59, 59] 59 #[.slice A n c, .slice (some ⟨g, 0, none⟩) 1 1]).run Try.prog w = .ok (.slice A' n' c') w' ∧ Orw w' 0 65 2 (.slice A' n' c') ((ps ++ [x]).map encP) ∧ RowTo w (.slice A n c) w' (.slice A' n' c') := by
  obtain ⟨A', c', w', h1, h2, h3, h4⟩ := orw_grow elmP (ty := 59) (c := 1) h (Nat.zero_le _) (rws_blk hx rfl) (Fit.one rfl (encP_one x)) (fun h => by cases h) (by rw [List.length_map]; omega)
  refine ⟨_, _, _, w', h1, by rw [List.map_append]; exact h2, (Turn.refl _ w).grown h3 fun g e _ => e, fun b hb => ?_⟩
  rcases h4 with e | e
  · exact .inl (e.symm.trans hb)
  · rw [e] at hb
    exact .inr (by have := Option.some.inj hb; omega)
theorem append1K {w : World} {A : Option Addr} {n c g : Nat} {ks : List Nat} {x : Nat} (h : Orw w 0 56 1 (.slice A n c) (ks.map encK)) (hx : Blk w g 56 (encK x).toArray) (hl : ks.length < 1000) :
    ∃ A' n' c' w', (Builtin.append_ #[60, 60] 60 #[.slice A n c, .slice (some ⟨g, 0, none⟩) 1 1]).run Try.prog w = .ok (.slice A' n' c') w' ∧ Orw w' 0 56 1 (.slice A' n' c') ((ks ++ [x]).map encK) ∧ RowTo w (.slice A n c) w' (.slice A' n' c') := by
  obtain ⟨A', c', w', h1, h2, h3, h4⟩ := orw_grow elmK (ty := 60) (c := 1) h (Nat.zero_le _) (rws_blk hx rfl) (Fit.one rfl (encK_one x)) (fun h => by cases h) (by rw [List.length_map]; omega)
  refine ⟨_, _, _, w', h1, by rw [List.map_append]; exact h2, (Turn.refl _ w).grown h3 fun g e _ => e, fun b hb => ?_⟩
  rcases h4 with e | e
  · exact .inl (e.symm.trans hb)
  · rw [e] at hb
    exact .inr (by have := Option.some.inj hb; omega)
theorem appendRP {w : World} {A B : Option Addr} {n c m d : Nat} {ps qs : List Pr} (h : Orw w 0 65 2 (.slice A n c) (ps.map encP)) (h2 : Orw w 0 65 2 (.slice B m d) (qs.map encP)) (hl : ps.length < 1000) (hl2 : qs.length < 1000) :
    ∃ A' n' c' w', (Builtin.append_ #[59, 59] 59 #[.slice A n c, .slice B m d]).run Try.prog w = .ok (.slice A' n' c') w' ∧ Orw w' 0 65 2 (.slice A' n' c') ((ps ++ qs).map encP) ∧ RowTo w (.slice A n c) w' (.slice A' n' c') := by
  obtain ⟨B', d', e, _, _, hz, _⟩ := h2.form
  injection e with e1 e2 e3
  subst e1 e2 e3
  have hr := h2.rws (by rw [List.length_map]; omega) (by decide)
  obtain ⟨A', c', w', h1, h2, h3, h4⟩ := orw_grow elmP (ty := 59) (c := d) h (Nat.zero_le _) hr (fitP qs) hz (by rw [List.length_map, List.length_map]; omega)
  refine ⟨_, _, _, w', h1, by rw [List.map_append]; exact h2, (Turn.refl _ w).grown h3 fun g e _ => e, fun b hb => ?_⟩
  rcases h4 with e | e
  · exact .inl (e.symm.trans hb)
  · rw [e] at hb
    exact .inr (by have := Option.some.inj hb; omega)
theorem appendRK {w : World} {A B : Option Addr} {n c m d : Nat} {ps qs : List Nat} (h : Orw w 0 56 1 (.slice A n c) (ps.map encK)) (h2 : Orw w 0 56 1 (.slice B m d) (qs.map encK)) (hl : ps.length < 1000) (hl2 : qs.length < 1000) :
    ∃ A' n' c' w', (Builtin.append_ #[60, 60] 60 #[.slice A n c, .slice B m d]).run Try.prog w = .ok (.slice A' n' c') w' ∧ Orw w' 0 56 1 (.slice A' n' c') ((ps ++ qs).map encK) ∧ RowTo w (.slice A n c) w' (.slice A' n' c') := by
  obtain ⟨B', d', e, _, _, hz, _⟩ := h2.form
  injection e with e1 e2 e3
  subst e1 e2 e3
  have hr := h2.rws (by rw [List.length_map]; omega) (by decide)
  obtain ⟨A', c', w', h1, h2, h3, h4⟩ := orw_grow elmK (ty := 60) (c := d) h (Nat.zero_le _) hr (fitK qs) hz (by rw [List.length_map, List.length_map]; omega)
  refine ⟨_, _, _, w', h1, by rw [List.map_append]; exact h2, (Turn.refl _ w).grown h3 fun g e _ => e, fun b hb => ?_⟩
  rcases h4 with e | e
  · exact .inl (e.symm.trans hb)
  · rw [e] at hb
    exact .inr (by have := Option.some.inj hb; omega)
set_option maxRecDepth 20000 in
set_option maxHeartbeats 4000000 in
theorem lendR_walk {w : World} {H : Hp} {n c r i j : Nat} {ps cp rp : List Pr} {ks ck rk : List Nat} {p0 q0 : Pr} (hin : In w H) (hn : Is H n ps ks) (hc : Is H c cp ck) (hr : Is H r rp rk) (hij : j = i + 1) (hkc : ks[i]? = some c) (hkr : ks[j]? = some r) (hp : ps[i]? = some p0) (hq : rp[0]? = some q0)
    (hnc : n ≠ c) (hnr : n ≠ r) (hcr : c ≠ r) (b1 : ps.length < 1000) (b2 : rp.length < 1000) (b3 : cp.length < 1000) (b4 : ks.length < 1000) (b5 : rk.length < 1000) (b6 : ck.length < 1000) :
    Calls Try.prog 56 #[.pointer (some ⟨n, 0, none⟩), .int .i64 (i : Int)] w fun e w' => e = .returned (.tuple #[]) ∧ ∃ H', To w H w' H' ∧ Is H' n (ps.set i q0) ks ∧ Is H' c (cp ++ [p0]) (ck ++ (rk[0]?).toList) ∧
      Is H' r (rp.drop 1) (rk.drop 1) ∧ Same H H' (fun q => q = n ∨ q = c ∨ q = r) := by
  obtain ⟨vpn, vkn, hn⟩ := hn
  obtain ⟨vpc, vkc, hc⟩ := hc
  obtain ⟨vpr, vkr, hr⟩ := hr
  have HNC := Lib.hid hnc
  have HNR := Lib.hid hnr
  have HCR := Lib.hid hcr
  have HKR := Lib.hid hkr
  have HKC := Lib.hid hkc
  have HPJ := Lib.hid hp
  have B1 := Lib.hid b1
  have B2 := Lib.hid b2
  have B3 := Lib.hid b3
  have B4 := Lib.hid b4
  have B5 := Lib.hid b5
  have B6 := Lib.hid b6
  have y1 : (j : Int) ≤ (i : Int) + 1 := by omega
  have y2 : (i : Int) + 1 ≤ (j : Int) := by omega
  have HIK := Lib.hid (show i < ks.length from (List.getElem?_eq_some_iff.1 hkc).1)
  have HJK := Lib.hid (show j < ks.length from (List.getElem?_eq_some_iff.1 hkr).1)
  have HIP := Lib.hid (show i < ps.length from (List.getElem?_eq_some_iff.1 hp).1)
  obtain ⟨z0, hz0⟩ : ∃ z0 : Nat, z0 = 0 := ⟨0, rfl⟩
  have HQ := Lib.hid hq
  have y3 : (j : Int) ≤ 1000 := by have := HJK.out; omega
  clear hnc hnr hcr hkr hkc hp hq b1 b2 b3 b4 b5 b6 hij hz0
  have HTO0 := Lib.hid (To.refl hin)
  have HI0 := Lib.hid hin
  have HS0 := Lib.hid (show Same H H (fun q => q = n ∨ q = c ∨ q = r) from fun q _ => rfl)
  have HP0_n := Lib.hid hn
  have HP0_c := Lib.hid hc
  have HP0_r := Lib.hid hr
  clear hin hn hc hr
  obtain ⟨bP, cP, e9, hc9, _⟩ := (HI0.out.at_ HP0_n.out).prs.some_ (by rw [List.length_map]; show 0 < (ps).length; have := HIP.out; omega)
  obtain ⟨nP, hl9⟩ : ∃ q, q = (ps).length := ⟨_, rfl⟩
  rw [List.length_map] at hc9 e9
  replace e9 := e9.trans (show _ = Value.slice (some ⟨bP, 0, none⟩) nP cP from by rw [hl9])
  subst e9
  have HLP := Lib.hid hl9
  have HCP := Lib.hid (show nP ≤ cP from by rw [hl9]; exact hc9)
  clear hl9 hc9
  obtain ⟨bK, cK, e9, hc9, _⟩ := (HI0.out.at_ HP0_n.out).kds.some_ (by rw [List.length_map]; show 0 < (ks).length; have := HJK.out; omega)
  obtain ⟨nK, hl9⟩ : ∃ q, q = (ks).length := ⟨_, rfl⟩
  rw [List.length_map] at hc9 e9
  replace e9 := e9.trans (show _ = Value.slice (some ⟨bK, 0, none⟩) nK cK from by rw [hl9])
  subst e9
  have HLK := Lib.hid hl9
  have HCK := Lib.hid (show nK ≤ cK from by rw [hl9]; exact hc9)
  clear hl9 hc9
  obtain ⟨AC, cC, e9, hc9, _, hz9, _⟩ := (HI0.out.at_ HP0_c.out).prs.form
  obtain ⟨nC, hl9⟩ : ∃ q, q = (cp).length := ⟨_, rfl⟩
  rw [List.length_map] at hc9 e9
  replace e9 := e9.trans (show _ = Value.slice AC nC cC from by rw [hl9])
  subst e9
  have HLC := Lib.hid hl9
  have HCC := Lib.hid (show nC ≤ cC from by rw [hl9]; exact hc9)
  have HZC := Lib.hid hz9
  clear hl9 hc9 hz9
  have HIn := Lib.hid (show i < nK from by rw [HLK.out]; exact HIK.out)
  have HJn := Lib.hid (show j < nK from by rw [HLK.out]; exact HJK.out)
  have HIp := Lib.hid (show i < nP from by rw [HLP.out]; exact HIP.out)
  go_enter Try.func56, Try.ntmps56
  go_upto_region 0 with fail
  refine wp_region_alw (fun W => Blk W n 62 #[.slice (some ⟨bP, 0, none⟩) nP cP, .slice (some ⟨bK, 0, none⟩) nK cK] ∧ W.cell? ⟨bK, 0 + i * 1, none⟩ = some (.pointer (some ⟨c, 0, none⟩)) ∧ W.cell? ⟨bK, 0 + j * 1, none⟩ = some (.pointer (some ⟨r, 0, none⟩))) (by kernel_rfl) ?_
  have HTd := Lib.hid ((Turn.refl nowhere w).drew)
  have hS0 : Blk w.drew n 62 #[.slice (some ⟨bP, 0, none⟩) nP cP, .slice (some ⟨bK, 0, none⟩) nK cK] ∧ w.drew.cell? ⟨bK, 0 + i * 1, none⟩ = some (.pointer (some ⟨c, 0, none⟩)) ∧ w.drew.cell? ⟨bK, 0 + j * 1, none⟩ = some (.pointer (some ⟨r, 0, none⟩)) := ⟨(HI0.out.at_ HP0_n.out).blk, kid_cell (HI0.out.at_ HP0_n.out) HKC.out, kid_cell (HI0.out.at_ HP0_n.out) HKR.out⟩
  refine alw_take (i := 0) (v := .pointer (some ⟨n, 0, none⟩)) rfl (by kernel_rfl) (by kernel_rfl) (fun _ _ _ h => h) (.inl ⟨by rfl, fun W hW => exec_move rfl rfl⟩) hS0 ?_
  simp only [Act.put, List.setIfInBounds_toArray, List.set_cons_zero, List.set_cons_succ]
  refine alw_take (i := 1) (v := .pointer (some ⟨n, 0, none⟩)) rfl (by kernel_rfl) (by kernel_rfl) (fun _ _ _ h => h) (.inl ⟨by rfl, fun W hW => exec_nil rfl rfl⟩) hS0 ?_
  simp only [Act.put, List.setIfInBounds_toArray, List.set_cons_zero, List.set_cons_succ]
  refine alw_take (i := 2) (v := .pointer (some ⟨n, 1, none⟩)) rfl (by kernel_rfl) (by kernel_rfl) (fun _ _ _ h => h) (.inl ⟨by rfl, fun W hW => exec_field (off := 0) (d := 1) rfl rfl (by kernel_rfl)⟩) hS0 ?_
  simp only [Act.put, List.setIfInBounds_toArray, List.set_cons_zero, List.set_cons_succ]
  refine alw_take (i := 3) (v := .slice (some ⟨bK, 0, none⟩) nK cK) rfl (by kernel_rfl) (by kernel_rfl) (fun _ _ _ h => h) (.inl ⟨by rfl, fun W hW => exec_load1 rfl rfl (by kernel_rfl) (hW.1.cell 1)⟩) hS0 ?_
  simp only [Act.put, List.setIfInBounds_toArray, List.set_cons_zero, List.set_cons_succ]
  refine alw_take (i := 4) (v := .int .i64 (i : Int)) rfl (by kernel_rfl) (by kernel_rfl) (fun _ _ _ h => h) (.inl ⟨by rfl, fun W hW => exec_move rfl rfl⟩) hS0 ?_
  simp only [Act.put, List.setIfInBounds_toArray, List.set_cons_zero, List.set_cons_succ]
  refine alw_take (i := 5) (v := .pointer (some ⟨bK, 0 + i * 1, none⟩)) rfl (by kernel_rfl) (by kernel_rfl) (fun _ _ _ h => h) (.inl ⟨by rfl, fun W hW => gx_iaddr (i := i) (sz := 1) rfl rfl rfl Try.underlying60 size_ptr HIn.out rfl⟩) hS0 ?_
  simp only [Act.put, List.setIfInBounds_toArray, List.set_cons_zero, List.set_cons_succ]
  refine alw_take (i := 6) (v := .pointer (some ⟨c, 0, none⟩)) rfl (by kernel_rfl) (by kernel_rfl) (fun _ _ _ h => h) (.inl ⟨by rfl, fun W hW => exec_load1 rfl rfl (by kernel_rfl) hW.2.1⟩) hS0 ?_
  simp only [Act.put, List.setIfInBounds_toArray, List.set_cons_zero, List.set_cons_succ]
  refine alw_take (i := 7) (v := .pointer (some ⟨n, 0, none⟩)) rfl (by kernel_rfl) (by kernel_rfl) (fun _ _ _ h => h) (.inl ⟨by rfl, fun W hW => exec_move rfl rfl⟩) hS0 ?_
  simp only [Act.put, List.setIfInBounds_toArray, List.set_cons_zero, List.set_cons_succ]
  refine alw_take (i := 8) (v := .pointer (some ⟨n, 0, none⟩)) rfl (by kernel_rfl) (by kernel_rfl) (fun _ _ _ h => h) (.inl ⟨by rfl, fun W hW => exec_nil rfl rfl⟩) hS0 ?_
  simp only [Act.put, List.setIfInBounds_toArray, List.set_cons_zero, List.set_cons_succ]
  refine alw_take (i := 9) (v := .pointer (some ⟨n, 1, none⟩)) rfl (by kernel_rfl) (by kernel_rfl) (fun _ _ _ h => h) (.inl ⟨by rfl, fun W hW => exec_field (off := 0) (d := 1) rfl rfl (by kernel_rfl)⟩) hS0 ?_
  simp only [Act.put, List.setIfInBounds_toArray, List.set_cons_zero, List.set_cons_succ]
  refine alw_take (i := 10) (v := .slice (some ⟨bK, 0, none⟩) nK cK) rfl (by kernel_rfl) (by kernel_rfl) (fun _ _ _ h => h) (.inl ⟨by rfl, fun W hW => exec_load1 rfl rfl (by kernel_rfl) (hW.1.cell 1)⟩) hS0 ?_
  simp only [Act.put, List.setIfInBounds_toArray, List.set_cons_zero, List.set_cons_succ]
  refine alw_take (i := 11) (v := .int .i64 (i : Int)) rfl (by kernel_rfl) (by kernel_rfl) (fun _ _ _ h => h) (.inl ⟨by rfl, fun W hW => exec_move rfl rfl⟩) hS0 ?_
  simp only [Act.put, List.setIfInBounds_toArray, List.set_cons_zero, List.set_cons_succ]
  refine alw_take (i := 12) (v := .int .i64 (j : Int)) rfl (by kernel_rfl) (by kernel_rfl) (fun _ _ _ h => h) (.inl ⟨by rfl, fun W hW => ix_add rfl rfl rfl (by omega) (by omega)⟩) hS0 ?_
  simp only [Act.put, List.setIfInBounds_toArray, List.set_cons_zero, List.set_cons_succ]
  refine alw_take (i := 13) (v := .pointer (some ⟨bK, 0 + j * 1, none⟩)) rfl (by kernel_rfl) (by kernel_rfl) (fun _ _ _ h => h) (.inl ⟨by rfl, fun W hW => gx_iaddr (i := j) (sz := 1) rfl rfl rfl Try.underlying60 size_ptr HJn.out rfl⟩) hS0 ?_
  simp only [Act.put, List.setIfInBounds_toArray, List.set_cons_zero, List.set_cons_succ]
  refine alw_take (i := 14) (v := .pointer (some ⟨r, 0, none⟩)) rfl (by kernel_rfl) (by kernel_rfl) (fun _ _ _ h => h) (.inl ⟨by rfl, fun W hW => exec_load1 rfl rfl (by kernel_rfl) hW.2.2⟩) hS0 ?_
  simp only [Act.put, List.setIfInBounds_toArray, List.set_cons_zero, List.set_cons_succ]
  refine alw_take (i := 15) (v := .pointer (some ⟨c, 0, none⟩)) rfl (by kernel_rfl) (by kernel_rfl) (fun _ _ _ h => h) (.inl ⟨by rfl, fun W hW => gx_assign rfl rfl⟩) hS0 ?_
  simp only [Act.put, List.setIfInBounds_toArray, List.set_cons_zero, List.set_cons_succ]
  refine alw_take (i := 16) (v := .pointer (some ⟨r, 0, none⟩)) rfl (by kernel_rfl) (by kernel_rfl) (fun _ _ _ h => h) (.inl ⟨by rfl, fun W hW => gx_assign rfl rfl⟩) hS0 ?_
  simp only [Act.put, List.setIfInBounds_toArray, List.set_cons_zero, List.set_cons_succ]
  refine alw_done rfl ?_
  clear hS0
  refine NoPanic.normal ?_
  try simp only [Act.put, List.setIfInBounds_toArray, List.set_cons_zero, List.set_cons_succ]
  have HTO1 := Lib.hid (HTO0.out.trans (To.still HI0.out HTd.out))
  have HP1_n := HP0_n
  have HP1_c := HP0_c
  have HP1_r := HP0_r
  have HS1 := HS0
  have HI1 := Lib.hid HTO1.out.in_
  obtain ⟨w1, hw1⟩ : ∃ q, q = w.drew := ⟨_, rfl⟩
  rw [← hw1] at HTO1 HI1 ⊢
  clear hw1 HTd
  go_upto_region 1 with fail
  refine wp_region_till (fun W => Blk W c 62 #[.slice AC nC cC, vkc] ∧ Blk W n 62 #[.slice (some ⟨bP, 0, none⟩) nP cP, .slice (some ⟨bK, 0, none⟩) nK cK]) 14 (by kernel_rfl) ?_
  have HD := Lib.hid ((Turn.refl nowhere w1).drew)
  have hS0 : Blk w1.drew c 62 #[.slice AC nC cC, vkc] ∧ Blk w1.drew n 62 #[.slice (some ⟨bP, 0, none⟩) nP cP, .slice (some ⟨bK, 0, none⟩) nK cK] := ⟨(HI1.out.at_ HP1_c.out).blk, (HI1.out.at_ HP1_n.out).blk⟩
  refine till_take (i := 0) (v := .pointer (some ⟨c, 0, none⟩)) rfl (by kernel_rfl) (by kernel_rfl) (fun _ _ _ h => h) (.inl ⟨by rfl, fun W hW => exec_move rfl rfl⟩) hS0 ?_
  simp only [Act.put, List.setIfInBounds_toArray, List.set_cons_zero, List.set_cons_succ]
  refine till_take (i := 1) (v := .pointer (some ⟨c, 0, none⟩)) rfl (by kernel_rfl) (by kernel_rfl) (fun _ _ _ h => h) (.inl ⟨by rfl, fun W hW => exec_move rfl rfl⟩) hS0 ?_
  simp only [Act.put, List.setIfInBounds_toArray, List.set_cons_zero, List.set_cons_succ]
  refine till_take (i := 2) (v := .pointer (some ⟨c, 0, none⟩)) rfl (by kernel_rfl) (by kernel_rfl) (fun _ _ _ h => h) (.inl ⟨by rfl, fun W hW => exec_nil rfl rfl⟩) hS0 ?_
  simp only [Act.put, List.setIfInBounds_toArray, List.set_cons_zero, List.set_cons_succ]
  refine till_take (i := 3) (v := .pointer (some ⟨c, 0, none⟩)) rfl (by kernel_rfl) (by kernel_rfl) (fun _ _ _ h => h) (.inl ⟨by rfl, fun W hW => exec_field (off := 0) (d := 0) rfl rfl (by kernel_rfl)⟩) hS0 ?_
  simp only [Act.put, List.setIfInBounds_toArray, List.set_cons_zero, List.set_cons_succ]
  refine till_take (i := 4) (v := .slice AC nC cC) rfl (by kernel_rfl) (by kernel_rfl) (fun _ _ _ h => h) (.inl ⟨by rfl, fun W hW => exec_load1 rfl rfl (by kernel_rfl) (hW.1.cell 0)⟩) hS0 ?_
  simp only [Act.put, List.setIfInBounds_toArray, List.set_cons_zero, List.set_cons_succ]
  refine till_take (i := 5) (v := .pointer (some ⟨n, 0, none⟩)) rfl (by kernel_rfl) (by kernel_rfl) (fun _ _ _ h => h) (.inl ⟨by rfl, fun W hW => exec_move rfl rfl⟩) hS0 ?_
  simp only [Act.put, List.setIfInBounds_toArray, List.set_cons_zero, List.set_cons_succ]
  refine till_take (i := 6) (v := .pointer (some ⟨n, 0, none⟩)) rfl (by kernel_rfl) (by kernel_rfl) (fun _ _ _ h => h) (.inl ⟨by rfl, fun W hW => exec_nil rfl rfl⟩) hS0 ?_
  simp only [Act.put, List.setIfInBounds_toArray, List.set_cons_zero, List.set_cons_succ]
  refine till_take (i := 7) (v := .pointer (some ⟨n, 0, none⟩)) rfl (by kernel_rfl) (by kernel_rfl) (fun _ _ _ h => h) (.inl ⟨by rfl, fun W hW => exec_field (off := 0) (d := 0) rfl rfl (by kernel_rfl)⟩) hS0 ?_
  simp only [Act.put, List.setIfInBounds_toArray, List.set_cons_zero, List.set_cons_succ]
  refine till_take (i := 8) (v := .slice (some ⟨bP, 0, none⟩) nP cP) rfl (by kernel_rfl) (by kernel_rfl) (fun _ _ _ h => h) (.inl ⟨by rfl, fun W hW => exec_load1 rfl rfl (by kernel_rfl) (hW.2.cell 0)⟩) hS0 ?_
  simp only [Act.put, List.setIfInBounds_toArray, List.set_cons_zero, List.set_cons_succ]
  refine till_take (i := 9) (v := .int .i64 (i : Int)) rfl (by kernel_rfl) (by kernel_rfl) (fun _ _ _ h => h) (.inl ⟨by rfl, fun W hW => exec_move rfl rfl⟩) hS0 ?_
  simp only [Act.put, List.setIfInBounds_toArray, List.set_cons_zero, List.set_cons_succ]
  refine till_take (i := 10) (v := .pointer (some ⟨bP, 0 + i * 2, none⟩)) rfl (by kernel_rfl) (by kernel_rfl) (fun _ _ _ h => h) (.inl ⟨by rfl, fun W hW => gx_iaddr (i := i) (sz := 2) rfl rfl rfl Try.underlying59 size_pair HIp.out rfl⟩) hS0 ?_
  simp only [Act.put, List.setIfInBounds_toArray, List.set_cons_zero, List.set_cons_succ]
  refine till_step (i := 11) (by kernel_rfl) rfl rfl ?_
  intro K1 HK1
  refine wp_run (v := .agg (encP p0).toArray) (gx_loads rfl rfl (((HI1.out.still HD.out).at_ HP1_n.out).prs.el0 (by rw [List.getElem?_map, HPJ.out]; rfl)) Try.underlying65 rfl (by rw [size_pair]; rfl)) ?_
  refine HK1.out _ _ ⟨fun _ => hS0, ?_⟩
  clear HK1
  simp only [Act.put, List.setIfInBounds_toArray, List.set_cons_zero, List.set_cons_succ]
  have hb2 := Blk.new w1.drew 65 (encP p0).toArray
  have ht2 := (Turn.refl nowhere w1.drew).alloc (.cells (encP p0).toArray 65)
  obtain ⟨g2, hg2⟩ : ∃ q, q = w1.drew.heap.size := ⟨_, rfl⟩
  have hS1 : Blk (w1.drew.alloc (.cells (encP p0).toArray 65)) c 62 #[.slice AC nC cC, vkc] ∧ Blk (w1.drew.alloc (.cells (encP p0).toArray 65)) n 62 #[.slice (some ⟨bP, 0, none⟩) nP cP, .slice (some ⟨bK, 0, none⟩) nK cK] := ⟨hS0.1.alloc _, hS0.2.alloc _⟩
  have hbld := build_oneP p0 w1.drew
  rw [← hg2] at hb2 hbld
  generalize w1.drew.alloc (.cells (encP p0).toArray 65) = w2 at *
  refine till_step (i := 12) (by kernel_rfl) rfl rfl ?_
  intro K1 HK1
  refine wp_run (v := .slice (some ⟨g2, 0, none⟩) 1 1) (w' := w2) (exec_buildSlice1 rfl rfl hbld) ?_
  refine HK1.out _ _ ⟨fun _ => hS1, ?_⟩
  clear HK1
  simp only [Act.put, List.setIfInBounds_toArray, List.set_cons_zero, List.set_cons_succ]
  have HT12 := Lib.hid (HD.out.trans ht2 fun _ _ e => e)
  have HI12 := Lib.hid (HI1.out.still HT12.out)
  obtain ⟨A4, n4, c4, w3, hrun, hrow, hto⟩ := append1P (HI12.out.at_ HP1_c.out).prs hb2 B3.out
  have hS3 : Blk w3 c 62 #[.slice AC nC cC, vkc] ∧ Blk w3 n 62 #[.slice (some ⟨bP, 0, none⟩) nP cP, .slice (some ⟨bK, 0, none⟩) nK cK] := ⟨HI12.out.blkP HP1_c.out HP1_c.out hto.1, HI12.out.blkP HP1_c.out HP1_n.out hto.1⟩
  clear hb2 ht2 hbld hg2
  refine till_step (i := 13) (by kernel_rfl) rfl rfl ?_
  intro K1 HK1
  refine wp_run (v := .slice A4 n4 c4) (w' := w3) (exec_append rfl rfl rfl hrun) ?_
  refine HK1.out _ _ ⟨fun _ => hS3, ?_⟩
  clear HK1
  simp only [Act.put, List.setIfInBounds_toArray, List.set_cons_zero, List.set_cons_succ]
  clear hrun
  refine till_tail 14 rfl (by kernel_rfl) ?_
  refine wpList_run (v := .pointer (some ⟨c, 0, none⟩)) rfl (exec_nil rfl rfl) ?_
  simp only [Act.put, List.setIfInBounds_toArray, List.set_cons_zero, List.set_cons_succ]
  refine wpList_run (v := .pointer (some ⟨c, 0, none⟩)) rfl (exec_field (off := 0) (d := 0) rfl rfl (by kernel_rfl)) ?_
  simp only [Act.put, List.setIfInBounds_toArray, List.set_cons_zero, List.set_cons_succ]
  refine wpList_storeU 0 (.slice A4 n4 c4) rfl 59 _ _ rfl hS3.1 rfl rfl (by show 0 < 2; omega) (slice_one hrow) size_sP ?_
  intro w4 hb4 ht4
  have h24 := HI12.out.setP (ps' := cp ++ [p0]) HP1_c.out hto.1 hto.2 ht4 hb4 hrow
  have HX4 := Lib.hid (To.trans (To.still HI1.out HT12.out) h24)
  clear hrow hto hb4 ht4 h24 hS3 hS1 hS0
  refine wpList_nil ?_
  refine NoPanic.normal ?_
  try simp only [Act.put, List.setIfInBounds_toArray, List.set_cons_zero, List.set_cons_succ]
  have HT2 := Lib.hid (HX4.out)
  obtain ⟨H2, hH2⟩ : ∃ q, q = up H c ⟨(cp ++ [p0]), ck, (.slice A4 n4 c4), vkc⟩ := ⟨_, rfl⟩
  have HP2_n := Lib.hid (show H2 n = some ⟨ps, ks, .slice (some ⟨bP, 0, none⟩) nP cP, .slice (some ⟨bK, 0, none⟩) nK cK⟩ from by rw [hH2, up_other _ _ _ HNC.out]; exact HP1_n.out)
  have HP2_c := Lib.hid (show H2 c = some ⟨(cp ++ [p0]), ck, (.slice A4 n4 c4), vkc⟩ from by rw [hH2]; exact up_same _ _ _)
  have HP2_r := Lib.hid (show H2 r = some ⟨rp, rk, vpr, vkr⟩ from by rw [hH2, up_other _ _ _ (Ne.symm HCR.out)]; exact HP1_r.out)
  have HS2 := Lib.hid (show Same H H2 (fun q => q = n ∨ q = c ∨ q = r) from by rw [hH2]; exact HS1.out.trans (same_up _ _ _) (fun _ e => e) fun _ e => .inr (.inl e))
  rw [← hH2] at HT2
  have HTO2 := Lib.hid (HTO1.out.trans HT2.out)
  have HI2 := Lib.hid HTO2.out.in_
  clear hH2
  clear HX4 HT12 HI12 HD
  go_upto_region 2 with fail
  refine wp_region_till (fun W => Blk W n 62 #[.slice (some ⟨bP, 0, none⟩) nP cP, .slice (some ⟨bK, 0, none⟩) nK cK]) 7 (by kernel_rfl) ?_
  have HD := Lib.hid ((Turn.refl nowhere w4).drew)
  have HI4d := Lib.hid (HI2.out.still HD.out)
  have hS0 : Blk w4.drew n 62 #[.slice (some ⟨bP, 0, none⟩) nP cP, .slice (some ⟨bK, 0, none⟩) nK cK] := (HI2.out.at_ HP2_n.out).blk
  refine till_take (i := 0) (v := .pointer (some ⟨n, 0, none⟩)) rfl (by kernel_rfl) (by kernel_rfl) (fun _ _ _ h => h) (.inl ⟨by rfl, fun W hW => exec_move rfl rfl⟩) hS0 ?_
  simp only [Act.put, List.setIfInBounds_toArray, List.set_cons_zero, List.set_cons_succ]
  refine till_take (i := 1) (v := .pointer (some ⟨n, 0, none⟩)) rfl (by kernel_rfl) (by kernel_rfl) (fun _ _ _ h => h) (.inl ⟨by rfl, fun W hW => exec_nil rfl rfl⟩) hS0 ?_
  simp only [Act.put, List.setIfInBounds_toArray, List.set_cons_zero, List.set_cons_succ]
  refine till_take (i := 2) (v := .pointer (some ⟨n, 0, none⟩)) rfl (by kernel_rfl) (by kernel_rfl) (fun _ _ _ h => h) (.inl ⟨by rfl, fun W hW => exec_field (off := 0) (d := 0) rfl rfl (by kernel_rfl)⟩) hS0 ?_
  simp only [Act.put, List.setIfInBounds_toArray, List.set_cons_zero, List.set_cons_succ]
  refine till_take (i := 3) (v := .slice (some ⟨bP, 0, none⟩) nP cP) rfl (by kernel_rfl) (by kernel_rfl) (fun _ _ _ h => h) (.inl ⟨by rfl, fun W hW => exec_load1 rfl rfl (by kernel_rfl) (hW.cell 0)⟩) hS0 ?_
  simp only [Act.put, List.setIfInBounds_toArray, List.set_cons_zero, List.set_cons_succ]
  refine till_take (i := 4) (v := .int .i64 (i : Int)) rfl (by kernel_rfl) (by kernel_rfl) (fun _ _ _ h => h) (.inl ⟨by rfl, fun W hW => exec_move rfl rfl⟩) hS0 ?_
  simp only [Act.put, List.setIfInBounds_toArray, List.set_cons_zero, List.set_cons_succ]
  refine till_take (i := 5) (v := .pointer (some ⟨r, 0, none⟩)) rfl (by kernel_rfl) (by kernel_rfl) (fun _ _ _ h => h) (.inl ⟨by rfl, fun W hW => exec_move rfl rfl⟩) hS0 ?_
  simp only [Act.put, List.setIfInBounds_toArray, List.set_cons_zero, List.set_cons_succ]
  refine till_step (i := 6) (by kernel_rfl) rfl rfl ?_
  intro K1 HK1
  go_wp2_with fail
  refine (takePair_walk (i := 0) HI4d.out ⟨_, _, HP2_r.out⟩ HQ.out (by have := B2.out; omega)).mono ?_
  rintro e w5 ⟨rfl, H3, hto, his, hsame⟩
  have hn5 := (hsame n HNR.out).trans HP2_n.out
  have hS5 : Blk w5 n 62 #[.slice (some ⟨bP, 0, none⟩) nP cP, .slice (some ⟨bK, 0, none⟩) nK cK] := (hto.in_.at_ hn5).blk
  refine HK1.out _ _ ⟨fun _ => hS5, ?_⟩
  clear HK1
  try simp only [Act.put, List.setIfInBounds_toArray, List.set_cons_zero, List.set_cons_succ]
  clear hn5
  have hto5 := To.trans (To.still HI2.out HD.out) hto
  rw [List.take_zero, List.nil_append, Nat.zero_add] at his
  obtain ⟨vp3, vk3, hp3⟩ := his
  have HP3_r := Lib.hid hp3
  clear hp3
  have HP3_n := Lib.hid ((hsame n HNR.out).trans HP2_n.out)
  have HP3_c := Lib.hid ((hsame c HCR.out).trans HP2_c.out)
  have HS3 := Lib.hid (HS2.out.trans hsame (fun _ e => e) fun _ e => .inr (.inr e))
  have HTO3 := Lib.hid (HTO2.out.trans hto5)
  have HI3 := Lib.hid HTO3.out.in_
  clear hto5 hto hsame
  refine till_tail 7 rfl (by kernel_rfl) ?_
  refine wpList_run (v := .pointer (some ⟨bP, 0 + i * 2, none⟩)) rfl (gx_iaddr (i := i) (sz := 2) rfl rfl rfl Try.underlying59 size_pair HIp.out rfl) ?_
  simp only [Act.put, List.setIfInBounds_toArray, List.set_cons_zero, List.set_cons_succ]
  obtain ⟨cur, hcur, hcs, _, _, hnc, _, _⟩ := orw_block (HI3.out.at_ HP3_n.out).prs
  refine wpList_store_mid rfl 65 _ _ rfl (g := bP) (off := 0 + i * 2) (t := 65) (encP q0).toArray hcur rfl rfl (by rw [hcs]; show 0 + i * 2 + 2 ≤ cP * 2; have := HIp.out; omega) (by rw [size_pair]; rfl) (fun v hv => encP_one q0 v (by simpa using hv)) ?_
  intro w6 C6 hb6 hs6 hc6 ht6
  have hrow6 := orw_mid (HI3.out.at_ HP3_n.out).prs hcur hb6 hs6 HIp.out hc6
  have ht6' : Turn (fun b => (.slice (some ⟨bP, 0, none⟩) nP cP : Value).ownBlock = some b) w5 w6 := ht6.mono fun k _ e => by
    have e : k = bP := e
    rw [e]; rfl
  have HX6 := Lib.hid (HI3.out.setP (ps' := ps.set i q0) HP3_n.out ht6' (fun b hb => .inl hb) (Turn.refl _ _) (HI3.out.blkP HP3_n.out HP3_n.out ht6') hrow6)
  clear hcur hcs hnc hb6 hs6 hc6 ht6 hrow6 ht6' hS5 hS0
  refine wpList_nil ?_
  refine NoPanic.normal ?_
  try simp only [Act.put, List.setIfInBounds_toArray, List.set_cons_zero, List.set_cons_succ]
  have HT4 := Lib.hid (HX6.out)
  obtain ⟨H4, hH4⟩ : ∃ q, q = up H3 n ⟨(ps.set i q0), ks, .slice (some ⟨bP, 0, none⟩) nP cP, .slice (some ⟨bK, 0, none⟩) nK cK⟩ := ⟨_, rfl⟩
  have HP4_n := Lib.hid (show H4 n = some ⟨(ps.set i q0), ks, .slice (some ⟨bP, 0, none⟩) nP cP, .slice (some ⟨bK, 0, none⟩) nK cK⟩ from by rw [hH4]; exact up_same _ _ _)
  have HP4_c := Lib.hid (show H4 c = some ⟨(cp ++ [p0]), ck, (.slice A4 n4 c4), vkc⟩ from by rw [hH4, up_other _ _ _ (Ne.symm HNC.out)]; exact HP3_c.out)
  have HP4_r := Lib.hid (show H4 r = some ⟨(rp.drop 1), rk, vp3, vk3⟩ from by rw [hH4, up_other _ _ _ (Ne.symm HNR.out)]; exact HP3_r.out)
  have HS4 := Lib.hid (show Same H H4 (fun q => q = n ∨ q = c ∨ q = r) from by rw [hH4]; exact HS3.out.trans (same_up _ _ _) (fun _ e => e) fun _ e => .inl e)
  rw [← hH4] at HT4
  have HTO4 := Lib.hid (HTO3.out.trans HT4.out)
  have HI4 := Lib.hid HTO4.out.in_
  clear hH4
  clear HX6 HI4d HD
  have HN_r := Lib.hid (show NodeAt w6 r vp3 vk3 (rp.drop 1) rk from (HI4.out.at_ HP4_r.out))
  have hw := lowest_walk HN_r.out
  by_cases hks : rk = []
  · subst hks
    rw [show decide (([] : List Nat) = []) = true from rfl] at hw
    have HW := Lib.hid hw
    clear hw
    go_upto_region 3 with fail
    refine wp_region_lit ?_
    refine wpList_run (v := .pointer (some ⟨r, 0, none⟩)) rfl (exec_move rfl rfl) ?_
    simp only [Act.put, List.setIfInBounds_toArray, List.set_cons_zero, List.set_cons_succ]
    refine wpList_op rfl fun K9 HK9 => ?_
    go_wp2_with fail
    refine (HW.out).mono ?_
    rintro e w7 ⟨rfl, rfl⟩
    refine HK9.out _ _ ?_
    clear HK9
    try simp only [Act.put, List.setIfInBounds_toArray, List.set_cons_zero, List.set_cons_succ]
    refine wpList_run (v := .bool false) rfl (ix_not (b := true) rfl rfl) ?_
    simp only [Act.put, List.setIfInBounds_toArray, List.set_cons_zero, List.set_cons_succ]
    go_wp2_with fail
    go_end0
    exact ⟨rfl, H4, HTO4.out, ⟨_, _, HP4_n.out⟩, (by first | exact ⟨_, _, HP4_c.out⟩ | (simp only [List.getElem?_nil, Option.toList_none, List.append_nil]; exact ⟨_, _, HP4_c.out⟩)), (by first | exact ⟨_, _, HP4_r.out⟩ | (rw [← List.drop_one]; exact ⟨_, _, HP4_r.out⟩)), HS4.out⟩
  · rw [show decide (rk = []) = false from decide_eq_false hks] at hw
    have HW := Lib.hid hw
    obtain ⟨x, hx⟩ : ∃ x, rk[0]? = some x := ⟨_, List.getElem?_eq_getElem (show 0 < rk.length from List.length_pos_iff.2 hks)⟩
    have HX := Lib.hid hx
    clear hw hks HN_r hx
    go_upto_region 3 with fail
    refine wp_region_lit ?_
    refine wpList_run (v := .pointer (some ⟨r, 0, none⟩)) rfl (exec_move rfl rfl) ?_
    simp only [Act.put, List.setIfInBounds_toArray, List.set_cons_zero, List.set_cons_succ]
    refine wpList_op rfl fun K9 HK9 => ?_
    go_wp2_with fail
    refine (HW.out).mono ?_
    rintro e w7 ⟨rfl, rfl⟩
    refine HK9.out _ _ ?_
    clear HK9
    try simp only [Act.put, List.setIfInBounds_toArray, List.set_cons_zero, List.set_cons_succ]
    clear HW
    refine wpList_run (v := .bool true) rfl (ix_not (b := false) rfl rfl) ?_
    simp only [Act.put, List.setIfInBounds_toArray, List.set_cons_zero, List.set_cons_succ]
    obtain ⟨AD, cD, e9, hc9, _, hz9, _⟩ := (HI4.out.at_ HP4_c.out).kds.form
    obtain ⟨nD, hl9⟩ : ∃ q, q = (ck).length := ⟨_, rfl⟩
    rw [List.length_map] at hc9 e9
    replace e9 := e9.trans (show _ = Value.slice AD nD cD from by rw [hl9])
    subst e9
    have HLD := Lib.hid hl9
    have HCD := Lib.hid (show nD ≤ cD from by rw [hl9]; exact hc9)
    have HZD := Lib.hid hz9
    clear hl9 hc9 hz9
    go_upto_region 4 with fail
    refine wp_region_till (fun W => Blk W c 62 #[(.slice A4 n4 c4), .slice AD nD cD]) 9 (by kernel_rfl) ?_
    have HD := Lib.hid ((Turn.refl nowhere w7).drew)
    have HI7d := Lib.hid (HI4.out.still HD.out)
    have hS0 : Blk w7.drew c 62 #[(.slice A4 n4 c4), .slice AD nD cD] := (HI4.out.at_ HP4_c.out).blk
    refine till_take (i := 0) (v := .pointer (some ⟨c, 0, none⟩)) rfl (by kernel_rfl) (by kernel_rfl) (fun _ _ _ h => h) (.inl ⟨by rfl, fun W hW => exec_move rfl rfl⟩) hS0 ?_
    simp only [Act.put, List.setIfInBounds_toArray, List.set_cons_zero, List.set_cons_succ]
    refine till_take (i := 1) (v := .pointer (some ⟨c, 0, none⟩)) rfl (by kernel_rfl) (by kernel_rfl) (fun _ _ _ h => h) (.inl ⟨by rfl, fun W hW => exec_move rfl rfl⟩) hS0 ?_
    simp only [Act.put, List.setIfInBounds_toArray, List.set_cons_zero, List.set_cons_succ]
    refine till_take (i := 2) (v := .pointer (some ⟨c, 0, none⟩)) rfl (by kernel_rfl) (by kernel_rfl) (fun _ _ _ h => h) (.inl ⟨by rfl, fun W hW => exec_nil rfl rfl⟩) hS0 ?_
    simp only [Act.put, List.setIfInBounds_toArray, List.set_cons_zero, List.set_cons_succ]
    refine till_take (i := 3) (v := .pointer (some ⟨c, 1, none⟩)) rfl (by kernel_rfl) (by kernel_rfl) (fun _ _ _ h => h) (.inl ⟨by rfl, fun W hW => exec_field (off := 0) (d := 1) rfl rfl (by kernel_rfl)⟩) hS0 ?_
    simp only [Act.put, List.setIfInBounds_toArray, List.set_cons_zero, List.set_cons_succ]
    refine till_take (i := 4) (v := .slice AD nD cD) rfl (by kernel_rfl) (by kernel_rfl) (fun _ _ _ h => h) (.inl ⟨by rfl, fun W hW => exec_load1 rfl rfl (by kernel_rfl) (hW.cell 1)⟩) hS0 ?_
    simp only [Act.put, List.setIfInBounds_toArray, List.set_cons_zero, List.set_cons_succ]
    refine till_take (i := 5) (v := .pointer (some ⟨r, 0, none⟩)) rfl (by kernel_rfl) (by kernel_rfl) (fun _ _ _ h => h) (.inl ⟨by rfl, fun W hW => exec_move rfl rfl⟩) hS0 ?_
    simp only [Act.put, List.setIfInBounds_toArray, List.set_cons_zero, List.set_cons_succ]
    refine till_step (i := 6) (by kernel_rfl) rfl rfl ?_
    intro K1 HK1
    go_wp2_with fail
    refine (takeKid_walk (i := 0) HI7d.out ⟨_, _, HP4_r.out⟩ HX.out (by have := B5.out; omega)).mono ?_
    rintro e w8 ⟨rfl, H8, hto, his, hsame⟩
    have hn8 := (hsame c HCR.out).trans HP4_c.out
    have hS8 : Blk w8 c 62 #[(.slice A4 n4 c4), .slice AD nD cD] := (hto.in_.at_ hn8).blk
    refine HK1.out _ _ ⟨fun _ => hS8, ?_⟩
    clear HK1
    try simp only [Act.put, List.setIfInBounds_toArray, List.set_cons_zero, List.set_cons_succ]
    clear hn8
    have hto8 := To.trans (To.still HI4.out HD.out) hto
    rw [List.take_zero, List.nil_append, Nat.zero_add] at his
    obtain ⟨vp5, vk5, hp5⟩ := his
    have HP5_r := Lib.hid hp5
    clear hp5
    have HP5_n := Lib.hid ((hsame n HNR.out).trans HP4_n.out)
    have HP5_c := Lib.hid ((hsame c HCR.out).trans HP4_c.out)
    have HS5 := Lib.hid (HS4.out.trans hsame (fun _ e => e) fun _ e => .inr (.inr e))
    have HTO5 := Lib.hid (HTO4.out.trans hto8)
    have HI5 := Lib.hid HTO5.out.in_
    clear hto8 hto hsame HI7d HD
    have hb2 := Blk.new w8 56 (encK x).toArray
    have ht2 := (Turn.refl nowhere w8).alloc (.cells (encK x).toArray 56)
    obtain ⟨g2, hg2⟩ : ∃ q, q = w8.heap.size := ⟨_, rfl⟩
    have hS1 : Blk (w8.alloc (.cells (encK x).toArray 56)) c 62 #[(.slice A4 n4 c4), .slice AD nD cD] := hS8.alloc _
    have hbld := build_oneK x w8
    rw [← hg2] at hb2 hbld
    generalize w8.alloc (.cells (encK x).toArray 56) = w9 at *
    refine till_step (i := 7) (by kernel_rfl) rfl rfl ?_
    intro K1 HK1
    refine wp_run (v := .slice (some ⟨g2, 0, none⟩) 1 1) (w' := w9) (exec_buildSlice1 rfl rfl hbld) ?_
    refine HK1.out _ _ ⟨fun _ => hS1, ?_⟩
    clear HK1
    simp only [Act.put, List.setIfInBounds_toArray, List.set_cons_zero, List.set_cons_succ]
    have HI89 := Lib.hid (HI5.out.still ht2)
    have HT89 := Lib.hid ht2
    obtain ⟨A7, n7, c7, w10, hrun, hrow, hto⟩ := append1K (HI89.out.at_ HP5_c.out).kds hb2 B6.out
    have hS10 : Blk w10 c 62 #[(.slice A4 n4 c4), .slice AD nD cD] := HI89.out.blkK HP5_c.out HP5_c.out hto.1
    clear hb2 ht2 hbld hg2
    refine till_step (i := 8) (by kernel_rfl) rfl rfl ?_
    intro K1 HK1
    refine wp_run (v := .slice A7 n7 c7) (w' := w10) (exec_append rfl rfl rfl hrun) ?_
    refine HK1.out _ _ ⟨fun _ => hS10, ?_⟩
    clear HK1
    simp only [Act.put, List.setIfInBounds_toArray, List.set_cons_zero, List.set_cons_succ]
    clear hrun
    refine till_tail 9 rfl (by kernel_rfl) ?_
    refine wpList_run (v := .pointer (some ⟨c, 0, none⟩)) rfl (exec_nil rfl rfl) ?_
    simp only [Act.put, List.setIfInBounds_toArray, List.set_cons_zero, List.set_cons_succ]
    refine wpList_run (v := .pointer (some ⟨c, 1, none⟩)) rfl (exec_field (off := 0) (d := 1) rfl rfl (by kernel_rfl)) ?_
    simp only [Act.put, List.setIfInBounds_toArray, List.set_cons_zero, List.set_cons_succ]
    refine wpList_storeU 1 (.slice A7 n7 c7) rfl 60 _ _ rfl hS10 rfl rfl (by show 1 < 2; omega) (slice_one hrow) size_sK ?_
    intro w11 hb11 ht11
    have h24 := HI89.out.setK (ks' := ck ++ [x]) HP5_c.out hto.1 hto.2 ht11 hb11 hrow
    have HX11 := Lib.hid (To.trans (To.still HI5.out HT89.out) h24)
    clear hrow hto hb11 ht11 h24 hS10 hS1 hS8 hS0
    refine wpList_nil ?_
    refine NoPanic.normal ?_
    try simp only [Act.put, List.setIfInBounds_toArray, List.set_cons_zero, List.set_cons_succ]
    have HT6 := Lib.hid (HX11.out)
    obtain ⟨H6, hH6⟩ : ∃ q, q = up H8 c ⟨(cp ++ [p0]), (ck ++ [x]), (.slice A4 n4 c4), (.slice A7 n7 c7)⟩ := ⟨_, rfl⟩
    have HP6_n := Lib.hid (show H6 n = some ⟨(ps.set i q0), ks, .slice (some ⟨bP, 0, none⟩) nP cP, .slice (some ⟨bK, 0, none⟩) nK cK⟩ from by rw [hH6, up_other _ _ _ HNC.out]; exact HP5_n.out)
    have HP6_c := Lib.hid (show H6 c = some ⟨(cp ++ [p0]), (ck ++ [x]), (.slice A4 n4 c4), (.slice A7 n7 c7)⟩ from by rw [hH6]; exact up_same _ _ _)
    have HP6_r := Lib.hid (show H6 r = some ⟨(rp.drop 1), (rk.drop 1), vp5, vk5⟩ from by rw [hH6, up_other _ _ _ (Ne.symm HCR.out)]; exact HP5_r.out)
    have HS6 := Lib.hid (show Same H H6 (fun q => q = n ∨ q = c ∨ q = r) from by rw [hH6]; exact HS5.out.trans (same_up _ _ _) (fun _ e => e) fun _ e => .inr (.inl e))
    rw [← hH6] at HT6
    have HTO6 := Lib.hid (HTO5.out.trans HT6.out)
    have HI6 := Lib.hid HTO6.out.in_
    clear hH6
    go_wp2_with fail
    go_end0
    rw [HX.out]
    exact ⟨rfl, H6, HTO6.out, ⟨_, _, HP6_n.out⟩, ⟨_, _, HP6_c.out⟩, (by rw [← List.drop_one, ← List.drop_one]; exact ⟨_, _, HP6_r.out⟩), HS6.out⟩
set_option maxRecDepth 20000 in
set_option maxHeartbeats 4000000 in
theorem join_walk {w : World} {H : Hp} {n l r i j : Nat} {ps lp rp : List Pr} {ks lk rk : List Nat} {p0 : Pr} (hin : In w H) (hn : Is H n ps ks) (hl : Is H l lp lk) (hr : Is H r rp rk) (hij : j = i + 1) (hkl : ks[i]? = some l) (hkr : ks[j]? = some r) (hp : ps[i]? = some p0)
    (hnl : n ≠ l) (hnr : n ≠ r) (hlr : l ≠ r) (b1 : ps.length < 900) (b2 : rp.length < 900) (b3 : lp.length < 900) (b4 : ks.length < 900) (b5 : rk.length < 900) (b6 : lk.length < 900) :
    Calls Try.prog 57 #[.pointer (some ⟨n, 0, none⟩), .int .i64 (i : Int)] w fun e w' => e = .returned (.tuple #[]) ∧ ∃ H', To w H w' H' ∧ Is H' n (ps.take i ++ ps.drop (i + 1)) (ks.take j ++ ks.drop (j + 1)) ∧ Is H' l (lp ++ [p0] ++ rp) (lk ++ rk) ∧
      Same H H' (fun q => q = n ∨ q = l ∨ q = r) := by
  obtain ⟨vpn, vkn, hn⟩ := hn
  obtain ⟨vpl, vkl, hl⟩ := hl
  obtain ⟨vpr, vkr, hr⟩ := hr
  have HNL := Lib.hid hnl
  have HNR := Lib.hid hnr
  have HLR := Lib.hid hlr
  have HKR := Lib.hid hkr
  have HPJ := Lib.hid hp
  have B1 := Lib.hid b1
  have B2 := Lib.hid b2
  have B3 := Lib.hid b3
  have B4 := Lib.hid b4
  have B5 := Lib.hid b5
  have B6 := Lib.hid b6
  have y1 : (j : Int) ≤ (i : Int) + 1 := by omega
  have y2 : (i : Int) + 1 ≤ (j : Int) := by omega
  have HJK := Lib.hid (show j < ks.length from (List.getElem?_eq_some_iff.1 hkr).1)
  have HKL := Lib.hid (show (ks.take j ++ ks.drop (j + 1))[i]? = some l from by
    rw [List.getElem?_append_left (by rw [List.length_take]; have := HJK.out; omega), List.getElem?_take, if_pos (by omega)]
    exact hkl)
  have HLN := Lib.hid (show (ks.take j ++ ks.drop (j + 1)).length < 900 from by rw [List.length_append, List.length_take, List.length_drop]; have := HJK.out; have := B4.out; omega)
  have HL0 := Lib.hid (show i < (ks.take j ++ ks.drop (j + 1)).length from by rw [List.length_append, List.length_take, List.length_drop]; have := HJK.out; omega)
  have y3 : (j : Int) ≤ 1000 := by have := HJK.out; omega
  clear hnl hnr hlr hkr hkl hp b1 b2 b3 b4 b5 b6 hij
  have HTO0 := Lib.hid (To.refl hin)
  have HI0 := Lib.hid hin
  have HS0 := Lib.hid (show Same H H (fun q => q = n ∨ q = l ∨ q = r) from fun q _ => rfl)
  have HP0_n := Lib.hid hn
  have HP0_l := Lib.hid hl
  have HP0_r := Lib.hid hr
  clear hin hn hl hr
  go_enter Try.func57, Try.ntmps57
  go_upto_region 0 with fail
  refine wp_region_lit ?_
  refine wpList_run (v := .pointer (some ⟨n, 0, none⟩)) rfl (exec_move rfl rfl) ?_
  simp only [Act.put, List.setIfInBounds_toArray, List.set_cons_zero, List.set_cons_succ]
  refine wpList_run (v := .int .i64 (i : Int)) rfl (exec_move rfl rfl) ?_
  simp only [Act.put, List.setIfInBounds_toArray, List.set_cons_zero, List.set_cons_succ]
  refine wpList_run (v := .int .i64 (j : Int)) rfl (ix_add rfl rfl rfl (by omega) (by omega)) ?_
  simp only [Act.put, List.setIfInBounds_toArray, List.set_cons_zero, List.set_cons_succ]
  refine wpList_op rfl fun K9 HK9 => ?_
  go_wp2_with fail
  refine (takeKid_walk HI0.out ⟨_, _, HP0_n.out⟩ HKR.out (by have := B4.out; omega)).mono ?_
  rintro e w1 ⟨rfl, H1, hto, his, hsame⟩
  refine HK9.out _ _ ?_
  clear HK9
  try simp only [Act.put, List.setIfInBounds_toArray, List.set_cons_zero, List.set_cons_succ]
  obtain ⟨vp1, vk1, hp1⟩ := his
  have HP1_n := Lib.hid hp1
  clear hp1
  have HP1_l := Lib.hid ((hsame l (Ne.symm HNL.out)).trans HP0_l.out)
  have HP1_r := Lib.hid ((hsame r (Ne.symm HNR.out)).trans HP0_r.out)
  have HS1 := Lib.hid (HS0.out.trans hsame (fun _ e => e) fun _ e => .inl e)
  have HTO1 := Lib.hid (HTO0.out.trans hto)
  have HI1 := Lib.hid HTO1.out.in_
  clear hto hsame
  refine wpList_run (v := .pointer (some ⟨r, 0, none⟩)) rfl (gx_assign rfl rfl) ?_
  simp only [Act.put, List.setIfInBounds_toArray, List.set_cons_zero, List.set_cons_succ]
  obtain ⟨bK, cK, e9, hc9, _⟩ := (HI1.out.at_ HP1_n.out).kds.some_ (by rw [List.length_map]; show 0 < ((ks.take j ++ ks.drop (j + 1))).length; have := HL0.out; omega)
  obtain ⟨nK, hl9⟩ : ∃ q, q = ((ks.take j ++ ks.drop (j + 1))).length := ⟨_, rfl⟩
  rw [List.length_map] at hc9 e9
  replace e9 := e9.trans (show _ = Value.slice (some ⟨bK, 0, none⟩) nK cK from by rw [hl9])
  subst e9
  have HLK := Lib.hid hl9
  have HCK := Lib.hid (show nK ≤ cK from by rw [hl9]; exact hc9)
  clear hl9 hc9
  have HIn := Lib.hid (show i < nK from by rw [HLK.out]; exact HL0.out)
  go_upto_region 1 with fail
  refine wp_region_lit ?_
  refine wpList_run (v := .pointer (some ⟨n, 0, none⟩)) rfl (exec_move rfl rfl) ?_
  simp only [Act.put, List.setIfInBounds_toArray, List.set_cons_zero, List.set_cons_succ]
  refine wpList_run (v := .pointer (some ⟨n, 0, none⟩)) rfl (exec_nil rfl rfl) ?_
  simp only [Act.put, List.setIfInBounds_toArray, List.set_cons_zero, List.set_cons_succ]
  refine wpList_run (v := .pointer (some ⟨n, 1, none⟩)) rfl (exec_field (off := 0) (d := 1) rfl rfl (by kernel_rfl)) ?_
  simp only [Act.put, List.setIfInBounds_toArray, List.set_cons_zero, List.set_cons_succ]
  refine wpList_run (v := .slice (some ⟨bK, 0, none⟩) nK cK) rfl (exec_load1 rfl rfl (by kernel_rfl) ((HI1.out.at_ HP1_n.out).blk.cell 1)) ?_
  simp only [Act.put, List.setIfInBounds_toArray, List.set_cons_zero, List.set_cons_succ]
  refine wpList_run (v := .int .i64 (i : Int)) rfl (exec_move rfl rfl) ?_
  simp only [Act.put, List.setIfInBounds_toArray, List.set_cons_zero, List.set_cons_succ]
  refine wpList_run (v := .pointer (some ⟨bK, 0 + i * 1, none⟩)) rfl (gx_iaddr (i := i) (sz := 1) rfl rfl rfl Try.underlying60 size_ptr HIn.out rfl) ?_
  simp only [Act.put, List.setIfInBounds_toArray, List.set_cons_zero, List.set_cons_succ]
  refine wpList_run (v := .pointer (some ⟨l, 0, none⟩)) rfl (exec_load1 rfl rfl (by kernel_rfl) (kid_cell (HI1.out.at_ HP1_n.out) HKL.out)) ?_
  simp only [Act.put, List.setIfInBounds_toArray, List.set_cons_zero, List.set_cons_succ]
  refine wpList_run (v := .pointer (some ⟨l, 0, none⟩)) rfl (gx_assign rfl rfl) ?_
  simp only [Act.put, List.setIfInBounds_toArray, List.set_cons_zero, List.set_cons_succ]
  obtain ⟨AC, cC, e9, hc9, _, hz9, _⟩ := (HI1.out.at_ HP1_l.out).prs.form
  obtain ⟨nC, hl9⟩ : ∃ q, q = (lp).length := ⟨_, rfl⟩
  rw [List.length_map] at hc9 e9
  replace e9 := e9.trans (show _ = Value.slice AC nC cC from by rw [hl9])
  subst e9
  have HLC := Lib.hid hl9
  have HCC := Lib.hid (show nC ≤ cC from by rw [hl9]; exact hc9)
  have HZC := Lib.hid hz9
  clear hl9 hc9 hz9
  go_upto_region 2 with fail
  refine wp_region_till (fun W => Blk W l 62 #[.slice AC nC cC, vkl]) 10 (by kernel_rfl) ?_
  have HD := Lib.hid ((Turn.refl nowhere w1).drew)
  have HId := Lib.hid (HI1.out.still HD.out)
  have hS0 : Blk w1.drew l 62 #[.slice AC nC cC, vkl] := (HI1.out.at_ HP1_l.out).blk
  refine till_take (i := 0) (v := .pointer (some ⟨l, 0, none⟩)) rfl (by kernel_rfl) (by kernel_rfl) (fun _ _ _ h => h) (.inl ⟨by rfl, fun W hW => exec_move rfl rfl⟩) hS0 ?_
  simp only [Act.put, List.setIfInBounds_toArray, List.set_cons_zero, List.set_cons_succ]
  refine till_take (i := 1) (v := .pointer (some ⟨l, 0, none⟩)) rfl (by kernel_rfl) (by kernel_rfl) (fun _ _ _ h => h) (.inl ⟨by rfl, fun W hW => exec_move rfl rfl⟩) hS0 ?_
  simp only [Act.put, List.setIfInBounds_toArray, List.set_cons_zero, List.set_cons_succ]
  refine till_take (i := 2) (v := .pointer (some ⟨l, 0, none⟩)) rfl (by kernel_rfl) (by kernel_rfl) (fun _ _ _ h => h) (.inl ⟨by rfl, fun W hW => exec_nil rfl rfl⟩) hS0 ?_
  simp only [Act.put, List.setIfInBounds_toArray, List.set_cons_zero, List.set_cons_succ]
  refine till_take (i := 3) (v := .pointer (some ⟨l, 0, none⟩)) rfl (by kernel_rfl) (by kernel_rfl) (fun _ _ _ h => h) (.inl ⟨by rfl, fun W hW => exec_field (off := 0) (d := 0) rfl rfl (by kernel_rfl)⟩) hS0 ?_
  simp only [Act.put, List.setIfInBounds_toArray, List.set_cons_zero, List.set_cons_succ]
  refine till_take (i := 4) (v := .slice AC nC cC) rfl (by kernel_rfl) (by kernel_rfl) (fun _ _ _ h => h) (.inl ⟨by rfl, fun W hW => exec_load1 rfl rfl (by kernel_rfl) (hW.cell 0)⟩) hS0 ?_
  simp only [Act.put, List.setIfInBounds_toArray, List.set_cons_zero, List.set_cons_succ]
  refine till_take (i := 5) (v := .pointer (some ⟨n, 0, none⟩)) rfl (by kernel_rfl) (by kernel_rfl) (fun _ _ _ h => h) (.inl ⟨by rfl, fun W hW => exec_move rfl rfl⟩) hS0 ?_
  simp only [Act.put, List.setIfInBounds_toArray, List.set_cons_zero, List.set_cons_succ]
  refine till_take (i := 6) (v := .int .i64 (i : Int)) rfl (by kernel_rfl) (by kernel_rfl) (fun _ _ _ h => h) (.inl ⟨by rfl, fun W hW => exec_move rfl rfl⟩) hS0 ?_
  simp only [Act.put, List.setIfInBounds_toArray, List.set_cons_zero, List.set_cons_succ]
  refine till_step (i := 7) (by kernel_rfl) rfl rfl ?_
  intro K1 HK1
  go_wp2_with fail
  refine (takePair_walk HId.out ⟨_, _, HP1_n.out⟩ HPJ.out (by have := B1.out; omega)).mono ?_
  rintro e w2 ⟨rfl, H2, hto, his, hsame⟩
  have hn2 := (hsame l (Ne.symm HNL.out)).trans HP1_l.out
  have hS2 : Blk w2 l 62 #[.slice AC nC cC, vkl] := (hto.in_.at_ hn2).blk
  refine HK1.out _ _ ⟨fun _ => hS2, ?_⟩
  clear HK1
  try simp only [Act.put, List.setIfInBounds_toArray, List.set_cons_zero, List.set_cons_succ]
  clear hn2
  have hto2 := To.trans (To.still HI1.out HD.out) hto
  obtain ⟨vp2, vk2, hp2⟩ := his
  have HP2_n := Lib.hid hp2
  clear hp2
  have HP2_l := Lib.hid ((hsame l (Ne.symm HNL.out)).trans HP1_l.out)
  have HP2_r := Lib.hid ((hsame r (Ne.symm HNR.out)).trans HP1_r.out)
  have HS2 := Lib.hid (HS1.out.trans hsame (fun _ e => e) fun _ e => .inl e)
  have HTO2 := Lib.hid (HTO1.out.trans hto2)
  have HI2 := Lib.hid HTO2.out.in_
  clear hto2 hto hsame HD HId
  have hb2 := Blk.new w2 65 (encP p0).toArray
  have ht2 := (Turn.refl nowhere w2).alloc (.cells (encP p0).toArray 65)
  obtain ⟨g2, hg2⟩ : ∃ q, q = w2.heap.size := ⟨_, rfl⟩
  have hS1 : Blk (w2.alloc (.cells (encP p0).toArray 65)) l 62 #[.slice AC nC cC, vkl] := hS2.alloc _
  have hbld := build_oneP p0 w2
  rw [← hg2] at hb2 hbld
  generalize w2.alloc (.cells (encP p0).toArray 65) = w3 at *
  refine till_step (i := 8) (by kernel_rfl) rfl rfl ?_
  intro K1 HK1
  refine wp_run (v := .slice (some ⟨g2, 0, none⟩) 1 1) (w' := w3) (exec_buildSlice1 rfl rfl hbld) ?_
  refine HK1.out _ _ ⟨fun _ => hS1, ?_⟩
  clear HK1
  simp only [Act.put, List.setIfInBounds_toArray, List.set_cons_zero, List.set_cons_succ]
  have HI3a := Lib.hid (HI2.out.still ht2)
  have HT3a := Lib.hid ht2
  obtain ⟨A4, n4, c4, w4, hrun, hrow, hto⟩ := append1P (HI3a.out.at_ HP2_l.out).prs hb2 (by have := B3.out; show lp.length < 1000; omega)
  have hS4 : Blk w4 l 62 #[.slice AC nC cC, vkl] := HI3a.out.blkP HP2_l.out HP2_l.out hto.1
  clear hb2 ht2 hbld hg2
  refine till_step (i := 9) (by kernel_rfl) rfl rfl ?_
  intro K1 HK1
  refine wp_run (v := .slice A4 n4 c4) (w' := w4) (exec_append rfl rfl rfl hrun) ?_
  refine HK1.out _ _ ⟨fun _ => hS4, ?_⟩
  clear HK1
  simp only [Act.put, List.setIfInBounds_toArray, List.set_cons_zero, List.set_cons_succ]
  clear hrun
  refine till_tail 10 rfl (by kernel_rfl) ?_
  refine wpList_run (v := .pointer (some ⟨l, 0, none⟩)) rfl (exec_nil rfl rfl) ?_
  simp only [Act.put, List.setIfInBounds_toArray, List.set_cons_zero, List.set_cons_succ]
  refine wpList_run (v := .pointer (some ⟨l, 0, none⟩)) rfl (exec_field (off := 0) (d := 0) rfl rfl (by kernel_rfl)) ?_
  simp only [Act.put, List.setIfInBounds_toArray, List.set_cons_zero, List.set_cons_succ]
  refine wpList_storeU 0 (.slice A4 n4 c4) rfl 59 _ _ rfl hS4 rfl rfl (by show 0 < 2; omega) (slice_one hrow) size_sP ?_
  intro w5 hb4 ht4
  have h24 := HI3a.out.setP (ps' := lp ++ [p0]) HP2_l.out hto.1 hto.2 ht4 hb4 hrow
  have HX5 := Lib.hid (To.trans (To.still HI2.out HT3a.out) h24)
  clear hrow hto hb4 ht4 h24 hS4 hS1 hS2 hS0
  refine wpList_nil ?_
  refine NoPanic.normal ?_
  try simp only [Act.put, List.setIfInBounds_toArray, List.set_cons_zero, List.set_cons_succ]
  have HT3 := Lib.hid (HX5.out)
  obtain ⟨H3, hH3⟩ : ∃ q, q = up H2 l ⟨(lp ++ [p0]), lk, (.slice A4 n4 c4), vkl⟩ := ⟨_, rfl⟩
  have HP3_n := Lib.hid (show H3 n = some ⟨(ps.take i ++ ps.drop (i + 1)), (ks.take j ++ ks.drop (j + 1)), vp2, vk2⟩ from by rw [hH3, up_other _ _ _ HNL.out]; exact HP2_n.out)
  have HP3_l := Lib.hid (show H3 l = some ⟨(lp ++ [p0]), lk, (.slice A4 n4 c4), vkl⟩ from by rw [hH3]; exact up_same _ _ _)
  have HP3_r := Lib.hid (show H3 r = some ⟨rp, rk, vpr, vkr⟩ from by rw [hH3, up_other _ _ _ (Ne.symm HLR.out)]; exact HP2_r.out)
  have HS3 := Lib.hid (show Same H H3 (fun q => q = n ∨ q = l ∨ q = r) from by rw [hH3]; exact HS2.out.trans (same_up _ _ _) (fun _ e => e) fun _ e => .inr (.inl e))
  rw [← hH3] at HT3
  have HTO3 := Lib.hid (HTO2.out.trans HT3.out)
  have HI3 := Lib.hid HTO3.out.in_
  clear hH3
  clear HX5 HI3a HT3a
  obtain ⟨AR3, cR3, e9, hc9, _, hz9, _⟩ := (HI3.out.at_ HP3_r.out).prs.form
  obtain ⟨nR3, hl9⟩ : ∃ q, q = (rp).length := ⟨_, rfl⟩
  rw [List.length_map] at hc9 e9
  replace e9 := e9.trans (show _ = Value.slice AR3 nR3 cR3 from by rw [hl9])
  subst e9
  have HLR3 := Lib.hid hl9
  have HCR3 := Lib.hid (show nR3 ≤ cR3 from by rw [hl9]; exact hc9)
  have HZR3 := Lib.hid hz9
  clear hl9 hc9 hz9
  go_upto_region 3 with fail
  refine wp_region_till (fun W => Blk W l 62 #[(.slice A4 n4 c4), vkl] ∧ Blk W r 62 #[.slice AR3 nR3 cR3, vkr]) 10 (by kernel_rfl) ?_
  have HD := Lib.hid ((Turn.refl nowhere w5).drew)
  have HId := Lib.hid (HI3.out.still HD.out)
  have hS0 : Blk w5.drew l 62 #[(.slice A4 n4 c4), vkl] ∧ Blk w5.drew r 62 #[.slice AR3 nR3 cR3, vkr] := ⟨(HI3.out.at_ HP3_l.out).blk, (HI3.out.at_ HP3_r.out).blk⟩
  refine till_take (i := 0) (v := .pointer (some ⟨l, 0, none⟩)) rfl (by kernel_rfl) (by kernel_rfl) (fun _ _ _ h => h) (.inl ⟨by rfl, fun W hW => exec_move rfl rfl⟩) hS0 ?_
  simp only [Act.put, List.setIfInBounds_toArray, List.set_cons_zero, List.set_cons_succ]
  refine till_take (i := 1) (v := .pointer (some ⟨l, 0, none⟩)) rfl (by kernel_rfl) (by kernel_rfl) (fun _ _ _ h => h) (.inl ⟨by rfl, fun W hW => exec_move rfl rfl⟩) hS0 ?_
  simp only [Act.put, List.setIfInBounds_toArray, List.set_cons_zero, List.set_cons_succ]
  refine till_take (i := 2) (v := .pointer (some ⟨l, 0, none⟩)) rfl (by kernel_rfl) (by kernel_rfl) (fun _ _ _ h => h) (.inl ⟨by rfl, fun W hW => exec_nil rfl rfl⟩) hS0 ?_
  simp only [Act.put, List.setIfInBounds_toArray, List.set_cons_zero, List.set_cons_succ]
  refine till_take (i := 3) (v := .pointer (some ⟨l, 0, none⟩)) rfl (by kernel_rfl) (by kernel_rfl) (fun _ _ _ h => h) (.inl ⟨by rfl, fun W hW => exec_field (off := 0) (d := 0) rfl rfl (by kernel_rfl)⟩) hS0 ?_
  simp only [Act.put, List.setIfInBounds_toArray, List.set_cons_zero, List.set_cons_succ]
  refine till_take (i := 4) (v := (.slice A4 n4 c4)) rfl (by kernel_rfl) (by kernel_rfl) (fun _ _ _ h => h) (.inl ⟨by rfl, fun W hW => exec_load1 rfl rfl (by kernel_rfl) (hW.1.cell 0)⟩) hS0 ?_
  simp only [Act.put, List.setIfInBounds_toArray, List.set_cons_zero, List.set_cons_succ]
  refine till_take (i := 5) (v := .pointer (some ⟨r, 0, none⟩)) rfl (by kernel_rfl) (by kernel_rfl) (fun _ _ _ h => h) (.inl ⟨by rfl, fun W hW => exec_move rfl rfl⟩) hS0 ?_
  simp only [Act.put, List.setIfInBounds_toArray, List.set_cons_zero, List.set_cons_succ]
  refine till_take (i := 6) (v := .pointer (some ⟨r, 0, none⟩)) rfl (by kernel_rfl) (by kernel_rfl) (fun _ _ _ h => h) (.inl ⟨by rfl, fun W hW => exec_nil rfl rfl⟩) hS0 ?_
  simp only [Act.put, List.setIfInBounds_toArray, List.set_cons_zero, List.set_cons_succ]
  refine till_take (i := 7) (v := .pointer (some ⟨r, 0, none⟩)) rfl (by kernel_rfl) (by kernel_rfl) (fun _ _ _ h => h) (.inl ⟨by rfl, fun W hW => exec_field (off := 0) (d := 0) rfl rfl (by kernel_rfl)⟩) hS0 ?_
  simp only [Act.put, List.setIfInBounds_toArray, List.set_cons_zero, List.set_cons_succ]
  refine till_take (i := 8) (v := .slice AR3 nR3 cR3) rfl (by kernel_rfl) (by kernel_rfl) (fun _ _ _ h => h) (.inl ⟨by rfl, fun W hW => exec_load1 rfl rfl (by kernel_rfl) (hW.2.cell 0)⟩) hS0 ?_
  simp only [Act.put, List.setIfInBounds_toArray, List.set_cons_zero, List.set_cons_succ]
  obtain ⟨A3, n3', c3', w3a, hrun, hrow, hto⟩ := appendRP (HId.out.at_ HP3_l.out).prs (HId.out.at_ HP3_r.out).prs (by show (lp ++ [p0]).length < 1000; rw [List.length_append]; have := B3.out; show lp.length + 1 < 1000; omega) (by have := B2.out; show rp.length < 1000; omega)
  have hSa : Blk w3a l 62 #[(.slice A4 n4 c4), vkl] ∧ Blk w3a r 62 #[.slice AR3 nR3 cR3, vkr] := ⟨HId.out.blkP HP3_l.out HP3_l.out hto.1, HId.out.blkP HP3_l.out HP3_r.out hto.1⟩
  refine till_step (i := 9) (by kernel_rfl) rfl rfl ?_
  intro K1 HK1
  refine wp_run (v := .slice A3 n3' c3') (w' := w3a) (exec_append rfl rfl rfl hrun) ?_
  refine HK1.out _ _ ⟨fun _ => hSa, ?_⟩
  clear HK1
  simp only [Act.put, List.setIfInBounds_toArray, List.set_cons_zero, List.set_cons_succ]
  clear hrun
  refine till_tail 10 rfl (by kernel_rfl) ?_
  refine wpList_run (v := .pointer (some ⟨l, 0, none⟩)) rfl (exec_nil rfl rfl) ?_
  simp only [Act.put, List.setIfInBounds_toArray, List.set_cons_zero, List.set_cons_succ]
  refine wpList_run (v := .pointer (some ⟨l, 0, none⟩)) rfl (exec_field (off := 0) (d := 0) rfl rfl (by kernel_rfl)) ?_
  simp only [Act.put, List.setIfInBounds_toArray, List.set_cons_zero, List.set_cons_succ]
  refine wpList_storeU 0 (.slice A3 n3' c3') rfl 59 _ _ rfl hSa.1 rfl rfl (by show 0 < 2; omega) (slice_one hrow) size_sP ?_
  intro w3b hb4 ht4
  have h24 := HId.out.setP (ps' := ((lp ++ [p0]) ++ rp)) HP3_l.out hto.1 hto.2 ht4 hb4 hrow
  have HXx := Lib.hid (To.trans (To.still HI3.out HD.out) h24)
  clear hrow hto hb4 ht4 h24 hSa hS0
  refine wpList_nil ?_
  refine NoPanic.normal ?_
  try simp only [Act.put, List.setIfInBounds_toArray, List.set_cons_zero, List.set_cons_succ]
  have HT4 := Lib.hid (HXx.out)
  obtain ⟨H4, hH4⟩ : ∃ q, q = up H3 l ⟨((lp ++ [p0]) ++ rp), lk, (.slice A3 n3' c3'), vkl⟩ := ⟨_, rfl⟩
  have HP4_n := Lib.hid (show H4 n = some ⟨(ps.take i ++ ps.drop (i + 1)), (ks.take j ++ ks.drop (j + 1)), vp2, vk2⟩ from by rw [hH4, up_other _ _ _ HNL.out]; exact HP3_n.out)
  have HP4_l := Lib.hid (show H4 l = some ⟨((lp ++ [p0]) ++ rp), lk, (.slice A3 n3' c3'), vkl⟩ from by rw [hH4]; exact up_same _ _ _)
  have HP4_r := Lib.hid (show H4 r = some ⟨rp, rk, .slice AR3 nR3 cR3, vkr⟩ from by rw [hH4, up_other _ _ _ (Ne.symm HLR.out)]; exact HP3_r.out)
  have HS4 := Lib.hid (show Same H H4 (fun q => q = n ∨ q = l ∨ q = r) from by rw [hH4]; exact HS3.out.trans (same_up _ _ _) (fun _ e => e) fun _ e => .inr (.inl e))
  rw [← hH4] at HT4
  have HTO4 := Lib.hid (HTO3.out.trans HT4.out)
  have HI4 := Lib.hid HTO4.out.in_
  clear hH4
  clear HXx HD HId
  obtain ⟨AM, cM, e9, hc9, _, hz9, _⟩ := (HI4.out.at_ HP4_l.out).kds.form
  obtain ⟨nM, hl9⟩ : ∃ q, q = (lk).length := ⟨_, rfl⟩
  rw [List.length_map] at hc9 e9
  replace e9 := e9.trans (show _ = Value.slice AM nM cM from by rw [hl9])
  subst e9
  have HLM := Lib.hid hl9
  have HCM := Lib.hid (show nM ≤ cM from by rw [hl9]; exact hc9)
  have HZM := Lib.hid hz9
  clear hl9 hc9 hz9
  obtain ⟨AR4, cR4, e9, hc9, _, hz9, _⟩ := (HI4.out.at_ HP4_r.out).kds.form
  obtain ⟨nR4, hl9⟩ : ∃ q, q = (rk).length := ⟨_, rfl⟩
  rw [List.length_map] at hc9 e9
  replace e9 := e9.trans (show _ = Value.slice AR4 nR4 cR4 from by rw [hl9])
  subst e9
  have HLR4 := Lib.hid hl9
  have HCR4 := Lib.hid (show nR4 ≤ cR4 from by rw [hl9]; exact hc9)
  have HZR4 := Lib.hid hz9
  clear hl9 hc9 hz9
  go_upto_region 4 with fail
  refine wp_region_till (fun W => Blk W l 62 #[(.slice A3 n3' c3'), .slice AM nM cM] ∧ Blk W r 62 #[.slice AR3 nR3 cR3, .slice AR4 nR4 cR4]) 10 (by kernel_rfl) ?_
  have HD := Lib.hid ((Turn.refl nowhere w3b).drew)
  have HId := Lib.hid (HI4.out.still HD.out)
  have hS0 : Blk w3b.drew l 62 #[(.slice A3 n3' c3'), .slice AM nM cM] ∧ Blk w3b.drew r 62 #[.slice AR3 nR3 cR3, .slice AR4 nR4 cR4] := ⟨(HI4.out.at_ HP4_l.out).blk, (HI4.out.at_ HP4_r.out).blk⟩
  refine till_take (i := 0) (v := .pointer (some ⟨l, 0, none⟩)) rfl (by kernel_rfl) (by kernel_rfl) (fun _ _ _ h => h) (.inl ⟨by rfl, fun W hW => exec_move rfl rfl⟩) hS0 ?_
  simp only [Act.put, List.setIfInBounds_toArray, List.set_cons_zero, List.set_cons_succ]
  refine till_take (i := 1) (v := .pointer (some ⟨l, 0, none⟩)) rfl (by kernel_rfl) (by kernel_rfl) (fun _ _ _ h => h) (.inl ⟨by rfl, fun W hW => exec_move rfl rfl⟩) hS0 ?_
  simp only [Act.put, List.setIfInBounds_toArray, List.set_cons_zero, List.set_cons_succ]
  refine till_take (i := 2) (v := .pointer (some ⟨l, 0, none⟩)) rfl (by kernel_rfl) (by kernel_rfl) (fun _ _ _ h => h) (.inl ⟨by rfl, fun W hW => exec_nil rfl rfl⟩) hS0 ?_
  simp only [Act.put, List.setIfInBounds_toArray, List.set_cons_zero, List.set_cons_succ]
  refine till_take (i := 3) (v := .pointer (some ⟨l, 1, none⟩)) rfl (by kernel_rfl) (by kernel_rfl) (fun _ _ _ h => h) (.inl ⟨by rfl, fun W hW => exec_field (off := 0) (d := 1) rfl rfl (by kernel_rfl)⟩) hS0 ?_
  simp only [Act.put, List.setIfInBounds_toArray, List.set_cons_zero, List.set_cons_succ]
  refine till_take (i := 4) (v := .slice AM nM cM) rfl (by kernel_rfl) (by kernel_rfl) (fun _ _ _ h => h) (.inl ⟨by rfl, fun W hW => exec_load1 rfl rfl (by kernel_rfl) (hW.1.cell 1)⟩) hS0 ?_
  simp only [Act.put, List.setIfInBounds_toArray, List.set_cons_zero, List.set_cons_succ]
  refine till_take (i := 5) (v := .pointer (some ⟨r, 0, none⟩)) rfl (by kernel_rfl) (by kernel_rfl) (fun _ _ _ h => h) (.inl ⟨by rfl, fun W hW => exec_move rfl rfl⟩) hS0 ?_
  simp only [Act.put, List.setIfInBounds_toArray, List.set_cons_zero, List.set_cons_succ]
  refine till_take (i := 6) (v := .pointer (some ⟨r, 0, none⟩)) rfl (by kernel_rfl) (by kernel_rfl) (fun _ _ _ h => h) (.inl ⟨by rfl, fun W hW => exec_nil rfl rfl⟩) hS0 ?_
  simp only [Act.put, List.setIfInBounds_toArray, List.set_cons_zero, List.set_cons_succ]
  refine till_take (i := 7) (v := .pointer (some ⟨r, 1, none⟩)) rfl (by kernel_rfl) (by kernel_rfl) (fun _ _ _ h => h) (.inl ⟨by rfl, fun W hW => exec_field (off := 0) (d := 1) rfl rfl (by kernel_rfl)⟩) hS0 ?_
  simp only [Act.put, List.setIfInBounds_toArray, List.set_cons_zero, List.set_cons_succ]
  refine till_take (i := 8) (v := .slice AR4 nR4 cR4) rfl (by kernel_rfl) (by kernel_rfl) (fun _ _ _ h => h) (.inl ⟨by rfl, fun W hW => exec_load1 rfl rfl (by kernel_rfl) (hW.2.cell 1)⟩) hS0 ?_
  simp only [Act.put, List.setIfInBounds_toArray, List.set_cons_zero, List.set_cons_succ]
  obtain ⟨A4, n4', c4', w4a, hrun, hrow, hto⟩ := appendRK (HId.out.at_ HP4_l.out).kds (HId.out.at_ HP4_r.out).kds (by have := B6.out; show lk.length < 1000; omega) (by have := B5.out; show rk.length < 1000; omega)
  have hSa : Blk w4a l 62 #[(.slice A3 n3' c3'), .slice AM nM cM] ∧ Blk w4a r 62 #[.slice AR3 nR3 cR3, .slice AR4 nR4 cR4] := ⟨HId.out.blkK HP4_l.out HP4_l.out hto.1, HId.out.blkK HP4_l.out HP4_r.out hto.1⟩
  refine till_step (i := 9) (by kernel_rfl) rfl rfl ?_
  intro K1 HK1
  refine wp_run (v := .slice A4 n4' c4') (w' := w4a) (exec_append rfl rfl rfl hrun) ?_
  refine HK1.out _ _ ⟨fun _ => hSa, ?_⟩
  clear HK1
  simp only [Act.put, List.setIfInBounds_toArray, List.set_cons_zero, List.set_cons_succ]
  clear hrun
  refine till_tail 10 rfl (by kernel_rfl) ?_
  refine wpList_run (v := .pointer (some ⟨l, 0, none⟩)) rfl (exec_nil rfl rfl) ?_
  simp only [Act.put, List.setIfInBounds_toArray, List.set_cons_zero, List.set_cons_succ]
  refine wpList_run (v := .pointer (some ⟨l, 1, none⟩)) rfl (exec_field (off := 0) (d := 1) rfl rfl (by kernel_rfl)) ?_
  simp only [Act.put, List.setIfInBounds_toArray, List.set_cons_zero, List.set_cons_succ]
  refine wpList_storeU 1 (.slice A4 n4' c4') rfl 60 _ _ rfl hSa.1 rfl rfl (by show 1 < 2; omega) (slice_one hrow) size_sK ?_
  intro w4b hb4 ht4
  have h24 := HId.out.setK (ks' := (lk ++ rk)) HP4_l.out hto.1 hto.2 ht4 hb4 hrow
  have HXx := Lib.hid (To.trans (To.still HI4.out HD.out) h24)
  clear hrow hto hb4 ht4 h24 hSa hS0
  refine wpList_nil ?_
  refine NoPanic.normal ?_
  try simp only [Act.put, List.setIfInBounds_toArray, List.set_cons_zero, List.set_cons_succ]
  have HT5 := Lib.hid (HXx.out)
  obtain ⟨H5, hH5⟩ : ∃ q, q = up H4 l ⟨((lp ++ [p0]) ++ rp), (lk ++ rk), (.slice A3 n3' c3'), (.slice A4 n4' c4')⟩ := ⟨_, rfl⟩
  have HP5_n := Lib.hid (show H5 n = some ⟨(ps.take i ++ ps.drop (i + 1)), (ks.take j ++ ks.drop (j + 1)), vp2, vk2⟩ from by rw [hH5, up_other _ _ _ HNL.out]; exact HP4_n.out)
  have HP5_l := Lib.hid (show H5 l = some ⟨((lp ++ [p0]) ++ rp), (lk ++ rk), (.slice A3 n3' c3'), (.slice A4 n4' c4')⟩ from by rw [hH5]; exact up_same _ _ _)
  have HP5_r := Lib.hid (show H5 r = some ⟨rp, rk, .slice AR3 nR3 cR3, .slice AR4 nR4 cR4⟩ from by rw [hH5, up_other _ _ _ (Ne.symm HLR.out)]; exact HP4_r.out)
  have HS5 := Lib.hid (show Same H H5 (fun q => q = n ∨ q = l ∨ q = r) from by rw [hH5]; exact HS4.out.trans (same_up _ _ _) (fun _ e => e) fun _ e => .inr (.inl e))
  rw [← hH5] at HT5
  have HTO5 := Lib.hid (HTO4.out.trans HT5.out)
  have HI5 := Lib.hid HTO5.out.in_
  clear hH5
  clear HXx HD HId
  go_wp2_with fail
  go_end0
  exact ⟨rfl, H5, HTO5.out, ⟨_, _, HP5_n.out⟩, ⟨_, _, HP5_l.out⟩, HS5.out⟩
end Go.Proofs.Ytmlkdkbpbleilaa

namespace Go.Proofs.Ytmlkdkbpbleilaa
open Go.RowKit
open Ix
set_option linter.unusedVariables false
set_option linter.unusedSimpArgs false
/-- kids side by side, with the blocks that each one has -/
def KidsAt {α : Type} (R : Nat → α → List Nat → Prop) : List Nat → List α → List Nat → Prop
  | [], [], F => F = []
  | k :: ks, s :: ts, F => ∃ G F', F = G ++ F' ∧ R k s G ∧ KidsAt R ks ts F'
  | _, _, _ => False
theorem KidsAt.len {α : Type} {R : Nat → α → List Nat → Prop} : ∀ {ks : List Nat} {ts : List α} {F : List Nat}, KidsAt R ks ts F → ks.length = ts.length
  | [], [], _, _ => rfl
  | k :: ks, s :: ts, F, h => by
    obtain ⟨G, F', _, _, h⟩ := h
    rw [List.length_cons, List.length_cons, KidsAt.len h]
  | [], _ :: _, _, h => h.elim
  | _ :: _, [], _, h => h.elim
theorem KidsAt.app {α : Type} {R : Nat → α → List Nat → Prop} : ∀ {ks ks2 : List Nat} {ts ts2 : List α} {F F2 : List Nat}, KidsAt R ks ts F → KidsAt R ks2 ts2 F2 → KidsAt R (ks ++ ks2) (ts ++ ts2) (F ++ F2)
  | [], ks2, [], ts2, F, F2, h, g => by
    have h : F = [] := h
    subst h
    exact g
  | k :: ks, ks2, s :: ts, ts2, F, F2, h, g => by
    obtain ⟨G, F', rfl, h1, h2⟩ := h
    exact ⟨G, F' ++ F2, by rw [List.append_assoc], h1, KidsAt.app h2 g⟩
  | [], _, _ :: _, _, _, _, h, _ => h.elim
  | _ :: _, _, [], _, _, _, h, _ => h.elim
theorem KidsAt.cut {α : Type} {R : Nat → α → List Nat → Prop} : ∀ {ts ts2 : List α} {ks F : List Nat}, KidsAt R ks (ts ++ ts2) F → ∃ ks1 ks2 F1 F2, ks = ks1 ++ ks2 ∧ F = F1 ++ F2 ∧ KidsAt R ks1 ts F1 ∧ KidsAt R ks2 ts2 F2
  | [], ts2, ks, F, h => ⟨[], ks, [], F, rfl, rfl, rfl, h⟩
  | s :: ts, ts2, [], F, h => h.elim
  | s :: ts, ts2, k :: ks, F, h => by
    obtain ⟨G, F', rfl, h1, h2⟩ := h
    obtain ⟨ks1, ks2, F1, F2, rfl, rfl, h3, h4⟩ := KidsAt.cut h2
    exact ⟨k :: ks1, ks2, G ++ F1, F2, rfl, by rw [List.append_assoc], ⟨G, F1, rfl, h1, h3⟩, h4⟩
theorem KidsAt.cons {α : Type} {R : Nat → α → List Nat → Prop} {s : α} {ts : List α} {ks F : List Nat} (h : KidsAt R ks (s :: ts) F) : ∃ k ks' G F', ks = k :: ks' ∧ F = G ++ F' ∧ R k s G ∧ KidsAt R ks' ts F' := by
  cases ks with
  | nil => exact h.elim
  | cons k ks =>
    obtain ⟨G, F', h1, h2, h3⟩ := h
    exact ⟨k, ks, G, F', rfl, h1, h2, h3⟩
theorem KidsAt.mono {α : Type} {R R' : Nat → α → List Nat → Prop} : ∀ {ks : List Nat} {ts : List α} {F : List Nat}, KidsAt R ks ts F → (∀ k s G, s ∈ ts → (∀ q ∈ G, q ∈ F) → R k s G → R' k s G) → KidsAt R' ks ts F
  | [], [], _, h, _ => h
  | k :: ks, s :: ts, F, h, g => by
    obtain ⟨G, F', rfl, h1, h2⟩ := h
    exact ⟨G, F', rfl, g k s G (List.mem_cons_self ..) (fun q hq => List.mem_append_left _ hq) h1, KidsAt.mono h2 fun k s G hs hG => g k s G (List.mem_cons_of_mem _ hs) fun q hq => List.mem_append_right _ (hG q hq)⟩
  | [], _ :: _, _, h, _ => h.elim
  | _ :: _, [], _, h, _ => h.elim
theorem KidsAt.nil {α : Type} (R : Nat → α → List Nat → Prop) : KidsAt R [] [] [] := rfl
theorem KidsAt.one {α : Type} {R : Nat → α → List Nat → Prop} {k : Nat} {s : α} {G : List Nat} (h : R k s G) : KidsAt R [k] [s] G := ⟨G, [], (List.append_nil G).symm, h, rfl⟩
/-- a tree in memory: its top lies at p, its nodes at the blocks of F -/
def TrAt (H : Hp) : ∀ {d : Nat}, Nat → Tr d → List Nat → Prop
  | 0, p, t, F => Is H p t.1 [] ∧ F = [p]
  | d + 1, p, t, F => ∃ ks F', Is H p t.1 ks ∧ KidsAt (TrAt H (d := d)) ks t.2 F' ∧ F = p :: F'
theorem TrAt.same {H H' : Hp} {S : Nat → Prop} (hs : Same H H' S) : ∀ {d : Nat} {p : Nat} {t : Tr d} {F : List Nat}, TrAt H p t F → (∀ q ∈ F, ¬ S q) → TrAt H' p t F
  | 0, p, t, F, h, hF => by
    obtain ⟨h1, rfl⟩ := h
    exact ⟨h1.same hs (hF p (List.mem_cons_self ..)), rfl⟩
  | d + 1, p, t, F, h, hF => by
    obtain ⟨ks, F', h1, h2, rfl⟩ := h
    exact ⟨ks, F', h1.same hs (hF p (List.mem_cons_self ..)), h2.mono fun k s G _ hG hk => TrAt.same hs hk fun q hq => hF q (List.mem_cons_of_mem _ (hG q hq)), rfl⟩
theorem KidsAt.same {H H' : Hp} {S : Nat → Prop} (hs : Same H H' S) {d : Nat} {ks : List Nat} {ts : List (Tr d)} {F : List Nat} (h : KidsAt (TrAt H (d := d)) ks ts F) (hF : ∀ q ∈ F, ¬ S q) : KidsAt (TrAt H' (d := d)) ks ts F :=
  h.mono fun k s G _ hG hk => hk.same hs fun q hq => hF q (hG q hq)
theorem TrAt.top {H : Hp} : ∀ {d : Nat} {p : Nat} {t : Tr d} {F : List Nat}, TrAt H p t F → ∃ ks F', Is H p t.ps ks ∧ F = p :: F'
  | 0, p, t, F, h => ⟨[], [], h.1, h.2⟩
  | d + 1, p, t, F, h => by
    obtain ⟨ks, F', h1, _, h3⟩ := h
    exact ⟨ks, F', h1, h3⟩
theorem KidsAt.each {α : Type} {R : Nat → α → List Nat → Prop} : ∀ {ks : List Nat} {ts : List α} {F : List Nat}, KidsAt R ks ts F → ∀ q ∈ F, ∃ k s G, R k s G ∧ q ∈ G
  | [], [], F, h, q, hq => by
    have h : F = [] := h
    subst h
    cases hq
  | k :: ks, s :: ts, F, h, q, hq => by
    obtain ⟨G, F', rfl, h1, h2⟩ := h
    rcases List.mem_append.1 hq with hq | hq
    · exact ⟨k, s, G, h1, hq⟩
    · exact KidsAt.each h2 q hq
  | [], _ :: _, _, h, _, _ => h.elim
  | _ :: _, [], _, h, _, _ => h.elim
theorem TrAt.lt {w : World} {H : Hp} (hin : In w H) : ∀ {d : Nat} {p : Nat} {t : Tr d} {F : List Nat}, TrAt H p t F → ∀ q ∈ F, q < w.heap.size
  | 0, p, t, F, h, q, hq => by
    obtain ⟨h1, rfl⟩ := h
    obtain rfl : q = p := by simpa using hq
    exact h1.lt hin
  | d + 1, p, t, F, h, q, hq => by
    obtain ⟨ks, F', h1, h2, rfl⟩ := h
    rcases List.mem_cons.1 hq with rfl | hq
    · exact h1.lt hin
    · obtain ⟨k, s, G, hk, hG⟩ := h2.each q hq
      exact TrAt.lt hin hk q hG
/-- no block twice -/
def Nd1 (F : List Nat) : Prop := ∀ a, F.count a ≤ 1
theorem cnt_mem {F : List Nat} {q : Nat} (h : q ∈ F) : 1 ≤ F.count q := List.count_pos_iff.2 h
/-- what a call leaves of a tree -/
def After (w : World) (H : Hp) (p : Nat) (F : List Nat) {d : Nat} (t' : Tr d) (w' : World) : Prop :=
  ∃ H' F', To w H w' H' ∧ TrAt H' p t' F' ∧ Nd1 F' ∧ (∀ q ∈ F', q ∈ F ∨ w.heap.size ≤ q) ∧ (∀ q, q ∉ F → q < w.heap.size → H' q = H q)
theorem Is.inj {H : Hp} {p : Nat} {ps ps2 : List Pr} {ks ks2 : List Nat} (h : Is H p ps ks) (g : Is H p ps2 ks2) : ps = ps2 ∧ ks = ks2 := by
  obtain ⟨vp, vk, h⟩ := h
  obtain ⟨vp2, vk2, g⟩ := g
  rw [h] at g
  have g := Option.some.inj g
  injection g with g1 g2
  exact ⟨g1, g2⟩
/-- the kid at a place -/
theorem KidsAt.get {α : Type} {R : Nat → α → List Nat → Prop} : ∀ {ks : List Nat} {ts : List α} {F : List Nat}, KidsAt R ks ts F → ∀ {i : Nat} {s : α}, ts[i]? = some s → ∃ k G, ks[i]? = some k ∧ R k s G ∧ ∀ q ∈ G, q ∈ F
  | [], [], _, _, i, s, h => by simp at h
  | k :: ks, t :: ts, F, h, 0, s, hs => by
    obtain ⟨G, F', rfl, h1, h2⟩ := h
    obtain rfl : t = s := by simpa using hs
    exact ⟨k, G, rfl, h1, fun q hq => List.mem_append_left _ hq⟩
  | k :: ks, t :: ts, F, h, i + 1, s, hs => by
    obtain ⟨G, F', rfl, h1, h2⟩ := h
    obtain ⟨k', G', h3, h4, h5⟩ := KidsAt.get h2 (i := i) (by simpa using hs)
    exact ⟨k', G', by simpa using h3, h4, fun q hq => List.mem_append_right _ (h5 q hq)⟩
  | [], _ :: _, _, h, _, _, _ => h.elim
  | _ :: _, [], _, h, _, _, _ => h.elim
/-! ### two neighbours -/
section
variable {w w' : World} {H H' : Hp} {n x y : Nat} {A B : List Nat} {Fa Fb : List Nat}
theorem trip_not {S : List Nat} {q : Nat} (h : ∀ a ∈ S, q ≠ a) (hs : S = [n, x, y]) : ¬ (q = n ∨ q = x ∨ q = y) := by
  subst hs
  rintro (e | e | e)
  · exact h n (by simp) e
  · exact h x (by simp) e
  · exact h y (by simp) e
/-- the tree behind a pair that went from the node x to the node y behind it -/
theorem lendL_tree {d : Nat} {tx ty : Tr d} {Gx Gy : List Nat} {xk yk : List Nat} {p0 q0 : Pr} (hx : TrAt H x tx Gx) (hy : TrAt H y ty Gy) (ix : Is H x tx.ps xk) (iy : Is H y ty.ps yk) (hc : Nd1 (n :: (Gx ++ Gy))) (hq : tx.ps[tx.ps.length - 1]? = some q0)
    (jx : Is H' x (tx.ps.take (tx.ps.length - 1)) (xk.take (xk.length - 1))) (jy : Is H' y (p0 :: ty.ps) ((xk[xk.length - 1]?).toList ++ yk)) (hs : Same H H' (fun q => q = n ∨ q = x ∨ q = y)) :
    ∃ Gx' Gy', TrAt H' x (lendL tx p0 ty).1 Gx' ∧ TrAt H' y (lendL tx p0 ty).2.2 Gy' ∧ (∀ a, (Gx' ++ Gy').count a = (Gx ++ Gy).count a) ∧ (lendL tx p0 ty).2.1 = q0 := by
  have hne : ∀ {F : List Nat} (k : Nat), (∀ a, (n :: (Gx ++ Gy)).count a ≥ F.count a + ([n, x, y] : List Nat).count a) → ∀ q ∈ F, ¬ (q = n ∨ q = x ∨ q = y) := by
    intro F _ h q hq e
    have h1 := h q
    have h2 := hc q
    have h3 := cnt_mem hq
    have h4 : 1 ≤ ([n, x, y] : List Nat).count q := cnt_mem (by rcases e with rfl | rfl | rfl <;> simp)
    omega
  cases d with
  | zero =>
    obtain ⟨hx1, rfl⟩ := hx
    obtain ⟨hy1, rfl⟩ := hy
    obtain ⟨_, e1⟩ := ix.inj hx1
    obtain ⟨_, e2⟩ := iy.inj hy1
    subst e1 e2
    refine ⟨[x], [y], ⟨jx, rfl⟩, ⟨jy, rfl⟩, fun a => rfl, ?_⟩
    show lastP tx.1 = q0
    unfold lastP
    have hq : tx.1[tx.1.length - 1]? = some q0 := hq
    rw [hq]
    rfl
  | succ d =>
    obtain ⟨xk', Fx, hx1, hx2, rfl⟩ := hx
    obtain ⟨yk', Fy, hy1, hy2, rfl⟩ := hy
    obtain ⟨_, e1⟩ := ix.inj hx1
    obtain ⟨_, e2⟩ := iy.inj hy1
    subst e1 e2
    have hl := hx2.len
    have key : ∃ xk1 Fx1 F2, xk.take (xk.length - 1) = xk1 ∧ Fx = Fx1 ++ F2 ∧ KidsAt (TrAt H (d := d)) xk1 (tx.2.take (tx.2.length - 1)) Fx1 ∧ KidsAt (TrAt H (d := d)) (xk[xk.length - 1]?).toList (tx.2[tx.2.length - 1]?).toList F2 := by
      rcases Nat.eq_zero_or_pos tx.2.length with h0 | h0
      · have e3 : tx.2 = [] := List.eq_nil_of_length_eq_zero h0
        have e4 : xk = [] := List.eq_nil_of_length_eq_zero (hl.trans h0)
        rw [e3, e4] at hx2
        have hx2 : Fx = [] := hx2
        rw [e3, e4, hx2]
        exact ⟨[], [], [], rfl, rfl, rfl, rfl⟩
      · obtain ⟨z, hz, hz2⟩ := last_cut (l := tx.2) h0
        rw [hz2] at hx2
        obtain ⟨ks1, ks2, F1, F2, e5, e6, h3, h4⟩ := hx2.cut
        obtain ⟨kz, ks', G, F', e7, e8, h5, h6⟩ := h4.cons
        have e9 : ks' = [] := by
          have := h6.len
          exact List.eq_nil_of_length_eq_zero this
        subst e9
        have h6 : F' = [] := h6
        rw [h6, List.append_nil] at e8
        subst e8
        have hlen : ks1.length = tx.2.length - 1 := by
          have := h3.len
          rw [List.length_take] at this
          omega
        refine ⟨ks1, F1, F2, ?_, e6, h3, ?_⟩
        · rw [e5, e7, List.length_append, show ks1.length + [kz].length - 1 = ks1.length from by simp, List.take_left']
          rfl
        · rw [hz, e5, e7, List.length_append, show ks1.length + [kz].length - 1 = ks1.length from by simp, List.getElem?_append_right (Nat.le_refl _), Nat.sub_self]
          exact KidsAt.one h5
    obtain ⟨xk1, Fx1, F2, e3, e4, h3, h4⟩ := key
    subst e4
    refine ⟨x :: Fx1, y :: (F2 ++ Fy), ⟨xk1, Fx1, by rw [← e3]; exact jx, h3.same hs (hne 0 fun a => ?_), rfl⟩, ⟨_, F2 ++ Fy, jy, (h4.same hs (hne 0 fun a => ?_)).app (hy2.same hs (hne 0 fun a => ?_)), rfl⟩, fun a => ?_, ?_⟩
    · simp only [List.count_append, List.count_cons, List.count_nil]; omega
    · simp only [List.count_append, List.count_cons, List.count_nil]; omega
    · simp only [List.count_append, List.count_cons, List.count_nil]; omega
    · simp only [List.count_append, List.count_cons, List.count_nil]; omega
    · show lastP tx.1 = q0
      unfold lastP
      have hq : tx.1[tx.1.length - 1]? = some q0 := hq
      rw [hq]
      rfl
end
end Go.Proofs.Ytmlkdkbpbleilaa

namespace Go.Proofs.Ytmlkdkbpbleilaa
open Go.RowKit
open Ix
set_option linter.unusedVariables false
set_option linter.unusedSimpArgs false
section
variable {w w' : World} {H H' : Hp} {n x y : Nat}
theorem off3 {Gx Gy F : List Nat} (hc : Nd1 (n :: (Gx ++ Gy))) (hx : x ∈ Gx) (hy : y ∈ Gy) (h : ∀ a, (n :: (Gx ++ Gy)).count a ≥ F.count a + ([n, x, y] : List Nat).count a) : ∀ q ∈ F, ¬ (q = n ∨ q = x ∨ q = y) := by
  intro q hq e
  have h1 := h q
  have h2 := hc q
  have h3 := cnt_mem hq
  have h4 : 1 ≤ ([n, x, y] : List Nat).count q := cnt_mem (by rcases e with rfl | rfl | rfl <;> simp)
  omega
theorem lendR_tree {d : Nat} {tx ty : Tr d} {Gx Gy : List Nat} {xk yk : List Nat} {p0 q0 : Pr} (hx : TrAt H x tx Gx) (hy : TrAt H y ty Gy) (ix : Is H x tx.ps xk) (iy : Is H y ty.ps yk) (hc : Nd1 (n :: (Gx ++ Gy))) (hq : ty.ps[0]? = some q0)
    (jx : Is H' x (tx.ps ++ [p0]) (xk ++ (yk[0]?).toList)) (jy : Is H' y (ty.ps.drop 1) (yk.drop 1)) (hs : Same H H' (fun q => q = n ∨ q = x ∨ q = y)) :
    ∃ Gx' Gy', TrAt H' x (lendR tx p0 ty).1 Gx' ∧ TrAt H' y (lendR tx p0 ty).2.2 Gy' ∧ (∀ a, (Gx' ++ Gy').count a = (Gx ++ Gy).count a) ∧ (lendR tx p0 ty).2.1 = q0 := by
  cases d with
  | zero =>
    obtain ⟨hx1, rfl⟩ := hx
    obtain ⟨hy1, rfl⟩ := hy
    obtain ⟨_, e1⟩ := ix.inj hx1
    obtain ⟨_, e2⟩ := iy.inj hy1
    subst e1 e2
    refine ⟨[x], [y], ⟨jx, rfl⟩, ⟨jy, rfl⟩, fun a => rfl, ?_⟩
    show (ty.1[0]?).getD _ = q0
    have hq : ty.1[0]? = some q0 := hq
    rw [hq]
    rfl
  | succ d =>
    obtain ⟨xk', Fx, hx1, hx2, rfl⟩ := hx
    obtain ⟨yk', Fy, hy1, hy2, rfl⟩ := hy
    obtain ⟨_, e1⟩ := ix.inj hx1
    obtain ⟨_, e2⟩ := iy.inj hy1
    subst e1 e2
    have key : ∃ F1 F2, Fy = F1 ++ F2 ∧ KidsAt (TrAt H (d := d)) (yk[0]?).toList (ty.2[0]?).toList F1 ∧ KidsAt (TrAt H (d := d)) (yk.drop 1) (ty.2.drop 1) F2 := by
      rcases hty : ty.2 with _ | ⟨z, ts⟩
      · rw [hty] at hy2
        have e4 : yk = [] := List.eq_nil_of_length_eq_zero hy2.len
        rw [e4] at hy2
        have hy2 : Fy = [] := hy2
        rw [e4, hy2]
        exact ⟨[], [], rfl, rfl, rfl⟩
      · rw [hty] at hy2
        obtain ⟨kz, ks', G, F', e7, e8, h5, h6⟩ := hy2.cons
        rw [e7]
        exact ⟨G, F', e8, KidsAt.one h5, h6⟩
    obtain ⟨F1, F2, e4, h3, h4⟩ := key
    subst e4
    have off : ∀ {F : List Nat}, (∀ a, (n :: ((x :: Fx) ++ (y :: (F1 ++ F2)))).count a ≥ F.count a + ([n, x, y] : List Nat).count a) → ∀ q ∈ F, ¬ (q = n ∨ q = x ∨ q = y) := fun h => off3 hc (List.mem_cons_self ..) (List.mem_cons_self ..) h
    refine ⟨x :: (Fx ++ F1), y :: F2, ⟨_, Fx ++ F1, jx, (hx2.same hs (off fun a => ?_)).app (h3.same hs (off fun a => ?_)), rfl⟩, ⟨_, F2, jy, h4.same hs (off fun a => ?_), rfl⟩, fun a => ?_, ?_⟩
    · simp only [List.count_append, List.count_cons, List.count_nil]; omega
    · simp only [List.count_append, List.count_cons, List.count_nil]; omega
    · simp only [List.count_append, List.count_cons, List.count_nil]; omega
    · simp only [List.count_append, List.count_cons, List.count_nil]; omega
    · show (ty.1[0]?).getD _ = q0
      have hq : ty.1[0]? = some q0 := hq
      rw [hq]
      rfl
theorem join_tree {d : Nat} {tx ty : Tr d} {Gx Gy : List Nat} {xk yk : List Nat} {p0 : Pr} (hx : TrAt H x tx Gx) (hy : TrAt H y ty Gy) (ix : Is H x tx.ps xk) (iy : Is H y ty.ps yk) (hc : Nd1 (n :: (Gx ++ Gy)))
    (jx : Is H' x (tx.ps ++ [p0] ++ ty.ps) (xk ++ yk)) (hs : Same H H' (fun q => q = n ∨ q = x ∨ q = y)) :
    ∃ G', TrAt H' x (joinK tx p0 ty) G' ∧ ∀ a, G'.count a + ([y] : List Nat).count a = (Gx ++ Gy).count a := by
  have e0 : tx.ps ++ [p0] ++ ty.ps = tx.ps ++ p0 :: ty.ps := by rw [List.append_assoc]; rfl
  rw [e0] at jx
  cases d with
  | zero =>
    obtain ⟨hx1, rfl⟩ := hx
    obtain ⟨hy1, rfl⟩ := hy
    obtain ⟨_, e1⟩ := ix.inj hx1
    obtain ⟨_, e2⟩ := iy.inj hy1
    subst e1 e2
    exact ⟨[x], ⟨jx, rfl⟩, fun a => by simp only [List.count_append]⟩
  | succ d =>
    obtain ⟨xk', Fx, hx1, hx2, rfl⟩ := hx
    obtain ⟨yk', Fy, hy1, hy2, rfl⟩ := hy
    obtain ⟨_, e1⟩ := ix.inj hx1
    obtain ⟨_, e2⟩ := iy.inj hy1
    subst e1 e2
    have off : ∀ {F : List Nat}, (∀ a, (n :: ((x :: Fx) ++ (y :: Fy))).count a ≥ F.count a + ([n, x, y] : List Nat).count a) → ∀ q ∈ F, ¬ (q = n ∨ q = x ∨ q = y) := fun h => off3 hc (List.mem_cons_self ..) (List.mem_cons_self ..) h
    refine ⟨x :: (Fx ++ Fy), ⟨_, Fx ++ Fy, jx, (hx2.same hs (off fun a => ?_)).app (hy2.same hs (off fun a => ?_)), rfl⟩, fun a => ?_⟩
    · simp only [List.count_append, List.count_cons, List.count_nil]; omega
    · simp only [List.count_append, List.count_cons, List.count_nil]; omega
    · simp only [List.count_append, List.count_cons, List.count_nil]; omega
/-- a node's two neighbours -/
theorem two_kids {d : Nat} {t : Tr (d + 1)} {F : List Nat} {i : Nat} {tx ty : Tr d} (h : TrAt H n t F) (hx : t.2[i]? = some tx) (hy : t.2[i + 1]? = some ty) : ∃ ks1 x y ks2 F1 Gx Gy F2, Is H n t.1 (ks1 ++ x :: y :: ks2) ∧ ks1.length = i ∧ KidsAt (TrAt H (d := d)) ks1 (t.2.take i) F1 ∧ TrAt H x tx Gx ∧ TrAt H y ty Gy ∧
    KidsAt (TrAt H (d := d)) ks2 (t.2.drop (i + 2)) F2 ∧ F = n :: (F1 ++ (Gx ++ (Gy ++ F2))) := by
  obtain ⟨ks, F', h1, h2, rfl⟩ := h
  have hi := (List.getElem?_eq_some_iff.1 hx).1
  rw [two_cut hx hy] at h2
  obtain ⟨ks1, ks2, F1, F2, rfl, rfl, h3, h4⟩ := h2.cut
  obtain ⟨x, ks3, Gx, F3, rfl, rfl, h5, h6⟩ := h4.cons
  obtain ⟨y, ks4, Gy, F4, rfl, rfl, h7, h8⟩ := h6.cons
  exact ⟨ks1, x, y, ks4, F1, Gx, Gy, F4, h1, by rw [h3.len, List.length_take]; omega, h3, h5, h7, h8, rfl⟩
theorem one_kid {d : Nat} {t : Tr (d + 1)} {F : List Nat} {i : Nat} {tx : Tr d} (h : TrAt H n t F) (hx : t.2[i]? = some tx) : ∃ ks1 x ks2 F1 Gx F2, Is H n t.1 (ks1 ++ x :: ks2) ∧ ks1.length = i ∧ KidsAt (TrAt H (d := d)) ks1 (t.2.take i) F1 ∧ TrAt H x tx Gx ∧
    KidsAt (TrAt H (d := d)) ks2 (t.2.drop (i + 1)) F2 ∧ F = n :: (F1 ++ (Gx ++ F2)) := by
  obtain ⟨ks, F', h1, h2, rfl⟩ := h
  have hi := (List.getElem?_eq_some_iff.1 hx).1
  rw [one_cut hx] at h2
  obtain ⟨ks1, ks2, F1, F2, rfl, rfl, h3, h4⟩ := h2.cut
  obtain ⟨x, ks3, Gx, F3, rfl, rfl, h5, h6⟩ := h4.cons
  exact ⟨ks1, x, ks3, F1, Gx, F3, h1, by rw [h3.len, List.length_take]; omega, h3, h5, h6, rfl⟩
theorem ks_at {ks1 ks2 : List Nat} {x y i : Nat} (h : ks1.length = i) : (ks1 ++ x :: y :: ks2)[i]? = some x ∧ (ks1 ++ x :: y :: ks2)[i + 1]? = some y := by
  subst h
  constructor
  · rw [List.getElem?_append_right (Nat.le_refl _), Nat.sub_self]; rfl
  · rw [List.getElem?_append_right (by omega), show ks1.length + 1 - ks1.length = 1 from by omega]; rfl
theorem ks_at1 {ks1 ks2 : List Nat} {x i : Nat} (h : ks1.length = i) : (ks1 ++ x :: ks2)[i]? = some x := by
  subst h
  rw [List.getElem?_append_right (Nat.le_refl _), Nat.sub_self]; rfl
theorem ks_cut {ks1 ks2 : List Nat} {x y i : Nat} (h : ks1.length = i) : (ks1 ++ x :: y :: ks2).take (i + 1) ++ (ks1 ++ x :: y :: ks2).drop (i + 1 + 1) = ks1 ++ x :: ks2 := by
  subst h
  rw [List.take_length_add_append, show ks1.length + 1 + 1 = ks1.length + 2 from rfl, List.drop_length_add_append]
  simp
end
/-- lends: the parent put together -/
theorem after_two {w w' : World} {H H' : Hp} {n x y i : Nat} {d : Nat} {t : Tr (d + 1)} {ks1 ks2 F1 Gx Gy F2 Gx' Gy' : List Nat} {tx' ty' : Tr d} {ps' : List Pr} (hin : In w H) (hnd : Nd1 (n :: (F1 ++ (Gx ++ (Gy ++ F2))))) (hlt : ∀ q ∈ n :: (F1 ++ (Gx ++ (Gy ++ F2))), q < w.heap.size)
    (h1 : KidsAt (TrAt H (d := d)) ks1 (t.2.take i) F1) (h2 : KidsAt (TrAt H (d := d)) ks2 (t.2.drop (i + 2)) F2) (hx : x ∈ Gx) (hy : y ∈ Gy) (hto : To w H w' H') (jn : Is H' n ps' (ks1 ++ x :: y :: ks2)) (jx : TrAt H' x tx' Gx') (jy : TrAt H' y ty' Gy') (hcnt : ∀ a, (Gx' ++ Gy').count a = (Gx ++ Gy).count a)
    (hs : Same H H' (fun q => q = n ∨ q = x ∨ q = y)) : After w H n (n :: (F1 ++ (Gx ++ (Gy ++ F2)))) (nodeT ps' (t.2.take i ++ tx' :: ty' :: t.2.drop (i + 2))) w' := by
  have off : ∀ {F : List Nat}, (∀ a, (n :: (F1 ++ (Gx ++ (Gy ++ F2)))).count a ≥ F.count a + (n :: (Gx ++ Gy)).count a) → ∀ q ∈ F, ¬ (q = n ∨ q = x ∨ q = y) := by
    intro F h q hq e
    have a1 := h q
    have a2 := hnd q
    have a3 := cnt_mem hq
    have a4 : 1 ≤ (n :: (Gx ++ Gy)).count q := cnt_mem (by rcases e with rfl | rfl | rfl <;> simp [hx, hy])
    omega
  have hc2 : ∀ a, Gx'.count a + Gy'.count a = Gx.count a + Gy.count a := fun a => by
    have := hcnt a
    rw [List.count_append, List.count_append] at this
    exact this
  have hall : ∀ a, (n :: (F1 ++ (Gx' ++ (Gy' ++ F2)))).count a = (n :: (F1 ++ (Gx ++ (Gy ++ F2)))).count a := fun a => by
    have := hc2 a
    simp only [List.count_append, List.count_cons]; omega
  refine ⟨H', n :: (F1 ++ (Gx' ++ (Gy' ++ F2))), hto, ⟨_, F1 ++ (Gx' ++ (Gy' ++ F2)), jn, (h1.same hs (off fun a => ?_)).app ⟨Gx', Gy' ++ F2, rfl, jx, ⟨Gy', F2, rfl, jy, h2.same hs (off fun a => ?_)⟩⟩, rfl⟩, fun a => by rw [hall]; exact hnd a, fun q hq => .inl ?_, fun q hq hlt2 => hs q ?_⟩
  · simp only [List.count_append, List.count_cons]; omega
  · simp only [List.count_append, List.count_cons]; omega
  · have h3 := cnt_mem hq
    rw [hall] at h3
    exact List.count_pos_iff.1 h3
  · rintro (rfl | rfl | rfl)
    · exact hq (List.mem_cons_self ..)
    · exact hq (by simp [hx])
    · exact hq (by simp [hy])
/-- a join: the parent put together -/
theorem after_join {w w' : World} {H H' : Hp} {n x y i : Nat} {d : Nat} {t : Tr (d + 1)} {ks1 ks2 F1 Gx Gy F2 G' : List Nat} {tz : Tr d} {ps' : List Pr} (hin : In w H) (hnd : Nd1 (n :: (F1 ++ (Gx ++ (Gy ++ F2)))))
    (h1 : KidsAt (TrAt H (d := d)) ks1 (t.2.take i) F1) (h2 : KidsAt (TrAt H (d := d)) ks2 (t.2.drop (i + 2)) F2) (hx : x ∈ Gx) (hy : y ∈ Gy) (hto : To w H w' H') (jn : Is H' n ps' (ks1 ++ x :: ks2)) (jx : TrAt H' x tz G') (hcnt : ∀ a, G'.count a + ([y] : List Nat).count a = (Gx ++ Gy).count a)
    (hs : Same H H' (fun q => q = n ∨ q = x ∨ q = y)) : After w H n (n :: (F1 ++ (Gx ++ (Gy ++ F2)))) (nodeT ps' (t.2.take i ++ tz :: t.2.drop (i + 2))) w' := by
  have off : ∀ {F : List Nat}, (∀ a, (n :: (F1 ++ (Gx ++ (Gy ++ F2)))).count a ≥ F.count a + (n :: (Gx ++ Gy)).count a) → ∀ q ∈ F, ¬ (q = n ∨ q = x ∨ q = y) := by
    intro F h q hq e
    have a1 := h q
    have a2 := hnd q
    have a3 := cnt_mem hq
    have a4 : 1 ≤ (n :: (Gx ++ Gy)).count q := cnt_mem (by rcases e with rfl | rfl | rfl <;> simp [hx, hy])
    omega
  have hc2 : ∀ a, G'.count a ≤ Gx.count a + Gy.count a := fun a => by
    have := hcnt a
    rw [List.count_append] at this
    omega
  have hall : ∀ a, (n :: (F1 ++ (G' ++ F2))).count a ≤ (n :: (F1 ++ (Gx ++ (Gy ++ F2)))).count a := fun a => by
    have := hc2 a
    simp only [List.count_append, List.count_cons]; omega
  refine ⟨H', n :: (F1 ++ (G' ++ F2)), hto, ⟨_, F1 ++ (G' ++ F2), jn, (h1.same hs (off fun a => ?_)).app ⟨G', F2, rfl, jx, h2.same hs (off fun a => ?_)⟩, rfl⟩, fun a => Nat.le_trans (hall a) (hnd a), fun q hq => .inl ?_, fun q hq hlt2 => hs q ?_⟩
  · simp only [List.count_append, List.count_cons]; omega
  · simp only [List.count_append, List.count_cons]; omega
  · have h3 := cnt_mem hq
    exact List.count_pos_iff.1 (Nat.le_trans h3 (hall q))
  · rintro (rfl | rfl | rfl)
    · exact hq (List.mem_cons_self ..)
    · exact hq (by simp [hx])
    · exact hq (by simp [hy])
end Go.Proofs.Ytmlkdkbpbleilaa

namespace Go.Proofs.Ytmlkdkbpbleilaa
open Go.RowKit
open Ix
set_option linter.unusedVariables false
set_option linter.unusedSimpArgs false
theorem wpList_skip {P : Program} {ops : Array Oper} {rest : List Oper} {o : Oper} {a : Act} {w : World} {Q : Exit → Act → World → Prop} (hgd : Region.wanted o (yielded ops a.tmps) = false) (h : wpList P ops Q rest (a.put o.dst undef) w) : wpList P ops Q (o :: rest) a w :=
  wpList_step fun K hK => by
    rw [if_neg (by rw [hgd]; decide)]
    exact hK _ _ h
theorem TrAt.mem {H : Hp} {d : Nat} {p : Nat} {t : Tr d} {F : List Nat} (h : TrAt H p t F) : p ∈ F := by
  obtain ⟨ks, F', _, rfl⟩ := h.top
  exact List.mem_cons_self ..
theorem kid_len {H : Hp} {m M lo hi : Nat} : ∀ {d : Nat} {p : Nat} {t : Tr d} {F : List Nat} {xk : List Nat}, TrAt H p t F → Is H p t.ps xk → Nd m M lo hi t → xk.length ≤ hi + 1
  | 0, p, t, F, xk, h, ix, _ => by
    obtain ⟨_, e⟩ := ix.inj h.1
    subst e
    exact Nat.zero_le _
  | d + 1, p, t, F, xk, h, ix, hn => by
    obtain ⟨ks, F', h1, h2, _⟩ := h
    obtain ⟨_, e⟩ := ix.inj h1
    subst e
    rw [h2.len, hn.2.2.1]
    have := hn.2.1
    omega
theorem nd_two {n : Nat} {F1 Gx Gy F2 : List Nat} (h : Nd1 (n :: (F1 ++ (Gx ++ (Gy ++ F2))))) : Nd1 (n :: (Gx ++ Gy)) := fun a => by
  have := h a
  simp only [List.count_append, List.count_cons] at this ⊢
  omega
theorem nd_ne {n x y : Nat} {Gx Gy : List Nat} (h : Nd1 (n :: (Gx ++ Gy))) (hx : x ∈ Gx) (hy : y ∈ Gy) : n ≠ x ∧ n ≠ y ∧ x ≠ y := by
  have hx := cnt_mem hx
  have hy := cnt_mem hy
  refine ⟨fun e => ?_, fun e => ?_, fun e => ?_⟩ <;> subst e
  · have := h n
    simp only [List.count_append, List.count_cons, beq_self_eq_true, if_true] at this
    omega
  · have := h n
    simp only [List.count_append, List.count_cons, beq_self_eq_true, if_true] at this
    omega
  · have := h x
    simp only [List.count_append, List.count_cons] at this
    omega
theorem sz_eq {d : Nat} {t : Tr (d + 1)} {j : Nat} {c : Tr d} (h : t.2[j]? = some c) : sz t j = c.ps.length := sz_at h
section
variable {d : Nat} {t : Tr (d + 1)} {w : World} {H : Hp} {n i m M : Nat} {F : List Nat}
/-- what mend needs -/
structure Mn (t : Tr (d + 1)) (w : World) (H : Hp) (n m M : Nat) (F : List Nat) : Prop where
  hin : In w H
  tr : TrAt H n t F
  nd : Nd1 F
  len : t.2.length = t.1.length + 1
  one : 1 ≤ t.1.length
  lt : t.1.length < 800
  kid : ∀ (j : Nat) (c : Tr d), t.2[j]? = some c → Nd m M (m - 1) M c
  hM : M < 800
theorem lendL_mend {j : Nat} (h : Mn t w H n m M F) (hij : i = j + 1) (hi : i < t.2.length) (hsz : m < sz t j) :
    Calls Try.prog 55 #[.pointer (some ⟨n, 0, none⟩), .int .i64 (i : Int)] w fun e w' => e = .returned (.tuple #[]) ∧ After w H n F (lendLeft i t) w' := by
  obtain ⟨X, gx⟩ : ∃ X, t.2[j]? = some X := ⟨_, List.getElem?_eq_getElem (show j < t.2.length by omega)⟩
  obtain ⟨Y, gy⟩ : ∃ X, t.2[j + 1]? = some X := ⟨_, List.getElem?_eq_getElem (show j + 1 < t.2.length by omega)⟩
  obtain ⟨p0, gp⟩ : ∃ X, t.1[j]? = some X := ⟨_, List.getElem?_eq_getElem (show j < t.1.length by have := h.len; omega)⟩
  have gy2 : t.2[i]? = some Y := by rw [hij]; exact gy
  rw [sz_at gx] at hsz
  have nx := h.kid _ _ gx
  have ny := h.kid _ _ gy
  have hlt := fun q hq => TrAt.lt h.hin h.tr q hq
  have hnd := h.nd
  have htr := h.tr
  have hl : lendLeft i t = nodeT (t.1.take j ++ (lendL X p0 Y).2.1 :: t.1.drop (j + 1)) (t.2.take j ++ (lendL X p0 Y).1 :: (lendL X p0 Y).2.2 :: t.2.drop (j + 2)) := by
    unfold lendLeft
    rw [show i - 1 = j from by omega, gx, gy2, gp, hij]
  rw [hl]
  obtain ⟨ks1, x, y, ks2, F1, Gx, Gy, F2, h1, h2, h3, h4, h5, h6, rfl⟩ := two_kids htr gx gy
  obtain ⟨xk, Fx, ix, e1⟩ := h4.top
  obtain ⟨yk, Fy, iy, e2⟩ := h5.top
  have hq : X.ps[X.ps.length - 1]? = some X.ps[X.ps.length - 1] := List.getElem?_eq_getElem (by omega)
  obtain ⟨q0, hq0⟩ : ∃ q0, q0 = X.ps[X.ps.length - 1] := ⟨_, rfl⟩
  rw [← hq0] at hq
  obtain ⟨k1, k2⟩ := ks_at (ks2 := ks2) (x := x) (y := y) h2
  obtain ⟨d1, d2, d3⟩ := nd_ne (nd_two hnd) h4.mem h5.mem
  have lx := kid_len h4 ix nx
  have ly := kid_len h5 iy ny
  have a1 := nx.hi
  have a2 := ny.hi
  have a3 := h.hM
  have a4 := h.lt
  have a5 := h.len
  have a6 : (ks1 ++ x :: y :: ks2).length < 1000 := by
    obtain ⟨ks, F', b1, b2, _⟩ := htr
    obtain ⟨_, e⟩ := h1.inj b1
    rw [e, b2.len]
    omega
  refine (lendL_walk (j := j) (i := i) h.hin h1 ix iy hij k1 (by rw [hij]; exact k2) gp hq d1 d2 d3 (by omega) (by omega) (by omega) a6 (by omega) (by omega)).mono ?_
  rintro e w' ⟨rfl, H', hto, jn, jx, jy, hs⟩
  refine ⟨rfl, ?_⟩
  obtain ⟨Gx', Gy', t1, t2, t3, t4⟩ := lendL_tree (n := n) (p0 := p0) h4 h5 ix iy (nd_two hnd) hq jx jy hs
  rw [t4]
  have jn' : Is H' n (t.1.take j ++ q0 :: t.1.drop (j + 1)) (ks1 ++ x :: y :: ks2) := by
    rw [set_at _ _ _ (by omega)] at jn
    exact jn
  exact after_two h.hin hnd hlt h3 h6 h4.mem h5.mem hto jn' t1 t2 t3 hs
theorem lendR_mend (h : Mn t w H n m M F) (hi : i + 1 < t.2.length) (hsz : m < sz t (i + 1)) :
    Calls Try.prog 56 #[.pointer (some ⟨n, 0, none⟩), .int .i64 (i : Int)] w fun e w' => e = .returned (.tuple #[]) ∧ After w H n F (lendRight i t) w' := by
  obtain ⟨X, gx⟩ : ∃ X, t.2[i]? = some X := ⟨_, List.getElem?_eq_getElem (show i < t.2.length by omega)⟩
  obtain ⟨Y, gy⟩ : ∃ X, t.2[i + 1]? = some X := ⟨_, List.getElem?_eq_getElem (show i + 1 < t.2.length by omega)⟩
  obtain ⟨p0, gp⟩ : ∃ X, t.1[i]? = some X := ⟨_, List.getElem?_eq_getElem (show i < t.1.length by have := h.len; omega)⟩
  rw [sz_at gy] at hsz
  have nx := h.kid _ _ gx
  have ny := h.kid _ _ gy
  have hlt := fun q hq => TrAt.lt h.hin h.tr q hq
  have hnd := h.nd
  have htr := h.tr
  have hl : lendRight i t = nodeT (t.1.take i ++ (lendR X p0 Y).2.1 :: t.1.drop (i + 1)) (t.2.take i ++ (lendR X p0 Y).1 :: (lendR X p0 Y).2.2 :: t.2.drop (i + 2)) := by
    unfold lendRight
    rw [gx, gy, gp]
  rw [hl]
  obtain ⟨ks1, x, y, ks2, F1, Gx, Gy, F2, h1, h2, h3, h4, h5, h6, rfl⟩ := two_kids htr gx gy
  obtain ⟨xk, Fx, ix, e1⟩ := h4.top
  obtain ⟨yk, Fy, iy, e2⟩ := h5.top
  have hq : Y.ps[0]? = some Y.ps[0] := List.getElem?_eq_getElem (by omega)
  obtain ⟨q0, hq0⟩ : ∃ q0, q0 = Y.ps[0] := ⟨_, rfl⟩
  rw [← hq0] at hq
  obtain ⟨k1, k2⟩ := ks_at (ks2 := ks2) (x := x) (y := y) h2
  obtain ⟨d1, d2, d3⟩ := nd_ne (nd_two hnd) h4.mem h5.mem
  have lx := kid_len h4 ix nx
  have ly := kid_len h5 iy ny
  have a1 := nx.hi
  have a2 := ny.hi
  have a3 := h.hM
  have a4 := h.lt
  have a5 := h.len
  have a6 : (ks1 ++ x :: y :: ks2).length < 1000 := by
    obtain ⟨ks, F', b1, b2, _⟩ := htr
    obtain ⟨_, e⟩ := h1.inj b1
    rw [e, b2.len]
    omega
  refine (lendR_walk (j := i + 1) (i := i) h.hin h1 ix iy rfl k1 k2 gp hq d1 d2 d3 (by omega) (by omega) (by omega) a6 (by omega) (by omega)).mono ?_
  rintro e w' ⟨rfl, H', hto, jn, jx, jy, hs⟩
  refine ⟨rfl, ?_⟩
  obtain ⟨Gx', Gy', t1, t2, t3, t4⟩ := lendR_tree (n := n) (p0 := p0) h4 h5 ix iy (nd_two hnd) hq jx jy hs
  rw [t4]
  have jn' : Is H' n (t.1.take i ++ q0 :: t.1.drop (i + 1)) (ks1 ++ x :: y :: ks2) := by
    rw [set_at _ _ _ (by omega)] at jn
    exact jn
  exact after_two h.hin hnd hlt h3 h6 h4.mem h5.mem hto jn' t1 t2 t3 hs
theorem join_mend (h : Mn t w H n m M F) (hi : i + 1 < t.2.length) :
    Calls Try.prog 57 #[.pointer (some ⟨n, 0, none⟩), .int .i64 (i : Int)] w fun e w' => e = .returned (.tuple #[]) ∧ After w H n F (joinAt i t) w' := by
  obtain ⟨X, gx⟩ : ∃ X, t.2[i]? = some X := ⟨_, List.getElem?_eq_getElem (show i < t.2.length by omega)⟩
  obtain ⟨Y, gy⟩ : ∃ X, t.2[i + 1]? = some X := ⟨_, List.getElem?_eq_getElem (show i + 1 < t.2.length by omega)⟩
  obtain ⟨p0, gp⟩ : ∃ X, t.1[i]? = some X := ⟨_, List.getElem?_eq_getElem (show i < t.1.length by have := h.len; omega)⟩
  have nx := h.kid _ _ gx
  have ny := h.kid _ _ gy
  have hnd := h.nd
  have htr := h.tr
  have hl : joinAt i t = nodeT (t.1.take i ++ t.1.drop (i + 1)) (t.2.take i ++ joinK X p0 Y :: t.2.drop (i + 2)) := by
    unfold joinAt
    rw [gx, gy, gp]
  rw [hl]
  obtain ⟨ks1, x, y, ks2, F1, Gx, Gy, F2, h1, h2, h3, h4, h5, h6, rfl⟩ := two_kids htr gx gy
  obtain ⟨xk, Fx, ix, e1⟩ := h4.top
  obtain ⟨yk, Fy, iy, e2⟩ := h5.top
  obtain ⟨k1, k2⟩ := ks_at (ks2 := ks2) (x := x) (y := y) h2
  obtain ⟨d1, d2, d3⟩ := nd_ne (nd_two hnd) h4.mem h5.mem
  have lx := kid_len h4 ix nx
  have ly := kid_len h5 iy ny
  have a1 := nx.hi
  have a2 := ny.hi
  have a3 := h.hM
  have a4 := h.lt
  have a5 := h.len
  have a6 : (ks1 ++ x :: y :: ks2).length < 900 := by
    obtain ⟨ks, F', b1, b2, _⟩ := htr
    obtain ⟨_, e⟩ := h1.inj b1
    rw [e, b2.len]
    omega
  refine (join_walk (j := i + 1) (i := i) h.hin h1 ix iy rfl k1 k2 gp d1 d2 d3 (by omega) (by omega) (by omega) a6 (by omega) (by omega)).mono ?_
  rintro e w' ⟨rfl, H', hto, jn, jx, hs⟩
  refine ⟨rfl, ?_⟩
  obtain ⟨G', t1, t3⟩ := join_tree (n := n) (p0 := p0) h4 h5 ix iy (nd_two hnd) jx hs
  rw [ks_cut h2] at jn
  exact after_join h.hin hnd h3 h6 h4.mem h5.mem hto jn t1 t3 hs
end
set_option maxRecDepth 20000 in
set_option maxHeartbeats 4000000 in
theorem mend_walk {d : Nat} {t : Tr (d + 1)} {w : World} {H : Hp} {n i m M : Nat} {F : List Nat} (h : Mn t w H n m M F) (hi : i < t.2.length) (hm : m < 800) :
    Calls Try.prog 45 #[.pointer (some ⟨n, 0, none⟩), .int .i64 (i : Int), .int .i64 (m : Int)] w fun e w' => e = .returned (.tuple #[]) ∧ After w H n F (mend m i t) w' := by
  have HM := Lib.hid h
  have HI := Lib.hid hi
  obtain ⟨ks, F', his, hka, hF⟩ := id h.tr
  have HKA := Lib.hid hka
  have HFE := Lib.hid hF
  have HLK := Lib.hid hka.len
  have HKN := Lib.hid (show ∀ (j : Nat) (c : Tr d), t.2[j]? = some c → c.ps.length ≤ M from fun j c hc => (h.kid j c hc).hi)
  obtain ⟨vp, vk, hp⟩ := his
  have HIN := Lib.hid h.hin
  have HP := Lib.hid hp
  obtain ⟨b, c, e, hnc, _⟩ := (show NodeAt w n vp vk t.1 ks from HIN.out.at_ hp).kds.some_ (by rw [List.length_map, hka.len]; omega)
  rw [List.length_map, hka.len] at e hnc
  obtain ⟨N, hN⟩ : ∃ N, N = t.2.length := ⟨_, rfl⟩
  rw [← hN] at e hnc hi
  subst e
  have HN := Lib.hid hN
  have HIN2 := Lib.hid hi
  have HA := Lib.hid (show NodeAt w n vp (.slice (some ⟨b, 0, none⟩) N c) t.1 ks from HIN.out.at_ hp)
  have y1 : (i : Int) < (N : Int) := by omega
  have y2 : (N : Int) ≤ 800 := by have := h.len; have := h.lt; omega
  have y3 : (m : Int) ≤ 800 := by omega
  have HMM := Lib.hid h.hM
  clear h hi hka hF hp hnc hN hm
  go_enter Try.func45, Try.ntmps45
  obtain ⟨T0, hT0⟩ : ∃ T, t.2[i]? = some T := ⟨_, List.getElem?_eq_getElem (by rw [← HN.out]; exact HIN2.out)⟩
  have HT0 := Lib.hid hT0
  obtain ⟨k0, G0, hk0, htr0, _⟩ := HKA.out.get hT0
  have HK0 := Lib.hid hk0
  obtain ⟨xk0, _, ⟨vp0, vk0, hi0⟩, _⟩ := htr0.top
  obtain ⟨A0, c0, e9, _⟩ := (HIN.out.at_ hi0).prs.form
  rw [List.length_map] at e9
  obtain ⟨n0, hn0⟩ : ∃ q, q = T0.ps.length := ⟨_, rfl⟩
  replace e9 := e9.trans (show _ = Value.slice A0 n0 c0 from by rw [hn0])
  subst e9
  have HB0 := Lib.hid (show Blk w k0 62 #[.slice A0 n0 c0, vk0] from (HIN.out.at_ hi0).blk)
  have HS0 := Lib.hid (show sz t i = n0 from (sz_at hT0).trans hn0.symm)
  have z0 : (n0 : Int) ≤ 800 := by have := HKN.out _ _ hT0; have := HMM.out; omega
  clear hT0 hk0 htr0 hi0 hn0
  go_upto_region 1 with fail
  refine wp_region_lit ?_
  refine wpList_run (v := .pointer (some ⟨n, 0, none⟩)) (wanted_none rfl) (exec_move rfl rfl) ?_
  simp only [Act.put, List.setIfInBounds_toArray, List.set_cons_zero, List.set_cons_succ]
  refine wpList_run (v := .pointer (some ⟨n, 0, none⟩)) (wanted_none rfl) (exec_nil rfl rfl) ?_
  simp only [Act.put, List.setIfInBounds_toArray, List.set_cons_zero, List.set_cons_succ]
  refine wpList_run (v := .pointer (some ⟨n, 1, none⟩)) (wanted_none rfl) (exec_field (off := 0) (d := 1) rfl rfl (by kernel_rfl)) ?_
  simp only [Act.put, List.setIfInBounds_toArray, List.set_cons_zero, List.set_cons_succ]
  refine wpList_run (v := .slice (some ⟨b, 0, none⟩) N c) (wanted_none rfl) (exec_load1 rfl rfl (by kernel_rfl) (HA.out.blk.cell 1)) ?_
  simp only [Act.put, List.setIfInBounds_toArray, List.set_cons_zero, List.set_cons_succ]
  refine wpList_run (v := .int .i64 (i : Int)) (wanted_none rfl) (exec_move rfl rfl) ?_
  simp only [Act.put, List.setIfInBounds_toArray, List.set_cons_zero, List.set_cons_succ]
  refine wpList_run (v := .pointer (some ⟨b, 0 + i * 1, none⟩)) (wanted_none rfl) (gx_iaddr (i := i) (sz := 1) rfl rfl rfl Try.underlying60 size_ptr HIN2.out rfl) ?_
  simp only [Act.put, List.setIfInBounds_toArray, List.set_cons_zero, List.set_cons_succ]
  refine wpList_run (v := .pointer (some ⟨k0, 0, none⟩)) (wanted_none rfl) (exec_load1 rfl rfl (by kernel_rfl) (kid_cell HA.out HK0.out)) ?_
  simp only [Act.put, List.setIfInBounds_toArray, List.set_cons_zero, List.set_cons_succ]
  refine wpList_run (v := .pointer (some ⟨k0, 0, none⟩)) (wanted_none rfl) (exec_nil rfl rfl) ?_
  simp only [Act.put, List.setIfInBounds_toArray, List.set_cons_zero, List.set_cons_succ]
  refine wpList_run (v := .pointer (some ⟨k0, 0, none⟩)) (wanted_none rfl) (exec_field (off := 0) (d := 0) rfl rfl (by kernel_rfl)) ?_
  simp only [Act.put, List.setIfInBounds_toArray, List.set_cons_zero, List.set_cons_succ]
  refine wpList_run (v := .slice A0 n0 c0) (wanted_none rfl) (exec_load1 rfl rfl (by kernel_rfl) (HB0.out.cell 0)) ?_
  simp only [Act.put, List.setIfInBounds_toArray, List.set_cons_zero, List.set_cons_succ]
  refine wpList_run (v := .int .i64 (n0 : Int)) (wanted_none rfl) (gx_len rfl rfl Try.underlying59) ?_
  simp only [Act.put, List.setIfInBounds_toArray, List.set_cons_zero, List.set_cons_succ]
  refine wpList_run (v := .int .i64 (m : Int)) (wanted_none rfl) (exec_move rfl rfl) ?_
  simp only [Act.put, List.setIfInBounds_toArray, List.set_cons_zero, List.set_cons_succ]
  by_cases hA : m ≤ n0
  · have HE := Lib.hid (show mend m i t = t from if_pos (by rw [HS0.out]; exact hA))
    refine wpList_run (v := .bool true) (wanted_none rfl) (ix_geq rfl rfl rfl (decide_eq_true (by omega))) ?_
    simp only [Act.put, List.setIfInBounds_toArray, List.set_cons_zero, List.set_cons_succ]
    refine wpList_run (v := .bool true) (wanted_none rfl) (gx_assign rfl rfl) ?_
    simp only [Act.put, List.setIfInBounds_toArray, List.set_cons_zero, List.set_cons_succ]
    go_wp2_with fail
    go_end0
    rw [HE.out]
    exact ⟨rfl, H, F, To.refl HIN.out, HM.out.tr, HM.out.nd, fun q hq => .inl hq, fun _ _ _ => rfl⟩
  · refine wpList_run (v := .bool false) (wanted_none rfl) (ix_geq rfl rfl rfl (decide_eq_false (by omega))) ?_
    simp only [Act.put, List.setIfInBounds_toArray, List.set_cons_zero, List.set_cons_succ]
    refine wpList_run (v := .bool false) (wanted_none rfl) (gx_assign rfl rfl) ?_
    simp only [Act.put, List.setIfInBounds_toArray, List.set_cons_zero, List.set_cons_succ]
    have H0 := Lib.hid (show ¬ m ≤ sz t i from by rw [HS0.out]; exact hA)
    clear hA
    go_upto_region 2 with fail
    rename_i K9 hK9
    have HKC := Lib.hid hK9
    clear hK9
    refine wp_region_lit ?_
    refine wpList_run (v := .int .i64 (i : Int)) (wanted_none rfl) (exec_move rfl rfl) ?_
    simp only [Act.put, List.setIfInBounds_toArray, List.set_cons_zero, List.set_cons_succ]
    by_cases hi0 : 0 < i
    · obtain ⟨j, hj⟩ : ∃ j, i = j + 1 := ⟨i - 1, by omega⟩
      have HJ := Lib.hid hj
      have y5 : (i : Int) ≤ (j : Int) + 1 := by omega
      have y6 : (j : Int) + 1 ≤ (i : Int) := by omega
      have HJN := Lib.hid (show j < N from by have := HIN2.out; omega)
      have HI0 := Lib.hid hi0
      clear hj hi0
      obtain ⟨T1, hT1⟩ : ∃ T, t.2[j]? = some T := ⟨_, List.getElem?_eq_getElem (by rw [← HN.out]; exact HJN.out)⟩
      have HT1 := Lib.hid hT1
      obtain ⟨k1, G1, hk1, htr1, _⟩ := HKA.out.get hT1
      have HK1 := Lib.hid hk1
      obtain ⟨xk1, _, ⟨vp1, vk1, hi1⟩, _⟩ := htr1.top
      obtain ⟨A1, c1, e9, _⟩ := (HIN.out.at_ hi1).prs.form
      rw [List.length_map] at e9
      obtain ⟨n1, hn1⟩ : ∃ q, q = T1.ps.length := ⟨_, rfl⟩
      replace e9 := e9.trans (show _ = Value.slice A1 n1 c1 from by rw [hn1])
      subst e9
      have HB1 := Lib.hid (show Blk w k1 62 #[.slice A1 n1 c1, vk1] from (HIN.out.at_ hi1).blk)
      have HS1 := Lib.hid (show sz t j = n1 from (sz_at hT1).trans hn1.symm)
      have z1 : (n1 : Int) ≤ 800 := by have := HKN.out _ _ hT1; have := HMM.out; omega
      clear hT1 hk1 htr1 hi1 hn1
      refine wpList_run (v := .bool true) (wanted_none rfl) (ix_gtr rfl rfl rfl (decide_eq_true (by omega))) ?_
      simp only [Act.put, List.setIfInBounds_toArray, List.set_cons_zero, List.set_cons_succ]
      refine wpList_run (v := .bool true) (wanted_none rfl) (exec_move rfl rfl) ?_
      simp only [Act.put, List.setIfInBounds_toArray, List.set_cons_zero, List.set_cons_succ]
      refine wpList_run (v := .pointer (some ⟨n, 0, none⟩)) rfl (exec_move rfl rfl) ?_
      simp only [Act.put, List.setIfInBounds_toArray, List.set_cons_zero, List.set_cons_succ]
      refine wpList_run (v := .pointer (some ⟨n, 0, none⟩)) rfl (exec_nil rfl rfl) ?_
      simp only [Act.put, List.setIfInBounds_toArray, List.set_cons_zero, List.set_cons_succ]
      refine wpList_run (v := .pointer (some ⟨n, 1, none⟩)) rfl (exec_field (off := 0) (d := 1) rfl rfl (by kernel_rfl)) ?_
      simp only [Act.put, List.setIfInBounds_toArray, List.set_cons_zero, List.set_cons_succ]
      refine wpList_run (v := .slice (some ⟨b, 0, none⟩) N c) rfl (exec_load1 rfl rfl (by kernel_rfl) (HA.out.blk.cell 1)) ?_
      simp only [Act.put, List.setIfInBounds_toArray, List.set_cons_zero, List.set_cons_succ]
      refine wpList_run (v := .int .i64 (i : Int)) rfl (exec_move rfl rfl) ?_
      simp only [Act.put, List.setIfInBounds_toArray, List.set_cons_zero, List.set_cons_succ]
      refine wpList_run (v := .int .i64 (j : Int)) rfl (ix_sub rfl rfl rfl (by omega) (by omega)) ?_
      simp only [Act.put, List.setIfInBounds_toArray, List.set_cons_zero, List.set_cons_succ]
      refine wpList_run (v := .pointer (some ⟨b, 0 + j * 1, none⟩)) rfl (gx_iaddr (i := j) (sz := 1) rfl rfl rfl Try.underlying60 size_ptr HJN.out rfl) ?_
      simp only [Act.put, List.setIfInBounds_toArray, List.set_cons_zero, List.set_cons_succ]
      refine wpList_run (v := .pointer (some ⟨k1, 0, none⟩)) rfl (exec_load1 rfl rfl (by kernel_rfl) (kid_cell HA.out HK1.out)) ?_
      simp only [Act.put, List.setIfInBounds_toArray, List.set_cons_zero, List.set_cons_succ]
      refine wpList_run (v := .pointer (some ⟨k1, 0, none⟩)) rfl (exec_nil rfl rfl) ?_
      simp only [Act.put, List.setIfInBounds_toArray, List.set_cons_zero, List.set_cons_succ]
      refine wpList_run (v := .pointer (some ⟨k1, 0, none⟩)) rfl (exec_field (off := 0) (d := 0) rfl rfl (by kernel_rfl)) ?_
      simp only [Act.put, List.setIfInBounds_toArray, List.set_cons_zero, List.set_cons_succ]
      refine wpList_run (v := .slice A1 n1 c1) rfl (exec_load1 rfl rfl (by kernel_rfl) (HB1.out.cell 0)) ?_
      simp only [Act.put, List.setIfInBounds_toArray, List.set_cons_zero, List.set_cons_succ]
      refine wpList_run (v := .int .i64 (n1 : Int)) rfl (gx_len rfl rfl Try.underlying59) ?_
      simp only [Act.put, List.setIfInBounds_toArray, List.set_cons_zero, List.set_cons_succ]
      refine wpList_run (v := .int .i64 (m : Int)) rfl (exec_move rfl rfl) ?_
      simp only [Act.put, List.setIfInBounds_toArray, List.set_cons_zero, List.set_cons_succ]
      by_cases hB : m < n1
      · have HE := Lib.hid (show mend m i t = lendLeft i t from (if_neg H0.out).trans (if_pos ⟨HI0.out, by rw [show i - 1 = j from by have := HJ.out; omega, HS1.out]; exact hB⟩))
        have HW := Lib.hid (lendL_mend HM.out HJ.out HI.out (by rw [HS1.out]; exact hB))
        refine wpList_run (v := .bool true) rfl (ix_gtr rfl rfl rfl (decide_eq_true (by omega))) ?_
        simp only [Act.put, List.setIfInBounds_toArray, List.set_cons_zero, List.set_cons_succ]
        refine wpList_run (v := .bool true) (wanted_none rfl) (ix_pickT rfl rfl rfl) ?_
        simp only [Act.put, List.setIfInBounds_toArray, List.set_cons_zero, List.set_cons_succ]
        refine wpList_run (v := .bool true) (wanted_none rfl) (gx_assign rfl rfl) ?_
        simp only [Act.put, List.setIfInBounds_toArray, List.set_cons_zero, List.set_cons_succ]
        refine wpList_nil ?_
        refine HKC.out _ _ ?_
        clear hB
        go_upto_region 3 with fail
        refine wp_region_lit ?_
        refine wpList_run (v := .pointer (some ⟨n, 0, none⟩)) (wanted_none rfl) (exec_move rfl rfl) ?_
        simp only [Act.put, List.setIfInBounds_toArray, List.set_cons_zero, List.set_cons_succ]
        refine wpList_run (v := .int .i64 (i : Int)) (wanted_none rfl) (exec_move rfl rfl) ?_
        simp only [Act.put, List.setIfInBounds_toArray, List.set_cons_zero, List.set_cons_succ]
        refine wpList_op rfl fun K9 HK9 => ?_
        go_wp2_with fail
        refine (HW.out).mono ?_
        rintro e w1 ⟨rfl, haf⟩
        refine HK9.out _ _ ?_
        clear HK9
        try simp only [Act.put, List.setIfInBounds_toArray, List.set_cons_zero, List.set_cons_succ]
        go_wp2_with fail
        go_end0
        rw [HE.out]
        exact ⟨rfl, haf⟩
      · have H1 := Lib.hid (show ¬ (0 < i ∧ m < sz t (i - 1)) from fun e => hB (by have e2 := e.2; rwa [show i - 1 = j from by have := HJ.out; omega, HS1.out] at e2))
        refine wpList_run (v := .bool false) rfl (ix_gtr rfl rfl rfl (decide_eq_false (by omega))) ?_
        simp only [Act.put, List.setIfInBounds_toArray, List.set_cons_zero, List.set_cons_succ]
        refine wpList_run (v := .bool false) (wanted_none rfl) (ix_pickT rfl rfl rfl) ?_
        simp only [Act.put, List.setIfInBounds_toArray, List.set_cons_zero, List.set_cons_succ]
        refine wpList_run (v := .bool false) (wanted_none rfl) (gx_assign rfl rfl) ?_
        simp only [Act.put, List.setIfInBounds_toArray, List.set_cons_zero, List.set_cons_succ]
        refine wpList_nil ?_
        refine HKC.out _ _ ?_
        clear hB
        obtain ⟨g, hg⟩ : ∃ g, g = i + 1 := ⟨_, rfl⟩
        have HG := Lib.hid hg
        have y7 : (g : Int) ≤ (i : Int) + 1 := by omega
        have y8 : (i : Int) + 1 ≤ (g : Int) := by omega
        clear hg
        go_upto_region 4 with fail
        rename_i K8 hK8
        have HKD := Lib.hid hK8
        clear hK8
        refine wp_region_lit ?_
        refine wpList_run (v := .int .i64 (i : Int)) (wanted_none rfl) (exec_move rfl rfl) ?_
        simp only [Act.put, List.setIfInBounds_toArray, List.set_cons_zero, List.set_cons_succ]
        refine wpList_run (v := .int .i64 (g : Int)) (wanted_none rfl) (ix_add rfl rfl rfl (by omega) (by omega)) ?_
        simp only [Act.put, List.setIfInBounds_toArray, List.set_cons_zero, List.set_cons_succ]
        refine wpList_run (v := .pointer (some ⟨n, 0, none⟩)) (wanted_none rfl) (exec_move rfl rfl) ?_
        simp only [Act.put, List.setIfInBounds_toArray, List.set_cons_zero, List.set_cons_succ]
        refine wpList_run (v := .pointer (some ⟨n, 0, none⟩)) (wanted_none rfl) (exec_nil rfl rfl) ?_
        simp only [Act.put, List.setIfInBounds_toArray, List.set_cons_zero, List.set_cons_succ]
        refine wpList_run (v := .pointer (some ⟨n, 1, none⟩)) (wanted_none rfl) (exec_field (off := 0) (d := 1) rfl rfl (by kernel_rfl)) ?_
        simp only [Act.put, List.setIfInBounds_toArray, List.set_cons_zero, List.set_cons_succ]
        refine wpList_run (v := .slice (some ⟨b, 0, none⟩) N c) (wanted_none rfl) (exec_load1 rfl rfl (by kernel_rfl) (HA.out.blk.cell 1)) ?_
        simp only [Act.put, List.setIfInBounds_toArray, List.set_cons_zero, List.set_cons_succ]
        refine wpList_run (v := .int .i64 (N : Int)) (wanted_none rfl) (gx_len rfl rfl Try.underlying60) ?_
        simp only [Act.put, List.setIfInBounds_toArray, List.set_cons_zero, List.set_cons_succ]
        by_cases hgN : g < N
        · have HGN := Lib.hid hgN
          clear hgN
          obtain ⟨T2, hT2⟩ : ∃ T, t.2[g]? = some T := ⟨_, List.getElem?_eq_getElem (by rw [← HN.out]; exact HGN.out)⟩
          have HT2 := Lib.hid hT2
          obtain ⟨k2, G2, hk2, htr2, _⟩ := HKA.out.get hT2
          have HK2 := Lib.hid hk2
          obtain ⟨xk2, _, ⟨vp2, vk2, hi2⟩, _⟩ := htr2.top
          obtain ⟨A2, c2, e9, _⟩ := (HIN.out.at_ hi2).prs.form
          rw [List.length_map] at e9
          obtain ⟨n2, hn2⟩ : ∃ q, q = T2.ps.length := ⟨_, rfl⟩
          replace e9 := e9.trans (show _ = Value.slice A2 n2 c2 from by rw [hn2])
          subst e9
          have HB2 := Lib.hid (show Blk w k2 62 #[.slice A2 n2 c2, vk2] from (HIN.out.at_ hi2).blk)
          have HS2 := Lib.hid (show sz t g = n2 from (sz_at hT2).trans hn2.symm)
          have z2 : (n2 : Int) ≤ 800 := by have := HKN.out _ _ hT2; have := HMM.out; omega
          clear hT2 hk2 htr2 hi2 hn2
          have yg : (g : Int) < (N : Int) := by have := HGN.out; omega
          refine wpList_run (v := .bool true) (wanted_none rfl) (ix_lss rfl rfl rfl (decide_eq_true yg)) ?_
          simp only [Act.put, List.setIfInBounds_toArray, List.set_cons_zero, List.set_cons_succ]
          refine wpList_run (v := .bool true) (wanted_none rfl) (exec_move rfl rfl) ?_
          simp only [Act.put, List.setIfInBounds_toArray, List.set_cons_zero, List.set_cons_succ]
          refine wpList_run (v := .pointer (some ⟨n, 0, none⟩)) rfl (exec_move rfl rfl) ?_
          simp only [Act.put, List.setIfInBounds_toArray, List.set_cons_zero, List.set_cons_succ]
          refine wpList_run (v := .pointer (some ⟨n, 0, none⟩)) rfl (exec_nil rfl rfl) ?_
          simp only [Act.put, List.setIfInBounds_toArray, List.set_cons_zero, List.set_cons_succ]
          refine wpList_run (v := .pointer (some ⟨n, 1, none⟩)) rfl (exec_field (off := 0) (d := 1) rfl rfl (by kernel_rfl)) ?_
          simp only [Act.put, List.setIfInBounds_toArray, List.set_cons_zero, List.set_cons_succ]
          refine wpList_run (v := .slice (some ⟨b, 0, none⟩) N c) rfl (exec_load1 rfl rfl (by kernel_rfl) (HA.out.blk.cell 1)) ?_
          simp only [Act.put, List.setIfInBounds_toArray, List.set_cons_zero, List.set_cons_succ]
          refine wpList_run (v := .int .i64 (i : Int)) rfl (exec_move rfl rfl) ?_
          simp only [Act.put, List.setIfInBounds_toArray, List.set_cons_zero, List.set_cons_succ]
          refine wpList_run (v := .int .i64 (g : Int)) rfl (ix_add rfl rfl rfl (by omega) (by omega)) ?_
          simp only [Act.put, List.setIfInBounds_toArray, List.set_cons_zero, List.set_cons_succ]
          refine wpList_run (v := .pointer (some ⟨b, 0 + g * 1, none⟩)) rfl (gx_iaddr (i := g) (sz := 1) rfl rfl rfl Try.underlying60 size_ptr HGN.out rfl) ?_
          simp only [Act.put, List.setIfInBounds_toArray, List.set_cons_zero, List.set_cons_succ]
          refine wpList_run (v := .pointer (some ⟨k2, 0, none⟩)) rfl (exec_load1 rfl rfl (by kernel_rfl) (kid_cell HA.out HK2.out)) ?_
          simp only [Act.put, List.setIfInBounds_toArray, List.set_cons_zero, List.set_cons_succ]
          refine wpList_run (v := .pointer (some ⟨k2, 0, none⟩)) rfl (exec_nil rfl rfl) ?_
          simp only [Act.put, List.setIfInBounds_toArray, List.set_cons_zero, List.set_cons_succ]
          refine wpList_run (v := .pointer (some ⟨k2, 0, none⟩)) rfl (exec_field (off := 0) (d := 0) rfl rfl (by kernel_rfl)) ?_
          simp only [Act.put, List.setIfInBounds_toArray, List.set_cons_zero, List.set_cons_succ]
          refine wpList_run (v := .slice A2 n2 c2) rfl (exec_load1 rfl rfl (by kernel_rfl) (HB2.out.cell 0)) ?_
          simp only [Act.put, List.setIfInBounds_toArray, List.set_cons_zero, List.set_cons_succ]
          refine wpList_run (v := .int .i64 (n2 : Int)) rfl (gx_len rfl rfl Try.underlying59) ?_
          simp only [Act.put, List.setIfInBounds_toArray, List.set_cons_zero, List.set_cons_succ]
          refine wpList_run (v := .int .i64 (m : Int)) rfl (exec_move rfl rfl) ?_
          simp only [Act.put, List.setIfInBounds_toArray, List.set_cons_zero, List.set_cons_succ]
          by_cases hB2 : m < n2
          · have HE := Lib.hid (show mend m i t = lendRight i t from (if_neg H0.out).trans ((if_neg H1.out).trans (if_pos ⟨by rw [← HG.out, ← HN.out]; exact HGN.out, by rw [← HG.out, HS2.out]; exact hB2⟩)))
            have HW := Lib.hid (lendR_mend HM.out (by rw [← HG.out, ← HN.out]; exact HGN.out) (by rw [← HG.out, HS2.out]; exact hB2))
            refine wpList_run (v := .bool true) rfl (ix_gtr rfl rfl rfl (decide_eq_true (by omega))) ?_
            simp only [Act.put, List.setIfInBounds_toArray, List.set_cons_zero, List.set_cons_succ]
            refine wpList_run (v := .bool true) (wanted_none rfl) (ix_pickT rfl rfl rfl) ?_
            simp only [Act.put, List.setIfInBounds_toArray, List.set_cons_zero, List.set_cons_succ]
            refine wpList_run (v := .bool true) (wanted_none rfl) (gx_assign rfl rfl) ?_
            simp only [Act.put, List.setIfInBounds_toArray, List.set_cons_zero, List.set_cons_succ]
            refine wpList_nil ?_
            refine HKD.out _ _ ?_
            clear hB2
            go_upto_region 5 with fail
            refine wp_region_lit ?_
            refine wpList_run (v := .pointer (some ⟨n, 0, none⟩)) (wanted_none rfl) (exec_move rfl rfl) ?_
            simp only [Act.put, List.setIfInBounds_toArray, List.set_cons_zero, List.set_cons_succ]
            refine wpList_run (v := .int .i64 (i : Int)) (wanted_none rfl) (exec_move rfl rfl) ?_
            simp only [Act.put, List.setIfInBounds_toArray, List.set_cons_zero, List.set_cons_succ]
            refine wpList_op rfl fun K9 HK9 => ?_
            go_wp2_with fail
            refine (HW.out).mono ?_
            rintro e w1 ⟨rfl, haf⟩
            refine HK9.out _ _ ?_
            clear HK9
            try simp only [Act.put, List.setIfInBounds_toArray, List.set_cons_zero, List.set_cons_succ]
            go_wp2_with fail
            go_end0
            rw [HE.out]
            exact ⟨rfl, haf⟩
          · have H2 := Lib.hid (show ¬ (i + 1 < t.2.length ∧ m < sz t (i + 1)) from fun e => hB2 (by have e2 := e.2; rwa [← HG.out, HS2.out] at e2))
            have HG2 := Lib.hid (fun _ : ¬ 0 < i => show i + 1 < t.2.length from by rw [← HG.out, ← HN.out]; exact HGN.out)
            refine wpList_run (v := .bool false) rfl (ix_gtr rfl rfl rfl (decide_eq_false (by omega))) ?_
            simp only [Act.put, List.setIfInBounds_toArray, List.set_cons_zero, List.set_cons_succ]
            refine wpList_run (v := .bool false) (wanted_none rfl) (ix_pickT rfl rfl rfl) ?_
            simp only [Act.put, List.setIfInBounds_toArray, List.set_cons_zero, List.set_cons_succ]
            refine wpList_run (v := .bool false) (wanted_none rfl) (gx_assign rfl rfl) ?_
            simp only [Act.put, List.setIfInBounds_toArray, List.set_cons_zero, List.set_cons_succ]
            refine wpList_nil ?_
            refine HKD.out _ _ ?_
            clear hB2
            have HE := Lib.hid (show mend m i t = joinAt j t from (if_neg H0.out).trans ((if_neg H1.out).trans ((if_neg H2.out).trans ((if_pos HI0.out).trans (by rw [show i - 1 = j from by have := HJ.out; omega])))))
            have HW := Lib.hid (join_mend (i := j) HM.out (by have := HJ.out; have := HI.out; omega))
            go_upto_region 6 with fail
            refine wp_region_lit ?_
            refine wpList_run (v := .int .i64 (i : Int)) (wanted_none rfl) (exec_move rfl rfl) ?_
            simp only [Act.put, List.setIfInBounds_toArray, List.set_cons_zero, List.set_cons_succ]
            refine wpList_run (v := .bool true) (wanted_none rfl) (ix_gtr rfl rfl rfl (decide_eq_true (by have := HI0.out; omega))) ?_
            simp only [Act.put, List.setIfInBounds_toArray, List.set_cons_zero, List.set_cons_succ]
            refine wpList_run (v := .bool true) (wanted_none rfl) (gx_assign rfl rfl) ?_
            simp only [Act.put, List.setIfInBounds_toArray, List.set_cons_zero, List.set_cons_succ]
            go_upto_region 7 with fail
            refine wp_region_lit ?_
            refine wpList_run (v := .pointer (some ⟨n, 0, none⟩)) (wanted_none rfl) (exec_move rfl rfl) ?_
            simp only [Act.put, List.setIfInBounds_toArray, List.set_cons_zero, List.set_cons_succ]
            refine wpList_run (v := .int .i64 (i : Int)) (wanted_none rfl) (exec_move rfl rfl) ?_
            simp only [Act.put, List.setIfInBounds_toArray, List.set_cons_zero, List.set_cons_succ]
            refine wpList_run (v := .int .i64 (j : Int)) (wanted_none rfl) (ix_sub rfl rfl rfl (by omega) (by omega)) ?_
            simp only [Act.put, List.setIfInBounds_toArray, List.set_cons_zero, List.set_cons_succ]
            refine wpList_op rfl fun K9 HK9 => ?_
            go_wp2_with fail
            refine (HW.out).mono ?_
            rintro e w1 ⟨rfl, haf⟩
            refine HK9.out _ _ ?_
            clear HK9
            try simp only [Act.put, List.setIfInBounds_toArray, List.set_cons_zero, List.set_cons_succ]
            go_wp2_with fail
            go_end0
            rw [HE.out]
            exact ⟨rfl, haf⟩
        · have H2 := Lib.hid (show ¬ (i + 1 < t.2.length ∧ m < sz t (i + 1)) from fun e => hgN (by rw [HG.out, HN.out]; exact e.1))
          have HG2 := Lib.hid (fun h0 : ¬ 0 < i => show i + 1 < t.2.length from by have := HM.out.len; have := HM.out.one; omega)
          have yg : ¬ (g : Int) < (N : Int) := by omega
          clear hgN
          refine wpList_run (v := .bool false) (wanted_none rfl) (ix_lss rfl rfl rfl (decide_eq_false yg)) ?_
          simp only [Act.put, List.setIfInBounds_toArray, List.set_cons_zero, List.set_cons_succ]
          go_wp2_with fail
          refine HKD.out _ _ ?_
          have HE := Lib.hid (show mend m i t = joinAt j t from (if_neg H0.out).trans ((if_neg H1.out).trans ((if_neg H2.out).trans ((if_pos HI0.out).trans (by rw [show i - 1 = j from by have := HJ.out; omega])))))
          have HW := Lib.hid (join_mend (i := j) HM.out (by have := HJ.out; have := HI.out; omega))
          go_upto_region 6 with fail
          refine wp_region_lit ?_
          refine wpList_run (v := .int .i64 (i : Int)) (wanted_none rfl) (exec_move rfl rfl) ?_
          simp only [Act.put, List.setIfInBounds_toArray, List.set_cons_zero, List.set_cons_succ]
          refine wpList_run (v := .bool true) (wanted_none rfl) (ix_gtr rfl rfl rfl (decide_eq_true (by have := HI0.out; omega))) ?_
          simp only [Act.put, List.setIfInBounds_toArray, List.set_cons_zero, List.set_cons_succ]
          refine wpList_run (v := .bool true) (wanted_none rfl) (gx_assign rfl rfl) ?_
          simp only [Act.put, List.setIfInBounds_toArray, List.set_cons_zero, List.set_cons_succ]
          go_upto_region 7 with fail
          refine wp_region_lit ?_
          refine wpList_run (v := .pointer (some ⟨n, 0, none⟩)) (wanted_none rfl) (exec_move rfl rfl) ?_
          simp only [Act.put, List.setIfInBounds_toArray, List.set_cons_zero, List.set_cons_succ]
          refine wpList_run (v := .int .i64 (i : Int)) (wanted_none rfl) (exec_move rfl rfl) ?_
          simp only [Act.put, List.setIfInBounds_toArray, List.set_cons_zero, List.set_cons_succ]
          refine wpList_run (v := .int .i64 (j : Int)) (wanted_none rfl) (ix_sub rfl rfl rfl (by omega) (by omega)) ?_
          simp only [Act.put, List.setIfInBounds_toArray, List.set_cons_zero, List.set_cons_succ]
          refine wpList_op rfl fun K9 HK9 => ?_
          go_wp2_with fail
          refine (HW.out).mono ?_
          rintro e w1 ⟨rfl, haf⟩
          refine HK9.out _ _ ?_
          clear HK9
          try simp only [Act.put, List.setIfInBounds_toArray, List.set_cons_zero, List.set_cons_succ]
          go_wp2_with fail
          go_end0
          rw [HE.out]
          exact ⟨rfl, haf⟩
    · have H1 := Lib.hid (show ¬ (0 < i ∧ m < sz t (i - 1)) from fun e => hi0 e.1)
      have HI0 := Lib.hid hi0
      have y5 : ¬ (0 : Int) < (i : Int) := by omega
      clear hi0
      refine wpList_run (v := .bool false) (wanted_none rfl) (ix_gtr rfl rfl rfl (decide_eq_false (by omega))) ?_
      simp only [Act.put, List.setIfInBounds_toArray, List.set_cons_zero, List.set_cons_succ]
      go_wp2_with fail
      refine HKC.out _ _ ?_
      obtain ⟨g, hg⟩ : ∃ g, g = i + 1 := ⟨_, rfl⟩
      have HG := Lib.hid hg
      have y7 : (g : Int) ≤ (i : Int) + 1 := by omega
      have y8 : (i : Int) + 1 ≤ (g : Int) := by omega
      clear hg
      go_upto_region 4 with fail
      rename_i K8 hK8
      have HKD := Lib.hid hK8
      clear hK8
      refine wp_region_lit ?_
      refine wpList_run (v := .int .i64 (i : Int)) (wanted_none rfl) (exec_move rfl rfl) ?_
      simp only [Act.put, List.setIfInBounds_toArray, List.set_cons_zero, List.set_cons_succ]
      refine wpList_run (v := .int .i64 (g : Int)) (wanted_none rfl) (ix_add rfl rfl rfl (by omega) (by omega)) ?_
      simp only [Act.put, List.setIfInBounds_toArray, List.set_cons_zero, List.set_cons_succ]
      refine wpList_run (v := .pointer (some ⟨n, 0, none⟩)) (wanted_none rfl) (exec_move rfl rfl) ?_
      simp only [Act.put, List.setIfInBounds_toArray, List.set_cons_zero, List.set_cons_succ]
      refine wpList_run (v := .pointer (some ⟨n, 0, none⟩)) (wanted_none rfl) (exec_nil rfl rfl) ?_
      simp only [Act.put, List.setIfInBounds_toArray, List.set_cons_zero, List.set_cons_succ]
      refine wpList_run (v := .pointer (some ⟨n, 1, none⟩)) (wanted_none rfl) (exec_field (off := 0) (d := 1) rfl rfl (by kernel_rfl)) ?_
      simp only [Act.put, List.setIfInBounds_toArray, List.set_cons_zero, List.set_cons_succ]
      refine wpList_run (v := .slice (some ⟨b, 0, none⟩) N c) (wanted_none rfl) (exec_load1 rfl rfl (by kernel_rfl) (HA.out.blk.cell 1)) ?_
      simp only [Act.put, List.setIfInBounds_toArray, List.set_cons_zero, List.set_cons_succ]
      refine wpList_run (v := .int .i64 (N : Int)) (wanted_none rfl) (gx_len rfl rfl Try.underlying60) ?_
      simp only [Act.put, List.setIfInBounds_toArray, List.set_cons_zero, List.set_cons_succ]
      by_cases hgN : g < N
      · have HGN := Lib.hid hgN
        clear hgN
        obtain ⟨T2, hT2⟩ : ∃ T, t.2[g]? = some T := ⟨_, List.getElem?_eq_getElem (by rw [← HN.out]; exact HGN.out)⟩
        have HT2 := Lib.hid hT2
        obtain ⟨k2, G2, hk2, htr2, _⟩ := HKA.out.get hT2
        have HK2 := Lib.hid hk2
        obtain ⟨xk2, _, ⟨vp2, vk2, hi2⟩, _⟩ := htr2.top
        obtain ⟨A2, c2, e9, _⟩ := (HIN.out.at_ hi2).prs.form
        rw [List.length_map] at e9
        obtain ⟨n2, hn2⟩ : ∃ q, q = T2.ps.length := ⟨_, rfl⟩
        replace e9 := e9.trans (show _ = Value.slice A2 n2 c2 from by rw [hn2])
        subst e9
        have HB2 := Lib.hid (show Blk w k2 62 #[.slice A2 n2 c2, vk2] from (HIN.out.at_ hi2).blk)
        have HS2 := Lib.hid (show sz t g = n2 from (sz_at hT2).trans hn2.symm)
        have z2 : (n2 : Int) ≤ 800 := by have := HKN.out _ _ hT2; have := HMM.out; omega
        clear hT2 hk2 htr2 hi2 hn2
        have yg : (g : Int) < (N : Int) := by have := HGN.out; omega
        refine wpList_run (v := .bool true) (wanted_none rfl) (ix_lss rfl rfl rfl (decide_eq_true yg)) ?_
        simp only [Act.put, List.setIfInBounds_toArray, List.set_cons_zero, List.set_cons_succ]
        refine wpList_run (v := .bool true) (wanted_none rfl) (exec_move rfl rfl) ?_
        simp only [Act.put, List.setIfInBounds_toArray, List.set_cons_zero, List.set_cons_succ]
        refine wpList_run (v := .pointer (some ⟨n, 0, none⟩)) rfl (exec_move rfl rfl) ?_
        simp only [Act.put, List.setIfInBounds_toArray, List.set_cons_zero, List.set_cons_succ]
        refine wpList_run (v := .pointer (some ⟨n, 0, none⟩)) rfl (exec_nil rfl rfl) ?_
        simp only [Act.put, List.setIfInBounds_toArray, List.set_cons_zero, List.set_cons_succ]
        refine wpList_run (v := .pointer (some ⟨n, 1, none⟩)) rfl (exec_field (off := 0) (d := 1) rfl rfl (by kernel_rfl)) ?_
        simp only [Act.put, List.setIfInBounds_toArray, List.set_cons_zero, List.set_cons_succ]
        refine wpList_run (v := .slice (some ⟨b, 0, none⟩) N c) rfl (exec_load1 rfl rfl (by kernel_rfl) (HA.out.blk.cell 1)) ?_
        simp only [Act.put, List.setIfInBounds_toArray, List.set_cons_zero, List.set_cons_succ]
        refine wpList_run (v := .int .i64 (i : Int)) rfl (exec_move rfl rfl) ?_
        simp only [Act.put, List.setIfInBounds_toArray, List.set_cons_zero, List.set_cons_succ]
        refine wpList_run (v := .int .i64 (g : Int)) rfl (ix_add rfl rfl rfl (by omega) (by omega)) ?_
        simp only [Act.put, List.setIfInBounds_toArray, List.set_cons_zero, List.set_cons_succ]
        refine wpList_run (v := .pointer (some ⟨b, 0 + g * 1, none⟩)) rfl (gx_iaddr (i := g) (sz := 1) rfl rfl rfl Try.underlying60 size_ptr HGN.out rfl) ?_
        simp only [Act.put, List.setIfInBounds_toArray, List.set_cons_zero, List.set_cons_succ]
        refine wpList_run (v := .pointer (some ⟨k2, 0, none⟩)) rfl (exec_load1 rfl rfl (by kernel_rfl) (kid_cell HA.out HK2.out)) ?_
        simp only [Act.put, List.setIfInBounds_toArray, List.set_cons_zero, List.set_cons_succ]
        refine wpList_run (v := .pointer (some ⟨k2, 0, none⟩)) rfl (exec_nil rfl rfl) ?_
        simp only [Act.put, List.setIfInBounds_toArray, List.set_cons_zero, List.set_cons_succ]
        refine wpList_run (v := .pointer (some ⟨k2, 0, none⟩)) rfl (exec_field (off := 0) (d := 0) rfl rfl (by kernel_rfl)) ?_
        simp only [Act.put, List.setIfInBounds_toArray, List.set_cons_zero, List.set_cons_succ]
        refine wpList_run (v := .slice A2 n2 c2) rfl (exec_load1 rfl rfl (by kernel_rfl) (HB2.out.cell 0)) ?_
        simp only [Act.put, List.setIfInBounds_toArray, List.set_cons_zero, List.set_cons_succ]
        refine wpList_run (v := .int .i64 (n2 : Int)) rfl (gx_len rfl rfl Try.underlying59) ?_
        simp only [Act.put, List.setIfInBounds_toArray, List.set_cons_zero, List.set_cons_succ]
        refine wpList_run (v := .int .i64 (m : Int)) rfl (exec_move rfl rfl) ?_
        simp only [Act.put, List.setIfInBounds_toArray, List.set_cons_zero, List.set_cons_succ]
        by_cases hB2 : m < n2
        · have HE := Lib.hid (show mend m i t = lendRight i t from (if_neg H0.out).trans ((if_neg H1.out).trans (if_pos ⟨by rw [← HG.out, ← HN.out]; exact HGN.out, by rw [← HG.out, HS2.out]; exact hB2⟩)))
          have HW := Lib.hid (lendR_mend HM.out (by rw [← HG.out, ← HN.out]; exact HGN.out) (by rw [← HG.out, HS2.out]; exact hB2))
          refine wpList_run (v := .bool true) rfl (ix_gtr rfl rfl rfl (decide_eq_true (by omega))) ?_
          simp only [Act.put, List.setIfInBounds_toArray, List.set_cons_zero, List.set_cons_succ]
          refine wpList_run (v := .bool true) (wanted_none rfl) (ix_pickT rfl rfl rfl) ?_
          simp only [Act.put, List.setIfInBounds_toArray, List.set_cons_zero, List.set_cons_succ]
          refine wpList_run (v := .bool true) (wanted_none rfl) (gx_assign rfl rfl) ?_
          simp only [Act.put, List.setIfInBounds_toArray, List.set_cons_zero, List.set_cons_succ]
          refine wpList_nil ?_
          refine HKD.out _ _ ?_
          clear hB2
          go_upto_region 5 with fail
          refine wp_region_lit ?_
          refine wpList_run (v := .pointer (some ⟨n, 0, none⟩)) (wanted_none rfl) (exec_move rfl rfl) ?_
          simp only [Act.put, List.setIfInBounds_toArray, List.set_cons_zero, List.set_cons_succ]
          refine wpList_run (v := .int .i64 (i : Int)) (wanted_none rfl) (exec_move rfl rfl) ?_
          simp only [Act.put, List.setIfInBounds_toArray, List.set_cons_zero, List.set_cons_succ]
          refine wpList_op rfl fun K9 HK9 => ?_
          go_wp2_with fail
          refine (HW.out).mono ?_
          rintro e w1 ⟨rfl, haf⟩
          refine HK9.out _ _ ?_
          clear HK9
          try simp only [Act.put, List.setIfInBounds_toArray, List.set_cons_zero, List.set_cons_succ]
          go_wp2_with fail
          go_end0
          rw [HE.out]
          exact ⟨rfl, haf⟩
        · have H2 := Lib.hid (show ¬ (i + 1 < t.2.length ∧ m < sz t (i + 1)) from fun e => hB2 (by have e2 := e.2; rwa [← HG.out, HS2.out] at e2))
          have HG2 := Lib.hid (fun _ : ¬ 0 < i => show i + 1 < t.2.length from by rw [← HG.out, ← HN.out]; exact HGN.out)
          refine wpList_run (v := .bool false) rfl (ix_gtr rfl rfl rfl (decide_eq_false (by omega))) ?_
          simp only [Act.put, List.setIfInBounds_toArray, List.set_cons_zero, List.set_cons_succ]
          refine wpList_run (v := .bool false) (wanted_none rfl) (ix_pickT rfl rfl rfl) ?_
          simp only [Act.put, List.setIfInBounds_toArray, List.set_cons_zero, List.set_cons_succ]
          refine wpList_run (v := .bool false) (wanted_none rfl) (gx_assign rfl rfl) ?_
          simp only [Act.put, List.setIfInBounds_toArray, List.set_cons_zero, List.set_cons_succ]
          refine wpList_nil ?_
          refine HKD.out _ _ ?_
          clear hB2
          have HE := Lib.hid (show mend m i t = joinAt i t from (if_neg H0.out).trans ((if_neg H1.out).trans ((if_neg H2.out).trans (if_neg HI0.out))))
          have HW := Lib.hid (join_mend HM.out (HG2.out HI0.out))
          go_upto_region 6 with fail
          refine wp_region_lit ?_
          refine wpList_run (v := .int .i64 (i : Int)) (wanted_none rfl) (exec_move rfl rfl) ?_
          simp only [Act.put, List.setIfInBounds_toArray, List.set_cons_zero, List.set_cons_succ]
          refine wpList_run (v := .bool false) (wanted_none rfl) (ix_gtr rfl rfl rfl (decide_eq_false (by omega))) ?_
          simp only [Act.put, List.setIfInBounds_toArray, List.set_cons_zero, List.set_cons_succ]
          refine wpList_run (v := .bool false) (wanted_none rfl) (gx_assign rfl rfl) ?_
          simp only [Act.put, List.setIfInBounds_toArray, List.set_cons_zero, List.set_cons_succ]
          go_upto_region 0 with fail
          refine wp_region_lit ?_
          refine wpList_run (v := .pointer (some ⟨n, 0, none⟩)) (wanted_none rfl) (exec_move rfl rfl) ?_
          simp only [Act.put, List.setIfInBounds_toArray, List.set_cons_zero, List.set_cons_succ]
          refine wpList_run (v := .int .i64 (i : Int)) (wanted_none rfl) (exec_move rfl rfl) ?_
          simp only [Act.put, List.setIfInBounds_toArray, List.set_cons_zero, List.set_cons_succ]
          refine wpList_op rfl fun K9 HK9 => ?_
          go_wp2_with fail
          refine (HW.out).mono ?_
          rintro e w1 ⟨rfl, haf⟩
          refine HK9.out _ _ ?_
          clear HK9
          try simp only [Act.put, List.setIfInBounds_toArray, List.set_cons_zero, List.set_cons_succ]
          go_wp2_with fail
          go_end0
          rw [HE.out]
          exact ⟨rfl, haf⟩
      · have H2 := Lib.hid (show ¬ (i + 1 < t.2.length ∧ m < sz t (i + 1)) from fun e => hgN (by rw [HG.out, HN.out]; exact e.1))
        have HG2 := Lib.hid (fun h0 : ¬ 0 < i => show i + 1 < t.2.length from by have := HM.out.len; have := HM.out.one; omega)
        have yg : ¬ (g : Int) < (N : Int) := by omega
        clear hgN
        refine wpList_run (v := .bool false) (wanted_none rfl) (ix_lss rfl rfl rfl (decide_eq_false yg)) ?_
        simp only [Act.put, List.setIfInBounds_toArray, List.set_cons_zero, List.set_cons_succ]
        go_wp2_with fail
        refine HKD.out _ _ ?_
        have HE := Lib.hid (show mend m i t = joinAt i t from (if_neg H0.out).trans ((if_neg H1.out).trans ((if_neg H2.out).trans (if_neg HI0.out))))
        have HW := Lib.hid (join_mend HM.out (HG2.out HI0.out))
        go_upto_region 6 with fail
        refine wp_region_lit ?_
        refine wpList_run (v := .int .i64 (i : Int)) (wanted_none rfl) (exec_move rfl rfl) ?_
        simp only [Act.put, List.setIfInBounds_toArray, List.set_cons_zero, List.set_cons_succ]
        refine wpList_run (v := .bool false) (wanted_none rfl) (ix_gtr rfl rfl rfl (decide_eq_false (by omega))) ?_
        simp only [Act.put, List.setIfInBounds_toArray, List.set_cons_zero, List.set_cons_succ]
        refine wpList_run (v := .bool false) (wanted_none rfl) (gx_assign rfl rfl) ?_
        simp only [Act.put, List.setIfInBounds_toArray, List.set_cons_zero, List.set_cons_succ]
        go_upto_region 0 with fail
        refine wp_region_lit ?_
        refine wpList_run (v := .pointer (some ⟨n, 0, none⟩)) (wanted_none rfl) (exec_move rfl rfl) ?_
        simp only [Act.put, List.setIfInBounds_toArray, List.set_cons_zero, List.set_cons_succ]
        refine wpList_run (v := .int .i64 (i : Int)) (wanted_none rfl) (exec_move rfl rfl) ?_
        simp only [Act.put, List.setIfInBounds_toArray, List.set_cons_zero, List.set_cons_succ]
        refine wpList_op rfl fun K9 HK9 => ?_
        go_wp2_with fail
        refine (HW.out).mono ?_
        rintro e w1 ⟨rfl, haf⟩
        refine HK9.out _ _ ?_
        clear HK9
        try simp only [Act.put, List.setIfInBounds_toArray, List.set_cons_zero, List.set_cons_succ]
        go_wp2_with fail
        go_end0
        rw [HE.out]
        exact ⟨rfl, haf⟩
end Go.Proofs.Ytmlkdkbpbleilaa

namespace Go.Proofs.Ytmlkdkbpbleilaa
open Go.RowKit
open Ix
set_option linter.unusedVariables false
set_option linter.unusedSimpArgs false
structure AfterX (w : World) (H : Hp) (p : Nat) (F : List Nat) {d : Nat} (t' : Tr d) (w' : World) (H' : Hp) (F' : List Nat) : Prop where
  to : To w H w' H'
  tr : TrAt H' p t' F'
  nd : Nd1 F'
  sub : ∀ q ∈ F', q ∈ F ∨ w.heap.size ≤ q
  off : ∀ q, q ∉ F → q < w.heap.size → H' q = H q
theorem After.x {w w' : World} {H : Hp} {p : Nat} {F : List Nat} {d : Nat} {t' : Tr d} (h : After w H p F t' w') : ∃ H' F', AfterX w H p F t' w' H' F' := by
  obtain ⟨H', F', h1, h2, h3, h4, h5⟩ := h
  exact ⟨H', F', h1, h2, h3, h4, h5⟩
theorem AfterX.a {w w' : World} {H H' : Hp} {p : Nat} {F F' : List Nat} {d : Nat} {t' : Tr d} (h : AfterX w H p F t' w' H' F') : After w H p F t' w' := ⟨H', F', h.to, h.tr, h.nd, h.sub, h.off⟩
theorem AfterX.trans {w w1 w2 : World} {H H1 H2 : Hp} {p : Nat} {F F1 F2 : List Nat} {d : Nat} {t1 t2 : Tr d} (h : AfterX w H p F t1 w1 H1 F1) (g : AfterX w1 H1 p F1 t2 w2 H2 F2) : AfterX w H p F t2 w2 H2 F2 := by
  have hs := h.to.turn.size
  refine ⟨h.to.trans g.to, g.tr, g.nd, fun q hq => ?_, fun q hq hl => ?_⟩
  · rcases g.sub q hq with h1 | h1
    · exact h.sub q h1
    · exact .inr (by omega)
  · rw [g.off q (fun e => by rcases h.sub q e with h1 | h1; exact hq h1; omega) (by omega)]
    exact h.off q hq hl
theorem AfterX.pre {w w1 w' : World} {H H' : Hp} {p : Nat} {F F' : List Nat} {d : Nat} {t' : Tr d} (hin : In w H) (ht : Turn nowhere w w1) (h : AfterX w1 H p F t' w' H' F') : AfterX w H p F t' w' H' F' := by
  have hs := ht.size
  exact ⟨(To.still hin ht).trans h.to, h.tr, h.nd, fun q hq => by
    rcases h.sub q hq with h1 | h1
    · exact .inl h1
    · exact .inr (by omega), fun q hq hl => h.off q hq (by omega)⟩
theorem AfterX.aux {w w1 w' : World} {H H' : Hp} {p g : Nat} {F F' : List Nat} {d : Nat} {t' : Tr d} {ty : TypeId} {cs : Array Value} (h : AfterX w H p F t' w1 H' F') (hg : w.heap.size ≤ g) (ha : Aux w1 H' g ty cs) (ht : Turn (only g) w1 w') : AfterX w H p F t' w' H' F' :=
  ⟨h.to.aux hg ha ht, h.tr, h.nd, h.sub, h.off⟩
theorem AfterX.post {w w1 w' : World} {H H' : Hp} {p : Nat} {F F' : List Nat} {d : Nat} {t' : Tr d} (h : AfterX w H p F t' w1 H' F') (ht : Turn nowhere w1 w') : AfterX w H p F t' w' H' F' :=
  ⟨h.to.trans (To.still h.to.in_ ht), h.tr, h.nd, h.sub, h.off⟩
/-- nothing done -/
theorem AfterX.refl {w : World} {H : Hp} {p : Nat} {F : List Nat} {d : Nat} {t : Tr d} (hin : In w H) (ht : TrAt H p t F) (hnd : Nd1 F) : AfterX w H p F t w H F := ⟨To.refl hin, ht, hnd, fun q hq => .inl hq, fun _ _ _ => rfl⟩
/-- a lowest node changed -/
theorem after_leaf {w w' : World} {H H' : Hp} {p : Nat} {ps' : List Pr} (hto : To w H w' H') (his : Is H' p ps' []) (hs : Same H H' (fun q => q = p)) : AfterX (d := 0) w H p [p] (ps', ()) w' H' [p] :=
  ⟨hto, ⟨his, rfl⟩, fun a => by simp only [List.count_cons, List.count_nil]; split <;> omega, fun q hq => .inl hq, fun q hq _ => hs q fun e => hq (by rw [e]; exact List.mem_cons_self ..)⟩
/-- one kid changed -/
theorem after_kid {w w' : World} {H H' : Hp} {n x i : Nat} {d : Nat} {t : Tr (d + 1)} {ks1 ks2 F1 Gx F2 G' : List Nat} {tx' : Tr d} (hin : In w H) (hnd : Nd1 (n :: (F1 ++ (Gx ++ F2)))) (hlt : ∀ q ∈ n :: (F1 ++ (Gx ++ F2)), q < w.heap.size) (hn : Is H n t.1 (ks1 ++ x :: ks2))
    (h1 : KidsAt (TrAt H (d := d)) ks1 (t.2.take i) F1) (h2 : KidsAt (TrAt H (d := d)) ks2 (t.2.drop (i + 1)) F2) (hi : i < t.2.length) (ha : AfterX w H x Gx tx' w' H' G') : AfterX w H n (n :: (F1 ++ (Gx ++ F2))) (nodeT t.1 (t.2.set i tx')) w' H' (n :: (F1 ++ (G' ++ F2))) := by
  have hout : ∀ {F : List Nat}, (∀ a, (n :: (F1 ++ (Gx ++ F2))).count a ≥ F.count a + Gx.count a) → (∀ q ∈ F, q < w.heap.size) → ∀ q ∈ F, ¬ (¬ (q ∉ Gx ∧ q < w.heap.size)) := by
    intro F h hl q hq e
    apply e
    refine ⟨fun e2 => ?_, hl q hq⟩
    have a1 := h q
    have a2 := hnd q
    have a3 := cnt_mem hq
    have a4 := cnt_mem e2
    omega
  have hs : Same H H' (fun q => ¬ (q ∉ Gx ∧ q < w.heap.size)) := fun q hq => by
    have hq : q ∉ Gx ∧ q < w.heap.size := Decidable.of_not_not hq
    exact ha.off q hq.1 hq.2
  have m1 : ∀ q ∈ F1, q < w.heap.size := fun q hq => hlt q (by simp [hq])
  have m2 : ∀ q ∈ F2, q < w.heap.size := fun q hq => hlt q (by simp [hq])
  have m0 : ∀ q ∈ [n], q < w.heap.size := fun q hq => hlt q (by simp at hq; simp [hq])
  have hG : ∀ a, 1 ≤ (n :: (F1 ++ F2)).count a → G'.count a = 0 := by
    intro a h
    rcases Nat.eq_zero_or_pos (G'.count a) with h0 | h0
    · exact h0
    · exfalso
      rcases ha.sub a (List.count_pos_iff.1 h0) with h3 | h3
      · have := hnd a
        have := cnt_mem h3
        simp only [List.count_append, List.count_cons] at *
        omega
      · have := hlt a (by
          have := List.count_pos_iff.1 h
          simp only [List.mem_cons, List.mem_append] at this ⊢
          rcases this with h | h | h
          · exact .inl h
          · exact .inr (.inl h)
          · exact .inr (.inr (.inr h)))
        omega
  refine ⟨ha.to, ⟨ks1 ++ x :: ks2, F1 ++ (G' ++ F2), hn.same hs (hout (F := [n]) (fun a => ?_) m0 n (List.mem_cons_self ..)), ?_, rfl⟩, fun a => ?_, fun q hq => ?_, fun q hq hl => ?_⟩
  · simp only [List.count_append, List.count_cons, List.count_nil]; omega
  · show KidsAt _ _ (t.2.set i tx') _
    rw [set_at _ _ _ hi]
    exact (h1.same hs (hout (fun a => by simp only [List.count_append, List.count_cons]; omega) m1)).app ⟨G', F2, rfl, ha.tr, h2.same hs (hout (fun a => by simp only [List.count_append, List.count_cons]; omega) m2)⟩
  · have a1 := hnd a
    have a2 := ha.nd a
    have a3 := hG a
    simp only [List.count_append, List.count_cons] at a1 a3 ⊢
    omega
  · have hq : q ∈ n :: (F1 ++ (G' ++ F2)) := hq
    simp only [List.mem_cons, List.mem_append] at hq ⊢
    rcases hq with h | h | h | h
    · exact .inl (.inl h)
    · exact .inl (.inr (.inl h))
    · rcases ha.sub q h with h3 | h3
      · exact .inl (.inr (.inr (.inl h3)))
      · exact .inr h3
    · exact .inl (.inr (.inr (.inr h)))
  · exact ha.off q (fun e => hq (by simp [e])) hl
/-- a node's pairs changed, its kids the same -/
theorem after_pairs {w w' : World} {H H' : Hp} {n : Nat} {d : Nat} {t : Tr (d + 1)} {F : List Nat} {ps' : List Pr} {ks : List Nat} (ht : TrAt H n t F) (hnd : Nd1 F) (hks : Is H n t.1 ks) (hto : To w H w' H') (his : Is H' n ps' ks) (hs : Same H H' (fun q => q = n)) : AfterX w H n F (nodeT ps' t.2) w' H' F := by
  obtain ⟨ks', F', h1, h2, rfl⟩ := ht
  obtain ⟨_, e⟩ := hks.inj h1
  subst e
  refine ⟨hto, ⟨ks, F', his, h2.same hs fun q hq e => ?_, rfl⟩, hnd, fun q hq => .inl hq, fun q hq _ => hs q fun e => hq (by rw [e]; exact List.mem_cons_self ..)⟩
  subst e
  have := hnd q
  have := cnt_mem hq
  simp only [List.count_cons, beq_self_eq_true, if_true] at *
  omega
end Go.Proofs.Ytmlkdkbpbleilaa

namespace Go.Proofs.Ytmlkdkbpbleilaa
open Go.RowKit
open Ix
set_option linter.unusedVariables false
set_option linter.unusedSimpArgs false
/-- what a call on a tree needs -/
structure Tree (w : World) (H : Hp) {d : Nat} (p : Nat) (t : Tr d) (F : List Nat) (m M lo hi : Nat) : Prop where
  hin : In w H
  tr : TrAt H p t F
  nd : Nd1 F
  nb : Nd m M lo hi t
theorem nd_kid {m M lo hi : Nat} {d : Nat} {t : Tr (d + 1)} (h : Nd m M lo hi t) {i : Nat} {c : Tr d} (hc : t.2[i]? = some c) : Nd m M m M c := h.2.2.2 c (List.mem_of_getElem? hc)
theorem kids_set {m M lo hi : Nat} {d : Nat} {t : Tr (d + 1)} (h : Nd m M lo hi t) {i : Nat} {c : Tr d} (hc : Nd m M (m - 1) M c) {ps : List Pr} : ∀ (j : Nat) (c' : Tr d), (nodeT ps (t.2.set i c)).2[j]? = some c' → Nd m M (m - 1) M c' := fun j c' hj => by
  have hj : (t.2.set i c)[j]? = some c' := hj
  by_cases e : i = j
  · subst e
    rw [List.getElem?_set] at hj
    simp at hj
    obtain ⟨_, rfl⟩ := hj
    exact hc
  · rw [List.getElem?_set_ne e] at hj
    have h1 := nd_kid h hj
    exact h1.mono (by have := h1.lo; omega) h1.hi
theorem nd_mid {n : Nat} {F1 Gx F2 : List Nat} (h : Nd1 (n :: (F1 ++ (Gx ++ F2)))) : Nd1 Gx := fun a => by
  have := h a
  simp only [List.count_append, List.count_cons] at this
  omega
theorem not_leaf {d : Nat} {t : Tr (d + 1)} {H : Hp} {p m M lo hi : Nat} {F : List Nat} {ks : List Nat} (ht : TrAt H p t F) (hn : Nd m M lo hi t) (hk : Is H p t.1 ks) : decide (ks = []) = false := by
  obtain ⟨ks', F', h1, h2, _⟩ := ht
  obtain ⟨_, e⟩ := hk.inj h1
  subst e
  have h3 := h2.len
  have h4 := hn.2.2.1
  cases ks with
  | nil => simp at h3; omega
  | cons _ _ => rfl
set_option maxRecDepth 20000 in
set_option maxHeartbeats 4000000 in
theorem dropLast_leaf {t : Tr 0} {w : World} {H : Hp} {p m M lo hi : Nat} {F : List Nat} (h : Tree w H p t F m M lo hi) (h1 : 1 ≤ lo) (h8 : hi < 800) :
    Calls Try.prog 46 #[.pointer (some ⟨p, 0, none⟩), .int .i64 (m : Int)] w fun e w' => e = .returned (.agg (encP (tlast m t).1).toArray) ∧ After w H p F (tlast m t).2 w' := by
  obtain ⟨his, rfl⟩ := h.tr
  have HIN := Lib.hid h.hin
  have n1 := h.nb.lo
  have n2 := h.nb.hi
  have n1 : lo ≤ t.1.length := n1
  have n2 : t.1.length ≤ hi := n2
  have HIS := Lib.hid his
  obtain ⟨q, hq⟩ : ∃ q, t.1[t.1.length - 1]? = some q := ⟨_, List.getElem?_eq_getElem (show t.1.length - 1 < t.1.length by omega)⟩
  have HQ1 := Lib.hid (show (tlast m t).1 = q from by show lastP t.1 = q; unfold lastP; rw [hq]; rfl)
  obtain ⟨z, hz⟩ : ∃ z, z + 1 = t.1.length := ⟨t.1.length - 1, by omega⟩
  have HZ := Lib.hid hz
  have HQ := Lib.hid (show t.1[z]? = some q from by rw [show z = t.1.length - 1 from by omega]; exact hq)
  obtain ⟨n, hn⟩ : ∃ n, n = t.1.length := ⟨_, rfl⟩
  have HN := Lib.hid hn
  have HH := Lib.hid (show t.1.length ≤ 100000 from by omega)
  have y1 : (n : Int) ≤ (z : Int) + 1 := by omega
  have y2 : (z : Int) + 1 ≤ (n : Int) := by omega
  have y3 : (n : Int) ≤ 800 := by omega
  obtain ⟨vp, vk, hp⟩ := his
  obtain ⟨A, c, e, _, _, _, _⟩ := (show NodeAt w p vp vk t.1 [] from h.hin.at_ hp).prs.form
  replace e := e.trans (show _ = Value.slice A n c from by rw [List.length_map, hn])
  subst e
  have HP := Lib.hid hp
  clear hq hz hn n1 n2 h h1 h8 hp
  have hb0 := Blk.new w 65 #[.string ⟨#[]⟩, .int .i64 0]
  have hu0 := (Turn.refl nowhere w).alloc (.cells #[.string ⟨#[]⟩, .int .i64 0] 65)
  go_enter Try.func46, Try.ntmps46
  go_upto_region 1 with fail
  obtain ⟨b0, hg0⟩ : ∃ g, g = w.heap.size := ⟨_, rfl⟩
  rw [← hg0] at hb0 ⊢
  generalize w.alloc (.cells #[.string ⟨#[]⟩, .int .i64 0] 65) = w1 at *
  have HG0 := Lib.hid (show w.heap.size ≤ b0 by omega)
  have HT1 := Lib.hid hu0
  have HA0 := Lib.hid (Aux.new HIN.out HG0.out hb0)
  have HI1 := Lib.hid (HIN.out.still hu0)
  clear hb0 hu0 hg0
  refine wp_region_lit ?_
  refine wpList_run (v := .pointer (some ⟨p, 0, none⟩)) (wanted_none rfl) (exec_move rfl rfl) ?_
  simp only [Act.put, List.setIfInBounds_toArray, List.set_cons_zero, List.set_cons_succ]
  refine wpList_op rfl fun K9 HK9 => ?_
  go_wp2_with fail
  refine (lowest_walk (HI1.out.at_ HP.out)).mono ?_
  rintro e w2 ⟨rfl, hw2⟩
  refine HK9.out _ _ ?_
  clear HK9
  try simp only [Act.put, List.setIfInBounds_toArray, List.set_cons_zero, List.set_cons_succ]
  subst hw2
  go_upto_region 2 with fail
  refine wp_region_lit ?_
  refine wpList_run (v := .pointer (some ⟨p, 0, none⟩)) (wanted_none rfl) (exec_move rfl rfl) ?_
  simp only [Act.put, List.setIfInBounds_toArray, List.set_cons_zero, List.set_cons_succ]
  refine wpList_run (v := .pointer (some ⟨p, 0, none⟩)) (wanted_none rfl) (exec_move rfl rfl) ?_
  simp only [Act.put, List.setIfInBounds_toArray, List.set_cons_zero, List.set_cons_succ]
  refine wpList_run (v := .pointer (some ⟨p, 0, none⟩)) (wanted_none rfl) (exec_nil rfl rfl) ?_
  simp only [Act.put, List.setIfInBounds_toArray, List.set_cons_zero, List.set_cons_succ]
  refine wpList_run (v := .pointer (some ⟨p, 0, none⟩)) (wanted_none rfl) (exec_field (off := 0) (d := 0) rfl rfl (by kernel_rfl)) ?_
  simp only [Act.put, List.setIfInBounds_toArray, List.set_cons_zero, List.set_cons_succ]
  refine wpList_run (v := .slice A n c) (wanted_none rfl) (exec_load1 rfl rfl (by kernel_rfl) ((HI1.out.at_ HP.out).blk.cell 0)) ?_
  simp only [Act.put, List.setIfInBounds_toArray, List.set_cons_zero, List.set_cons_succ]
  refine wpList_run (v := .int .i64 (n : Int)) (wanted_none rfl) (gx_len rfl rfl Try.underlying59) ?_
  simp only [Act.put, List.setIfInBounds_toArray, List.set_cons_zero, List.set_cons_succ]
  refine wpList_run (v := .int .i64 (z : Int)) (wanted_none rfl) (ix_sub rfl rfl rfl (by omega) (by omega)) ?_
  simp only [Act.put, List.setIfInBounds_toArray, List.set_cons_zero, List.set_cons_succ]
  refine wpList_op rfl fun K9 HK9 => ?_
  go_wp2_with fail
  refine (takePair_walk HI1.out HIS.out HQ.out HH.out).mono ?_
  rintro e w3 ⟨rfl, H3, hto, his3, hs3⟩
  refine HK9.out _ _ ?_
  clear HK9
  try simp only [Act.put, List.setIfInBounds_toArray, List.set_cons_zero, List.set_cons_succ]
  have HX := Lib.hid (after_leaf hto (by rw [last_drop HN.out (by rw [HN.out]; exact HZ.out)] at his3; exact his3) hs3)
  have HA3 := Lib.hid (HA0.out.to hto)
  clear hto his3 hs3
  refine wpList_store_row rfl 65 (.tmp 4) (.tmp 16) rfl (encP q).toArray HA3.out.1 rfl rfl rfl (by rw [size_pair]; rfl) (fun v hv => encP_one q v (by simpa using hv)) ?_
  intro w5 hb5 ht5
  simp only [Act.put, List.setIfInBounds_toArray, List.set_cons_zero, List.set_cons_succ]
  have HE := Lib.hid hb5
  have HT5 := Lib.hid ht5
  clear hb5 ht5
  go_wp2_with fail
  refine bodyPost_ret (v := .agg (encP q).toArray) (results_cell_row rfl _ _ b0 65 _ (0, 0) _ rfl HE.out Try.underlying65 rfl size_pair) rfl ?_
  rw [HQ1.out]
  refine ⟨rfl, AfterX.a (H' := H3) (F' := [p]) ?_⟩
  have hz2 : t.1.length - 1 = z := by have := HZ.out; omega
  show AfterX (d := 0) w H p [p] (t.1.take (t.1.length - 1), ()) w5 H3 [p]
  rw [hz2]
  exact (AfterX.pre HIN.out HT1.out HX.out).aux HG0.out HA3.out HT5.out
set_option maxRecDepth 20000 in
set_option maxHeartbeats 4000000 in
theorem dropLast_walk {m M : Nat} (hm : m = M / 2) (h2 : 2 ≤ M) (hM : M < 700) : ∀ {d : Nat} {t : Tr d} {w : World} {H : Hp} {p lo hi : Nat} {F : List Nat}, Tree w H p t F m M lo hi → 1 ≤ lo → hi < 700 →
    Calls Try.prog 46 #[.pointer (some ⟨p, 0, none⟩), .int .i64 (m : Int)] w fun e w' => e = .returned (.agg (encP (tlast m t).1).toArray) ∧ After w H p F (tlast m t).2 w' := by
  intro d
  induction d with
  | zero => intro t w H p lo hi F h h1 h8; exact dropLast_leaf h h1 (by omega)
  | succ d ih =>
    intro t w H p lo hi F h h1 h8
    have HIN := Lib.hid h.hin
    have hlen := h.nb.2.2.1
    have n1 : lo ≤ t.1.length := h.nb.lo
    have n2 : t.1.length ≤ hi := h.nb.hi
    obtain ⟨i, hi0⟩ : ∃ i, i = t.2.length - 1 := ⟨_, rfl⟩
    obtain ⟨c, hc⟩ : ∃ c, t.2[i]? = some c := ⟨_, List.getElem?_eq_getElem (show i < t.2.length by omega)⟩
    obtain ⟨ks1, x, ks2, F1, Gx, F2, q1, q2, q3, q4, q5, rfl⟩ := one_kid h.tr hc
    have hlt := fun q hq => TrAt.lt h.hin h.tr q hq
    have nc := nd_kid h.nb hc
    have HTC := Lib.hid (show ∀ w1, Turn nowhere w w1 → Tree w1 H x c Gx m M m M from fun w1 ht => ⟨h.hin.still ht, q4, nd_mid h.nd, nc⟩)
    obtain ⟨tl, tr⟩ := tlast_ok hm h2 nc (by omega)
    have HTL := Lib.hid (show (tlast m t).1 = (tlast m c).1 ∧ (tlast m t).2 = mend m i (nodeT t.1 (t.2.set i (tlast m c).2)) from by
      constructor
      · show (match t.2[t.2.length - 1]? with | none => (([], 0), t) | some c => ((tlast m c).1, mend m (t.2.length - 1) (nodeT t.1 (t.2.set (t.2.length - 1) (tlast m c).2)))).1 = _
        rw [← hi0, hc]
      · show (match t.2[t.2.length - 1]? with | none => (([], 0), t) | some c => ((tlast m c).1, mend m (t.2.length - 1) (nodeT t.1 (t.2.set (t.2.length - 1) (tlast m c).2)))).2 = _
        rw [← hi0, hc])
    have HKD := Lib.hid (fun (w1 w2 : World) (H' : Hp) (G' : List Nat) (ht : Turn nowhere w w1) (ha : AfterX w1 H x Gx (tlast m c).2 w2 H' G') => after_kid (t := t) (i := i) (h.hin.still ht) h.nd (fun q hq => Nat.lt_of_lt_of_le (hlt q hq) ht.size) q1 q3 q5 (by omega) ha)
    have HMN := Lib.hid (fun (w2 : World) (H' : Hp) (F' : List Nat) (w1 : World) (ha : AfterX w1 H p (p :: (F1 ++ (Gx ++ F2))) (nodeT t.1 (t.2.set i (tlast m c).2)) w2 H' F') => (show Mn (nodeT t.1 (t.2.set i (tlast m c).2)) w2 H' p m M F' from ⟨ha.to.in_, ha.tr, ha.nd, by show (t.2.set _ _).length = _; rw [List.length_set]; exact hlen, by show 1 ≤ t.1.length; omega, by show t.1.length < 800; omega, kids_set h.nb tr, by omega⟩))
    obtain ⟨ks, hks⟩ : ∃ ks, ks = ks1 ++ x :: ks2 := ⟨_, rfl⟩
    rw [← hks] at q1
    have HL := Lib.hid (not_leaf h.tr h.nb q1)
    have hkl : ks.length = t.2.length := by
      obtain ⟨ks', F', g1, g2, _⟩ := h.tr
      obtain ⟨_, e⟩ := q1.inj g1
      rw [e, g2.len]
    have HKX := Lib.hid (show ks[i]? = some x from by rw [hks]; exact ks_at1 q2)
    obtain ⟨vp, vk, hp⟩ := q1
    obtain ⟨b, cc, e, _, _⟩ := (show NodeAt w p vp vk t.1 ks from h.hin.at_ hp).kds.some_ (by rw [List.length_map]; omega)
    obtain ⟨n, hn⟩ : ∃ n, n = ks.length := ⟨_, rfl⟩
    replace e := e.trans (show _ = Value.slice (some ⟨b, 0, none⟩) n cc from by rw [List.length_map, hn])
    subst e
    have HP := Lib.hid hp
    have HIN2 := Lib.hid (show i < n from by omega)
    have HIL := Lib.hid (show i < (nodeT t.1 (t.2.set i (tlast m c).2)).2.length from by show i < (t.2.set _ _).length; rw [List.length_set]; omega)
    have HM8 := Lib.hid (show m < 800 from by omega)
    have HIH := Lib.hid (fun (w1 : World) (ht : Turn nowhere w w1) => ih (HTC.out w1 ht) (by omega) (by omega))
    have y1 : (n : Int) ≤ (i : Int) + 1 := by omega
    have y2 : (i : Int) + 1 ≤ (n : Int) := by omega
    have y3 : (n : Int) ≤ 800 := by omega
    have HMQ := Lib.hid hm
    clear hm
    clear hks hkl hp hn q2 q3 q4 q5 hlt nc tl tr hi0 hc h h1 h8 hlen n1 n2 ih
    have hb0 := Blk.new w 65 #[.string ⟨#[]⟩, .int .i64 0]
    have hu0 := (Turn.refl nowhere w).alloc (.cells #[.string ⟨#[]⟩, .int .i64 0] 65)
    go_enter Try.func46, Try.ntmps46
    go_upto_region 1 with fail
    obtain ⟨b0, hg0⟩ : ∃ g, g = w.heap.size := ⟨_, rfl⟩
    rw [← hg0] at hb0 ⊢
    generalize w.alloc (.cells #[.string ⟨#[]⟩, .int .i64 0] 65) = w1 at *
    have HG0 := Lib.hid (show w.heap.size ≤ b0 by omega)
    have HT1 := Lib.hid hu0
    have HA0 := Lib.hid (Aux.new HIN.out HG0.out hb0)
    have HI1 := Lib.hid (HIN.out.still hu0)
    clear hb0 hu0 hg0
    refine wp_region_lit ?_
    refine wpList_run (v := .pointer (some ⟨p, 0, none⟩)) (wanted_none rfl) (exec_move rfl rfl) ?_
    simp only [Act.put, List.setIfInBounds_toArray, List.set_cons_zero, List.set_cons_succ]
    have hw := lowest_walk (ks := ks) (HI1.out.at_ HP.out)
    rw [HL.out] at hw
    refine wpList_op rfl fun K9 HK9 => ?_
    go_wp2_with fail
    refine (hw).mono ?_
    rintro e w2 ⟨rfl, hw2⟩
    refine HK9.out _ _ ?_
    clear HK9
    try simp only [Act.put, List.setIfInBounds_toArray, List.set_cons_zero, List.set_cons_succ]
    subst hw2
    clear hw
    go_upto_region 3 with fail
    refine wp_region_lit ?_
    refine wpList_run (v := .pointer (some ⟨p, 0, none⟩)) (wanted_none rfl) (exec_move rfl rfl) ?_
    simp only [Act.put, List.setIfInBounds_toArray, List.set_cons_zero, List.set_cons_succ]
    refine wpList_run (v := .pointer (some ⟨p, 0, none⟩)) (wanted_none rfl) (exec_nil rfl rfl) ?_
    simp only [Act.put, List.setIfInBounds_toArray, List.set_cons_zero, List.set_cons_succ]
    refine wpList_run (v := .pointer (some ⟨p, 1, none⟩)) (wanted_none rfl) (exec_field (off := 0) (d := 1) rfl rfl (by kernel_rfl)) ?_
    simp only [Act.put, List.setIfInBounds_toArray, List.set_cons_zero, List.set_cons_succ]
    refine wpList_run (v := .slice (some ⟨b, 0, none⟩) n cc) (wanted_none rfl) (exec_load1 rfl rfl (by kernel_rfl) ((HI1.out.at_ HP.out).blk.cell 1)) ?_
    simp only [Act.put, List.setIfInBounds_toArray, List.set_cons_zero, List.set_cons_succ]
    refine wpList_run (v := .int .i64 (n : Int)) (wanted_none rfl) (gx_len rfl rfl Try.underlying60) ?_
    simp only [Act.put, List.setIfInBounds_toArray, List.set_cons_zero, List.set_cons_succ]
    refine wpList_run (v := .int .i64 (i : Int)) (wanted_none rfl) (ix_sub rfl rfl rfl (by omega) (by omega)) ?_
    simp only [Act.put, List.setIfInBounds_toArray, List.set_cons_zero, List.set_cons_succ]
    refine wpList_run (v := .int .i64 (i : Int)) (wanted_none rfl) (gx_assign rfl rfl) ?_
    simp only [Act.put, List.setIfInBounds_toArray, List.set_cons_zero, List.set_cons_succ]
    go_upto_region 4 with fail
    refine wp_region_lit ?_
    refine wpList_run (v := .pointer (some ⟨p, 0, none⟩)) (wanted_none rfl) (exec_move rfl rfl) ?_
    simp only [Act.put, List.setIfInBounds_toArray, List.set_cons_zero, List.set_cons_succ]
    refine wpList_run (v := .pointer (some ⟨p, 0, none⟩)) (wanted_none rfl) (exec_nil rfl rfl) ?_
    simp only [Act.put, List.setIfInBounds_toArray, List.set_cons_zero, List.set_cons_succ]
    refine wpList_run (v := .pointer (some ⟨p, 1, none⟩)) (wanted_none rfl) (exec_field (off := 0) (d := 1) rfl rfl (by kernel_rfl)) ?_
    simp only [Act.put, List.setIfInBounds_toArray, List.set_cons_zero, List.set_cons_succ]
    refine wpList_run (v := .slice (some ⟨b, 0, none⟩) n cc) (wanted_none rfl) (exec_load1 rfl rfl (by kernel_rfl) ((HI1.out.at_ HP.out).blk.cell 1)) ?_
    simp only [Act.put, List.setIfInBounds_toArray, List.set_cons_zero, List.set_cons_succ]
    refine wpList_run (v := .int .i64 (i : Int)) (wanted_none rfl) (exec_move rfl rfl) ?_
    simp only [Act.put, List.setIfInBounds_toArray, List.set_cons_zero, List.set_cons_succ]
    refine wpList_run (v := .pointer (some ⟨b, 0 + i * 1, none⟩)) (wanted_none rfl) (gx_iaddr (i := i) (sz := 1) rfl rfl rfl Try.underlying60 size_ptr HIN2.out rfl) ?_
    simp only [Act.put, List.setIfInBounds_toArray, List.set_cons_zero, List.set_cons_succ]
    refine wpList_run (v := .pointer (some ⟨x, 0, none⟩)) (wanted_none rfl) (exec_load1 rfl rfl (by kernel_rfl) (kid_cell (HI1.out.at_ HP.out) HKX.out)) ?_
    simp only [Act.put, List.setIfInBounds_toArray, List.set_cons_zero, List.set_cons_succ]
    refine wpList_run (v := .int .i64 (m : Int)) (wanted_none rfl) (exec_move rfl rfl) ?_
    simp only [Act.put, List.setIfInBounds_toArray, List.set_cons_zero, List.set_cons_succ]
    refine wpList_op rfl fun K9 HK9 => ?_
    go_wp2_with fail
    refine (HIH.out _ HT1.out).mono ?_
    rintro e w3 ⟨rfl, haf⟩
    refine HK9.out _ _ ?_
    clear HK9
    try simp only [Act.put, List.setIfInBounds_toArray, List.set_cons_zero, List.set_cons_succ]
    obtain ⟨H3, G3, hx3⟩ := haf.x
    have HX3 := Lib.hid (HKD.out _ _ _ _ HT1.out hx3)
    have HA3 := Lib.hid (HA0.out.to hx3.to)
    clear haf hx3
    refine wpList_new 65 (.tmp 6) (.tmp 31) (encP (tlast m c).1).toArray rfl rfl (zero_pair _) rfl rfl rfl rfl rfl rfl (by rw [size_pair]; rfl) (fun v hv => encP_one (tlast m c).1 v (by simpa using hv)) ?_
    intro w4 g6 hge hb6 ht4
    simp only [Act.put, List.setIfInBounds_toArray, List.set_cons_zero, List.set_cons_succ]
    have HA6 := Lib.hid (Aux.new HX3.out.to.in_ hge hb6)
    have HX4 := Lib.hid (HX3.out.post ht4)
    have HA4 := Lib.hid (HA3.out.still ht4)
    have HMW := Lib.hid (mend_walk (HMN.out _ _ _ _ HX4.out) HIL.out HM8.out)
    clear hge hb6 ht4
    go_upto_region 5 with fail
    refine wp_region_lit ?_
    refine wpList_run (v := .pointer (some ⟨p, 0, none⟩)) (wanted_none rfl) (exec_move rfl rfl) ?_
    simp only [Act.put, List.setIfInBounds_toArray, List.set_cons_zero, List.set_cons_succ]
    refine wpList_run (v := .int .i64 (i : Int)) (wanted_none rfl) (exec_move rfl rfl) ?_
    simp only [Act.put, List.setIfInBounds_toArray, List.set_cons_zero, List.set_cons_succ]
    refine wpList_run (v := .int .i64 (m : Int)) (wanted_none rfl) (exec_move rfl rfl) ?_
    simp only [Act.put, List.setIfInBounds_toArray, List.set_cons_zero, List.set_cons_succ]
    refine wpList_op rfl fun K9 HK9 => ?_
    go_wp2_with fail
    refine (HMW.out).mono ?_
    rintro e w5 ⟨rfl, haf⟩
    refine HK9.out _ _ ?_
    clear HK9
    try simp only [Act.put, List.setIfInBounds_toArray, List.set_cons_zero, List.set_cons_succ]
    obtain ⟨H5, F5, hx5⟩ := haf.x
    have HX5 := Lib.hid (HX4.out.trans hx5)
    have HA65 := Lib.hid (HA6.out.to hx5.to)
    have HA5 := Lib.hid (HA4.out.to hx5.to)
    clear haf hx5
    go_upto_region 6 with fail
    refine wp_region_lit ?_
    refine wpList_run (v := .agg (encP (tlast m c).1).toArray) (wanted_none rfl) (gx_loads rfl rfl (blk_range HA65.out.1) Try.underlying65 rfl (by rw [size_pair]; rfl)) ?_
    simp only [Act.put, List.setIfInBounds_toArray, List.set_cons_zero, List.set_cons_succ]
    refine wpList_store_row rfl 65 (.tmp 4) (.tmp 36) rfl (encP (tlast m c).1).toArray HA5.out.1 rfl rfl rfl (by rw [size_pair]; rfl) (fun v hv => encP_one (tlast m c).1 v (by simpa using hv)) ?_
    intro w6 hb7 ht7
    simp only [Act.put, List.setIfInBounds_toArray, List.set_cons_zero, List.set_cons_succ]
    have HE := Lib.hid hb7
    have HT7 := Lib.hid ht7
    clear hb7 ht7
    go_wp2_with fail
    refine bodyPost_ret (v := .agg (encP (tlast m c).1).toArray) (results_cell_row rfl _ _ b0 65 _ (0, 0) _ rfl HE.out Try.underlying65 rfl size_pair) rfl ?_
    rw [HTL.out.1, HTL.out.2]
    exact ⟨rfl, ((AfterX.pre HIN.out HT1.out HX5.out).aux HG0.out HA5.out HT7.out).a⟩
end Go.Proofs.Ytmlkdkbpbleilaa

namespace Go.Proofs.Ytmlkdkbpbleilaa
open Go.RowKit
open Ix
set_option linter.unusedVariables false
set_option linter.unusedSimpArgs false
def retV (o : Option Int) : Value := .tuple #[.int .i64 (o.getD 0), .bool o.isSome]
theorem inter_sub : ∀ {L : List (List Pr)} {ps : List Pr}, L.length = ps.length + 1 → ps.Sublist (inter L ps)
  | [], _, h => by simp at h
  | [a], [], _ => List.nil_sublist _
  | a :: b :: L, p :: ps, h => by
    show (p :: ps).Sublist (a ++ p :: inter (b :: L) ps)
    exact ((inter_sub (L := b :: L) (ps := ps) (by simpa using h)).cons_cons p).trans (List.sublist_append_right _ _)
  | [_], _ :: _, h => by simp at h
  | _ :: _ :: _, [], h => by simp at h
theorem srt_top {m M lo hi : Nat} : ∀ {d : Nat} {t : Tr d}, Nd m M lo hi t → Srt (flat t) → Srt t.ps
  | 0, t, _, h => h
  | d + 1, t, hn, h => by
    refine List.Pairwise.sublist (inter_sub ?_) h
    rw [List.length_map]
    exact hn.2.2.1
theorem srt_kid {m M lo hi : Nat} {d : Nat} {t : Tr (d + 1)} {k : Key} (hn : Nd m M lo hi t) (h : Srt (flat t)) {c : Tr d} (hc : t.2[fnd k t.1]? = some c) : Srt (flat c) := by
  have h : Srt (inter (t.2.map flat) t.1) := h
  obtain ⟨A, b, B, _, _, _, hb, _, hsb, _⟩ := at_fnd k (by rw [List.length_map]; exact hn.2.2.1) h
  rw [List.getElem?_map, hc] at hb
  obtain rfl : flat c = b := by simpa using hb
  exact hsb
theorem hit_yes {k : Key} {l : List Pr} (h : hit k l = true) : ∃ p, l[fnd k l]? = some p ∧ p.1 = k := by
  have h : (l[fnd k l]?).map (·.1) = some k := of_decide_eq_true h
  exact Option.map_eq_some_iff.1 h
theorem hit_no {k : Key} {l : List Pr} (h : hit k l = false) : ¬ (l[fnd k l]?).map (·.1) = some k := of_decide_eq_false h
theorem tget_yes {k : Key} {d : Nat} {t : Tr (d + 1)} {c : Tr d} {p : Pr} (hp : t.1[fnd k t.1]? = some p) (hk : p.1 = k) (hc : t.2[fnd k t.1]? = some c) : tget k t = some p.2 := by
  unfold tget
  rw [hp, hc]
  exact if_pos hk
theorem tget_no {k : Key} {d : Nat} {t : Tr (d + 1)} {c : Tr d} (hn : ¬ (t.1[fnd k t.1]?).map (·.1) = some k) (hc : t.2[fnd k t.1]? = some c) : tget k t = tget k c := by
  conv => lhs; unfold tget
  rw [hc]
  cases hp : t.1[fnd k t.1]? with
  | none => rfl
  | some p => exact if_neg fun e => hn (by rw [hp, ← e]; rfl)
theorem tget_leaf {k : Key} {t : Tr 0} : tget k t = if hit k t.1 then (t.1[fnd k t.1]?).map (·.2) else none := by
  show (match t.1[fnd k t.1]? with | some p => if p.1 = k then some p.2 else none | none => none) = _
  cases hp : t.1[fnd k t.1]? with
  | none =>
    unfold hit
    rw [hp]
    simp
  | some p =>
    unfold hit
    rw [hp]
    by_cases e : p.1 = k
    · simp [e]
    · simp [e]
theorem gx_fieldP {a : Act} {o : Oper} {W : World} {x : Operand} {p : Pr} (ho : o.op = .field 65 x 1) (hx : a.eval x = .agg (encP p).toArray) : (execOp a.eval o).run Try.prog W = .ok (.value (.int .i64 p.2)) W := by
  have h : (Instr.field 65 (.agg (encP p).toArray) 1).run Try.prog W = .ok (.int .i64 p.2) W := by kernel_rfl
  unfold execOp
  simp only [ho, hx, h, Sem.run_bind, Sem.run_pure, Result.andThen_ok]
set_option maxRecDepth 20000 in
set_option maxHeartbeats 4000000 in
theorem drop_leaf {t : Tr 0} {w : World} {H : Hp} {p m M lo hi : Nat} {F : List Nat} {k : Key} (h : Tree w H p t F m M lo hi) (hs : Srt (flat t)) (h8 : hi < 700) :
    Calls Try.prog 29 #[.pointer (some ⟨p, 0, none⟩), strV k, .int .i64 (m : Int)] w fun e w' => e = .returned (retV (tget k t)) ∧ After w H p F (tdrop k m t) w' := by
  obtain ⟨his, rfl⟩ := h.tr
  have HT := Lib.hid h
  have HIS := Lib.hid his
  have HS := Lib.hid (show Srt t.1 from hs)
  have HIN := Lib.hid h.hin
  have n2 : t.1.length ≤ hi := h.nb.hi
  have HL := Lib.hid (show t.1.length ≤ 100000 by omega)
  obtain ⟨vp, vk, hp⟩ := his
  have HP := Lib.hid hp
  have HG := Lib.hid (tget_leaf (k := k) (t := t))
  obtain ⟨i, hi0⟩ : ∃ i, i = fnd k t.1 := ⟨_, rfl⟩
  have HF := Lib.hid (show ∀ w1, Turn nowhere w w1 → Calls Try.prog 31 #[.pointer (some ⟨p, 0, none⟩), strV k] w1 fun e w' => e = .returned (.tuple #[.int .i64 (i : Int), .bool (hit k t.1)]) ∧ Turn nowhere w1 w' from fun w1 ht => by
    rw [hi0]
    exact find_walk ((h.hin.still ht).at_ hp) hs (by omega))
  have HI := Lib.hid hi0
  clear h hs h8 n2 hp hi0
  go_enter Try.func29, Try.ntmps29
  go_upto_region 1 with fail
  refine wp_region_lit ?_
  refine wpList_run (v := .pointer (some ⟨p, 0, none⟩)) (wanted_none rfl) (exec_move rfl rfl) ?_
  simp only [Act.put, List.setIfInBounds_toArray, List.set_cons_zero, List.set_cons_succ]
  refine wpList_run (v := strV k) (wanted_none rfl) (exec_move rfl rfl) ?_
  simp only [Act.put, List.setIfInBounds_toArray, List.set_cons_zero, List.set_cons_succ]
  refine wpList_op rfl fun K9 HK9 => ?_
  go_wp2_with fail
  refine (HF.out w (Turn.refl _ _)).mono ?_
  rintro e w1 ⟨rfl, ht1⟩
  refine HK9.out _ _ ?_
  clear HK9
  try simp only [Act.put, List.setIfInBounds_toArray, List.set_cons_zero, List.set_cons_succ]
  refine wpList_run (v := .tuple #[.int .i64 (i : Int), .bool (hit k t.1)]) (wanted_none rfl) (exec_move rfl rfl) ?_
  simp only [Act.put, List.setIfInBounds_toArray, List.set_cons_zero, List.set_cons_succ]
  refine wpList_run (v := .int .i64 (i : Int)) (wanted_none rfl) (ix_extract rfl rfl rfl) ?_
  simp only [Act.put, List.setIfInBounds_toArray, List.set_cons_zero, List.set_cons_succ]
  refine wpList_run (v := .bool (hit k t.1)) (wanted_none rfl) (ix_extract rfl rfl rfl) ?_
  simp only [Act.put, List.setIfInBounds_toArray, List.set_cons_zero, List.set_cons_succ]
  refine wpList_run (v := .int .i64 (i : Int)) (wanted_none rfl) (gx_assign rfl rfl) ?_
  simp only [Act.put, List.setIfInBounds_toArray, List.set_cons_zero, List.set_cons_succ]
  refine wpList_run (v := .bool (hit k t.1)) (wanted_none rfl) (gx_assign rfl rfl) ?_
  simp only [Act.put, List.setIfInBounds_toArray, List.set_cons_zero, List.set_cons_succ]
  have HT1 := Lib.hid ht1
  have HI1 := Lib.hid (HIN.out.still ht1)
  clear ht1
  go_upto_region 2 with fail
  refine wp_region_lit ?_
  refine wpList_run (v := .pointer (some ⟨p, 0, none⟩)) (wanted_none rfl) (exec_move rfl rfl) ?_
  simp only [Act.put, List.setIfInBounds_toArray, List.set_cons_zero, List.set_cons_succ]
  refine wpList_op rfl fun K9 HK9 => ?_
  go_wp2_with fail
  refine (lowest_walk (ks := []) (HI1.out.at_ HP.out)).mono ?_
  rintro e w2 ⟨rfl, hw2⟩
  refine HK9.out _ _ ?_
  clear HK9
  try simp only [Act.put, List.setIfInBounds_toArray, List.set_cons_zero, List.set_cons_succ]
  subst hw2
  cases hh : hit k t.1 with
  | false =>
    have HE := Lib.hid (show tget k t = none from by rw [HG.out, hh]; rfl)
    have HD := Lib.hid (show tdrop k m t = t from by
      show ((if (t.1[fnd k t.1]?).map (·.1) = some k then t.1.take (fnd k t.1) ++ t.1.drop (fnd k t.1 + 1) else t.1, ()) : List Pr × Unit) = t
      rw [if_neg (hit_no hh)]
      rfl)
    go_upto_region 3 with fail
    refine wp_region_lit ?_
    refine wpList_run (v := .bool (false)) (wanted_none rfl) (exec_move rfl rfl) ?_
    simp only [Act.put, List.setIfInBounds_toArray, List.set_cons_zero, List.set_cons_succ]
    refine wpList_run (v := .bool true) (wanted_none rfl) (gx_not rfl rfl rfl) ?_
    simp only [Act.put, List.setIfInBounds_toArray, List.set_cons_zero, List.set_cons_succ]
    go_wp2_with fail
    go_ret2
    rw [HE.out, HD.out]
    exact ⟨rfl, (AfterX.pre HIN.out HT1.out (AfterX.refl HI1.out HT.out.tr HT.out.nd)).a⟩
  | true =>
    obtain ⟨q, hq, hqk⟩ := hit_yes hh
    have HQ := Lib.hid (show t.1[i]? = some q from by rw [HI.out]; exact hq)
    have HE := Lib.hid (show tget k t = some q.2 from by rw [HG.out, hh, hq]; rfl)
    have HD := Lib.hid (show tdrop k m t = (t.1.take i ++ t.1.drop (i + 1), ()) from by
      show ((if (t.1[fnd k t.1]?).map (·.1) = some k then t.1.take (fnd k t.1) ++ t.1.drop (fnd k t.1 + 1) else t.1, ()) : List Pr × Unit) = _
      rw [if_pos (by rw [hq, ← hqk]; rfl), HI.out])
    clear hq hqk
    go_upto_region 3 with fail
    refine wp_region_lit ?_
    refine wpList_run (v := .bool (true)) (wanted_none rfl) (exec_move rfl rfl) ?_
    simp only [Act.put, List.setIfInBounds_toArray, List.set_cons_zero, List.set_cons_succ]
    refine wpList_run (v := .bool false) (wanted_none rfl) (gx_not rfl rfl rfl) ?_
    simp only [Act.put, List.setIfInBounds_toArray, List.set_cons_zero, List.set_cons_succ]
    go_upto_region 5 with fail
    refine wp_region_lit ?_
    refine wpList_run (v := .pointer (some ⟨p, 0, none⟩)) (wanted_none rfl) (exec_move rfl rfl) ?_
    simp only [Act.put, List.setIfInBounds_toArray, List.set_cons_zero, List.set_cons_succ]
    refine wpList_run (v := .int .i64 (i : Int)) (wanted_none rfl) (exec_move rfl rfl) ?_
    simp only [Act.put, List.setIfInBounds_toArray, List.set_cons_zero, List.set_cons_succ]
    refine wpList_op rfl fun K9 HK9 => ?_
    go_wp2_with fail
    refine (takePair_walk HI1.out HIS.out HQ.out HL.out).mono ?_
    rintro e w3 ⟨rfl, H3, hto, his3, hs3⟩
    refine HK9.out _ _ ?_
    clear HK9
    try simp only [Act.put, List.setIfInBounds_toArray, List.set_cons_zero, List.set_cons_succ]
    have HX := Lib.hid (AfterX.pre HIN.out HT1.out (after_leaf hto his3 hs3))
    clear hto his3 hs3
    refine wpList_run (v := .int .i64 q.2) (wanted_none rfl) (gx_fieldP rfl rfl) ?_
    simp only [Act.put, List.setIfInBounds_toArray, List.set_cons_zero, List.set_cons_succ]
    refine wpList_run (v := .int .i64 q.2) (wanted_none rfl) (gx_assign rfl rfl) ?_
    simp only [Act.put, List.setIfInBounds_toArray, List.set_cons_zero, List.set_cons_succ]
    refine wpList_run (v := .bool true) (wanted_none rfl) (gx_assign rfl rfl) ?_
    simp only [Act.put, List.setIfInBounds_toArray, List.set_cons_zero, List.set_cons_succ]
    go_wp2_with fail
    go_ret2
    rw [HE.out, HD.out]
    exact ⟨rfl, HX.out.a⟩
set_option maxRecDepth 20000 in
set_option maxHeartbeats 4000000 in
theorem drop_walk {m M : Nat} {k : Key} (hm : m = M / 2) (h2 : 2 ≤ M) (hM : M < 700) : ∀ {d : Nat} {t : Tr d} {w : World} {H : Hp} {p lo hi : Nat} {F : List Nat}, Tree w H p t F m M lo hi → Srt (flat t) → 1 ≤ lo → hi < 700 →
    Calls Try.prog 29 #[.pointer (some ⟨p, 0, none⟩), strV k, .int .i64 (m : Int)] w fun e w' => e = .returned (retV (tget k t)) ∧ After w H p F (tdrop k m t) w' := by
  intro d
  induction d with
  | zero => intro t w H p lo hi F h hs h1 h8; exact drop_leaf h hs h8
  | succ d ih =>
    intro t w H p lo hi F h hs h1 h8
    have HIN := Lib.hid h.hin
    have hlen := h.nb.2.2.1
    have n1 : lo ≤ t.1.length := h.nb.lo
    have n2 : t.1.length ≤ hi := h.nb.hi
    obtain ⟨i, hi0⟩ : ∃ i, i = fnd k t.1 := ⟨_, rfl⟩
    have hle : i ≤ t.1.length := by rw [hi0]; exact fnd_le k t.1
    obtain ⟨c, hc⟩ : ∃ c, t.2[i]? = some c := ⟨_, List.getElem?_eq_getElem (show i < t.2.length by omega)⟩
    have hcf : t.2[fnd k t.1]? = some c := by rw [← hi0]; exact hc
    obtain ⟨ks1, x, ks2, F1, Gx, F2, q1, q2, q3, q4, q5, rfl⟩ := one_kid h.tr hc
    have hlt := fun q hq => TrAt.lt h.hin h.tr q hq
    have nc := nd_kid h.nb hc
    have hst : Srt t.1 := srt_top h.nb hs
    have HTC := Lib.hid (show ∀ w1, Turn nowhere w w1 → Tree w1 H x c Gx m M m M from fun w1 ht => ⟨h.hin.still ht, q4, nd_mid h.nd, nc⟩)
    have HKD := Lib.hid (fun (c' : Tr d) (w1 w2 : World) (H' : Hp) (G' : List Nat) (ht : Turn nowhere w w1) (ha : AfterX w1 H x Gx c' w2 H' G') => after_kid (t := t) (i := i) (h.hin.still ht) h.nd (fun q hq => Nat.lt_of_lt_of_le (hlt q hq) ht.size) q1 q3 q5 (by omega) ha)
    have HMN := Lib.hid (fun (c' : Tr d) (tr : Nd m M (m - 1) M c') (ps' : List Pr) (hps : ps'.length = t.1.length) (w2 : World) (H' : Hp) (F' : List Nat) (w1 : World) (ha : AfterX w1 H p (p :: (F1 ++ (Gx ++ F2))) (nodeT ps' (t.2.set i c')) w2 H' F') => (show Mn (nodeT ps' (t.2.set i c')) w2 H' p m M F' from ⟨ha.to.in_, ha.tr, ha.nd, by show (t.2.set _ _).length = ps'.length + 1; rw [List.length_set, hps]; exact hlen, by show 1 ≤ ps'.length; omega, by show ps'.length < 800; omega, kids_set h.nb tr, by omega⟩))
    have HPX := Lib.hid (show p ∉ Gx from fun e => by
      have a1 := h.nd p
      have a2 := cnt_mem e
      simp only [List.count_append, List.count_cons, beq_self_eq_true, if_true] at a1
      omega)
    have HPL := Lib.hid (hlt p (List.mem_cons_self ..))
    obtain ⟨ks, hks⟩ : ∃ ks, ks = ks1 ++ x :: ks2 := ⟨_, rfl⟩
    rw [← hks] at q1
    have HL := Lib.hid (not_leaf h.tr h.nb q1)
    have hkl : ks.length = t.2.length := by
      obtain ⟨ks', F', g1, g2, _⟩ := h.tr
      obtain ⟨_, e⟩ := q1.inj g1
      rw [e, g2.len]
    have HKX := Lib.hid (show ks[i]? = some x from by rw [hks]; exact ks_at1 q2)
    obtain ⟨vp, vk, hp⟩ := q1
    obtain ⟨b, cc, e, _, _⟩ := (show NodeAt w p vp vk t.1 ks from h.hin.at_ hp).kds.some_ (by rw [List.length_map]; omega)
    obtain ⟨n, hn⟩ : ∃ n, n = ks.length := ⟨_, rfl⟩
    replace e := e.trans (show _ = Value.slice (some ⟨b, 0, none⟩) n cc from by rw [List.length_map, hn])
    subst e
    obtain ⟨b2, c2, e, _, _⟩ := (show NodeAt w p vp (.slice (some ⟨b, 0, none⟩) n cc) t.1 ks from h.hin.at_ hp).prs.some_ (by rw [List.length_map]; omega)
    obtain ⟨n0, hn0⟩ : ∃ n, n = t.1.length := ⟨_, rfl⟩
    replace e := e.trans (show _ = Value.slice (some ⟨b2, 0, none⟩) n0 c2 from by rw [List.length_map, hn0])
    subst e
    have HP := Lib.hid hp
    have HIN2 := Lib.hid (show i < n from by omega)
    have HN0 := Lib.hid hn0
    have HIL := Lib.hid (show ∀ (c' : Tr d) (ps' : List Pr), i < (nodeT ps' (t.2.set i c')).2.length from fun c' ps' => by show i < (t.2.set _ _).length; rw [List.length_set]; omega)
    have HM8 := Lib.hid (show m < 800 from by omega)
    have HIH := Lib.hid (fun (w1 : World) (ht : Turn nowhere w w1) => ih (HTC.out w1 ht) (srt_kid h.nb hs hcf) (by omega) (by omega))
    have HDL := Lib.hid (fun (w1 : World) (ht : Turn nowhere w w1) => dropLast_walk hm h2 hM (HTC.out w1 ht) (by omega) (by omega))
    have HTN := Lib.hid (tdrop_ok (k := k) hm h2 nc (by omega) (srt_kid h.nb hs hcf)).2
    have HTL := Lib.hid (tlast_ok hm h2 nc (by omega)).2
    have HF := Lib.hid (show Calls Try.prog 31 #[.pointer (some ⟨p, 0, none⟩), strV k] w fun e w' => e = .returned (.tuple #[.int .i64 (i : Int), .bool (hit k t.1)]) ∧ Turn nowhere w w' from by
      rw [hi0]
      exact find_walk (h.hin.at_ hp) hst (by omega))
    have HGN := Lib.hid (fun (hh : hit k t.1 = false) => (show tget k t = tget k c ∧ tdrop k m t = mend m i (nodeT t.1 (t.2.set i (tdrop k m c))) from ⟨tget_no (hit_no hh) hcf, by
      show (match t.2[fnd k t.1]? with | none => t | some c => if (t.1[fnd k t.1]?).map (fun q : Pr => q.1) = some k then mend m (fnd k t.1) (nodeT (t.1.set (fnd k t.1) (tlast m c).1) (t.2.set (fnd k t.1) (tlast m c).2)) else mend m (fnd k t.1) (nodeT t.1 (t.2.set (fnd k t.1) (tdrop k m c)))) = _
      rw [hcf, hi0]
      exact if_neg (hit_no hh)⟩))
    have HGY := Lib.hid (fun (hh : hit k t.1 = true) => (show ∃ q, t.1[i]? = some q ∧ tget k t = some q.2 ∧ tdrop k m t = mend m i (nodeT (t.1.set i (tlast m c).1) (t.2.set i (tlast m c).2)) from by
      obtain ⟨q, hq, hqk⟩ := hit_yes hh
      refine ⟨q, by rw [hi0]; exact hq, tget_yes hq hqk hcf, ?_⟩
      show (match t.2[fnd k t.1]? with | none => t | some c => if (t.1[fnd k t.1]?).map (fun q : Pr => q.1) = some k then mend m (fnd k t.1) (nodeT (t.1.set (fnd k t.1) (tlast m c).1) (t.2.set (fnd k t.1) (tlast m c).2)) else mend m (fnd k t.1) (nodeT t.1 (t.2.set (fnd k t.1) (tdrop k m c)))) = _
      rw [hcf, hi0]
      exact if_pos (by rw [hq, ← hqk]; rfl)))
    have HMQ := Lib.hid hm
    clear hm hks hkl hp hn hn0 q2 q3 q4 q5 hlt nc hi0 hc hcf hst hle h hs h1 h8 hlen n1 n2 ih
    go_enter Try.func29, Try.ntmps29
    go_upto_region 1 with fail
    refine wp_region_lit ?_
    refine wpList_run (v := .pointer (some ⟨p, 0, none⟩)) (wanted_none rfl) (exec_move rfl rfl) ?_
    simp only [Act.put, List.setIfInBounds_toArray, List.set_cons_zero, List.set_cons_succ]
    refine wpList_run (v := strV k) (wanted_none rfl) (exec_move rfl rfl) ?_
    simp only [Act.put, List.setIfInBounds_toArray, List.set_cons_zero, List.set_cons_succ]
    refine wpList_op rfl fun K9 HK9 => ?_
    go_wp2_with fail
    refine (HF.out).mono ?_
    rintro e w1 ⟨rfl, ht1⟩
    refine HK9.out _ _ ?_
    clear HK9
    try simp only [Act.put, List.setIfInBounds_toArray, List.set_cons_zero, List.set_cons_succ]
    refine wpList_run (v := .tuple #[.int .i64 (i : Int), .bool (hit k t.1)]) (wanted_none rfl) (exec_move rfl rfl) ?_
    simp only [Act.put, List.setIfInBounds_toArray, List.set_cons_zero, List.set_cons_succ]
    refine wpList_run (v := .int .i64 (i : Int)) (wanted_none rfl) (ix_extract rfl rfl rfl) ?_
    simp only [Act.put, List.setIfInBounds_toArray, List.set_cons_zero, List.set_cons_succ]
    refine wpList_run (v := .bool (hit k t.1)) (wanted_none rfl) (ix_extract rfl rfl rfl) ?_
    simp only [Act.put, List.setIfInBounds_toArray, List.set_cons_zero, List.set_cons_succ]
    refine wpList_run (v := .int .i64 (i : Int)) (wanted_none rfl) (gx_assign rfl rfl) ?_
    simp only [Act.put, List.setIfInBounds_toArray, List.set_cons_zero, List.set_cons_succ]
    refine wpList_run (v := .bool (hit k t.1)) (wanted_none rfl) (gx_assign rfl rfl) ?_
    simp only [Act.put, List.setIfInBounds_toArray, List.set_cons_zero, List.set_cons_succ]
    have HT1 := Lib.hid ht1
    have HI1 := Lib.hid (HIN.out.still ht1)
    clear ht1
    go_upto_region 2 with fail
    refine wp_region_lit ?_
    refine wpList_run (v := .pointer (some ⟨p, 0, none⟩)) (wanted_none rfl) (exec_move rfl rfl) ?_
    simp only [Act.put, List.setIfInBounds_toArray, List.set_cons_zero, List.set_cons_succ]
    have hw := lowest_walk (ks := ks) (HI1.out.at_ HP.out)
    rw [HL.out] at hw
    refine wpList_op rfl fun K9 HK9 => ?_
    go_wp2_with fail
    refine (hw).mono ?_
    rintro e w2 ⟨rfl, hw2⟩
    refine HK9.out _ _ ?_
    clear HK9
    try simp only [Act.put, List.setIfInBounds_toArray, List.set_cons_zero, List.set_cons_succ]
    subst hw2
    clear hw
    cases hh : hit k t.1 with
    | false =>
      obtain ⟨e1, e2⟩ := HGN.out hh
      have HE := Lib.hid e1
      have HD := Lib.hid e2
      clear e1 e2 hh
      go_upto_region 6 with fail
      refine wp_region_lit ?_
      refine wpList_run (v := .bool (false)) (wanted_none rfl) (exec_move rfl rfl) ?_
      simp only [Act.put, List.setIfInBounds_toArray, List.set_cons_zero, List.set_cons_succ]
      refine wpList_run (v := .bool true) (wanted_none rfl) (gx_not rfl rfl rfl) ?_
      simp only [Act.put, List.setIfInBounds_toArray, List.set_cons_zero, List.set_cons_succ]
      go_upto_region 7 with fail
      refine wp_region_lit ?_
      refine wpList_run (v := .pointer (some ⟨p, 0, none⟩)) (wanted_none rfl) (exec_move rfl rfl) ?_
      simp only [Act.put, List.setIfInBounds_toArray, List.set_cons_zero, List.set_cons_succ]
      refine wpList_run (v := .pointer (some ⟨p, 0, none⟩)) (wanted_none rfl) (exec_nil rfl rfl) ?_
      simp only [Act.put, List.setIfInBounds_toArray, List.set_cons_zero, List.set_cons_succ]
      refine wpList_run (v := .pointer (some ⟨p, 1, none⟩)) (wanted_none rfl) (exec_field (off := 0) (d := 1) rfl rfl (by kernel_rfl)) ?_
      simp only [Act.put, List.setIfInBounds_toArray, List.set_cons_zero, List.set_cons_succ]
      refine wpList_run (v := .slice (some ⟨b, 0, none⟩) n cc) (wanted_none rfl) (exec_load1 rfl rfl (by kernel_rfl) ((HI1.out.at_ HP.out).blk.cell 1)) ?_
      simp only [Act.put, List.setIfInBounds_toArray, List.set_cons_zero, List.set_cons_succ]
      refine wpList_run (v := .int .i64 (i : Int)) (wanted_none rfl) (exec_move rfl rfl) ?_
      simp only [Act.put, List.setIfInBounds_toArray, List.set_cons_zero, List.set_cons_succ]
      refine wpList_run (v := .pointer (some ⟨b, 0 + i * 1, none⟩)) (wanted_none rfl) (gx_iaddr (i := i) (sz := 1) rfl rfl rfl Try.underlying60 size_ptr HIN2.out rfl) ?_
      simp only [Act.put, List.setIfInBounds_toArray, List.set_cons_zero, List.set_cons_succ]
      refine wpList_run (v := .pointer (some ⟨x, 0, none⟩)) (wanted_none rfl) (exec_load1 rfl rfl (by kernel_rfl) (kid_cell (HI1.out.at_ HP.out) HKX.out)) ?_
      simp only [Act.put, List.setIfInBounds_toArray, List.set_cons_zero, List.set_cons_succ]
      refine wpList_run (v := strV k) (wanted_none rfl) (exec_move rfl rfl) ?_
      simp only [Act.put, List.setIfInBounds_toArray, List.set_cons_zero, List.set_cons_succ]
      refine wpList_run (v := .int .i64 (m : Int)) (wanted_none rfl) (exec_move rfl rfl) ?_
      simp only [Act.put, List.setIfInBounds_toArray, List.set_cons_zero, List.set_cons_succ]
      refine wpList_op rfl fun K9 HK9 => ?_
      go_wp2_with fail
      refine (HIH.out _ HT1.out).mono ?_
      rintro e w3 ⟨rfl, haf⟩
      refine HK9.out _ _ ?_
      clear HK9
      try simp only [Act.put, List.setIfInBounds_toArray, List.set_cons_zero, List.set_cons_succ]
      obtain ⟨H3, G3, hx3⟩ := haf.x
      have HX3 := Lib.hid (HKD.out _ _ _ _ _ HT1.out hx3)
      have HMW := Lib.hid (mend_walk (HMN.out _ HTN.out _ rfl _ _ _ _ HX3.out) (HIL.out _ []) HM8.out)
      clear haf hx3
      refine wpList_run (v := .tuple #[.int .i64 ((tget k c).getD 0), .bool (tget k c).isSome]) (wanted_none rfl) (exec_move rfl rfl) ?_
      simp only [Act.put, List.setIfInBounds_toArray, List.set_cons_zero, List.set_cons_succ]
      refine wpList_run (v := .int .i64 ((tget k c).getD 0)) (wanted_none rfl) (ix_extract rfl rfl rfl) ?_
      simp only [Act.put, List.setIfInBounds_toArray, List.set_cons_zero, List.set_cons_succ]
      refine wpList_run (v := .bool (tget k c).isSome) (wanted_none rfl) (ix_extract rfl rfl rfl) ?_
      simp only [Act.put, List.setIfInBounds_toArray, List.set_cons_zero, List.set_cons_succ]
      refine wpList_run (v := .int .i64 ((tget k c).getD 0)) (wanted_none rfl) (gx_assign rfl rfl) ?_
      simp only [Act.put, List.setIfInBounds_toArray, List.set_cons_zero, List.set_cons_succ]
      refine wpList_run (v := .bool (tget k c).isSome) (wanted_none rfl) (gx_assign rfl rfl) ?_
      simp only [Act.put, List.setIfInBounds_toArray, List.set_cons_zero, List.set_cons_succ]
      go_upto_region 8 with fail
      refine wp_region_lit ?_
      refine wpList_run (v := .pointer (some ⟨p, 0, none⟩)) (wanted_none rfl) (exec_move rfl rfl) ?_
      simp only [Act.put, List.setIfInBounds_toArray, List.set_cons_zero, List.set_cons_succ]
      refine wpList_run (v := .int .i64 (i : Int)) (wanted_none rfl) (exec_move rfl rfl) ?_
      simp only [Act.put, List.setIfInBounds_toArray, List.set_cons_zero, List.set_cons_succ]
      refine wpList_run (v := .int .i64 (m : Int)) (wanted_none rfl) (exec_move rfl rfl) ?_
      simp only [Act.put, List.setIfInBounds_toArray, List.set_cons_zero, List.set_cons_succ]
      refine wpList_op rfl fun K9 HK9 => ?_
      go_wp2_with fail
      refine (HMW.out).mono ?_
      rintro e w5 ⟨rfl, haf⟩
      refine HK9.out _ _ ?_
      clear HK9
      try simp only [Act.put, List.setIfInBounds_toArray, List.set_cons_zero, List.set_cons_succ]
      obtain ⟨H5, F5, hx5⟩ := haf.x
      have HX5 := Lib.hid (HX3.out.trans hx5)
      clear haf hx5
      go_upto_region 9 with fail
      refine wp_region_lit ?_
      refine wpList_run (v := .int .i64 ((tget k c).getD 0)) (wanted_none rfl) (exec_move rfl rfl) ?_
      simp only [Act.put, List.setIfInBounds_toArray, List.set_cons_zero, List.set_cons_succ]
      refine wpList_run (v := .bool (tget k c).isSome) (wanted_none rfl) (exec_move rfl rfl) ?_
      simp only [Act.put, List.setIfInBounds_toArray, List.set_cons_zero, List.set_cons_succ]
      refine wpList_run (v := .int .i64 ((tget k c).getD 0)) (wanted_none rfl) (gx_assign rfl rfl) ?_
      simp only [Act.put, List.setIfInBounds_toArray, List.set_cons_zero, List.set_cons_succ]
      refine wpList_run (v := .bool (tget k c).isSome) (wanted_none rfl) (gx_assign rfl rfl) ?_
      simp only [Act.put, List.setIfInBounds_toArray, List.set_cons_zero, List.set_cons_succ]
      go_wp2_with fail
      go_ret2
      rw [HE.out, HD.out]
      exact ⟨rfl, (AfterX.pre HIN.out HT1.out HX5.out).a⟩
    | true =>
      obtain ⟨q, hq, e1, e2⟩ := HGY.out hh
      have HQ := Lib.hid hq
      have HE := Lib.hid e1
      have HD := Lib.hid e2
      have HIP := Lib.hid (show i < n0 from by rw [HN0.out]; exact (List.getElem?_eq_some_iff.1 hq).1)
      clear hq e1 e2 hh
      go_upto_region 6 with fail
      refine wp_region_lit ?_
      refine wpList_run (v := .bool (true)) (wanted_none rfl) (exec_move rfl rfl) ?_
      simp only [Act.put, List.setIfInBounds_toArray, List.set_cons_zero, List.set_cons_succ]
      refine wpList_run (v := .bool false) (wanted_none rfl) (gx_not rfl rfl rfl) ?_
      simp only [Act.put, List.setIfInBounds_toArray, List.set_cons_zero, List.set_cons_succ]
      go_upto_region 10 with fail
      refine wp_region_lit ?_
      refine wpList_run (v := .pointer (some ⟨p, 0, none⟩)) (wanted_none rfl) (exec_move rfl rfl) ?_
      simp only [Act.put, List.setIfInBounds_toArray, List.set_cons_zero, List.set_cons_succ]
      refine wpList_run (v := .pointer (some ⟨p, 0, none⟩)) (wanted_none rfl) (exec_nil rfl rfl) ?_
      simp only [Act.put, List.setIfInBounds_toArray, List.set_cons_zero, List.set_cons_succ]
      refine wpList_run (v := .pointer (some ⟨p, 0, none⟩)) (wanted_none rfl) (exec_field (off := 0) (d := 0) rfl rfl (by kernel_rfl)) ?_
      simp only [Act.put, List.setIfInBounds_toArray, List.set_cons_zero, List.set_cons_succ]
      refine wpList_run (v := .slice (some ⟨b2, 0, none⟩) n0 c2) (wanted_none rfl) (exec_load1 rfl rfl (by kernel_rfl) ((HI1.out.at_ HP.out).blk.cell 0)) ?_
      simp only [Act.put, List.setIfInBounds_toArray, List.set_cons_zero, List.set_cons_succ]
      refine wpList_run (v := .int .i64 (i : Int)) (wanted_none rfl) (exec_move rfl rfl) ?_
      simp only [Act.put, List.setIfInBounds_toArray, List.set_cons_zero, List.set_cons_succ]
      refine wpList_run (v := .pointer (some ⟨b2, 0 + i * 2, none⟩)) (wanted_none rfl) (gx_iaddr (i := i) (sz := 2) rfl rfl rfl Try.underlying59 size_pair HIP.out rfl) ?_
      simp only [Act.put, List.setIfInBounds_toArray, List.set_cons_zero, List.set_cons_succ]
      refine wpList_run (v := .pointer (some ⟨b2, 0 + i * 2 + 1, none⟩)) (wanted_none rfl) (exec_field (off := 0 + i * 2) (d := 1) rfl rfl (by kernel_rfl)) ?_
      simp only [Act.put, List.setIfInBounds_toArray, List.set_cons_zero, List.set_cons_succ]
      refine wpList_run (v := .int .i64 q.2) (wanted_none rfl) (exec_load1 rfl rfl (by kernel_rfl) ((HI1.out.at_ HP.out).prs.el0 (r := encP q) (by rw [List.getElem?_map, HQ.out]; rfl) 1 _ rfl)) ?_
      simp only [Act.put, List.setIfInBounds_toArray, List.set_cons_zero, List.set_cons_succ]
      refine wpList_run (v := .int .i64 q.2) (wanted_none rfl) (gx_assign rfl rfl) ?_
      simp only [Act.put, List.setIfInBounds_toArray, List.set_cons_zero, List.set_cons_succ]
      go_upto_region 11 with fail
      refine wp_region_till (fun W => Blk W p 62 #[.slice (some ⟨b2, 0, none⟩) n0 c2, .slice (some ⟨b, 0, none⟩) n cc] ∧ W.cell? ⟨b, 0 + i * 1, none⟩ = some (.pointer (some ⟨x, 0, none⟩))) 14 (by kernel_rfl) ?_
      have HD1 := Lib.hid ((Turn.refl nowhere w2).drew)
      have HI2 := Lib.hid (HI1.out.still HD1.out)
      have hS0 : Blk w2.drew p 62 #[.slice (some ⟨b2, 0, none⟩) n0 c2, .slice (some ⟨b, 0, none⟩) n cc] ∧ w2.drew.cell? ⟨b, 0 + i * 1, none⟩ = some (.pointer (some ⟨x, 0, none⟩)) := ⟨(HI2.out.at_ HP.out).blk, kid_cell (HI2.out.at_ HP.out) HKX.out⟩
      refine till_take (i := 0) (v := .pointer (some ⟨p, 0, none⟩)) rfl (by kernel_rfl) (by kernel_rfl) (fun _ _ _ h => h) (.inl ⟨by rfl, fun W hW => exec_move rfl rfl⟩) hS0 ?_
      simp only [Act.put, List.setIfInBounds_toArray, List.set_cons_zero, List.set_cons_succ]
      refine till_take (i := 1) (v := .pointer (some ⟨p, 0, none⟩)) rfl (by kernel_rfl) (by kernel_rfl) (fun _ _ _ h => h) (.inl ⟨by rfl, fun W hW => exec_nil rfl rfl⟩) hS0 ?_
      simp only [Act.put, List.setIfInBounds_toArray, List.set_cons_zero, List.set_cons_succ]
      refine till_take (i := 2) (v := .pointer (some ⟨p, 0, none⟩)) rfl (by kernel_rfl) (by kernel_rfl) (fun _ _ _ h => h) (.inl ⟨by rfl, fun W hW => exec_field (off := 0) (d := 0) rfl rfl (by kernel_rfl)⟩) hS0 ?_
      simp only [Act.put, List.setIfInBounds_toArray, List.set_cons_zero, List.set_cons_succ]
      refine till_take (i := 3) (v := .slice (some ⟨b2, 0, none⟩) n0 c2) rfl (by kernel_rfl) (by kernel_rfl) (fun _ _ _ h => h) (.inl ⟨by rfl, fun W hW => exec_load1 rfl rfl (by kernel_rfl) (hW.1.cell 0)⟩) hS0 ?_
      simp only [Act.put, List.setIfInBounds_toArray, List.set_cons_zero, List.set_cons_succ]
      refine till_take (i := 4) (v := .int .i64 (i : Int)) rfl (by kernel_rfl) (by kernel_rfl) (fun _ _ _ h => h) (.inl ⟨by rfl, fun W hW => exec_move rfl rfl⟩) hS0 ?_
      simp only [Act.put, List.setIfInBounds_toArray, List.set_cons_zero, List.set_cons_succ]
      refine till_take (i := 5) (v := .pointer (some ⟨p, 0, none⟩)) rfl (by kernel_rfl) (by kernel_rfl) (fun _ _ _ h => h) (.inl ⟨by rfl, fun W hW => exec_move rfl rfl⟩) hS0 ?_
      simp only [Act.put, List.setIfInBounds_toArray, List.set_cons_zero, List.set_cons_succ]
      refine till_take (i := 6) (v := .pointer (some ⟨p, 0, none⟩)) rfl (by kernel_rfl) (by kernel_rfl) (fun _ _ _ h => h) (.inl ⟨by rfl, fun W hW => exec_nil rfl rfl⟩) hS0 ?_
      simp only [Act.put, List.setIfInBounds_toArray, List.set_cons_zero, List.set_cons_succ]
      refine till_take (i := 7) (v := .pointer (some ⟨p, 1, none⟩)) rfl (by kernel_rfl) (by kernel_rfl) (fun _ _ _ h => h) (.inl ⟨by rfl, fun W hW => exec_field (off := 0) (d := 1) rfl rfl (by kernel_rfl)⟩) hS0 ?_
      simp only [Act.put, List.setIfInBounds_toArray, List.set_cons_zero, List.set_cons_succ]
      refine till_take (i := 8) (v := .slice (some ⟨b, 0, none⟩) n cc) rfl (by kernel_rfl) (by kernel_rfl) (fun _ _ _ h => h) (.inl ⟨by rfl, fun W hW => exec_load1 rfl rfl (by kernel_rfl) (hW.1.cell 1)⟩) hS0 ?_
      simp only [Act.put, List.setIfInBounds_toArray, List.set_cons_zero, List.set_cons_succ]
      refine till_take (i := 9) (v := .int .i64 (i : Int)) rfl (by kernel_rfl) (by kernel_rfl) (fun _ _ _ h => h) (.inl ⟨by rfl, fun W hW => exec_move rfl rfl⟩) hS0 ?_
      simp only [Act.put, List.setIfInBounds_toArray, List.set_cons_zero, List.set_cons_succ]
      refine till_take (i := 10) (v := .pointer (some ⟨b, 0 + i * 1, none⟩)) rfl (by kernel_rfl) (by kernel_rfl) (fun _ _ _ h => h) (.inl ⟨by rfl, fun W hW => gx_iaddr (i := i) (sz := 1) rfl rfl rfl Try.underlying60 size_ptr HIN2.out rfl⟩) hS0 ?_
      simp only [Act.put, List.setIfInBounds_toArray, List.set_cons_zero, List.set_cons_succ]
      refine till_take (i := 11) (v := .pointer (some ⟨x, 0, none⟩)) rfl (by kernel_rfl) (by kernel_rfl) (fun _ _ _ h => h) (.inl ⟨by rfl, fun W hW => exec_load1 rfl rfl (by kernel_rfl) hW.2⟩) hS0 ?_
      simp only [Act.put, List.setIfInBounds_toArray, List.set_cons_zero, List.set_cons_succ]
      refine till_take (i := 12) (v := .int .i64 (m : Int)) rfl (by kernel_rfl) (by kernel_rfl) (fun _ _ _ h => h) (.inl ⟨by rfl, fun W hW => exec_move rfl rfl⟩) hS0 ?_
      simp only [Act.put, List.setIfInBounds_toArray, List.set_cons_zero, List.set_cons_succ]
      have HT12 := Lib.hid (HT1.out.trans HD1.out fun _ _ e => e)
      refine till_step (i := 13) (by kernel_rfl) rfl rfl ?_
      intro K1 HK1
      go_wp2_with fail
      refine (HDL.out _ HT12.out).mono ?_
      rintro e w3 ⟨rfl, haf⟩
      obtain ⟨H3, G3, hx3⟩ := haf.x
      have hp3 := (hx3.off p HPX.out (Nat.lt_of_lt_of_le HPL.out HT12.out.size)).trans HP.out
      have hS3 : Blk w3 p 62 #[.slice (some ⟨b2, 0, none⟩) n0 c2, .slice (some ⟨b, 0, none⟩) n cc] ∧ w3.cell? ⟨b, 0 + i * 1, none⟩ = some (.pointer (some ⟨x, 0, none⟩)) := ⟨(hx3.to.in_.at_ hp3).blk, kid_cell (hx3.to.in_.at_ hp3) HKX.out⟩
      refine HK1.out _ _ ⟨fun _ => hS3, ?_⟩
      clear HK1
      try simp only [Act.put, List.setIfInBounds_toArray, List.set_cons_zero, List.set_cons_succ]
      refine till_tail 14 rfl (by kernel_rfl) ?_
      refine wpList_run (v := .pointer (some ⟨b2, 0 + i * 2, none⟩)) (wanted_none rfl) (gx_iaddr (i := i) (sz := 2) rfl rfl rfl Try.underlying59 size_pair HIP.out rfl) ?_
      simp only [Act.put, List.setIfInBounds_toArray, List.set_cons_zero, List.set_cons_succ]
      have HP3 := Lib.hid hp3
      have HX3 := Lib.hid (HKD.out _ _ _ _ _ HT12.out hx3)
      have HI3 := Lib.hid hx3.to.in_
      clear hp3 hx3 haf hS3 hS0
      obtain ⟨cur, hcur, hcs, _, _, hnc, _, _⟩ := orw_block (HI3.out.at_ HP3.out).prs
      refine wpList_store_mid rfl 65 _ _ rfl (g := b2) (off := 0 + i * 2) (t := 65) (encP (tlast m c).1).toArray hcur rfl rfl (by rw [hcs]; show 0 + i * 2 + 2 ≤ c2 * 2; have := HIP.out; omega) (by rw [size_pair]; rfl) (fun v hv => encP_one (tlast m c).1 v (by simpa using hv)) ?_
      intro w6 C6 hb6 hs6 hc6 ht6
      have hrow6 := orw_mid (HI3.out.at_ HP3.out).prs hcur hb6 hs6 HIP.out hc6
      have ht6' : Turn (fun bb => (.slice (some ⟨b2, 0, none⟩) n0 c2 : Value).ownBlock = some bb) w3 w6 := ht6.mono fun k _ e => by
        have e : k = b2 := e
        rw [e]; rfl
      have hset := HI3.out.setP (ps' := t.1.set i (tlast m c).1) HP3.out ht6' (fun b hb => .inl hb) (Turn.refl _ _) (HI3.out.blkP HP3.out HP3.out ht6') hrow6
      have HX6 := Lib.hid (HX3.out.trans (after_pairs HX3.out.tr HX3.out.nd ⟨_, _, HP3.out⟩ hset (Is.up_ _ _ _) (same_up _ _ _)))
      clear hcur hcs hnc hb6 hs6 hc6 ht6 hrow6 ht6' hset
      refine wpList_nil ?_
      refine NoPanic.normal ?_
      try simp only [Act.put, List.setIfInBounds_toArray, List.set_cons_zero, List.set_cons_succ]
      have HMW := Lib.hid (mend_walk (HMN.out _ HTL.out (t.1.set i (tlast m c).1) (List.length_set ..) _ _ _ _ HX6.out) (HIL.out _ []) HM8.out)
      go_upto_region 12 with fail
      refine wp_region_lit ?_
      refine wpList_run (v := .pointer (some ⟨p, 0, none⟩)) (wanted_none rfl) (exec_move rfl rfl) ?_
      simp only [Act.put, List.setIfInBounds_toArray, List.set_cons_zero, List.set_cons_succ]
      refine wpList_run (v := .int .i64 (i : Int)) (wanted_none rfl) (exec_move rfl rfl) ?_
      simp only [Act.put, List.setIfInBounds_toArray, List.set_cons_zero, List.set_cons_succ]
      refine wpList_run (v := .int .i64 (m : Int)) (wanted_none rfl) (exec_move rfl rfl) ?_
      simp only [Act.put, List.setIfInBounds_toArray, List.set_cons_zero, List.set_cons_succ]
      refine wpList_op rfl fun K9 HK9 => ?_
      go_wp2_with fail
      refine (HMW.out).mono ?_
      rintro e w7 ⟨rfl, haf⟩
      refine HK9.out _ _ ?_
      clear HK9
      try simp only [Act.put, List.setIfInBounds_toArray, List.set_cons_zero, List.set_cons_succ]
      obtain ⟨H7, F7, hx7⟩ := haf.x
      have HX7 := Lib.hid (HX6.out.trans hx7)
      clear haf hx7
      go_upto_region 13 with fail
      refine wp_region_lit ?_
      refine wpList_run (v := .int .i64 q.2) (wanted_none rfl) (exec_move rfl rfl) ?_
      simp only [Act.put, List.setIfInBounds_toArray, List.set_cons_zero, List.set_cons_succ]
      refine wpList_run (v := .int .i64 q.2) (wanted_none rfl) (gx_assign rfl rfl) ?_
      simp only [Act.put, List.setIfInBounds_toArray, List.set_cons_zero, List.set_cons_succ]
      refine wpList_run (v := .bool true) (wanted_none rfl) (gx_assign rfl rfl) ?_
      simp only [Act.put, List.setIfInBounds_toArray, List.set_cons_zero, List.set_cons_succ]
      go_wp2_with fail
      go_ret2
      rw [HE.out, HD.out]
      exact ⟨rfl, (AfterX.pre HIN.out HT12.out HX7.out).a⟩
end Go.Proofs.Ytmlkdkbpbleilaa

namespace Go.Proofs.Ytmlkdkbpbleilaa
open Go.RowKit
open Ix
set_option linter.unusedVariables false
set_option linter.unusedSimpArgs false
theorem info_u8 : (Try.prog.info? 5).map (fun i => (i.zero, i.size, i.bytes)) = some (some (.int .u8 0), 1, 1) := by kernel_rfl
set_option maxHeartbeats 4000000 in
set_option maxRecDepth 100000 in
theorem cloneS_walk (s : ByteArray) (w : World) (hlim : s.size ≤ 281474976710656) :
    Calls Try.prog 52 #[.string s] w fun e w' => e = .returned (.string s) ∧ Below w.heap.size w w' := by
  by_cases h0 : s.size = 0
  · have hs : s = ⟨#[]⟩ := by
      apply ByteArray.ext
      exact Array.eq_empty_of_size_eq_zero h0
    subst hs
    go_enter Try.func52, Try.ntmps52
    go_wp2
    go_ret
    exact ⟨rfl, Below.refl _ _⟩
  · obtain ⟨i0, hi, hz0, hz1, hz2⟩ := info_parts info_u8
    have hinfo : (Try.prog.info? 5).map (·.size) = some 1 := by rw [hi]; simp [hz1]
    have hco : Try.prog.cellsOf 5 = 1 := by simp [Program.cellsOf, hi, hz1]
    obtain ⟨M, hM⟩ : ∃ M, M = madeCells (Value.int .u8 0).cells (((s.size : Nat) : Int).toNat * i0.size) := ⟨_, rfl⟩
    have hMs : M.size = s.size := by rw [hM, size_madeCells, hz1]; simp
    have hmk : ∀ W : World, (Instr.makeSlice 69 (.int .i64 (s.size : Int)) (.int .i64 (s.size : Int))).run Try.prog W = .ok (.slice (some ⟨W.heap.size, 0, none⟩) s.size s.size) (W.alloc (.cells M 5)) := fun W => by
      have h := run_make (P := Try.prog) W 69 5 i0 (.int .u8 0) Try.underlying69 hi hz0 .i64 .i64 (s.size : Int) (s.size : Int) (by omega) (by omega) (by rw [hz2]; omega) (by omega)
      rw [← hM] at h
      simpa using h
    clear hM
    have hcp := Lib.run_copy_row_string (P := Try.prog) (w.alloc (.cells M 5)) 69 9 3 5 w.heap.size 0 s.size s.size s M 5 Try.underlying69 hinfo (heap_alloc_new w _) (Nat.le_refl _) (by omega)
    obtain ⟨Y, hY⟩ : ∃ Y, Y = (M.toList.take 0 ++ Lib.byteCells s.data.toList ++ M.toList.drop (0 + s.size)).toArray := ⟨_, rfl⟩
    rw [← hY] at hcp
    have hYl : Y.toList = Lib.byteCells s.data.toList := by
      rw [hY, List.toList_toArray, List.take_zero, List.nil_append, List.drop_of_length_le (by rw [Array.length_toList]; omega), List.append_nil]
    have hYs : Y.size = s.size := by rw [← Array.length_toList, hYl, Lib.byteCells_length, ← Lib.size_eq]
    have hgY : ((w.alloc (.cells M 5)).setRow w.heap.size Y).heap[w.heap.size]? = some (.cells Y 5 (0, 0)) := setRow_heap _ _ M _ 5 (0, 0) (heap_alloc_new w _)
    have hne : s.data.toList ≠ [] := fun e => h0 (by rw [Lib.size_eq, e]; rfl)
    have hUS := Lib.run_unsafeString_row (P := Try.prog) ((w.alloc (.cells M 5)).setRow w.heap.size Y) 92 3 9 5 Try.underlying92 hco w.heap.size Y.size (by unfold World.shape?; rw [hgY]) s.data.toList hne (by rw [← Lib.size_eq]; omega) (by rw [← Lib.size_eq]; omega)
      (fun j x hx => Lib.cells_of_row hgY Y.size j _ (by rw [List.take_of_length_le (by rw [Array.length_toList]; exact Nat.le_refl _), hYl]; simp [Lib.byteCells, hx]))
    rw [← Lib.size_eq] at hUS
    clear hY
    go_enter Try.func52, Try.ntmps52
    go_wp2
    go_ret
    have hb1 : Below w.heap.size w (w.alloc (.cells M 5)) := (Below.refl _ w).alloc (Nat.le_refl _) _
    have hb2 : Below w.heap.size (w.alloc (.cells M 5)) ((w.alloc (.cells M 5)).setRow w.heap.size Y) := ⟨rfl, rfl, rfl, by simp, fun k hk => setRow_other _ _ _ _ (by omega)⟩
    exact ⟨rfl, Lib.below_freeze (hb1.trans hb2) (p := ⟨w.heap.size, 0, none⟩) (Nat.le_refl _) _⟩
theorem clone_walk (l : Key) (w : World) (hl : l.length ≤ 281474976710656) : Calls Try.prog 38 #[strV l] w fun e w' => e = .returned (strV l) ∧ Turn nowhere w w' := by
  have hc := cloneS_walk ⟨l.toArray⟩ w (by rw [str_size]; exact hl)
  have HC := Lib.hid hc
  clear hc hl
  go_enter Try.func38, Try.ntmps38
  go_upto_region 1 with fail
  refine wp_region_lit ?_
  refine wpList_run (v := strV l) rfl (exec_move rfl rfl) ?_
  simp only [Act.put, List.setIfInBounds_toArray, List.set_cons_zero, List.set_cons_succ]
  refine wpList_op rfl fun K9 HK9 => ?_
  go_wp2_with fail
  refine HC.out.mono ?_
  rintro e w1 ⟨rfl, hb⟩
  refine HK9.out _ _ ?_
  clear HK9
  have HB := Lib.hid (Turn.of_below hb (Nat.le_refl _))
  clear hb
  go_wp2_with fail
  go_ret
  exact ⟨rfl, HB.out⟩
end Go.Proofs.Ytmlkdkbpbleilaa

namespace Go.Proofs.Ytmlkdkbpbleilaa
open Go.RowKit
open Ix
set_option linter.unusedVariables false
set_option linter.unusedSimpArgs false
theorem split_tree {w : World} {H H' : Hp} {n x r : Nat} {d : Nat} {c : Tr d} {G xk : List Nat} (hin : In w H) (hx : TrAt H x c G) (ix : Is H x c.ps xk) (hc : Nd1 (n :: G)) (hr : w.heap.size ≤ r)
    (jx : Is H' x (c.ps.take (c.ps.length / 2)) (xk.take (c.ps.length / 2 + 1))) (jr : Is H' r (c.ps.drop (c.ps.length / 2 + 1)) (xk.drop (c.ps.length / 2 + 1))) (hs : Same H H' (fun q => q = n ∨ q = x ∨ q = r)) :
    ∃ Gl Gr, TrAt H' x (splitL c) Gl ∧ TrAt H' r (splitR c) Gr ∧ ∀ a, (Gl ++ Gr).count a = G.count a + ([r] : List Nat).count a := by
  have hlt := fun q hq => TrAt.lt hin hx q hq
  cases d with
  | zero =>
    obtain ⟨hx1, rfl⟩ := hx
    obtain ⟨_, e1⟩ := ix.inj hx1
    subst e1
    refine ⟨[x], [r], ⟨?_, rfl⟩, ⟨?_, rfl⟩, fun a => List.count_append ..⟩
    · have h := jx; rw [List.take_nil] at h; exact h
    · have h := jr; rw [List.drop_nil] at h; exact h
  | succ d =>
    obtain ⟨xk', Fx, hx1, hx2, rfl⟩ := hx
    obtain ⟨_, e1⟩ := ix.inj hx1
    subst e1
    have hh : c.2 = c.2.take (c.1.length / 2 + 1) ++ c.2.drop (c.1.length / 2 + 1) := (List.take_append_drop _ _).symm
    rw [hh] at hx2
    obtain ⟨ks1, ks2, F1, F2, rfl, rfl, h3, h4⟩ := hx2.cut
    have off : ∀ {F : List Nat}, (∀ a, (n :: (x :: (F1 ++ F2))).count a ≥ F.count a + ([n, x] : List Nat).count a) → ∀ q ∈ F, ¬ (q = n ∨ q = x ∨ q = r) := by
      intro F h q hq e
      have a1 := h q
      have a2 := hc q
      have a3 := cnt_mem hq
      rcases e with e | e | e
      · have a4 : 1 ≤ ([n, x] : List Nat).count q := cnt_mem (by simp [e])
        omega
      · have a4 : 1 ≤ ([n, x] : List Nat).count q := cnt_mem (by simp [e])
        omega
      · have a5 : q ∈ x :: (F1 ++ F2) := List.count_pos_iff.1 (by
          simp only [List.count_append, List.count_cons, List.count_nil] at a1 ⊢
          omega)
        have := hlt q a5
        omega
    have hl : ks1.length = c.2.length - (c.2.length - (c.1.length / 2 + 1)) := by
      rw [h3.len, List.length_take]; omega
    have e2 : (ks1 ++ ks2).take (c.1.length / 2 + 1) = ks1 ∧ (ks1 ++ ks2).drop (c.1.length / 2 + 1) = ks2 := by
      have l1 := h3.len
      have l2 := h4.len
      rw [List.length_take] at l1
      rw [List.length_drop] at l2
      by_cases hle : c.1.length / 2 + 1 ≤ c.2.length
      · have : ks1.length = c.1.length / 2 + 1 := by omega
        exact ⟨List.take_left' this, List.drop_left' this⟩
      · have e3 : ks2 = [] := List.eq_nil_of_length_eq_zero (by omega)
        subst e3
        rw [List.append_nil]
        exact ⟨List.take_of_length_le (by omega), List.drop_of_length_le (by omega)⟩
    have jx : Is H' x (c.1.take (c.1.length / 2)) ((ks1 ++ ks2).take (c.1.length / 2 + 1)) := jx
    have jr : Is H' r (c.1.drop (c.1.length / 2 + 1)) ((ks1 ++ ks2).drop (c.1.length / 2 + 1)) := jr
    rw [e2.1] at jx
    rw [e2.2] at jr
    refine ⟨x :: F1, r :: F2, ⟨ks1, F1, jx, h3.same hs (off fun a => ?_), rfl⟩, ⟨ks2, F2, jr, h4.same hs (off fun a => ?_), rfl⟩, fun a => ?_⟩
    · simp only [List.count_append, List.count_cons, List.count_nil]; omega
    · simp only [List.count_append, List.count_cons, List.count_nil]; omega
    · simp only [List.count_append, List.count_cons, List.count_nil]; omega
/-- a kid in two: the parent put together -/
theorem after_split {w w' : World} {H H' : Hp} {n r i : Nat} {d : Nat} {t : Tr (d + 1)} {F : List Nat} {c : Tr d} {ps' : List Pr} {ks xk : List Nat} {x : Nat} (hin : In w H) (ht : TrAt H n t F) (hnd : Nd1 F) (hc : t.2[i]? = some c) (hn : Is H n t.1 ks) (hx : ks[i]? = some x) (ix : Is H x c.ps xk) (hr : w.heap.size ≤ r) (hto : To w H w' H')
    (jn : Is H' n ps' (ks.take (i + 1) ++ r :: ks.drop (i + 1))) (jx : Is H' x (c.ps.take (c.ps.length / 2)) (xk.take (c.ps.length / 2 + 1))) (jr : Is H' r (c.ps.drop (c.ps.length / 2 + 1)) (xk.drop (c.ps.length / 2 + 1))) (hs : Same H H' (fun q => q = n ∨ q = x ∨ q = r)) :
    After w H n F (nodeT ps' (t.2.take i ++ splitL c :: splitR c :: t.2.drop (i + 1))) w' := by
  have hlt := fun q hq => TrAt.lt hin ht q hq
  obtain ⟨ks1, y, ks2, F1, G, F2, q1, q2, q3, q4, q5, rfl⟩ := one_kid ht hc
  obtain ⟨_, e⟩ := hn.inj q1
  subst e
  obtain rfl : y = x := by
    have := ks_at1 (x := y) (ks2 := ks2) q2
    rw [this] at hx
    exact Option.some.inj hx
  have hnG : Nd1 (n :: G) := fun a => by
    have := hnd a
    simp only [List.count_append, List.count_cons] at this ⊢
    omega
  obtain ⟨Gl, Gr, t1, t2, t3⟩ := split_tree hin q4 ix hnG hr jx jr hs
  have e2 : (ks1 ++ y :: ks2).take (i + 1) ++ r :: (ks1 ++ y :: ks2).drop (i + 1) = ks1 ++ y :: r :: ks2 := by
    subst q2
    rw [List.take_length_add_append, List.drop_length_add_append]
    simp
  rw [e2] at jn
  have rG : ∀ q, q = r → ∀ {F : List Nat}, (∀ q ∈ F, q < w.heap.size) → q ∉ F := fun q e F h hq => by
    have := h q hq
    omega
  have off : ∀ {F : List Nat}, (∀ a, (n :: (F1 ++ (G ++ F2))).count a ≥ F.count a + (n :: G).count a) → (∀ q ∈ F, q < w.heap.size) → ∀ q ∈ F, ¬ (q = n ∨ q = y ∨ q = r) := by
    intro F h hl q hq e
    have a1 := h q
    have a2 := hnd q
    have a3 := cnt_mem hq
    rcases e with e | e | e
    · have a4 : 1 ≤ (n :: G).count q := cnt_mem (by simp [e])
      omega
    · have a4 : 1 ≤ (n :: G).count q := cnt_mem (by rw [e]; exact List.mem_cons_of_mem _ q4.mem)
      omega
    · exact rG q e hl hq
  have t3' : ∀ a, Gl.count a + Gr.count a = G.count a + ([r] : List Nat).count a := fun a => by
    have := t3 a
    rwa [List.count_append] at this
  refine ⟨H', n :: (F1 ++ (Gl ++ (Gr ++ F2))), hto, ⟨_, F1 ++ (Gl ++ (Gr ++ F2)), jn, (q3.same hs (off (fun a => ?_) fun q hq => hlt q (by simp [hq]))).app ⟨Gl, Gr ++ F2, rfl, t1, ⟨Gr, F2, rfl, t2, q5.same hs (off (fun a => ?_) fun q hq => hlt q (by simp [hq]))⟩⟩, rfl⟩, fun a => ?_, fun q hq => ?_, fun q hq hl => hs q ?_⟩
  · simp only [List.count_append, List.count_cons]; omega
  · simp only [List.count_append, List.count_cons]; omega
  · have a1 := hnd a
    have a2 := t3' a
    have a3 : 1 ≤ ([r] : List Nat).count a → (n :: (F1 ++ (G ++ F2))).count a = 0 := fun h => by
      have e : a = r := by simpa using List.count_pos_iff.1 h
      rcases Nat.eq_zero_or_pos ((n :: (F1 ++ (G ++ F2))).count a) with h0 | h0
      · exact h0
      · exact absurd (List.count_pos_iff.1 h0) (rG a e hlt)
    have a4 : ([r] : List Nat).count a ≤ 1 := by simp only [List.count_cons, List.count_nil]; split <;> omega
    simp only [List.count_append, List.count_cons] at a1 a3 ⊢
    simp only [List.count_nil, List.count_cons] at a2 a3 a4
    omega
  · have h1 := cnt_mem hq
    have a2 := t3' q
    by_cases e : q = r
    · exact .inr (by omega)
    · refine .inl (List.count_pos_iff.1 ?_)
      have a4 : ([r] : List Nat).count q = 0 := List.count_eq_zero.2 (by simp [e])
      simp only [List.count_append, List.count_cons] at h1 ⊢
      rw [a4] at a2
      omega
  · rintro (e | e | e)
    · exact hq (by rw [e]; exact List.mem_cons_self ..)
    · exact hq (by rw [e]; have := q4.mem; simp [this])
    · omega
/-- a pair's number set, in its row -/
theorem orw_num {w w' : World} {b n c i : Nat} {ps : List Pr} {q : Pr} {v : Int} (h : Orw w 0 65 2 (.slice (some ⟨b, 0, none⟩) n c) (ps.map encP)) {cur : Array Value} (hb : Blk w b 65 cur) (hb' : Blk w' b 65 (cur.setIfInBounds (0 + i * 2 + 1) (.int .i64 v))) (hi : i < n) (hq : ps[i]? = some q) : Orw w' 0 65 2 (.slice (some ⟨b, 0, none⟩) n c) ((ps.set i (q.1, v)).map encP) := by
  have hel := h.el0 (i := i) (r := encP q) (by rw [List.getElem?_map, hq]; rfl) 0 (strV q.1) rfl
  rw [hb.cell] at hel
  obtain ⟨cur0, hcur, hcs, _, hn, hnc, _, _⟩ := orw_block h
  obtain rfl := hcur.inj hb
  rw [List.map_set]
  refine orw_set h hb hb' (by rw [Array.size_setIfInBounds]) hi rfl (encP_one _) (fun j => ?_) (by decide)
  rw [Array.getElem?_setIfInBounds]
  by_cases h1 : 0 + i * 2 + 1 = j
  · rw [if_pos h1, if_pos (by omega), if_pos (by omega), show j - i * 2 = 1 from by omega]
    rfl
  · rw [if_neg h1]
    by_cases h2 : i * 2 ≤ j ∧ j < i * 2 + 2
    · rw [if_pos h2, show j - i * 2 = 0 from by omega, show j = 0 + i * 2 + 0 from by omega]
      exact hel
    · rw [if_neg h2]
end Go.Proofs.Ytmlkdkbpbleilaa

namespace Go.Proofs.Ytmlkdkbpbleilaa
open Go.RowKit
open Ix
set_option linter.unusedVariables false
set_option linter.unusedSimpArgs false
theorem build_pair (k : Key) (v : Int) (W : World) : (Instr.build 65 #[(0, strV k), (1, .int .i64 v)]).run Try.prog W = .ok (.agg (encP (k, v)).toArray) W := by kernel_rfl
section
variable {w : World} {H : Hp} {p : Nat} {ps : List Pr} {ks : List Nat} {k : Key} {v M : Int}
set_option maxRecDepth 20000 in
set_option maxHeartbeats 4000000 in
theorem put_hit {q : Pr} (hin : In w H) (hp : Is H p ps ks) (hs : Srt ps) (hh : hit k ps = true) (hq : ps[fnd k ps]? = some q) (h8 : ps.length ≤ 1000) :
    Calls Try.prog 26 #[.pointer (some ⟨p, 0, none⟩), strV k, .int .i64 v, .int .i64 M] w fun e w' => e = .returned (.tuple #[.int .i64 q.2, .bool true]) ∧ ∃ H', To w H w' H' ∧ Is H' p (ps.set (fnd k ps) (q.1, v)) ks ∧ Same H H' (fun a => a = p) := by
  have HIN := Lib.hid hin
  obtain ⟨vp, vk, hp⟩ := hp
  obtain ⟨b2, c2, e, _, _⟩ := (show NodeAt w p vp vk ps ks from hin.at_ hp).prs.some_ (by rw [List.length_map]; exact Nat.lt_of_le_of_lt (Nat.zero_le _) (List.getElem?_eq_some_iff.1 hq).1)
  obtain ⟨n0, hn0⟩ : ∃ n, n = ps.length := ⟨_, rfl⟩
  replace e := e.trans (show _ = Value.slice (some ⟨b2, 0, none⟩) n0 c2 from by rw [List.length_map, hn0])
  subst e
  obtain ⟨i, hi0⟩ : ∃ i, i = fnd k ps := ⟨_, rfl⟩
  have hf := find_walk (k := k) (show NodeAt w p (.slice (some ⟨b2, 0, none⟩) n0 c2) vk ps ks from hin.at_ hp) hs (by omega)
  rw [hh] at hf
  rw [← hi0] at hf hq ⊢
  have HF := Lib.hid hf
  have HP := Lib.hid hp
  have HQ := Lib.hid hq
  have HIP := Lib.hid (show i < n0 from by rw [hn0]; exact (List.getElem?_eq_some_iff.1 hq).1)
  clear hin hp hs hh hq h8 hn0 hi0 hf
  go_enter Try.func26, Try.ntmps26
  go_upto_region 1 with fail
  refine wp_region_lit ?_
  refine wpList_run (v := .pointer (some ⟨p, 0, none⟩)) (wanted_none rfl) (exec_move rfl rfl) ?_
  simp only [Act.put, List.setIfInBounds_toArray, List.set_cons_zero, List.set_cons_succ]
  refine wpList_run (v := strV k) (wanted_none rfl) (exec_move rfl rfl) ?_
  simp only [Act.put, List.setIfInBounds_toArray, List.set_cons_zero, List.set_cons_succ]
  refine wpList_op rfl fun K9 HK9 => ?_
  go_wp2_with fail
  refine (HF.out).mono ?_
  rintro e w1 ⟨rfl, ht1⟩
  refine HK9.out _ _ ?_
  clear HK9
  try simp only [Act.put, List.setIfInBounds_toArray, List.set_cons_zero, List.set_cons_succ]
  refine wpList_run (v := .tuple #[.int .i64 (i : Int), .bool true]) (wanted_none rfl) (exec_move rfl rfl) ?_
  simp only [Act.put, List.setIfInBounds_toArray, List.set_cons_zero, List.set_cons_succ]
  refine wpList_run (v := .int .i64 (i : Int)) (wanted_none rfl) (ix_extract rfl rfl rfl) ?_
  simp only [Act.put, List.setIfInBounds_toArray, List.set_cons_zero, List.set_cons_succ]
  refine wpList_run (v := .bool true) (wanted_none rfl) (ix_extract rfl rfl rfl) ?_
  simp only [Act.put, List.setIfInBounds_toArray, List.set_cons_zero, List.set_cons_succ]
  refine wpList_run (v := .int .i64 (i : Int)) (wanted_none rfl) (gx_assign rfl rfl) ?_
  simp only [Act.put, List.setIfInBounds_toArray, List.set_cons_zero, List.set_cons_succ]
  refine wpList_run (v := .bool true) (wanted_none rfl) (gx_assign rfl rfl) ?_
  simp only [Act.put, List.setIfInBounds_toArray, List.set_cons_zero, List.set_cons_succ]
  have HT1 := Lib.hid ht1
  have HI1 := Lib.hid (HIN.out.still ht1)
  clear ht1
  go_upto_region 2 with fail
  refine wp_region_lit ?_
  refine wpList_run (v := .bool true) (wanted_none rfl) (exec_move rfl rfl) ?_
  simp only [Act.put, List.setIfInBounds_toArray, List.set_cons_zero, List.set_cons_succ]
  go_upto_region 3 with fail
  refine wp_region_lit ?_
  refine wpList_run (v := .pointer (some ⟨p, 0, none⟩)) (wanted_none rfl) (exec_move rfl rfl) ?_
  simp only [Act.put, List.setIfInBounds_toArray, List.set_cons_zero, List.set_cons_succ]
  refine wpList_run (v := .pointer (some ⟨p, 0, none⟩)) (wanted_none rfl) (exec_nil rfl rfl) ?_
  simp only [Act.put, List.setIfInBounds_toArray, List.set_cons_zero, List.set_cons_succ]
  refine wpList_run (v := .pointer (some ⟨p, 0, none⟩)) (wanted_none rfl) (exec_field (off := 0) (d := 0) rfl rfl (by kernel_rfl)) ?_
  simp only [Act.put, List.setIfInBounds_toArray, List.set_cons_zero, List.set_cons_succ]
  refine wpList_run (v := .slice (some ⟨b2, 0, none⟩) n0 c2) (wanted_none rfl) (exec_load1 rfl rfl (by kernel_rfl) ((HI1.out.at_ HP.out).blk.cell 0)) ?_
  simp only [Act.put, List.setIfInBounds_toArray, List.set_cons_zero, List.set_cons_succ]
  refine wpList_run (v := .int .i64 (i : Int)) (wanted_none rfl) (exec_move rfl rfl) ?_
  simp only [Act.put, List.setIfInBounds_toArray, List.set_cons_zero, List.set_cons_succ]
  refine wpList_run (v := .pointer (some ⟨b2, 0 + i * 2, none⟩)) (wanted_none rfl) (gx_iaddr (i := i) (sz := 2) rfl rfl rfl Try.underlying59 size_pair HIP.out rfl) ?_
  simp only [Act.put, List.setIfInBounds_toArray, List.set_cons_zero, List.set_cons_succ]
  refine wpList_run (v := .pointer (some ⟨b2, 0 + i * 2 + 1, none⟩)) (wanted_none rfl) (exec_field (off := 0 + i * 2) (d := 1) rfl rfl (by kernel_rfl)) ?_
  simp only [Act.put, List.setIfInBounds_toArray, List.set_cons_zero, List.set_cons_succ]
  refine wpList_run (v := .int .i64 q.2) (wanted_none rfl) (exec_load1 rfl rfl (by kernel_rfl) ((HI1.out.at_ HP.out).prs.el0 (r := encP q) (by rw [List.getElem?_map, HQ.out]; rfl) 1 _ rfl)) ?_
  simp only [Act.put, List.setIfInBounds_toArray, List.set_cons_zero, List.set_cons_succ]
  refine wpList_run (v := .int .i64 q.2) (wanted_none rfl) (gx_assign rfl rfl) ?_
  simp only [Act.put, List.setIfInBounds_toArray, List.set_cons_zero, List.set_cons_succ]
  go_upto_region 4 with fail
  refine wp_region_lit ?_
  refine wpList_run (v := .pointer (some ⟨p, 0, none⟩)) (wanted_none rfl) (exec_move rfl rfl) ?_
  simp only [Act.put, List.setIfInBounds_toArray, List.set_cons_zero, List.set_cons_succ]
  refine wpList_run (v := .pointer (some ⟨p, 0, none⟩)) (wanted_none rfl) (exec_nil rfl rfl) ?_
  simp only [Act.put, List.setIfInBounds_toArray, List.set_cons_zero, List.set_cons_succ]
  refine wpList_run (v := .pointer (some ⟨p, 0, none⟩)) (wanted_none rfl) (exec_field (off := 0) (d := 0) rfl rfl (by kernel_rfl)) ?_
  simp only [Act.put, List.setIfInBounds_toArray, List.set_cons_zero, List.set_cons_succ]
  refine wpList_run (v := .slice (some ⟨b2, 0, none⟩) n0 c2) (wanted_none rfl) (exec_load1 rfl rfl (by kernel_rfl) ((HI1.out.at_ HP.out).blk.cell 0)) ?_
  simp only [Act.put, List.setIfInBounds_toArray, List.set_cons_zero, List.set_cons_succ]
  refine wpList_run (v := .int .i64 (i : Int)) (wanted_none rfl) (exec_move rfl rfl) ?_
  simp only [Act.put, List.setIfInBounds_toArray, List.set_cons_zero, List.set_cons_succ]
  refine wpList_run (v := .int .i64 v) (wanted_none rfl) (exec_move rfl rfl) ?_
  simp only [Act.put, List.setIfInBounds_toArray, List.set_cons_zero, List.set_cons_succ]
  refine wpList_run (v := .pointer (some ⟨b2, 0 + i * 2, none⟩)) (wanted_none rfl) (gx_iaddr (i := i) (sz := 2) rfl rfl rfl Try.underlying59 size_pair HIP.out rfl) ?_
  simp only [Act.put, List.setIfInBounds_toArray, List.set_cons_zero, List.set_cons_succ]
  refine wpList_run (v := .pointer (some ⟨b2, 0 + i * 2 + 1, none⟩)) (wanted_none rfl) (exec_field (off := 0 + i * 2) (d := 1) rfl rfl (by kernel_rfl)) ?_
  simp only [Act.put, List.setIfInBounds_toArray, List.set_cons_zero, List.set_cons_succ]
  obtain ⟨cur, hcur, hcs, _, _, hnc, _, _⟩ := orw_block (HI1.out.at_ HP.out).prs
  refine wpList_storeU (0 + i * 2 + 1) (.int .i64 v) rfl 3 _ _ rfl hcur rfl rfl (by rw [hcs]; have := HIP.out; omega) ⟨rfl, rfl⟩ (by kernel_rfl) ?_
  intro w2 hb2 ht2
  simp only [Act.put, List.setIfInBounds_toArray, List.set_cons_zero, List.set_cons_succ]
  have hrow := orw_num (HI1.out.at_ HP.out).prs hcur hb2 HIP.out HQ.out
  have ht2' : Turn (fun bb => (.slice (some ⟨b2, 0, none⟩) n0 c2 : Value).ownBlock = some bb) w1 w2 := ht2.mono fun k _ e => by
    have e : k = b2 := e
    rw [e]; rfl
  have HX := Lib.hid ((To.still HIN.out HT1.out).trans (HI1.out.setP (ps' := ps.set i (q.1, v)) HP.out ht2' (fun b hb => .inl hb) (Turn.refl _ _) (HI1.out.blkP HP.out HP.out ht2') hrow))
  clear hcur hcs hnc hb2 ht2 hrow ht2'
  go_upto_region 5 with fail
  refine wp_region_lit ?_
  refine wpList_run (v := .int .i64 q.2) (wanted_none rfl) (exec_move rfl rfl) ?_
  simp only [Act.put, List.setIfInBounds_toArray, List.set_cons_zero, List.set_cons_succ]
  refine wpList_run (v := .int .i64 q.2) (wanted_none rfl) (gx_assign rfl rfl) ?_
  simp only [Act.put, List.setIfInBounds_toArray, List.set_cons_zero, List.set_cons_succ]
  refine wpList_run (v := .bool true) (wanted_none rfl) (gx_assign rfl rfl) ?_
  simp only [Act.put, List.setIfInBounds_toArray, List.set_cons_zero, List.set_cons_succ]
  go_wp2_with fail
  go_ret2
  exact ⟨rfl, _, HX.out, ⟨_, _, up_same _ _ _⟩, same_up _ _ _⟩
set_option maxRecDepth 20000 in
set_option maxHeartbeats 4000000 in
theorem put_ins (hin : In w H) (hp : Is H p ps []) (hs : Srt ps) (hh : hit k ps = false) (h8 : ps.length ≤ 1000) (hk : k.length ≤ 281474976710656) :
    Calls Try.prog 26 #[.pointer (some ⟨p, 0, none⟩), strV k, .int .i64 v, .int .i64 M] w fun e w' => e = .returned (.tuple #[.int .i64 0, .bool false]) ∧ ∃ H', To w H w' H' ∧ Is H' p (ps.take (fnd k ps) ++ (k, v) :: ps.drop (fnd k ps)) [] ∧ Same H H' (fun a => a = p) := by
  have HIN := Lib.hid hin
  have HKL := Lib.hid hk
  obtain ⟨vp, vk, hp⟩ := hp
  obtain ⟨A2, c2, e, _, _, _, _⟩ := (show NodeAt w p vp vk ps [] from hin.at_ hp).prs.form
  obtain ⟨n0, hn0⟩ : ∃ n, n = ps.length := ⟨_, rfl⟩
  replace e := e.trans (show _ = Value.slice A2 n0 c2 from by rw [List.length_map, hn0])
  subst e
  obtain ⟨i, hi0⟩ : ∃ i, i = fnd k ps := ⟨_, rfl⟩
  have hf := find_walk (k := k) (show NodeAt w p (.slice A2 n0 c2) vk ps [] from hin.at_ hp) hs (by omega)
  rw [hh] at hf
  have HIL := Lib.hid (show i ≤ n0 from by rw [hi0, hn0]; exact fnd_le k ps)
  rw [← hi0] at hf ⊢
  have HF := Lib.hid hf
  have HP := Lib.hid hp
  have HN0 := Lib.hid hn0
  have HN8 := Lib.hid (show n0 ≤ 1000 from by omega)
  clear hin hp hs hh h8 hn0 hi0 hf hk
  go_enter Try.func26, Try.ntmps26
  go_upto_region 1 with fail
  refine wp_region_lit ?_
  refine wpList_run (v := .pointer (some ⟨p, 0, none⟩)) (wanted_none rfl) (exec_move rfl rfl) ?_
  simp only [Act.put, List.setIfInBounds_toArray, List.set_cons_zero, List.set_cons_succ]
  refine wpList_run (v := strV k) (wanted_none rfl) (exec_move rfl rfl) ?_
  simp only [Act.put, List.setIfInBounds_toArray, List.set_cons_zero, List.set_cons_succ]
  refine wpList_op rfl fun K9 HK9 => ?_
  go_wp2_with fail
  refine (HF.out).mono ?_
  rintro e w1 ⟨rfl, ht1⟩
  refine HK9.out _ _ ?_
  clear HK9
  try simp only [Act.put, List.setIfInBounds_toArray, List.set_cons_zero, List.set_cons_succ]
  refine wpList_run (v := .tuple #[.int .i64 (i : Int), .bool false]) (wanted_none rfl) (exec_move rfl rfl) ?_
  simp only [Act.put, List.setIfInBounds_toArray, List.set_cons_zero, List.set_cons_succ]
  refine wpList_run (v := .int .i64 (i : Int)) (wanted_none rfl) (ix_extract rfl rfl rfl) ?_
  simp only [Act.put, List.setIfInBounds_toArray, List.set_cons_zero, List.set_cons_succ]
  refine wpList_run (v := .bool false) (wanted_none rfl) (ix_extract rfl rfl rfl) ?_
  simp only [Act.put, List.setIfInBounds_toArray, List.set_cons_zero, List.set_cons_succ]
  refine wpList_run (v := .int .i64 (i : Int)) (wanted_none rfl) (gx_assign rfl rfl) ?_
  simp only [Act.put, List.setIfInBounds_toArray, List.set_cons_zero, List.set_cons_succ]
  refine wpList_run (v := .bool false) (wanted_none rfl) (gx_assign rfl rfl) ?_
  simp only [Act.put, List.setIfInBounds_toArray, List.set_cons_zero, List.set_cons_succ]
  have HT1 := Lib.hid ht1
  have HI1 := Lib.hid (HIN.out.still ht1)
  clear ht1
  go_upto_region 2 with fail
  refine wp_region_lit ?_
  refine wpList_run (v := .bool false) (wanted_none rfl) (exec_move rfl rfl) ?_
  simp only [Act.put, List.setIfInBounds_toArray, List.set_cons_zero, List.set_cons_succ]
  go_upto_region 6 with fail
  refine wp_region_lit ?_
  refine wpList_run (v := .pointer (some ⟨p, 0, none⟩)) (wanted_none rfl) (exec_move rfl rfl) ?_
  simp only [Act.put, List.setIfInBounds_toArray, List.set_cons_zero, List.set_cons_succ]
  refine wpList_op rfl fun K9 HK9 => ?_
  go_wp2_with fail
  refine (lowest_walk (ks := []) (HI1.out.at_ HP.out)).mono ?_
  rintro e w2 ⟨rfl, hw2⟩
  refine HK9.out _ _ ?_
  clear HK9
  try simp only [Act.put, List.setIfInBounds_toArray, List.set_cons_zero, List.set_cons_succ]
  subst hw2
  go_upto_region 7 with fail
  refine wp_region_till (fun W => Blk W p 62 #[.slice A2 n0 c2, vk]) 12 (by kernel_rfl) ?_
  have HD := Lib.hid ((Turn.refl nowhere w2).drew)
  have hS0 : Blk w2.drew p 62 #[.slice A2 n0 c2, vk] := (HI1.out.at_ HP.out).blk
  refine till_take (i := 0) (v := .pointer (some ⟨p, 0, none⟩)) rfl (by kernel_rfl) (by kernel_rfl) (fun _ _ _ h => h) (.inl ⟨by rfl, fun W hW => exec_move rfl rfl⟩) hS0 ?_
  simp only [Act.put, List.setIfInBounds_toArray, List.set_cons_zero, List.set_cons_succ]
  refine till_take (i := 1) (v := .pointer (some ⟨p, 0, none⟩)) rfl (by kernel_rfl) (by kernel_rfl) (fun _ _ _ h => h) (.inl ⟨by rfl, fun W hW => exec_move rfl rfl⟩) hS0 ?_
  simp only [Act.put, List.setIfInBounds_toArray, List.set_cons_zero, List.set_cons_succ]
  refine till_take (i := 2) (v := .pointer (some ⟨p, 0, none⟩)) rfl (by kernel_rfl) (by kernel_rfl) (fun _ _ _ h => h) (.inl ⟨by rfl, fun W hW => exec_nil rfl rfl⟩) hS0 ?_
  simp only [Act.put, List.setIfInBounds_toArray, List.set_cons_zero, List.set_cons_succ]
  refine till_take (i := 3) (v := .pointer (some ⟨p, 0, none⟩)) rfl (by kernel_rfl) (by kernel_rfl) (fun _ _ _ h => h) (.inl ⟨by rfl, fun W hW => exec_field (off := 0) (d := 0) rfl rfl (by kernel_rfl)⟩) hS0 ?_
  simp only [Act.put, List.setIfInBounds_toArray, List.set_cons_zero, List.set_cons_succ]
  refine till_take (i := 4) (v := .slice A2 n0 c2) rfl (by kernel_rfl) (by kernel_rfl) (fun _ _ _ h => h) (.inl ⟨by rfl, fun W hW => exec_load1 rfl rfl (by kernel_rfl) (hW.cell 0)⟩) hS0 ?_
  simp only [Act.put, List.setIfInBounds_toArray, List.set_cons_zero, List.set_cons_succ]
  refine till_take (i := 5) (v := .int .i64 (i : Int)) rfl (by kernel_rfl) (by kernel_rfl) (fun _ _ _ h => h) (.inl ⟨by rfl, fun W hW => exec_move rfl rfl⟩) hS0 ?_
  simp only [Act.put, List.setIfInBounds_toArray, List.set_cons_zero, List.set_cons_succ]
  refine till_take (i := 6) (v := strV k) rfl (by kernel_rfl) (by kernel_rfl) (fun _ _ _ h => h) (.inl ⟨by rfl, fun W hW => exec_move rfl rfl⟩) hS0 ?_
  simp only [Act.put, List.setIfInBounds_toArray, List.set_cons_zero, List.set_cons_succ]
  refine till_take (i := 8) (v := .int .i64 v) rfl (by kernel_rfl) (by kernel_rfl) (fun _ _ _ h => h) (.inl ⟨by rfl, fun W hW => exec_move rfl rfl⟩) hS0 ?_
  simp only [Act.put, List.setIfInBounds_toArray, List.set_cons_zero, List.set_cons_succ]
  refine till_step (i := 7) (by kernel_rfl) rfl rfl ?_
  intro K1 HK1
  go_wp2_with fail
  refine (clone_walk k _ HKL.out).mono ?_
  rintro e w3 ⟨rfl, ht3⟩
  have hS3 : Blk w3 p 62 #[.slice A2 n0 c2, vk] := hS0.turn ht3 (fun e => e)
  refine HK1.out _ _ ⟨fun _ => hS3, ?_⟩
  clear HK1
  try simp only [Act.put, List.setIfInBounds_toArray, List.set_cons_zero, List.set_cons_succ]
  have HT3 := Lib.hid ht3
  refine till_step (i := 9) (by kernel_rfl) rfl rfl ?_
  intro K1 HK1
  refine wp_run (v := .agg (encP (k, v)).toArray) (gx_build2 rfl rfl rfl (build_pair k v _)) ?_
  refine HK1.out _ _ ⟨fun _ => hS3, ?_⟩
  clear HK1
  simp only [Act.put, List.setIfInBounds_toArray, List.set_cons_zero, List.set_cons_succ]
  have hb2 := Blk.new w3 65 (encP (k, v)).toArray
  have ht4 := (Turn.refl nowhere w3).alloc (.cells (encP (k, v)).toArray 65)
  obtain ⟨g2, hg2⟩ : ∃ q, q = w3.heap.size := ⟨_, rfl⟩
  have hS4 : Blk (w3.alloc (.cells (encP (k, v)).toArray 65)) p 62 #[.slice A2 n0 c2, vk] := hS3.alloc _
  have hbld := build_oneP (k, v) w3
  rw [← hg2] at hb2 hbld
  generalize w3.alloc (.cells (encP (k, v)).toArray 65) = w4 at *
  refine till_step (i := 10) (by kernel_rfl) rfl rfl ?_
  intro K1 HK1
  refine wp_run (v := .slice (some ⟨g2, 0, none⟩) 1 1) (w' := w4) (exec_buildSlice1 rfl rfl hbld) ?_
  refine HK1.out _ _ ⟨fun _ => hS4, ?_⟩
  clear HK1
  simp only [Act.put, List.setIfInBounds_toArray, List.set_cons_zero, List.set_cons_succ]
  have HBG := Lib.hid hb2
  have HT4 := Lib.hid (HD.out.trans (HT3.out.trans ht4 fun _ _ e => e) fun _ _ e => e)
  have HI4 := Lib.hid (HI1.out.still HT4.out)
  have HGN := Lib.hid (show (Value.slice A2 n0 c2).ownBlock ≠ some g2 from fun e => by
    have := (HI1.out.at_ HP.out).prs.lt e
    have h9 : w2.drew.heap.size = w2.heap.size := rfl
    have := HT3.out.size
    omega)
  clear hb2 ht3 ht4 hbld hg2
  refine till_step (i := 11) (by kernel_rfl) rfl rfl ?_
  intro K1 HK1
  go_wp2_with fail
  refine (InsertP (i := i) (HI4.out.at_ HP.out).prs (by rw [List.length_map]; exact HN0.out.symm) HIL.out HBG.out rfl (encP_one (k, v)) HGN.out (by have := HN8.out; omega)).mono ?_
  rintro e w5 ⟨v5, rfl, hrow, hto⟩
  have hS5 : Blk w5 p 62 #[.slice A2 n0 c2, vk] := HI4.out.blkP HP.out HP.out hto.1
  refine HK1.out _ _ ⟨fun _ => hS5, ?_⟩
  clear HK1
  try simp only [Act.put, List.setIfInBounds_toArray, List.set_cons_zero, List.set_cons_succ]
  refine till_tail 12 rfl (by kernel_rfl) ?_
  refine wpList_run (v := .pointer (some ⟨p, 0, none⟩)) (wanted_none rfl) (exec_nil rfl rfl) ?_
  simp only [Act.put, List.setIfInBounds_toArray, List.set_cons_zero, List.set_cons_succ]
  refine wpList_run (v := .pointer (some ⟨p, 0, none⟩)) (wanted_none rfl) (exec_field (off := 0) (d := 0) rfl rfl (by kernel_rfl)) ?_
  simp only [Act.put, List.setIfInBounds_toArray, List.set_cons_zero, List.set_cons_succ]
  refine wpList_storeU 0 v5 rfl 59 _ _ rfl hS5 rfl rfl (by show 0 < 2; omega) (slice_one hrow) size_sP ?_
  intro w6 hb6 ht6
  have h24 := HI4.out.setP (ps' := ps.take i ++ (k, v) :: ps.drop i) HP.out hto.1 hto.2 ht6 hb6 (by
    have h := hrow
    rw [ins_map] at h
    exact h)
  have HX := Lib.hid ((To.still HIN.out HT1.out).trans (To.trans (To.still HI1.out HT4.out) h24))
  clear hrow hto hb6 ht6 h24 hS5 hS4 hS3 hS0
  refine wpList_nil ?_
  refine NoPanic.normal ?_
  try simp only [Act.put, List.setIfInBounds_toArray, List.set_cons_zero, List.set_cons_succ]
  go_upto_region 8 with fail
  refine wp_region_lit ?_
  refine wpList_run (v := .int .i64 0) (wanted_none rfl) (gx_assign rfl rfl) ?_
  simp only [Act.put, List.setIfInBounds_toArray, List.set_cons_zero, List.set_cons_succ]
  refine wpList_run (v := .bool false) (wanted_none rfl) (gx_assign rfl rfl) ?_
  simp only [Act.put, List.setIfInBounds_toArray, List.set_cons_zero, List.set_cons_succ]
  go_wp2_with fail
  go_ret2
  exact ⟨rfl, _, HX.out, ⟨_, _, up_same _ _ _⟩, same_up _ _ _⟩
end
theorem tput_hit {k : Key} {v : Int} {M d : Nat} {t : Tr (d + 1)} (h : (t.1[fnd k t.1]?).map (fun q : Pr => q.1) = some k) : tput k v M t = nodeT (t.1.set (fnd k t.1) (k, v)) t.2 := if_pos h
theorem tput_in {k : Key} {v : Int} {M d : Nat} {t : Tr (d + 1)} {c : Tr d} (h : ¬ (t.1[fnd k t.1]?).map (fun q : Pr => q.1) = some k) (hc : t.2[fnd k t.1]? = some c) : tput k v M t = (if M < (tput k v M c).ps.length then nodeT (t.1.take (fnd k t.1) ++ splitM (tput k v M c) :: t.1.drop (fnd k t.1)) (t.2.take (fnd k t.1) ++ splitL (tput k v M c) :: splitR (tput k v M c) :: t.2.drop (fnd k t.1 + 1)) else nodeT t.1 (t.2.set (fnd k t.1) (tput k v M c))) := by
  refine (if_neg h).trans ?_
  rw [hc]
set_option maxRecDepth 20000 in
set_option maxHeartbeats 8000000 in
theorem put_walk {m M : Nat} {k : Key} {v : Int} (hm : m = M / 2) (h2 : 2 ≤ M) (hM : M < 700) (hkl : k.length ≤ 281474976710656) : ∀ {d : Nat} {t : Tr d} {w : World} {H : Hp} {p lo hi : Nat} {F : List Nat}, Tree w H p t F m M lo hi → Srt (flat t) → hi < 700 →
    Calls Try.prog 26 #[.pointer (some ⟨p, 0, none⟩), strV k, .int .i64 v, .int .i64 (M : Int)] w fun e w' => e = .returned (retV (tget k t)) ∧ After w H p F (tput k v M t) w' := by
  intro d
  induction d with
  | zero =>
    intro t w H p lo hi F h hs h8
    obtain ⟨his, rfl⟩ := h.tr
    have n2 : t.1.length ≤ hi := h.nb.hi
    have hst : Srt t.1 := hs
    have hg := tget_leaf (k := k) (t := t)
    cases hh : hit k t.1 with
    | true =>
      obtain ⟨q, hq, hqk⟩ := hit_yes hh
      refine (put_hit (v := v) (M := M) h.hin his hst hh hq (by omega)).mono ?_
      rintro e w' ⟨rfl, H', hto, hi', hs'⟩
      rw [hg, hh, hq]
      refine ⟨rfl, AfterX.a (H' := H') (F' := [p]) ?_⟩
      have e1 : tput k v M t = (t.1.set (fnd k t.1) (q.1, v), ()) := by
        show ((if (t.1[fnd k t.1]?).map (fun q : Pr => q.1) = some k then t.1.set (fnd k t.1) (k, v) else t.1.take (fnd k t.1) ++ (k, v) :: t.1.drop (fnd k t.1), ()) : List Pr × Unit) = _
        rw [if_pos (by rw [hq, ← hqk]; rfl), hqk]
      rw [e1]
      exact after_leaf hto hi' hs'
    | false =>
      refine (put_ins (v := v) (M := M) h.hin his hst hh (by omega) hkl).mono ?_
      rintro e w' ⟨rfl, H', hto, hi', hs'⟩
      rw [hg, hh]
      refine ⟨rfl, AfterX.a (H' := H') (F' := [p]) ?_⟩
      have e1 : tput k v M t = (t.1.take (fnd k t.1) ++ (k, v) :: t.1.drop (fnd k t.1), ()) := by
        show ((if (t.1[fnd k t.1]?).map (fun q : Pr => q.1) = some k then t.1.set (fnd k t.1) (k, v) else t.1.take (fnd k t.1) ++ (k, v) :: t.1.drop (fnd k t.1), ()) : List Pr × Unit) = _
        rw [if_neg (hit_no hh)]
      rw [e1]
      exact after_leaf hto hi' hs'
  | succ d ih =>
    intro t w H p lo hi F h hs h8
    have hlen := h.nb.2.2.1
    have n1 : lo ≤ t.1.length := h.nb.lo
    have n2 : t.1.length ≤ hi := h.nb.hi
    have hst : Srt t.1 := srt_top h.nb hs
    obtain ⟨i, hi0⟩ : ∃ i, i = fnd k t.1 := ⟨_, rfl⟩
    have hle : i ≤ t.1.length := by rw [hi0]; exact fnd_le k t.1
    obtain ⟨c, hc⟩ : ∃ c, t.2[i]? = some c := ⟨_, List.getElem?_eq_getElem (show i < t.2.length by omega)⟩
    have hcf : t.2[fnd k t.1]? = some c := by rw [← hi0]; exact hc
    cases hh : hit k t.1 with
    | true =>
      obtain ⟨q, hq, hqk⟩ := hit_yes hh
      obtain ⟨ks, F', his, hka, rfl⟩ := id h.tr
      refine (put_hit (v := v) (M := M) h.hin his hst hh hq (by omega)).mono ?_
      rintro e w' ⟨rfl, H', hto, hi', hs'⟩
      rw [tget_yes hq hqk hcf, tput_hit (by rw [hq, ← hqk]; rfl), ← hqk, hqk]
      refine ⟨rfl, AfterX.a (after_pairs h.tr h.nd his hto ?_ hs')⟩
      rw [← hqk, hqk]
      rw [hqk] at hi'
      exact hi'
    | false =>
      have HIN := Lib.hid h.hin
      have nc := nd_kid h.nb hc
      obtain ⟨ks1, x, ks2, F1, Gx, F2, q1, q2, q3, q4, q5, rfl⟩ := one_kid h.tr hc
      have hlt := fun q hq => TrAt.lt h.hin h.tr q hq
      have HTR := Lib.hid (fun (w1 : World) (ht : Turn nowhere w w1) => ih (t := c) (w := w1) (H := H) (p := x) (F := Gx) ⟨h.hin.still ht, q4, nd_mid h.nd, nc⟩ (srt_kid h.nb hs hcf) (by omega))
      obtain ⟨tf, tn⟩ := tput_ok (k := k) (n := v) hm h2 nc (srt_kid h.nb hs hcf)
      have HKD := Lib.hid (fun (c' : Tr d) (w1 w2 : World) (H' : Hp) (G' : List Nat) (ht : Turn nowhere w w1) (ha : AfterX w1 H x Gx c' w2 H' G') => after_kid (t := t) (i := i) (h.hin.still ht) h.nd (fun q hq => Nat.lt_of_lt_of_le (hlt q hq) ht.size) q1 q3 q5 (by omega) ha)
      have HPX := Lib.hid (show p ∉ Gx from fun e => by
        have a1 := h.nd p
        have a2 := cnt_mem e
        simp only [List.count_append, List.count_cons, beq_self_eq_true, if_true] at a1
        omega)
      have HPL := Lib.hid (hlt p (List.mem_cons_self ..))
      obtain ⟨ks, hks⟩ : ∃ ks, ks = ks1 ++ x :: ks2 := ⟨_, rfl⟩
      rw [← hks] at q1
      have HL := Lib.hid (not_leaf h.tr h.nb q1)
      have hkk : ks.length = t.2.length := by
        obtain ⟨ks', F', g1, g2, _⟩ := h.tr
        obtain ⟨_, e⟩ := q1.inj g1
        rw [e, g2.len]
      have HKX := Lib.hid (show ks[i]? = some x from by rw [hks]; exact ks_at1 q2)
      obtain ⟨vp, vk, hp⟩ := q1
      obtain ⟨b, cc, e, _, _⟩ := (show NodeAt w p vp vk t.1 ks from h.hin.at_ hp).kds.some_ (by rw [List.length_map]; omega)
      obtain ⟨n, hn⟩ : ∃ n, n = ks.length := ⟨_, rfl⟩
      replace e := e.trans (show _ = Value.slice (some ⟨b, 0, none⟩) n cc from by rw [List.length_map, hn])
      subst e
      obtain ⟨A2, c2, e, _, _, _, _⟩ := (show NodeAt w p vp (.slice (some ⟨b, 0, none⟩) n cc) t.1 ks from h.hin.at_ hp).prs.form
      obtain ⟨n0, hn0⟩ : ∃ n, n = t.1.length := ⟨_, rfl⟩
      replace e := e.trans (show _ = Value.slice A2 n0 c2 from by rw [List.length_map, hn0])
      subst e
      have HP := Lib.hid hp
      have HIN2 := Lib.hid (show i < n from by omega)
      have HN0 := Lib.hid hn0
      have HN := Lib.hid hn
      have HF := Lib.hid (show Calls Try.prog 31 #[.pointer (some ⟨p, 0, none⟩), strV k] w fun e w' => e = .returned (.tuple #[.int .i64 (i : Int), .bool false]) ∧ Turn nowhere w w' from by
        rw [hi0, ← hh]
        exact find_walk (h.hin.at_ hp) hst (by omega))
      have HGN := Lib.hid (tget_no (hit_no hh) hcf)
      have HTP := Lib.hid (show tput k v M t = (if M < (tput k v M c).ps.length then nodeT (t.1.take i ++ splitM (tput k v M c) :: t.1.drop i) (t.2.take i ++ splitL (tput k v M c) :: splitR (tput k v M c) :: t.2.drop (i + 1)) else nodeT t.1 (t.2.set i (tput k v M c))) from by rw [hi0]; exact tput_in (hit_no hh) hcf)
      obtain ⟨C, hC⟩ : ∃ C, C = tput k v M c := ⟨_, rfl⟩
      rw [← hC] at tn
      have HCE := Lib.hid hC
      rw [← hC] at HTP
      have HTN := Lib.hid (show Nd m M m (M + 1) C from tn)
      have HIL := Lib.hid (show i < t.2.length from by omega)
      have HIN0 := Lib.hid (show i ≤ n0 from by omega)
      have HM7 := Lib.hid (show M < 700 ∧ n0 < 700 ∧ n < 800 from by omega)
      have y1 : (M : Int) ≤ 700 := by omega
      have HMQ := Lib.hid hm
      have HH2 := Lib.hid h2
      clear hm h2 hks hkk hp hn hn0 q2 q3 q4 q5 hlt nc hi0 hc hcf hst hle h hs h8 hlen n1 n2 ih tf tn hh hC hM hkl
      go_enter Try.func26, Try.ntmps26
      go_upto_region 1 with fail
      refine wp_region_lit ?_
      refine wpList_run (v := .pointer (some ⟨p, 0, none⟩)) (wanted_none rfl) (exec_move rfl rfl) ?_
      simp only [Act.put, List.setIfInBounds_toArray, List.set_cons_zero, List.set_cons_succ]
      refine wpList_run (v := strV k) (wanted_none rfl) (exec_move rfl rfl) ?_
      simp only [Act.put, List.setIfInBounds_toArray, List.set_cons_zero, List.set_cons_succ]
      refine wpList_op rfl fun K9 HK9 => ?_
      go_wp2_with fail
      refine (HF.out).mono ?_
      rintro e w1 ⟨rfl, ht1⟩
      refine HK9.out _ _ ?_
      clear HK9
      try simp only [Act.put, List.setIfInBounds_toArray, List.set_cons_zero, List.set_cons_succ]
      refine wpList_run (v := .tuple #[.int .i64 (i : Int), .bool false]) (wanted_none rfl) (exec_move rfl rfl) ?_
      simp only [Act.put, List.setIfInBounds_toArray, List.set_cons_zero, List.set_cons_succ]
      refine wpList_run (v := .int .i64 (i : Int)) (wanted_none rfl) (ix_extract rfl rfl rfl) ?_
      simp only [Act.put, List.setIfInBounds_toArray, List.set_cons_zero, List.set_cons_succ]
      refine wpList_run (v := .bool false) (wanted_none rfl) (ix_extract rfl rfl rfl) ?_
      simp only [Act.put, List.setIfInBounds_toArray, List.set_cons_zero, List.set_cons_succ]
      refine wpList_run (v := .int .i64 (i : Int)) (wanted_none rfl) (gx_assign rfl rfl) ?_
      simp only [Act.put, List.setIfInBounds_toArray, List.set_cons_zero, List.set_cons_succ]
      refine wpList_run (v := .bool false) (wanted_none rfl) (gx_assign rfl rfl) ?_
      simp only [Act.put, List.setIfInBounds_toArray, List.set_cons_zero, List.set_cons_succ]
      have HT1 := Lib.hid ht1
      have HI1 := Lib.hid (HIN.out.still ht1)
      clear ht1
      go_upto_region 2 with fail
      refine wp_region_lit ?_
      refine wpList_run (v := .bool false) (wanted_none rfl) (exec_move rfl rfl) ?_
      simp only [Act.put, List.setIfInBounds_toArray, List.set_cons_zero, List.set_cons_succ]
      go_upto_region 6 with fail
      refine wp_region_lit ?_
      refine wpList_run (v := .pointer (some ⟨p, 0, none⟩)) (wanted_none rfl) (exec_move rfl rfl) ?_
      simp only [Act.put, List.setIfInBounds_toArray, List.set_cons_zero, List.set_cons_succ]
      have hw := lowest_walk (ks := ks) (HI1.out.at_ HP.out)
      rw [HL.out] at hw
      refine wpList_op rfl fun K9 HK9 => ?_
      go_wp2_with fail
      refine (hw).mono ?_
      rintro e w2 ⟨rfl, hw2⟩
      refine HK9.out _ _ ?_
      clear HK9
      try simp only [Act.put, List.setIfInBounds_toArray, List.set_cons_zero, List.set_cons_succ]
      subst hw2
      clear hw
      go_upto_region 9 with fail
      refine wp_region_lit ?_
      refine wpList_run (v := .pointer (some ⟨p, 0, none⟩)) (wanted_none rfl) (exec_move rfl rfl) ?_
      simp only [Act.put, List.setIfInBounds_toArray, List.set_cons_zero, List.set_cons_succ]
      refine wpList_run (v := .pointer (some ⟨p, 0, none⟩)) (wanted_none rfl) (exec_nil rfl rfl) ?_
      simp only [Act.put, List.setIfInBounds_toArray, List.set_cons_zero, List.set_cons_succ]
      refine wpList_run (v := .pointer (some ⟨p, 1, none⟩)) (wanted_none rfl) (exec_field (off := 0) (d := 1) rfl rfl (by kernel_rfl)) ?_
      simp only [Act.put, List.setIfInBounds_toArray, List.set_cons_zero, List.set_cons_succ]
      refine wpList_run (v := .slice (some ⟨b, 0, none⟩) n cc) (wanted_none rfl) (exec_load1 rfl rfl (by kernel_rfl) ((HI1.out.at_ HP.out).blk.cell 1)) ?_
      simp only [Act.put, List.setIfInBounds_toArray, List.set_cons_zero, List.set_cons_succ]
      refine wpList_run (v := .int .i64 (i : Int)) (wanted_none rfl) (exec_move rfl rfl) ?_
      simp only [Act.put, List.setIfInBounds_toArray, List.set_cons_zero, List.set_cons_succ]
      refine wpList_run (v := .pointer (some ⟨b, 0 + i * 1, none⟩)) (wanted_none rfl) (gx_iaddr (i := i) (sz := 1) rfl rfl rfl Try.underlying60 size_ptr HIN2.out rfl) ?_
      simp only [Act.put, List.setIfInBounds_toArray, List.set_cons_zero, List.set_cons_succ]
      refine wpList_run (v := .pointer (some ⟨x, 0, none⟩)) (wanted_none rfl) (exec_load1 rfl rfl (by kernel_rfl) (kid_cell (HI1.out.at_ HP.out) HKX.out)) ?_
      simp only [Act.put, List.setIfInBounds_toArray, List.set_cons_zero, List.set_cons_succ]
      refine wpList_run (v := strV k) (wanted_none rfl) (exec_move rfl rfl) ?_
      simp only [Act.put, List.setIfInBounds_toArray, List.set_cons_zero, List.set_cons_succ]
      refine wpList_run (v := .int .i64 v) (wanted_none rfl) (exec_move rfl rfl) ?_
      simp only [Act.put, List.setIfInBounds_toArray, List.set_cons_zero, List.set_cons_succ]
      refine wpList_run (v := .int .i64 (M : Int)) (wanted_none rfl) (exec_move rfl rfl) ?_
      simp only [Act.put, List.setIfInBounds_toArray, List.set_cons_zero, List.set_cons_succ]
      refine wpList_op rfl fun K9 HK9 => ?_
      go_wp2_with fail
      refine (HTR.out _ HT1.out).mono ?_
      rintro e w3 ⟨rfl, haf⟩
      refine HK9.out _ _ ?_
      clear HK9
      try simp only [Act.put, List.setIfInBounds_toArray, List.set_cons_zero, List.set_cons_succ]
      rw [← HCE.out] at haf
      obtain ⟨H3, G3, hx3⟩ := haf.x
      have hp3 := (hx3.off p HPX.out (Nat.lt_of_lt_of_le HPL.out HT1.out.size)).trans HP.out
      have HX3 := Lib.hid (HKD.out _ _ _ _ _ HT1.out hx3)
      obtain ⟨xk, Gx', hxi, _⟩ := hx3.tr.top
      have hkx := kid_len hx3.tr hxi HTN.out
      have hks2 : xk = [] ∨ xk.length = C.ps.length + 1 := by
        have h1 := hx3.tr
        have h2 := HTN.out
        clear HX3 HTP HKD HTR
        cases d with
        | zero => exact .inl (hxi.inj h1.1).2
        | succ d =>
          obtain ⟨ks', F', g1, g2, _⟩ := h1
          obtain ⟨_, e⟩ := hxi.inj g1
          right
          rw [e, g2.len]
          exact h2.2.2.1
      have HKS2 := Lib.hid hks2
      have HKX2 := Lib.hid hkx
      have HXI := Lib.hid hxi
      obtain ⟨vpx, vkx, hxi⟩ := hxi
      obtain ⟨Ax, cx, e9, _, _, _, _⟩ := (hx3.to.in_.at_ hxi).prs.form
      obtain ⟨nx, hnx⟩ : ∃ n, n = C.ps.length := ⟨_, rfl⟩
      replace e9 := e9.trans (show _ = Value.slice Ax nx cx from by rw [List.length_map, hnx])
      subst e9
      have HBX := Lib.hid (show Blk w3 x 62 #[.slice Ax nx cx, vkx] from (hx3.to.in_.at_ hxi).blk)
      have HI3 := Lib.hid hx3.to.in_
      have HP3 := Lib.hid hp3
      have HNX := Lib.hid hnx
      have HXG := Lib.hid hx3.tr.mem
      have HNP := Lib.hid (show p ≠ x from fun e => by
        have h3 := HX3.out.nd p
        have h4 := cnt_mem hx3.tr.mem
        rw [← e] at h4
        simp only [List.count_append, List.count_cons, beq_self_eq_true, if_true] at h3
        omega)
      have y2 : (nx : Int) ≤ 700 := by have := HTN.out.hi; have := HM7.out.1; omega
      clear haf hp3 hx3 hks2 hkx hxi hnx
      refine wpList_run (v := .tuple #[.int .i64 ((tget k c).getD 0), .bool (tget k c).isSome]) (wanted_none rfl) (exec_move rfl rfl) ?_
      simp only [Act.put, List.setIfInBounds_toArray, List.set_cons_zero, List.set_cons_succ]
      refine wpList_run (v := .int .i64 ((tget k c).getD 0)) (wanted_none rfl) (ix_extract rfl rfl rfl) ?_
      simp only [Act.put, List.setIfInBounds_toArray, List.set_cons_zero, List.set_cons_succ]
      refine wpList_run (v := .bool (tget k c).isSome) (wanted_none rfl) (ix_extract rfl rfl rfl) ?_
      simp only [Act.put, List.setIfInBounds_toArray, List.set_cons_zero, List.set_cons_succ]
      refine wpList_run (v := .int .i64 ((tget k c).getD 0)) (wanted_none rfl) (gx_assign rfl rfl) ?_
      simp only [Act.put, List.setIfInBounds_toArray, List.set_cons_zero, List.set_cons_succ]
      refine wpList_run (v := .bool (tget k c).isSome) (wanted_none rfl) (gx_assign rfl rfl) ?_
      simp only [Act.put, List.setIfInBounds_toArray, List.set_cons_zero, List.set_cons_succ]
      go_upto_region 10 with fail
      refine wp_region_lit ?_
      refine wpList_run (v := .pointer (some ⟨p, 0, none⟩)) (wanted_none rfl) (exec_move rfl rfl) ?_
      simp only [Act.put, List.setIfInBounds_toArray, List.set_cons_zero, List.set_cons_succ]
      refine wpList_run (v := .pointer (some ⟨p, 0, none⟩)) (wanted_none rfl) (exec_nil rfl rfl) ?_
      simp only [Act.put, List.setIfInBounds_toArray, List.set_cons_zero, List.set_cons_succ]
      refine wpList_run (v := .pointer (some ⟨p, 1, none⟩)) (wanted_none rfl) (exec_field (off := 0) (d := 1) rfl rfl (by kernel_rfl)) ?_
      simp only [Act.put, List.setIfInBounds_toArray, List.set_cons_zero, List.set_cons_succ]
      refine wpList_run (v := .slice (some ⟨b, 0, none⟩) n cc) (wanted_none rfl) (exec_load1 rfl rfl (by kernel_rfl) ((HI3.out.at_ HP3.out).blk.cell 1)) ?_
      simp only [Act.put, List.setIfInBounds_toArray, List.set_cons_zero, List.set_cons_succ]
      refine wpList_run (v := .int .i64 (i : Int)) (wanted_none rfl) (exec_move rfl rfl) ?_
      simp only [Act.put, List.setIfInBounds_toArray, List.set_cons_zero, List.set_cons_succ]
      refine wpList_run (v := .pointer (some ⟨b, 0 + i * 1, none⟩)) (wanted_none rfl) (gx_iaddr (i := i) (sz := 1) rfl rfl rfl Try.underlying60 size_ptr HIN2.out rfl) ?_
      simp only [Act.put, List.setIfInBounds_toArray, List.set_cons_zero, List.set_cons_succ]
      refine wpList_run (v := .pointer (some ⟨x, 0, none⟩)) (wanted_none rfl) (exec_load1 rfl rfl (by kernel_rfl) (kid_cell (HI3.out.at_ HP3.out) HKX.out)) ?_
      simp only [Act.put, List.setIfInBounds_toArray, List.set_cons_zero, List.set_cons_succ]
      refine wpList_run (v := .pointer (some ⟨x, 0, none⟩)) (wanted_none rfl) (exec_nil rfl rfl) ?_
      simp only [Act.put, List.setIfInBounds_toArray, List.set_cons_zero, List.set_cons_succ]
      refine wpList_run (v := .pointer (some ⟨x, 0, none⟩)) (wanted_none rfl) (exec_field (off := 0) (d := 0) rfl rfl (by kernel_rfl)) ?_
      simp only [Act.put, List.setIfInBounds_toArray, List.set_cons_zero, List.set_cons_succ]
      refine wpList_run (v := .slice Ax nx cx) (wanted_none rfl) (exec_load1 rfl rfl (by kernel_rfl) (HBX.out.cell 0)) ?_
      simp only [Act.put, List.setIfInBounds_toArray, List.set_cons_zero, List.set_cons_succ]
      refine wpList_run (v := .int .i64 (nx : Int)) (wanted_none rfl) (gx_len rfl rfl Try.underlying59) ?_
      simp only [Act.put, List.setIfInBounds_toArray, List.set_cons_zero, List.set_cons_succ]
      refine wpList_run (v := .int .i64 (M : Int)) (wanted_none rfl) (exec_move rfl rfl) ?_
      simp only [Act.put, List.setIfInBounds_toArray, List.set_cons_zero, List.set_cons_succ]
      by_cases hov : M < nx
      · have HE := Lib.hid (show tput k v M t = nodeT (t.1.take i ++ splitM C :: t.1.drop i) (t.2.take i ++ splitL C :: splitR C :: t.2.drop (i + 1)) from HTP.out.trans (if_pos (by rw [← HNX.out]; exact hov)))
        obtain ⟨y, hy⟩ : ∃ y, C.ps[C.ps.length / 2]? = some y := ⟨_, List.getElem?_eq_getElem (show C.ps.length / 2 < C.ps.length by have := HNX.out; omega)⟩
        have HY := Lib.hid (show splitM C = y from by unfold splitM; rw [hy]; rfl)
        have HSW := Lib.hid (split_walk HI3.out HXI.out hy (by have := HNX.out; omega) HKS2.out)
        refine wpList_run (v := .bool true) (wanted_none rfl) (ix_gtr rfl rfl rfl (decide_eq_true (by omega))) ?_
        simp only [Act.put, List.setIfInBounds_toArray, List.set_cons_zero, List.set_cons_succ]
        clear hov hy
        go_upto_region 11 with fail
        refine wp_region_lit ?_
        refine wpList_run (v := .pointer (some ⟨p, 0, none⟩)) (wanted_none rfl) (exec_move rfl rfl) ?_
        simp only [Act.put, List.setIfInBounds_toArray, List.set_cons_zero, List.set_cons_succ]
        refine wpList_run (v := .pointer (some ⟨p, 0, none⟩)) (wanted_none rfl) (exec_nil rfl rfl) ?_
        simp only [Act.put, List.setIfInBounds_toArray, List.set_cons_zero, List.set_cons_succ]
        refine wpList_run (v := .pointer (some ⟨p, 1, none⟩)) (wanted_none rfl) (exec_field (off := 0) (d := 1) rfl rfl (by kernel_rfl)) ?_
        simp only [Act.put, List.setIfInBounds_toArray, List.set_cons_zero, List.set_cons_succ]
        refine wpList_run (v := .slice (some ⟨b, 0, none⟩) n cc) (wanted_none rfl) (exec_load1 rfl rfl (by kernel_rfl) ((HI3.out.at_ HP3.out).blk.cell 1)) ?_
        simp only [Act.put, List.setIfInBounds_toArray, List.set_cons_zero, List.set_cons_succ]
        refine wpList_run (v := .int .i64 (i : Int)) (wanted_none rfl) (exec_move rfl rfl) ?_
        simp only [Act.put, List.setIfInBounds_toArray, List.set_cons_zero, List.set_cons_succ]
        refine wpList_run (v := .pointer (some ⟨b, 0 + i * 1, none⟩)) (wanted_none rfl) (gx_iaddr (i := i) (sz := 1) rfl rfl rfl Try.underlying60 size_ptr HIN2.out rfl) ?_
        simp only [Act.put, List.setIfInBounds_toArray, List.set_cons_zero, List.set_cons_succ]
        refine wpList_run (v := .pointer (some ⟨x, 0, none⟩)) (wanted_none rfl) (exec_load1 rfl rfl (by kernel_rfl) (kid_cell (HI3.out.at_ HP3.out) HKX.out)) ?_
        simp only [Act.put, List.setIfInBounds_toArray, List.set_cons_zero, List.set_cons_succ]
        refine wpList_op rfl fun K9 HK9 => ?_
        go_wp2_with fail
        refine (HSW.out).mono ?_
        rintro e w4 ⟨r, H4, rfl, hgr, hto, jx, jr, hs4⟩
        refine HK9.out _ _ ?_
        clear HK9
        try simp only [Act.put, List.setIfInBounds_toArray, List.set_cons_zero, List.set_cons_succ]
        have HRP := Lib.hid (show p ≠ r from fun e => by have := (HI3.out.at_ HP3.out).blk.lt; omega)
        have HP4 := Lib.hid ((hs4 p (by rintro (e | e); exact HNP.out e; exact HRP.out e)).trans HP3.out)
        have HT4 := Lib.hid hto
        have HJX := Lib.hid jx
        have HJR := Lib.hid jr
        have HS4 := Lib.hid hs4
        have HGR := Lib.hid hgr
        have HI4 := Lib.hid hto.in_
        clear hto jx jr hs4 hgr
        refine wpList_run (v := .tuple #[.agg (encP y).toArray, .pointer (some ⟨r, 0, none⟩)]) (wanted_none rfl) (exec_move rfl rfl) ?_
        simp only [Act.put, List.setIfInBounds_toArray, List.set_cons_zero, List.set_cons_succ]
        refine wpList_run (v := .agg (encP y).toArray) (wanted_none rfl) (ix_extract rfl rfl rfl) ?_
        simp only [Act.put, List.setIfInBounds_toArray, List.set_cons_zero, List.set_cons_succ]
        refine wpList_run (v := .pointer (some ⟨r, 0, none⟩)) (wanted_none rfl) (ix_extract rfl rfl rfl) ?_
        simp only [Act.put, List.setIfInBounds_toArray, List.set_cons_zero, List.set_cons_succ]
        refine wpList_new 65 (.tmp 15) (.tmp 93) (encP y).toArray (wanted_none rfl) rfl (zero_pair _) rfl (wanted_none rfl) rfl rfl rfl rfl (by rw [size_pair]; rfl) (fun v hv => encP_one y v (by simpa using hv)) ?_
        intro w5 g5 hge hb5 ht5
        simp only [Act.put, List.setIfInBounds_toArray, List.set_cons_zero, List.set_cons_succ]
        have HB5 := Lib.hid hb5
        have HT5 := Lib.hid ht5
        have HI5 := Lib.hid (HI4.out.still ht5)
        clear hge hb5 ht5
        refine wpList_run (v := .pointer (some ⟨r, 0, none⟩)) (wanted_none rfl) (gx_assign rfl rfl) ?_
        simp only [Act.put, List.setIfInBounds_toArray, List.set_cons_zero, List.set_cons_succ]
        go_upto_region 12 with fail
        refine wp_region_till (fun W => Blk W p 62 #[.slice A2 n0 c2, .slice (some ⟨b, 0, none⟩) n cc]) 9 (by kernel_rfl) ?_
        have HD := Lib.hid ((Turn.refl nowhere w5).drew)
        have hS0 : Blk w5.drew p 62 #[.slice A2 n0 c2, .slice (some ⟨b, 0, none⟩) n cc] := (HI5.out.at_ HP4.out).blk
        refine till_take (i := 0) (v := .pointer (some ⟨p, 0, none⟩)) rfl (by kernel_rfl) (by kernel_rfl) (fun _ _ _ h => h) (.inl ⟨by rfl, fun W hW => exec_move rfl rfl⟩) hS0 ?_
        simp only [Act.put, List.setIfInBounds_toArray, List.set_cons_zero, List.set_cons_succ]
        refine till_take (i := 1) (v := .pointer (some ⟨p, 0, none⟩)) rfl (by kernel_rfl) (by kernel_rfl) (fun _ _ _ h => h) (.inl ⟨by rfl, fun W hW => exec_move rfl rfl⟩) hS0 ?_
        simp only [Act.put, List.setIfInBounds_toArray, List.set_cons_zero, List.set_cons_succ]
        refine till_take (i := 2) (v := .pointer (some ⟨p, 0, none⟩)) rfl (by kernel_rfl) (by kernel_rfl) (fun _ _ _ h => h) (.inl ⟨by rfl, fun W hW => exec_nil rfl rfl⟩) hS0 ?_
        simp only [Act.put, List.setIfInBounds_toArray, List.set_cons_zero, List.set_cons_succ]
        refine till_take (i := 3) (v := .pointer (some ⟨p, 0, none⟩)) rfl (by kernel_rfl) (by kernel_rfl) (fun _ _ _ h => h) (.inl ⟨by rfl, fun W hW => exec_field (off := 0) (d := 0) rfl rfl (by kernel_rfl)⟩) hS0 ?_
        simp only [Act.put, List.setIfInBounds_toArray, List.set_cons_zero, List.set_cons_succ]
        refine till_take (i := 4) (v := .slice A2 n0 c2) rfl (by kernel_rfl) (by kernel_rfl) (fun _ _ _ h => h) (.inl ⟨by rfl, fun W hW => exec_load1 rfl rfl (by kernel_rfl) (hW.cell 0)⟩) hS0 ?_
        simp only [Act.put, List.setIfInBounds_toArray, List.set_cons_zero, List.set_cons_succ]
        refine till_take (i := 5) (v := .int .i64 (i : Int)) rfl (by kernel_rfl) (by kernel_rfl) (fun _ _ _ h => h) (.inl ⟨by rfl, fun W hW => exec_move rfl rfl⟩) hS0 ?_
        simp only [Act.put, List.setIfInBounds_toArray, List.set_cons_zero, List.set_cons_succ]
        refine till_step (i := 6) (by kernel_rfl) rfl rfl ?_
        intro K1 HK1
        refine wp_run (v := .agg (encP y).toArray) (gx_loads rfl rfl (blk_range HB5.out.drew) Try.underlying65 rfl (by rw [size_pair]; rfl)) ?_
        refine HK1.out _ _ ⟨fun _ => hS0, ?_⟩
        clear HK1
        simp only [Act.put, List.setIfInBounds_toArray, List.set_cons_zero, List.set_cons_succ]
        have hb2 := Blk.new w5.drew 65 (encP y).toArray
        have ht6 := (Turn.refl nowhere w5.drew).alloc (.cells (encP y).toArray 65)
        obtain ⟨g2, hg2⟩ : ∃ q, q = w5.drew.heap.size := ⟨_, rfl⟩
        have hS6 : Blk (w5.drew.alloc (.cells (encP y).toArray 65)) p 62 #[.slice A2 n0 c2, .slice (some ⟨b, 0, none⟩) n cc] := hS0.alloc _
        have hbld := build_oneP y w5.drew
        rw [← hg2] at hb2 hbld
        generalize w5.drew.alloc (.cells (encP y).toArray 65) = w6 at *
        refine till_step (i := 7) (by kernel_rfl) rfl rfl ?_
        intro K1 HK1
        refine wp_run (v := .slice (some ⟨g2, 0, none⟩) 1 1) (w' := w6) (exec_buildSlice1 rfl rfl hbld) ?_
        refine HK1.out _ _ ⟨fun _ => hS6, ?_⟩
        clear HK1
        simp only [Act.put, List.setIfInBounds_toArray, List.set_cons_zero, List.set_cons_succ]
        have HBG := Lib.hid hb2
        have HT6 := Lib.hid (HD.out.trans ht6 fun _ _ e => e)
        have HI6 := Lib.hid (HI5.out.still HT6.out)
        have HGN2 := Lib.hid (show (Value.slice A2 n0 c2).ownBlock ≠ some g2 from fun e => by
          have := (HI5.out.at_ HP4.out).prs.lt e
          have h9 : w5.drew.heap.size = w5.heap.size := rfl
          omega)
        clear hb2 ht6 hbld hg2
        refine till_step (i := 8) (by kernel_rfl) rfl rfl ?_
        intro K1 HK1
        go_wp2_with fail
        refine (InsertP (i := i) (HI6.out.at_ HP4.out).prs (by rw [List.length_map]; exact HN0.out.symm) HIN0.out HBG.out rfl (encP_one y) HGN2.out (by have := HM7.out; omega)).mono ?_
        rintro e w7 ⟨v7, rfl, hrow, hto⟩
        have hS7 : Blk w7 p 62 #[.slice A2 n0 c2, .slice (some ⟨b, 0, none⟩) n cc] := HI6.out.blkP HP4.out HP4.out hto.1
        refine HK1.out _ _ ⟨fun _ => hS7, ?_⟩
        clear HK1
        try simp only [Act.put, List.setIfInBounds_toArray, List.set_cons_zero, List.set_cons_succ]
        refine till_tail 9 rfl (by kernel_rfl) ?_
        refine wpList_run (v := .pointer (some ⟨p, 0, none⟩)) (wanted_none rfl) (exec_nil rfl rfl) ?_
        simp only [Act.put, List.setIfInBounds_toArray, List.set_cons_zero, List.set_cons_succ]
        refine wpList_run (v := .pointer (some ⟨p, 0, none⟩)) (wanted_none rfl) (exec_field (off := 0) (d := 0) rfl rfl (by kernel_rfl)) ?_
        simp only [Act.put, List.setIfInBounds_toArray, List.set_cons_zero, List.set_cons_succ]
        refine wpList_storeU 0 v7 rfl 59 _ _ rfl hS7 rfl rfl (by show 0 < 2; omega) (slice_one hrow) size_sP ?_
        intro w8 hb8 ht8
        have h24 := HI6.out.setP (ps' := t.1.take i ++ y :: t.1.drop i) HP4.out hto.1 hto.2 ht8 hb8 (by
          have h := hrow
          rw [ins_map] at h
          exact h)
        have HT8 := Lib.hid ((To.still HI4.out HT5.out).trans ((To.still HI5.out HT6.out).trans h24))
        clear hrow hto hb8 ht8 h24 hS7 hS6 hS0
        refine wpList_nil ?_
        refine NoPanic.normal ?_
        try simp only [Act.put, List.setIfInBounds_toArray, List.set_cons_zero, List.set_cons_succ]
        obtain ⟨H8, hH8⟩ : ∃ q, q = up H4 p ⟨t.1.take i ++ y :: t.1.drop i, ks, v7, .slice (some ⟨b, 0, none⟩) n cc⟩ := ⟨_, rfl⟩
        have HP8 := Lib.hid (show H8 p = some ⟨t.1.take i ++ y :: t.1.drop i, ks, v7, .slice (some ⟨b, 0, none⟩) n cc⟩ from by rw [hH8]; exact up_same _ _ _)
        have HS8 := Lib.hid (show Same H4 H8 (fun q => q = p) from by rw [hH8]; exact same_up _ _ _)
        rw [← hH8] at HT8
        clear hH8
        have HI8 := Lib.hid HT8.out.in_
        obtain ⟨i1, hi1⟩ : ∃ i1, i1 = i + 1 := ⟨_, rfl⟩
        have HI1E := Lib.hid hi1
        have z1 : (i1 : Int) ≤ (i : Int) + 1 := by omega
        have z2 : (i : Int) + 1 ≤ (i1 : Int) := by omega
        have z3 : (i1 : Int) ≤ 800 := by have := HIN2.out; have := HM7.out; omega
        clear hi1
        go_upto_region 13 with fail
        refine wp_region_lit ?_
        refine wpList_run (v := .pointer (some ⟨p, 0, none⟩)) (wanted_none rfl) (exec_move rfl rfl) ?_
        simp only [Act.put, List.setIfInBounds_toArray, List.set_cons_zero, List.set_cons_succ]
        refine wpList_run (v := .pointer (some ⟨p, 0, none⟩)) (wanted_none rfl) (exec_move rfl rfl) ?_
        simp only [Act.put, List.setIfInBounds_toArray, List.set_cons_zero, List.set_cons_succ]
        refine wpList_run (v := .pointer (some ⟨p, 0, none⟩)) (wanted_none rfl) (exec_nil rfl rfl) ?_
        simp only [Act.put, List.setIfInBounds_toArray, List.set_cons_zero, List.set_cons_succ]
        refine wpList_run (v := .pointer (some ⟨p, 1, none⟩)) (wanted_none rfl) (exec_field (off := 0) (d := 1) rfl rfl (by kernel_rfl)) ?_
        simp only [Act.put, List.setIfInBounds_toArray, List.set_cons_zero, List.set_cons_succ]
        refine wpList_run (v := .slice (some ⟨b, 0, none⟩) n cc) (wanted_none rfl) (exec_load1 rfl rfl (by kernel_rfl) ((HI8.out.at_ HP8.out).blk.cell 1)) ?_
        simp only [Act.put, List.setIfInBounds_toArray, List.set_cons_zero, List.set_cons_succ]
        refine wpList_run (v := .int .i64 (i : Int)) (wanted_none rfl) (exec_move rfl rfl) ?_
        simp only [Act.put, List.setIfInBounds_toArray, List.set_cons_zero, List.set_cons_succ]
        refine wpList_run (v := .int .i64 (i1 : Int)) (wanted_none rfl) (ix_add rfl rfl rfl (by omega) (by omega)) ?_
        simp only [Act.put, List.setIfInBounds_toArray, List.set_cons_zero, List.set_cons_succ]
        refine wpList_run (v := .pointer (some ⟨r, 0, none⟩)) (wanted_none rfl) (exec_move rfl rfl) ?_
        simp only [Act.put, List.setIfInBounds_toArray, List.set_cons_zero, List.set_cons_succ]
        have hb2 := Blk.new w8 56 (encK r).toArray
        have ht9 := (Turn.refl nowhere w8).alloc (.cells (encK r).toArray 56)
        obtain ⟨g3, hg3⟩ : ∃ q, q = w8.heap.size := ⟨_, rfl⟩
        have hbld := build_oneK r w8
        rw [← hg3] at hb2 hbld
        generalize w8.alloc (.cells (encK r).toArray 56) = w9 at *
        refine wpList_run (v := .slice (some ⟨g3, 0, none⟩) 1 1) (w' := w9) (wanted_none rfl) (exec_buildSlice1 rfl rfl hbld) ?_
        simp only [Act.put, List.setIfInBounds_toArray, List.set_cons_zero, List.set_cons_succ]
        have HBG3 := Lib.hid hb2
        have HT9 := Lib.hid ht9
        have HI9 := Lib.hid (HI8.out.still ht9)
        have HGN3 := Lib.hid (show (.slice (some ⟨b, 0, none⟩) n cc : Value).ownBlock ≠ some g3 from fun e => by
          have := (HI8.out.at_ HP8.out).kds.lt e
          omega)
        clear hb2 ht9 hbld hg3
        refine wpList_op rfl fun K9 HK9 => ?_
        go_wp2_with fail
        refine (InsertK (i := i1) (HI9.out.at_ HP8.out).kds (by rw [List.length_map]; exact HN.out.symm) (by have := HI1E.out; have := HIN2.out; omega) HBG3.out rfl (encK_one r) HGN3.out (by have := HM7.out; omega)).mono ?_
        rintro e w10 ⟨v10, rfl, hrow, hto⟩
        refine HK9.out _ _ ?_
        clear HK9
        try simp only [Act.put, List.setIfInBounds_toArray, List.set_cons_zero, List.set_cons_succ]
        have hS10 : Blk w10 p 62 #[v7, .slice (some ⟨b, 0, none⟩) n cc] := HI9.out.blkK HP8.out HP8.out hto.1
        refine wpList_run (v := .pointer (some ⟨p, 0, none⟩)) (wanted_none rfl) (exec_nil rfl rfl) ?_
        simp only [Act.put, List.setIfInBounds_toArray, List.set_cons_zero, List.set_cons_succ]
        refine wpList_run (v := .pointer (some ⟨p, 1, none⟩)) (wanted_none rfl) (exec_field (off := 0) (d := 1) rfl rfl (by kernel_rfl)) ?_
        simp only [Act.put, List.setIfInBounds_toArray, List.set_cons_zero, List.set_cons_succ]
        refine wpList_storeU 1 v10 (wanted_none rfl) 60 _ _ rfl hS10 rfl rfl (by show 1 < 2; omega) (slice_one hrow) size_sK ?_
        intro w11 hb11 ht11
        simp only [Act.put, List.setIfInBounds_toArray, List.set_cons_zero, List.set_cons_succ]
        have h24 := HI9.out.setK (ks' := ks.take i1 ++ r :: ks.drop i1) HP8.out hto.1 hto.2 ht11 hb11 (by
          have h := hrow
          rw [ins_map] at h
          exact h)
        have hto11 := HT4.out.trans (HT8.out.trans ((To.still HI8.out HT9.out).trans h24))
        have hs11 := same_up H8 p ⟨t.1.take i ++ y :: t.1.drop i, ks.take i1 ++ r :: ks.drop i1, v7, v10⟩
        have hp11 : Is (up H8 p ⟨t.1.take i ++ y :: t.1.drop i, ks.take i1 ++ r :: ks.drop i1, v7, v10⟩) p (t.1.take i ++ y :: t.1.drop i) (ks.take (i + 1) ++ r :: ks.drop (i + 1)) := ⟨v7, v10, by rw [up_same, HI1E.out]⟩
        have hsA : Same H4 (up H8 p ⟨t.1.take i ++ y :: t.1.drop i, ks.take i1 ++ r :: ks.drop i1, v7, v10⟩) (fun q => q = p) := HS8.out.trans hs11 (fun _ e => e) fun _ e => e
        have hfin := after_split (t := nodeT t.1 (t.2.set i C)) (i := i) (c := C) (ps' := t.1.take i ++ y :: t.1.drop i) HI3.out HX3.out.tr HX3.out.nd (by show (t.2.set i C)[i]? = some C; rw [List.getElem?_set_self HIL.out]) ⟨_, _, HP3.out⟩ HKX.out HXI.out HGR.out hto11 hp11
          (HJX.out.same hsA fun e => HNP.out e.symm) (HJR.out.same hsA fun e => HRP.out e.symm) (HS4.out.trans hsA (fun q e => .inr e) fun q e => .inl e)
        obtain ⟨H12, F12, hx12⟩ := hfin.x
        have HX12 := Lib.hid (HX3.out.trans hx12)
        clear hrow hto hb11 ht11 h24 hto11 hs11 hp11 hsA hfin hx12 hS10
        have HLE := Lib.hid (show nodeT (t.1.take i ++ y :: t.1.drop i) ((nodeT t.1 (t.2.set i C)).2.take i ++ splitL C :: splitR C :: (nodeT t.1 (t.2.set i C)).2.drop (i + 1)) = nodeT (t.1.take i ++ splitM C :: t.1.drop i) (t.2.take i ++ splitL C :: splitR C :: t.2.drop (i + 1)) from by
          rw [HY.out]
          show nodeT _ ((t.2.set i C).take i ++ _ :: _ :: (t.2.set i C).drop (i + 1)) = _
          rw [List.take_set_of_le (Nat.le_refl _), List.drop_set_of_lt (Nat.lt_succ_self _)])
        go_upto_region 14 with fail
        refine wp_region_lit ?_
        refine wpList_run (v := .int .i64 ((tget k c).getD 0)) (wanted_none rfl) (exec_move rfl rfl) ?_
        simp only [Act.put, List.setIfInBounds_toArray, List.set_cons_zero, List.set_cons_succ]
        refine wpList_run (v := .bool (tget k c).isSome) (wanted_none rfl) (exec_move rfl rfl) ?_
        simp only [Act.put, List.setIfInBounds_toArray, List.set_cons_zero, List.set_cons_succ]
        refine wpList_run (v := .int .i64 ((tget k c).getD 0)) (wanted_none rfl) (gx_assign rfl rfl) ?_
        simp only [Act.put, List.setIfInBounds_toArray, List.set_cons_zero, List.set_cons_succ]
        refine wpList_run (v := .bool (tget k c).isSome) (wanted_none rfl) (gx_assign rfl rfl) ?_
        simp only [Act.put, List.setIfInBounds_toArray, List.set_cons_zero, List.set_cons_succ]
        go_wp2_with fail
        go_ret2
        rw [HGN.out, HE.out, ← HLE.out]
        exact ⟨rfl, (AfterX.pre HIN.out HT1.out HX12.out).a⟩
      · have HE := Lib.hid (show tput k v M t = nodeT t.1 (t.2.set i C) from HTP.out.trans (if_neg (by rw [← HNX.out]; exact hov)))
        refine wpList_run (v := .bool false) (wanted_none rfl) (ix_gtr rfl rfl rfl (decide_eq_false (by omega))) ?_
        simp only [Act.put, List.setIfInBounds_toArray, List.set_cons_zero, List.set_cons_succ]
        clear hov
        go_upto_region 14 with fail
        refine wp_region_lit ?_
        refine wpList_run (v := .int .i64 ((tget k c).getD 0)) (wanted_none rfl) (exec_move rfl rfl) ?_
        simp only [Act.put, List.setIfInBounds_toArray, List.set_cons_zero, List.set_cons_succ]
        refine wpList_run (v := .bool (tget k c).isSome) (wanted_none rfl) (exec_move rfl rfl) ?_
        simp only [Act.put, List.setIfInBounds_toArray, List.set_cons_zero, List.set_cons_succ]
        refine wpList_run (v := .int .i64 ((tget k c).getD 0)) (wanted_none rfl) (gx_assign rfl rfl) ?_
        simp only [Act.put, List.setIfInBounds_toArray, List.set_cons_zero, List.set_cons_succ]
        refine wpList_run (v := .bool (tget k c).isSome) (wanted_none rfl) (gx_assign rfl rfl) ?_
        simp only [Act.put, List.setIfInBounds_toArray, List.set_cons_zero, List.set_cons_succ]
        go_wp2_with fail
        go_ret2
        rw [HGN.out, HE.out]
        exact ⟨rfl, (AfterX.pre HIN.out HT1.out HX3.out).a⟩
end Go.Proofs.Ytmlkdkbpbleilaa

namespace Go.Proofs.Ytmlkdkbpbleilaa
open Go.RowKit
open Ix
set_option linter.unusedVariables false
set_option linter.unusedSimpArgs false
theorem lput_len {k : Key} {v : Int} {l : List Pr} (hs : Srt l) : (lput k v l).length = l.length + (if (lget k l).isSome then 0 else 1) := by
  rw [lput_at hs, lget_at hs]
  have hle := fnd_le k l
  cases hp : l[fnd k l]? with
  | none =>
    rw [if_neg (by simp)]
    simp only [List.length_append, List.length_cons, List.length_take, List.length_drop]
    simp
    omega
  | some p =>
    by_cases e : p.1 = k
    · rw [if_pos (by rw [← e]; rfl), List.length_set]
      simp [e]
    · rw [if_neg (by intro h; exact e (by simpa using h))]
      simp only [List.length_append, List.length_cons, List.length_take, List.length_drop]
      simp [e]
      omega
theorem lget_none_abo {k : Key} : ∀ {l : List Pr}, Abo l k → lget k l = none
  | [], _ => rfl
  | p :: l, h => by
    show (if p.1 = k then _ else lget k l) = none
    rw [if_neg (fun e => klt_ne (h p (List.mem_cons_self ..)) e.symm)]
    exact lget_none_abo fun q hq => h q (List.mem_cons_of_mem _ hq)
theorem ldrop_len {k : Key} : ∀ {l : List Pr}, Srt l → (ldrop k l).length + (if (lget k l).isSome then 1 else 0) = l.length
  | [], _ => rfl
  | p :: l, hs => by
    obtain ⟨h1, h2⟩ := List.pairwise_cons.1 hs
    by_cases e : p.1 = k
    · have ha : Abo l k := fun q hq => by rw [← e]; exact h1 q hq
      have e1 : ldrop k (p :: l) = l := by
        unfold ldrop
        rw [List.filter_cons_of_neg (by simp [e])]
        exact ldrop_abo ha
      have e2 : lget k (p :: l) = some p.2 := if_pos e
      rw [e1, e2]
      rfl
    · have e1 : ldrop k (p :: l) = p :: ldrop k l := by
        unfold ldrop
        rw [List.filter_cons_of_pos (by simp [e])]
      have e2 : lget k (p :: l) = lget k l := if_neg e
      rw [e1, e2, List.length_cons, List.length_cons, ← ldrop_len (k := k) h2]
      omega
theorem lput_srt {k : Key} {v : Int} {l : List Pr} (hs : Srt l) : Srt (lput k v l) := by
  induction l with
  | nil => exact List.pairwise_singleton ..
  | cons p l ih =>
    obtain ⟨h1, h2⟩ := List.pairwise_cons.1 hs
    show Srt (if p.1 = k then (k, v) :: l else if klt k p.1 = true then (k, v) :: p :: l else p :: lput k v l)
    by_cases e : p.1 = k
    · rw [if_pos e]
      exact List.pairwise_cons.2 ⟨fun q hq => by rw [← e]; exact h1 q hq, h2⟩
    · rw [if_neg e]
      by_cases g : klt k p.1 = true
      · rw [if_pos g]
        refine List.pairwise_cons.2 ⟨fun q hq => ?_, hs⟩
        rcases List.mem_cons.1 hq with rfl | hq
        · exact g
        · exact klt_tr g (h1 q hq)
      · rw [if_neg g]
        have hpk : klt p.1 k = true := by
          cases h : klt p.1 k with
          | true => rfl
          | false => exact absurd (klt_eq h (by simpa using g)) e
        refine List.pairwise_cons.2 ⟨fun q hq => ?_, ih h2⟩
        have : ∀ (l : List Pr) q, q ∈ lput k v l → q = (k, v) ∨ q ∈ l := by
          intro l
          induction l with
          | nil => intro q hq; exact .inl (by simpa [lput] using hq)
          | cons a l ih2 =>
            intro q hq
            have hq : q ∈ (if a.1 = k then (k, v) :: l else if klt k a.1 = true then (k, v) :: a :: l else a :: lput k v l) := hq
            split at hq
            · rcases List.mem_cons.1 hq with h | h
              · exact .inl h
              · exact .inr (List.mem_cons_of_mem _ h)
            · split at hq
              · rcases List.mem_cons.1 hq with h | h
                · exact .inl h
                · exact .inr h
              · rcases List.mem_cons.1 hq with h | h
                · exact .inr (by rw [h]; exact List.mem_cons_self ..)
                · rcases ih2 q h with h | h
                  · exact .inl h
                  · exact .inr (List.mem_cons_of_mem _ h)
        rcases this l q hq with rfl | h
        · exact hpk
        · exact h1 q h
theorem ldrop_srt {k : Key} {l : List Pr} (hs : Srt l) : Srt (ldrop k l) := List.Pairwise.sublist List.filter_sublist hs
/-- what the top of an index is -/
def Top (H : Hp) (M : Nat) (top : Value) (l : List Pr) : Prop :=
  (top = .pointer none ∧ l = []) ∨ ∃ (d p : Nat) (t : Tr d) (F : List Nat), top = .pointer (some ⟨p, 0, none⟩) ∧ TrAt H p t F ∧ Nd1 F ∧ Nd (M / 2) M 1 M t ∧ Srt (flat t) ∧ flat t = l
/-- an index at x: its order M, what it holds, no more than N calls so far -/
structure Idx (w : World) (x : Nat) (H : Hp) (M : Nat) (l : List Pr) (N : Nat) : Prop where
  hin : In w H
  ord : 2 ≤ M ∧ M ≤ 64
  blk : ∃ (top : Value) (ch : Nat), Blk w x 58 #[.int .i64 (M : Int), top, .int .i64 (l.length : Int), .int .i64 (ch : Int)] ∧ ch ≤ N ∧ Top H M top l
  cnt : l.length ≤ N
  big : N ≤ 1099511627776
def own (x : Nat) (H : Hp) : Nat → Prop := fun b => b = x ∨ foot H b
theorem Idx.lt {w : World} {x : Nat} {H : Hp} {M N : Nat} {l : List Pr} (h : Idx w x H M l N) {b : Nat} (hb : own x H b) : b < w.heap.size := by
  rcases hb with rfl | hb
  · obtain ⟨_, _, hb, _⟩ := h.blk
    exact hb.lt
  · exact h.hin.foot_lt hb
theorem Idx.turn {w w' : World} {x : Nat} {H : Hp} {M N : Nat} {l : List Pr} {G : Nat → Prop} (h : Idx w x H M l N) (ht : Turn G w w') (hG : ∀ b, G b → ¬ own x H b) : Idx w' x H M l N := by
  obtain ⟨top, ch, h1, h2, h3⟩ := h.blk
  exact ⟨h.hin.turn ht fun b e f => hG b e (.inr f), h.ord, ⟨top, ch, h1.turn ht fun e => hG x e (.inl rfl), h2, h3⟩, h.cnt, h.big⟩
theorem Idx.still {w w' : World} {x : Nat} {H : Hp} {M N : Nat} {l : List Pr} (h : Idx w x H M l N) (ht : Turn nowhere w w') : Idx w' x H M l N := h.turn ht fun _ e => e.elim
/-- no node is the index, none of its rows -/
theorem In.off {w : World} {H : Hp} (h : In w H) {x : Nat} {cs : Array Value} (hb : Blk w x 58 cs) : ¬ foot H x := by
  rintro ⟨p, nd, hp, e | e | e⟩
  · subst e
    exact (h.at_ hp).blk.ne_ hb (by decide) rfl
  · exact (h.at_ hp).prs.ne hb (by decide) _ e rfl
  · exact (h.at_ hp).kds.ne hb (by decide) _ e rfl
theorem TrAt.root {H : Hp} {d : Nat} {p : Nat} {t : Tr d} {F : List Nat} (h : TrAt H p t F) : ∃ vp vk ks, H p = some ⟨t.ps, ks, vp, vk⟩ := by
  obtain ⟨ks, _, ⟨vp, vk, h⟩, _⟩ := h.top
  exact ⟨vp, vk, ks, h⟩
theorem tput_pos {k : Key} {v : Int} {m M lo hi : Nat} (hm : m = M / 2) (h2 : 2 ≤ M) : ∀ {d : Nat} {t : Tr d}, Nd m M lo hi t → Srt (flat t) → (1 ≤ lo ∨ d = 0) → 1 ≤ (tput k v M t).ps.length
  | 0, t, hn, hs, _ => by
    obtain ⟨h1, _⟩ := tput_ok (k := k) (n := v) hm h2 hn hs
    have h1 : (tput k v M t).1 = lput k v t.1 := h1
    show 1 ≤ (tput k v M t).1.length
    rw [h1, lput_at (show Srt t.1 from hs)]
    split
    · rename_i h
      obtain ⟨p, hp, _⟩ := Option.map_eq_some_iff.1 h
      have := (List.getElem?_eq_some_iff.1 hp).1
      rw [List.length_set]
      omega
    · rw [List.length_append, List.length_cons]; omega
  | d + 1, t, hn, hs, h => by
    obtain ⟨_, h1⟩ := tput_ok (k := k) (n := v) hm h2 hn hs
    have := h1.lo
    rcases h with h | h
    · omega
    · cases h
end Go.Proofs.Ytmlkdkbpbleilaa
