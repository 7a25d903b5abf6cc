/-
  Index: Drop, Get, Len, Depth: the walks. No conditions.
-/
import Derived.Test.YtmlkdkbpbleilaaIyD
namespace Go.Proofs.Ytmlkdkbpbleilaa
open Go.RowKit
open Ix
set_option linter.unusedVariables false
set_option linter.unusedSimpArgs false
set_option maxRecDepth 20000 in
set_option maxHeartbeats 16000000 in
theorem Drop_walk {w : World} {x : Nat} {H : Hp} {M N : Nat} {l : List Pr} {k : Key} (h : Idx w x H M l N) (hN : N < 1099511627776) :
    Calls Try.prog 12 #[.pointer (some ⟨x, 0, none⟩), strV k] w fun e w' => e = .returned (retV (lget k l)) ∧ IdxTo w x H M (ldrop k l) (N + 1) w' := by
  have HI := Lib.hid h
  obtain ⟨top, ch, hb, hch, htop⟩ := h.blk
  have HO := Lib.hid h.ord
  have HB := Lib.hid hb
  have HIN := Lib.hid h.hin
  have HCN := Lib.hid (show l.length ≤ N ∧ ch ≤ N ∧ N < 1099511627776 from ⟨h.cnt, hch, hN⟩)
  have y1 : (M : Int) ≤ 64 := by have := h.ord; omega
  have y2 : (l.length : Int) ≤ 1099511627776 := by have := h.cnt; omega
  have y3 : (ch : Int) ≤ 1099511627776 := by omega
  obtain ⟨cn, hcn⟩ : ∃ cn, cn = l.length := ⟨_, rfl⟩
  rw [← hcn] at y2
  have HCE := Lib.hid hcn
  rw [← hcn] at HB
  clear h hb hch hN hcn
  rcases htop with ⟨rfl, hl⟩ | ⟨d, p, t, F, rfl, ht, hnd, hnb, hsr, hfl⟩
  · have HL0 := Lib.hid hl
    clear hl
    go_enter Try.func12, Try.ntmps12
    go_upto_region 1 with fail
    refine wp_region_lit ?_
    refine wpList_run (v := .pointer (some ⟨x, 0, none⟩)) (wanted_none rfl) (exec_move rfl rfl) ?_
    simp only [Act.put, List.setIfInBounds_toArray, List.set_cons_zero, List.set_cons_succ]
    refine wpList_run (v := .pointer (some ⟨x, 0, none⟩)) (wanted_none rfl) (exec_nil rfl rfl) ?_
    simp only [Act.put, List.setIfInBounds_toArray, List.set_cons_zero, List.set_cons_succ]
    refine wpList_run (v := .pointer (some ⟨x, 1, none⟩)) (wanted_none rfl) (exec_field (off := 0) (d := 1) rfl rfl (by kernel_rfl)) ?_
    simp only [Act.put, List.setIfInBounds_toArray, List.set_cons_zero, List.set_cons_succ]
    refine wpList_run (v := .pointer none) (wanted_none rfl) (exec_load1 rfl rfl (by kernel_rfl) (HB.out.cell 1)) ?_
    simp only [Act.put, List.setIfInBounds_toArray, List.set_cons_zero, List.set_cons_succ]
    refine wpList_run (v := .bool true) (wanted_none rfl) (ptr_nil rfl rfl rfl rfl) ?_
    simp only [Act.put, List.setIfInBounds_toArray, List.set_cons_zero, List.set_cons_succ]
    go_wp2_with fail
    go_ret2
    rw [HL0.out]
    refine ⟨rfl, H, ⟨HIN.out, HO.out, ⟨.pointer none, ch, ?_, by have := HCN.out; omega, .inl ⟨rfl, rfl⟩⟩, Nat.zero_le _, by have := HCN.out; omega⟩, Turn.refl _ _, fun b hb => .inl hb⟩
    have h := HB.out
    rw [HCE.out, HL0.out] at h
    exact h
  · have HTE := Lib.hid (show Tree w H p t F (M / 2) M 1 M from ⟨HIN.out, ht, hnd, hnb⟩)
    have HSR := Lib.hid hsr
    have HFL := Lib.hid hfl
    obtain ⟨m, hm⟩ : ∃ m, m = M / 2 := ⟨_, rfl⟩
    have HMH := Lib.hid hm
    rw [← hm] at HTE
    have HXF := Lib.hid (HIN.out.off HB.out)
    have HM1 := Lib.hid (show 1 ≤ m ∧ m ≤ 32 from by have := HO.out; omega)
    clear ht hnd hnb hsr hfl hm
    go_enter Try.func12, Try.ntmps12
    go_upto_region 1 with fail
    refine wp_region_lit ?_
    refine wpList_run (v := .pointer (some ⟨x, 0, none⟩)) (wanted_none rfl) (exec_move rfl rfl) ?_
    simp only [Act.put, List.setIfInBounds_toArray, List.set_cons_zero, List.set_cons_succ]
    refine wpList_run (v := .pointer (some ⟨x, 0, none⟩)) (wanted_none rfl) (exec_nil rfl rfl) ?_
    simp only [Act.put, List.setIfInBounds_toArray, List.set_cons_zero, List.set_cons_succ]
    refine wpList_run (v := .pointer (some ⟨x, 1, none⟩)) (wanted_none rfl) (exec_field (off := 0) (d := 1) rfl rfl (by kernel_rfl)) ?_
    simp only [Act.put, List.setIfInBounds_toArray, List.set_cons_zero, List.set_cons_succ]
    refine wpList_run (v := .pointer (some ⟨p, 0, none⟩)) (wanted_none rfl) (exec_load1 rfl rfl (by kernel_rfl) (HB.out.cell 1)) ?_
    simp only [Act.put, List.setIfInBounds_toArray, List.set_cons_zero, List.set_cons_succ]
    refine wpList_run (v := .bool false) (wanted_none rfl) (ptr_some rfl rfl rfl rfl) ?_
    simp only [Act.put, List.setIfInBounds_toArray, List.set_cons_zero, List.set_cons_succ]
    go_upto_region 3 with fail
    refine wp_region_alw (fun W => Blk W x 58 #[.int .i64 (M : Int), .pointer (some ⟨p, 0, none⟩), .int .i64 (cn : Int), .int .i64 (ch : Int)]) (by kernel_rfl) ?_
    have HD := Lib.hid ((Turn.refl nowhere w).drew)
    have hS0 : Blk w.drew x 58 #[.int .i64 (M : Int), .pointer (some ⟨p, 0, none⟩), .int .i64 (cn : Int), .int .i64 (ch : Int)] := HB.out
    refine alw_take (i := 0) (v := .pointer (some ⟨x, 0, none⟩)) rfl (by kernel_rfl) (by kernel_rfl) (fun _ _ _ h => h) (.inl ⟨by rfl, fun W hW => exec_move rfl rfl⟩) hS0 ?_
    simp only [Act.put, List.setIfInBounds_toArray, List.set_cons_zero, List.set_cons_succ]
    refine alw_take (i := 1) (v := .pointer (some ⟨x, 0, none⟩)) rfl (by kernel_rfl) (by kernel_rfl) (fun _ _ _ h => h) (.inl ⟨by rfl, fun W hW => exec_nil rfl rfl⟩) hS0 ?_
    simp only [Act.put, List.setIfInBounds_toArray, List.set_cons_zero, List.set_cons_succ]
    refine alw_take (i := 2) (v := .pointer (some ⟨x, 1, none⟩)) rfl (by kernel_rfl) (by kernel_rfl) (fun _ _ _ h => h) (.inl ⟨by rfl, fun W hW => exec_field (off := 0) (d := 1) rfl rfl (by kernel_rfl)⟩) hS0 ?_
    simp only [Act.put, List.setIfInBounds_toArray, List.set_cons_zero, List.set_cons_succ]
    refine alw_take (i := 3) (v := .pointer (some ⟨p, 0, none⟩)) rfl (by kernel_rfl) (by kernel_rfl) (fun _ _ _ h => h) (.inl ⟨by rfl, fun W hW => exec_load1 rfl rfl (by kernel_rfl) (hW.cell 1)⟩) hS0 ?_
    simp only [Act.put, List.setIfInBounds_toArray, List.set_cons_zero, List.set_cons_succ]
    refine alw_take (i := 4) (v := strV k) rfl (by kernel_rfl) (by kernel_rfl) (fun _ _ _ h => h) (.inl ⟨by rfl, fun W hW => exec_move rfl rfl⟩) hS0 ?_
    simp only [Act.put, List.setIfInBounds_toArray, List.set_cons_zero, List.set_cons_succ]
    refine alw_take (i := 5) (v := .pointer (some ⟨x, 0, none⟩)) rfl (by kernel_rfl) (by kernel_rfl) (fun _ _ _ h => h) (.inl ⟨by rfl, fun W hW => exec_move rfl rfl⟩) hS0 ?_
    simp only [Act.put, List.setIfInBounds_toArray, List.set_cons_zero, List.set_cons_succ]
    refine alw_take (i := 6) (v := .pointer (some ⟨x, 0, none⟩)) rfl (by kernel_rfl) (by kernel_rfl) (fun _ _ _ h => h) (.inl ⟨by rfl, fun W hW => exec_nil rfl rfl⟩) hS0 ?_
    simp only [Act.put, List.setIfInBounds_toArray, List.set_cons_zero, List.set_cons_succ]
    refine alw_take (i := 7) (v := .pointer (some ⟨x, 0, none⟩)) rfl (by kernel_rfl) (by kernel_rfl) (fun _ _ _ h => h) (.inl ⟨by rfl, fun W hW => exec_field (off := 0) (d := 0) rfl rfl (by kernel_rfl)⟩) hS0 ?_
    simp only [Act.put, List.setIfInBounds_toArray, List.set_cons_zero, List.set_cons_succ]
    refine alw_take (i := 8) (v := .int .i64 (M : Int)) rfl (by kernel_rfl) (by kernel_rfl) (fun _ _ _ h => h) (.inl ⟨by rfl, fun W hW => exec_load1 rfl rfl (by kernel_rfl) (hW.cell 0)⟩) hS0 ?_
    simp only [Act.put, List.setIfInBounds_toArray, List.set_cons_zero, List.set_cons_succ]
    refine alw_take (i := 9) (v := .int .i64 (m : Int)) rfl (by kernel_rfl) (by kernel_rfl) (fun _ _ _ h => h) (.inl ⟨by rfl, fun W hW => by rw [HMH.out]; exact ix_quo (n := M) (m := 2) rfl rfl rfl (by decide) (by omega)⟩) hS0 ?_
    simp only [Act.put, List.setIfInBounds_toArray, List.set_cons_zero, List.set_cons_succ]
    have HPW := Lib.hid (drop_walk (k := k) HMH.out HO.out.1 (by have := HO.out.2; omega) (show Tree w.drew H p t F m M 1 M from ⟨HIN.out.still HD.out, HTE.out.tr, HTE.out.nd, HTE.out.nb⟩) HSR.out (Nat.le_refl 1) (by have := HO.out.2; omega))
    refine alw_step (i := 10) (by kernel_rfl) rfl rfl ?_
    intro K1 HK1
    go_wp2_with fail
    refine HPW.out.mono ?_
    rintro e w2 ⟨rfl, haf⟩
    obtain ⟨H2, F2, hx2⟩ := haf.x
    have hS2 : Blk w2 x 58 #[.int .i64 (M : Int), .pointer (some ⟨p, 0, none⟩), .int .i64 (cn : Int), .int .i64 (ch : Int)] := hS0.turn hx2.to.turn HXF.out
    refine HK1.out _ _ ⟨hS2, ?_⟩
    clear HK1 haf hS0
    try simp only [Act.put, List.setIfInBounds_toArray, List.set_cons_zero, List.set_cons_succ]
    have HX2 := Lib.hid (AfterX.pre HIN.out HD.out hx2)
    clear hx2
    refine alw_take (i := 11) (v := .tuple #[.int .i64 ((tget k t).getD 0), .bool (tget k t).isSome]) rfl (by kernel_rfl) (by kernel_rfl) (fun _ _ _ h => h) (.inl ⟨by rfl, fun W hW => exec_move rfl rfl⟩) hS2 ?_
    simp only [Act.put, List.setIfInBounds_toArray, List.set_cons_zero, List.set_cons_succ]
    refine alw_take (i := 12) (v := .int .i64 ((tget k t).getD 0)) rfl (by kernel_rfl) (by kernel_rfl) (fun _ _ _ h => h) (.inl ⟨by rfl, fun W hW => ix_extract rfl rfl rfl⟩) hS2 ?_
    simp only [Act.put, List.setIfInBounds_toArray, List.set_cons_zero, List.set_cons_succ]
    refine alw_take (i := 13) (v := .bool (tget k t).isSome) rfl (by kernel_rfl) (by kernel_rfl) (fun _ _ _ h => h) (.inl ⟨by rfl, fun W hW => ix_extract rfl rfl rfl⟩) hS2 ?_
    simp only [Act.put, List.setIfInBounds_toArray, List.set_cons_zero, List.set_cons_succ]
    refine alw_take (i := 14) (v := .int .i64 ((tget k t).getD 0)) rfl (by kernel_rfl) (by kernel_rfl) (fun _ _ _ h => h) (.inl ⟨by rfl, fun W hW => gx_assign rfl rfl⟩) hS2 ?_
    simp only [Act.put, List.setIfInBounds_toArray, List.set_cons_zero, List.set_cons_succ]
    refine alw_take (i := 15) (v := .bool (tget k t).isSome) rfl (by kernel_rfl) (by kernel_rfl) (fun _ _ _ h => h) (.inl ⟨by rfl, fun W hW => gx_assign rfl rfl⟩) hS2 ?_
    simp only [Act.put, List.setIfInBounds_toArray, List.set_cons_zero, List.set_cons_succ]
    refine alw_done rfl ?_
    refine NoPanic.normal ?_
    try simp only [Act.put, List.setIfInBounds_toArray, List.set_cons_zero, List.set_cons_succ]
    have HB2 := Lib.hid hS2
    clear hS2 HD HPW
    obtain ⟨tf, tn⟩ := tdrop_ok (k := k) HMH.out HO.out.1 HTE.out.nb (Nat.le_refl 1) HSR.out
    rw [HFL.out] at tf
    have HTG := Lib.hid (show tget k t = lget k l from (tget_ok HTE.out.nb HSR.out).trans (by rw [HFL.out]))
    have HXT := Lib.hid ((ToX.refl (x := x) HIN.out).to HX2.out.to)
    obtain ⟨T, hT⟩ : ∃ T, T = tdrop k m t := ⟨_, rfl⟩
    rw [← hT] at tf tn HX2
    have HTF := Lib.hid tf
    have HTN := Lib.hid (show Nd m M 0 M T from tn)
    obtain ⟨vp, vk, ks, hp2⟩ := HX2.out.tr.root
    have hsl : Srt l := by have h := HSR.out; rwa [HFL.out] at h
    have HSL := Lib.hid hsl
    have HLN := Lib.hid (ldrop_len (k := k) hsl)
    obtain ⟨A2, c2, e9, _, _, _, _⟩ := (HXT.out.in_.at_ hp2).prs.form
    obtain ⟨n2, hn2⟩ : ∃ n, n = T.ps.length := ⟨_, rfl⟩
    replace e9 := e9.trans (show _ = Value.slice A2 n2 c2 from by rw [List.length_map, hn2])
    subst e9
    have HP2 := Lib.hid hp2
    have HN2 := Lib.hid hn2
    clear tf tn hT hp2 hn2 hsl
    go_upto_region 4 with fail
    refine wp_region_lit ?_
    refine wpList_run (v := .pointer (some ⟨x, 0, none⟩)) (wanted_none rfl) (exec_move rfl rfl) ?_
    simp only [Act.put, List.setIfInBounds_toArray, List.set_cons_zero, List.set_cons_succ]
    refine wpList_run (v := .pointer (some ⟨x, 0, none⟩)) (wanted_none rfl) (exec_nil rfl rfl) ?_
    simp only [Act.put, List.setIfInBounds_toArray, List.set_cons_zero, List.set_cons_succ]
    refine wpList_run (v := .pointer (some ⟨x, 1, none⟩)) (wanted_none rfl) (exec_field (off := 0) (d := 1) rfl rfl (by kernel_rfl)) ?_
    simp only [Act.put, List.setIfInBounds_toArray, List.set_cons_zero, List.set_cons_succ]
    refine wpList_run (v := .pointer (some ⟨p, 0, none⟩)) (wanted_none rfl) (exec_load1 rfl rfl (by kernel_rfl) (HB2.out.cell 1)) ?_
    simp only [Act.put, List.setIfInBounds_toArray, List.set_cons_zero, List.set_cons_succ]
    refine wpList_run (v := .pointer (some ⟨p, 0, none⟩)) (wanted_none rfl) (exec_nil rfl rfl) ?_
    simp only [Act.put, List.setIfInBounds_toArray, List.set_cons_zero, List.set_cons_succ]
    refine wpList_run (v := .pointer (some ⟨p, 0, none⟩)) (wanted_none rfl) (exec_field (off := 0) (d := 0) rfl rfl (by kernel_rfl)) ?_
    simp only [Act.put, List.setIfInBounds_toArray, List.set_cons_zero, List.set_cons_succ]
    refine wpList_run (v := .slice A2 n2 c2) (wanted_none rfl) (exec_load1 rfl rfl (by kernel_rfl) ((HXT.out.in_.at_ HP2.out).blk.cell 0)) ?_
    simp only [Act.put, List.setIfInBounds_toArray, List.set_cons_zero, List.set_cons_succ]
    refine wpList_run (v := .int .i64 (n2 : Int)) (wanted_none rfl) (gx_len rfl rfl Try.underlying59) ?_
    simp only [Act.put, List.setIfInBounds_toArray, List.set_cons_zero, List.set_cons_succ]
    by_cases hz : n2 = 0
    · refine wpList_run (v := .bool true) (wanted_none rfl) (ix_eql rfl rfl rfl (decide_eq_true (by omega))) ?_
      simp only [Act.put, List.setIfInBounds_toArray, List.set_cons_zero, List.set_cons_succ]
      have HT0 := Lib.hid (show T.ps = [] from List.eq_nil_of_length_eq_zero (by rw [← HN2.out]; exact hz))
      clear hz
      go_upto_region 5 with fail
      refine wp_region_lit ?_
      refine wpList_run (v := .pointer (some ⟨x, 0, none⟩)) (wanted_none rfl) (exec_move rfl rfl) ?_
      simp only [Act.put, List.setIfInBounds_toArray, List.set_cons_zero, List.set_cons_succ]
      refine wpList_run (v := .pointer (some ⟨x, 0, none⟩)) (wanted_none rfl) (exec_move rfl rfl) ?_
      simp only [Act.put, List.setIfInBounds_toArray, List.set_cons_zero, List.set_cons_succ]
      refine wpList_run (v := .pointer (some ⟨x, 0, none⟩)) (wanted_none rfl) (exec_nil rfl rfl) ?_
      simp only [Act.put, List.setIfInBounds_toArray, List.set_cons_zero, List.set_cons_succ]
      refine wpList_run (v := .pointer (some ⟨x, 1, none⟩)) (wanted_none rfl) (exec_field (off := 0) (d := 1) rfl rfl (by kernel_rfl)) ?_
      simp only [Act.put, List.setIfInBounds_toArray, List.set_cons_zero, List.set_cons_succ]
      refine wpList_run (v := .pointer (some ⟨p, 0, none⟩)) (wanted_none rfl) (exec_load1 rfl rfl (by kernel_rfl) (HB2.out.cell 1)) ?_
      simp only [Act.put, List.setIfInBounds_toArray, List.set_cons_zero, List.set_cons_succ]
      have HIN2 := Lib.hid HXT.out.in_
      have key : ∃ top2, Calls Try.prog 30 #[.pointer (some ⟨p, 0, none⟩)] w2 (fun e w' => e = .returned top2 ∧ w' = w2) ∧ Top H2 M top2 (ldrop k l) ∧ top2.cells = #[top2] ∧ top2.oneCell' = true := by
        have h1 := HX2.out.tr
        have h2 := HTN.out
        have h3 := HTF.out
        have h4 := HT0.out
        have h5 := HX2.out.nd
        have h6 := HMH.out
        clear HX2 HTN HTF HT0 HTE HSR HFL HTG HN2 HP2 HXT
        have hin := HIN2.out
        cases d with
        | zero =>
          obtain ⟨g1, rfl⟩ := h1
          exact ⟨.pointer none, only_none hin g1, .inl ⟨rfl, by rw [← h3]; exact h4⟩, rfl, rfl⟩
        | succ d =>
          obtain ⟨ks', F', g1, g2, rfl⟩ := h1
          have h4 : T.1 = [] := h4
          have hl2 : T.2.length = 1 := by have := h2.2.2.1; rw [h4] at this; exact this
          rcases hT2 : T.2 with _ | ⟨c, cs⟩
          · rw [hT2] at hl2; cases hl2
          · have hcs : cs = [] := by
              rw [hT2] at hl2
              exact List.eq_nil_of_length_eq_zero (by simpa using hl2)
            subst hcs
            rw [hT2] at g2
            obtain ⟨x0, ks2, G, F3, e1, e2, g3, g4⟩ := g2.cons
            have nc : Nd m M m M c := h2.2.2.2 c (by rw [hT2]; exact List.mem_cons_self ..)
            have hfl : flat T = flat c := by
              show inter (T.2.map flat) T.1 = _
              rw [hT2, h4]
              show flat c ++ inter [] [] = _
              rw [show inter [] [] = ([] : List Pr) from rfl, List.append_nil]
            refine ⟨.pointer (some ⟨x0, 0, none⟩), only_kid hin g1 (by rw [e1]; rfl), .inr ⟨d, x0, c, G, rfl, g3, fun a => ?_, ?_, ?_, ?_⟩, rfl, rfl⟩
            · have := h5 a
              rw [e2] at this
              simp only [List.count_append, List.count_cons] at this
              omega
            · rw [← h6]
              exact nc.mono (by have := nc.lo; have := HM1.out.1; omega) nc.hi
            · rw [← hfl, h3]; exact ldrop_srt HSL.out
            · rw [← hfl, h3]
      obtain ⟨top2, hc1, hc2, hc3⟩ := key
      have HCT := Lib.hid hc2
      have HC3 := Lib.hid hc3
      refine wpList_op rfl fun K9 HK9 => ?_
      go_wp2_with fail
      refine (hc1).mono ?_
      rintro e w3 ⟨rfl, hw3⟩
      refine HK9.out _ _ ?_
      clear HK9
      try simp only [Act.put, List.setIfInBounds_toArray, List.set_cons_zero, List.set_cons_succ]
      subst hw3
      clear hc1 hc2 hc3
      refine wpList_run (v := .pointer (some ⟨x, 0, none⟩)) (wanted_none rfl) (exec_nil rfl rfl) ?_
      simp only [Act.put, List.setIfInBounds_toArray, List.set_cons_zero, List.set_cons_succ]
      refine wpList_run (v := .pointer (some ⟨x, 1, none⟩)) (wanted_none rfl) (exec_field (off := 0) (d := 1) rfl rfl (by kernel_rfl)) ?_
      simp only [Act.put, List.setIfInBounds_toArray, List.set_cons_zero, List.set_cons_succ]
      refine wpList_storeU 1 top2 (wanted_none rfl) 56 _ _ rfl HB2.out rfl rfl (by show 1 < 4; omega) HC3.out size_ptr ?_
      intro w9 hb9 ht9
      simp only [Act.put, List.setIfInBounds_toArray, List.set_cons_zero, List.set_cons_succ]
      have HX9 := Lib.hid (HXT.out.st ht9 (HXT.out.in_.off HB2.out))
      have HB9 := Lib.hid (show Blk w9 x 58 #[.int .i64 (M : Int), top2, .int .i64 (cn : Int), .int .i64 (ch : Int)] from hb9)
      have HTOP := HCT
      clear hb9 ht9
      cases hg : tget k t with
      | none =>
        have HRET := Lib.hid (show retV (lget k l) = .tuple #[.int .i64 0, .bool false] from by rw [← HTG.out, hg]; rfl)
        have HLE := Lib.hid (show (ldrop k l).length = cn from by have h := HLN.out; rw [← HTG.out, hg] at h; rw [HCE.out]; exact h)
        clear hg
        go_upto_region 6 with fail
        refine wp_region_lit ?_
        refine wpList_run (v := .bool false) (wanted_none rfl) (exec_move rfl rfl) ?_
        simp only [Act.put, List.setIfInBounds_toArray, List.set_cons_zero, List.set_cons_succ]
        go_upto_region 9 with fail
        refine wp_region_lit ?_
        refine wpList_run (v := .int .i64 0) (wanted_none rfl) (exec_move rfl rfl) ?_
        simp only [Act.put, List.setIfInBounds_toArray, List.set_cons_zero, List.set_cons_succ]
        refine wpList_run (v := .bool false) (wanted_none rfl) (exec_move rfl rfl) ?_
        simp only [Act.put, List.setIfInBounds_toArray, List.set_cons_zero, List.set_cons_succ]
        refine wpList_run (v := .int .i64 0) (wanted_none rfl) (gx_assign rfl rfl) ?_
        simp only [Act.put, List.setIfInBounds_toArray, List.set_cons_zero, List.set_cons_succ]
        refine wpList_run (v := .bool false) (wanted_none rfl) (gx_assign rfl rfl) ?_
        simp only [Act.put, List.setIfInBounds_toArray, List.set_cons_zero, List.set_cons_succ]
        go_wp2_with fail
        go_ret2
        rw [HRET.out]
        exact ⟨rfl, HX9.out.idx ⟨HX9.out.in_, HO.out, ⟨top2, ch, by rw [HLE.out]; exact HB9.out, by have := HCN.out; omega, HTOP.out⟩, by rw [HLE.out]; have := HCN.out; have := HCE.out; omega, by have := HCN.out; omega⟩⟩
      | some u =>
        have HRET := Lib.hid (show retV (lget k l) = .tuple #[.int .i64 u, .bool true] from by rw [← HTG.out, hg]; rfl)
        have hle : (ldrop k l).length + 1 = cn := by have h := HLN.out; rw [← HTG.out, hg] at h; rw [HCE.out]; exact h
        obtain ⟨c1, hc1⟩ : ∃ c1, c1 = (ldrop k l).length := ⟨_, rfl⟩
        rw [← hc1] at hle
        have HLE := Lib.hid hc1
        have HC1 := Lib.hid hle
        have z1 : (cn : Int) ≤ (c1 : Int) + 1 := by omega
        have z2 : (c1 : Int) + 1 ≤ (cn : Int) := by omega
        clear hg hc1 hle
        go_upto_region 6 with fail
        refine wp_region_lit ?_
        refine wpList_run (v := .bool true) (wanted_none rfl) (exec_move rfl rfl) ?_
        simp only [Act.put, List.setIfInBounds_toArray, List.set_cons_zero, List.set_cons_succ]
        go_upto_region 7 with fail
        refine wp_region_lit ?_
        refine wpList_run (v := .pointer (some ⟨x, 0, none⟩)) (wanted_none rfl) (exec_move rfl rfl) ?_
        simp only [Act.put, List.setIfInBounds_toArray, List.set_cons_zero, List.set_cons_succ]
        refine wpList_run (v := .pointer (some ⟨x, 0, none⟩)) (wanted_none rfl) (exec_nil rfl rfl) ?_
        simp only [Act.put, List.setIfInBounds_toArray, List.set_cons_zero, List.set_cons_succ]
        refine wpList_run (v := .pointer (some ⟨x, 2, none⟩)) (wanted_none rfl) (exec_field (off := 0) (d := 2) rfl rfl (by kernel_rfl)) ?_
        simp only [Act.put, List.setIfInBounds_toArray, List.set_cons_zero, List.set_cons_succ]
        refine wpList_run (v := .int .i64 (cn : Int)) (wanted_none rfl) (exec_load1 rfl rfl (by kernel_rfl) (HB9.out.cell 2)) ?_
        simp only [Act.put, List.setIfInBounds_toArray, List.set_cons_zero, List.set_cons_succ]
        refine wpList_run (v := .int .i64 (c1 : Int)) (wanted_none rfl) (ix_sub rfl rfl rfl (by omega) (by omega)) ?_
        simp only [Act.put, List.setIfInBounds_toArray, List.set_cons_zero, List.set_cons_succ]
        refine wpList_run (v := .pointer (some ⟨x, 0, none⟩)) (wanted_none rfl) (exec_nil rfl rfl) ?_
        simp only [Act.put, List.setIfInBounds_toArray, List.set_cons_zero, List.set_cons_succ]
        refine wpList_run (v := .pointer (some ⟨x, 2, none⟩)) (wanted_none rfl) (exec_field (off := 0) (d := 2) rfl rfl (by kernel_rfl)) ?_
        simp only [Act.put, List.setIfInBounds_toArray, List.set_cons_zero, List.set_cons_succ]
        refine wpList_storeU 2 (.int .i64 (c1 : Int)) (wanted_none rfl) 3 _ _ rfl HB9.out rfl rfl (by show 2 < 4; omega) ⟨rfl, rfl⟩ (by kernel_rfl) ?_
        intro w10 hb10 ht10
        simp only [Act.put, List.setIfInBounds_toArray, List.set_cons_zero, List.set_cons_succ]
        have HX10 := Lib.hid (HX9.out.st ht10 (HX9.out.in_.off HB9.out))
        have HB10 := Lib.hid (show Blk w10 x 58 #[.int .i64 (M : Int), top2, .int .i64 (c1 : Int), .int .i64 (ch : Int)] from hb10)
        clear hb10 ht10
        go_upto_region 8 with fail
        refine wp_region_lit ?_
        refine wpList_run (v := .pointer (some ⟨x, 0, none⟩)) (wanted_none rfl) (exec_move rfl rfl) ?_
        simp only [Act.put, List.setIfInBounds_toArray, List.set_cons_zero, List.set_cons_succ]
        refine wpList_run (v := .pointer (some ⟨x, 0, none⟩)) (wanted_none rfl) (exec_nil rfl rfl) ?_
        simp only [Act.put, List.setIfInBounds_toArray, List.set_cons_zero, List.set_cons_succ]
        refine wpList_run (v := .pointer (some ⟨x, 3, none⟩)) (wanted_none rfl) (exec_field (off := 0) (d := 3) rfl rfl (by kernel_rfl)) ?_
        simp only [Act.put, List.setIfInBounds_toArray, List.set_cons_zero, List.set_cons_succ]
        refine wpList_run (v := .int .i64 (ch : Int)) (wanted_none rfl) (exec_load1 rfl rfl (by kernel_rfl) (HB10.out.cell 3)) ?_
        simp only [Act.put, List.setIfInBounds_toArray, List.set_cons_zero, List.set_cons_succ]
        refine wpList_run (v := .int .i64 ((ch + 1 : Nat) : Int)) (wanted_none rfl) (ix_add rfl rfl rfl (by omega) (by omega)) ?_
        simp only [Act.put, List.setIfInBounds_toArray, List.set_cons_zero, List.set_cons_succ]
        refine wpList_run (v := .pointer (some ⟨x, 0, none⟩)) (wanted_none rfl) (exec_nil rfl rfl) ?_
        simp only [Act.put, List.setIfInBounds_toArray, List.set_cons_zero, List.set_cons_succ]
        refine wpList_run (v := .pointer (some ⟨x, 3, none⟩)) (wanted_none rfl) (exec_field (off := 0) (d := 3) rfl rfl (by kernel_rfl)) ?_
        simp only [Act.put, List.setIfInBounds_toArray, List.set_cons_zero, List.set_cons_succ]
        refine wpList_storeU 3 (.int .i64 ((ch + 1 : Nat) : Int)) (wanted_none rfl) 3 _ _ rfl HB10.out rfl rfl (by show 3 < 4; omega) ⟨rfl, rfl⟩ (by kernel_rfl) ?_
        intro w11 hb11 ht11
        simp only [Act.put, List.setIfInBounds_toArray, List.set_cons_zero, List.set_cons_succ]
        have HX11 := Lib.hid (HX10.out.st ht11 (HX10.out.in_.off HB10.out))
        have HB11 := Lib.hid (show Blk w11 x 58 #[.int .i64 (M : Int), top2, .int .i64 (c1 : Int), .int .i64 ((ch + 1 : Nat) : Int)] from hb11)
        clear hb11 ht11
        go_upto_region 9 with fail
        refine wp_region_lit ?_
        refine wpList_run (v := .int .i64 u) (wanted_none rfl) (exec_move rfl rfl) ?_
        simp only [Act.put, List.setIfInBounds_toArray, List.set_cons_zero, List.set_cons_succ]
        refine wpList_run (v := .bool true) (wanted_none rfl) (exec_move rfl rfl) ?_
        simp only [Act.put, List.setIfInBounds_toArray, List.set_cons_zero, List.set_cons_succ]
        refine wpList_run (v := .int .i64 u) (wanted_none rfl) (gx_assign rfl rfl) ?_
        simp only [Act.put, List.setIfInBounds_toArray, List.set_cons_zero, List.set_cons_succ]
        refine wpList_run (v := .bool true) (wanted_none rfl) (gx_assign rfl rfl) ?_
        simp only [Act.put, List.setIfInBounds_toArray, List.set_cons_zero, List.set_cons_succ]
        go_wp2_with fail
        go_ret2
        rw [HRET.out]
        exact ⟨rfl, HX11.out.idx ⟨HX11.out.in_, HO.out, ⟨top2, ch + 1, by rw [← HLE.out]; exact HB11.out, by have := HCN.out; omega, HTOP.out⟩, by rw [← HLE.out]; have := HCN.out; have := HCE.out; have := HC1.out; omega, by have := HCN.out; omega⟩⟩
    · refine wpList_run (v := .bool false) (wanted_none rfl) (ix_eql rfl rfl rfl (decide_eq_false (by omega))) ?_
      simp only [Act.put, List.setIfInBounds_toArray, List.set_cons_zero, List.set_cons_succ]
      have HX9 := HXT
      have HB9 := HB2
      have HTOP := Lib.hid (show Top H2 M (.pointer (some ⟨p, 0, none⟩)) (ldrop k l) from .inr ⟨d, p, T, F2, rfl, HX2.out.tr, HX2.out.nd, by rw [← HMH.out]; exact HTN.out.mono (by have := HN2.out; omega) HTN.out.hi, by rw [HTF.out]; exact ldrop_srt HSL.out, HTF.out⟩)
      clear hz
      cases hg : tget k t with
      | none =>
        have HRET := Lib.hid (show retV (lget k l) = .tuple #[.int .i64 0, .bool false] from by rw [← HTG.out, hg]; rfl)
        have HLE := Lib.hid (show (ldrop k l).length = cn from by have h := HLN.out; rw [← HTG.out, hg] at h; rw [HCE.out]; exact h)
        clear hg
        go_upto_region 6 with fail
        refine wp_region_lit ?_
        refine wpList_run (v := .bool false) (wanted_none rfl) (exec_move rfl rfl) ?_
        simp only [Act.put, List.setIfInBounds_toArray, List.set_cons_zero, List.set_cons_succ]
        go_upto_region 9 with fail
        refine wp_region_lit ?_
        refine wpList_run (v := .int .i64 0) (wanted_none rfl) (exec_move rfl rfl) ?_
        simp only [Act.put, List.setIfInBounds_toArray, List.set_cons_zero, List.set_cons_succ]
        refine wpList_run (v := .bool false) (wanted_none rfl) (exec_move rfl rfl) ?_
        simp only [Act.put, List.setIfInBounds_toArray, List.set_cons_zero, List.set_cons_succ]
        refine wpList_run (v := .int .i64 0) (wanted_none rfl) (gx_assign rfl rfl) ?_
        simp only [Act.put, List.setIfInBounds_toArray, List.set_cons_zero, List.set_cons_succ]
        refine wpList_run (v := .bool false) (wanted_none rfl) (gx_assign rfl rfl) ?_
        simp only [Act.put, List.setIfInBounds_toArray, List.set_cons_zero, List.set_cons_succ]
        go_wp2_with fail
        go_ret2
        rw [HRET.out]
        exact ⟨rfl, HX9.out.idx ⟨HX9.out.in_, HO.out, ⟨.pointer (some ⟨p, 0, none⟩), ch, by rw [HLE.out]; exact HB9.out, by have := HCN.out; omega, HTOP.out⟩, by rw [HLE.out]; have := HCN.out; have := HCE.out; omega, by have := HCN.out; omega⟩⟩
      | some u =>
        have HRET := Lib.hid (show retV (lget k l) = .tuple #[.int .i64 u, .bool true] from by rw [← HTG.out, hg]; rfl)
        have hle : (ldrop k l).length + 1 = cn := by have h := HLN.out; rw [← HTG.out, hg] at h; rw [HCE.out]; exact h
        obtain ⟨c1, hc1⟩ : ∃ c1, c1 = (ldrop k l).length := ⟨_, rfl⟩
        rw [← hc1] at hle
        have HLE := Lib.hid hc1
        have HC1 := Lib.hid hle
        have z1 : (cn : Int) ≤ (c1 : Int) + 1 := by omega
        have z2 : (c1 : Int) + 1 ≤ (cn : Int) := by omega
        clear hg hc1 hle
        go_upto_region 6 with fail
        refine wp_region_lit ?_
        refine wpList_run (v := .bool true) (wanted_none rfl) (exec_move rfl rfl) ?_
        simp only [Act.put, List.setIfInBounds_toArray, List.set_cons_zero, List.set_cons_succ]
        go_upto_region 7 with fail
        refine wp_region_lit ?_
        refine wpList_run (v := .pointer (some ⟨x, 0, none⟩)) (wanted_none rfl) (exec_move rfl rfl) ?_
        simp only [Act.put, List.setIfInBounds_toArray, List.set_cons_zero, List.set_cons_succ]
        refine wpList_run (v := .pointer (some ⟨x, 0, none⟩)) (wanted_none rfl) (exec_nil rfl rfl) ?_
        simp only [Act.put, List.setIfInBounds_toArray, List.set_cons_zero, List.set_cons_succ]
        refine wpList_run (v := .pointer (some ⟨x, 2, none⟩)) (wanted_none rfl) (exec_field (off := 0) (d := 2) rfl rfl (by kernel_rfl)) ?_
        simp only [Act.put, List.setIfInBounds_toArray, List.set_cons_zero, List.set_cons_succ]
        refine wpList_run (v := .int .i64 (cn : Int)) (wanted_none rfl) (exec_load1 rfl rfl (by kernel_rfl) (HB9.out.cell 2)) ?_
        simp only [Act.put, List.setIfInBounds_toArray, List.set_cons_zero, List.set_cons_succ]
        refine wpList_run (v := .int .i64 (c1 : Int)) (wanted_none rfl) (ix_sub rfl rfl rfl (by omega) (by omega)) ?_
        simp only [Act.put, List.setIfInBounds_toArray, List.set_cons_zero, List.set_cons_succ]
        refine wpList_run (v := .pointer (some ⟨x, 0, none⟩)) (wanted_none rfl) (exec_nil rfl rfl) ?_
        simp only [Act.put, List.setIfInBounds_toArray, List.set_cons_zero, List.set_cons_succ]
        refine wpList_run (v := .pointer (some ⟨x, 2, none⟩)) (wanted_none rfl) (exec_field (off := 0) (d := 2) rfl rfl (by kernel_rfl)) ?_
        simp only [Act.put, List.setIfInBounds_toArray, List.set_cons_zero, List.set_cons_succ]
        refine wpList_storeU 2 (.int .i64 (c1 : Int)) (wanted_none rfl) 3 _ _ rfl HB9.out rfl rfl (by show 2 < 4; omega) ⟨rfl, rfl⟩ (by kernel_rfl) ?_
        intro w10 hb10 ht10
        simp only [Act.put, List.setIfInBounds_toArray, List.set_cons_zero, List.set_cons_succ]
        have HX10 := Lib.hid (HX9.out.st ht10 (HX9.out.in_.off HB9.out))
        have HB10 := Lib.hid (show Blk w10 x 58 #[.int .i64 (M : Int), .pointer (some ⟨p, 0, none⟩), .int .i64 (c1 : Int), .int .i64 (ch : Int)] from hb10)
        clear hb10 ht10
        go_upto_region 8 with fail
        refine wp_region_lit ?_
        refine wpList_run (v := .pointer (some ⟨x, 0, none⟩)) (wanted_none rfl) (exec_move rfl rfl) ?_
        simp only [Act.put, List.setIfInBounds_toArray, List.set_cons_zero, List.set_cons_succ]
        refine wpList_run (v := .pointer (some ⟨x, 0, none⟩)) (wanted_none rfl) (exec_nil rfl rfl) ?_
        simp only [Act.put, List.setIfInBounds_toArray, List.set_cons_zero, List.set_cons_succ]
        refine wpList_run (v := .pointer (some ⟨x, 3, none⟩)) (wanted_none rfl) (exec_field (off := 0) (d := 3) rfl rfl (by kernel_rfl)) ?_
        simp only [Act.put, List.setIfInBounds_toArray, List.set_cons_zero, List.set_cons_succ]
        refine wpList_run (v := .int .i64 (ch : Int)) (wanted_none rfl) (exec_load1 rfl rfl (by kernel_rfl) (HB10.out.cell 3)) ?_
        simp only [Act.put, List.setIfInBounds_toArray, List.set_cons_zero, List.set_cons_succ]
        refine wpList_run (v := .int .i64 ((ch + 1 : Nat) : Int)) (wanted_none rfl) (ix_add rfl rfl rfl (by omega) (by omega)) ?_
        simp only [Act.put, List.setIfInBounds_toArray, List.set_cons_zero, List.set_cons_succ]
        refine wpList_run (v := .pointer (some ⟨x, 0, none⟩)) (wanted_none rfl) (exec_nil rfl rfl) ?_
        simp only [Act.put, List.setIfInBounds_toArray, List.set_cons_zero, List.set_cons_succ]
        refine wpList_run (v := .pointer (some ⟨x, 3, none⟩)) (wanted_none rfl) (exec_field (off := 0) (d := 3) rfl rfl (by kernel_rfl)) ?_
        simp only [Act.put, List.setIfInBounds_toArray, List.set_cons_zero, List.set_cons_succ]
        refine wpList_storeU 3 (.int .i64 ((ch + 1 : Nat) : Int)) (wanted_none rfl) 3 _ _ rfl HB10.out rfl rfl (by show 3 < 4; omega) ⟨rfl, rfl⟩ (by kernel_rfl) ?_
        intro w11 hb11 ht11
        simp only [Act.put, List.setIfInBounds_toArray, List.set_cons_zero, List.set_cons_succ]
        have HX11 := Lib.hid (HX10.out.st ht11 (HX10.out.in_.off HB10.out))
        have HB11 := Lib.hid (show Blk w11 x 58 #[.int .i64 (M : Int), .pointer (some ⟨p, 0, none⟩), .int .i64 (c1 : Int), .int .i64 ((ch + 1 : Nat) : Int)] from hb11)
        clear hb11 ht11
        go_upto_region 9 with fail
        refine wp_region_lit ?_
        refine wpList_run (v := .int .i64 u) (wanted_none rfl) (exec_move rfl rfl) ?_
        simp only [Act.put, List.setIfInBounds_toArray, List.set_cons_zero, List.set_cons_succ]
        refine wpList_run (v := .bool true) (wanted_none rfl) (exec_move rfl rfl) ?_
        simp only [Act.put, List.setIfInBounds_toArray, List.set_cons_zero, List.set_cons_succ]
        refine wpList_run (v := .int .i64 u) (wanted_none rfl) (gx_assign rfl rfl) ?_
        simp only [Act.put, List.setIfInBounds_toArray, List.set_cons_zero, List.set_cons_succ]
        refine wpList_run (v := .bool true) (wanted_none rfl) (gx_assign rfl rfl) ?_
        simp only [Act.put, List.setIfInBounds_toArray, List.set_cons_zero, List.set_cons_succ]
        go_wp2_with fail
        go_ret2
        rw [HRET.out]
        exact ⟨rfl, HX11.out.idx ⟨HX11.out.in_, HO.out, ⟨.pointer (some ⟨p, 0, none⟩), ch + 1, by rw [← HLE.out]; exact HB11.out, by have := HCN.out; omega, HTOP.out⟩, by rw [← HLE.out]; have := HCN.out; have := HCE.out; have := HC1.out; omega, by have := HCN.out; omega⟩⟩
theorem Len_walk {w : World} {x : Nat} {H : Hp} {M N : Nat} {l : List Pr} (h : Idx w x H M l N) :
    Calls Try.prog 21 #[.pointer (some ⟨x, 0, none⟩)] w fun e w' => e = .returned (.int .i64 (l.length : Int)) ∧ w' = w := by
  obtain ⟨top, ch, hb, _, _⟩ := h.blk
  have HB := Lib.hid hb
  obtain ⟨cn, hcn⟩ : ∃ cn, cn = l.length := ⟨_, rfl⟩
  rw [← hcn] at HB ⊢
  clear h hb hcn
  go_enter Try.func21, Try.ntmps21
  go_upto_region 1 with fail
  refine wp_region_lit ?_
  refine wpList_run (v := .pointer (some ⟨x, 0, none⟩)) (wanted_none rfl) (exec_move rfl rfl) ?_
  simp only [Act.put, List.setIfInBounds_toArray, List.set_cons_zero, List.set_cons_succ]
  refine wpList_run (v := .pointer (some ⟨x, 0, none⟩)) (wanted_none rfl) (exec_nil rfl rfl) ?_
  simp only [Act.put, List.setIfInBounds_toArray, List.set_cons_zero, List.set_cons_succ]
  refine wpList_run (v := .pointer (some ⟨x, 2, none⟩)) (wanted_none rfl) (exec_field (off := 0) (d := 2) rfl rfl (by kernel_rfl)) ?_
  simp only [Act.put, List.setIfInBounds_toArray, List.set_cons_zero, List.set_cons_succ]
  refine wpList_run (v := .int .i64 (cn : Int)) (wanted_none rfl) (exec_load1 rfl rfl (by kernel_rfl) (HB.out.cell 2)) ?_
  simp only [Act.put, List.setIfInBounds_toArray, List.set_cons_zero, List.set_cons_succ]
  refine wpList_run (v := .int .i64 (cn : Int)) (wanted_none rfl) (gx_assign rfl rfl) ?_
  simp only [Act.put, List.setIfInBounds_toArray, List.set_cons_zero, List.set_cons_succ]
  go_wp2_with fail
  go_ret
  exact ⟨rfl, rfl⟩
theorem ptr_neqS {a : Act} {o : Oper} {W : World} {x y : Operand} {t u : TypeId} {p : Addr} (ho : o.op = .binOp .neq t x y u) (hx : a.eval x = .pointer (some p)) (hy : a.eval y = .pointer none) (ht : t = 56) : (execOp a.eval o).run Try.prog W = .ok (.value (.bool true)) W := by
  subst ht
  unfold execOp
  simp only [ho, hx, hy]
  go_simp
set_option maxRecDepth 20000 in
set_option maxHeartbeats 4000000 in
theorem Get_walk {w : World} {x : Nat} {H : Hp} {M N : Nat} {l : List Pr} {k : Key} (h : Idx w x H M l N) :
    Calls Try.prog 14 #[.pointer (some ⟨x, 0, none⟩), strV k] w fun e w' => e = .returned (retV (lget k l)) ∧ Turn nowhere w w' := by
  obtain ⟨top, ch, hb, hch, htop⟩ := h.blk
  have HO := Lib.hid h.ord
  have HB := Lib.hid hb
  have HIN := Lib.hid h.hin
  clear h hb hch
  rcases htop with ⟨rfl, rfl⟩ | ⟨d, p, t, F, rfl, ht, hnd, hnb, hsr, hfl⟩
  · go_enter Try.func14, Try.ntmps14
    go_upto_region 1 with fail
    refine wp_region_lit ?_
    refine wpList_run (v := .pointer (some ⟨x, 0, none⟩)) (wanted_none rfl) (exec_move rfl rfl) ?_
    simp only [Act.put, List.setIfInBounds_toArray, List.set_cons_zero, List.set_cons_succ]
    refine wpList_run (v := .pointer (some ⟨x, 0, none⟩)) (wanted_none rfl) (exec_nil rfl rfl) ?_
    simp only [Act.put, List.setIfInBounds_toArray, List.set_cons_zero, List.set_cons_succ]
    refine wpList_run (v := .pointer (some ⟨x, 1, none⟩)) (wanted_none rfl) (exec_field (off := 0) (d := 1) rfl rfl (by kernel_rfl)) ?_
    simp only [Act.put, List.setIfInBounds_toArray, List.set_cons_zero, List.set_cons_succ]
    refine wpList_run (v := .pointer none) (wanted_none rfl) (exec_load1 rfl rfl (by kernel_rfl) (HB.out.cell 1)) ?_
    simp only [Act.put, List.setIfInBounds_toArray, List.set_cons_zero, List.set_cons_succ]
    refine wpList_run (v := .pointer none) (wanted_none rfl) (gx_assign rfl rfl) ?_
    simp only [Act.put, List.setIfInBounds_toArray, List.set_cons_zero, List.set_cons_succ]
    go_wp2_with fail
    refine wp_loop_rounds 1 ?_
    rw [rounds_succ]
    go_wp2_with fail
    go_ret2
    exact ⟨rfl, Turn.refl _ _⟩
  · have HG0 := Lib.hid (show lget k l = tget k t from ((tget_ok hnb hsr).trans (by rw [hfl])).symm)
    have HT0 := Lib.hid ht
    have HNB0 := Lib.hid hnb
    have HSR0 := Lib.hid hsr
    clear hfl ht hnb hsr hnd
    go_enter Try.func14, Try.ntmps14
    go_upto_region 1 with fail
    refine wp_region_lit ?_
    refine wpList_run (v := .pointer (some ⟨x, 0, none⟩)) (wanted_none rfl) (exec_move rfl rfl) ?_
    simp only [Act.put, List.setIfInBounds_toArray, List.set_cons_zero, List.set_cons_succ]
    refine wpList_run (v := .pointer (some ⟨x, 0, none⟩)) (wanted_none rfl) (exec_nil rfl rfl) ?_
    simp only [Act.put, List.setIfInBounds_toArray, List.set_cons_zero, List.set_cons_succ]
    refine wpList_run (v := .pointer (some ⟨x, 1, none⟩)) (wanted_none rfl) (exec_field (off := 0) (d := 1) rfl rfl (by kernel_rfl)) ?_
    simp only [Act.put, List.setIfInBounds_toArray, List.set_cons_zero, List.set_cons_succ]
    refine wpList_run (v := .pointer (some ⟨p, 0, none⟩)) (wanted_none rfl) (exec_load1 rfl rfl (by kernel_rfl) (HB.out.cell 1)) ?_
    simp only [Act.put, List.setIfInBounds_toArray, List.set_cons_zero, List.set_cons_succ]
    refine wpList_run (v := .pointer (some ⟨p, 0, none⟩)) (wanted_none rfl) (gx_assign rfl rfl) ?_
    simp only [Act.put, List.setIfInBounds_toArray, List.set_cons_zero, List.set_cons_succ]
    go_wp2_with fail
    go_loopg [6] (d + 1) (fun gk pv wr => ∃ (e q lo : Nat) (s : Tr e) (G : List Nat), gk = e + 1 ∧ pv = .pointer (some ⟨q, 0, none⟩) ∧ TrAt H q s G ∧ Nd (M / 2) M lo M s ∧ Srt (flat s) ∧ tget k t = tget k s ∧ Turn nowhere w wr)
    case atStart => exact ⟨d, p, 1, t, F, rfl, rfl, HT0.out, HNB0.out, HSR0.out, rfl, Turn.refl _ _⟩
    obtain ⟨e, q, lo, s, G, rfl, rfl, hs, hnb, hsr, hge, htr⟩ := hrel
    have HS := Lib.hid hs
    have HNB := Lib.hid hnb
    have HSR := Lib.hid hsr
    have HGE := Lib.hid hge
    have HTR := Lib.hid htr
    have HI := Lib.hid (HIN.out.still htr)
    obtain ⟨vp, vk, ks, hq⟩ := hs.root
    have HQ := Lib.hid hq
    have HN := Lib.hid (show NodeAt wr q vp vk s.ps ks from HI.out.at_ hq)
    have hlen : s.ps.length ≤ 64 := by have := hnb.hi; have := HO.out.2; omega
    obtain ⟨i, hi0⟩ : ∃ i, i = fnd k s.ps := ⟨_, rfl⟩
    have HF := Lib.hid (show Calls Try.prog 31 #[.pointer (some ⟨q, 0, none⟩), strV k] wr fun e w' => e = .returned (.tuple #[.int .i64 (i : Int), .bool (hit k s.ps)]) ∧ Turn nowhere wr w' from by
      rw [hi0]
      exact find_walk HN.out (srt_top hnb hsr) (by omega))
    have HI0 := Lib.hid hi0
    have HLEN := Lib.hid hlen
    clear hs hnb hsr hge htr hq hlen hi0
    go_upto_region 2 with fail
    refine wp_region_lit ?_
    refine wpList_run (v := .pointer (some ⟨q, 0, none⟩)) (wanted_none rfl) (exec_move rfl rfl) ?_
    simp only [Act.put, List.setIfInBounds_toArray, List.set_cons_zero, List.set_cons_succ]
    refine wpList_run (v := .bool true) (wanted_none rfl) (ptr_neqS rfl rfl rfl rfl) ?_
    simp only [Act.put, List.setIfInBounds_toArray, List.set_cons_zero, List.set_cons_succ]
    go_upto_region 3 with fail
    refine wp_region_lit ?_
    refine wpList_run (v := .pointer (some ⟨q, 0, none⟩)) (wanted_none rfl) (exec_move rfl rfl) ?_
    simp only [Act.put, List.setIfInBounds_toArray, List.set_cons_zero, List.set_cons_succ]
    refine wpList_run (v := strV k) (wanted_none rfl) (exec_move rfl rfl) ?_
    simp only [Act.put, List.setIfInBounds_toArray, List.set_cons_zero, List.set_cons_succ]
    refine wpList_op rfl fun K9 HK9 => ?_
    go_wp2_with fail
    refine (HF.out).mono ?_
    rintro e w1 ⟨rfl, ht1⟩
    refine HK9.out _ _ ?_
    clear HK9
    try simp only [Act.put, List.setIfInBounds_toArray, List.set_cons_zero, List.set_cons_succ]
    refine wpList_run (v := .tuple #[.int .i64 (i : Int), .bool (hit k s.ps)]) (wanted_none rfl) (exec_move rfl rfl) ?_
    simp only [Act.put, List.setIfInBounds_toArray, List.set_cons_zero, List.set_cons_succ]
    refine wpList_run (v := .int .i64 (i : Int)) (wanted_none rfl) (ix_extract rfl rfl rfl) ?_
    simp only [Act.put, List.setIfInBounds_toArray, List.set_cons_zero, List.set_cons_succ]
    refine wpList_run (v := .bool (hit k s.ps)) (wanted_none rfl) (ix_extract rfl rfl rfl) ?_
    simp only [Act.put, List.setIfInBounds_toArray, List.set_cons_zero, List.set_cons_succ]
    refine wpList_run (v := .int .i64 (i : Int)) (wanted_none rfl) (gx_assign rfl rfl) ?_
    simp only [Act.put, List.setIfInBounds_toArray, List.set_cons_zero, List.set_cons_succ]
    refine wpList_run (v := .bool (hit k s.ps)) (wanted_none rfl) (gx_assign rfl rfl) ?_
    simp only [Act.put, List.setIfInBounds_toArray, List.set_cons_zero, List.set_cons_succ]
    have HT1 := Lib.hid (HTR.out.trans ht1 fun _ _ e => e)
    have HI1 := Lib.hid (HI.out.still ht1)
    have HN1 := Lib.hid (show NodeAt w1 q vp vk s.ps ks from HI1.out.at_ HQ.out)
    clear ht1
    cases hh : hit k s.ps with
    | true =>
      obtain ⟨u, hu, huk⟩ := hit_yes hh
      have HRET := Lib.hid (show retV (lget k l) = .tuple #[.int .i64 u.2, .bool true] from by
        rw [HG0.out, HGE.out]
        have h1 := HNB.out
        cases e with
        | zero =>
          have hg := tget_leaf (k := k) (t := s)
          have hh : hit k s.1 = true := hh
          have hu : s.1[fnd k s.1]? = some u := hu
          rw [hh, hu] at hg
          rw [hg]
          rfl
        | succ e =>
          have hlt : fnd k s.1 < s.2.length := by have := h1.2.2.1; have := fnd_le k s.1; omega
          rw [tget_yes (show s.1[fnd k s.1]? = some u from hu) huk (List.getElem?_eq_getElem hlt)]
          rfl)
      have HU := Lib.hid (show s.ps[i]? = some u from by rw [HI0.out]; exact hu)
      have hil : i < s.ps.length := (List.getElem?_eq_some_iff.1 HU.out).1
      obtain ⟨b, c, e9, _, _⟩ := HN1.out.prs.some_ (by rw [List.length_map]; omega)
      obtain ⟨n, hn⟩ : ∃ n, n = s.ps.length := ⟨_, rfl⟩
      replace e9 := e9.trans (show _ = Value.slice (some ⟨b, 0, none⟩) n c from by rw [List.length_map, hn])
      subst e9
      have HIL := Lib.hid (show i < n by omega)
      clear hh hu huk hil hn
      go_upto_region 4 with fail
      refine wp_region_lit ?_
      refine wpList_run (v := .bool (true)) (wanted_none rfl) (exec_move rfl rfl) ?_
      simp only [Act.put, List.setIfInBounds_toArray, List.set_cons_zero, List.set_cons_succ]
      go_upto_region 5 with fail
      refine wp_region_lit ?_
      refine wpList_run (v := .pointer (some ⟨q, 0, none⟩)) (wanted_none rfl) (exec_move rfl rfl) ?_
      simp only [Act.put, List.setIfInBounds_toArray, List.set_cons_zero, List.set_cons_succ]
      refine wpList_run (v := .pointer (some ⟨q, 0, none⟩)) (wanted_none rfl) (exec_nil rfl rfl) ?_
      simp only [Act.put, List.setIfInBounds_toArray, List.set_cons_zero, List.set_cons_succ]
      refine wpList_run (v := .pointer (some ⟨q, 0, none⟩)) (wanted_none rfl) (exec_field (off := 0) (d := 0) rfl rfl (by kernel_rfl)) ?_
      simp only [Act.put, List.setIfInBounds_toArray, List.set_cons_zero, List.set_cons_succ]
      refine wpList_run (v := .slice (some ⟨b, 0, none⟩) n c) (wanted_none rfl) (exec_load1 rfl rfl (by kernel_rfl) (HN1.out.blk.cell 0)) ?_
      simp only [Act.put, List.setIfInBounds_toArray, List.set_cons_zero, List.set_cons_succ]
      refine wpList_run (v := .int .i64 (i : Int)) (wanted_none rfl) (exec_move rfl rfl) ?_
      simp only [Act.put, List.setIfInBounds_toArray, List.set_cons_zero, List.set_cons_succ]
      refine wpList_run (v := .pointer (some ⟨b, 0 + i * 2, none⟩)) (wanted_none rfl) (gx_iaddr (i := i) (sz := 2) rfl rfl rfl Try.underlying59 size_pair HIL.out rfl) ?_
      simp only [Act.put, List.setIfInBounds_toArray, List.set_cons_zero, List.set_cons_succ]
      refine wpList_run (v := .pointer (some ⟨b, 0 + i * 2 + 1, none⟩)) (wanted_none rfl) (exec_field (off := 0 + i * 2) (d := 1) rfl rfl (by kernel_rfl)) ?_
      simp only [Act.put, List.setIfInBounds_toArray, List.set_cons_zero, List.set_cons_succ]
      refine wpList_run (v := .int .i64 u.2) (wanted_none rfl) (exec_load1 rfl rfl (by kernel_rfl) (HN1.out.prs.el0 (r := encP u) (by rw [List.getElem?_map, HU.out]; rfl) 1 _ rfl)) ?_
      simp only [Act.put, List.setIfInBounds_toArray, List.set_cons_zero, List.set_cons_succ]
      refine wpList_run (v := .int .i64 u.2) (wanted_none rfl) (gx_assign rfl rfl) ?_
      simp only [Act.put, List.setIfInBounds_toArray, List.set_cons_zero, List.set_cons_succ]
      refine wpList_run (v := .bool true) (wanted_none rfl) (gx_assign rfl rfl) ?_
      simp only [Act.put, List.setIfInBounds_toArray, List.set_cons_zero, List.set_cons_succ]
      go_wp2_with fail
      go_ret2
      rw [HRET.out]
      exact ⟨rfl, HT1.out⟩
    | false =>
      go_upto_region 4 with fail
      refine wp_region_lit ?_
      refine wpList_run (v := .bool (false)) (wanted_none rfl) (exec_move rfl rfl) ?_
      simp only [Act.put, List.setIfInBounds_toArray, List.set_cons_zero, List.set_cons_succ]
      go_upto_region 6 with fail
      refine wp_region_lit ?_
      refine wpList_run (v := .pointer (some ⟨q, 0, none⟩)) (wanted_none rfl) (exec_move rfl rfl) ?_
      simp only [Act.put, List.setIfInBounds_toArray, List.set_cons_zero, List.set_cons_succ]
      have hw := lowest_walk (ks := ks) HN1.out
      by_cases hks : ks = []
      · rw [show decide (ks = []) = true from decide_eq_true hks] at hw
        have HW := Lib.hid hw
        have HRET := Lib.hid (show retV (lget k l) = .tuple #[.int .i64 0, .bool false] from by
          rw [HG0.out, HGE.out]
          have h1 := HNB.out
          have h2 := HS.out
          have h3 := HQ.out
          cases e with
          | zero =>
            have hg := tget_leaf (k := k) (t := s)
            have hh : hit k s.1 = false := hh
            rw [hh] at hg
            rw [hg]
            rfl
          | succ e =>
            exfalso
            have := not_leaf h2 h1 ⟨_, _, h3⟩
            rw [hks] at this
            cases this)
        clear hw hh hks
        refine wpList_op rfl fun K9 HK9 => ?_
        go_wp2_with fail
        refine (HW.out).mono ?_
        rintro e w2 ⟨rfl, hw2⟩
        refine HK9.out _ _ ?_
        clear HK9
        try simp only [Act.put, List.setIfInBounds_toArray, List.set_cons_zero, List.set_cons_succ]
        subst hw2
        go_wp2_with fail
        go_ret2
        rw [HRET.out]
        exact ⟨rfl, HT1.out⟩
      · rw [show decide (ks = []) = false from decide_eq_false hks] at hw
        have HW := Lib.hid hw
        have key : ∃ (e' q' : Nat) (s' : Tr e') (G' : List Nat), e = e' + 1 ∧ ks[i]? = some q' ∧ TrAt H q' s' G' ∧ Nd (M / 2) M (M / 2) M s' ∧ Srt (flat s') ∧ tget k s = tget k s' := by
          have h1 := HNB.out
          have h2 := HS.out
          have h3 := HQ.out
          have h4 := HSR.out
          have h5 := HI0.out
          clear HGE HNB HS HQ HSR HI0 HF HN HN1
          cases e with
          | zero =>
            exfalso
            exact hks (Is.inj (show Is H q s.ps ks from ⟨_, _, h3⟩) h2.1).2
          | succ e =>
            have hlt : fnd k s.1 < s.2.length := by have := h1.2.2.1; have := fnd_le k s.1; omega
            obtain ⟨c, hc⟩ : ∃ c, s.2[fnd k s.1]? = some c := ⟨_, List.getElem?_eq_getElem hlt⟩
            obtain ⟨ks', F', g1, g2, _⟩ := h2
            obtain ⟨_, e9⟩ := Is.inj (show Is H q s.1 ks from ⟨_, _, h3⟩) g1
            subst e9
            obtain ⟨q', G', g3, g4, _⟩ := g2.get hc
            have h5 : i = fnd k s.1 := h5
            exact ⟨e, q', c, G', rfl, by rw [h5]; exact g3, g4, nd_kid h1 hc, srt_kid h1 h4 hc, tget_no (hit_no hh) hc⟩
        obtain ⟨e', q', s', G', he, hq', hs', hn', hsr', hg'⟩ := key
        have HEE := Lib.hid he
        have HQ' := Lib.hid hq'
        have HR := Lib.hid (show TrAt H q' s' G' ∧ Nd (M / 2) M (M / 2) M s' ∧ Srt (flat s') ∧ tget k t = tget k s' from ⟨hs', hn', hsr', HGE.out.trans hg'⟩)
        have hil : i < ks.length := (List.getElem?_eq_some_iff.1 hq').1
        obtain ⟨b, c, e9, _, _⟩ := HN1.out.kds.some_ (by rw [List.length_map]; omega)
        obtain ⟨n, hn⟩ : ∃ n, n = ks.length := ⟨_, rfl⟩
        replace e9 := e9.trans (show _ = Value.slice (some ⟨b, 0, none⟩) n c from by rw [List.length_map, hn])
        subst e9
        have HIL := Lib.hid (show i < n by omega)
        clear hw hh hks he hq' hs' hn' hsr' hg' hil hn
        refine wpList_op rfl fun K9 HK9 => ?_
        go_wp2_with fail
        refine (HW.out).mono ?_
        rintro e w2 ⟨rfl, hw2⟩
        refine HK9.out _ _ ?_
        clear HK9
        try simp only [Act.put, List.setIfInBounds_toArray, List.set_cons_zero, List.set_cons_succ]
        subst hw2
        go_upto_region 7 with fail
        refine wp_region_lit ?_
        refine wpList_run (v := .pointer (some ⟨q, 0, none⟩)) (wanted_none rfl) (exec_move rfl rfl) ?_
        simp only [Act.put, List.setIfInBounds_toArray, List.set_cons_zero, List.set_cons_succ]
        refine wpList_run (v := .pointer (some ⟨q, 0, none⟩)) (wanted_none rfl) (exec_nil rfl rfl) ?_
        simp only [Act.put, List.setIfInBounds_toArray, List.set_cons_zero, List.set_cons_succ]
        refine wpList_run (v := .pointer (some ⟨q, 1, none⟩)) (wanted_none rfl) (exec_field (off := 0) (d := 1) rfl rfl (by kernel_rfl)) ?_
        simp only [Act.put, List.setIfInBounds_toArray, List.set_cons_zero, List.set_cons_succ]
        refine wpList_run (v := .slice (some ⟨b, 0, none⟩) n c) (wanted_none rfl) (exec_load1 rfl rfl (by kernel_rfl) (HN1.out.blk.cell 1)) ?_
        simp only [Act.put, List.setIfInBounds_toArray, List.set_cons_zero, List.set_cons_succ]
        refine wpList_run (v := .int .i64 (i : Int)) (wanted_none rfl) (exec_move rfl rfl) ?_
        simp only [Act.put, List.setIfInBounds_toArray, List.set_cons_zero, List.set_cons_succ]
        refine wpList_run (v := .pointer (some ⟨b, 0 + i * 1, none⟩)) (wanted_none rfl) (gx_iaddr (i := i) (sz := 1) rfl rfl rfl Try.underlying60 size_ptr HIL.out rfl) ?_
        simp only [Act.put, List.setIfInBounds_toArray, List.set_cons_zero, List.set_cons_succ]
        refine wpList_run (v := .pointer (some ⟨q', 0, none⟩)) (wanted_none rfl) (exec_load1 rfl rfl (by kernel_rfl) (kid_cell HN1.out HQ'.out)) ?_
        simp only [Act.put, List.setIfInBounds_toArray, List.set_cons_zero, List.set_cons_succ]
        refine wpList_run (v := .pointer (some ⟨q', 0, none⟩)) (wanted_none rfl) (gx_assign rfl rfl) ?_
        simp only [Act.put, List.setIfInBounds_toArray, List.set_cons_zero, List.set_cons_succ]
        go_wp2_with fail
        go_roundg (e' + 1)
        case measure => have := HEE.out; omega
        case rel => exact ⟨e', q', M / 2, s', G', rfl, rfl, HR.out.1, HR.out.2.1, HR.out.2.2.1, HR.out.2.2.2, HT1.out⟩
/-- what a depth is: the levels of a tree that holds l -/
def DepthOf (M : Nat) (l : List Pr) (n : Nat) : Prop := (n = 0 ∧ l = []) ∨ ∃ (d : Nat) (t : Tr d), n = d + 1 ∧ Nd (M / 2) M 1 M t ∧ flat t = l
set_option maxRecDepth 20000 in
set_option maxHeartbeats 4000000 in
theorem Depth_walk {w : World} {x : Nat} {H : Hp} {M N : Nat} {l : List Pr} (h : Idx w x H M l N) :
    Calls Try.prog 20 #[.pointer (some ⟨x, 0, none⟩)] w fun e w' => (∃ n : Nat, e = .returned (.int .i64 (n : Int)) ∧ DepthOf M l n) ∧ w' = w := by
  obtain ⟨top, ch, hb, hch, htop⟩ := h.blk
  have HO := Lib.hid h.ord
  have HB := Lib.hid hb
  have HIN := Lib.hid h.hin
  have hbig : l.length ≤ 1099511627776 := Nat.le_trans h.cnt h.big
  clear h hb hch
  rcases htop with ⟨rfl, rfl⟩ | ⟨d, p, t, F, rfl, ht, hnd, hnb, hsr, hfl⟩
  · go_enter Try.func20, Try.ntmps20
    go_upto_region 1 with fail
    refine wp_region_lit ?_
    refine wpList_run (v := .pointer (some ⟨x, 0, none⟩)) (wanted_none rfl) (exec_move rfl rfl) ?_
    simp only [Act.put, List.setIfInBounds_toArray, List.set_cons_zero, List.set_cons_succ]
    refine wpList_run (v := .pointer (some ⟨x, 0, none⟩)) (wanted_none rfl) (exec_nil rfl rfl) ?_
    simp only [Act.put, List.setIfInBounds_toArray, List.set_cons_zero, List.set_cons_succ]
    refine wpList_run (v := .pointer (some ⟨x, 1, none⟩)) (wanted_none rfl) (exec_field (off := 0) (d := 1) rfl rfl (by kernel_rfl)) ?_
    simp only [Act.put, List.setIfInBounds_toArray, List.set_cons_zero, List.set_cons_succ]
    refine wpList_run (v := .pointer none) (wanted_none rfl) (exec_load1 rfl rfl (by kernel_rfl) (HB.out.cell 1)) ?_
    simp only [Act.put, List.setIfInBounds_toArray, List.set_cons_zero, List.set_cons_succ]
    refine wpList_run (v := .bool true) (wanted_none rfl) (ptr_nil rfl rfl rfl rfl) ?_
    simp only [Act.put, List.setIfInBounds_toArray, List.set_cons_zero, List.set_cons_succ]
    go_wp2_with fail
    go_ret
    exact ⟨⟨0, rfl, .inl ⟨rfl, rfl⟩⟩, rfl⟩
  · have hdd : d < 100 := by
      have h1 := flat_ge hnb
      rw [hfl] at h1
      have h2 : 2 ^ d ≤ (M / 2 + 1) ^ d := Nat.pow_le_pow_left (by have := HO.out; omega) d
      rcases Nat.lt_or_ge d 100 with h | h
      · exact h
      · exfalso
        have h3 : 2 ^ 100 ≤ 2 ^ d := Nat.pow_le_pow_right (by decide) h
        have h4 : (2 : Nat) ^ 100 = 1267650600228229401496703205376 := by decide
        have h5 : (1 + 1) * (M / 2 + 1) ^ d = 2 * (M / 2 + 1) ^ d := rfl
        omega
    have y1 : (d : Int) < 100 := by omega
    have HDO := Lib.hid (show DepthOf M l (d + 1) from .inr ⟨d, t, rfl, hnb, hfl⟩)
    have HT0 := Lib.hid ht
    have HNB0 := Lib.hid hnb
    clear hfl ht hnb hsr hnd hdd hbig
    go_enter Try.func20, Try.ntmps20
    go_upto_region 1 with fail
    refine wp_region_lit ?_
    refine wpList_run (v := .pointer (some ⟨x, 0, none⟩)) (wanted_none rfl) (exec_move rfl rfl) ?_
    simp only [Act.put, List.setIfInBounds_toArray, List.set_cons_zero, List.set_cons_succ]
    refine wpList_run (v := .pointer (some ⟨x, 0, none⟩)) (wanted_none rfl) (exec_nil rfl rfl) ?_
    simp only [Act.put, List.setIfInBounds_toArray, List.set_cons_zero, List.set_cons_succ]
    refine wpList_run (v := .pointer (some ⟨x, 1, none⟩)) (wanted_none rfl) (exec_field (off := 0) (d := 1) rfl rfl (by kernel_rfl)) ?_
    simp only [Act.put, List.setIfInBounds_toArray, List.set_cons_zero, List.set_cons_succ]
    refine wpList_run (v := .pointer (some ⟨p, 0, none⟩)) (wanted_none rfl) (exec_load1 rfl rfl (by kernel_rfl) (HB.out.cell 1)) ?_
    simp only [Act.put, List.setIfInBounds_toArray, List.set_cons_zero, List.set_cons_succ]
    refine wpList_run (v := .bool false) (wanted_none rfl) (ptr_some rfl rfl rfl rfl) ?_
    simp only [Act.put, List.setIfInBounds_toArray, List.set_cons_zero, List.set_cons_succ]
    go_upto_region 3 with fail
    refine wp_region_lit ?_
    refine wpList_run (v := .int .i64 1) (wanted_none rfl) (gx_assign rfl rfl) ?_
    simp only [Act.put, List.setIfInBounds_toArray, List.set_cons_zero, List.set_cons_succ]
    go_upto_region 4 with fail
    refine wp_region_lit ?_
    refine wpList_run (v := .pointer (some ⟨x, 0, none⟩)) (wanted_none rfl) (exec_move rfl rfl) ?_
    simp only [Act.put, List.setIfInBounds_toArray, List.set_cons_zero, List.set_cons_succ]
    refine wpList_run (v := .pointer (some ⟨x, 0, none⟩)) (wanted_none rfl) (exec_nil rfl rfl) ?_
    simp only [Act.put, List.setIfInBounds_toArray, List.set_cons_zero, List.set_cons_succ]
    refine wpList_run (v := .pointer (some ⟨x, 1, none⟩)) (wanted_none rfl) (exec_field (off := 0) (d := 1) rfl rfl (by kernel_rfl)) ?_
    simp only [Act.put, List.setIfInBounds_toArray, List.set_cons_zero, List.set_cons_succ]
    refine wpList_run (v := .pointer (some ⟨p, 0, none⟩)) (wanted_none rfl) (exec_load1 rfl rfl (by kernel_rfl) (HB.out.cell 1)) ?_
    simp only [Act.put, List.setIfInBounds_toArray, List.set_cons_zero, List.set_cons_succ]
    refine wpList_run (v := .pointer (some ⟨p, 0, none⟩)) (wanted_none rfl) (gx_assign rfl rfl) ?_
    simp only [Act.put, List.setIfInBounds_toArray, List.set_cons_zero, List.set_cons_succ]
    go_wp2_with fail
    go_loopg [3, 4] d (fun gk nv pv wr => ∃ (n q lo : Nat) (s : Tr gk) (G : List Nat), n + gk = d + 1 ∧ nv = .int .i64 (n : Int) ∧ pv = .pointer (some ⟨q, 0, none⟩) ∧ TrAt H q s G ∧ Nd (M / 2) M lo M s ∧ wr = w)
    case atStart => exact ⟨1, p, 1, t, F, by omega, rfl, rfl, HT0.out, HNB0.out, rfl⟩
    obtain ⟨n, q, lo, s, G, hn, rfl, rfl, hs, hnb, rfl⟩ := hrel
    have HS := Lib.hid hs
    have HNB := Lib.hid hnb
    have HNN := Lib.hid hn
    obtain ⟨vp, vk, ks, hq⟩ := hs.root
    have HQ := Lib.hid hq
    have HN := Lib.hid (show NodeAt wr q vp vk s.ps ks from HIN.out.at_ hq)
    have hw := lowest_walk HN.out
    have y2 : (n : Int) ≤ 101 := by omega
    clear hs hnb hq hn
    by_cases hks : ks = []
    · rw [show decide (ks = []) = true from decide_eq_true hks] at hw
      have HW := Lib.hid hw
      have HNE := Lib.hid (show n = d + 1 from by
        have h1 := HNB.out
        have h2 := HS.out
        have h3 := HQ.out
        have h4 := HNN.out
        cases gk with
        | zero => omega
        | succ e =>
          exfalso
          have := not_leaf h2 h1 ⟨_, _, h3⟩
          rw [hks] at this
          cases this)
      clear hw hks
      go_upto_region 5 with fail
      refine wp_region_lit ?_
      refine wpList_run (v := .pointer (some ⟨q, 0, none⟩)) (wanted_none rfl) (exec_move rfl rfl) ?_
      simp only [Act.put, List.setIfInBounds_toArray, List.set_cons_zero, List.set_cons_succ]
      refine wpList_op rfl fun K9 HK9 => ?_
      go_wp2_with fail
      refine (HW.out).mono ?_
      rintro e w2 ⟨rfl, hw2⟩
      refine HK9.out _ _ ?_
      clear HK9
      try simp only [Act.put, List.setIfInBounds_toArray, List.set_cons_zero, List.set_cons_succ]
      subst hw2
      refine wpList_run (v := .bool false) (wanted_none rfl) (ix_not (b := true) rfl rfl) ?_
      simp only [Act.put, List.setIfInBounds_toArray, List.set_cons_zero, List.set_cons_succ]
      go_wp2_with fail
      go_ret
      exact ⟨⟨n, rfl, by rw [HNE.out]; exact HDO.out⟩, rfl⟩
    · rw [show decide (ks = []) = false from decide_eq_false hks] at hw
      have HW := Lib.hid hw
      have key : ∃ (e' q' : Nat) (s' : Tr e') (G' : List Nat), gk = e' + 1 ∧ ks[0]? = some q' ∧ TrAt H q' s' G' ∧ Nd (M / 2) M (M / 2) M s' := by
        have h1 := HNB.out
        have h2 := HS.out
        have h3 := HQ.out
        clear HNB HS HQ HN HNN
        cases gk with
        | zero =>
          exfalso
          exact hks (Is.inj (show Is H q s.ps ks from ⟨_, _, h3⟩) h2.1).2
        | succ e =>
          have hlt : 0 < s.2.length := by have := h1.2.2.1; omega
          obtain ⟨c, hc⟩ : ∃ c, s.2[0]? = some c := ⟨_, List.getElem?_eq_getElem hlt⟩
          obtain ⟨ks', F', g1, g2, _⟩ := h2
          obtain ⟨_, e9⟩ := Is.inj (show Is H q s.1 ks from ⟨_, _, h3⟩) g1
          subst e9
          obtain ⟨q', G', g3, g4, _⟩ := g2.get hc
          exact ⟨e, q', c, G', rfl, g3, g4, nd_kid h1 hc⟩
      obtain ⟨e', q', s', G', he, hq', hs', hn'⟩ := key
      have HEE := Lib.hid he
      have HQ' := Lib.hid hq'
      have HR := Lib.hid (show TrAt H q' s' G' ∧ Nd (M / 2) M (M / 2) M s' from ⟨hs', hn'⟩)
      have hil : 0 < ks.length := (List.getElem?_eq_some_iff.1 hq').1
      obtain ⟨b, c, e9, _, _⟩ := HN.out.kds.some_ (by rw [List.length_map]; omega)
      obtain ⟨m, hm⟩ : ∃ n, n = ks.length := ⟨_, rfl⟩
      replace e9 := e9.trans (show _ = Value.slice (some ⟨b, 0, none⟩) m c from by rw [List.length_map, hm])
      subst e9
      have HIL := Lib.hid (show 0 < m by omega)
      clear hw hks he hq' hs' hn' hil hm
      go_upto_region 5 with fail
      refine wp_region_lit ?_
      refine wpList_run (v := .pointer (some ⟨q, 0, none⟩)) (wanted_none rfl) (exec_move rfl rfl) ?_
      simp only [Act.put, List.setIfInBounds_toArray, List.set_cons_zero, List.set_cons_succ]
      refine wpList_op rfl fun K9 HK9 => ?_
      go_wp2_with fail
      refine (HW.out).mono ?_
      rintro e w2 ⟨rfl, hw2⟩
      refine HK9.out _ _ ?_
      clear HK9
      try simp only [Act.put, List.setIfInBounds_toArray, List.set_cons_zero, List.set_cons_succ]
      subst hw2
      refine wpList_run (v := .bool true) (wanted_none rfl) (ix_not (b := false) rfl rfl) ?_
      simp only [Act.put, List.setIfInBounds_toArray, List.set_cons_zero, List.set_cons_succ]
      go_upto_region 7 with fail
      refine wp_region_lit ?_
      refine wpList_run (v := .int .i64 (n : Int)) (wanted_none rfl) (exec_move rfl rfl) ?_
      simp only [Act.put, List.setIfInBounds_toArray, List.set_cons_zero, List.set_cons_succ]
      refine wpList_run (v := .int .i64 ((n + 1 : Nat) : Int)) (wanted_none rfl) (ix_add rfl rfl rfl (by omega) (by omega)) ?_
      simp only [Act.put, List.setIfInBounds_toArray, List.set_cons_zero, List.set_cons_succ]
      refine wpList_run (v := .int .i64 ((n + 1 : Nat) : Int)) (wanted_none rfl) (gx_assign rfl rfl) ?_
      simp only [Act.put, List.setIfInBounds_toArray, List.set_cons_zero, List.set_cons_succ]
      go_upto_region 6 with fail
      refine wp_region_lit ?_
      refine wpList_run (v := .pointer (some ⟨q, 0, none⟩)) (wanted_none rfl) (exec_move rfl rfl) ?_
      simp only [Act.put, List.setIfInBounds_toArray, List.set_cons_zero, List.set_cons_succ]
      refine wpList_run (v := .pointer (some ⟨q, 0, none⟩)) (wanted_none rfl) (exec_nil rfl rfl) ?_
      simp only [Act.put, List.setIfInBounds_toArray, List.set_cons_zero, List.set_cons_succ]
      refine wpList_run (v := .pointer (some ⟨q, 1, none⟩)) (wanted_none rfl) (exec_field (off := 0) (d := 1) rfl rfl (by kernel_rfl)) ?_
      simp only [Act.put, List.setIfInBounds_toArray, List.set_cons_zero, List.set_cons_succ]
      refine wpList_run (v := .slice (some ⟨b, 0, none⟩) m c) (wanted_none rfl) (exec_load1 rfl rfl (by kernel_rfl) (HN.out.blk.cell 1)) ?_
      simp only [Act.put, List.setIfInBounds_toArray, List.set_cons_zero, List.set_cons_succ]
      refine wpList_run (v := .pointer (some ⟨b, 0 + 0 * 1, none⟩)) (wanted_none rfl) (gx_iaddr (i := 0) (sz := 1) rfl rfl rfl Try.underlying60 size_ptr HIL.out rfl) ?_
      simp only [Act.put, List.setIfInBounds_toArray, List.set_cons_zero, List.set_cons_succ]
      refine wpList_run (v := .pointer (some ⟨q', 0, none⟩)) (wanted_none rfl) (exec_load1 rfl rfl (by kernel_rfl) (kid_cell HN.out HQ'.out)) ?_
      simp only [Act.put, List.setIfInBounds_toArray, List.set_cons_zero, List.set_cons_succ]
      refine wpList_run (v := .pointer (some ⟨q', 0, none⟩)) (wanted_none rfl) (gx_assign rfl rfl) ?_
      simp only [Act.put, List.setIfInBounds_toArray, List.set_cons_zero, List.set_cons_succ]
      go_wp2_with fail
      go_roundg e'
      case measure => have := HEE.out; omega
      case rel => exact ⟨n + 1, q', M / 2, s', G', by have := HEE.out; have := HNN.out; omega, rfl, rfl, HR.out.1, HR.out.2, rfl⟩
end Go.Proofs.Ytmlkdkbpbleilaa
