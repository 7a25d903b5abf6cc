/-
  LifeSame. No conditions.
-/
import Derived.Test.YtjjbmnoamcfdgaaDoorLfI
namespace Go.Proofs.YtjjbmnoamcfdgaaDoor
open Go.RowKit
set_option linter.unusedVariables false
set_option linter.unusedSimpArgs false
set_option maxRecDepth 20000
theorem same_tenth (t : Int) (h : 0 ≤ t) : t.tdiv 10 = (t.tdiv 10 * 10 + 1).tdiv 10 := by
  rw [Int.tdiv_eq_ediv_of_nonneg h, Int.tdiv_eq_ediv_of_nonneg (by omega)]
  omega
theorem tenth_in {n : Int} (hn : -9223372036854775808 ≤ n ∧ n ≤ 9223372036854775807) : -922337203685477580 ≤ n.tdiv 10 ∧ n.tdiv 10 ≤ 922337203685477580 := by
  rcases Int.le_total 0 n with h | h
  · rw [Int.tdiv_eq_ediv_of_nonneg h]
    omega
  · have e : n.tdiv 10 = -((-n).tdiv 10) := by rw [Int.neg_tdiv, Int.neg_neg]
    rw [e, Int.tdiv_eq_ediv_of_nonneg (by omega)]
    omega
set_option maxRecDepth 20000 in
set_option maxHeartbeats 4000000 in
theorem lifeSame_walk {ty : Int} {A : Option Addr} {n c : Nat} {fs : List Fld} (w : World) (hc : CT w) (hm : Mi w ty A n c fs) : Calls Tryd.prog 4 #[msgV ty A n c] w fun e w' => e = .returned (.bool true) ∧ Below w.heap.size w w' := by
  have HM := Lib.hid hm
  have HC := Lib.hid hc
  clear hm hc
  unfold msgV
  go_enter Tryd.func4, Tryd.ntmps4
  go_upto_region 1 with fail
  have hb0 := Blk.new w 24 #[.int .i64 ty, .slice A n c]
  have hu0 := (Turn.refl nowhere w).alloc (.cells #[.int .i64 ty, .slice A n c] 24)
  obtain ⟨gm, hg0⟩ : ∃ g, g = w.heap.size := ⟨_, rfl⟩
  rw [← hg0] at hb0 ⊢
  clear hg0
  generalize w.alloc (.cells #[.int .i64 ty, .slice A n c] 24) = w1 at *
  have HBgm := Lib.hid hb0
  have HT0 := Lib.hid hu0
  clear hb0 hu0
  have HCw := Lib.hid (HC.out.still HT0.out)
  have HF := Lib.hid (HM.out.fl.still HT0.out)
  refine wp_region_lit ?_
  refine wpList_op rfl fun K9 HK9 => ?_
  go_wp2_with fail
  refine (shown_walk w1).mono ?_
  rintro e w2 ⟨rfl, ht⟩
  refine HK9.out _ _ ?_
  clear HK9
  try simp only [Act.put, List.setIfInBounds_toArray, List.set_cons_zero, List.set_cons_succ]
  have HT1 := Lib.hid ht
  clear ht
  refine wpList_run (v := .bool true) (wanted_none rfl) (gx_assign rfl rfl) ?_
  simp only [Act.put, List.setIfInBounds_toArray, List.set_cons_zero, List.set_cons_succ]
  have HQ := Lib.hid (tenth_in HM.out.int)
  have HQS := Lib.hid (same_tenth ty)
  have HBgm2 := Lib.hid (HBgm.out.turn HT1.out (fun e => e))
  have HF2 := Lib.hid (HF.out.still HT1.out)
  go_upto_region 2 with fail
  go_cut [4] from 10 to 19 (fun ov wx => ∃ (go : Nat) (A7 : Option Addr) (c7 : Nat), ov = .pointer (some ⟨go, 0, none⟩) ∧ Blk wx go 24 #[.int .i64 (ty.tdiv 10 * 10 + 1), .slice A7 n c7] ∧ Fr wx w2.heap.size (.slice A7 n c7) fs ∧ Turn nowhere w2 wx)
  case first =>
    have HD := Lib.hid ((Turn.refl nowhere w2).drew)
    refine wp_region_alw (fun W => Blk W gm 24 #[.int .i64 ty, .slice A n c]) (by kernel_rfl) ?_
    have hS0 : Blk w2.drew gm 24 #[.int .i64 ty, .slice A n c] := HBgm2.out.drew
    have HFd := Lib.hid (HF2.out.still HD.out)
    have HSd := Lib.hid hS0
    have HSZ := Lib.hid (show w2.drew.heap.size = w2.heap.size from rfl)
    generalize w2.drew = wd at *
    refine alw_take (i := 0) (v := .pointer (some ⟨gm, 0, none⟩)) rfl (by kernel_rfl) (by kernel_rfl) (fun _ _ _ h => h) (.inl ⟨by rfl, fun W hW => exec_field (off := 0) (d := 0) rfl rfl (by kernel_rfl)⟩) hS0 ?_
    simp only [Act.put, List.setIfInBounds_toArray, List.set_cons_zero, List.set_cons_succ]
    refine alw_take (i := 1) (v := .int .i64 ty) rfl (by kernel_rfl) (by kernel_rfl) (fun _ _ _ h => h) (.inl ⟨by rfl, fun W hW => exec_load1 rfl rfl (by kernel_rfl) (hW.cell 0)⟩) hS0 ?_
    simp only [Act.put, List.setIfInBounds_toArray, List.set_cons_zero, List.set_cons_succ]
    refine alw_take (i := 2) (v := .int .i64 (ty.tdiv 10)) rfl (by kernel_rfl) (by kernel_rfl) (fun _ _ _ h => h) (.inl ⟨by rfl, fun W hW => ix_quo10 rfl rfl rfl HM.out.int⟩) hS0 ?_
    simp only [Act.put, List.setIfInBounds_toArray, List.set_cons_zero, List.set_cons_succ]
    refine alw_take (i := 3) (v := .int .i64 (ty.tdiv 10 * 10)) rfl (by kernel_rfl) (by kernel_rfl) (fun _ _ _ h => h) (.inl ⟨by rfl, fun W hW => ix_mul rfl rfl rfl rfl (by have := HQ.out; omega)⟩) hS0 ?_
    simp only [Act.put, List.setIfInBounds_toArray, List.set_cons_zero, List.set_cons_succ]
    refine alw_take (i := 4) (v := .int .i64 (ty.tdiv 10 * 10 + 1)) rfl (by kernel_rfl) (by kernel_rfl) (fun _ _ _ h => h) (.inl ⟨by rfl, fun W hW => ix_add rfl rfl rfl rfl (by have := HQ.out; omega)⟩) hS0 ?_
    simp only [Act.put, List.setIfInBounds_toArray, List.set_cons_zero, List.set_cons_succ]
    refine alw_take (i := 6) (v := .pointer (some ⟨gm, 1, none⟩)) rfl (by kernel_rfl) (by kernel_rfl) (fun _ _ _ h => h) (.inl ⟨by rfl, fun W hW => exec_field (off := 0) (d := 1) rfl rfl (by kernel_rfl)⟩) hS0 ?_
    simp only [Act.put, List.setIfInBounds_toArray, List.set_cons_zero, List.set_cons_succ]
    refine alw_take (i := 7) (v := .slice A n c) rfl (by kernel_rfl) (by kernel_rfl) (fun _ _ _ h => h) (.inl ⟨by rfl, fun W hW => exec_load1 rfl rfl (by kernel_rfl) (hW.cell 1)⟩) hS0 ?_
    simp only [Act.put, List.setIfInBounds_toArray, List.set_cons_zero, List.set_cons_succ]
    have HE1 := Lib.hid ((Turn.refl nowhere wd).alloc (.cells #[] 34))
    have HZ1 := Lib.hid ((Turn.refl nowhere wd).alloc (.cells #[.int .i64 0, .slice none 0 0] 24))
    refine alw_two (i := 5) (k := 10) (by kernel_rfl) rfl rfl rfl rfl ?_ ?_
    · intro K1 HK1
      refine wp_run (bx_slice0 rfl (build_f0 _)) ?_
      refine HK1.out _ _ ⟨HSd.out.turn HE1.out (fun e => e), ?_⟩
      clear HK1
      try simp only [Act.put, List.setIfInBounds_toArray, List.set_cons_zero, List.set_cons_succ]
      have HR1 := Lib.hid (own_made (Turn.refl nowhere wd))
      refine alw_two (i := 8) (k := 10) (by kernel_rfl) rfl rfl rfl rfl ?_ ?_
      · obtain ⟨A5, c5, w5, hrun, hrow, ht5, hgr⟩ := own_app HR1.out HE1.out HFd.out HM.out.nil HM.out.room
        intro K1 HK1
        refine wp_run (exec_append rfl rfl rfl hrun) ?_
        refine HK1.out _ _ ⟨HSd.out.turn ht5 (fun e => e), ?_⟩
        clear HK1
        try simp only [Act.put, List.setIfInBounds_toArray, List.set_cons_zero, List.set_cons_succ]
        have hS9 := HSd.out.turn ht5 (fun e => e)
        refine alw_take (i := 9) (v := .agg #[.int .i64 (ty.tdiv 10 * 10 + 1), .slice A5 n c5]) rfl (by kernel_rfl) (by kernel_rfl) (fun _ _ _ h => h) (.inl ⟨by rfl, fun W hW => gx_build2 rfl rfl rfl (build_msg2 (ty.tdiv 10 * 10 + 1) A5 n c5 W)⟩) hS9 ?_
        simp only [Act.put, List.setIfInBounds_toArray, List.set_cons_zero, List.set_cons_succ]
        refine alw_step (i := 10) (by kernel_rfl) rfl rfl ?_
        intro K1 HK1
        refine wp_run (gx_alloc rfl (zero_msg _)) ?_
        have hta := ht5.alloc (.cells #[.int .i64 0, .slice none 0 0] 24)
        refine HK1.out _ _ ⟨HSd.out.turn hta (fun e => e), ?_⟩
        clear HK1
        try simp only [Act.put, List.setIfInBounds_toArray, List.set_cons_zero, List.set_cons_succ]
        have hb6 := Blk.new w5 24 #[.int .i64 0, .slice none 0 0]
        have hr6 := Orw.still hrow ((Turn.refl nowhere w5).alloc (.cells #[.int .i64 0, .slice none 0 0] 24))
        refine alw_step (i := 11) (by kernel_rfl) rfl rfl ?_
        intro K1 HK1
        refine wp_store_rowU 24 (.tmp 4) (.tmp 19) rfl #[.int .i64 (ty.tdiv 10 * 10 + 1), .slice A5 n c5] hb6 rfl rfl rfl (by rw [size_msg]; rfl) (msgA_one _ _ _ _) ?_
        intro w7 hb7 hu7
        have hend := own_end hr6 hb6 hta ht5.size hu7
        refine HK1.out _ _ ⟨HSd.out.turn hend.2 (fun e => e), ?_⟩
        clear HK1
        try simp only [Act.put, List.setIfInBounds_toArray, List.set_cons_zero, List.set_cons_succ]
        refine alw_done rfl ?_
        refine NoPanic.normal ?_
        go_wp2_with fail
        go_meet
        exact ⟨_, A5, c5, rfl, hb7, by rw [← HSZ.out]; exact hend.1, HD.out.trans hend.2 (fun _ _ e => e)⟩
      · have hta := HE1.out.alloc (.cells #[.int .i64 0, .slice none 0 0] 24)
        intro K1 HK1
        refine wp_run (gx_alloc rfl (zero_msg _)) ?_
        refine HK1.out _ _ ⟨HSd.out.turn hta (fun e => e), ?_⟩
        clear HK1
        try simp only [Act.put, List.setIfInBounds_toArray, List.set_cons_zero, List.set_cons_succ]
        have hb6 := Blk.new (wd.alloc (.cells #[] 34)) 24 #[.int .i64 0, .slice none 0 0]
        obtain ⟨A5, c5, w5, hrun, hrow, ht5, hgr⟩ := own_app (Orw.still HR1.out ((Turn.refl nowhere (wd.alloc (.cells #[] 34))).alloc (.cells #[.int .i64 0, .slice none 0 0] 24))) hta HFd.out HM.out.nil HM.out.room
        refine alw_step (i := 8) (by kernel_rfl) rfl rfl ?_
        intro K1 HK1
        refine wp_run (exec_append rfl rfl rfl hrun) ?_
        refine HK1.out _ _ ⟨HSd.out.turn ht5 (fun e => e), ?_⟩
        clear HK1
        try simp only [Act.put, List.setIfInBounds_toArray, List.set_cons_zero, List.set_cons_succ]
        have hS9 := HSd.out.turn ht5 (fun e => e)
        refine alw_take (i := 9) (v := .agg #[.int .i64 (ty.tdiv 10 * 10 + 1), .slice A5 n c5]) rfl (by kernel_rfl) (by kernel_rfl) (fun _ _ _ h => h) (.inl ⟨by rfl, fun W hW => gx_build2 rfl rfl rfl (build_msg2 (ty.tdiv 10 * 10 + 1) A5 n c5 W)⟩) hS9 ?_
        simp only [Act.put, List.setIfInBounds_toArray, List.set_cons_zero, List.set_cons_succ]
        have hb6 := hb6.grown hgr (by simp)
        refine alw_step (i := 11) (by kernel_rfl) rfl rfl ?_
        intro K1 HK1
        refine wp_store_rowU 24 (.tmp 4) (.tmp 19) rfl #[.int .i64 (ty.tdiv 10 * 10 + 1), .slice A5 n c5] hb6 rfl rfl rfl (by rw [size_msg]; rfl) (msgA_one _ _ _ _) ?_
        intro w7 hb7 hu7
        have hend := own_end hrow hb6 ht5 (by simp) hu7
        refine HK1.out _ _ ⟨HSd.out.turn hend.2 (fun e => e), ?_⟩
        clear HK1
        try simp only [Act.put, List.setIfInBounds_toArray, List.set_cons_zero, List.set_cons_succ]
        refine alw_done rfl ?_
        refine NoPanic.normal ?_
        go_wp2_with fail
        go_meet
        exact ⟨_, A5, c5, rfl, hb7, by rw [← HSZ.out]; exact hend.1, HD.out.trans hend.2 (fun _ _ e => e)⟩
    · intro K1 HK1
      refine wp_run (gx_alloc rfl (zero_msg _)) ?_
      refine HK1.out _ _ ⟨HSd.out.turn HZ1.out (fun e => e), ?_⟩
      clear HK1
      try simp only [Act.put, List.setIfInBounds_toArray, List.set_cons_zero, List.set_cons_succ]
      have hb60 := Blk.new wd 24 #[.int .i64 0, .slice none 0 0]
      have hR1 := own_made HZ1.out
      have hta := HZ1.out.alloc (.cells #[] 34)
      refine alw_step (i := 5) (by kernel_rfl) rfl rfl ?_
      intro K1 HK1
      refine wp_run (bx_slice0 rfl (build_f0 _)) ?_
      refine HK1.out _ _ ⟨HSd.out.turn hta (fun e => e), ?_⟩
      clear HK1
      try simp only [Act.put, List.setIfInBounds_toArray, List.set_cons_zero, List.set_cons_succ]
      obtain ⟨A5, c5, w5, hrun, hrow, ht5, hgr⟩ := own_app hR1 hta HFd.out HM.out.nil HM.out.room
      refine alw_step (i := 8) (by kernel_rfl) rfl rfl ?_
      intro K1 HK1
      refine wp_run (exec_append rfl rfl rfl hrun) ?_
      refine HK1.out _ _ ⟨HSd.out.turn ht5 (fun e => e), ?_⟩
      clear HK1
      try simp only [Act.put, List.setIfInBounds_toArray, List.set_cons_zero, List.set_cons_succ]
      have hS9 := HSd.out.turn ht5 (fun e => e)
      refine alw_take (i := 9) (v := .agg #[.int .i64 (ty.tdiv 10 * 10 + 1), .slice A5 n c5]) rfl (by kernel_rfl) (by kernel_rfl) (fun _ _ _ h => h) (.inl ⟨by rfl, fun W hW => gx_build2 rfl rfl rfl (build_msg2 (ty.tdiv 10 * 10 + 1) A5 n c5 W)⟩) hS9 ?_
      simp only [Act.put, List.setIfInBounds_toArray, List.set_cons_zero, List.set_cons_succ]
      have hb6 := (hb60.alloc (.cells #[] 34)).grown hgr (by simp)
      refine alw_step (i := 11) (by kernel_rfl) rfl rfl ?_
      intro K1 HK1
      refine wp_store_rowU 24 (.tmp 4) (.tmp 19) rfl #[.int .i64 (ty.tdiv 10 * 10 + 1), .slice A5 n c5] hb6 rfl rfl rfl (by rw [size_msg]; rfl) (msgA_one _ _ _ _) ?_
      intro w7 hb7 hu7
      have hend := own_end hrow hb6 ht5 (Nat.le_refl _) hu7
      refine HK1.out _ _ ⟨HSd.out.turn hend.2 (fun e => e), ?_⟩
      clear HK1
      try simp only [Act.put, List.setIfInBounds_toArray, List.set_cons_zero, List.set_cons_succ]
      refine alw_done rfl ?_
      refine NoPanic.normal ?_
      go_wp2_with fail
      go_meet
      exact ⟨_, A5, c5, rfl, hb7, by rw [← HSZ.out]; exact hend.1, HD.out.trans hend.2 (fun _ _ e => e)⟩
  obtain ⟨go, A7, c7, rfl, hbo, hro, hto⟩ := hcut
  have HBgo := Lib.hid hbo
  have HFo := Lib.hid (hro.fl (by have := HM.out.fl.1; have := HM.out.room; omega))
  have HTo := Lib.hid (HT1.out.trans hto fun _ _ e => e)
  have HBg3 := Lib.hid (HBgm2.out.turn hto fun e => e)
  clear hbo hro hto HT1 HBgm2
  by_cases h0 : ty < 0
  · have HN := Lib.hid h0
    clear h0
    go_upto_region 3 with fail
    refine wp_region_lit ?_
    refine wpList_run (v := .pointer (some ⟨gm, 0, none⟩)) (wanted_none rfl) (exec_field (off := 0) (d := 0) rfl rfl (by kernel_rfl)) ?_
    simp only [Act.put, List.setIfInBounds_toArray, List.set_cons_zero, List.set_cons_succ]
    refine wpList_run (v := .int .i64 ty) (wanted_none rfl) (exec_load1 rfl rfl (by kernel_rfl) (HBg3.out.cell 0)) ?_
    simp only [Act.put, List.setIfInBounds_toArray, List.set_cons_zero, List.set_cons_succ]
    refine wpList_run (v := .bool true) (wanted_none rfl) (ix_lss rfl rfl rfl (decide_eq_true HN.out)) ?_
    simp only [Act.put, List.setIfInBounds_toArray, List.set_cons_zero, List.set_cons_succ]
    go_upto_region 4 with fail
    refine wp_region_lit ?_
    refine wpList_run (v := .bool true) (wanted_none rfl) (exec_move rfl rfl) ?_
    simp only [Act.put, List.setIfInBounds_toArray, List.set_cons_zero, List.set_cons_succ]
    refine wpList_run (v := .bool true) (wanted_none rfl) (gx_assign rfl rfl) ?_
    simp only [Act.put, List.setIfInBounds_toArray, List.set_cons_zero, List.set_cons_succ]
    go_wp2_with fail
    go_ret
    exact ⟨rfl, (HT0.out.trans HTo.out fun _ _ e => e).below (Nat.le_refl _) (fun _ _ e => e)⟩
  · have HN := Lib.hid h0
    have HSAME := Lib.hid (HQS.out (by omega))
    clear h0
    go_upto_region 3 with fail
    refine wp_region_lit ?_
    refine wpList_run (v := .pointer (some ⟨gm, 0, none⟩)) (wanted_none rfl) (exec_field (off := 0) (d := 0) rfl rfl (by kernel_rfl)) ?_
    simp only [Act.put, List.setIfInBounds_toArray, List.set_cons_zero, List.set_cons_succ]
    refine wpList_run (v := .int .i64 ty) (wanted_none rfl) (exec_load1 rfl rfl (by kernel_rfl) (HBg3.out.cell 0)) ?_
    simp only [Act.put, List.setIfInBounds_toArray, List.set_cons_zero, List.set_cons_succ]
    refine wpList_run (v := .bool false) (wanted_none rfl) (ix_lss rfl rfl rfl (decide_eq_false HN.out)) ?_
    simp only [Act.put, List.setIfInBounds_toArray, List.set_cons_zero, List.set_cons_succ]
    obtain ⟨k, e, hk⟩ := keyV_ex (keyM fs)
    have HK := Lib.hid hk
    clear hk
    go_upto_region 5 with fail
    refine wp_region_lit ?_
    refine wpList_run (v := msgV ty A n c) (wanted_none rfl) (gx_loads rfl rfl (blk_range HBg3.out) Tryd.underlying24 rfl (by rw [size_msg]; rfl)) ?_
    simp only [Act.put, List.setIfInBounds_toArray, List.set_cons_zero, List.set_cons_succ]
    have hr := Key_walk (ty := ty) (c := c) (HF.out.still HTo.out) HM.out.sh
    rw [HK.out] at hr
    refine wpList_op rfl fun K9 HK9 => ?_
    go_wp2_with fail
    refine (hr).mono ?_
    rintro e w4 ⟨rfl, ht⟩
    refine HK9.out _ _ ?_
    clear HK9
    try simp only [Act.put, List.setIfInBounds_toArray, List.set_cons_zero, List.set_cons_succ]
    have HS1 := Lib.hid ht
    clear ht hr
    refine wpList_run (v := .tuple #[strV k, .int .i64 e]) (wanted_none rfl) (exec_move rfl rfl) ?_
    simp only [Act.put, List.setIfInBounds_toArray, List.set_cons_zero, List.set_cons_succ]
    refine wpList_run (v := strV k) (wanted_none rfl) (ix_extract rfl rfl rfl) ?_
    simp only [Act.put, List.setIfInBounds_toArray, List.set_cons_zero, List.set_cons_succ]
    refine wpList_run (v := .int .i64 e) (wanted_none rfl) (ix_extract rfl rfl rfl) ?_
    simp only [Act.put, List.setIfInBounds_toArray, List.set_cons_zero, List.set_cons_succ]
    refine wpList_run (v := strV k) (wanted_none rfl) (gx_assign rfl rfl) ?_
    simp only [Act.put, List.setIfInBounds_toArray, List.set_cons_zero, List.set_cons_succ]
    refine wpList_run (v := .int .i64 e) (wanted_none rfl) (gx_assign rfl rfl) ?_
    simp only [Act.put, List.setIfInBounds_toArray, List.set_cons_zero, List.set_cons_succ]
    go_upto_region 6 with fail
    refine wp_region_lit ?_
    refine wpList_run (v := msgV (ty.tdiv 10 * 10 + 1) A7 n c7) (wanted_none rfl) (gx_loads rfl rfl (blk_range (HBgo.out.turn HS1.out (fun e => e))) Tryd.underlying24 rfl (by rw [size_msg]; rfl)) ?_
    simp only [Act.put, List.setIfInBounds_toArray, List.set_cons_zero, List.set_cons_succ]
    have hr := Key_walk (ty := (ty.tdiv 10 * 10 + 1)) (c := c7) (HFo.out.still HS1.out) HM.out.sh
    rw [HK.out] at hr
    refine wpList_op rfl fun K9 HK9 => ?_
    go_wp2_with fail
    refine (hr).mono ?_
    rintro e w5 ⟨rfl, ht⟩
    refine HK9.out _ _ ?_
    clear HK9
    try simp only [Act.put, List.setIfInBounds_toArray, List.set_cons_zero, List.set_cons_succ]
    have HS2 := Lib.hid (HS1.out.trans ht fun _ _ e => e)
    clear ht hr HS1
    refine wpList_run (v := .tuple #[strV k, .int .i64 e]) (wanted_none rfl) (exec_move rfl rfl) ?_
    simp only [Act.put, List.setIfInBounds_toArray, List.set_cons_zero, List.set_cons_succ]
    refine wpList_run (v := strV k) (wanted_none rfl) (ix_extract rfl rfl rfl) ?_
    simp only [Act.put, List.setIfInBounds_toArray, List.set_cons_zero, List.set_cons_succ]
    refine wpList_run (v := .int .i64 e) (wanted_none rfl) (ix_extract rfl rfl rfl) ?_
    simp only [Act.put, List.setIfInBounds_toArray, List.set_cons_zero, List.set_cons_succ]
    refine wpList_run (v := strV k) (wanted_none rfl) (gx_assign rfl rfl) ?_
    simp only [Act.put, List.setIfInBounds_toArray, List.set_cons_zero, List.set_cons_succ]
    refine wpList_run (v := .int .i64 e) (wanted_none rfl) (gx_assign rfl rfl) ?_
    simp only [Act.put, List.setIfInBounds_toArray, List.set_cons_zero, List.set_cons_succ]
    go_upto_region 7 with fail
    refine wp_region_lit ?_
    refine wpList_run (v := .bool true) (wanted_none rfl) (exec_move rfl rfl) ?_
    simp only [Act.put, List.setIfInBounds_toArray, List.set_cons_zero, List.set_cons_succ]
    refine wpList_run (v := .bool true) (wanted_none rfl) (exec_move rfl rfl) ?_
    simp only [Act.put, List.setIfInBounds_toArray, List.set_cons_zero, List.set_cons_succ]
    refine wpList_run (v := msgV ty A n c) rfl (gx_loads rfl rfl (blk_range (HBg3.out.turn HS2.out (fun e => e))) Tryd.underlying24 rfl (by rw [size_msg]; rfl)) ?_
    simp only [Act.put, List.setIfInBounds_toArray, List.set_cons_zero, List.set_cons_succ]
    refine wpList_run (v := msgV (ty.tdiv 10 * 10 + 1) A7 n c7) rfl (gx_loads rfl rfl (blk_range (HBgo.out.turn HS2.out (fun e => e))) Tryd.underlying24 rfl (by rw [size_msg]; rfl)) ?_
    simp only [Act.put, List.setIfInBounds_toArray, List.set_cons_zero, List.set_cons_succ]
    have hr := Alike_walk (c1 := c) (c2 := c7) (HF.out.still (HTo.out.trans HS2.out fun _ _ e => e)) (HFo.out.still HS2.out) HM.out.int (show -9223372036854775808 ≤ (ty.tdiv 10 * 10 + 1) ∧ (ty.tdiv 10 * 10 + 1) ≤ 9223372036854775807 from by have := HQ.out; omega) (HCw.out.still (HTo.out.trans HS2.out fun _ _ e => e))
    rw [alike_same HSAME.out] at hr
    refine wpList_op rfl fun K9 HK9 => ?_
    go_wp2_with fail
    refine (hr).mono ?_
    rintro e w6 ⟨rfl, ht⟩
    refine HK9.out _ _ ?_
    clear HK9
    try simp only [Act.put, List.setIfInBounds_toArray, List.set_cons_zero, List.set_cons_succ]
    have HS3 := Lib.hid (HS2.out.trans ht fun _ _ e => e)
    clear ht hr HS2
    refine wpList_run (v := .bool true) (wanted_none rfl) (ix_pickT rfl rfl rfl) ?_
    simp only [Act.put, List.setIfInBounds_toArray, List.set_cons_zero, List.set_cons_succ]
    refine wpList_run (v := .bool true) (wanted_none rfl) (exec_move rfl rfl) ?_
    simp only [Act.put, List.setIfInBounds_toArray, List.set_cons_zero, List.set_cons_succ]
    refine wpList_run (v := msgV ty A n c) rfl (gx_loads rfl rfl (blk_range (HBg3.out.turn HS3.out (fun e => e))) Tryd.underlying24 rfl (by rw [size_msg]; rfl)) ?_
    simp only [Act.put, List.setIfInBounds_toArray, List.set_cons_zero, List.set_cons_succ]
    refine wpList_run (v := msgV ty A n c) rfl (gx_loads rfl rfl (blk_range (HBg3.out.turn HS3.out (fun e => e))) Tryd.underlying24 rfl (by rw [size_msg]; rfl)) ?_
    simp only [Act.put, List.setIfInBounds_toArray, List.set_cons_zero, List.set_cons_succ]
    have hr := Alike_walk (c1 := c) (c2 := c) (HF.out.still (HTo.out.trans HS3.out fun _ _ e => e)) (HF.out.still (HTo.out.trans HS3.out fun _ _ e => e)) HM.out.int HM.out.int (HCw.out.still (HTo.out.trans HS3.out fun _ _ e => e))
    rw [alike_same rfl] at hr
    refine wpList_op rfl fun K9 HK9 => ?_
    go_wp2_with fail
    refine (hr).mono ?_
    rintro e w7 ⟨rfl, ht⟩
    refine HK9.out _ _ ?_
    clear HK9
    try simp only [Act.put, List.setIfInBounds_toArray, List.set_cons_zero, List.set_cons_succ]
    have HS4 := Lib.hid (HS3.out.trans ht fun _ _ e => e)
    clear ht hr HS3
    refine wpList_run (v := .bool true) (wanted_none rfl) (ix_pickT rfl rfl rfl) ?_
    simp only [Act.put, List.setIfInBounds_toArray, List.set_cons_zero, List.set_cons_succ]
    refine wpList_run (v := .bool true) (wanted_none rfl) (exec_move rfl rfl) ?_
    simp only [Act.put, List.setIfInBounds_toArray, List.set_cons_zero, List.set_cons_succ]
    refine wpList_run (v := strV k) rfl (exec_move rfl rfl) ?_
    simp only [Act.put, List.setIfInBounds_toArray, List.set_cons_zero, List.set_cons_succ]
    refine wpList_run (v := strV k) rfl (exec_move rfl rfl) ?_
    simp only [Act.put, List.setIfInBounds_toArray, List.set_cons_zero, List.set_cons_succ]
    refine wpList_run (v := .bool true) rfl (exec_seqT rfl rfl rfl rfl) ?_
    simp only [Act.put, List.setIfInBounds_toArray, List.set_cons_zero, List.set_cons_succ]
    refine wpList_run (v := .bool true) (wanted_none rfl) (ix_pickT rfl rfl rfl) ?_
    simp only [Act.put, List.setIfInBounds_toArray, List.set_cons_zero, List.set_cons_succ]
    refine wpList_run (v := .bool true) (wanted_none rfl) (exec_move rfl rfl) ?_
    simp only [Act.put, List.setIfInBounds_toArray, List.set_cons_zero, List.set_cons_succ]
    refine wpList_run (v := .int .i64 e) rfl (exec_move rfl rfl) ?_
    simp only [Act.put, List.setIfInBounds_toArray, List.set_cons_zero, List.set_cons_succ]
    refine wpList_run (v := .int .i64 e) rfl (exec_move rfl rfl) ?_
    simp only [Act.put, List.setIfInBounds_toArray, List.set_cons_zero, List.set_cons_succ]
    refine wpList_run (v := .bool true) rfl (ix_eql rfl rfl rfl (decide_eq_true rfl)) ?_
    simp only [Act.put, List.setIfInBounds_toArray, List.set_cons_zero, List.set_cons_succ]
    refine wpList_run (v := .bool true) (wanted_none rfl) (ix_pickT rfl rfl rfl) ?_
    simp only [Act.put, List.setIfInBounds_toArray, List.set_cons_zero, List.set_cons_succ]
    refine wpList_run (v := .bool true) (wanted_none rfl) (gx_assign rfl rfl) ?_
    simp only [Act.put, List.setIfInBounds_toArray, List.set_cons_zero, List.set_cons_succ]
    go_wp2_with fail
    go_ret
    exact ⟨rfl, ((HT0.out.trans HTo.out fun _ _ e => e).trans HS4.out fun _ _ e => e).below (Nat.le_refl _) (fun _ _ e => e)⟩
end Go.Proofs.YtjjbmnoamcfdgaaDoor
