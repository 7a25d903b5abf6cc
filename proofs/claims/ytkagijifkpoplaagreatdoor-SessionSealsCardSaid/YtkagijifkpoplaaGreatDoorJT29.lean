/-
  Texts in one file. Conditions: the tables and the errors read as laid.
-/
import Derived.Test.YtkagijifkpoplaaGreatDoorJT28
import Derived.Test.YtkagijifkpoplaaGreatDoorJT27
import Derived.Test.YtkagijifkpoplaaGreatDoorJT0
import Derived.Test.YtkagijifkpoplaaGreatDoorJT1
set_option linter.unusedVariables false
set_option linter.unusedSimpArgs false
set_option maxRecDepth 40000
set_option maxHeartbeats 20000000
namespace Go.Proofs.YtkagijifkpoplaaGreatDoor
open Go.RowKit
open Sh (Wd B8 H8)
open Fdd
set_option maxRecDepth 20000
theorem seals_walk {s : Sents} {w : World} {code key : B8} {d m1 m2 ty : Int} {Ak A : Option Addr} {nk ck n c : Nat} {fs : List Fld} (he : Env s w) (hk : KT w) (hkey : Key w Ak nk ck key) (hf : Mg w A n c fs) :
 Calls Tryz.prog 3 #[.agg (memC code d Ak nk ck m1 m2), msgV ty A n c] w fun e w' => e = .returned (.bool true) ∧ Turn nowhere w w' := by
 have HE := zH he
 have HK := zH hk
 have HKEY := zH hkey
 have HMG := zH hf
 have HF0 := zH hf.fl
 have HZN := zH hf.nil
 have HRM := zH hf.lim
 have HLN := zH hf.fl.1
 clear he hk hkey hf
 go_enter Tryz.func3, Tryz.ntmps3
 go_upto_region 0 with fail
 refine wp_region_lit ?_
 refine wR (v := .pointer (some ⟨(w).heap.size, 0, none⟩)) (w' := (w).alloc (.cells (memC code d Ak nk ck m1 m2) 26)) wn (gx_box rfl rfl (box_mem _ _ _ _ _ _ _ _)) ?_
 simp only [zz]
 refine wR (v := .pointer (some ⟨((w).alloc (.cells (memC code d Ak nk ck m1 m2) 26)).heap.size, 0, none⟩)) (w' := ((w).alloc (.cells (memC code d Ak nk ck m1 m2) 26)).alloc (.cells #[.int .i64 ty, .slice A n c] 29)) wn (gx_box rfl rfl (box_mg _ _ _ _ _)) ?_
 simp only [zz];refine nA (.bool false) ?_;simp only [zz]
 have hb_p := (Blk.new (w) 26 (memC code d Ak nk ck m1 m2)).alloc (.cells #[.int .i64 ty, .slice A n c] 29)
 have hb_gm := Blk.new ((w).alloc (.cells (memC code d Ak nk ck m1 m2) 26)) 29 #[.int .i64 ty, .slice A n c]
 have ht_ := ((Turn.refl nowhere (w)).alloc (.cells (memC code d Ak nk ck m1 m2) 26)).alloc (.cells #[.int .i64 ty, .slice A n c] 29)
 obtain ⟨n0_, hn0_⟩ : ∃ n, n = (w).heap.size := ⟨_, rfl⟩
 have hz_p : (w).heap.size = n0_ + 0 := by rw [hn0_]; simp
 have hz_gm : ((w).alloc (.cells (memC code d Ak nk ck m1 m2) 26)).heap.size = n0_ + 1 := by rw [hn0_]; simp
 obtain ⟨gm, hg_⟩ : ∃ g, g = ((w).alloc (.cells (memC code d Ak nk ck m1 m2) 26)).heap.size := ⟨_, rfl⟩
 rw [← hg_] at hb_gm hz_gm ⊢
 clear hg_
 obtain ⟨p, hg_⟩ : ∃ g, g = (w).heap.size := ⟨_, rfl⟩
 rw [← hg_] at hb_p hz_p ⊢
 clear hg_
 generalize ((w).alloc (.cells (memC code d Ak nk ck m1 m2) 26)).alloc (.cells #[.int .i64 ty, .slice A n c] 29) = w1 at *
 have HT1 := zH ht_
 clear ht_
 have HBp := zH hb_p
 have HLp := zH (show (w).heap.size ≤ p from by omega)
 clear hb_p
 have HBgm := zH hb_gm
 have HLgm := zH (show (w).heap.size ≤ gm from by omega)
 clear hb_gm
 have HNpgm := zH (show p ≠ gm from by omega)
 clear hn0_ hz_p hz_gm
 clear n0_
 go_upto_region 1 with fail
 refine wp_region_lit ?_
 refine wpList_op_g rfl fun K9 HK9 => ?_
 go_wp2_with fail
 refine (sshown_walk w1 (HE.out.turn HT1.out) (HK.out.turn HT1.out)).mono ?_
 rintro e w2 ⟨rfl, ht⟩
 refine HK9.out _ _ ?_
 clear HK9
 try simp only [zz]
 have HT2 := zH (HT1.out.trans ht fun _ _ e => e)
 have HBp2 := zH (HBp.out.turn ht fun e => e)
 have HBgm2 := zH (HBgm.out.turn ht fun e => e)
 have HF := zH (HF0.out.still HT2.out)
 clear ht HBp HBgm HT1
 have HBgm := HBgm2
 refine nA (.bool true) ?_;simp only [zz]
 go_upto_region 2 with fail
 go_cut [6] from 15 to 21 (fun ov wx => ∃ (go : Nat) (A7 : Option Addr) (c7 : Nat), ov = .pointer (some ⟨go, 0, none⟩) ∧ Blk wx go 29 #[.int .i64 ty, .slice A7 n c7] ∧ FRow wx w2.heap.size (.slice A7 n c7) fs ∧ Turn nowhere w2 wx)
 case first =>
  have HD := zH ((Turn.refl nowhere w2).drew)
  refine wp_region_alw (fun W => Blk W gm 29 #[.int .i64 ty, .slice A n c]) (by kernel_rfl) ?_
  have hS0 : Blk w2.drew gm 29 #[.int .i64 ty, .slice A n c] := HBgm.out.drew
  have HFd := zH ((HF.out).still HD.out)
  have HSd := zH hS0
  have HSZ := zH (show w2.drew.heap.size = w2.heap.size from rfl)
  generalize w2.drew = wd at *
  refine aU 0 (.pointer (some ⟨gm, 0, none⟩)) rfl (fun W hW => xF 0 0) hS0 ?_;simp only [zz];refine aU 1 (.int .i64 ty) rfl (fun W hW => xL (hW.cell 0)) hS0 ?_;simp only [zz];refine aU 3 (.pointer (some ⟨gm, 1, none⟩)) rfl (fun W hW => xF 0 1) hS0 ?_;simp only [zz];refine aU 4 (.slice A n c) rfl (fun W hW => xL (hW.cell 1)) hS0 ?_;simp only [zz]
  have HE1 := zH ((Turn.refl nowhere wd).alloc (.cells #[] 38))
  have HZ1 := zH ((Turn.refl nowhere wd).alloc (.cells #[.int .i64 0, .slice none 0 0] 29))
  refine alw_two (i := 2) (k := 7) (by kernel_rfl) rfl rfl rfl rfl ?_ ?_
  ·intro K1 HK1
   refine wp_run (bx_slice0 rfl (build_f0 _)) ?_
   refine HK1.out _ _ ⟨HSd.out.turn HE1.out (fun e => e), ?_⟩
   clear HK1
   try simp only [zz]
   have HR1 := zH (own_made (Turn.refl nowhere wd))
   refine alw_two (i := 5) (k := 7) (by kernel_rfl) rfl rfl rfl rfl ?_ ?_
   ·obtain ⟨A5, c5, w5, hrun, hrow, ht5, hgr⟩ := own_app HR1.out HE1.out HFd.out HZN.out HRM.out
    intro K1 HK1
    refine wp_run (exec_append rfl rfl rfl hrun) ?_
    refine HK1.out _ _ ⟨HSd.out.turn ht5 (fun e => e), ?_⟩
    clear HK1
    try simp only [zz]
    have hS9 := HSd.out.turn ht5 (fun e => e)
    refine aU 6 (.agg #[.int .i64 ty, .slice A5 n c5]) rfl (fun W hW => gx_build2 rfl rfl rfl (build_msg2 ty A5 n c5 W)) hS9 ?_;simp only [zz]
    refine alw_step (i := 7) (by kernel_rfl) rfl rfl ?_
    intro K1 HK1
    refine wp_run (gx_alloc rfl (zero_msg _)) ?_
    have hta := ht5.alloc (.cells #[.int .i64 0, .slice none 0 0] 29)
    refine HK1.out _ _ ⟨HSd.out.turn hta (fun e => e), ?_⟩
    clear HK1
    try simp only [zz]
    have hb6 := Blk.new w5 29 #[.int .i64 0, .slice none 0 0]
    have hr6 := hrow.still ((Turn.refl nowhere w5).alloc (.cells #[.int .i64 0, .slice none 0 0] 29))
    refine alw_step (i := 8) (by kernel_rfl) rfl rfl ?_
    intro K1 HK1
    refine wp_store_rowU_g 29 (.tmp 6) (.tmp 21) rfl #[.int .i64 ty, .slice A5 n c5] hb6 rfl rfl rfl (by rw [size_msg]; rfl) (msgA_one _ _ _ _) ?_
    intro w7 hb7 hu7
    have hend := own_end hr6 hb6 hta ht5.size hu7
    refine HK1.out _ _ ⟨HSd.out.turn hend.2 (fun e => e), ?_⟩
    clear HK1
    try simp only [zz]
    refine alw_done rfl ?_
    refine NoPanic.normal ?_
    go_wp2_with fail
    go_meet
    exact ⟨_, A5, c5, rfl, hb7, by rw [← HSZ.out]; exact hend.1, HD.out.next hend.2⟩
   ·have hta := HE1.out.alloc (.cells #[.int .i64 0, .slice none 0 0] 29)
    intro K1 HK1
    refine wp_run (gx_alloc rfl (zero_msg _)) ?_
    refine HK1.out _ _ ⟨HSd.out.turn hta (fun e => e), ?_⟩
    clear HK1
    try simp only [zz]
    have hb6 := Blk.new (wd.alloc (.cells #[] 38)) 29 #[.int .i64 0, .slice none 0 0]
    obtain ⟨A5, c5, w5, hrun, hrow, ht5, hgr⟩ := own_app (HR1.out.still ((Turn.refl nowhere (wd.alloc (.cells #[] 38))).alloc (.cells #[.int .i64 0, .slice none 0 0] 29))) hta HFd.out HZN.out HRM.out
    refine alw_step (i := 5) (by kernel_rfl) rfl rfl ?_
    intro K1 HK1
    refine wp_run (exec_append rfl rfl rfl hrun) ?_
    refine HK1.out _ _ ⟨HSd.out.turn ht5 (fun e => e), ?_⟩
    clear HK1
    try simp only [zz]
    have hS9 := HSd.out.turn ht5 (fun e => e)
    refine aU 6 (.agg #[.int .i64 ty, .slice A5 n c5]) rfl (fun W hW => gx_build2 rfl rfl rfl (build_msg2 ty A5 n c5 W)) hS9 ?_;simp only [zz]
    have hb6 := hb6.grown hgr (by simp)
    refine alw_step (i := 8) (by kernel_rfl) rfl rfl ?_
    intro K1 HK1
    refine wp_store_rowU_g 29 (.tmp 6) (.tmp 21) rfl #[.int .i64 ty, .slice A5 n c5] hb6 rfl rfl rfl (by rw [size_msg]; rfl) (msgA_one _ _ _ _) ?_
    intro w7 hb7 hu7
    have hend := own_end hrow hb6 ht5 (by simp) hu7
    refine HK1.out _ _ ⟨HSd.out.turn hend.2 (fun e => e), ?_⟩
    clear HK1
    try simp only [zz]
    refine alw_done rfl ?_
    refine NoPanic.normal ?_
    go_wp2_with fail
    go_meet
    exact ⟨_, A5, c5, rfl, hb7, by rw [← HSZ.out]; exact hend.1, HD.out.next hend.2⟩
  ·intro K1 HK1
   refine wp_run (gx_alloc rfl (zero_msg _)) ?_
   refine HK1.out _ _ ⟨HSd.out.turn HZ1.out (fun e => e), ?_⟩
   clear HK1
   try simp only [zz]
   have hb60 := Blk.new wd 29 #[.int .i64 0, .slice none 0 0]
   have hR1 := own_made HZ1.out
   have hta := HZ1.out.alloc (.cells #[] 38)
   refine alw_step (i := 2) (by kernel_rfl) rfl rfl ?_
   intro K1 HK1
   refine wp_run (bx_slice0 rfl (build_f0 _)) ?_
   refine HK1.out _ _ ⟨HSd.out.turn hta (fun e => e), ?_⟩
   clear HK1
   try simp only [zz]
   obtain ⟨A5, c5, w5, hrun, hrow, ht5, hgr⟩ := own_app hR1 hta HFd.out HZN.out HRM.out
   refine alw_step (i := 5) (by kernel_rfl) rfl rfl ?_
   intro K1 HK1
   refine wp_run (exec_append rfl rfl rfl hrun) ?_
   refine HK1.out _ _ ⟨HSd.out.turn ht5 (fun e => e), ?_⟩
   clear HK1
   try simp only [zz]
   have hS9 := HSd.out.turn ht5 (fun e => e)
   refine aU 6 (.agg #[.int .i64 ty, .slice A5 n c5]) rfl (fun W hW => gx_build2 rfl rfl rfl (build_msg2 ty A5 n c5 W)) hS9 ?_;simp only [zz]
   have hb6 := (hb60.alloc (.cells #[] 38)).grown hgr (by simp)
   refine alw_step (i := 8) (by kernel_rfl) rfl rfl ?_
   intro K1 HK1
   refine wp_store_rowU_g 29 (.tmp 6) (.tmp 21) rfl #[.int .i64 ty, .slice A5 n c5] hb6 rfl rfl rfl (by rw [size_msg]; rfl) (msgA_one _ _ _ _) ?_
   intro w7 hb7 hu7
   have hend := own_end hrow hb6 ht5 (Nat.le_refl _) hu7
   refine HK1.out _ _ ⟨HSd.out.turn hend.2 (fun e => e), ?_⟩
   clear HK1
   try simp only [zz]
   refine alw_done rfl ?_
   refine NoPanic.normal ?_
   go_wp2_with fail
   go_meet
   exact ⟨_, A5, c5, rfl, hb7, by rw [← HSZ.out]; exact hend.1, HD.out.next hend.2⟩
 obtain ⟨go, A7, c7, rfl, hbo, hro, hto⟩ := hcut
 have HBgo := zH hbo
 have HRgo := zH hro
 have HTo := zH hto
 have HFgo := zH (hro.fl (by have := HF.out.1; have := HRM.out; omega))
 clear hbo hro hto
 have HT3 := zH (HT2.out.trans HTo.out fun _ _ e => e)
 have HBp3 := zH (HBp2.out.turn HTo.out fun e => e)
 have HBgm3 := zH (HBgm2.out.turn HTo.out fun e => e)
 have HMGo := zH (show Mg wc A7 n c7 fs from ⟨HFgo.out.1, (HRgo.out.fl (by rw [HLN.out]; have := HRM.out; omega)).2.2.2.2, HRM.out, HMG.out.tx⟩)
 clear HTo HBp2 HBgm HBgm2 HT2 HRgo HFgo HF
 obtain ⟨R, hR⟩ : ∃ R, macR d ty key fs = R := ⟨_, rfl⟩
 have HR := zH hR
 clear hR
 go_upto_region 3 with fail
 refine wp_region_lit ?_
 refine nR (.agg (memC code d Ak nk ck m1 m2)) (gx_loads_g rfl rfl (blk_range_g HBp3.out) Tryz.underlying26 rfl (by rw [size_mem]; rfl)) ?_;simp only [zz];refine nR (msgV ty A7 n c7) (gx_loads_g rfl rfl (blk_range_g HBgo.out) Tryz.underlying29 rfl (by rw [size_mg]; rfl)) ?_;simp only [zz]
 refine wpList_op_g rfl fun K9 HK9 => ?_
 go_wp2_with fail
 refine ((Seal_walk (HE.out.turn HT3.out) (HK.out.turn HT3.out) (HKEY.out.still HT3.out) HMGo.out).mono fun e w8 h8 => SealP.q h8 (by rw [HLN.out]; exact HRM.out)).mono ?_
 rintro e w4 ⟨Aa, na, ca, rfl, hfl, hnil, ht⟩
 refine HK9.out _ _ ?_
 clear HK9
 try simp only [zz]
 rw [HR.out] at hfl ⊢
 refine nM (.tuple #[msgV (sealT R ty) Aa na ca, .int .i64 (codeE R)]) ?_;simp only [zz];refine nE (msgV (sealT R ty) Aa na ca) ?_;simp only [zz];refine nE (.int .i64 (codeE R)) ?_;simp only [zz]
 refine wR (v := .pointer (some ⟨w4.heap.size, 0, none⟩)) (w' := w4.alloc (.cells #[.int .i64 0, .slice none 0 0] 29)) wn (gx_alloc rfl (zero_mg _)) ?_
 simp only [zz]
 have hb_ := Blk.new w4 29 #[.int .i64 0, .slice none 0 0]
 have ht_ := (Turn.refl nowhere w4).alloc (.cells #[.int .i64 0, .slice none 0 0] 29)
 obtain ⟨ga, hg_⟩ : ∃ g, g = w4.heap.size := ⟨_, rfl⟩
 rw [← hg_] at hb_ ⊢
 have HLga := zH (show w4.heap.size ≤ ga from by omega)
 clear hg_
 generalize w4.alloc (.cells #[.int .i64 0, .slice none 0 0] 29) = w4a at *
 have HBga := zH hb_
 have HAga := zH ht_
 clear hb_ ht_
 refine wpList_store_row wn 29 (.tmp 7) (.tmp 26) rfl (#[.int .i64 (sealT R ty), .slice Aa na ca]) HBga.out rfl rfl (rfl) (by rw [size_mg] <;> rfl) (mg_one _ _ _ _) ?_
 intro w4b hb_ ht_
 have HBga1 := zH hb_
 have HCga := zH ht_
 clear hb_ ht_
 simp only [zz];refine nA (.int .i64 (codeE R)) ?_;simp only [zz]
 have HDga := zH (HAga.out.trans HCga.out fun k' hk e => by have := HLga.out; have e : k' = ga := e; omega)
 have HSga := zH (ht.trans HDga.out fun _ _ e => e)
 have HFlga := zH (hfl.still HDga.out)
 clear hfl hnil ht HAga HCga HBga HDga
 have HBp4 := zH (HBp3.out.turn HSga.out fun e => e)
 have HBgm4 := zH (HBgm3.out.turn HSga.out fun e => e)
 have HBgo4 := zH (HBgo.out.turn HSga.out fun e => e)
 have HMGo4 := zH (HMGo.out.still HSga.out)
 have HT4 := zH (HT3.out.trans HSga.out fun _ _ e => e)
 clear HBp3 HBgm3 HBgo HMGo HT3 HSga
 go_upto_region 4 with fail
 refine wp_region_lit ?_
 refine nR (.agg (memC code d Ak nk ck m1 m2)) (gx_loads_g rfl rfl (blk_range_g HBp4.out) Tryz.underlying26 rfl (by rw [size_mem]; rfl)) ?_;simp only [zz];refine nR (msgV ty A n c) (gx_loads_g rfl rfl (blk_range_g HBgm4.out) Tryz.underlying29 rfl (by rw [size_mg]; rfl)) ?_;simp only [zz]
 refine wpList_op_g rfl fun K9 HK9 => ?_
 go_wp2_with fail
 refine ((rSeal_walk (HKEY.out.still HT4.out) (HMG.out.still HT4.out)).mono fun e w8 h8 => SealP.q h8 (by rw [HLN.out]; exact HRM.out)).mono ?_
 rintro e w5 ⟨Ab, nb, cb, rfl, hfl, hnil, ht⟩
 refine HK9.out _ _ ?_
 clear HK9
 try simp only [zz]
 rw [HR.out] at hfl ⊢
 refine nM (.tuple #[msgV (sealT R ty) Ab nb cb, .int .i64 (codeE R)]) ?_;simp only [zz];refine nE (msgV (sealT R ty) Ab nb cb) ?_;simp only [zz];refine nE (.int .i64 (codeE R)) ?_;simp only [zz]
 refine wR (v := .pointer (some ⟨w5.heap.size, 0, none⟩)) (w' := w5.alloc (.cells #[.int .i64 0, .slice none 0 0] 29)) wn (gx_alloc rfl (zero_mg _)) ?_
 simp only [zz]
 have hb_ := Blk.new w5 29 #[.int .i64 0, .slice none 0 0]
 have ht_ := (Turn.refl nowhere w5).alloc (.cells #[.int .i64 0, .slice none 0 0] 29)
 obtain ⟨gb, hg_⟩ : ∃ g, g = w5.heap.size := ⟨_, rfl⟩
 rw [← hg_] at hb_ ⊢
 have HLgb := zH (show w5.heap.size ≤ gb from by omega)
 clear hg_
 generalize w5.alloc (.cells #[.int .i64 0, .slice none 0 0] 29) = w5a at *
 have HBgb := zH hb_
 have HAgb := zH ht_
 clear hb_ ht_
 refine wpList_store_row wn 29 (.tmp 9) (.tmp 32) rfl (#[.int .i64 (sealT R ty), .slice Ab nb cb]) HBgb.out rfl rfl (rfl) (by rw [size_mg] <;> rfl) (mg_one _ _ _ _) ?_
 intro w5b hb_ ht_
 have HBgb1 := zH hb_
 have HCgb := zH ht_
 clear hb_ ht_
 simp only [zz];refine nA (.int .i64 (codeE R)) ?_;simp only [zz]
 have HDgb := zH (HAgb.out.trans HCgb.out fun k' hk e => by have := HLgb.out; have e : k' = gb := e; omega)
 have HSgb := zH (ht.trans HDgb.out fun _ _ e => e)
 have HFlgb := zH (hfl.still HDgb.out)
 clear hfl hnil ht HAgb HCgb HBgb HDgb
 have HBp5 := zH (HBp4.out.turn HSgb.out fun e => e)
 have HBgm5 := zH (HBgm4.out.turn HSgb.out fun e => e)
 have HBgo5 := zH (HBgo4.out.turn HSgb.out fun e => e)
 have HMGo5 := zH (HMGo4.out.still HSgb.out)
 have HFa5 := zH (HFlga.out.still HSgb.out)
 have HBa5 := zH (HBga1.out.turn HSgb.out fun e => e)
 have HT5 := zH (HT4.out.trans HSgb.out fun _ _ e => e)
 clear HBp4 HBgm4 HBgo4 HMGo4 HT4 HSgb HFlga HBga1
 go_upto_region 5 with fail
 refine wp_region_lit ?_
 refine nR (.agg (memC code d Ak nk ck m1 m2)) (gx_loads_g rfl rfl (blk_range_g HBp5.out) Tryz.underlying26 rfl (by rw [size_mem]; rfl)) ?_;simp only [zz];refine nR (msgV ty A7 n c7) (gx_loads_g rfl rfl (blk_range_g HBgo5.out) Tryz.underlying29 rfl (by rw [size_mg]; rfl)) ?_;simp only [zz]
 refine wpList_op_g rfl fun K9 HK9 => ?_
 go_wp2_with fail
 refine (SCheck_walk (HE.out.turn HT5.out) (HK.out.turn HT5.out) (HKEY.out.still HT5.out) HMGo5.out).mono ?_
 rintro e w6 ⟨rfl, ht⟩
 refine HK9.out _ _ ?_
 clear HK9
 try simp only [zz]
 rw [HR.out]
 have HT6 := zH (HT5.out.trans ht fun _ _ e => e)
 have HBp6 := zH (HBp5.out.turn ht fun e => e)
 have HBgm6 := zH (HBgm5.out.turn ht fun e => e)
 have HBgo6 := zH (HBgo5.out.turn ht fun e => e)
 have HBa6 := zH (HBa5.out.turn ht fun e => e)
 have HBb6 := zH (HBgb1.out.turn ht fun e => e)
 have HFa6 := zH (HFa5.out.still ht)
 have HFb6 := zH (HFlgb.out.still ht)
 have HMGo6 := zH (HMGo5.out.still ht)
 clear ht HT5 HBp5 HBgm5 HBgo5 HBa5 HBgb1 HFa5 HFlgb HMGo5
 obtain ⟨C, hC⟩ : ∃ C, chkR R fs = C := ⟨_, rfl⟩
 have HC := zH hC
 rw [hC]
 clear hC
 refine nA (.int .i64 C) ?_;simp only [zz]
 go_upto_region 6 with fail
 refine wp_region_lit ?_
 refine nR (msgV (sealT R ty) Aa na ca) (gx_loads_g rfl rfl (blk_range_g HBa6.out) Tryz.underlying29 rfl (by rw [size_mg]; rfl)) ?_;simp only [zz];refine nR (msgV (sealT R ty) Ab nb cb) (gx_loads_g rfl rfl (blk_range_g HBb6.out) Tryz.underlying29 rfl (by rw [size_mg]; rfl)) ?_;simp only [zz]
 refine wpList_op_g rfl fun K9 HK9 => ?_
 go_wp2_with fail
 refine (same_yes (c1 := ca) (c2 := cb) (ty := sealT R ty) HFa6.out HFb6.out).mono ?_
 rintro e w7 ⟨rfl, ht⟩
 refine HK9.out _ _ ?_
 clear HK9
 try simp only [zz]
 have HT7 := zH (HT6.out.trans ht fun _ _ e => e)
 have HBp7 := zH (HBp6.out.turn ht fun e => e)
 have HBgm7 := zH (HBgm6.out.turn ht fun e => e)
 have HBgo7 := zH (HBgo6.out.turn ht fun e => e)
 have HMGo7 := zH (HMGo6.out.still ht)
 clear ht HT6 HBp6 HBgm6 HBgo6 HBa6 HBb6 HFa6 HFb6 HMGo6
 refine nA (.bool true) ?_;simp only [zz]
 go_upto_region 7 with fail
 refine wp_region_lit ?_
 refine nR (msgV ty A7 n c7) (gx_loads_g rfl rfl (blk_range_g HBgo7.out) Tryz.underlying29 rfl (by rw [size_mg]; rfl)) ?_;simp only [zz];refine nR (msgV ty A n c) (gx_loads_g rfl rfl (blk_range_g HBgm7.out) Tryz.underlying29 rfl (by rw [size_mg]; rfl)) ?_;simp only [zz]
 refine wpList_op_g rfl fun K9 HK9 => ?_
 go_wp2_with fail
 refine (same_yes (c1 := c7) (c2 := c) (ty := ty) HMGo7.out.fl (HMG.out.still HT7.out).fl).mono ?_
 rintro e w8 ⟨rfl, ht⟩
 refine HK9.out _ _ ?_
 clear HK9
 try simp only [zz]
 have HT8 := zH (HT7.out.trans ht fun _ _ e => e)
 have HBp8 := zH (HBp7.out.turn ht fun e => e)
 have HBgm8 := zH (HBgm7.out.turn ht fun e => e)
 clear ht HT7 HBp7 HBgm7 HBgo7 HMGo7
 refine nA (.bool true) ?_;simp only [zz]
 go_upto_region 8 with fail
 refine wp_region_lit ?_
 refine nM (.bool true) ?_;simp only [zz];refine nM (.bool true) ?_;simp only [zz];refine wM (.bool true) ?_;simp only [zz];refine nR (.bool true) (ix_pickT rfl rfl rfl) ?_;simp only [zz];refine nM (.bool true) ?_;simp only [zz];refine wM (.bool true) ?_;simp only [zz];refine nR (.bool true) (ix_pickT rfl rfl rfl) ?_;simp only [zz];refine nM (.bool true) ?_;simp only [zz];refine wM (.int .i64 (codeE R)) ?_;simp only [zz];refine wM (.int .i64 (codeE R)) ?_;simp only [zz];refine wS (.bool true) (ix_eql rfl rfl rfl (decide_eq_true rfl)) ?_;simp only [zz];refine nR (.bool true) (ix_pickT rfl rfl rfl) ?_;simp only [zz];refine nM (.bool true) ?_;simp only [zz];refine wM (.int .i64 C) ?_;simp only [zz];refine wS (.agg (memC code d Ak nk ck m1 m2)) (gx_loads_g rfl rfl (blk_range_g HBp8.out) Tryz.underlying26 rfl (by rw [size_mem]; rfl)) ?_;simp only [zz];refine wS (msgV ty A n c) (gx_loads_g rfl rfl (blk_range_g HBgm8.out) Tryz.underlying29 rfl (by rw [size_mg]; rfl)) ?_;simp only [zz]
 refine wpList_op_g rfl fun K9 HK9 => ?_
 go_wp2_with fail
 refine (rSCheck_walk (HKEY.out.still HT8.out) (HMG.out.still HT8.out)).mono ?_
 rintro e w9 ⟨rfl, ht⟩
 refine HK9.out _ _ ?_
 clear HK9
 try simp only [zz]
 rw [HR.out, HC.out]
 have HTZ := zH (HT8.out.trans ht fun _ _ e => e)
 clear ht
 refine wS (.bool true) (ix_eql rfl rfl rfl (decide_eq_true rfl)) ?_;simp only [zz];refine nR (.bool true) (ix_pickT rfl rfl rfl) ?_;simp only [zz];refine nA (.bool true) ?_;simp only [zz]
 go_wp2_with fail
 go_ret
 exact ⟨rfl, HTZ.out⟩
open Go.ChangeShapes Go.WideShapes Go.Deep Go.ChangeAt
theorem sessionSeals_walk {s : Sents} {code key : B8} {d m1 m2 ty : Int} {Ak A : Option Addr} {nk ck n c : Nat} {fs : List Fld} (w : World) (he : Env s w) (hk : KT w) (hkey : Key w Ak nk ck key) (hf : Mg w A n c fs) :
 Calls Tryz.prog 3 #[.agg (memC code d Ak nk ck m1 m2), msgV ty A n c] w fun e w' => e = .returned (.bool true) ∧ Below w.heap.size w w' :=
 (seals_walk he hk hkey hf).mono fun e w' ⟨h1, h2⟩ => ⟨h1, h2.below (Nat.le_refl _) fun _ _ e => e⟩
end Go.Proofs.YtkagijifkpoplaaGreatDoor
