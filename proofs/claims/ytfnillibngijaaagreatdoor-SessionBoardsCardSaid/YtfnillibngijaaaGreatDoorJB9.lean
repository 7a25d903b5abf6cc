/-
  Texts in one file: ShH ShI MsIs. Conditions: the tables and the errors read as the program's text lays them.
-/
import Derived.Test.YtfnillibngijaaaGreatDoorJB8
import Derived.Test.YtfnillibngijaaaGreatDoorChecked
import Derived.Test.YtfnillibngijaaaGreatDoorJB0
import Derived.WalkKit
import Derived.LaidEql
import Derived.Stop.Asserts
import Derived.RowKitTokens
namespace Go.Proofs.YtfnillibngijaaaGreatDoor
open Go.RowKit
open Sh (Wd B8 H8)
set_option linter.unusedVariables false
set_option linter.unusedSimpArgs false
set_option maxRecDepth 20000
set_option maxRecDepth 20000 in
set_option maxHeartbeats 4000000 in
theorem mac_walk (w : World) (A A2 : Option Addr) (n c n2 c2 : Nat) (key b : B8) (hkey : Bs w A n key) (hc : n ≤ c) (hm : n ≤ 140737488355328) (hb : Bs w A2 n2 b) (hc2 : n2 ≤ c2) (hm2 : n2 ≤ 140737488355328) (hk : KT w) :
    Calls Tryz.prog 26 #[.slice A n c, .slice A2 n2 c2] w fun e w' => e = .returned (.agg (byteCells (Sh.mac key b))) ∧ Turn nowhere w w' := by
  have HKEY := Lib.hid hkey
  have HC := Lib.hid hc
  have HM := Lib.hid hm
  have HB := Lib.hid hb
  have HC2 := Lib.hid hc2
  have HM2 := Lib.hid hm2
  have HK := Lib.hid hk
  have HMF := Lib.hid (Sh.mac_finish key b)
  have HL := Lib.hid (Sh.mac_len key b)
  have HFL := Lib.hid (Sh.full_len key)
  have HX1 := Lib.hid (show (Sh.mask (Sh.full key) 0x36).length = 64 from by rw [Sh.mask_len, HFL.out])
  have HX2 := Lib.hid (show (Sh.mask (Sh.full key) 0x5c).length = 64 from by rw [Sh.mask_len, HFL.out])
  obtain ⟨F, hF⟩ : ∃ F, Sh.mac key b = F := ⟨_, rfl⟩
  rw [hF] at HMF HL ⊢
  have HFK := Lib.hid (key_walk w A n c key hkey hc hm hk)
  obtain ⟨K, hK⟩ : ∃ K, Sh.full key = K := ⟨_, rfl⟩
  rw [hK] at HMF HFL HX1 HX2
  have HKK := Lib.hid hK
  have HME1 := Lib.hid (fun w0 => masked_walk K 0x36 w0 HFL.out)
  have HME2 := Lib.hid (fun w0 => masked_walk K 0x5c w0 HFL.out)
  obtain ⟨X1, hX1⟩ : ∃ X, Sh.mask K 0x36 = X := ⟨_, rfl⟩
  obtain ⟨X2, hX2⟩ : ∃ X, Sh.mask K 0x5c = X := ⟨_, rfl⟩
  rw [hX1] at HMF HX1 HME1
  rw [hX2] at HMF HX2 HME2
  have HTK1 := Lib.hid (fun w0 h => take_walk Sh.H0 X1 w0 HX1.out h)
  have HTK2 := Lib.hid (fun w0 h => take_walk Sh.H0 X2 w0 HX2.out h)
  have HST := Lib.hid start_walk
  obtain ⟨h0, hh0⟩ : ∃ h, Sh.H0 = h := ⟨_, rfl⟩
  rw [hh0] at HMF HTK1 HTK2 HST
  obtain ⟨h1, hh1⟩ : ∃ h, Sh.comp h0 X1 = h := ⟨_, rfl⟩
  obtain ⟨h2, hh2⟩ : ∃ h, Sh.comp h0 X2 = h := ⟨_, rfl⟩
  rw [hh1] at HMF HTK1
  rw [hh2] at HMF HTK2
  have HIL := Lib.hid (show (Sh.finish h1 64 b).length = 32 from rfl)
  have HFI := Lib.hid (fun w0 (ht : Turn nowhere w w0) => finish_walk h1 64 w0 A2 n2 c2 b (sh_still HB.out ht) HC2.out HM2.out (by decide) (HK.out.turn ht))
  obtain ⟨I, hI⟩ : ∃ I, Sh.finish h1 64 b = I := ⟨_, rfl⟩
  rw [hI] at HMF HIL HFI
  clear hkey hc hm hb hc2 hm2 hk hF hK hX1 hX2 hh0 hh1 hh2 hI
  go_enter Tryz.func26, Tryz.ntmps26
  go_upto_region 0 with fail
  refine wp_region_lit ?_
  refine wpList_run (v := .pointer (some ⟨(w).heap.size, 0, none⟩)) (w' := (w).alloc (.cells (byteCells (Sh.zs 32)) 71)) (wanted_none rfl) (gx_alloc rfl (zero_hs _)) ?_
  simp only [Act.put, List.setIfInBounds_toArray, List.set_cons_zero, List.set_cons_succ]
  have hb_r := Blk.new (w) 71 (byteCells (Sh.zs 32))
  have ht_ := (Turn.refl nowhere (w)).alloc (.cells (byteCells (Sh.zs 32)) 71)
  obtain ⟨n0_, hn0_⟩ : ∃ n, n = (w).heap.size := ⟨_, rfl⟩
  have hz_r : (w).heap.size = n0_ + 0 := by rw [hn0_]; simp
  obtain ⟨r, hg_⟩ : ∃ g, g = (w).heap.size := ⟨_, rfl⟩
  rw [← hg_] at hb_r hz_r ⊢
  clear hg_
  generalize (w).alloc (.cells (byteCells (Sh.zs 32)) 71) = w1 at *
  have HT1 := Lib.hid ht_
  clear ht_
  have HBr := Lib.hid hb_r
  have HLr := Lib.hid (show (w).heap.size ≤ r from by omega)
  clear hb_r
  clear hn0_ hz_r
  clear n0_
  go_upto_region 1 with fail
  refine wp_region_lit ?_
  refine wpList_run (v := .slice A n c) (wanted_none rfl) (exec_move rfl rfl) ?_
  simp only [Act.put, List.setIfInBounds_toArray, List.set_cons_zero, List.set_cons_succ]
  refine wpList_op_g rfl fun K9 HK9 => ?_
  go_wp2_with fail
  refine ((key_walk w1 A n c key (sh_still HKEY.out HT1.out) HC.out HM.out (HK.out.turn HT1.out))).mono ?_
  rintro e w2 ⟨rfl, ht⟩
  refine HK9.out _ _ ?_
  clear HK9
  try simp only [Act.put, List.setIfInBounds_toArray, List.set_cons_zero, List.set_cons_succ]
  rw [HKK.out]
  have HBr2 := Lib.hid (HBr.out.turn ht fun e => e)
  have HT2 := Lib.hid (HT1.out.trans ht fun _ _ e => e)
  have HBr2lt := Lib.hid (show r < w2.heap.size from HBr2.out.lt)
  clear ht HBr HT1
  refine wpList_run (v := .pointer (some ⟨w2.heap.size, 0, none⟩)) (w' := w2.alloc (.cells (byteCells (Sh.zs 64)) 85)) (wanted_none rfl) (gx_alloc rfl (zero_pc _)) ?_
  simp only [Act.put, List.setIfInBounds_toArray, List.set_cons_zero, List.set_cons_succ]
  have hb_ := Blk.new w2 85 (byteCells (Sh.zs 64))
  have ht_ := (Turn.refl nowhere w2).alloc (.cells (byteCells (Sh.zs 64)) 85)
  obtain ⟨k, hg_⟩ : ∃ g, g = w2.heap.size := ⟨_, rfl⟩
  rw [← hg_] at hb_ ⊢
  have HLk := Lib.hid (show w2.heap.size ≤ k from by omega)
  clear hg_
  generalize w2.alloc (.cells (byteCells (Sh.zs 64)) 85) = w3 at *
  have HBk := Lib.hid hb_
  have HT3 := Lib.hid ht_
  clear hb_ ht_
  refine wpList_store_row (wanted_none rfl) 85 (.tmp 5) (.tmp 8) rfl (byteCells K) HBk.out rfl rfl (by rw [bc_size, bc_size, HFL.out]; rfl) (by rw [size_pc, bc_size, HFL.out]) (bc_one _) ?_
  intro w4 hb_ ht_
  have HBk4 := Lib.hid hb_
  have HT4 := Lib.hid ht_
  clear hb_ ht_
  simp only [Act.put, List.setIfInBounds_toArray, List.set_cons_zero, List.set_cons_succ]
  have HT24 := Lib.hid (HT3.out.trans HT4.out fun k' hk e => by have := HLk.out; have e : k' = k := e; omega)
  have HBr4 := Lib.hid (HBr2.out.turn HT24.out fun e => e)
  have HTw4 := Lib.hid (HT2.out.trans HT24.out fun _ _ e => e)
  clear HBr2 HT2 HT24 HT3 HT4 HBk
  go_upto_region 2 with fail
  go_cut [6] from 9 to 14 (fun gv wx => ∃ g : Nat, gv = .pointer (some ⟨g, 0, none⟩) ∧ Blk wx g 71 (byteCells I) ∧ Blk wx k 85 (byteCells K) ∧ Blk wx r 71 (byteCells (Sh.zs 32)) ∧ Turn nowhere w wx)
  case first =>
    have HD := Lib.hid ((Turn.refl nowhere w4).drew)
    refine wp_region_alw (fun W => Blk W k 85 (byteCells K)) (by kernel_rfl) ?_
    have hS0 : (fun W => Blk W k 85 (byteCells K)) w4.drew := HBk4.out.drew
    have HTd := Lib.hid (HTw4.out.trans HD.out fun _ _ e => e)
    have HBrd := Lib.hid (HBr4.out.turn HD.out fun e => e)
    generalize w4.drew = wd at *
    clear HTw4 HBr4 HBk4 HD
    refine alw_take (i := 1) (v := .agg (byteCells K)) rfl (by kernel_rfl) (by kernel_rfl) (fun _ _ _ h => h) (.inl ⟨by rfl, fun W hW => gx_loads_g rfl rfl (blk_range_g hW) Tryz.underlying85 rfl (size_pc.trans (congrArg some ((bc_size _).trans HFL.out).symm))⟩) hS0 ?_
    simp only [Act.put, List.setIfInBounds_toArray, List.set_cons_zero, List.set_cons_succ]
    refine alw_take (i := 4) (v := .slice A2 n2 c2) rfl (by kernel_rfl) (by kernel_rfl) (fun _ _ _ h => h) (.inl ⟨by rfl, fun W hW => exec_move rfl rfl⟩) hS0 ?_
    simp only [Act.put, List.setIfInBounds_toArray, List.set_cons_zero, List.set_cons_succ]
    refine alw_pair (i := 0) (j := 6) (by kernel_rfl) rfl rfl rfl rfl ?_ ?_
    · as_aux_lemma =>
        intro K1 HK1
        go_wp2_with fail
        refine (HST.out wd).mono ?_
        rintro e c1 ⟨rfl, ht⟩
        have hS1 : (fun W => Blk W k 85 (byteCells K)) c1 := hS0.turn ht fun e => e
        have HTc1 := Lib.hid (HTd.out.trans ht fun _ _ e => e)
        have HBrc1 := Lib.hid (HBrd.out.turn ht fun e => e)
        refine HK1.out _ _ ⟨hS1, ?_⟩
        clear HK1 ht
        try simp only [Act.put, List.setIfInBounds_toArray, List.set_cons_zero, List.set_cons_succ]
        refine alw_pair (i := 2) (j := 6) (by kernel_rfl) rfl rfl rfl rfl ?_ ?_
        · as_aux_lemma =>
            intro K1 HK1
            go_wp2_with fail
            refine (HME1.out c1).mono ?_
            rintro e c2 ⟨rfl, ht⟩
            have hS2 : (fun W => Blk W k 85 (byteCells K)) c2 := hS1.turn ht fun e => e
            have HTc2 := Lib.hid (HTc1.out.trans ht fun _ _ e => e)
            have HBrc2 := Lib.hid (HBrc1.out.turn ht fun e => e)
            refine HK1.out _ _ ⟨hS2, ?_⟩
            clear HK1 ht
            try simp only [Act.put, List.setIfInBounds_toArray, List.set_cons_zero, List.set_cons_succ]
            refine alw_pair (i := 3) (j := 6) (by kernel_rfl) rfl rfl rfl rfl ?_ ?_
            · as_aux_lemma =>
                intro K1 HK1
                go_wp2_with fail
                refine (HTK1.out c2 (HK.out.turn HTc2.out)).mono ?_
                rintro e c3 ⟨rfl, ht⟩
                have hS3 : (fun W => Blk W k 85 (byteCells K)) c3 := hS2.turn ht fun e => e
                have HTc3 := Lib.hid (HTc2.out.trans ht fun _ _ e => e)
                have HBrc3 := Lib.hid (HBrc2.out.turn ht fun e => e)
                refine HK1.out _ _ ⟨hS3, ?_⟩
                clear HK1 ht
                try simp only [Act.put, List.setIfInBounds_toArray, List.set_cons_zero, List.set_cons_succ]
                refine alw_pair (i := 5) (j := 6) (by kernel_rfl) rfl rfl rfl rfl ?_ ?_
                · as_aux_lemma =>
                    intro K1 HK1
                    go_wp2_with fail
                    refine (HFI.out c3 HTc3.out).mono ?_
                    rintro e c4 ⟨rfl, ht⟩
                    have hS4 : (fun W => Blk W k 85 (byteCells K)) c4 := hS3.turn ht fun e => e
                    have HTc4 := Lib.hid (HTc3.out.trans ht fun _ _ e => e)
                    have HBrc4 := Lib.hid (HBrc3.out.turn ht fun e => e)
                    refine HK1.out _ _ ⟨hS4, ?_⟩
                    clear HK1 ht
                    try simp only [Act.put, List.setIfInBounds_toArray, List.set_cons_zero, List.set_cons_succ]
                    refine alw_step (i := 6) (by kernel_rfl) rfl rfl ?_
                    intro K1 HK1
                    refine wp_run (v := .pointer (some ⟨c4.heap.size, 0, none⟩)) (w' := c4.alloc (.cells (byteCells (Sh.zs 32)) 71)) (gx_alloc rfl (zero_hs _)) ?_
                    have hb_ := Blk.new c4 71 (byteCells (Sh.zs 32))
                    have ht := (Turn.refl nowhere c4).alloc (.cells (byteCells (Sh.zs 32)) 71)
                    have HLg := Lib.hid (show w.heap.size ≤ c4.heap.size from HTc4.out.size)
                    have HNrg := Lib.hid (show r ≠ c4.heap.size from by have := HBrc4.out.lt; omega)
                    have HNkg := Lib.hid (show k ≠ c4.heap.size from by have := hS4.lt; omega)
                    obtain ⟨g, hg_⟩ : ∃ g, g = c4.heap.size := ⟨_, rfl⟩
                    rw [← hg_] at hb_ HLg HNrg HNkg ⊢
                    clear hg_
                    generalize c4.alloc (.cells (byteCells (Sh.zs 32)) 71) = c5 at *
                    have hS5 : (fun W => Blk W k 85 (byteCells K)) c5 := hS4.turn ht fun e => e
                    have HTc5 := Lib.hid (HTc4.out.trans ht fun _ _ e => e)
                    have HBrc5 := Lib.hid (HBrc4.out.turn ht fun e => e)
                    have HBgc5 := Lib.hid hb_
                    refine HK1.out _ _ ⟨hS5, ?_⟩
                    clear HK1 ht hb_
                    try simp only [Act.put, List.setIfInBounds_toArray, List.set_cons_zero, List.set_cons_succ]
                    refine alw_step (i := 7) (by kernel_rfl) rfl rfl ?_
                    intro K1 HK1
                    refine wp_store_rowU_g 71 (.tmp 6) (.tmp 14) rfl (byteCells I) HBgc5.out rfl rfl (by rw [bc_size, bc_size, HIL.out]; rfl) (by rw [size_hs, bc_size, HIL.out]) (bc_one _) ?_
                    intro wz hbz htz
                    refine HK1.out _ _ ⟨hS5.turn (F := only g) htz (fun e => HNkg.out e), ?_⟩
                    clear HK1
                    try simp only [Act.put, List.setIfInBounds_toArray, List.set_cons_zero, List.set_cons_succ]
                    refine alw_done rfl ?_
                    refine NoPanic.normal ?_
                    go_wp2_with fail
                    go_meet
                    exact ⟨g, rfl, hbz, hS5.turn (F := only g) htz (fun e => HNkg.out e), HBrc5.out.turn (F := only g) htz (fun e => HNrg.out e), HTc5.out.trans htz fun k' hk e => by have := HLg.out; have e : k' = g := e; omega⟩
                · as_aux_lemma =>
                    intro K1 HK1
                    refine wp_run (v := .pointer (some ⟨c3.heap.size, 0, none⟩)) (w' := c3.alloc (.cells (byteCells (Sh.zs 32)) 71)) (gx_alloc rfl (zero_hs _)) ?_
                    have hb_ := Blk.new c3 71 (byteCells (Sh.zs 32))
                    have ht := (Turn.refl nowhere c3).alloc (.cells (byteCells (Sh.zs 32)) 71)
                    have HLg := Lib.hid (show w.heap.size ≤ c3.heap.size from HTc3.out.size)
                    have HNrg := Lib.hid (show r ≠ c3.heap.size from by have := HBrc3.out.lt; omega)
                    have HNkg := Lib.hid (show k ≠ c3.heap.size from by have := hS3.lt; omega)
                    obtain ⟨g, hg_⟩ : ∃ g, g = c3.heap.size := ⟨_, rfl⟩
                    rw [← hg_] at hb_ HLg HNrg HNkg ⊢
                    clear hg_
                    generalize c3.alloc (.cells (byteCells (Sh.zs 32)) 71) = c6 at *
                    have hS6 : (fun W => Blk W k 85 (byteCells K)) c6 := hS3.turn ht fun e => e
                    have HTc6 := Lib.hid (HTc3.out.trans ht fun _ _ e => e)
                    have HBrc6 := Lib.hid (HBrc3.out.turn ht fun e => e)
                    have HBgc6 := Lib.hid hb_
                    refine HK1.out _ _ ⟨hS6, ?_⟩
                    clear HK1 ht hb_
                    try simp only [Act.put, List.setIfInBounds_toArray, List.set_cons_zero, List.set_cons_succ]
                    refine alw_step (i := 5) (by kernel_rfl) rfl rfl ?_
                    intro K1 HK1
                    go_wp2_with fail
                    refine (HFI.out c6 HTc6.out).mono ?_
                    rintro e c7 ⟨rfl, ht⟩
                    have hS7 : (fun W => Blk W k 85 (byteCells K)) c7 := hS6.turn ht fun e => e
                    have HTc7 := Lib.hid (HTc6.out.trans ht fun _ _ e => e)
                    have HBrc7 := Lib.hid (HBrc6.out.turn ht fun e => e)
                    have HBgc7 := Lib.hid (HBgc6.out.turn ht fun e => e)
                    refine HK1.out _ _ ⟨hS7, ?_⟩
                    clear HK1 ht
                    try simp only [Act.put, List.setIfInBounds_toArray, List.set_cons_zero, List.set_cons_succ]
                    refine alw_step (i := 7) (by kernel_rfl) rfl rfl ?_
                    intro K1 HK1
                    refine wp_store_rowU_g 71 (.tmp 6) (.tmp 14) rfl (byteCells I) HBgc7.out rfl rfl (by rw [bc_size, bc_size, HIL.out]; rfl) (by rw [size_hs, bc_size, HIL.out]) (bc_one _) ?_
                    intro wz hbz htz
                    refine HK1.out _ _ ⟨hS7.turn (F := only g) htz (fun e => HNkg.out e), ?_⟩
                    clear HK1
                    try simp only [Act.put, List.setIfInBounds_toArray, List.set_cons_zero, List.set_cons_succ]
                    refine alw_done rfl ?_
                    refine NoPanic.normal ?_
                    go_wp2_with fail
                    go_meet
                    exact ⟨g, rfl, hbz, hS7.turn (F := only g) htz (fun e => HNkg.out e), HBrc7.out.turn (F := only g) htz (fun e => HNrg.out e), HTc7.out.trans htz fun k' hk e => by have := HLg.out; have e : k' = g := e; omega⟩
            · as_aux_lemma =>
                intro K1 HK1
                refine wp_run (v := .pointer (some ⟨c2.heap.size, 0, none⟩)) (w' := c2.alloc (.cells (byteCells (Sh.zs 32)) 71)) (gx_alloc rfl (zero_hs _)) ?_
                have hb_ := Blk.new c2 71 (byteCells (Sh.zs 32))
                have ht := (Turn.refl nowhere c2).alloc (.cells (byteCells (Sh.zs 32)) 71)
                have HLg := Lib.hid (show w.heap.size ≤ c2.heap.size from HTc2.out.size)
                have HNrg := Lib.hid (show r ≠ c2.heap.size from by have := HBrc2.out.lt; omega)
                have HNkg := Lib.hid (show k ≠ c2.heap.size from by have := hS2.lt; omega)
                obtain ⟨g, hg_⟩ : ∃ g, g = c2.heap.size := ⟨_, rfl⟩
                rw [← hg_] at hb_ HLg HNrg HNkg ⊢
                clear hg_
                generalize c2.alloc (.cells (byteCells (Sh.zs 32)) 71) = c8 at *
                have hS8 : (fun W => Blk W k 85 (byteCells K)) c8 := hS2.turn ht fun e => e
                have HTc8 := Lib.hid (HTc2.out.trans ht fun _ _ e => e)
                have HBrc8 := Lib.hid (HBrc2.out.turn ht fun e => e)
                have HBgc8 := Lib.hid hb_
                refine HK1.out _ _ ⟨hS8, ?_⟩
                clear HK1 ht hb_
                try simp only [Act.put, List.setIfInBounds_toArray, List.set_cons_zero, List.set_cons_succ]
                refine alw_step (i := 3) (by kernel_rfl) rfl rfl ?_
                intro K1 HK1
                go_wp2_with fail
                refine (HTK1.out c8 (HK.out.turn HTc8.out)).mono ?_
                rintro e c9 ⟨rfl, ht⟩
                have hS9 : (fun W => Blk W k 85 (byteCells K)) c9 := hS8.turn ht fun e => e
                have HTc9 := Lib.hid (HTc8.out.trans ht fun _ _ e => e)
                have HBrc9 := Lib.hid (HBrc8.out.turn ht fun e => e)
                have HBgc9 := Lib.hid (HBgc8.out.turn ht fun e => e)
                refine HK1.out _ _ ⟨hS9, ?_⟩
                clear HK1 ht
                try simp only [Act.put, List.setIfInBounds_toArray, List.set_cons_zero, List.set_cons_succ]
                refine alw_step (i := 5) (by kernel_rfl) rfl rfl ?_
                intro K1 HK1
                go_wp2_with fail
                refine (HFI.out c9 HTc9.out).mono ?_
                rintro e c10 ⟨rfl, ht⟩
                have hS10 : (fun W => Blk W k 85 (byteCells K)) c10 := hS9.turn ht fun e => e
                have HTc10 := Lib.hid (HTc9.out.trans ht fun _ _ e => e)
                have HBrc10 := Lib.hid (HBrc9.out.turn ht fun e => e)
                have HBgc10 := Lib.hid (HBgc9.out.turn ht fun e => e)
                refine HK1.out _ _ ⟨hS10, ?_⟩
                clear HK1 ht
                try simp only [Act.put, List.setIfInBounds_toArray, List.set_cons_zero, List.set_cons_succ]
                refine alw_step (i := 7) (by kernel_rfl) rfl rfl ?_
                intro K1 HK1
                refine wp_store_rowU_g 71 (.tmp 6) (.tmp 14) rfl (byteCells I) HBgc10.out rfl rfl (by rw [bc_size, bc_size, HIL.out]; rfl) (by rw [size_hs, bc_size, HIL.out]) (bc_one _) ?_
                intro wz hbz htz
                refine HK1.out _ _ ⟨hS10.turn (F := only g) htz (fun e => HNkg.out e), ?_⟩
                clear HK1
                try simp only [Act.put, List.setIfInBounds_toArray, List.set_cons_zero, List.set_cons_succ]
                refine alw_done rfl ?_
                refine NoPanic.normal ?_
                go_wp2_with fail
                go_meet
                exact ⟨g, rfl, hbz, hS10.turn (F := only g) htz (fun e => HNkg.out e), HBrc10.out.turn (F := only g) htz (fun e => HNrg.out e), HTc10.out.trans htz fun k' hk e => by have := HLg.out; have e : k' = g := e; omega⟩
        · as_aux_lemma =>
            intro K1 HK1
            refine wp_run (v := .pointer (some ⟨c1.heap.size, 0, none⟩)) (w' := c1.alloc (.cells (byteCells (Sh.zs 32)) 71)) (gx_alloc rfl (zero_hs _)) ?_
            have hb_ := Blk.new c1 71 (byteCells (Sh.zs 32))
            have ht := (Turn.refl nowhere c1).alloc (.cells (byteCells (Sh.zs 32)) 71)
            have HLg := Lib.hid (show w.heap.size ≤ c1.heap.size from HTc1.out.size)
            have HNrg := Lib.hid (show r ≠ c1.heap.size from by have := HBrc1.out.lt; omega)
            have HNkg := Lib.hid (show k ≠ c1.heap.size from by have := hS1.lt; omega)
            obtain ⟨g, hg_⟩ : ∃ g, g = c1.heap.size := ⟨_, rfl⟩
            rw [← hg_] at hb_ HLg HNrg HNkg ⊢
            clear hg_
            generalize c1.alloc (.cells (byteCells (Sh.zs 32)) 71) = c11 at *
            have hS11 : (fun W => Blk W k 85 (byteCells K)) c11 := hS1.turn ht fun e => e
            have HTc11 := Lib.hid (HTc1.out.trans ht fun _ _ e => e)
            have HBrc11 := Lib.hid (HBrc1.out.turn ht fun e => e)
            have HBgc11 := Lib.hid hb_
            refine HK1.out _ _ ⟨hS11, ?_⟩
            clear HK1 ht hb_
            try simp only [Act.put, List.setIfInBounds_toArray, List.set_cons_zero, List.set_cons_succ]
            refine alw_step (i := 2) (by kernel_rfl) rfl rfl ?_
            intro K1 HK1
            go_wp2_with fail
            refine (HME1.out c11).mono ?_
            rintro e c12 ⟨rfl, ht⟩
            have hS12 : (fun W => Blk W k 85 (byteCells K)) c12 := hS11.turn ht fun e => e
            have HTc12 := Lib.hid (HTc11.out.trans ht fun _ _ e => e)
            have HBrc12 := Lib.hid (HBrc11.out.turn ht fun e => e)
            have HBgc12 := Lib.hid (HBgc11.out.turn ht fun e => e)
            refine HK1.out _ _ ⟨hS12, ?_⟩
            clear HK1 ht
            try simp only [Act.put, List.setIfInBounds_toArray, List.set_cons_zero, List.set_cons_succ]
            refine alw_step (i := 3) (by kernel_rfl) rfl rfl ?_
            intro K1 HK1
            go_wp2_with fail
            refine (HTK1.out c12 (HK.out.turn HTc12.out)).mono ?_
            rintro e c13 ⟨rfl, ht⟩
            have hS13 : (fun W => Blk W k 85 (byteCells K)) c13 := hS12.turn ht fun e => e
            have HTc13 := Lib.hid (HTc12.out.trans ht fun _ _ e => e)
            have HBrc13 := Lib.hid (HBrc12.out.turn ht fun e => e)
            have HBgc13 := Lib.hid (HBgc12.out.turn ht fun e => e)
            refine HK1.out _ _ ⟨hS13, ?_⟩
            clear HK1 ht
            try simp only [Act.put, List.setIfInBounds_toArray, List.set_cons_zero, List.set_cons_succ]
            refine alw_step (i := 5) (by kernel_rfl) rfl rfl ?_
            intro K1 HK1
            go_wp2_with fail
            refine (HFI.out c13 HTc13.out).mono ?_
            rintro e c14 ⟨rfl, ht⟩
            have hS14 : (fun W => Blk W k 85 (byteCells K)) c14 := hS13.turn ht fun e => e
            have HTc14 := Lib.hid (HTc13.out.trans ht fun _ _ e => e)
            have HBrc14 := Lib.hid (HBrc13.out.turn ht fun e => e)
            have HBgc14 := Lib.hid (HBgc13.out.turn ht fun e => e)
            refine HK1.out _ _ ⟨hS14, ?_⟩
            clear HK1 ht
            try simp only [Act.put, List.setIfInBounds_toArray, List.set_cons_zero, List.set_cons_succ]
            refine alw_step (i := 7) (by kernel_rfl) rfl rfl ?_
            intro K1 HK1
            refine wp_store_rowU_g 71 (.tmp 6) (.tmp 14) rfl (byteCells I) HBgc14.out rfl rfl (by rw [bc_size, bc_size, HIL.out]; rfl) (by rw [size_hs, bc_size, HIL.out]) (bc_one _) ?_
            intro wz hbz htz
            refine HK1.out _ _ ⟨hS14.turn (F := only g) htz (fun e => HNkg.out e), ?_⟩
            clear HK1
            try simp only [Act.put, List.setIfInBounds_toArray, List.set_cons_zero, List.set_cons_succ]
            refine alw_done rfl ?_
            refine NoPanic.normal ?_
            go_wp2_with fail
            go_meet
            exact ⟨g, rfl, hbz, hS14.turn (F := only g) htz (fun e => HNkg.out e), HBrc14.out.turn (F := only g) htz (fun e => HNrg.out e), HTc14.out.trans htz fun k' hk e => by have := HLg.out; have e : k' = g := e; omega⟩
    · as_aux_lemma =>
        intro K1 HK1
        refine wp_run (v := .pointer (some ⟨wd.heap.size, 0, none⟩)) (w' := wd.alloc (.cells (byteCells (Sh.zs 32)) 71)) (gx_alloc rfl (zero_hs _)) ?_
        have hb_ := Blk.new wd 71 (byteCells (Sh.zs 32))
        have ht := (Turn.refl nowhere wd).alloc (.cells (byteCells (Sh.zs 32)) 71)
        have HLg := Lib.hid (show w.heap.size ≤ wd.heap.size from HTd.out.size)
        have HNrg := Lib.hid (show r ≠ wd.heap.size from by have := HBrd.out.lt; omega)
        have HNkg := Lib.hid (show k ≠ wd.heap.size from by have := hS0.lt; omega)
        obtain ⟨g, hg_⟩ : ∃ g, g = wd.heap.size := ⟨_, rfl⟩
        rw [← hg_] at hb_ HLg HNrg HNkg ⊢
        clear hg_
        generalize wd.alloc (.cells (byteCells (Sh.zs 32)) 71) = c15 at *
        have hS15 : (fun W => Blk W k 85 (byteCells K)) c15 := hS0.turn ht fun e => e
        have HTc15 := Lib.hid (HTd.out.trans ht fun _ _ e => e)
        have HBrc15 := Lib.hid (HBrd.out.turn ht fun e => e)
        have HBgc15 := Lib.hid hb_
        refine HK1.out _ _ ⟨hS15, ?_⟩
        clear HK1 ht hb_
        try simp only [Act.put, List.setIfInBounds_toArray, List.set_cons_zero, List.set_cons_succ]
        refine alw_step (i := 0) (by kernel_rfl) rfl rfl ?_
        intro K1 HK1
        go_wp2_with fail
        refine (HST.out c15).mono ?_
        rintro e c16 ⟨rfl, ht⟩
        have hS16 : (fun W => Blk W k 85 (byteCells K)) c16 := hS15.turn ht fun e => e
        have HTc16 := Lib.hid (HTc15.out.trans ht fun _ _ e => e)
        have HBrc16 := Lib.hid (HBrc15.out.turn ht fun e => e)
        have HBgc16 := Lib.hid (HBgc15.out.turn ht fun e => e)
        refine HK1.out _ _ ⟨hS16, ?_⟩
        clear HK1 ht
        try simp only [Act.put, List.setIfInBounds_toArray, List.set_cons_zero, List.set_cons_succ]
        refine alw_step (i := 2) (by kernel_rfl) rfl rfl ?_
        intro K1 HK1
        go_wp2_with fail
        refine (HME1.out c16).mono ?_
        rintro e c17 ⟨rfl, ht⟩
        have hS17 : (fun W => Blk W k 85 (byteCells K)) c17 := hS16.turn ht fun e => e
        have HTc17 := Lib.hid (HTc16.out.trans ht fun _ _ e => e)
        have HBrc17 := Lib.hid (HBrc16.out.turn ht fun e => e)
        have HBgc17 := Lib.hid (HBgc16.out.turn ht fun e => e)
        refine HK1.out _ _ ⟨hS17, ?_⟩
        clear HK1 ht
        try simp only [Act.put, List.setIfInBounds_toArray, List.set_cons_zero, List.set_cons_succ]
        refine alw_step (i := 3) (by kernel_rfl) rfl rfl ?_
        intro K1 HK1
        go_wp2_with fail
        refine (HTK1.out c17 (HK.out.turn HTc17.out)).mono ?_
        rintro e c18 ⟨rfl, ht⟩
        have hS18 : (fun W => Blk W k 85 (byteCells K)) c18 := hS17.turn ht fun e => e
        have HTc18 := Lib.hid (HTc17.out.trans ht fun _ _ e => e)
        have HBrc18 := Lib.hid (HBrc17.out.turn ht fun e => e)
        have HBgc18 := Lib.hid (HBgc17.out.turn ht fun e => e)
        refine HK1.out _ _ ⟨hS18, ?_⟩
        clear HK1 ht
        try simp only [Act.put, List.setIfInBounds_toArray, List.set_cons_zero, List.set_cons_succ]
        refine alw_step (i := 5) (by kernel_rfl) rfl rfl ?_
        intro K1 HK1
        go_wp2_with fail
        refine (HFI.out c18 HTc18.out).mono ?_
        rintro e c19 ⟨rfl, ht⟩
        have hS19 : (fun W => Blk W k 85 (byteCells K)) c19 := hS18.turn ht fun e => e
        have HTc19 := Lib.hid (HTc18.out.trans ht fun _ _ e => e)
        have HBrc19 := Lib.hid (HBrc18.out.turn ht fun e => e)
        have HBgc19 := Lib.hid (HBgc18.out.turn ht fun e => e)
        refine HK1.out _ _ ⟨hS19, ?_⟩
        clear HK1 ht
        try simp only [Act.put, List.setIfInBounds_toArray, List.set_cons_zero, List.set_cons_succ]
        refine alw_step (i := 7) (by kernel_rfl) rfl rfl ?_
        intro K1 HK1
        refine wp_store_rowU_g 71 (.tmp 6) (.tmp 14) rfl (byteCells I) HBgc19.out rfl rfl (by rw [bc_size, bc_size, HIL.out]; rfl) (by rw [size_hs, bc_size, HIL.out]) (bc_one _) ?_
        intro wz hbz htz
        refine HK1.out _ _ ⟨hS19.turn (F := only g) htz (fun e => HNkg.out e), ?_⟩
        clear HK1
        try simp only [Act.put, List.setIfInBounds_toArray, List.set_cons_zero, List.set_cons_succ]
        refine alw_done rfl ?_
        refine NoPanic.normal ?_
        go_wp2_with fail
        go_meet
        exact ⟨g, rfl, hbz, hS19.turn (F := only g) htz (fun e => HNkg.out e), HBrc19.out.turn (F := only g) htz (fun e => HNrg.out e), HTc19.out.trans htz fun k' hk e => by have := HLg.out; have e : k' = g := e; omega⟩
  obtain ⟨g, rfl, hbg, hbk, hbr, htr⟩ := hcut
  have HBG := Lib.hid hbg
  have HBK := Lib.hid hbk
  have HBR := Lib.hid hbr
  have HTR := Lib.hid htr
  clear hbg hbk hbr htr
  have HD := Lib.hid ((Turn.refl nowhere wc).drew)
  go_upto_region 3 with fail
  refine wp_region_alw (fun W => Blk W k 85 (byteCells K)) (by kernel_rfl) ?_
  have hS0 : (fun W => Blk W k 85 (byteCells K)) wc.drew := HBK.out.drew
  have HDE := Lib.hid ((Turn.refl nowhere wc).drew)
  generalize wc.drew = we at *
  have HTe := Lib.hid (HTR.out.trans HDE.out fun _ _ e => e)
  have HBGe := Lib.hid (HBG.out.turn HDE.out fun e => e)
  have HBRe := Lib.hid (HBR.out.turn HDE.out fun e => e)
  clear HD HDE HTR HBG HBR
  refine alw_take (i := 1) (v := .agg (byteCells K)) rfl (by kernel_rfl) (by kernel_rfl) (fun _ _ _ h => h) (.inl ⟨by rfl, fun W hW => gx_loads_g rfl rfl (blk_range_g hW) Tryz.underlying85 rfl (size_pc.trans (congrArg some ((bc_size _).trans HFL.out).symm))⟩) hS0 ?_
  simp only [Act.put, List.setIfInBounds_toArray, List.set_cons_zero, List.set_cons_succ]
  refine alw_take (i := 4) (v := .slice (some ⟨g, 0, none⟩) 32 32) rfl (by kernel_rfl) (by kernel_rfl) (fun _ _ _ h => h) (.inl ⟨by rfl, fun W hW => exec_slice rfl rfl rfl rfl rfl (sl_hs g _)⟩) hS0 ?_
  simp only [Act.put, List.setIfInBounds_toArray, List.set_cons_zero, List.set_cons_succ]
  refine alw_step (i := 0) (by kernel_rfl) rfl rfl ?_
  intro K1 HK1
  go_wp2_with fail
  refine (HST.out we).mono ?_
  rintro e c20 ⟨rfl, ht⟩
  have hS20 : (fun W => Blk W k 85 (byteCells K)) c20 := hS0.turn ht fun e => e
  have HTc20 := Lib.hid (HTe.out.trans ht fun _ _ e => e)
  have HBrc20 := Lib.hid (HBRe.out.turn ht fun e => e)
  have HBgc20 := Lib.hid (HBGe.out.turn ht fun e => e)
  refine HK1.out _ _ ⟨hS20, ?_⟩
  clear HK1 ht
  try simp only [Act.put, List.setIfInBounds_toArray, List.set_cons_zero, List.set_cons_succ]
  refine alw_step (i := 2) (by kernel_rfl) rfl rfl ?_
  intro K1 HK1
  go_wp2_with fail
  refine (HME2.out c20).mono ?_
  rintro e c21 ⟨rfl, ht⟩
  have hS21 : (fun W => Blk W k 85 (byteCells K)) c21 := hS20.turn ht fun e => e
  have HTc21 := Lib.hid (HTc20.out.trans ht fun _ _ e => e)
  have HBrc21 := Lib.hid (HBrc20.out.turn ht fun e => e)
  have HBgc21 := Lib.hid (HBgc20.out.turn ht fun e => e)
  refine HK1.out _ _ ⟨hS21, ?_⟩
  clear HK1 ht
  try simp only [Act.put, List.setIfInBounds_toArray, List.set_cons_zero, List.set_cons_succ]
  refine alw_step (i := 3) (by kernel_rfl) rfl rfl ?_
  intro K1 HK1
  go_wp2_with fail
  refine (HTK2.out c21 (HK.out.turn HTc21.out)).mono ?_
  rintro e c22 ⟨rfl, ht⟩
  have hS22 : (fun W => Blk W k 85 (byteCells K)) c22 := hS21.turn ht fun e => e
  have HTc22 := Lib.hid (HTc21.out.trans ht fun _ _ e => e)
  have HBrc22 := Lib.hid (HBrc21.out.turn ht fun e => e)
  have HBgc22 := Lib.hid (HBgc21.out.turn ht fun e => e)
  refine HK1.out _ _ ⟨hS22, ?_⟩
  clear HK1 ht
  try simp only [Act.put, List.setIfInBounds_toArray, List.set_cons_zero, List.set_cons_succ]
  refine alw_step (i := 5) (by kernel_rfl) rfl rfl ?_
  intro K1 HK1
  go_wp2_with fail
  refine (finish_walk h2 64 c22 (some ⟨g, 0, none⟩) 32 32 I (bs_arr HBgc22.out HIL.out (by decide)) (Nat.le_refl _) (by decide) (by decide) (HK.out.turn HTc22.out)).mono ?_
  rintro e c23 ⟨rfl, ht⟩
  rw [← HMF.out]
  have hS23 : (fun W => Blk W k 85 (byteCells K)) c23 := hS22.turn ht fun e => e
  have HTc23 := Lib.hid (HTc22.out.trans ht fun _ _ e => e)
  have HBrc23 := Lib.hid (HBrc22.out.turn ht fun e => e)
  have HBgc23 := Lib.hid (HBgc22.out.turn ht fun e => e)
  refine HK1.out _ _ ⟨hS23, ?_⟩
  clear HK1 ht
  try simp only [Act.put, List.setIfInBounds_toArray, List.set_cons_zero, List.set_cons_succ]
  refine alw_step (i := 6) (by kernel_rfl) rfl rfl ?_
  intro K1 HK1
  refine wp_store_rowU_g 71 (.tmp 4) (.tmp 20) rfl (byteCells F) HBrc23.out rfl rfl (by rw [bc_size, bc_size, HL.out]; rfl) (by rw [size_hs, bc_size, HL.out]) (bc_one _) ?_
  intro wz hbz htz
  have HNkr := Lib.hid (show k ≠ r from by have := HLk.out; have := HBr2lt.out; omega)
  refine HK1.out _ _ ⟨hS23.turn (F := only r) htz (fun e => HNkr.out e), ?_⟩
  clear HK1
  try simp only [Act.put, List.setIfInBounds_toArray, List.set_cons_zero, List.set_cons_succ]
  have HBZ := Lib.hid hbz
  have HTZ := Lib.hid (HTc23.out.trans htz fun k' hk e => by have := HLr.out; have e : k' = r := e; omega)
  clear hbz htz
  refine alw_done rfl ?_
  refine NoPanic.normal ?_
  go_wp2_with fail
  refine bodyPost_ret (v := .agg (byteCells F)) (ret_cell1_g rfl _ _ r _ _ _ rfl HBZ.out Tryz.underlying71 rfl (by rw [size_hs, bc_size, HL.out] <;> rfl)) rfl ?_
  exact ⟨rfl, HTZ.out⟩
end Go.Proofs.YtfnillibngijaaaGreatDoor
namespace Go.Proofs.YtfnillibngijaaaGreatDoor
open Go.RowKit
open Sh (Wd B8 H8)
set_option linter.unusedVariables false
set_option linter.unusedSimpArgs false
set_option maxRecDepth 20000
theorem elmB : Elm Tryz.prog 42 5 1 1 (.int .u8 0) := ⟨Tryz.underlying42, by kernel_rfl, rfl, by decide, by decide⟩
def w1 (x : Wd) : List Value := [.int .u32 (x.toNat : Int)]
def b1 (x : UInt8) : List Value := [.int .u8 (x.toNat : Int)]
def rB (l : B8) : List (List Value) := l.map b1
theorem rB_len (l : B8) : (rB l).length = l.length := List.length_map _
theorem rB_app (l m : B8) : rB (l ++ m) = rB l ++ rB m := by simp [rB]
theorem b1_one (x : UInt8) : ∀ u ∈ b1 x, u.oneCell' = true := fun u hu => by
  obtain rfl : u = _ := by simpa [b1] using hu
  rfl
theorem rB_fit (l : B8) : Fit 1 (rB l) := fun r hr => by
  obtain ⟨x, -, rfl⟩ := List.mem_map.1 hr
  exact ⟨rfl, b1_one x⟩
theorem rB_flat (l : B8) : (rB l).flatten = bcs l := by
  induction l with
  | nil => rfl
  | cons x l ih => rw [rB, List.map_cons, List.flatten_cons, ← rB, ih]; rfl
theorem rB_at (l : B8) {i : Nat} (h : i < l.length) : (rB l)[i]? = some (b1 (l.getD i 0)) := by
  rw [rB, List.getElem?_map, List.getD_eq_getElem?_getD, List.getElem?_eq_getElem h]; rfl
/-- a row of the call's own that holds something lies at its block's start -/
theorem orw_at0 {w : World} {B k : Nat} {et : TypeId} {v : Value} {rs : List (List Value)} (h : Orw w B et k v rs) (hn : 0 < rs.length) : ∃ g c, v = .slice (some ⟨g, 0, none⟩) rs.length c ∧ rs.length ≤ c ∧ c ≤ maxLen ∧ B ≤ g ∧ g < w.heap.size := by
  have hf := h.form
  obtain ⟨A, c, rfl, h1, h2, h3, h4⟩ := hf
  obtain ⟨_, h5⟩ := id h.2
  rcases h5 with ⟨e, h0⟩ | ⟨g, cap, cur, e, hb⟩
  · injection e with e1 e2 e3
    omega
  · injection e with e1 e2 e3
    subst e1
    exact ⟨g, c, rfl, h1, h2, h4 _ rfl⟩
theorem orw_bs {w : World} {B : Nat} {v : Value} {l : B8} (h : Orw w B 5 1 v (rB l)) : ∃ A c, v = .slice A l.length c ∧ Bs w A l.length l ∧ l.length ≤ c ∧ (A = none → c = 0) := by
  have ho : Own w B 5 v l := by
    have := h.2
    rw [rB_len, rB_flat] at this
    exact this
  obtain ⟨A, n, c, rfl, hb, hc, hz⟩ := ho.form
  obtain rfl := hb.1
  exact ⟨A, c, rfl, hb, hc, hz⟩
/-- bytes anywhere, as rows -/
theorem bs_rws {w : World} {A : Option Addr} {n : Nat} {l : B8} (h : Bs w A n l) (hn : n ≤ 140737488355328) : Rws w 1 A n (rB l) := by
  obtain ⟨h1, h2, h3⟩ := h
  refine ⟨by rw [rB_len, h1], fun r hr => (rB_fit l r hr).1, hn, fun hp => ?_⟩
  obtain ⟨b, off, rfl, hc⟩ := h3 hp
  refine ⟨b, off, rfl, fun i r hr j u hu => ?_⟩
  have hi : i < l.length := by
    have := (List.getElem?_eq_some_iff.1 hr).1
    rwa [rB_len] at this
  rw [rB_at l hi] at hr
  obtain rfl := Option.some.inj hr
  have hj : j = 0 := by
    have := (List.getElem?_eq_some_iff.1 hu).1
    simp [b1] at this
    exact this
  subst hj
  have hu' : u = .int .u8 ((l.getD i 0).toNat : Int) := by simpa [b1] using hu.symm
  rw [hu', Nat.mul_one, Nat.add_zero]
  exact hc i (by omega)
theorem take_nextB (l : B8) {i : Nat} (h : i < l.length) : l.take (i + 1) = l.take i ++ [l.getD i 0] := by
  rw [List.take_succ_eq_append_getElem h, List.getD_eq_getElem?_getD, List.getElem?_eq_getElem h]
  rfl
theorem cell_still {w w' : World} {p : Addr} {v : Value} (h : w.cell? p = some v) (ht : Turn nowhere w w') : w'.cell? p = some v := (ht.cell (World.block_lt_of_cell? _ _ h) (fun e => e)).trans h
end Go.Proofs.YtfnillibngijaaaGreatDoor
namespace Go.Proofs.YtfnillibngijaaaGreatDoor
open Go.RowKit Go.Extern.Stop Go.Stop Go.Extern
set_option maxRecDepth 20000
set_option linter.unusedVariables false
set_option linter.unusedSimpArgs false
theorem c_typeOf (v : Value) (w : World) : (callFunc 71 #[.iface 237 v]).run Tryz.prog w = .ok (.value (.iface 160 (.agg #[.pointer (some ⟨20, 237, none⟩)]))) w := by
  rw [@run_callFunc_extern Tryz.prog 71 _ Extern.ReflectliteType.typeOf Tryz.func71 (by kernel_rfl) (by kernel_rfl) (by kernel_rfl) (by kernel_rfl)]
  kernel_rfl
theorem c_comparable (w : World) : (callFunc 166 #[.agg #[.pointer (some ⟨20, 237, none⟩)]]).run Tryz.prog w = .ok (.value (.bool true)) w := by
  rw [@run_callFunc_extern Tryz.prog 166 _ (Extern.ReflectliteType.method fun t => do Extern.Rtype.noPackHeld "Comparable" t; pure (.bool (← typeInfo t).comparable)) Tryz.func166 (by kernel_rfl) (by kernel_rfl) (by kernel_rfl) (by kernel_rfl)]
  kernel_rfl
theorem is_methodC (v : Value) (w : World) : (Go.method 367 160 v "Comparable").run Tryz.prog w = .ok (166, v) w := by kernel_rfl
theorem is_comp : (Tryz.prog.info? 237).map (·.comparable) = some true := by kernel_rfl
theorem is_size : (Tryz.prog.info? 255).map (·.size) = some 1 := by kernel_rfl
theorem no_IsE (v : Value) (xT : TypeId) (w : World) : (Instr.typeAssert (.iface 237 v) xT 172 true).run Tryz.prog w = .ok (.tuple #[.nilIface, .bool false]) w := run_typeAssert_lacksB Tryz.underlying172 (by kernel_rfl) (by kernel_rfl) v xT w
theorem no_UnE (v : Value) (xT : TypeId) (w : World) : (Instr.typeAssert (.iface 237 v) xT 167 true).run Tryz.prog w = .ok (.tuple #[.nilIface, .bool false]) w := run_typeAssert_lacksB Tryz.underlying167 (by kernel_rfl) (by kernel_rfl) v xT w
theorem no_UsE (v : Value) (xT : TypeId) (w : World) : (Instr.typeAssert (.iface 237 v) xT 169 true).run Tryz.prog w = .ok (.tuple #[.nilIface, .bool false]) w := run_typeAssert_lacksB Tryz.underlying169 (by kernel_rfl) (by kernel_rfl) v xT w
theorem no_AsE (v : Value) (xT : TypeId) (w : World) : (Instr.typeAssert (.iface 237 v) xT 164 true).run Tryz.prog w = .ok (.tuple #[.nilIface, .bool false]) w := run_typeAssert_lacksB Tryz.underlying164 (by kernel_rfl) (by kernel_rfl) v xT w
theorem no_IsF (v : Value) (xT : TypeId) (w : World) : (Instr.typeAssert (.iface 111 v) xT 172 true).run Tryz.prog w = .ok (.tuple #[.nilIface, .bool false]) w := run_typeAssert_lacksB Tryz.underlying172 (by kernel_rfl) (by kernel_rfl) v xT w
theorem has_UnF (v : Value) (xT : TypeId) (w : World) : (Instr.typeAssert (.iface 111 v) xT 167 true).run Tryz.prog w = .ok (.tuple #[.iface 111 v, .bool true]) w := run_typeAssert_hasB Tryz.underlying167 (by kernel_rfl) v xT w
theorem method_UnF (v : Value) (w : World) : (Go.method 367 111 v "Unwrap").run Tryz.prog w = .ok (160, v) w := by kernel_rfl
/-- errors.Is at two of errors.New -/
theorem is_any (a b : Addr) (ca cb : Array Value) (ta tb : TypeId) (w : World) (ha : w.heap[a.block]? = some (.cells ca ta (0, 0))) (hb : w.heap[b.block]? = some (.cells cb tb (0, 0))) :
    Calls Tryz.prog 52 #[.iface 237 (.pointer (some a)), .iface 237 (.pointer (some b))] w fun e w' => e = .returned (.bool (decide (a = b))) ∧ w' = w := by
  obtain ⟨i, hi, hcmp⟩ := Option.map_eq_some_iff.1 is_comp
  obtain ⟨j, hj, hjs⟩ := Option.map_eq_some_iff.1 is_size
  have tT := c_typeOf
  have cT := c_comparable
  have mR := is_methodC
  have nE := no_IsE
  have uE := no_UnE
  have vE := no_UsE
  by_cases hab : a = b
  · subst hab
    rw [decide_eq_true rfl]
    have heq := run_eql_iface_ptr_same (P := Tryz.prog) w a Tryz.underlying78 Tryz.underlying237 hi hcmp hj
    go_enter Tryz.func52, Tryz.ntmps52
    go_wp2
    refine wp_loop_rounds 1 ?_
    rw [rounds_succ]
    go_wp2
    go_ret
    exact ⟨rfl, rfl⟩
  · rw [decide_eq_false hab]
    have heq := run_eql_iface_ptr_other (P := Tryz.prog) w Tryz.underlying78 Tryz.underlying237 hi hcmp hj (by rw [hjs]; decide) (a := a) (b := b) hab ha hb
    clear hab
    go_enter Tryz.func52, Tryz.ntmps52
    go_wp2
    refine wp_loop_rounds 1 ?_
    rw [rounds_succ]
    go_wp2
    go_ret
    exact ⟨rfl, rfl⟩
/-- errors.Is(nil, x) -/
theorem is_nil (b : Addr) (w : World) :
    Calls Tryz.prog 52 #[.nilIface, .iface 237 (.pointer (some b))] w fun e w' => e = .returned (.bool false) ∧ w' = w := by
  have hn := run_eql_iface_nil_left (P := Tryz.prog) w 237 (.pointer (some b)) Tryz.underlying78
  go_enter Tryz.func52, Tryz.ntmps52
  go_wp2
  go_ret
  exact ⟨rfl, rfl⟩
end Go.Proofs.YtfnillibngijaaaGreatDoor
