/-
  Texts in one file. Conditions: the tables and the errors read as laid.
-/
import Derived.Test.YtkagijifkpoplaaGreatDoorJT28
import Derived.Test.YtkagijifkpoplaaGreatDoorJT0
import Derived.Test.YtkagijifkpoplaaGreatDoorJT1
set_option linter.unusedVariables false
set_option linter.unusedSimpArgs false
set_option maxRecDepth 40000
set_option maxHeartbeats 20000000
namespace Go.Proofs.YtkagijifkpoplaaGreatDoor
open Go.RowKit
open Sh (Wd B8 H8)
open Fdd
set_option maxRecDepth 20000
theorem again_walk {s : Sents} {w : World} {code key : B8} {d m1 m2 ty : Int} {Ak A : Option Addr} {nk ck n c : Nat} {fs : List Fld} (he : Env s w) (hk : KT w) (hkey : Key w Ak nk ck key) (hf : Mg w A n c fs) :
 Calls Tryz.prog 6 #[.agg (memC code d Ak nk ck m1 m2), msgV ty A n c] w fun e w' => e = .returned (.bool true) ∧ Turn nowhere w w' := by
 have HE := zH he
 have HK := zH hk
 have HKEY := zH hkey
 have HMG := zH hf
 clear he hk hkey hf
 go_enter Tryz.func6, Tryz.ntmps6
 go_upto_region 0 with fail
 refine wp_region_lit ?_
 refine wR (v := .pointer (some ⟨(w).heap.size, 0, none⟩)) (w' := (w).alloc (.cells (memC code d Ak nk ck m1 m2) 26)) wn (gx_box rfl rfl (box_mem _ _ _ _ _ _ _ _)) ?_
 simp only [zz]
 refine wR (v := .pointer (some ⟨((w).alloc (.cells (memC code d Ak nk ck m1 m2) 26)).heap.size, 0, none⟩)) (w' := ((w).alloc (.cells (memC code d Ak nk ck m1 m2) 26)).alloc (.cells #[.int .i64 ty, .slice A n c] 29)) wn (gx_box rfl rfl (box_mg _ _ _ _ _)) ?_
 simp only [zz];refine nA (.bool false) ?_;simp only [zz]
 have hb_p := (Blk.new (w) 26 (memC code d Ak nk ck m1 m2)).alloc (.cells #[.int .i64 ty, .slice A n c] 29)
 have hb_gm := Blk.new ((w).alloc (.cells (memC code d Ak nk ck m1 m2) 26)) 29 #[.int .i64 ty, .slice A n c]
 have ht_ := ((Turn.refl nowhere (w)).alloc (.cells (memC code d Ak nk ck m1 m2) 26)).alloc (.cells #[.int .i64 ty, .slice A n c] 29)
 obtain ⟨n0_, hn0_⟩ : ∃ n, n = (w).heap.size := ⟨_, rfl⟩
 have hz_p : (w).heap.size = n0_ + 0 := by rw [hn0_]; simp
 have hz_gm : ((w).alloc (.cells (memC code d Ak nk ck m1 m2) 26)).heap.size = n0_ + 1 := by rw [hn0_]; simp
 obtain ⟨gm, hg_⟩ : ∃ g, g = ((w).alloc (.cells (memC code d Ak nk ck m1 m2) 26)).heap.size := ⟨_, rfl⟩
 rw [← hg_] at hb_gm hz_gm ⊢
 clear hg_
 obtain ⟨p, hg_⟩ : ∃ g, g = (w).heap.size := ⟨_, rfl⟩
 rw [← hg_] at hb_p hz_p ⊢
 clear hg_
 generalize ((w).alloc (.cells (memC code d Ak nk ck m1 m2) 26)).alloc (.cells #[.int .i64 ty, .slice A n c] 29) = w1 at *
 have HT1 := zH ht_
 clear ht_
 have HBp := zH hb_p
 have HLp := zH (show (w).heap.size ≤ p from by omega)
 clear hb_p
 have HBgm := zH hb_gm
 have HLgm := zH (show (w).heap.size ≤ gm from by omega)
 clear hb_gm
 have HNpgm := zH (show p ≠ gm from by omega)
 clear hn0_ hz_p hz_gm
 clear n0_
 go_upto_region 1 with fail
 refine wp_region_lit ?_
 refine wpList_op_g rfl fun K9 HK9 => ?_
 go_wp2_with fail
 refine (sshown_walk w1 (HE.out.turn HT1.out) (HK.out.turn HT1.out)).mono ?_
 rintro e w2 ⟨rfl, ht⟩
 refine HK9.out _ _ ?_
 clear HK9
 try simp only [zz]
 have HT2 := zH (HT1.out.trans ht fun _ _ e => e)
 have HBp2 := zH (HBp.out.turn ht fun e => e)
 have HBm2 := zH (HBgm.out.turn ht fun e => e)
 clear ht HBp HBgm HT1
 refine nA (.bool true) ?_;simp only [zz]
 go_upto_region 2 with fail
 refine wp_region_lit ?_
 refine nR (.agg (memC code d Ak nk ck m1 m2)) (gx_loads_g rfl rfl (blk_range_g HBp2.out) Tryz.underlying26 rfl (by rw [size_mem]; rfl)) ?_;simp only [zz];refine nR (msgV ty A n c) (gx_loads_g rfl rfl (blk_range_g HBm2.out) Tryz.underlying29 rfl (by rw [size_mg]; rfl)) ?_;simp only [zz]
 cases hR : macR d ty key fs with
 | error k =>
   as_aux_lemma =>
    have HR := zH hR
    clear hR
    refine wpList_op_g rfl fun K9 HK9 => ?_
    go_wp2_with fail
    refine (Seal_err (m1 := m1) (m2 := m2) (code := code) (HE.out.turn HT2.out) (HK.out.turn HT2.out) (HKEY.out.still HT2.out) (HMG.out.still HT2.out) HR.out).mono ?_
    rintro e w3 ⟨rfl, ht⟩
    refine HK9.out _ _ ?_
    clear HK9
    try simp only [zz]
    have HT3 := zH (HT2.out.trans ht fun _ _ e => e)
    clear ht HBp2 HBm2 HT2
    have HKZ := zH (macR_nz HR.out)
    refine nM (.tuple #[msgV 0 none 0 0, .int .i64 k]) ?_;simp only [zz];refine nE (msgV 0 none 0 0) ?_;simp only [zz];refine nE (.int .i64 k) ?_;simp only [zz]
    refine wR (v := .pointer (some ⟨w3.heap.size, 0, none⟩)) (w' := w3.alloc (.cells #[.int .i64 0, .slice none 0 0] 29)) wn (gx_alloc rfl (zero_mg _)) ?_
    simp only [zz]
    have hb_ := Blk.new w3 29 #[.int .i64 0, .slice none 0 0]
    have ht_ := (Turn.refl nowhere w3).alloc (.cells #[.int .i64 0, .slice none 0 0] 29)
    obtain ⟨ga, hg_⟩ : ∃ g, g = w3.heap.size := ⟨_, rfl⟩
    rw [← hg_] at hb_ ⊢
    have HLga := zH (show w3.heap.size ≤ ga from by omega)
    clear hg_
    generalize w3.alloc (.cells #[.int .i64 0, .slice none 0 0] 29) = w3a at *
    have HBga := zH hb_
    have HAga := zH ht_
    clear hb_ ht_
    refine wpList_store_row wn 29 (.tmp 6) (.tmp 20) rfl (#[.int .i64 0, .slice none 0 0]) HBga.out rfl rfl (rfl) (by rw [size_mg] <;> rfl) (mg_one _ _ _ _) ?_
    intro w3b hb_ ht_
    have HBga1 := zH hb_
    have HCga := zH ht_
    clear hb_ ht_
    simp only [zz]
    have HDga := zH (HAga.out.trans HCga.out fun k' hk e => by have := HLga.out; have e : k' = ga := e; omega)
    clear HAga HCga HBga
    have HT4 := zH (HT3.out.trans HDga.out fun _ _ e => e)
    clear HT3 HDga HBga1
    refine nA (.int .i64 k) ?_;simp only [zz]
    go_upto_region 3 with fail
    refine wp_region_lit ?_
    refine nM (.bool true) ?_;simp only [zz];refine nR (.bool false) (ix_not (b := true) rfl rfl) ?_;simp only [zz];refine nM (.bool false) ?_;simp only [zz];refine wM (.int .i64 k) ?_;simp only [zz];refine wS (.bool true) (ix_neq rfl rfl rfl (decide_eq_true HKZ.out)) ?_;simp only [zz];refine nR (.bool true) (ix_pickF rfl rfl rfl) ?_;simp only [zz]
    go_upto_region 4 with fail
    refine wp_region_lit ?_
    refine nM (.bool true) ?_;simp only [zz];refine nA (.bool true) ?_;simp only [zz]
    go_wp2_with fail
    go_ret
    exact ⟨rfl, HT4.out⟩
 | ok t =>
   as_aux_lemma =>
    have HR := zH hR
    clear hR
    refine wpList_op_g rfl fun K9 HK9 => ?_
    go_wp2_with fail
    refine (Seal_ok (m1 := m1) (m2 := m2) (code := code) (HE.out.turn HT2.out) (HK.out.turn HT2.out) (HKEY.out.still HT2.out) (HMG.out.still HT2.out) HR.out).mono ?_
    rintro e w3 ⟨Aa, na, ca, rfl, hg, ht⟩
    refine HK9.out _ _ ?_
    clear HK9
    try simp only [zz]
    have HCR := zH ((macR_set d ty key t fs).trans HR.out)
    have HSS := zH (set_set t t fs)
    have HC1 := zH (cnt_set t fs)
    have HGT := zH (fun i f h1 h2 => set_same (i := i) (f := f) HR.out h1 h2)
    generalize setM 64 t fs = gs at hg HCR HSS HC1 HGT
    have HTs3 := zH (HT2.out.trans ht fun _ _ e => e)
    have HBp3 := zH (HBp2.out.turn ht fun e => e)
    have HBm3 := zH (HBm2.out.turn ht fun e => e)
    have HG3 := zH hg
    clear ht hg HBp2 HBm2 HT2
    refine nM (.tuple #[msgV ty Aa na ca, .int .i64 0]) ?_;simp only [zz];refine nE (msgV ty Aa na ca) ?_;simp only [zz];refine nE (.int .i64 0) ?_;simp only [zz]
    refine wR (v := .pointer (some ⟨w3.heap.size, 0, none⟩)) (w' := w3.alloc (.cells #[.int .i64 0, .slice none 0 0] 29)) wn (gx_alloc rfl (zero_mg _)) ?_
    simp only [zz]
    have hb_ := Blk.new w3 29 #[.int .i64 0, .slice none 0 0]
    have ht_ := (Turn.refl nowhere w3).alloc (.cells #[.int .i64 0, .slice none 0 0] 29)
    obtain ⟨ga, hg_⟩ : ∃ g, g = w3.heap.size := ⟨_, rfl⟩
    rw [← hg_] at hb_ ⊢
    have HLga := zH (show w3.heap.size ≤ ga from by omega)
    clear hg_
    generalize w3.alloc (.cells #[.int .i64 0, .slice none 0 0] 29) = w3a at *
    have HBga := zH hb_
    have HAga := zH ht_
    clear hb_ ht_
    refine wpList_store_row wn 29 (.tmp 6) (.tmp 20) rfl (#[.int .i64 ty, .slice Aa na ca]) HBga.out rfl rfl (rfl) (by rw [size_mg] <;> rfl) (mg_one _ _ _ _) ?_
    intro w3b hb_ ht_
    have HBga1 := zH hb_
    have HCga := zH ht_
    clear hb_ ht_
    simp only [zz]
    have HDga := zH (HAga.out.trans HCga.out fun k' hk e => by have := HLga.out; have e : k' = ga := e; omega)
    clear HAga HCga HBga
    have HT4 := zH (HTs3.out.trans HDga.out fun _ _ e => e)
    have HBp4 := zH (HBp3.out.turn HDga.out fun e => e)
    have HBm4 := zH (HBm3.out.turn HDga.out fun e => e)
    have HG4 := zH (HG3.out.still HDga.out)
    clear HTs3 HDga HBp3 HBm3 HG3
    refine nA (.int .i64 0) ?_;simp only [zz]
    go_upto_region 3 with fail
    refine wp_region_lit ?_
    refine nM (.bool true) ?_;simp only [zz];refine nR (.bool false) (ix_not (b := true) rfl rfl) ?_;simp only [zz];refine nM (.bool false) ?_;simp only [zz];refine wM (.int .i64 0) ?_;simp only [zz];refine wS (.bool false) (ix_neq rfl rfl rfl (by decide)) ?_;simp only [zz];refine nR (.bool false) (ix_pickF rfl rfl rfl) ?_;simp only [zz]
    go_upto_region 5 with fail
    refine wp_region_lit ?_
    refine nR (.agg (memC code d Ak nk ck m1 m2)) (gx_loads_g rfl rfl (blk_range_g HBp4.out) Tryz.underlying26 rfl (by rw [size_mem]; rfl)) ?_;simp only [zz];refine nR (msgV ty Aa na ca) (gx_loads_g rfl rfl (blk_range_g HBga1.out) Tryz.underlying29 rfl (by rw [size_mg]; rfl)) ?_;simp only [zz]
    refine wpList_op_g rfl fun K9 HK9 => ?_
    go_wp2_with fail
    refine (Seal_ok (m1 := m1) (m2 := m2) (code := code) (HE.out.turn HT4.out) (HK.out.turn HT4.out) (HKEY.out.still HT4.out) HG4.out HCR.out).mono ?_
    rintro e w5 ⟨Ab, nb, cb, rfl, hg, ht⟩
    refine HK9.out _ _ ?_
    clear HK9
    try simp only [zz]
    rw [HSS.out] at hg
    have HTs5 := zH (HT4.out.trans ht fun _ _ e => e)
    have HBm5 := zH (HBm4.out.turn ht fun e => e)
    have HBa5 := zH (HBga1.out.turn ht fun e => e)
    have HG5 := zH (HG4.out.still ht)
    have HH5 := zH hg
    clear ht hg HBp4 HBm4 HBga1 HG4 HT4
    refine nM (.tuple #[msgV ty Ab nb cb, .int .i64 0]) ?_;simp only [zz];refine nE (msgV ty Ab nb cb) ?_;simp only [zz];refine nE (.int .i64 0) ?_;simp only [zz]
    refine wR (v := .pointer (some ⟨w5.heap.size, 0, none⟩)) (w' := w5.alloc (.cells #[.int .i64 0, .slice none 0 0] 29)) wn (gx_alloc rfl (zero_mg _)) ?_
    simp only [zz]
    have hb_ := Blk.new w5 29 #[.int .i64 0, .slice none 0 0]
    have ht_ := (Turn.refl nowhere w5).alloc (.cells #[.int .i64 0, .slice none 0 0] 29)
    obtain ⟨gb, hg_⟩ : ∃ g, g = w5.heap.size := ⟨_, rfl⟩
    rw [← hg_] at hb_ ⊢
    have HLgb := zH (show w5.heap.size ≤ gb from by omega)
    clear hg_
    generalize w5.alloc (.cells #[.int .i64 0, .slice none 0 0] 29) = w5a at *
    have HBgb := zH hb_
    have HAgb := zH ht_
    clear hb_ ht_
    refine wpList_store_row wn 29 (.tmp 8) (.tmp 33) rfl (#[.int .i64 ty, .slice Ab nb cb]) HBgb.out rfl rfl (rfl) (by rw [size_mg] <;> rfl) (mg_one _ _ _ _) ?_
    intro w5b hb_ ht_
    have HBgb1 := zH hb_
    have HCgb := zH ht_
    clear hb_ ht_
    simp only [zz]
    have HDgb := zH (HAgb.out.trans HCgb.out fun k' hk e => by have := HLgb.out; have e : k' = gb := e; omega)
    clear HAgb HCgb HBgb
    have HT6 := zH (HTs5.out.trans HDgb.out fun _ _ e => e)
    have HBm6 := zH (HBm5.out.turn HDgb.out fun e => e)
    have HBa6 := zH (HBa5.out.turn HDgb.out fun e => e)
    have HG6 := zH (HG5.out.still HDgb.out)
    have HH6 := zH (HH5.out.still HDgb.out)
    clear HTs5 HDgb HBm5 HBa5 HG5 HH5
    refine nA (.int .i64 0) ?_;simp only [zz]
    go_upto_region 6 with fail
    refine wp_region_lit ?_
    refine nR (msgV ty Aa na ca) (gx_loads_g rfl rfl (blk_range_g HBa6.out) Tryz.underlying29 rfl (by rw [size_mg]; rfl)) ?_;simp only [zz];refine nR (msgV ty Ab nb cb) (gx_loads_g rfl rfl (blk_range_g HBgb1.out) Tryz.underlying29 rfl (by rw [size_mg]; rfl)) ?_;simp only [zz]
    refine wpList_op_g rfl fun K9 HK9 => ?_
    go_wp2_with fail
    refine (same_yes (c1 := ca) (c2 := cb) (ty := ty) HG6.out.fl HH6.out.fl).mono ?_
    rintro e w7 ⟨rfl, ht⟩
    refine HK9.out _ _ ?_
    clear HK9
    try simp only [zz]
    have HT7 := zH (HT6.out.trans ht fun _ _ e => e)
    have HBm7 := zH (HBm6.out.turn ht fun e => e)
    have HBa7 := zH (HBa6.out.turn ht fun e => e)
    have HF7 := zH (HG6.out.fl.still ht)
    have HLEN := zH HG6.out.fl.1
    have yn : (na : Int) ≤ 5864062014800 := by have := HG6.out.lim; omega
    clear ht HT6 HBm6 HBa6 HG6 HH6 HBgb1
    refine nA (.bool true) ?_;simp only [zz]
    go_upto_region 7 with fail
    refine wp_region_lit ?_
    refine nA (.int .i64 0) ?_;simp only [zz]
    go_upto_region 8 with fail
    refine wp_region_lit ?_
    refine nA (.int .i64 0) ?_;simp only [zz]
    go_wp2_with fail
    go_loopg [11, 12] na (fun gk nv iv wr => ∃ i k : Nat, iv = .int .i64 (i : Int) ∧ nv = .int .i64 (k : Int) ∧ cnt64 (gs.take i) = k ∧ i + gk = na ∧ Turn nowhere w7 wr)
    case atStart => exact ⟨0, 0, rfl, rfl, rfl, by omega, Turn.refl _ _⟩
    obtain ⟨i, k, rfl, rfl, hck, hgk, htr⟩ := hrel
    have yi : (i : Int) ≤ (na : Int) := by omega
    have HCK := zH hck
    have HGK := zH hgk
    have yk : (k : Int) ≤ (i : Int) := by
     have := cnt_le (gs.take i)
     rw [List.length_take] at this
     omega
    have HTR := zH (HT7.out.trans htr fun _ _ e => e)
    have HBA := zH (HBa7.out.turn htr fun e => e)
    have HBM := zH (HBm7.out.turn htr fun e => e)
    have HFR := zH (HF7.out.still htr)
    have HTS := zH htr
    clear hck hgk htr
    by_cases hlt : i < na
    ·as_aux_lemma =>
      have HLT := zH hlt
      have y3 : (i : Int) < (na : Int) := by omega
      obtain ⟨e, hei⟩ := fl_some HLEN.out hlt
      have HCS := zH (cnt_snoc hei)
      have HGE := zH (HGT.out i e hei)
      obtain ⟨b1, o1, e1, h1⟩ := fl_rng HFR.out hei
      have HRR := zH h1
      subst e1
      clear h1 hei hlt
      go_upto_region 9 with fail
      refine wp_region_lit ?_
      refine nM (.int .i64 (i : Int)) ?_;simp only [zz];refine nR (.pointer (some ⟨ga, 1, none⟩)) (xF 0 1) ?_;simp only [zz];refine nR (.slice (some ⟨b1, o1, none⟩) na ca) (xL (HBA.out.cell 1)) ?_;simp only [zz];refine nR (.int .i64 (na : Int)) (gx_len rfl rfl Tryz.underlying27) ?_;simp only [zz];refine nR (.bool true) (ix_lss rfl rfl rfl (decide_eq_true y3)) ?_;simp only [zz]
      by_cases hz : e.1 = 64
      ·as_aux_lemma =>
        have HZ := zH hz
        clear hz
        go_upto_region 11 with fail
        refine wp_region_lit ?_
        refine nR (.pointer (some ⟨ga, 1, none⟩)) (xF 0 1) ?_;simp only [zz];refine nR (.slice (some ⟨b1, o1, none⟩) na ca) (xL (HBA.out.cell 1)) ?_;simp only [zz];refine nM (.int .i64 (i : Int)) ?_;simp only [zz];refine nR (.pointer (some ⟨b1, o1 + i * 2, none⟩)) (gx_iaddr (i := i) (sz := 2) rfl rfl rfl Tryz.underlying27 size_fd HLT.out rfl) ?_;simp only [zz];refine nR (.pointer (some ⟨b1, o1 + i * 2, none⟩)) (xF (o1 + i * 2) 0) ?_;simp only [zz];refine nR (.int .i64 e.1) (xL (HRR.out 0 _ rfl)) ?_;simp only [zz];refine nR (.bool true) (ix_eql rfl rfl rfl (decide_eq_true HZ.out)) ?_;simp only [zz]
        go_upto_region 12 with fail
        refine wp_region_lit ?_
        refine nM (.int .i64 (k : Int)) ?_;simp only [zz];refine nR (.int .i64 ((k + 1 : Nat) : Int)) (ix_add rfl rfl rfl (by omega) (by omega)) ?_;simp only [zz];refine nA (.int .i64 ((k + 1 : Nat) : Int)) ?_;simp only [zz]
        go_upto_region 10 with fail
        refine wp_region_lit ?_
        refine nM (.int .i64 (i : Int)) ?_;simp only [zz];refine nR (.int .i64 ((i + 1 : Nat) : Int)) (ix_add rfl rfl rfl (by omega) (by omega)) ?_;simp only [zz];refine nA (.int .i64 ((i + 1 : Nat) : Int)) ?_;simp only [zz]
        go_wp2_with fail
        go_roundg (na - (i + 1))
        case measure => have := HGK.out; have := HLT.out; omega
        case rel => exact ⟨i + 1, k + 1, rfl, rfl, by rw [HCS.out, HCK.out, if_pos HZ.out], by have := HGK.out; have := HLT.out; omega, HTS.out⟩
      ·as_aux_lemma =>
        have HZ := zH hz
        clear hz
        go_upto_region 11 with fail
        refine wp_region_lit ?_
        refine nR (.pointer (some ⟨ga, 1, none⟩)) (xF 0 1) ?_;simp only [zz];refine nR (.slice (some ⟨b1, o1, none⟩) na ca) (xL (HBA.out.cell 1)) ?_;simp only [zz];refine nM (.int .i64 (i : Int)) ?_;simp only [zz];refine nR (.pointer (some ⟨b1, o1 + i * 2, none⟩)) (gx_iaddr (i := i) (sz := 2) rfl rfl rfl Tryz.underlying27 size_fd HLT.out rfl) ?_;simp only [zz];refine nR (.pointer (some ⟨b1, o1 + i * 2, none⟩)) (xF (o1 + i * 2) 0) ?_;simp only [zz];refine nR (.int .i64 e.1) (xL (HRR.out 0 _ rfl)) ?_;simp only [zz];refine nR (.bool false) (ix_eql rfl rfl rfl (decide_eq_false HZ.out)) ?_;simp only [zz]
        go_upto_region 13 with fail
        refine wp_region_alw (fun W => Blk W gm 29 #[.int .i64 ty, .slice A n c] ∧ Blk W ga 29 #[.int .i64 ty, .slice (some ⟨b1, o1, none⟩) na ca] ∧ W.rangeAt b1 (o1 + i * 2) (fldC e)) (by kernel_rfl) ?_
        have hS0 : (fun W => Blk W gm 29 #[.int .i64 ty, .slice A n c] ∧ Blk W ga 29 #[.int .i64 ty, .slice (some ⟨b1, o1, none⟩) na ca] ∧ W.rangeAt b1 (o1 + i * 2) (fldC e)) wr.drew := ⟨HBM.out.drew, HBA.out.drew, HRR.out⟩
        have HD := zH ((Turn.refl nowhere wr).drew)
        generalize wr.drew = wd at *
        have HTd := zH (HTR.out.trans HD.out fun _ _ e => e)
        refine aU 0 (msgV ty A n c) rfl (fun W hW => gx_loads_g rfl rfl (blk_range_g hW.1) Tryz.underlying29 rfl (by rw [size_mg]; rfl)) hS0 ?_;simp only [zz];refine aU 1 (.pointer (some ⟨ga, 1, none⟩)) rfl (fun W hW => xF 0 1) hS0 ?_;simp only [zz];refine aU 2 (.slice (some ⟨b1, o1, none⟩) na ca) rfl (fun W hW => xL (hW.2.1.cell 1)) hS0 ?_;simp only [zz];refine aM 3 (.int .i64 (i : Int)) hS0 ?_;simp only [zz];refine aU 4 (.pointer (some ⟨b1, o1 + i * 2, none⟩)) rfl (fun W hW => gx_iaddr (i := i) (sz := 2) rfl rfl rfl Tryz.underlying27 size_fd HLT.out rfl) hS0 ?_;simp only [zz];refine aU 5 (.pointer (some ⟨b1, o1 + i * 2, none⟩)) rfl (fun W hW => xF (o1 + i * 2) 0) hS0 ?_;simp only [zz];refine aU 6 (.int .i64 e.1) rfl (fun W hW => xL (hW.2.2 0 _ rfl)) hS0 ?_;simp only [zz]
        refine alw_step (i := 7) (by kernel_rfl) rfl rfl ?_
        intro K1 HK1
        go_wp2_with fail
        refine (rGet_yes (HMG.out.still HTd.out).fl (HGE.out HZ.out)).mono ?_
        rintro e c1 ⟨rfl, ht⟩
        have hS1 : (fun W => Blk W gm 29 #[.int .i64 ty, .slice A n c] ∧ Blk W ga 29 #[.int .i64 ty, .slice (some ⟨b1, o1, none⟩) na ca] ∧ W.rangeAt b1 (o1 + i * 2) (fldC e)) c1 := ⟨hS0.1.turn ht fun e => e, hS0.2.1.turn ht fun e => e, fun j u hu => cell_still (hS0.2.2 j u hu) ht⟩
        have HTe := zH ((HTS.out.trans HD.out fun _ _ e => e).trans ht fun _ _ e => e)
        clear ht hS0
        refine HK1.out _ _ ⟨hS1, ?_⟩
        clear HK1
        try simp only [zz]
        refine aM 8 (.tuple #[strV e.2, .bool true]) hS1 ?_;simp only [zz];refine aU 9 (strV e.2) rfl (fun W hW => ix_extract rfl rfl rfl) hS1 ?_;simp only [zz];refine aU 10 (.bool true) rfl (fun W hW => ix_extract rfl rfl rfl) hS1 ?_;simp only [zz];refine aU 11 (strV e.2) rfl (fun W hW => gx_assign rfl rfl) hS1 ?_;simp only [zz];refine aU 12 (.bool true) rfl (fun W hW => gx_assign rfl rfl) hS1 ?_;simp only [zz]
        refine alw_done rfl ?_
        refine NoPanic.normal ?_
        have HBA2 := zH hS1.2.1
        have HRR2 := zH hS1.2.2
        clear hS1
        try simp only [zz]
        go_upto_region 14 with fail
        refine wp_region_lit ?_
        refine nM (.bool true) ?_;simp only [zz];refine nR (.bool false) (ix_not (b := true) rfl rfl) ?_;simp only [zz];refine nM (.bool false) ?_;simp only [zz];refine wM (strV e.2) ?_;simp only [zz];refine wS (.pointer (some ⟨ga, 1, none⟩)) (xF 0 1) ?_;simp only [zz];refine wS (.slice (some ⟨b1, o1, none⟩) na ca) (xL (HBA2.out.cell 1)) ?_;simp only [zz];refine wM (.int .i64 (i : Int)) ?_;simp only [zz];refine wS (.pointer (some ⟨b1, o1 + i * 2, none⟩)) (gx_iaddr (i := i) (sz := 2) rfl rfl rfl Tryz.underlying27 size_fd HLT.out rfl) ?_;simp only [zz];refine wS (.pointer (some ⟨b1, o1 + i * 2 + 1, none⟩)) (xF (o1 + i * 2) 1) ?_;simp only [zz];refine wS (strV e.2) (xL (HRR2.out 1 _ rfl)) ?_;simp only [zz];refine wS (.bool false) (sneq_f rfl rfl rfl rfl) ?_;simp only [zz];refine nR (.bool false) (ix_pickF rfl rfl rfl) ?_;simp only [zz]
        go_upto_region 10 with fail
        refine wp_region_lit ?_
        refine nM (.int .i64 (i : Int)) ?_;simp only [zz];refine nR (.int .i64 ((i + 1 : Nat) : Int)) (ix_add rfl rfl rfl (by omega) (by omega)) ?_;simp only [zz];refine nA (.int .i64 ((i + 1 : Nat) : Int)) ?_;simp only [zz]
        go_wp2_with fail
        go_roundg (na - (i + 1))
        case measure => have := HGK.out; have := HLT.out; omega
        case rel => exact ⟨i + 1, k, rfl, rfl, by rw [HCS.out, HCK.out, if_neg HZ.out]; rfl, by have := HGK.out; have := HLT.out; omega, HTe.out⟩
    ·as_aux_lemma =>
      have y4 : ¬ (i : Int) < (na : Int) := by omega
      have HK1 := zH (show (k : Int) = 1 from by
       have h1 := HC1.out
       have h2 := HCK.out
       rw [List.take_of_length_le (by rw [HLEN.out]; omega), h1] at h2
       omega)
      clear hlt
      go_upto_region 9 with fail
      refine wp_region_lit ?_
      refine nM (.int .i64 (i : Int)) ?_;simp only [zz];refine nR (.pointer (some ⟨ga, 1, none⟩)) (xF 0 1) ?_;simp only [zz];refine nR (.slice Aa na ca) (xL (HBA.out.cell 1)) ?_;simp only [zz];refine nR (.int .i64 (na : Int)) (gx_len rfl rfl Tryz.underlying27) ?_;simp only [zz];refine nR (.bool false) (ix_lss rfl rfl rfl (decide_eq_false y4)) ?_;simp only [zz]
      go_upto_region 16 with fail
      refine wp_region_lit ?_
      refine nM (.int .i64 0) ?_;simp only [zz];refine nR (.bool true) (ix_eql rfl rfl rfl (by decide)) ?_;simp only [zz];refine nM (.bool true) ?_;simp only [zz];refine wM (.bool true) ?_;simp only [zz];refine nR (.bool true) (ix_pickT rfl rfl rfl) ?_;simp only [zz];refine nM (.bool true) ?_;simp only [zz];refine wM (.int .i64 (k : Int)) ?_;simp only [zz];refine wS (.bool true) (ix_eql rfl rfl rfl (decide_eq_true HK1.out)) ?_;simp only [zz];refine nR (.bool true) (ix_pickT rfl rfl rfl) ?_;simp only [zz];refine nM (.bool true) ?_;simp only [zz];refine wS (.pointer (some ⟨ga, 0, none⟩)) (xF 0 0) ?_;simp only [zz];refine wS (.int .i64 ty) (xL (HBA.out.cell 0)) ?_;simp only [zz];refine wS (.pointer (some ⟨gm, 0, none⟩)) (xF 0 0) ?_;simp only [zz];refine wS (.int .i64 ty) (xL (HBM.out.cell 0)) ?_;simp only [zz];refine wS (.bool true) (ix_eql rfl rfl rfl (decide_eq_true rfl)) ?_;simp only [zz];refine nR (.bool true) (ix_pickT rfl rfl rfl) ?_;simp only [zz];refine nA (.bool true) ?_;simp only [zz]
      go_wp2_with fail
      go_ret
      exact ⟨rfl, HTR.out⟩
theorem sessionAgain_walk {s : Sents} {code key : B8} {d m1 m2 ty : Int} {Ak A : Option Addr} {nk ck n c : Nat} {fs : List Fld} (w : World) (he : Env s w) (hk : KT w) (hkey : Key w Ak nk ck key) (hf : Mg w A n c fs) :
 Calls Tryz.prog 6 #[.agg (memC code d Ak nk ck m1 m2), msgV ty A n c] w fun e w' => e = .returned (.bool true) ∧ Below w.heap.size w w' :=
 (again_walk he hk hkey hf).mono fun e w' ⟨h1, h2⟩ => ⟨h1, h2.below (Nat.le_refl _) fun _ _ e => e⟩
end Go.Proofs.YtkagijifkpoplaaGreatDoor
