/-
  Texts in one file. Conditions: the tables and the errors read as laid.
-/
import Derived.Test.YtkagijifkpoplaaGreatDoorJT28
import Derived.Test.YtkagijifkpoplaaGreatDoorJT0
import Derived.Test.YtkagijifkpoplaaGreatDoorJT1
set_option linter.unusedVariables false
set_option linter.unusedSimpArgs false
set_option maxRecDepth 40000
set_option maxHeartbeats 20000000
namespace Go.Proofs.YtkagijifkpoplaaGreatDoor
open Go.RowKit
open Sh (Wd B8 H8)
open Fdd
set_option maxRecDepth 20000
theorem set_le (no : Int) (t : B8) (fs : List Fld) : (setM no t fs).length ≤ fs.length + 1 := by
 have h : ∀ (x : Fld) (l : List Fld), (insM x l).length = l.length + 1 := by
  intro x l
  induction l with
  | nil => rfl
  | cons y l ih => unfold insM; split <;> simp [ih]
 rw [setM, h]
 have := List.length_filter_le (fun f : Fld => f.1 != no) fs
 unfold others
 omega
theorem rSet_mg {w : World} {ty no : Int} {t : B8} {A : Option Addr} {n c : Nat} {gs : List Fld} (hf : Mg w A n c gs) (hl : gs.length ≤ 25) (ht : t.length ≤ 9223372036854775807) :
 Calls Tryz.prog 13 #[msgV ty A n c, .int .i64 no, strV t] w fun e w' => ∃ (A' : Option Addr) (n' c' : Nat), e = .returned (msgV ty A' n' c') ∧ Mg w' A' n' c' (setM no t gs) ∧ Turn nowhere w w' :=
 (rSet_walk hf.fl hf.lim).mono fun e w' h => by
  obtain ⟨A', n', c', rfl, hn, ho, htr⟩ := h
  subst hn
  have hb := set_le no t gs
  have h1 := ho.fl (by omega)
  exact ⟨A', _, c', rfl, ⟨h1.1, h1.2.2.2.2, by omega, set_txts no ht hf.tx⟩, htr⟩
def othC (no : Int) (tx : B8) (A : Option Addr) (n c : Nat) : Array Value := #[.int .i64 no, strV tx, .slice A n c]
theorem box_oth (no : Int) (tx : B8) (A : Option Addr) (n c : Nat) (w : World) : (Instr.box 40 (.agg (othC no tx A n c))).run Tryz.prog w = .ok (.pointer (some ⟨w.heap.size, 0, none⟩)) (w.alloc (.cells (othC no tx A n c) 40)) := by
 simp [Instr.box, newVar, newRow, Result.andThen, Value.cells]
theorem build_mem3 (code : B8) (d : Int) (A : Option Addr) (n c : Nat) (W : World) : (Instr.build 26 #[(0, strV code), (1, .int .i64 d), (2, .slice A n c)]).run Tryz.prog W = .ok (.agg (memC code d A n c 0 0)) W := by kernel_rfl
theorem holds_walk {s : Sents} {w : World} {code key : B8} {d m1 m2 ty : Int} {Ak A : Option Addr} {nk ck n c : Nat} {fs : List Fld} (he : Env s w) (hk : KT w) (hkey : Key w Ak nk ck key) (hf : Mg w A n c fs) {no : Int} {tx ko : B8} {Ao : Option Addr} {np cp : Nat} (hko : Key w Ao np cp ko) (htx : tx.length ≤ 9223372036854775807) :
 Calls Tryz.prog 4 #[.agg (memC code d Ak nk ck m1 m2), msgV ty A n c, .agg (othC no tx Ao np cp)] w fun e w' => e = .returned (.bool true) ∧ Turn nowhere w w' := by
 have HE := zH he
 have HK := zH hk
 have HKEY := zH hkey
 have HMG := zH hf
 have HKO := zH hko
 have HTX := zH htx
 clear he hk hkey hf hko htx
 go_enter Tryz.func4, Tryz.ntmps4
 go_upto_region 0 with fail
 refine wp_region_lit ?_
 refine wR (v := .pointer (some ⟨(w).heap.size, 0, none⟩)) (w' := (w).alloc (.cells (memC code d Ak nk ck m1 m2) 26)) wn (gx_box rfl rfl (box_mem _ _ _ _ _ _ _ _)) ?_
 simp only [zz]
 refine wR (v := .pointer (some ⟨((w).alloc (.cells (memC code d Ak nk ck m1 m2) 26)).heap.size, 0, none⟩)) (w' := ((w).alloc (.cells (memC code d Ak nk ck m1 m2) 26)).alloc (.cells #[.int .i64 ty, .slice A n c] 29)) wn (gx_box rfl rfl (box_mg _ _ _ _ _)) ?_
 simp only [zz]
 refine wR (v := .pointer (some ⟨(((w).alloc (.cells (memC code d Ak nk ck m1 m2) 26)).alloc (.cells #[.int .i64 ty, .slice A n c] 29)).heap.size, 0, none⟩)) (w' := (((w).alloc (.cells (memC code d Ak nk ck m1 m2) 26)).alloc (.cells #[.int .i64 ty, .slice A n c] 29)).alloc (.cells (othC no tx Ao np cp) 40)) wn (gx_box rfl rfl (box_oth _ _ _ _ _ _)) ?_
 simp only [zz];refine nA (.bool false) ?_;simp only [zz]
 have hb_p := ((Blk.new (w) 26 (memC code d Ak nk ck m1 m2)).alloc (.cells #[.int .i64 ty, .slice A n c] 29)).alloc (.cells (othC no tx Ao np cp) 40)
 have hb_gm := (Blk.new ((w).alloc (.cells (memC code d Ak nk ck m1 m2) 26)) 29 #[.int .i64 ty, .slice A n c]).alloc (.cells (othC no tx Ao np cp) 40)
 have hb_go := Blk.new (((w).alloc (.cells (memC code d Ak nk ck m1 m2) 26)).alloc (.cells #[.int .i64 ty, .slice A n c] 29)) 40 (othC no tx Ao np cp)
 have ht_ := (((Turn.refl nowhere (w)).alloc (.cells (memC code d Ak nk ck m1 m2) 26)).alloc (.cells #[.int .i64 ty, .slice A n c] 29)).alloc (.cells (othC no tx Ao np cp) 40)
 obtain ⟨n0_, hn0_⟩ : ∃ n, n = (w).heap.size := ⟨_, rfl⟩
 have hz_p : (w).heap.size = n0_ + 0 := by rw [hn0_]; simp
 have hz_gm : ((w).alloc (.cells (memC code d Ak nk ck m1 m2) 26)).heap.size = n0_ + 1 := by rw [hn0_]; simp
 have hz_go : (((w).alloc (.cells (memC code d Ak nk ck m1 m2) 26)).alloc (.cells #[.int .i64 ty, .slice A n c] 29)).heap.size = n0_ + 2 := by rw [hn0_]; simp
 obtain ⟨go, hg_⟩ : ∃ g, g = (((w).alloc (.cells (memC code d Ak nk ck m1 m2) 26)).alloc (.cells #[.int .i64 ty, .slice A n c] 29)).heap.size := ⟨_, rfl⟩
 rw [← hg_] at hb_go hz_go ⊢
 clear hg_
 obtain ⟨gm, hg_⟩ : ∃ g, g = ((w).alloc (.cells (memC code d Ak nk ck m1 m2) 26)).heap.size := ⟨_, rfl⟩
 rw [← hg_] at hb_gm hz_gm ⊢
 clear hg_
 obtain ⟨p, hg_⟩ : ∃ g, g = (w).heap.size := ⟨_, rfl⟩
 rw [← hg_] at hb_p hz_p ⊢
 clear hg_
 generalize (((w).alloc (.cells (memC code d Ak nk ck m1 m2) 26)).alloc (.cells #[.int .i64 ty, .slice A n c] 29)).alloc (.cells (othC no tx Ao np cp) 40) = w1 at *
 have HT1 := zH ht_
 clear ht_
 have HBp := zH hb_p
 have HLp := zH (show (w).heap.size ≤ p from by omega)
 clear hb_p
 have HBgm := zH hb_gm
 have HLgm := zH (show (w).heap.size ≤ gm from by omega)
 clear hb_gm
 have HBgo := zH hb_go
 have HLgo := zH (show (w).heap.size ≤ go from by omega)
 clear hb_go
 have HNpgm := zH (show p ≠ gm from by omega)
 have HNpgo := zH (show p ≠ go from by omega)
 have HNgmgo := zH (show gm ≠ go from by omega)
 clear hn0_ hz_p hz_gm hz_go
 clear n0_
 go_upto_region 1 with fail
 refine wp_region_lit ?_
 refine wpList_op_g rfl fun K9 HK9 => ?_
 go_wp2_with fail
 refine (sshown_walk w1 (HE.out.turn HT1.out) (HK.out.turn HT1.out)).mono ?_
 rintro e w2 ⟨rfl, ht⟩
 refine HK9.out _ _ ?_
 clear HK9
 try simp only [zz]
 have HT2 := zH (HT1.out.trans ht fun _ _ e => e)
 have HBp2 := zH (HBp.out.turn ht fun e => e)
 have HBm2 := zH (HBgm.out.turn ht fun e => e)
 have HBo2 := zH (HBgo.out.turn ht fun e => e)
 clear HT1 HBp HBgm HBgo ht
 refine nA (.bool true) ?_;simp only [zz]
 go_upto_region 2 with fail
 refine wp_region_lit ?_
 refine nR (.agg (memC code d Ak nk ck m1 m2)) (gx_loads_g rfl rfl (blk_range_g HBp2.out) Tryz.underlying26 rfl (by rw [size_mem]; rfl)) ?_;simp only [zz];refine nR (msgV ty A n c) (gx_loads_g rfl rfl (blk_range_g HBm2.out) Tryz.underlying29 rfl (by rw [size_mg]; rfl)) ?_;simp only [zz]
 cases hR : macR d ty key fs with
 | error k =>
   as_aux_lemma =>
    have HR := zH hR
    clear hR
    refine wpList_op_g rfl fun K9 HK9 => ?_
    go_wp2_with fail
    refine (Seal_err (m1 := m1) (m2 := m2) (code := code) (HE.out.turn HT2.out) (HK.out.turn HT2.out) (HKEY.out.still HT2.out) (HMG.out.still HT2.out) HR.out).mono ?_
    rintro e w3 ⟨rfl, ht⟩
    refine HK9.out _ _ ?_
    clear HK9
    try simp only [zz]
    have HT3 := zH (HT2.out.trans ht fun _ _ e => e)
    clear ht HBp2 HBm2 HBo2 HT2
    have HKZ := zH (macR_nz HR.out)
    refine nM (.tuple #[msgV 0 none 0 0, .int .i64 k]) ?_;simp only [zz];refine nE (msgV 0 none 0 0) ?_;simp only [zz];refine nE (.int .i64 k) ?_;simp only [zz]
    refine wR (v := .pointer (some ⟨w3.heap.size, 0, none⟩)) (w' := w3.alloc (.cells #[.int .i64 0, .slice none 0 0] 29)) wn (gx_alloc rfl (zero_mg _)) ?_
    simp only [zz]
    have hb_ := Blk.new w3 29 #[.int .i64 0, .slice none 0 0]
    have ht_ := (Turn.refl nowhere w3).alloc (.cells #[.int .i64 0, .slice none 0 0] 29)
    obtain ⟨ga, hg_⟩ : ∃ g, g = w3.heap.size := ⟨_, rfl⟩
    rw [← hg_] at hb_ ⊢
    have HLga := zH (show w3.heap.size ≤ ga from by omega)
    clear hg_
    generalize w3.alloc (.cells #[.int .i64 0, .slice none 0 0] 29) = w3a at *
    have HBga := zH hb_
    have HAga := zH ht_
    clear hb_ ht_
    refine wpList_store_row wn 29 (.tmp 8) (.tmp 20) rfl (#[.int .i64 0, .slice none 0 0]) HBga.out rfl rfl (rfl) (by rw [size_mg] <;> rfl) (mg_one _ _ _ _) ?_
    intro w3b hb_ ht_
    have HBga1 := zH hb_
    have HCga := zH ht_
    clear hb_ ht_
    simp only [zz]
    have HDga := zH (HAga.out.trans HCga.out fun k' hk e => by have := HLga.out; have e : k' = ga := e; omega)
    clear HAga HCga HBga
    have HT4 := zH (HT3.out.trans HDga.out fun _ _ e => e)
    clear HT3 HDga HBga1
    refine nA (.int .i64 k) ?_;simp only [zz]
    go_upto_region 3 with fail
    refine wp_region_lit ?_
    refine nM (.bool true) ?_;simp only [zz];refine nR (.bool false) (ix_not (b := true) rfl rfl) ?_;simp only [zz];refine nM (.bool false) ?_;simp only [zz];refine wM (.int .i64 k) ?_;simp only [zz];refine wS (.bool true) (ix_neq rfl rfl rfl (decide_eq_true HKZ.out)) ?_;simp only [zz];refine nR (.bool true) (ix_pickF rfl rfl rfl) ?_;simp only [zz]
    go_upto_region 4 with fail
    refine wp_region_lit ?_
    refine nM (.bool true) ?_;simp only [zz];refine nA (.bool true) ?_;simp only [zz]
    go_wp2_with fail
    go_ret
    exact ⟨rfl, HT4.out⟩
 | ok t =>
   as_aux_lemma =>
    have HR := zH hR
    clear hR
    refine wpList_op_g rfl fun K9 HK9 => ?_
    go_wp2_with fail
    refine (Seal_ok (m1 := m1) (m2 := m2) (code := code) (HE.out.turn HT2.out) (HK.out.turn HT2.out) (HKEY.out.still HT2.out) (HMG.out.still HT2.out) HR.out).mono ?_
    rintro e w3 ⟨Aa, na, ca, rfl, hg, ht⟩
    refine HK9.out _ _ ?_
    clear HK9
    try simp only [zz]
    have HCZ := zH (chk_ok ((macR_set d ty key t fs).trans HR.out) (get_set 64 t fs))
    have HN5 := zH (show (setM 64 t fs).length ≤ 25 from by rw [set_len]; have := (macR_facts HR.out).1; omega)
    generalize setM 64 t fs = gs at hg HCZ HN5
    have HG3 := zH hg
    clear hg
    have HTs3 := zH (HT2.out.trans ht fun _ _ e => e)
    have HBp3 := zH (HBp2.out.turn ht fun e => e)
    have HBm3 := zH (HBm2.out.turn ht fun e => e)
    have HBo3 := zH (HBo2.out.turn ht fun e => e)
    clear HT2 HBp2 HBm2 HBo2 ht
    refine nM (.tuple #[msgV ty Aa na ca, .int .i64 0]) ?_;simp only [zz];refine nE (msgV ty Aa na ca) ?_;simp only [zz];refine nE (.int .i64 0) ?_;simp only [zz]
    refine wR (v := .pointer (some ⟨w3.heap.size, 0, none⟩)) (w' := w3.alloc (.cells #[.int .i64 0, .slice none 0 0] 29)) wn (gx_alloc rfl (zero_mg _)) ?_
    simp only [zz]
    have hb_ := Blk.new w3 29 #[.int .i64 0, .slice none 0 0]
    have ht_ := (Turn.refl nowhere w3).alloc (.cells #[.int .i64 0, .slice none 0 0] 29)
    obtain ⟨ga, hg_⟩ : ∃ g, g = w3.heap.size := ⟨_, rfl⟩
    rw [← hg_] at hb_ ⊢
    have HLga := zH (show w3.heap.size ≤ ga from by omega)
    clear hg_
    generalize w3.alloc (.cells #[.int .i64 0, .slice none 0 0] 29) = w3a at *
    have HBga := zH hb_
    have HAga := zH ht_
    clear hb_ ht_
    refine wpList_store_row wn 29 (.tmp 8) (.tmp 20) rfl (#[.int .i64 ty, .slice Aa na ca]) HBga.out rfl rfl (rfl) (by rw [size_mg] <;> rfl) (mg_one _ _ _ _) ?_
    intro w3b hb_ ht_
    have HBga1 := zH hb_
    have HCga := zH ht_
    clear hb_ ht_
    simp only [zz]
    have HDga := zH (HAga.out.trans HCga.out fun k' hk e => by have := HLga.out; have e : k' = ga := e; omega)
    clear HAga HCga HBga
    have HT4 := zH (HTs3.out.trans HDga.out fun _ _ e => e)
    have HBp4 := zH (HBp3.out.turn HDga.out fun e => e)
    have HBo4 := zH (HBo3.out.turn HDga.out fun e => e)
    have HG4 := zH (HG3.out.still HDga.out)
    clear HTs3 HBp3 HBo3 HG3 HDga HBm3
    refine nA (.int .i64 0) ?_;simp only [zz]
    go_upto_region 3 with fail
    refine wp_region_lit ?_
    refine nM (.bool true) ?_;simp only [zz];refine nR (.bool false) (ix_not (b := true) rfl rfl) ?_;simp only [zz];refine nM (.bool false) ?_;simp only [zz];refine wM (.int .i64 0) ?_;simp only [zz];refine wS (.bool false) (ix_neq rfl rfl rfl (by decide)) ?_;simp only [zz];refine nR (.bool false) (ix_pickF rfl rfl rfl) ?_;simp only [zz]
    go_upto_region 5 with fail
    refine wp_region_lit ?_
    refine nR (.agg (memC code d Ak nk ck m1 m2)) (gx_loads_g rfl rfl (blk_range_g HBp4.out) Tryz.underlying26 rfl (by rw [size_mem]; rfl)) ?_;simp only [zz];refine nR (msgV ty Aa na ca) (gx_loads_g rfl rfl (blk_range_g HBga1.out) Tryz.underlying29 rfl (by rw [size_mg]; rfl)) ?_;simp only [zz]
    refine wpList_op_g rfl fun K9 HK9 => ?_
    go_wp2_with fail
    refine (SCheck_walk (m1 := m1) (m2 := m2) (code := code) (HE.out.turn HT4.out) (HK.out.turn HT4.out) (HKEY.out.still HT4.out) HG4.out).mono ?_
    rintro e w5 ⟨rfl, ht⟩
    refine HK9.out _ _ ?_
    clear HK9
    try simp only [zz]
    rw [HCZ.out]
    have HT5 := zH (HT4.out.trans ht fun _ _ e => e)
    have HBp5 := zH (HBp4.out.turn ht fun e => e)
    have HBo5 := zH (HBo4.out.turn ht fun e => e)
    have HBa5 := zH (HBga1.out.turn ht fun e => e)
    have HG5 := zH (HG4.out.still ht)
    clear HT4 HBp4 HBo4 HBga1 HG4 ht
    refine nA (.int .i64 0) ?_;simp only [zz]
    go_upto_region 6 with fail
    refine wp_region_lit ?_
    refine nM (.int .i64 0) ?_;simp only [zz];refine nR (.bool false) (ix_neq rfl rfl rfl (by decide)) ?_;simp only [zz]
    go_upto_region 8 with fail
    refine wp_region_lit ?_
    refine nR (msgV ty Aa na ca) (gx_loads_g rfl rfl (blk_range_g HBa5.out) Tryz.underlying29 rfl (by rw [size_mg]; rfl)) ?_;simp only [zz];refine nR (.pointer (some ⟨go, 0, none⟩)) (xF 0 0) ?_;simp only [zz];refine nR (.pointer (some ⟨go, 0, none⟩)) (xF 0 0) ?_;simp only [zz];refine nR (.int .i64 no) (xL (HBo5.out.cell 0)) ?_;simp only [zz];refine nR (.pointer (some ⟨go, 0, none⟩)) (xF 0 0) ?_;simp only [zz];refine nR (.pointer (some ⟨go, 1, none⟩)) (xF 0 1) ?_;simp only [zz];refine nR (strV tx) (xL (HBo5.out.cell 1)) ?_;simp only [zz]
    refine wpList_op_g rfl fun K9 HK9 => ?_
    go_wp2_with fail
    refine (rSet_mg HG5.out HN5.out HTX.out).mono ?_
    rintro e w6 ⟨At, nt, ct, rfl, hg, ht⟩
    refine HK9.out _ _ ?_
    clear HK9
    try simp only [zz]
    have HU6 := zH hg
    clear hg
    have HTs6 := zH (HT5.out.trans ht fun _ _ e => e)
    have HBp6 := zH (HBp5.out.turn ht fun e => e)
    have HBo6 := zH (HBo5.out.turn ht fun e => e)
    have HBa6 := zH (HBa5.out.turn ht fun e => e)
    have HG6 := zH (HG5.out.still ht)
    clear HT5 HBp5 HBo5 HBa5 HG5 ht
    refine wR (v := .pointer (some ⟨w6.heap.size, 0, none⟩)) (w' := w6.alloc (.cells #[.int .i64 0, .slice none 0 0] 29)) wn (gx_alloc rfl (zero_mg _)) ?_
    simp only [zz]
    have hb_ := Blk.new w6 29 #[.int .i64 0, .slice none 0 0]
    have ht_ := (Turn.refl nowhere w6).alloc (.cells #[.int .i64 0, .slice none 0 0] 29)
    obtain ⟨gt, hg_⟩ : ∃ g, g = w6.heap.size := ⟨_, rfl⟩
    rw [← hg_] at hb_ ⊢
    have HLgt := zH (show w6.heap.size ≤ gt from by omega)
    clear hg_
    generalize w6.alloc (.cells #[.int .i64 0, .slice none 0 0] 29) = w6a at *
    have HBgt := zH hb_
    have HAgt := zH ht_
    clear hb_ ht_
    refine wpList_store_row wn 29 (.tmp 11) (.tmp 41) rfl (#[.int .i64 ty, .slice At nt ct]) HBgt.out rfl rfl (rfl) (by rw [size_mg] <;> rfl) (mg_one _ _ _ _) ?_
    intro w6b hb_ ht_
    have HBgt1 := zH hb_
    have HCgt := zH ht_
    clear hb_ ht_
    simp only [zz]
    have HDgt := zH (HAgt.out.trans HCgt.out fun k' hk e => by have := HLgt.out; have e : k' = gt := e; omega)
    clear HAgt HCgt HBgt
    have HT7 := zH (HTs6.out.trans HDgt.out fun _ _ e => e)
    have HBp7 := zH (HBp6.out.turn HDgt.out fun e => e)
    have HBo7 := zH (HBo6.out.turn HDgt.out fun e => e)
    have HBa7 := zH (HBa6.out.turn HDgt.out fun e => e)
    have HG7 := zH (HG6.out.still HDgt.out)
    have HU7 := zH (HU6.out.still HDgt.out)
    clear HTs6 HBp6 HBo6 HBa6 HG6 HU6 HDgt
    go_upto_region 9 with fail
    refine wp_region_lit ?_
    refine nR (.pointer (some ⟨p, 0, none⟩)) (xF 0 0) ?_;simp only [zz];refine nR (strV code) (xL (HBp7.out.cell 0)) ?_;simp only [zz];refine nR (.pointer (some ⟨p, 1, none⟩)) (xF 0 1) ?_;simp only [zz];refine nR (.int .i64 d) (xL (HBp7.out.cell 1)) ?_;simp only [zz];refine nR (.pointer (some ⟨go, 2, none⟩)) (xF 0 2) ?_;simp only [zz];refine nR (.slice Ao np cp) (xL (HBo7.out.cell 2)) ?_;simp only [zz];refine nR (.agg (memC code d Ao np cp 0 0)) (exec_build3 rfl rfl rfl rfl (build_mem3 _ _ _ _ _ _)) ?_;simp only [zz]
    refine wR (v := .pointer (some ⟨w6b.heap.size, 0, none⟩)) (w' := w6b.alloc (.cells (memC [] 0 none 0 0 0 0) 26)) wn (gx_alloc rfl (zero_mem _)) ?_
    simp only [zz]
    have hb_ := Blk.new w6b 26 (memC [] 0 none 0 0 0 0)
    have ht_ := (Turn.refl nowhere w6b).alloc (.cells (memC [] 0 none 0 0 0 0) 26)
    obtain ⟨gn, hg_⟩ : ∃ g, g = w6b.heap.size := ⟨_, rfl⟩
    rw [← hg_] at hb_ ⊢
    have HLgn := zH (show w6b.heap.size ≤ gn from by omega)
    clear hg_
    generalize w6b.alloc (.cells (memC [] 0 none 0 0 0 0) 26) = w8a at *
    have HBgn := zH hb_
    have HAgn := zH ht_
    clear hb_ ht_
    refine wpList_store_row wn 26 (.tmp 12) (.tmp 48) rfl ((memC code d Ao np cp 0 0)) HBgn.out rfl rfl (rfl) (by rw [size_mem] <;> rfl) (memC_one _ _ _ _ _ _ _) ?_
    intro w8 hb_ ht_
    have HBgn1 := zH hb_
    have HCgn := zH ht_
    clear hb_ ht_
    simp only [zz]
    have HDgn := zH (HAgn.out.trans HCgn.out fun k' hk e => by have := HLgn.out; have e : k' = gn := e; omega)
    clear HAgn HCgn HBgn
    have HT8 := zH (HT7.out.trans HDgn.out fun _ _ e => e)
    have HBp8 := zH (HBp7.out.turn HDgn.out fun e => e)
    have HBa8 := zH (HBa7.out.turn HDgn.out fun e => e)
    have HBt8 := zH (HBgt1.out.turn HDgn.out fun e => e)
    have HG8 := zH (HG7.out.still HDgn.out)
    have HU8 := zH (HU7.out.still HDgn.out)
    clear HT7 HBp7 HBa7 HBgt1 HG7 HU7 HDgn HBo7
    obtain ⟨X, hX⟩ : ∃ X, chkR (macR d ty key (setM no tx gs)) (setM no tx gs) = X := ⟨_, rfl⟩
    have HX := zH hX
    clear hX
    obtain ⟨Y, hY⟩ : ∃ Y, chkR (macR d ty ko gs) gs = Y := ⟨_, rfl⟩
    have HY := zH hY
    clear hY
    go_upto_region 10 with fail
    refine wp_region_lit ?_
    refine nR (.agg (memC code d Ak nk ck m1 m2)) (gx_loads_g rfl rfl (blk_range_g HBp8.out) Tryz.underlying26 rfl (by rw [size_mem]; rfl)) ?_;simp only [zz];refine nR (msgV ty At nt ct) (gx_loads_g rfl rfl (blk_range_g HBt8.out) Tryz.underlying29 rfl (by rw [size_mg]; rfl)) ?_;simp only [zz]
    refine wpList_op_g rfl fun K9 HK9 => ?_
    go_wp2_with fail
    refine (SCheck_walk (m1 := m1) (m2 := m2) (code := code) (HE.out.turn HT8.out) (HK.out.turn HT8.out) (HKEY.out.still HT8.out) HU8.out).mono ?_
    rintro e w9 ⟨rfl, ht⟩
    refine HK9.out _ _ ?_
    clear HK9
    try simp only [zz]
    rw [HX.out]
    have HT9 := zH (HT8.out.trans ht fun _ _ e => e)
    have HBp9 := zH (HBp8.out.turn ht fun e => e)
    have HBa9 := zH (HBa8.out.turn ht fun e => e)
    have HBt9 := zH (HBt8.out.turn ht fun e => e)
    have HBn9 := zH (HBgn1.out.turn ht fun e => e)
    have HG9 := zH (HG8.out.still ht)
    have HU9 := zH (HU8.out.still ht)
    clear HT8 HBp8 HBa8 HBt8 HBgn1 HG8 HU8 ht
    refine nA (.int .i64 X) ?_;simp only [zz]
    go_upto_region 11 with fail
    refine wp_region_lit ?_
    refine nR (.agg (memC code d Ao np cp 0 0)) (gx_loads_g rfl rfl (blk_range_g HBn9.out) Tryz.underlying26 rfl (by rw [size_mem]; rfl)) ?_;simp only [zz];refine nR (msgV ty Aa na ca) (gx_loads_g rfl rfl (blk_range_g HBa9.out) Tryz.underlying29 rfl (by rw [size_mg]; rfl)) ?_;simp only [zz]
    refine wpList_op_g rfl fun K9 HK9 => ?_
    go_wp2_with fail
    refine (SCheck_walk (m1 := 0) (m2 := 0) (code := code) (HE.out.turn HT9.out) (HK.out.turn HT9.out) (HKO.out.still HT9.out) HG9.out).mono ?_
    rintro e w10 ⟨rfl, ht⟩
    refine HK9.out _ _ ?_
    clear HK9
    try simp only [zz]
    rw [HY.out]
    have HT10 := zH (HT9.out.trans ht fun _ _ e => e)
    have HBp10 := zH (HBp9.out.turn ht fun e => e)
    have HBa10 := zH (HBa9.out.turn ht fun e => e)
    have HBt10 := zH (HBt9.out.turn ht fun e => e)
    have HBn10 := zH (HBn9.out.turn ht fun e => e)
    have HG10 := zH (HG9.out.still ht)
    have HU10 := zH (HU9.out.still ht)
    clear HT9 HBp9 HBa9 HBt9 HBn9 HG9 HU9 ht
    refine nA (.int .i64 Y) ?_;simp only [zz]
    go_upto_region 12 with fail
    refine wp_region_lit ?_
    refine nM (.int .i64 X) ?_;simp only [zz];refine nR (.agg (memC code d Ak nk ck m1 m2)) (gx_loads_g rfl rfl (blk_range_g HBp10.out) Tryz.underlying26 rfl (by rw [size_mem]; rfl)) ?_;simp only [zz];refine nR (msgV ty At nt ct) (gx_loads_g rfl rfl (blk_range_g HBt10.out) Tryz.underlying29 rfl (by rw [size_mg]; rfl)) ?_;simp only [zz]
    refine wpList_op_g rfl fun K9 HK9 => ?_
    go_wp2_with fail
    refine (rSCheck_walk (m1 := m1) (m2 := m2) (code := code) (HKEY.out.still HT10.out) HU10.out).mono ?_
    rintro e w11 ⟨rfl, ht⟩
    refine HK9.out _ _ ?_
    clear HK9
    try simp only [zz]
    rw [HX.out]
    have HT11 := zH (HT10.out.trans ht fun _ _ e => e)
    have HBa11 := zH (HBa10.out.turn ht fun e => e)
    have HBn11 := zH (HBn10.out.turn ht fun e => e)
    have HG11 := zH (HG10.out.still ht)
    clear HT10 HBa10 HBn10 HG10 ht HBp10 HBt10 HU10
    refine nR (.bool true) (ix_eql rfl rfl rfl (decide_eq_true rfl)) ?_;simp only [zz];refine nM (.bool true) ?_;simp only [zz];refine wM (.int .i64 Y) ?_;simp only [zz];refine wS (.agg (memC code d Ao np cp 0 0)) (gx_loads_g rfl rfl (blk_range_g HBn11.out) Tryz.underlying26 rfl (by rw [size_mem]; rfl)) ?_;simp only [zz];refine wS (msgV ty Aa na ca) (gx_loads_g rfl rfl (blk_range_g HBa11.out) Tryz.underlying29 rfl (by rw [size_mg]; rfl)) ?_;simp only [zz]
    refine wpList_op_g rfl fun K9 HK9 => ?_
    go_wp2_with fail
    refine (rSCheck_walk (m1 := 0) (m2 := 0) (code := code) (HKO.out.still HT11.out) HG11.out).mono ?_
    rintro e w12 ⟨rfl, ht⟩
    refine HK9.out _ _ ?_
    clear HK9
    try simp only [zz]
    rw [HY.out]
    have HT12 := zH (HT11.out.trans ht fun _ _ e => e)
    clear ht
    refine wS (.bool true) (ix_eql rfl rfl rfl (decide_eq_true rfl)) ?_;simp only [zz];refine nR (.bool true) (ix_pickT rfl rfl rfl) ?_;simp only [zz];refine nA (.bool true) ?_;simp only [zz]
    go_wp2_with fail
    go_ret
    exact ⟨rfl, HT12.out⟩
open Go.ChangeShapes Go.WideShapes Go.Deep Go.ChangeAt
section
variable {H : Type} {enc : TypeId × Value → H} {W : World} {base : Nat} {held : Bool}
theorem fld_of1 {m : Nat} {a b : Value} {z : DataW H × List MemPlace} (h : DataW.trod enc Tryz.prog W base (fun _ => true) held m 38 [a, b] = some z) : ∃ (x : Int) (t : B8), a = .int .i64 x ∧ b = strV t ∧ t.length ≤ 9223372036854775807 := by
 obtain ⟨hl, m, hf⟩ := open_flds Tryz.underlying38 (by kernel_rfl) (by kernel_rfl) h
 obtain ⟨c0, z0, e0, t0⟩ := hf 0 _ rfl
 obtain ⟨c1, z1, e1, t1⟩ := hf 1 _ rfl
 obtain ⟨x, ex, _, _⟩ := DataW.trod_int Tryz.underlying3 t0
 obtain ⟨s, es, _, ws⟩ := DataW.trod_string Tryz.underlying9 t1
 injection ex with ex
 injection es with es
 refine ⟨x, s.data.toList, ?_, ?_, ?_⟩
 ·rw [← ex]; simpa using e0
 ·have e2 : b = .string s := by rw [← es]; simpa using e1
  rw [e2]
  rfl
 ·have h9 : s.data.toList.length ≤ maxLen := ws
  unfold maxLen at h9
  omega
theorem other_of {r : Reach} {b0 : Nat} {v : Value} {d : DataW H} {p : List MemPlace} (hv : Value.okWide Tryz.prog W r b0 40 v) (h : DataW.Trod enc Tryz.prog W base (fun _ => true) held 40 v d p) (hw : ∀ q ∈ d.weights Tryz.prog 40, q ≤ reachBytes) :
 ∃ no tx A n c k, v = .agg (othC no tx A n c) ∧ Key W A n c k ∧ tx.length ≤ 9223372036854775807 := by
 obtain ⟨cs, rfl, hsz⟩ := okWide_struct Tryz.underlying40 hv
 obtain ⟨fuel, hf⟩ := h
 have hf : DataW.trod enc Tryz.prog W base (fun _ => true) held fuel 40 cs.toList = some (d, p) := hf
 obtain ⟨hl, m, hf⟩ := open_fldsN (k := 3) Tryz.underlying40 (by kernel_rfl) hf
 obtain ⟨z0, t0, q0⟩ := hf 0 _ 0 2 rfl (by kernel_rfl) (by kernel_rfl)
 obtain ⟨z1, t1, q1⟩ := hf 1 _ 2 1 rfl (by kernel_rfl) (by kernel_rfl)
 obtain ⟨l⟩ := cs
 have hl : l.length = 3 := hl
 match l, hl with
 | [a0, a1, a2], _ =>
   have t0 : DataW.trod enc Tryz.prog W base (fun _ => true) held m 38 [a0, a1] = some z0 := t0
   have t1 : DataW.trod enc Tryz.prog W base (fun _ => true) held m 22 [a2] = some z1 := t1
   obtain ⟨x, t, rfl, rfl, ht⟩ := fld_of1 t0
   obtain ⟨A, n, c, k, rfl, hk⟩ := key_of t1 fun q hq => hw q (q1 q hq)
   exact ⟨x, t, A, n, c, k, rfl, hk, ht⟩
end
theorem sessionHolds_walk {s : Sents} {code key : B8} {d m1 m2 ty : Int} {Ak A : Option Addr} {nk ck n c : Nat} {fs : List Fld} {no : Int} {tx ko : B8} {Ao : Option Addr} {np cp : Nat} (w : World) (he : Env s w) (hk : KT w) (hkey : Key w Ak nk ck key) (hf : Mg w A n c fs) (hko : Key w Ao np cp ko) (htx : tx.length ≤ 9223372036854775807) :
 Calls Tryz.prog 4 #[.agg (memC code d Ak nk ck m1 m2), msgV ty A n c, .agg (othC no tx Ao np cp)] w fun e w' => e = .returned (.bool true) ∧ Below w.heap.size w w' :=
 (holds_walk he hk hkey hf hko htx).mono fun e w' ⟨h1, h2⟩ => ⟨h1, h2.below (Nat.le_refl _) fun _ _ e => e⟩
end Go.Proofs.YtkagijifkpoplaaGreatDoor
