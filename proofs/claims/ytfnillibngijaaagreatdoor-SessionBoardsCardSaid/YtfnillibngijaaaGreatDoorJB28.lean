/-
  Texts in one file: SsC. Conditions: the tables and the errors read as the program's text lays them.
-/
import Derived.Test.YtfnillibngijaaaGreatDoorJB27
import Derived.Test.YtfnillibngijaaaGreatDoorJB22
import Derived.Test.YtfnillibngijaaaGreatDoorJB25
import Derived.Test.YtfnillibngijaaaGreatDoorJB24
namespace Go.Proofs.YtfnillibngijaaaGreatDoor
open Go.RowKit
open Sh (Wd B8 H8)
open Fdd
set_option linter.unusedVariables false
set_option linter.unusedSimpArgs false
set_option maxRecDepth 20000
/-- a member's cells -/
def memC (code : B8) (d : Int) (Ak : Option Addr) (nk ck : Nat) (m1 m2 : Int) : Array Value := #[strV code, .int .i64 d, .slice Ak nk ck, .int .i64 m1, .int .i64 m2]
theorem memC_one (code : B8) (d : Int) (Ak : Option Addr) (nk ck : Nat) (m1 m2 : Int) : ∀ v ∈ (memC code d Ak nk ck m1 m2).toList, v.oneCell' = true := fun v hv => by
  simp only [memC, List.mem_cons, List.not_mem_nil, or_false] at hv
  rcases hv with rfl | rfl | rfl | rfl | rfl <;> rfl
theorem size_mem : (Tryz.prog.info? 46).map (·.size) = some 5 := by kernel_rfl
theorem box_mem (code : B8) (d : Int) (Ak : Option Addr) (nk ck : Nat) (m1 m2 : Int) (w : World) : (Instr.box 46 (.agg (memC code d Ak nk ck m1 m2))).run Tryz.prog w = .ok (.pointer (some ⟨w.heap.size, 0, none⟩)) (w.alloc (.cells (memC code d Ak nk ck m1 m2) 46)) := by
  simp [Instr.box, newVar, newRow, Result.andThen, Value.cells]
/-- a key: bytes that can be read -/
structure Key (w : World) (A : Option Addr) (n c : Nat) (k : B8) : Prop where
  bs : Bs w A n k
  le : n ≤ c
  nil : A = none → c = 0
  lim : n ≤ 140737488351232
theorem Key.still {w w' : World} {A : Option Addr} {n c : Nat} {k : B8} (h : Key w A n c k) (ht : Turn nowhere w w') : Key w' A n c k := ⟨sh_still h.bs ht, h.le, h.nil, h.lim⟩
/-- a message: fields that can be read -/
structure Mg (w : World) (A : Option Addr) (n c : Nat) (fs : List Fld) : Prop where
  fl : Fl w A n fs
  nil : A = none → c = 0
  lim : n * 24 ≤ 140737488351232
  tx : Txts fs
theorem Mg.still {w w' : World} {A : Option Addr} {n c : Nat} {fs : List Fld} (h : Mg w A n c fs) (ht : Turn nowhere w w') : Mg w' A n c fs := ⟨h.fl.still ht, h.nil, h.lim, h.tx⟩
def macR (d ty : Int) (key : B8) (fs : List Fld) : Except Int B8 := match mencode d ty (bareM fs) with
  | .ok b => .ok (Sh.macT key b)
  | .error k => .error k
def txR : Except Int B8 → B8
  | .ok t => t
  | .error _ => []
theorem macR_ok {d ty : Int} {key b : B8} {fs : List Fld} (h : mencode d ty (bareM fs) = .ok b) : macR d ty key fs = .ok (Sh.macT key b) := by unfold macR; rw [h]
theorem macR_err {d ty k : Int} {key : B8} {fs : List Fld} (h : mencode d ty (bareM fs) = .error k) : macR d ty key fs = .error k := by unfold macR; rw [h]
theorem macR_nz {d ty k : Int} {key : B8} {fs : List Fld} (h : macR d ty key fs = .error k) : k ≠ 0 := by
  unfold macR at h
  split at h
  · cases h
  · rename_i k' h'
    injection h with h
    subst h
    exact mencode_err h'
theorem bare_len (fs : List Fld) : (bareM fs).length ≤ fs.length := List.length_filter_le _ _
theorem sl_hs8 (g : Nat) (W : World) : (Instr.sliceAt 71 (.pointer (some ⟨g, 0, none⟩)) none (some (.int .i64 8)) none).run Tryz.prog W = .ok (.slice (some ⟨g, 0, none⟩) 8 32) W := by kernel_rfl
set_option maxRecDepth 20000 in
set_option maxHeartbeats 4000000 in
theorem smac_walk {s : Sents} {w : World} {code key : B8} {d m1 m2 ty : Int} {Ak A : Option Addr} {nk ck n c : Nat} {fs : List Fld} (he : Env s w) (hk : KT w) (hkey : Key w Ak nk ck key) (hf : Mg w A n c fs) :
    Calls Tryz.prog 21 #[.agg (memC code d Ak nk ck m1 m2), msgV ty A n c] w fun e w' => e = .returned (.tuple #[strV (txR (macR d ty key fs)), .int .i64 (codeE (macR d ty key fs))]) ∧ Turn nowhere w w' := by
  have HE := Lib.hid he
  have HK := Lib.hid hk
  have HKEY := Lib.hid hkey
  have HF := Lib.hid hf
  clear he hk hkey hf
  go_enter Tryz.func21, Tryz.ntmps21
  go_upto_region 0 with fail
  refine wp_region_lit ?_
  refine wpList_run (v := .pointer (some ⟨(w).heap.size, 0, none⟩)) (w' := (w).alloc (.cells (memC code d Ak nk ck m1 m2) 46)) (wanted_none rfl) (gx_box rfl rfl (box_mem _ _ _ _ _ _ _ _)) ?_
  simp only [Act.put, List.setIfInBounds_toArray, List.set_cons_zero, List.set_cons_succ]
  refine wpList_run (v := .pointer (some ⟨((w).alloc (.cells (memC code d Ak nk ck m1 m2) 46)).heap.size, 0, none⟩)) (w' := ((w).alloc (.cells (memC code d Ak nk ck m1 m2) 46)).alloc (.cells #[.int .i64 ty, .slice A n c] 49)) (wanted_none rfl) (gx_box rfl rfl (box_mg _ _ _ _ _)) ?_
  simp only [Act.put, List.setIfInBounds_toArray, List.set_cons_zero, List.set_cons_succ]
  refine wpList_run (v := strV []) (wanted_none rfl) (gx_assign rfl rfl) ?_
  simp only [Act.put, List.setIfInBounds_toArray, List.set_cons_zero, List.set_cons_succ]
  refine wpList_run (v := .int .i64 0) (wanted_none rfl) (gx_assign rfl rfl) ?_
  simp only [Act.put, List.setIfInBounds_toArray, List.set_cons_zero, List.set_cons_succ]
  have hb_p := (Blk.new (w) 46 (memC code d Ak nk ck m1 m2)).alloc (.cells #[.int .i64 ty, .slice A n c] 49)
  have hb_b := Blk.new ((w).alloc (.cells (memC code d Ak nk ck m1 m2) 46)) 49 #[.int .i64 ty, .slice A n c]
  have ht_ := ((Turn.refl nowhere (w)).alloc (.cells (memC code d Ak nk ck m1 m2) 46)).alloc (.cells #[.int .i64 ty, .slice A n c] 49)
  obtain ⟨n0_, hn0_⟩ : ∃ n, n = (w).heap.size := ⟨_, rfl⟩
  have hz_p : (w).heap.size = n0_ + 0 := by rw [hn0_]; simp
  have hz_b : ((w).alloc (.cells (memC code d Ak nk ck m1 m2) 46)).heap.size = n0_ + 1 := by rw [hn0_]; simp
  obtain ⟨b, hg_⟩ : ∃ g, g = ((w).alloc (.cells (memC code d Ak nk ck m1 m2) 46)).heap.size := ⟨_, rfl⟩
  rw [← hg_] at hb_b hz_b ⊢
  clear hg_
  obtain ⟨p, hg_⟩ : ∃ g, g = (w).heap.size := ⟨_, rfl⟩
  rw [← hg_] at hb_p hz_p ⊢
  clear hg_
  generalize ((w).alloc (.cells (memC code d Ak nk ck m1 m2) 46)).alloc (.cells #[.int .i64 ty, .slice A n c] 49) = w1 at *
  have HT1 := Lib.hid ht_
  clear ht_
  have HBp := Lib.hid hb_p
  have HLp := Lib.hid (show (w).heap.size ≤ p from by omega)
  clear hb_p
  have HBb := Lib.hid hb_b
  have HLb := Lib.hid (show (w).heap.size ≤ b from by omega)
  clear hb_b
  have HNpb := Lib.hid (show p ≠ b from by omega)
  clear hn0_ hz_p hz_b
  clear n0_
  go_upto_region 1 with fail
  refine wp_region_alw (fun W => Blk W p 46 (memC code d Ak nk ck m1 m2) ∧ Blk W b 49 #[.int .i64 ty, .slice A n c]) (by kernel_rfl) ?_
  have hS0 : (fun W => Blk W p 46 (memC code d Ak nk ck m1 m2) ∧ Blk W b 49 #[.int .i64 ty, .slice A n c]) w1.drew := ⟨HBp.out.drew, HBb.out.drew⟩
  have HD := Lib.hid ((Turn.refl nowhere w1).drew)
  generalize w1.drew = wd at *
  have HTd := Lib.hid (HT1.out.trans HD.out fun _ _ e => e)
  clear HT1 HD HBb HBp
  refine alw_take (i := 0) (v := .pointer (some ⟨p, 1, none⟩)) rfl (by kernel_rfl) (by kernel_rfl) (fun _ _ _ h => h) (.inl ⟨by rfl, fun W hW => exec_field (off := 0) (d := 1) rfl rfl (by kernel_rfl)⟩) hS0 ?_
  simp only [Act.put, List.setIfInBounds_toArray, List.set_cons_zero, List.set_cons_succ]
  refine alw_take (i := 1) (v := .int .i64 d) rfl (by kernel_rfl) (by kernel_rfl) (fun _ _ _ h => h) (.inl ⟨by rfl, fun W hW => exec_load1 rfl rfl (by kernel_rfl) (hW.1.cell 1)⟩) hS0 ?_
  simp only [Act.put, List.setIfInBounds_toArray, List.set_cons_zero, List.set_cons_succ]
  refine alw_take (i := 2) (v := msgV ty A n c) rfl (by kernel_rfl) (by kernel_rfl) (fun _ _ _ h => h) (.inl ⟨by rfl, fun W hW => gx_loads_g rfl rfl (blk_range_g hW.2) Tryz.underlying49 rfl (by rw [size_mg]; rfl)⟩) hS0 ?_
  simp only [Act.put, List.setIfInBounds_toArray, List.set_cons_zero, List.set_cons_succ]
  refine alw_step (i := 3) (by kernel_rfl) rfl rfl ?_
  intro K1 HK1
  go_wp2_with fail
  refine (bare_walk (HF.out.fl.still HTd.out) HF.out.nil (by have := HF.out.lim; omega)).mono ?_
  rintro e c1 ⟨A5, c5, rfl, ho, ht⟩
  have hS1 : (fun W => Blk W p 46 (memC code d Ak nk ck m1 m2) ∧ Blk W b 49 #[.int .i64 ty, .slice A n c]) c1 := ⟨hS0.1.turn ht fun e => e, hS0.2.turn ht fun e => e⟩
  have HBA := Lib.hid (ho.fl (by have := bare_len fs; have := HF.out.fl.1; have := HF.out.lim; omega))
  have HT5 := Lib.hid (HTd.out.trans ht fun _ _ e => e)
  refine HK1.out _ _ ⟨hS1, ?_⟩
  clear HK1 ht ho hS0 HTd
  try simp only [Act.put, List.setIfInBounds_toArray, List.set_cons_zero, List.set_cons_succ]
  refine alw_step (i := 4) (by kernel_rfl) rfl rfl ?_
  intro K1 HK1
  go_wp2_with fail
  refine (Encode_walk (HE.out.turn HT5.out) HBA.out.1).mono ?_
  rintro e c2 ⟨A6, n6, c6, rfl, hox, ht⟩
  have hS2 : (fun W => Blk W p 46 (memC code d Ak nk ck m1 m2) ∧ Blk W b 49 #[.int .i64 ty, .slice A n c]) c2 := ⟨hS1.1.turn ht fun e => e, hS1.2.turn ht fun e => e⟩
  have HT6 := Lib.hid (HT5.out.trans ht fun _ _ e => e)
  have HOX := Lib.hid hox
  refine HK1.out _ _ ⟨hS2, ?_⟩
  clear HK1 ht hox hS1 HT5 HBA
  try simp only [Act.put, List.setIfInBounds_toArray, List.set_cons_zero, List.set_cons_succ]
  refine alw_take (i := 5) (v := .tuple #[.slice A6 n6 c6, .int .i64 (codeE (mencode d ty (bareM fs)))]) rfl (by kernel_rfl) (by kernel_rfl) (fun _ _ _ h => h) (.inl ⟨by rfl, fun W hW => exec_move rfl rfl⟩) hS2 ?_
  simp only [Act.put, List.setIfInBounds_toArray, List.set_cons_zero, List.set_cons_succ]
  refine alw_take (i := 6) (v := .slice A6 n6 c6) rfl (by kernel_rfl) (by kernel_rfl) (fun _ _ _ h => h) (.inl ⟨by rfl, fun W hW => ix_extract rfl rfl rfl⟩) hS2 ?_
  simp only [Act.put, List.setIfInBounds_toArray, List.set_cons_zero, List.set_cons_succ]
  refine alw_take (i := 7) (v := .int .i64 (codeE (mencode d ty (bareM fs)))) rfl (by kernel_rfl) (by kernel_rfl) (fun _ _ _ h => h) (.inl ⟨by rfl, fun W hW => ix_extract rfl rfl rfl⟩) hS2 ?_
  simp only [Act.put, List.setIfInBounds_toArray, List.set_cons_zero, List.set_cons_succ]
  refine alw_take (i := 8) (v := .slice A6 n6 c6) rfl (by kernel_rfl) (by kernel_rfl) (fun _ _ _ h => h) (.inl ⟨by rfl, fun W hW => gx_assign rfl rfl⟩) hS2 ?_
  simp only [Act.put, List.setIfInBounds_toArray, List.set_cons_zero, List.set_cons_succ]
  refine alw_take (i := 9) (v := .int .i64 (codeE (mencode d ty (bareM fs)))) rfl (by kernel_rfl) (by kernel_rfl) (fun _ _ _ h => h) (.inl ⟨by rfl, fun W hW => gx_assign rfl rfl⟩) hS2 ?_
  simp only [Act.put, List.setIfInBounds_toArray, List.set_cons_zero, List.set_cons_succ]
  refine alw_done rfl ?_
  refine NoPanic.normal ?_
  try simp only [Act.put, List.setIfInBounds_toArray, List.set_cons_zero, List.set_cons_succ]
  have HBP := Lib.hid hS2.1
  clear hS2
  rcases hr : mencode d ty (bareM fs) with k | bz
  · have HRE := Lib.hid (macR_err (key := key) hr)
    have HNZ := Lib.hid (mencode_err hr)
    clear hr
    go_upto_region 2 with fail
    refine wp_region_lit ?_
    refine wpList_run (v := .int .i64 k) (wanted_none rfl) (exec_move rfl rfl) ?_
    simp only [Act.put, List.setIfInBounds_toArray, List.set_cons_zero, List.set_cons_succ]
    refine wpList_run (v := .bool true) (wanted_none rfl) (ix_neq rfl rfl rfl (decide_eq_true HNZ.out)) ?_
    simp only [Act.put, List.setIfInBounds_toArray, List.set_cons_zero, List.set_cons_succ]
    go_upto_region 3 with fail
    refine wp_region_lit ?_
    refine wpList_run (v := .int .i64 k) (wanted_none rfl) (exec_move rfl rfl) ?_
    simp only [Act.put, List.setIfInBounds_toArray, List.set_cons_zero, List.set_cons_succ]
    refine wpList_run (v := strV []) (wanted_none rfl) (gx_assign rfl rfl) ?_
    simp only [Act.put, List.setIfInBounds_toArray, List.set_cons_zero, List.set_cons_succ]
    refine wpList_run (v := .int .i64 k) (wanted_none rfl) (gx_assign rfl rfl) ?_
    simp only [Act.put, List.setIfInBounds_toArray, List.set_cons_zero, List.set_cons_succ]
    go_wp2_with fail
    go_ret2
    rw [HRE.out]
    exact ⟨rfl, HT6.out⟩
  · have HRE := Lib.hid (macR_ok (key := key) hr)
    have HLE := Lib.hid (menc_len hr)
    rw [hr] at HOX
    clear hr
    obtain ⟨A9, n9, c9, hf9, hb9, hnc9, hz9⟩ := HOX.out.form
    injection hf9 with g1 g2 g3
    subst g1 g2 g3
    have HB9 := Lib.hid (show Bs c2 A6 n6 bz from hb9)
    have HNC := Lib.hid hnc9
    have HN6 := Lib.hid (show n6 ≤ 500 from by rw [← HB9.out.1]; exact HLE.out)
    clear hb9 hnc9 hz9 HOX HLE
    have HML := Lib.hid (show (Sh.mac key bz).length = 32 from rfl)
    have HTX := Lib.hid (show Sh.macT key bz = Sh.hex ((Sh.mac key bz).take 8) from rfl)
    have HMW := Lib.hid (fun (w0 : World) (h1 : Key w0 Ak nk ck key) (h2 : Bs w0 A6 n6 bz) (h3 : KT w0) => mac_walk w0 Ak A6 nk ck n6 c6 key bz h1.bs h1.le (by have := h1.lim; omega) h2 HNC.out (by have := HN6.out; omega) h3)
    obtain ⟨M, hM⟩ : ∃ M, Sh.mac key bz = M := ⟨_, rfl⟩
    rw [hM] at HML HTX HMW
    clear hM
    go_upto_region 2 with fail
    refine wp_region_lit ?_
    refine wpList_run (v := .int .i64 0) (wanted_none rfl) (exec_move rfl rfl) ?_
    simp only [Act.put, List.setIfInBounds_toArray, List.set_cons_zero, List.set_cons_succ]
    refine wpList_run (v := .bool false) (wanted_none rfl) (ix_neq rfl rfl rfl (by decide)) ?_
    simp only [Act.put, List.setIfInBounds_toArray, List.set_cons_zero, List.set_cons_succ]
    go_upto_region 4 with fail
    refine wp_region_lit ?_
    refine wpList_run (v := .pointer (some ⟨p, 2, none⟩)) (wanted_none rfl) (exec_field (off := 0) (d := 2) rfl rfl (by kernel_rfl)) ?_
    simp only [Act.put, List.setIfInBounds_toArray, List.set_cons_zero, List.set_cons_succ]
    refine wpList_run (v := .slice Ak nk ck) (wanted_none rfl) (exec_load1 rfl rfl (by kernel_rfl) (HBP.out.cell 2)) ?_
    simp only [Act.put, List.setIfInBounds_toArray, List.set_cons_zero, List.set_cons_succ]
    refine wpList_run (v := .slice A6 n6 c6) (wanted_none rfl) (exec_move rfl rfl) ?_
    simp only [Act.put, List.setIfInBounds_toArray, List.set_cons_zero, List.set_cons_succ]
    refine wpList_op_g rfl fun K9 HK9 => ?_
    go_wp2_with fail
    refine (HMW.out c2 (HKEY.out.still HT6.out) HB9.out (HK.out.turn HT6.out)).mono ?_
    rintro e w7 ⟨rfl, ht⟩
    refine HK9.out _ _ ?_
    clear HK9
    try simp only [Act.put, List.setIfInBounds_toArray, List.set_cons_zero, List.set_cons_succ]
    have HT7 := Lib.hid (HT6.out.trans ht fun _ _ e => e)
    clear ht
    refine wpList_run (v := .pointer (some ⟨w7.heap.size, 0, none⟩)) (w' := w7.alloc (.cells (byteCells (Sh.zs 32)) 71)) (wanted_none rfl) (gx_alloc rfl (zero_hs _)) ?_
    simp only [Act.put, List.setIfInBounds_toArray, List.set_cons_zero, List.set_cons_succ]
    have hb_ := Blk.new w7 71 (byteCells (Sh.zs 32))
    have ht_ := (Turn.refl nowhere w7).alloc (.cells (byteCells (Sh.zs 32)) 71)
    obtain ⟨g, hg_⟩ : ∃ g, g = w7.heap.size := ⟨_, rfl⟩
    rw [← hg_] at hb_ ⊢
    have HLg := Lib.hid (show w7.heap.size ≤ g from by omega)
    clear hg_
    generalize w7.alloc (.cells (byteCells (Sh.zs 32)) 71) = w8 at *
    have HBg := Lib.hid hb_
    have HT8 := Lib.hid ht_
    clear hb_ ht_
    refine wpList_store_row (wanted_none rfl) 71 (.tmp 8) (.tmp 23) rfl (byteCells M) HBg.out rfl rfl (by rw [bc_size, bc_size, HML.out]; rfl) (by rw [size_hs, bc_size, HML.out]) (bc_one _) ?_
    intro w9 hb_ ht_
    have HBg9 := Lib.hid hb_
    have HT9 := Lib.hid ht_
    clear hb_ ht_
    simp only [Act.put, List.setIfInBounds_toArray, List.set_cons_zero, List.set_cons_succ]
    have HT79 := Lib.hid (HT8.out.trans HT9.out fun k' hk e => by have := HLg.out; have e : k' = g := e; omega)
    have HTw := Lib.hid (HT7.out.trans HT79.out fun _ _ e => e)
    have HB8 := Lib.hid (show Bs w9 (some ⟨g, 0, none⟩) 8 (M.take 8) from by
      have h := bs_arr HBg9.out HML.out (by decide)
      exact bs_cut h (by decide))
    clear HT8 HT9 HT79 HT7 HBg
    go_upto_region 5 with fail
    refine wp_region_lit ?_
    refine wpList_run (v := .slice (some ⟨g, 0, none⟩) 8 32) (wanted_none rfl) (exec_slice rfl rfl rfl rfl rfl (sl_hs8 g _)) ?_
    simp only [Act.put, List.setIfInBounds_toArray, List.set_cons_zero, List.set_cons_succ]
    refine wpList_op_g rfl fun K9 HK9 => ?_
    go_wp2_with fail
    refine (hexText_walk (c := 32) HB8.out).mono ?_
    rintro e wx ⟨rfl, ht⟩
    refine HK9.out _ _ ?_
    clear HK9
    try simp only [Act.put, List.setIfInBounds_toArray, List.set_cons_zero, List.set_cons_succ]
    have HTx := Lib.hid (HTw.out.trans ht fun _ _ e => e)
    clear ht
    refine wpList_run (v := strV (Sh.hex (M.take 8))) (wanted_none rfl) (gx_assign rfl rfl) ?_
    simp only [Act.put, List.setIfInBounds_toArray, List.set_cons_zero, List.set_cons_succ]
    refine wpList_run (v := .int .i64 0) (wanted_none rfl) (gx_assign rfl rfl) ?_
    simp only [Act.put, List.setIfInBounds_toArray, List.set_cons_zero, List.set_cons_succ]
    go_wp2_with fail
    go_ret2
    rw [HRE.out]
    exact ⟨by show Ending.returned (.tuple #[strV (Sh.hex (M.take 8)), .int .i64 0]) = .returned (.tuple #[strV (Sh.macT key bz), .int .i64 0]); rw [HTX.out], HTx.out⟩
/-- what Seal hands back -/
def SealP (r : Except Int B8) (ty : Int) (fs : List Fld) (w : World) (e : Ending) (w' : World) : Prop :=
  ∃ (ty' : Int) (A : Option Addr) (n c : Nat), e = .returned (.tuple #[msgV ty' A n c, .int .i64 (codeE r)]) ∧ Turn nowhere w w' ∧
    match r with
    | .ok t => ty' = ty ∧ (setM 64 t fs).length = n ∧ FRow w' w.heap.size (.slice A n c) (setM 64 t fs)
    | .error _ => ty' = 0 ∧ A = none ∧ n = 0 ∧ c = 0
theorem SealP.bad {r : Except Int B8} {ty k : Int} {fs : List Fld} {w w' : World} (hr : r = .error k) (ht : Turn nowhere w w') : SealP r ty fs w (.returned (.tuple #[msgV 0 none 0 0, .int .i64 k])) w' := by
  subst hr
  exact ⟨0, none, 0, 0, rfl, ht, rfl, rfl, rfl, rfl⟩
theorem SealP.good {r : Except Int B8} {ty : Int} {t : B8} {fs : List Fld} {w w' : World} {A : Option Addr} {n c : Nat} (hr : r = .ok t) (h1 : (setM 64 t fs).length = n) (h2 : FRow w' w.heap.size (.slice A n c) (setM 64 t fs)) (ht : Turn nowhere w w') : SealP r ty fs w (.returned (.tuple #[msgV ty A n c, .int .i64 0])) w' := by
  subst hr
  exact ⟨ty, A, n, c, rfl, ht, rfl, h1, h2⟩
theorem build_mg0 (W : World) : (Instr.build 49 #[]).run Tryz.prog W = .ok (.agg #[.int .i64 0, .slice none 0 0]) W := by kernel_rfl
/-- what Check hands back -/
def chkR (r : Except Int B8) (fs : List Fld) : Int := match r with
  | .error k => k
  | .ok t => if getM 64 fs = some t then 0 else 131
theorem chk_ok {t : B8} {fs : List Fld} {r : Except Int B8} (hr : r = .ok t) (h : getM 64 fs = some t) : chkR r fs = 0 := by subst hr; exact if_pos h
theorem chk_no {t : B8} {fs : List Fld} {r : Except Int B8} (hr : r = .ok t) (h : ¬ getM 64 fs = some t) : chkR r fs = 131 := by subst hr; exact if_neg h
theorem chk_bad {k : Int} {fs : List Fld} {r : Except Int B8} (hr : r = .error k) : chkR r fs = k := by subst hr; rfl
theorem sx_neqs {a : Act} {o : Oper} {W : World} {x y : Operand} {l m : B8} {t u : TypeId} {r : Bool} (ho : o.op = .binOp .neq t x y u) (hx : a.eval x = strV l) (hy : a.eval y = strV m) (h : decide (l ≠ m) = r) : (execOp a.eval o).run Tryz.prog W = .ok (.value (.bool r)) W := by
  subst h
  rw [exec_sneq ho hx hy]
  congr 3
  by_cases h : l = m <;> simp [h]
set_option maxRecDepth 20000 in
set_option maxHeartbeats 4000000 in
theorem Seal_walk {s : Sents} {w : World} {code key : B8} {d m1 m2 ty : Int} {Ak A : Option Addr} {nk ck n c : Nat} {fs : List Fld} (he : Env s w) (hk : KT w) (hkey : Key w Ak nk ck key) (hf : Mg w A n c fs) :
    Calls Tryz.prog 15 #[.agg (memC code d Ak nk ck m1 m2), msgV ty A n c] w (SealP (macR d ty key fs) ty fs w) := by
  have HE := Lib.hid he
  have HK := Lib.hid hk
  have HKEY := Lib.hid hkey
  have HF := Lib.hid hf
  clear hkey hf
  go_enter Tryz.func15, Tryz.ntmps15
  go_upto_region 0 with fail
  refine wp_region_lit ?_
  refine wpList_run (v := .pointer (some ⟨(w).heap.size, 0, none⟩)) (w' := (w).alloc (.cells (memC code d Ak nk ck m1 m2) 46)) (wanted_none rfl) (gx_box rfl rfl (box_mem _ _ _ _ _ _ _ _)) ?_
  simp only [Act.put, List.setIfInBounds_toArray, List.set_cons_zero, List.set_cons_succ]
  refine wpList_run (v := .pointer (some ⟨((w).alloc (.cells (memC code d Ak nk ck m1 m2) 46)).heap.size, 0, none⟩)) (w' := ((w).alloc (.cells (memC code d Ak nk ck m1 m2) 46)).alloc (.cells #[.int .i64 ty, .slice A n c] 49)) (wanted_none rfl) (gx_box rfl rfl (box_mg _ _ _ _ _)) ?_
  simp only [Act.put, List.setIfInBounds_toArray, List.set_cons_zero, List.set_cons_succ]
  refine wpList_run (v := .pointer (some ⟨(((w).alloc (.cells (memC code d Ak nk ck m1 m2) 46)).alloc (.cells #[.int .i64 ty, .slice A n c] 49)).heap.size, 0, none⟩)) (w' := (((w).alloc (.cells (memC code d Ak nk ck m1 m2) 46)).alloc (.cells #[.int .i64 ty, .slice A n c] 49)).alloc (.cells #[.int .i64 0, .slice none 0 0] 49)) (wanted_none rfl) (gx_alloc rfl (zero_mg _)) ?_
  simp only [Act.put, List.setIfInBounds_toArray, List.set_cons_zero, List.set_cons_succ]
  refine wpList_run (v := .int .i64 0) (wanted_none rfl) (gx_assign rfl rfl) ?_
  simp only [Act.put, List.setIfInBounds_toArray, List.set_cons_zero, List.set_cons_succ]
  have hb_p := ((Blk.new (w) 46 (memC code d Ak nk ck m1 m2)).alloc (.cells #[.int .i64 ty, .slice A n c] 49)).alloc (.cells #[.int .i64 0, .slice none 0 0] 49)
  have hb_b := (Blk.new ((w).alloc (.cells (memC code d Ak nk ck m1 m2) 46)) 49 #[.int .i64 ty, .slice A n c]).alloc (.cells #[.int .i64 0, .slice none 0 0] 49)
  have hb_r := Blk.new (((w).alloc (.cells (memC code d Ak nk ck m1 m2) 46)).alloc (.cells #[.int .i64 ty, .slice A n c] 49)) 49 #[.int .i64 0, .slice none 0 0]
  have ht_ := (((Turn.refl nowhere (w)).alloc (.cells (memC code d Ak nk ck m1 m2) 46)).alloc (.cells #[.int .i64 ty, .slice A n c] 49)).alloc (.cells #[.int .i64 0, .slice none 0 0] 49)
  obtain ⟨n0_, hn0_⟩ : ∃ n, n = (w).heap.size := ⟨_, rfl⟩
  have hz_p : (w).heap.size = n0_ + 0 := by rw [hn0_]; simp
  have hz_b : ((w).alloc (.cells (memC code d Ak nk ck m1 m2) 46)).heap.size = n0_ + 1 := by rw [hn0_]; simp
  have hz_r : (((w).alloc (.cells (memC code d Ak nk ck m1 m2) 46)).alloc (.cells #[.int .i64 ty, .slice A n c] 49)).heap.size = n0_ + 2 := by rw [hn0_]; simp
  obtain ⟨r, hg_⟩ : ∃ g, g = (((w).alloc (.cells (memC code d Ak nk ck m1 m2) 46)).alloc (.cells #[.int .i64 ty, .slice A n c] 49)).heap.size := ⟨_, rfl⟩
  rw [← hg_] at hb_r hz_r ⊢
  clear hg_
  obtain ⟨b, hg_⟩ : ∃ g, g = ((w).alloc (.cells (memC code d Ak nk ck m1 m2) 46)).heap.size := ⟨_, rfl⟩
  rw [← hg_] at hb_b hz_b ⊢
  clear hg_
  obtain ⟨p, hg_⟩ : ∃ g, g = (w).heap.size := ⟨_, rfl⟩
  rw [← hg_] at hb_p hz_p ⊢
  clear hg_
  generalize (((w).alloc (.cells (memC code d Ak nk ck m1 m2) 46)).alloc (.cells #[.int .i64 ty, .slice A n c] 49)).alloc (.cells #[.int .i64 0, .slice none 0 0] 49) = w1 at *
  have HT1 := Lib.hid ht_
  clear ht_
  have HBp := Lib.hid hb_p
  have HLp := Lib.hid (show (w).heap.size ≤ p from by omega)
  clear hb_p
  have HBb := Lib.hid hb_b
  have HLb := Lib.hid (show (w).heap.size ≤ b from by omega)
  clear hb_b
  have HBr := Lib.hid hb_r
  have HLr := Lib.hid (show (w).heap.size ≤ r from by omega)
  clear hb_r
  have HNpb := Lib.hid (show p ≠ b from by omega)
  have HNpr := Lib.hid (show p ≠ r from by omega)
  have HNbr := Lib.hid (show b ≠ r from by omega)
  clear hn0_ hz_p hz_b hz_r
  clear n0_
  go_upto_region 1 with fail
  refine wp_region_lit ?_
  refine wpList_run (v := .agg (memC code d Ak nk ck m1 m2)) (wanted_none rfl) (gx_loads_g rfl rfl (blk_range_g HBp.out) Tryz.underlying46 rfl (by rw [size_mem]; rfl)) ?_
  simp only [Act.put, List.setIfInBounds_toArray, List.set_cons_zero, List.set_cons_succ]
  refine wpList_run (v := msgV ty A n c) (wanted_none rfl) (gx_loads_g rfl rfl (blk_range_g HBb.out) Tryz.underlying49 rfl (by rw [size_mg]; rfl)) ?_
  simp only [Act.put, List.setIfInBounds_toArray, List.set_cons_zero, List.set_cons_succ]
  refine wpList_op_g rfl fun K9 HK9 => ?_
  go_wp2_with fail
  refine (smac_walk (HE.out.turn HT1.out) (HK.out.turn HT1.out) (HKEY.out.still HT1.out) (HF.out.still HT1.out)).mono ?_
  rintro e w2 ⟨rfl, ht⟩
  refine HK9.out _ _ ?_
  clear HK9
  try simp only [Act.put, List.setIfInBounds_toArray, List.set_cons_zero, List.set_cons_succ]
  have HT2 := Lib.hid (HT1.out.trans ht fun _ _ e => e)
  have HBb2 := Lib.hid (HBb.out.turn ht fun e => e)
  have HBr2 := Lib.hid (HBr.out.turn ht fun e => e)
  clear ht HBb HBr HBp HT1
  have HNZ := Lib.hid (fun k h => macR_nz (d := d) (ty := ty) (k := k) (key := key) (fs := fs) h)
  obtain ⟨R, hR⟩ : ∃ R, macR d ty key fs = R := ⟨_, rfl⟩
  rw [hR] at HNZ ⊢
  have HRQ := Lib.hid hR
  clear hR
  refine wpList_run (v := .tuple #[strV (txR R), .int .i64 (codeE R)]) (wanted_none rfl) (exec_move rfl rfl) ?_
  simp only [Act.put, List.setIfInBounds_toArray, List.set_cons_zero, List.set_cons_succ]
  refine wpList_run (v := strV (txR R)) (wanted_none rfl) (ix_extract rfl rfl rfl) ?_
  simp only [Act.put, List.setIfInBounds_toArray, List.set_cons_zero, List.set_cons_succ]
  refine wpList_run (v := .int .i64 (codeE R)) (wanted_none rfl) (ix_extract rfl rfl rfl) ?_
  simp only [Act.put, List.setIfInBounds_toArray, List.set_cons_zero, List.set_cons_succ]
  refine wpList_run (v := strV (txR R)) (wanted_none rfl) (gx_assign rfl rfl) ?_
  simp only [Act.put, List.setIfInBounds_toArray, List.set_cons_zero, List.set_cons_succ]
  refine wpList_run (v := .int .i64 (codeE R)) (wanted_none rfl) (gx_assign rfl rfl) ?_
  simp only [Act.put, List.setIfInBounds_toArray, List.set_cons_zero, List.set_cons_succ]
  rcases hr : R with k | t
  · have HR := Lib.hid hr
    have HN0 := Lib.hid (HNZ.out k hr)
    subst hr
    clear HNZ
    go_upto_region 2 with fail
    refine wp_region_lit ?_
    refine wpList_run (v := .int .i64 k) (wanted_none rfl) (exec_move rfl rfl) ?_
    simp only [Act.put, List.setIfInBounds_toArray, List.set_cons_zero, List.set_cons_succ]
    refine wpList_run (v := .bool true) (wanted_none rfl) (ix_neq rfl rfl rfl (decide_eq_true HN0.out)) ?_
    simp only [Act.put, List.setIfInBounds_toArray, List.set_cons_zero, List.set_cons_succ]
    go_upto_region 3 with fail
    refine wp_region_lit ?_
    refine wpList_run (v := .agg #[.int .i64 0, .slice none 0 0]) (wanted_none rfl) (gx_build0 rfl (build_mg0 _)) ?_
    simp only [Act.put, List.setIfInBounds_toArray, List.set_cons_zero, List.set_cons_succ]
    refine wpList_run (v := .int .i64 k) (wanted_none rfl) (exec_move rfl rfl) ?_
    simp only [Act.put, List.setIfInBounds_toArray, List.set_cons_zero, List.set_cons_succ]
    refine wpList_store_row (wanted_none rfl) 49 (.tmp 4) (.tmp 16) rfl (#[.int .i64 0, .slice none 0 0]) HBr2.out rfl rfl (rfl) (by rw [size_mg] <;> rfl) (mg_one _ _ _ _) ?_
    intro w3 hb_ ht_
    have HBZ := Lib.hid hb_
    have HT3 := Lib.hid ht_
    clear hb_ ht_
    simp only [Act.put, List.setIfInBounds_toArray, List.set_cons_zero, List.set_cons_succ]
    refine wpList_run (v := .int .i64 k) (wanted_none rfl) (gx_assign rfl rfl) ?_
    simp only [Act.put, List.setIfInBounds_toArray, List.set_cons_zero, List.set_cons_succ]
    have HTZ := Lib.hid (HT2.out.trans HT3.out fun k' hk e => by have := HLr.out; have e : k' = r := e; omega)
    go_wp2_with fail
    refine bodyPost_ret (v := .tuple #[.agg #[.int .i64 0, .slice none 0 0], .int .i64 k]) (ret_cell2_g rfl _ _ r _ _ _ rfl rfl HBZ.out Tryz.underlying49 rfl (by rw [size_mg] <;> rfl)) rfl ?_
    exact SealP.bad HRQ.out HTZ.out
  · subst hr
    clear HNZ
    go_upto_region 2 with fail
    refine wp_region_lit ?_
    refine wpList_run (v := .int .i64 0) (wanted_none rfl) (exec_move rfl rfl) ?_
    simp only [Act.put, List.setIfInBounds_toArray, List.set_cons_zero, List.set_cons_succ]
    refine wpList_run (v := .bool false) (wanted_none rfl) (ix_neq rfl rfl rfl (by decide)) ?_
    simp only [Act.put, List.setIfInBounds_toArray, List.set_cons_zero, List.set_cons_succ]
    go_upto_region 4 with fail
    refine wp_region_lit ?_
    refine wpList_run (v := msgV ty A n c) (wanted_none rfl) (gx_loads_g rfl rfl (blk_range_g HBb2.out) Tryz.underlying49 rfl (by rw [size_mg]; rfl)) ?_
    simp only [Act.put, List.setIfInBounds_toArray, List.set_cons_zero, List.set_cons_succ]
    refine wpList_run (v := strV t) (wanted_none rfl) (exec_move rfl rfl) ?_
    simp only [Act.put, List.setIfInBounds_toArray, List.set_cons_zero, List.set_cons_succ]
    refine wpList_op_g rfl fun K9 HK9 => ?_
    go_wp2_with fail
    refine (Set_walk (ty := ty) (no := 64) (t := t) (c := c) (HF.out.fl.still HT2.out) HF.out.lim).mono ?_
    rintro e w3 ⟨A5, n5, c5, rfl, hl5, ho5, ht5⟩
    refine HK9.out _ _ ?_
    clear HK9
    try simp only [Act.put, List.setIfInBounds_toArray, List.set_cons_zero, List.set_cons_succ]
    have HO5 := Lib.hid (ho5.less HT2.out.size)
    have HL5 := Lib.hid hl5
    have HT3 := Lib.hid (HT2.out.trans ht5 fun _ _ e => e)
    have HBr3 := Lib.hid (HBr2.out.turn ht5 fun e => e)
    clear ho5 hl5 ht5
    refine wpList_store_row (wanted_none rfl) 49 (.tmp 4) (.tmp 20) rfl (#[.int .i64 ty, .slice A5 n5 c5]) HBr3.out rfl rfl (rfl) (by rw [size_mg] <;> rfl) (mg_one _ _ _ _) ?_
    intro w4 hb_ ht_
    have HBZ := Lib.hid hb_
    have HT4 := Lib.hid ht_
    clear hb_ ht_
    simp only [Act.put, List.setIfInBounds_toArray, List.set_cons_zero, List.set_cons_succ]
    refine wpList_run (v := .int .i64 0) (wanted_none rfl) (gx_assign rfl rfl) ?_
    simp only [Act.put, List.setIfInBounds_toArray, List.set_cons_zero, List.set_cons_succ]
    have HTZ := Lib.hid (HT3.out.trans HT4.out fun k' hk e => by have := HLr.out; have e : k' = r := e; omega)
    have HOZ := Lib.hid (HO5.out.turn HT4.out fun k' hk e => ((frow_orw HO5.out).ne (g := r) HBr3.out (by decide) k' hk) e)
    go_wp2_with fail
    refine bodyPost_ret (v := .tuple #[.agg #[.int .i64 ty, .slice A5 n5 c5], .int .i64 0]) (ret_cell2_g rfl _ _ r _ _ _ rfl rfl HBZ.out Tryz.underlying49 rfl (by rw [size_mg] <;> rfl)) rfl ?_
    exact SealP.good HRQ.out HL5.out HOZ.out HTZ.out
set_option maxRecDepth 20000 in
set_option maxHeartbeats 4000000 in
theorem SCheck_walk {s : Sents} {w : World} {code key : B8} {d m1 m2 ty : Int} {Ak A : Option Addr} {nk ck n c : Nat} {fs : List Fld} (he : Env s w) (hk : KT w) (hkey : Key w Ak nk ck key) (hf : Mg w A n c fs) :
    Calls Tryz.prog 16 #[.agg (memC code d Ak nk ck m1 m2), msgV ty A n c] w fun e w' => e = .returned (.int .i64 (chkR (macR d ty key fs) fs)) ∧ Turn nowhere w w' := by
  have HE := Lib.hid he
  have HK := Lib.hid hk
  have HKEY := Lib.hid hkey
  have HF := Lib.hid hf
  clear hkey hf
  go_enter Tryz.func16, Tryz.ntmps16
  go_upto_region 0 with fail
  refine wp_region_lit ?_
  refine wpList_run (v := .pointer (some ⟨(w).heap.size, 0, none⟩)) (w' := (w).alloc (.cells (memC code d Ak nk ck m1 m2) 46)) (wanted_none rfl) (gx_box rfl rfl (box_mem _ _ _ _ _ _ _ _)) ?_
  simp only [Act.put, List.setIfInBounds_toArray, List.set_cons_zero, List.set_cons_succ]
  refine wpList_run (v := .pointer (some ⟨((w).alloc (.cells (memC code d Ak nk ck m1 m2) 46)).heap.size, 0, none⟩)) (w' := ((w).alloc (.cells (memC code d Ak nk ck m1 m2) 46)).alloc (.cells #[.int .i64 ty, .slice A n c] 49)) (wanted_none rfl) (gx_box rfl rfl (box_mg _ _ _ _ _)) ?_
  simp only [Act.put, List.setIfInBounds_toArray, List.set_cons_zero, List.set_cons_succ]
  refine wpList_run (v := .int .i64 0) (wanted_none rfl) (gx_assign rfl rfl) ?_
  simp only [Act.put, List.setIfInBounds_toArray, List.set_cons_zero, List.set_cons_succ]
  have hb_p := (Blk.new (w) 46 (memC code d Ak nk ck m1 m2)).alloc (.cells #[.int .i64 ty, .slice A n c] 49)
  have hb_b := Blk.new ((w).alloc (.cells (memC code d Ak nk ck m1 m2) 46)) 49 #[.int .i64 ty, .slice A n c]
  have ht_ := ((Turn.refl nowhere (w)).alloc (.cells (memC code d Ak nk ck m1 m2) 46)).alloc (.cells #[.int .i64 ty, .slice A n c] 49)
  obtain ⟨n0_, hn0_⟩ : ∃ n, n = (w).heap.size := ⟨_, rfl⟩
  have hz_p : (w).heap.size = n0_ + 0 := by rw [hn0_]; simp
  have hz_b : ((w).alloc (.cells (memC code d Ak nk ck m1 m2) 46)).heap.size = n0_ + 1 := by rw [hn0_]; simp
  obtain ⟨b, hg_⟩ : ∃ g, g = ((w).alloc (.cells (memC code d Ak nk ck m1 m2) 46)).heap.size := ⟨_, rfl⟩
  rw [← hg_] at hb_b hz_b ⊢
  clear hg_
  obtain ⟨p, hg_⟩ : ∃ g, g = (w).heap.size := ⟨_, rfl⟩
  rw [← hg_] at hb_p hz_p ⊢
  clear hg_
  generalize ((w).alloc (.cells (memC code d Ak nk ck m1 m2) 46)).alloc (.cells #[.int .i64 ty, .slice A n c] 49) = w1 at *
  have HT1 := Lib.hid ht_
  clear ht_
  have HBp := Lib.hid hb_p
  have HLp := Lib.hid (show (w).heap.size ≤ p from by omega)
  clear hb_p
  have HBb := Lib.hid hb_b
  have HLb := Lib.hid (show (w).heap.size ≤ b from by omega)
  clear hb_b
  have HNpb := Lib.hid (show p ≠ b from by omega)
  clear hn0_ hz_p hz_b
  clear n0_
  go_upto_region 1 with fail
  refine wp_region_lit ?_
  refine wpList_run (v := .agg (memC code d Ak nk ck m1 m2)) (wanted_none rfl) (gx_loads_g rfl rfl (blk_range_g HBp.out) Tryz.underlying46 rfl (by rw [size_mem]; rfl)) ?_
  simp only [Act.put, List.setIfInBounds_toArray, List.set_cons_zero, List.set_cons_succ]
  refine wpList_run (v := msgV ty A n c) (wanted_none rfl) (gx_loads_g rfl rfl (blk_range_g HBb.out) Tryz.underlying49 rfl (by rw [size_mg]; rfl)) ?_
  simp only [Act.put, List.setIfInBounds_toArray, List.set_cons_zero, List.set_cons_succ]
  refine wpList_op_g rfl fun K9 HK9 => ?_
  go_wp2_with fail
  refine (smac_walk (HE.out.turn HT1.out) (HK.out.turn HT1.out) (HKEY.out.still HT1.out) (HF.out.still HT1.out)).mono ?_
  rintro e w2 ⟨rfl, ht⟩
  refine HK9.out _ _ ?_
  clear HK9
  try simp only [Act.put, List.setIfInBounds_toArray, List.set_cons_zero, List.set_cons_succ]
  have HT2 := Lib.hid (HT1.out.trans ht fun _ _ e => e)
  have HBb2 := Lib.hid (HBb.out.turn ht fun e => e)
  clear ht HBb HBp HT1
  have HNZ := Lib.hid (fun k h => macR_nz (d := d) (ty := ty) (k := k) (key := key) (fs := fs) h)
  obtain ⟨R, hR⟩ : ∃ R, macR d ty key fs = R := ⟨_, rfl⟩
  rw [hR] at HNZ ⊢
  have HRQ := Lib.hid hR
  clear hR
  refine wpList_run (v := .tuple #[strV (txR R), .int .i64 (codeE R)]) (wanted_none rfl) (exec_move rfl rfl) ?_
  simp only [Act.put, List.setIfInBounds_toArray, List.set_cons_zero, List.set_cons_succ]
  refine wpList_run (v := strV (txR R)) (wanted_none rfl) (ix_extract rfl rfl rfl) ?_
  simp only [Act.put, List.setIfInBounds_toArray, List.set_cons_zero, List.set_cons_succ]
  refine wpList_run (v := .int .i64 (codeE R)) (wanted_none rfl) (ix_extract rfl rfl rfl) ?_
  simp only [Act.put, List.setIfInBounds_toArray, List.set_cons_zero, List.set_cons_succ]
  refine wpList_run (v := strV (txR R)) (wanted_none rfl) (gx_assign rfl rfl) ?_
  simp only [Act.put, List.setIfInBounds_toArray, List.set_cons_zero, List.set_cons_succ]
  refine wpList_run (v := .int .i64 (codeE R)) (wanted_none rfl) (gx_assign rfl rfl) ?_
  simp only [Act.put, List.setIfInBounds_toArray, List.set_cons_zero, List.set_cons_succ]
  rcases hr : R with k | t
  · have HN0 := Lib.hid (HNZ.out k hr)
    subst hr
    clear HNZ
    go_upto_region 2 with fail
    refine wp_region_lit ?_
    refine wpList_run (v := .int .i64 k) (wanted_none rfl) (exec_move rfl rfl) ?_
    simp only [Act.put, List.setIfInBounds_toArray, List.set_cons_zero, List.set_cons_succ]
    refine wpList_run (v := .bool true) (wanted_none rfl) (ix_neq rfl rfl rfl (decide_eq_true HN0.out)) ?_
    simp only [Act.put, List.setIfInBounds_toArray, List.set_cons_zero, List.set_cons_succ]
    go_upto_region 3 with fail
    refine wp_region_lit ?_
    refine wpList_run (v := .int .i64 k) (wanted_none rfl) (exec_move rfl rfl) ?_
    simp only [Act.put, List.setIfInBounds_toArray, List.set_cons_zero, List.set_cons_succ]
    refine wpList_run (v := .int .i64 k) (wanted_none rfl) (gx_assign rfl rfl) ?_
    simp only [Act.put, List.setIfInBounds_toArray, List.set_cons_zero, List.set_cons_succ]
    go_wp2_with fail
    go_ret
    rw [chk_bad HRQ.out]
    exact ⟨rfl, HT2.out⟩
  · subst hr
    clear HNZ
    go_upto_region 2 with fail
    refine wp_region_lit ?_
    refine wpList_run (v := .int .i64 0) (wanted_none rfl) (exec_move rfl rfl) ?_
    simp only [Act.put, List.setIfInBounds_toArray, List.set_cons_zero, List.set_cons_succ]
    refine wpList_run (v := .bool false) (wanted_none rfl) (ix_neq rfl rfl rfl (by decide)) ?_
    simp only [Act.put, List.setIfInBounds_toArray, List.set_cons_zero, List.set_cons_succ]
    go_upto_region 4 with fail
    refine wp_region_lit ?_
    refine wpList_run (v := msgV ty A n c) (wanted_none rfl) (gx_loads_g rfl rfl (blk_range_g HBb2.out) Tryz.underlying49 rfl (by rw [size_mg]; rfl)) ?_
    simp only [Act.put, List.setIfInBounds_toArray, List.set_cons_zero, List.set_cons_succ]
    refine wpList_op_g rfl fun K9 HK9 => ?_
    go_wp2_with fail
    refine (Get_walk (ty := ty) (no := 64) (c := c) (HF.out.fl.still HT2.out)).mono ?_
    rintro e w3 ⟨rfl, ht⟩
    refine HK9.out _ _ ?_
    clear HK9
    try simp only [Act.put, List.setIfInBounds_toArray, List.set_cons_zero, List.set_cons_succ]
    have HT3 := Lib.hid (HT2.out.trans ht fun _ _ e => e)
    clear ht
    rcases hg : getM 64 fs with _ | t2
    · have HC := Lib.hid (chk_no HRQ.out (show ¬ getM 64 fs = some t from by rw [hg]; exact fun h => by cases h))
      clear hg
      rw [show gotV none = .tuple #[strV [], .bool false] from rfl]
      refine wpList_run (v := .tuple #[strV [], .bool false]) (wanted_none rfl) (exec_move rfl rfl) ?_
      simp only [Act.put, List.setIfInBounds_toArray, List.set_cons_zero, List.set_cons_succ]
      refine wpList_run (v := strV []) (wanted_none rfl) (ix_extract rfl rfl rfl) ?_
      simp only [Act.put, List.setIfInBounds_toArray, List.set_cons_zero, List.set_cons_succ]
      refine wpList_run (v := .bool false) (wanted_none rfl) (ix_extract rfl rfl rfl) ?_
      simp only [Act.put, List.setIfInBounds_toArray, List.set_cons_zero, List.set_cons_succ]
      refine wpList_run (v := strV []) (wanted_none rfl) (gx_assign rfl rfl) ?_
      simp only [Act.put, List.setIfInBounds_toArray, List.set_cons_zero, List.set_cons_succ]
      refine wpList_run (v := .bool false) (wanted_none rfl) (gx_assign rfl rfl) ?_
      simp only [Act.put, List.setIfInBounds_toArray, List.set_cons_zero, List.set_cons_succ]
      go_upto_region 5 with fail
      refine wp_region_lit ?_
      refine wpList_run (v := .bool false) (wanted_none rfl) (exec_move rfl rfl) ?_
      simp only [Act.put, List.setIfInBounds_toArray, List.set_cons_zero, List.set_cons_succ]
      refine wpList_run (v := .bool true) (wanted_none rfl) (ix_not (b := false) rfl rfl) ?_
      simp only [Act.put, List.setIfInBounds_toArray, List.set_cons_zero, List.set_cons_succ]
      refine wpList_run (v := .bool true) (wanted_none rfl) (exec_move rfl rfl) ?_
      simp only [Act.put, List.setIfInBounds_toArray, List.set_cons_zero, List.set_cons_succ]
      refine wpList_skip (by go_simp) ?_
      simp only [Act.put, List.setIfInBounds_toArray, List.set_cons_zero, List.set_cons_succ]
      refine wpList_skip (by go_simp) ?_
      simp only [Act.put, List.setIfInBounds_toArray, List.set_cons_zero, List.set_cons_succ]
      refine wpList_skip (by go_simp) ?_
      simp only [Act.put, List.setIfInBounds_toArray, List.set_cons_zero, List.set_cons_succ]
      refine wpList_run (v := .bool true) (wanted_none rfl) (ix_pickT rfl rfl rfl) ?_
      simp only [Act.put, List.setIfInBounds_toArray, List.set_cons_zero, List.set_cons_succ]
      go_upto_region 6 with fail
      refine wp_region_lit ?_
      refine wpList_run (v := .int .i64 131) (wanted_none rfl) (gx_assign rfl rfl) ?_
      simp only [Act.put, List.setIfInBounds_toArray, List.set_cons_zero, List.set_cons_succ]
      go_wp2_with fail
      go_ret
      rw [HC.out]
      exact ⟨rfl, HT3.out⟩
    · rw [show gotV (some t2) = .tuple #[strV t2, .bool true] from rfl]
      by_cases hq : t2 = t
      · have HC := Lib.hid (chk_ok HRQ.out (show getM 64 fs = some t from by rw [hg, hq]))
        have HQ := Lib.hid (show decide (t2 ≠ t) = false from by simp [hq])
        clear hg hq
        refine wpList_run (v := .tuple #[strV t2, .bool true]) (wanted_none rfl) (exec_move rfl rfl) ?_
        simp only [Act.put, List.setIfInBounds_toArray, List.set_cons_zero, List.set_cons_succ]
        refine wpList_run (v := strV t2) (wanted_none rfl) (ix_extract rfl rfl rfl) ?_
        simp only [Act.put, List.setIfInBounds_toArray, List.set_cons_zero, List.set_cons_succ]
        refine wpList_run (v := .bool true) (wanted_none rfl) (ix_extract rfl rfl rfl) ?_
        simp only [Act.put, List.setIfInBounds_toArray, List.set_cons_zero, List.set_cons_succ]
        refine wpList_run (v := strV t2) (wanted_none rfl) (gx_assign rfl rfl) ?_
        simp only [Act.put, List.setIfInBounds_toArray, List.set_cons_zero, List.set_cons_succ]
        refine wpList_run (v := .bool true) (wanted_none rfl) (gx_assign rfl rfl) ?_
        simp only [Act.put, List.setIfInBounds_toArray, List.set_cons_zero, List.set_cons_succ]
        go_upto_region 5 with fail
        refine wp_region_lit ?_
        refine wpList_run (v := .bool true) (wanted_none rfl) (exec_move rfl rfl) ?_
        simp only [Act.put, List.setIfInBounds_toArray, List.set_cons_zero, List.set_cons_succ]
        refine wpList_run (v := .bool false) (wanted_none rfl) (ix_not (b := true) rfl rfl) ?_
        simp only [Act.put, List.setIfInBounds_toArray, List.set_cons_zero, List.set_cons_succ]
        refine wpList_run (v := .bool false) (wanted_none rfl) (exec_move rfl rfl) ?_
        simp only [Act.put, List.setIfInBounds_toArray, List.set_cons_zero, List.set_cons_succ]
        refine wpList_run (v := strV t2) rfl (exec_move rfl rfl) ?_
        simp only [Act.put, List.setIfInBounds_toArray, List.set_cons_zero, List.set_cons_succ]
        refine wpList_run (v := strV t) rfl (exec_move rfl rfl) ?_
        simp only [Act.put, List.setIfInBounds_toArray, List.set_cons_zero, List.set_cons_succ]
        refine wpList_run (v := .bool false) rfl (sx_neqs rfl rfl rfl HQ.out) ?_
        simp only [Act.put, List.setIfInBounds_toArray, List.set_cons_zero, List.set_cons_succ]
        refine wpList_run (v := .bool false) (wanted_none rfl) (ix_pickF rfl rfl rfl) ?_
        simp only [Act.put, List.setIfInBounds_toArray, List.set_cons_zero, List.set_cons_succ]
        go_upto_region 7 with fail
        refine wp_region_lit ?_
        refine wpList_run (v := .int .i64 0) (wanted_none rfl) (gx_assign rfl rfl) ?_
        simp only [Act.put, List.setIfInBounds_toArray, List.set_cons_zero, List.set_cons_succ]
        go_wp2_with fail
        go_ret
        rw [HC.out]
        exact ⟨rfl, HT3.out⟩
      · have HC := Lib.hid (chk_no HRQ.out (show ¬ getM 64 fs = some t from by rw [hg]; exact fun h => hq (Option.some.inj h)))
        have HQ := Lib.hid (show decide (t2 ≠ t) = true from by simp [hq])
        clear hg hq
        refine wpList_run (v := .tuple #[strV t2, .bool true]) (wanted_none rfl) (exec_move rfl rfl) ?_
        simp only [Act.put, List.setIfInBounds_toArray, List.set_cons_zero, List.set_cons_succ]
        refine wpList_run (v := strV t2) (wanted_none rfl) (ix_extract rfl rfl rfl) ?_
        simp only [Act.put, List.setIfInBounds_toArray, List.set_cons_zero, List.set_cons_succ]
        refine wpList_run (v := .bool true) (wanted_none rfl) (ix_extract rfl rfl rfl) ?_
        simp only [Act.put, List.setIfInBounds_toArray, List.set_cons_zero, List.set_cons_succ]
        refine wpList_run (v := strV t2) (wanted_none rfl) (gx_assign rfl rfl) ?_
        simp only [Act.put, List.setIfInBounds_toArray, List.set_cons_zero, List.set_cons_succ]
        refine wpList_run (v := .bool true) (wanted_none rfl) (gx_assign rfl rfl) ?_
        simp only [Act.put, List.setIfInBounds_toArray, List.set_cons_zero, List.set_cons_succ]
        go_upto_region 5 with fail
        refine wp_region_lit ?_
        refine wpList_run (v := .bool true) (wanted_none rfl) (exec_move rfl rfl) ?_
        simp only [Act.put, List.setIfInBounds_toArray, List.set_cons_zero, List.set_cons_succ]
        refine wpList_run (v := .bool false) (wanted_none rfl) (ix_not (b := true) rfl rfl) ?_
        simp only [Act.put, List.setIfInBounds_toArray, List.set_cons_zero, List.set_cons_succ]
        refine wpList_run (v := .bool false) (wanted_none rfl) (exec_move rfl rfl) ?_
        simp only [Act.put, List.setIfInBounds_toArray, List.set_cons_zero, List.set_cons_succ]
        refine wpList_run (v := strV t2) rfl (exec_move rfl rfl) ?_
        simp only [Act.put, List.setIfInBounds_toArray, List.set_cons_zero, List.set_cons_succ]
        refine wpList_run (v := strV t) rfl (exec_move rfl rfl) ?_
        simp only [Act.put, List.setIfInBounds_toArray, List.set_cons_zero, List.set_cons_succ]
        refine wpList_run (v := .bool true) rfl (sx_neqs rfl rfl rfl HQ.out) ?_
        simp only [Act.put, List.setIfInBounds_toArray, List.set_cons_zero, List.set_cons_succ]
        refine wpList_run (v := .bool true) (wanted_none rfl) (ix_pickF rfl rfl rfl) ?_
        simp only [Act.put, List.setIfInBounds_toArray, List.set_cons_zero, List.set_cons_succ]
        go_upto_region 6 with fail
        refine wp_region_lit ?_
        refine wpList_run (v := .int .i64 131) (wanted_none rfl) (gx_assign rfl rfl) ?_
        simp only [Act.put, List.setIfInBounds_toArray, List.set_cons_zero, List.set_cons_succ]
        go_wp2_with fail
        go_ret
        rw [HC.out]
        exact ⟨rfl, HT3.out⟩
end Go.Proofs.YtfnillibngijaaaGreatDoor
