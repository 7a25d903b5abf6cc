/-
  Several texts in one file, in their order:
  - groatlaw05's MessageUnlike: the walk. Conditions: the tables and the errors read as the program's text lays them.
  - PROOF: groatlaw05: for every input the law MessageUnlike returns true, and each argument reads as it did. Its conditions are the row's own cells (the listed variables read as the program's text lays them: the card ties them).
-/
import Derived.Test.YtkbdijkoedmgnaaGreatDoorJa3
import Derived.Test.YtkbdijkoedmgnaaGreatDoorCards
import Derived.Test.YtkbdijkoedmgnaaGreatDoorTie
import Derived.Test.YtkbdijkoedmgnaaGreatDoorJa4
import Derived.WalkKit
import Derived.ProofKit
import Derived.OpenShut
import Derived.ShutString
import Derived.ChangeOld
import Derived.Below
import Derived.SizedLaws
import Derived.LaidMore
import Derived.Deep.DeepHandedRow
import Derived.Deep.DeepWitnessRowRef
import Derived.Lib.LaidTab
import Derived.Lib.SmallJoins
namespace Go.Proofs.YtkbdijkoedmgnaaGreatDoor
open Go.RowKit
open Fdd
set_option linter.unusedVariables false
set_option linter.unusedSimpArgs false
set_option maxRecDepth 20000 in
set_option maxHeartbeats 2000000 in
theorem messageUnlike_walk {s : Sents} {ty1 ty2 : Int} {A1 A2 : Option Addr} {n1 c1 n2 c2 : Nat} {fs1 fs2 : List Fld} (x0 : Int) (W : World) (he0 : Env s W) (hf1 : Fl W A1 n1 fs1) (hf2 : Fl W A2 n2 fs2) :
    Calls Tryz.prog 9 #[.int .i64 x0, msgV ty1 A1 n1 c1, msgV ty2 A2 n2 c2] W fun e W' => e = .returned (.bool true) ∧ Below W.heap.size W W' := by
  have HE := Lib.hid he0
  have HF := Lib.hid hf1
  have HG := Lib.hid hf2
  clear he0 hf1 hf2
  unfold msgV
  go_enter Tryz.func9, Tryz.ntmps9
  go_upto_region 1 with fail
  have hb0 := Blk.new (W) 31 #[.int .i64 ty1, .slice A1 n1 c1]
  have hu0 := (Turn.refl nowhere (W)).alloc (.cells #[.int .i64 ty1, .slice A1 n1 c1] 31)
  have hb1 := Blk.new (W.alloc (.cells #[.int .i64 ty1, .slice A1 n1 c1] 31)) 31 #[.int .i64 ty2, .slice A2 n2 c2]
  have hu1 := (Turn.refl nowhere (W.alloc (.cells #[.int .i64 ty1, .slice A1 n1 c1] 31))).alloc (.cells #[.int .i64 ty2, .slice A2 n2 c2] 31)
  rw [show (W.alloc (.cells #[.int .i64 ty1, .slice A1 n1 c1] 31)).heap.size = W.heap.size + 1 from by simp] at hb1
  have hbz := hb0.alloc (.cells #[.int .i64 ty2, .slice A2 n2 c2] 31)
  have huz := hu0.trans hu1 (fun _ _ e => e)
  clear hb0 hu0 hu1
  obtain ⟨gb, hg1⟩ : ∃ g, g = W.heap.size + 1 := ⟨_, rfl⟩
  rw [← hg1] at hb1 ⊢
  clear hg1
  obtain ⟨ga, hg0⟩ : ∃ g, g = W.heap.size := ⟨_, rfl⟩
  rw [← hg0] at hbz ⊢
  clear hg0
  generalize (W.alloc (.cells #[.int .i64 ty1, .slice A1 n1 c1] 31)).alloc (.cells #[.int .i64 ty2, .slice A2 n2 c2] 31) = w0 at *
  have HBga := Lib.hid hbz
  have HT0 := Lib.hid huz
  clear hbz huz
  have HBgb := Lib.hid hb1
  clear hb1
  refine wp_region_lit ?_
  have hS := shown_walk (s := s) w0 (HE.out.turn HT0.out)
  refine wpList_op rfl fun K9 HK9 => ?_
  go_wp2_with fail
  refine (hS).mono ?_
  rintro e w1 ⟨rfl, htx⟩
  refine HK9.out _ _ ?_
  clear HK9
  try simp only [Act.put, List.setIfInBounds_toArray, List.set_cons_zero, List.set_cons_succ]
  have HT1 := Lib.hid htx
  clear htx hS
  refine wpList_run (v := .bool true) rfl (gx_assign rfl rfl) ?_
  simp only [Act.put, List.setIfInBounds_toArray, List.set_cons_zero, List.set_cons_succ]
  go_upto_region 2 with fail
  refine wp_region_lit ?_
  refine wpList_run (v := .int .i64 x0) rfl (exec_move rfl rfl) ?_
  simp only [Act.put, List.setIfInBounds_toArray, List.set_cons_zero, List.set_cons_succ]
  refine wpList_run (v := msgV ty1 A1 n1 c1) rfl (gx_loads rfl rfl (blk_range (HBga.out.turn HT1.out (fun e => e))) Tryz.underlying31 rfl (by rw [size_msg]; rfl)) ?_
  simp only [Act.put, List.setIfInBounds_toArray, List.set_cons_zero, List.set_cons_succ]
  cases he1 : mencode x0 ty1 fs1 with
  | error k1 =>
    have hE := enc_bad (s := s) (c := c1) he1 (HE.out.turn (HT0.out.trans HT1.out (fun _ _ e => e))) (HF.out.still (HT0.out.trans HT1.out (fun _ _ e => e)))
    refine wpList_op rfl fun K9 HK9 => ?_
    go_wp2_with fail
    refine (hE).mono ?_
    rintro e w2 ⟨A3, n3, c3, rfl, hox, htx⟩
    refine HK9.out _ _ ?_
    clear HK9
    try simp only [Act.put, List.setIfInBounds_toArray, List.set_cons_zero, List.set_cons_succ]
    clear hE
    have HT2 := Lib.hid htx
    clear htx
    obtain ⟨A9, n9, c9, hf9, hb9, hnc9, hz9⟩ := hox.form
    injection hf9 with g1 g2 g3
    subst g1 g2 g3
    have HS2 := Lib.hid hb9
    have HN2 := Lib.hid hnc9
    clear hox hb9 hnc9 hz9
    refine wpList_run (v := .tuple #[.slice A3 n3 c3, .int .i64 k1]) rfl (exec_move rfl rfl) ?_
    simp only [Act.put, List.setIfInBounds_toArray, List.set_cons_zero, List.set_cons_succ]
    refine wpList_run (v := .slice A3 n3 c3) rfl (ix_extract rfl rfl rfl) ?_
    simp only [Act.put, List.setIfInBounds_toArray, List.set_cons_zero, List.set_cons_succ]
    refine wpList_run (v := .int .i64 k1) rfl (ix_extract rfl rfl rfl) ?_
    simp only [Act.put, List.setIfInBounds_toArray, List.set_cons_zero, List.set_cons_succ]
    refine wpList_run (v := .slice A3 n3 c3) rfl (gx_assign rfl rfl) ?_
    simp only [Act.put, List.setIfInBounds_toArray, List.set_cons_zero, List.set_cons_succ]
    refine wpList_run (v := .int .i64 k1) rfl (gx_assign rfl rfl) ?_
    simp only [Act.put, List.setIfInBounds_toArray, List.set_cons_zero, List.set_cons_succ]
    go_upto_region 3 with fail
    refine wp_region_lit ?_
    refine wpList_run (v := .int .i64 x0) rfl (exec_move rfl rfl) ?_
    simp only [Act.put, List.setIfInBounds_toArray, List.set_cons_zero, List.set_cons_succ]
    refine wpList_run (v := msgV ty2 A2 n2 c2) rfl (gx_loads rfl rfl (blk_range (HBgb.out.turn (HT1.out.trans HT2.out (fun _ _ e => e)) (fun e => e))) Tryz.underlying31 rfl (by rw [size_msg]; rfl)) ?_
    simp only [Act.put, List.setIfInBounds_toArray, List.set_cons_zero, List.set_cons_succ]
    cases he2 : mencode x0 ty2 fs2 with
    | error k2 =>
      have hE := enc_bad (s := s) (c := c2) he2 (HE.out.turn ((HT0.out.trans HT1.out (fun _ _ e => e)).trans HT2.out (fun _ _ e => e))) (HG.out.still ((HT0.out.trans HT1.out (fun _ _ e => e)).trans HT2.out (fun _ _ e => e)))
      refine wpList_op rfl fun K9 HK9 => ?_
      go_wp2_with fail
      refine (hE).mono ?_
      rintro e w3 ⟨A4, n4, c4, rfl, hox, htx⟩
      refine HK9.out _ _ ?_
      clear HK9
      try simp only [Act.put, List.setIfInBounds_toArray, List.set_cons_zero, List.set_cons_succ]
      clear hE
      have HT3 := Lib.hid htx
      clear htx
      obtain ⟨A9, n9, c9, hf9, hb9, hnc9, hz9⟩ := hox.form
      injection hf9 with g1 g2 g3
      subst g1 g2 g3
      have HS3 := Lib.hid hb9
      have HN3 := Lib.hid hnc9
      clear hox hb9 hnc9 hz9
      refine wpList_run (v := .tuple #[.slice A4 n4 c4, .int .i64 k2]) rfl (exec_move rfl rfl) ?_
      simp only [Act.put, List.setIfInBounds_toArray, List.set_cons_zero, List.set_cons_succ]
      refine wpList_run (v := .slice A4 n4 c4) rfl (ix_extract rfl rfl rfl) ?_
      simp only [Act.put, List.setIfInBounds_toArray, List.set_cons_zero, List.set_cons_succ]
      refine wpList_run (v := .int .i64 k2) rfl (ix_extract rfl rfl rfl) ?_
      simp only [Act.put, List.setIfInBounds_toArray, List.set_cons_zero, List.set_cons_succ]
      refine wpList_run (v := .slice A4 n4 c4) rfl (gx_assign rfl rfl) ?_
      simp only [Act.put, List.setIfInBounds_toArray, List.set_cons_zero, List.set_cons_succ]
      refine wpList_run (v := .int .i64 k2) rfl (gx_assign rfl rfl) ?_
      simp only [Act.put, List.setIfInBounds_toArray, List.set_cons_zero, List.set_cons_succ]
      go_upto_region 4 with fail
      refine wp_region_lit ?_
      refine wpList_run (v := msgV ty1 A1 n1 c1) rfl (gx_loads rfl rfl (blk_range (HBga.out.turn ((HT1.out.trans HT2.out (fun _ _ e => e)).trans HT3.out (fun _ _ e => e)) (fun e => e))) Tryz.underlying31 rfl (by rw [size_msg]; rfl)) ?_
      simp only [Act.put, List.setIfInBounds_toArray, List.set_cons_zero, List.set_cons_succ]
      refine wpList_run (v := msgV ty2 A2 n2 c2) rfl (gx_loads rfl rfl (blk_range (HBgb.out.turn ((HT1.out.trans HT2.out (fun _ _ e => e)).trans HT3.out (fun _ _ e => e)) (fun e => e))) Tryz.underlying31 rfl (by rw [size_msg]; rfl)) ?_
      simp only [Act.put, List.setIfInBounds_toArray, List.set_cons_zero, List.set_cons_succ]
      have hS := Same_walk (ty1 := ty1) (ty2 := ty2) (c1 := c1) (c2 := c2) (HF.out.still (((HT0.out.trans HT1.out (fun _ _ e => e)).trans HT2.out (fun _ _ e => e)).trans HT3.out (fun _ _ e => e))) (HG.out.still (((HT0.out.trans HT1.out (fun _ _ e => e)).trans HT2.out (fun _ _ e => e)).trans HT3.out (fun _ _ e => e)))
      generalize decide (ty1 = ty2 ∧ fs1 = fs2) = same at *
      refine wpList_op rfl fun K9 HK9 => ?_
      go_wp2_with fail
      refine (hS).mono ?_
      rintro e w4 ⟨rfl, htx⟩
      refine HK9.out _ _ ?_
      clear HK9
      try simp only [Act.put, List.setIfInBounds_toArray, List.set_cons_zero, List.set_cons_succ]
      have HT4 := Lib.hid htx
      clear htx hS
      refine wpList_run (v := .bool same) rfl (gx_assign rfl rfl) ?_
      simp only [Act.put, List.setIfInBounds_toArray, List.set_cons_zero, List.set_cons_succ]
      go_upto_region 5 with fail
      refine wp_region_lit ?_
      refine wpList_run (v := .bool true) rfl (exec_move rfl rfl) ?_
      simp only [Act.put, List.setIfInBounds_toArray, List.set_cons_zero, List.set_cons_succ]
      refine wpList_run (v := .bool true) rfl (exec_move rfl rfl) ?_
      simp only [Act.put, List.setIfInBounds_toArray, List.set_cons_zero, List.set_cons_succ]
      refine wpList_run (v := .int .i64 k1) rfl (exec_move rfl rfl) ?_
      simp only [Act.put, List.setIfInBounds_toArray, List.set_cons_zero, List.set_cons_succ]
      refine wpList_run (v := .bool true) rfl (ix_neq rfl rfl rfl (decide_eq_true (mencode_err he1))) ?_
      simp only [Act.put, List.setIfInBounds_toArray, List.set_cons_zero, List.set_cons_succ]
      clear he1 he2
      go_wp2_with fail
      go_ret
      exact ⟨rfl, (((((HT0.out.trans HT1.out (fun _ _ e => e)).trans HT2.out (fun _ _ e => e)).trans HT3.out (fun _ _ e => e)).trans HT4.out (fun _ _ e => e))).below (Nat.le_refl _) (fun _ _ e => e)⟩
    | ok b2 =>
      have hE := enc_at (s := s) (c := c2) he2 (HE.out.turn ((HT0.out.trans HT1.out (fun _ _ e => e)).trans HT2.out (fun _ _ e => e))) (HG.out.still ((HT0.out.trans HT1.out (fun _ _ e => e)).trans HT2.out (fun _ _ e => e)))
      refine wpList_op rfl fun K9 HK9 => ?_
      go_wp2_with fail
      refine (hE).mono ?_
      rintro e w3 ⟨A4, n4, c4, rfl, hox, htx⟩
      refine HK9.out _ _ ?_
      clear HK9
      try simp only [Act.put, List.setIfInBounds_toArray, List.set_cons_zero, List.set_cons_succ]
      clear hE
      have HT3 := Lib.hid htx
      clear htx
      obtain ⟨A9, n9, c9, hf9, hb9, hnc9, hz9⟩ := hox.form
      injection hf9 with g1 g2 g3
      subst g1 g2 g3
      have HS3 := Lib.hid hb9
      have HN3 := Lib.hid hnc9
      clear hox hb9 hnc9 hz9
      refine wpList_run (v := .tuple #[.slice A4 n4 c4, .int .i64 0]) rfl (exec_move rfl rfl) ?_
      simp only [Act.put, List.setIfInBounds_toArray, List.set_cons_zero, List.set_cons_succ]
      refine wpList_run (v := .slice A4 n4 c4) rfl (ix_extract rfl rfl rfl) ?_
      simp only [Act.put, List.setIfInBounds_toArray, List.set_cons_zero, List.set_cons_succ]
      refine wpList_run (v := .int .i64 0) rfl (ix_extract rfl rfl rfl) ?_
      simp only [Act.put, List.setIfInBounds_toArray, List.set_cons_zero, List.set_cons_succ]
      refine wpList_run (v := .slice A4 n4 c4) rfl (gx_assign rfl rfl) ?_
      simp only [Act.put, List.setIfInBounds_toArray, List.set_cons_zero, List.set_cons_succ]
      refine wpList_run (v := .int .i64 0) rfl (gx_assign rfl rfl) ?_
      simp only [Act.put, List.setIfInBounds_toArray, List.set_cons_zero, List.set_cons_succ]
      go_upto_region 4 with fail
      refine wp_region_lit ?_
      refine wpList_run (v := msgV ty1 A1 n1 c1) rfl (gx_loads rfl rfl (blk_range (HBga.out.turn ((HT1.out.trans HT2.out (fun _ _ e => e)).trans HT3.out (fun _ _ e => e)) (fun e => e))) Tryz.underlying31 rfl (by rw [size_msg]; rfl)) ?_
      simp only [Act.put, List.setIfInBounds_toArray, List.set_cons_zero, List.set_cons_succ]
      refine wpList_run (v := msgV ty2 A2 n2 c2) rfl (gx_loads rfl rfl (blk_range (HBgb.out.turn ((HT1.out.trans HT2.out (fun _ _ e => e)).trans HT3.out (fun _ _ e => e)) (fun e => e))) Tryz.underlying31 rfl (by rw [size_msg]; rfl)) ?_
      simp only [Act.put, List.setIfInBounds_toArray, List.set_cons_zero, List.set_cons_succ]
      have hS := Same_walk (ty1 := ty1) (ty2 := ty2) (c1 := c1) (c2 := c2) (HF.out.still (((HT0.out.trans HT1.out (fun _ _ e => e)).trans HT2.out (fun _ _ e => e)).trans HT3.out (fun _ _ e => e))) (HG.out.still (((HT0.out.trans HT1.out (fun _ _ e => e)).trans HT2.out (fun _ _ e => e)).trans HT3.out (fun _ _ e => e)))
      generalize decide (ty1 = ty2 ∧ fs1 = fs2) = same at *
      refine wpList_op rfl fun K9 HK9 => ?_
      go_wp2_with fail
      refine (hS).mono ?_
      rintro e w4 ⟨rfl, htx⟩
      refine HK9.out _ _ ?_
      clear HK9
      try simp only [Act.put, List.setIfInBounds_toArray, List.set_cons_zero, List.set_cons_succ]
      have HT4 := Lib.hid htx
      clear htx hS
      refine wpList_run (v := .bool same) rfl (gx_assign rfl rfl) ?_
      simp only [Act.put, List.setIfInBounds_toArray, List.set_cons_zero, List.set_cons_succ]
      go_upto_region 5 with fail
      refine wp_region_lit ?_
      refine wpList_run (v := .bool true) rfl (exec_move rfl rfl) ?_
      simp only [Act.put, List.setIfInBounds_toArray, List.set_cons_zero, List.set_cons_succ]
      refine wpList_run (v := .bool true) rfl (exec_move rfl rfl) ?_
      simp only [Act.put, List.setIfInBounds_toArray, List.set_cons_zero, List.set_cons_succ]
      refine wpList_run (v := .int .i64 k1) rfl (exec_move rfl rfl) ?_
      simp only [Act.put, List.setIfInBounds_toArray, List.set_cons_zero, List.set_cons_succ]
      refine wpList_run (v := .bool true) rfl (ix_neq rfl rfl rfl (decide_eq_true (mencode_err he1))) ?_
      simp only [Act.put, List.setIfInBounds_toArray, List.set_cons_zero, List.set_cons_succ]
      clear he1 he2
      go_wp2_with fail
      go_ret
      exact ⟨rfl, (((((HT0.out.trans HT1.out (fun _ _ e => e)).trans HT2.out (fun _ _ e => e)).trans HT3.out (fun _ _ e => e)).trans HT4.out (fun _ _ e => e))).below (Nat.le_refl _) (fun _ _ e => e)⟩
  | ok b1 =>
    have hE := enc_at (s := s) (c := c1) he1 (HE.out.turn (HT0.out.trans HT1.out (fun _ _ e => e))) (HF.out.still (HT0.out.trans HT1.out (fun _ _ e => e)))
    refine wpList_op rfl fun K9 HK9 => ?_
    go_wp2_with fail
    refine (hE).mono ?_
    rintro e w2 ⟨A3, n3, c3, rfl, hox, htx⟩
    refine HK9.out _ _ ?_
    clear HK9
    try simp only [Act.put, List.setIfInBounds_toArray, List.set_cons_zero, List.set_cons_succ]
    clear hE
    have HT2 := Lib.hid htx
    clear htx
    obtain ⟨A9, n9, c9, hf9, hb9, hnc9, hz9⟩ := hox.form
    injection hf9 with g1 g2 g3
    subst g1 g2 g3
    have HS2 := Lib.hid hb9
    have HN2 := Lib.hid hnc9
    clear hox hb9 hnc9 hz9
    refine wpList_run (v := .tuple #[.slice A3 n3 c3, .int .i64 0]) rfl (exec_move rfl rfl) ?_
    simp only [Act.put, List.setIfInBounds_toArray, List.set_cons_zero, List.set_cons_succ]
    refine wpList_run (v := .slice A3 n3 c3) rfl (ix_extract rfl rfl rfl) ?_
    simp only [Act.put, List.setIfInBounds_toArray, List.set_cons_zero, List.set_cons_succ]
    refine wpList_run (v := .int .i64 0) rfl (ix_extract rfl rfl rfl) ?_
    simp only [Act.put, List.setIfInBounds_toArray, List.set_cons_zero, List.set_cons_succ]
    refine wpList_run (v := .slice A3 n3 c3) rfl (gx_assign rfl rfl) ?_
    simp only [Act.put, List.setIfInBounds_toArray, List.set_cons_zero, List.set_cons_succ]
    refine wpList_run (v := .int .i64 0) rfl (gx_assign rfl rfl) ?_
    simp only [Act.put, List.setIfInBounds_toArray, List.set_cons_zero, List.set_cons_succ]
    go_upto_region 3 with fail
    refine wp_region_lit ?_
    refine wpList_run (v := .int .i64 x0) rfl (exec_move rfl rfl) ?_
    simp only [Act.put, List.setIfInBounds_toArray, List.set_cons_zero, List.set_cons_succ]
    refine wpList_run (v := msgV ty2 A2 n2 c2) rfl (gx_loads rfl rfl (blk_range (HBgb.out.turn (HT1.out.trans HT2.out (fun _ _ e => e)) (fun e => e))) Tryz.underlying31 rfl (by rw [size_msg]; rfl)) ?_
    simp only [Act.put, List.setIfInBounds_toArray, List.set_cons_zero, List.set_cons_succ]
    cases he2 : mencode x0 ty2 fs2 with
    | error k2 =>
      have hE := enc_bad (s := s) (c := c2) he2 (HE.out.turn ((HT0.out.trans HT1.out (fun _ _ e => e)).trans HT2.out (fun _ _ e => e))) (HG.out.still ((HT0.out.trans HT1.out (fun _ _ e => e)).trans HT2.out (fun _ _ e => e)))
      refine wpList_op rfl fun K9 HK9 => ?_
      go_wp2_with fail
      refine (hE).mono ?_
      rintro e w3 ⟨A4, n4, c4, rfl, hox, htx⟩
      refine HK9.out _ _ ?_
      clear HK9
      try simp only [Act.put, List.setIfInBounds_toArray, List.set_cons_zero, List.set_cons_succ]
      clear hE
      have HT3 := Lib.hid htx
      clear htx
      obtain ⟨A9, n9, c9, hf9, hb9, hnc9, hz9⟩ := hox.form
      injection hf9 with g1 g2 g3
      subst g1 g2 g3
      have HS3 := Lib.hid hb9
      have HN3 := Lib.hid hnc9
      clear hox hb9 hnc9 hz9
      refine wpList_run (v := .tuple #[.slice A4 n4 c4, .int .i64 k2]) rfl (exec_move rfl rfl) ?_
      simp only [Act.put, List.setIfInBounds_toArray, List.set_cons_zero, List.set_cons_succ]
      refine wpList_run (v := .slice A4 n4 c4) rfl (ix_extract rfl rfl rfl) ?_
      simp only [Act.put, List.setIfInBounds_toArray, List.set_cons_zero, List.set_cons_succ]
      refine wpList_run (v := .int .i64 k2) rfl (ix_extract rfl rfl rfl) ?_
      simp only [Act.put, List.setIfInBounds_toArray, List.set_cons_zero, List.set_cons_succ]
      refine wpList_run (v := .slice A4 n4 c4) rfl (gx_assign rfl rfl) ?_
      simp only [Act.put, List.setIfInBounds_toArray, List.set_cons_zero, List.set_cons_succ]
      refine wpList_run (v := .int .i64 k2) rfl (gx_assign rfl rfl) ?_
      simp only [Act.put, List.setIfInBounds_toArray, List.set_cons_zero, List.set_cons_succ]
      go_upto_region 4 with fail
      refine wp_region_lit ?_
      refine wpList_run (v := msgV ty1 A1 n1 c1) rfl (gx_loads rfl rfl (blk_range (HBga.out.turn ((HT1.out.trans HT2.out (fun _ _ e => e)).trans HT3.out (fun _ _ e => e)) (fun e => e))) Tryz.underlying31 rfl (by rw [size_msg]; rfl)) ?_
      simp only [Act.put, List.setIfInBounds_toArray, List.set_cons_zero, List.set_cons_succ]
      refine wpList_run (v := msgV ty2 A2 n2 c2) rfl (gx_loads rfl rfl (blk_range (HBgb.out.turn ((HT1.out.trans HT2.out (fun _ _ e => e)).trans HT3.out (fun _ _ e => e)) (fun e => e))) Tryz.underlying31 rfl (by rw [size_msg]; rfl)) ?_
      simp only [Act.put, List.setIfInBounds_toArray, List.set_cons_zero, List.set_cons_succ]
      have hS := Same_walk (ty1 := ty1) (ty2 := ty2) (c1 := c1) (c2 := c2) (HF.out.still (((HT0.out.trans HT1.out (fun _ _ e => e)).trans HT2.out (fun _ _ e => e)).trans HT3.out (fun _ _ e => e))) (HG.out.still (((HT0.out.trans HT1.out (fun _ _ e => e)).trans HT2.out (fun _ _ e => e)).trans HT3.out (fun _ _ e => e)))
      generalize decide (ty1 = ty2 ∧ fs1 = fs2) = same at *
      refine wpList_op rfl fun K9 HK9 => ?_
      go_wp2_with fail
      refine (hS).mono ?_
      rintro e w4 ⟨rfl, htx⟩
      refine HK9.out _ _ ?_
      clear HK9
      try simp only [Act.put, List.setIfInBounds_toArray, List.set_cons_zero, List.set_cons_succ]
      have HT4 := Lib.hid htx
      clear htx hS
      refine wpList_run (v := .bool same) rfl (gx_assign rfl rfl) ?_
      simp only [Act.put, List.setIfInBounds_toArray, List.set_cons_zero, List.set_cons_succ]
      go_upto_region 5 with fail
      refine wp_region_lit ?_
      refine wpList_run (v := .bool true) rfl (exec_move rfl rfl) ?_
      simp only [Act.put, List.setIfInBounds_toArray, List.set_cons_zero, List.set_cons_succ]
      refine wpList_run (v := .bool true) rfl (exec_move rfl rfl) ?_
      simp only [Act.put, List.setIfInBounds_toArray, List.set_cons_zero, List.set_cons_succ]
      refine wpList_run (v := .int .i64 0) rfl (exec_move rfl rfl) ?_
      simp only [Act.put, List.setIfInBounds_toArray, List.set_cons_zero, List.set_cons_succ]
      refine wpList_run (v := .bool false) rfl (ix_neq rfl rfl rfl (by decide)) ?_
      simp only [Act.put, List.setIfInBounds_toArray, List.set_cons_zero, List.set_cons_succ]
      refine wpList_run (v := .bool false) rfl (exec_move rfl rfl) ?_
      simp only [Act.put, List.setIfInBounds_toArray, List.set_cons_zero, List.set_cons_succ]
      refine wpList_run (v := .int .i64 k2) rfl (exec_move rfl rfl) ?_
      simp only [Act.put, List.setIfInBounds_toArray, List.set_cons_zero, List.set_cons_succ]
      refine wpList_run (v := .bool true) rfl (ix_neq rfl rfl rfl (decide_eq_true (mencode_err he2))) ?_
      simp only [Act.put, List.setIfInBounds_toArray, List.set_cons_zero, List.set_cons_succ]
      clear he1 he2
      go_wp2_with fail
      go_ret
      exact ⟨rfl, (((((HT0.out.trans HT1.out (fun _ _ e => e)).trans HT2.out (fun _ _ e => e)).trans HT3.out (fun _ _ e => e)).trans HT4.out (fun _ _ e => e))).below (Nat.le_refl _) (fun _ _ e => e)⟩
    | ok b2 =>
      have hE := enc_at (s := s) (c := c2) he2 (HE.out.turn ((HT0.out.trans HT1.out (fun _ _ e => e)).trans HT2.out (fun _ _ e => e))) (HG.out.still ((HT0.out.trans HT1.out (fun _ _ e => e)).trans HT2.out (fun _ _ e => e)))
      refine wpList_op rfl fun K9 HK9 => ?_
      go_wp2_with fail
      refine (hE).mono ?_
      rintro e w3 ⟨A4, n4, c4, rfl, hox, htx⟩
      refine HK9.out _ _ ?_
      clear HK9
      try simp only [Act.put, List.setIfInBounds_toArray, List.set_cons_zero, List.set_cons_succ]
      clear hE
      have HT3 := Lib.hid htx
      clear htx
      obtain ⟨A9, n9, c9, hf9, hb9, hnc9, hz9⟩ := hox.form
      injection hf9 with g1 g2 g3
      subst g1 g2 g3
      have HS3 := Lib.hid hb9
      have HN3 := Lib.hid hnc9
      clear hox hb9 hnc9 hz9
      refine wpList_run (v := .tuple #[.slice A4 n4 c4, .int .i64 0]) rfl (exec_move rfl rfl) ?_
      simp only [Act.put, List.setIfInBounds_toArray, List.set_cons_zero, List.set_cons_succ]
      refine wpList_run (v := .slice A4 n4 c4) rfl (ix_extract rfl rfl rfl) ?_
      simp only [Act.put, List.setIfInBounds_toArray, List.set_cons_zero, List.set_cons_succ]
      refine wpList_run (v := .int .i64 0) rfl (ix_extract rfl rfl rfl) ?_
      simp only [Act.put, List.setIfInBounds_toArray, List.set_cons_zero, List.set_cons_succ]
      refine wpList_run (v := .slice A4 n4 c4) rfl (gx_assign rfl rfl) ?_
      simp only [Act.put, List.setIfInBounds_toArray, List.set_cons_zero, List.set_cons_succ]
      refine wpList_run (v := .int .i64 0) rfl (gx_assign rfl rfl) ?_
      simp only [Act.put, List.setIfInBounds_toArray, List.set_cons_zero, List.set_cons_succ]
      go_upto_region 4 with fail
      refine wp_region_lit ?_
      refine wpList_run (v := msgV ty1 A1 n1 c1) rfl (gx_loads rfl rfl (blk_range (HBga.out.turn ((HT1.out.trans HT2.out (fun _ _ e => e)).trans HT3.out (fun _ _ e => e)) (fun e => e))) Tryz.underlying31 rfl (by rw [size_msg]; rfl)) ?_
      simp only [Act.put, List.setIfInBounds_toArray, List.set_cons_zero, List.set_cons_succ]
      refine wpList_run (v := msgV ty2 A2 n2 c2) rfl (gx_loads rfl rfl (blk_range (HBgb.out.turn ((HT1.out.trans HT2.out (fun _ _ e => e)).trans HT3.out (fun _ _ e => e)) (fun e => e))) Tryz.underlying31 rfl (by rw [size_msg]; rfl)) ?_
      simp only [Act.put, List.setIfInBounds_toArray, List.set_cons_zero, List.set_cons_succ]
      have hS := Same_walk (ty1 := ty1) (ty2 := ty2) (c1 := c1) (c2 := c2) (HF.out.still (((HT0.out.trans HT1.out (fun _ _ e => e)).trans HT2.out (fun _ _ e => e)).trans HT3.out (fun _ _ e => e))) (HG.out.still (((HT0.out.trans HT1.out (fun _ _ e => e)).trans HT2.out (fun _ _ e => e)).trans HT3.out (fun _ _ e => e)))
      by_cases hsame : ty1 = ty2 ∧ fs1 = fs2
      · rw [decide_eq_true hsame] at hS
        have HSM := Lib.hid hsame
        clear hsame
        refine wpList_op rfl fun K9 HK9 => ?_
        go_wp2_with fail
        refine (hS).mono ?_
        rintro e w4 ⟨rfl, htx⟩
        refine HK9.out _ _ ?_
        clear HK9
        try simp only [Act.put, List.setIfInBounds_toArray, List.set_cons_zero, List.set_cons_succ]
        have HT4 := Lib.hid htx
        clear htx hS
        refine wpList_run (v := .bool true) rfl (gx_assign rfl rfl) ?_
        simp only [Act.put, List.setIfInBounds_toArray, List.set_cons_zero, List.set_cons_succ]
        obtain rfl : b1 = b2 := by
          obtain ⟨rfl, rfl⟩ := HSM.out
          rw [he1] at he2
          injection he2
        clear he1 he2
        go_upto_region 5 with fail
        refine wp_region_lit ?_
        refine wpList_run (v := .bool true) (by kernel_rfl) (exec_move rfl rfl) ?_
        simp only [Act.put, List.setIfInBounds_toArray, List.set_cons_zero, List.set_cons_succ]
        refine wpList_run (v := .bool true) (by kernel_rfl) (exec_move rfl rfl) ?_
        simp only [Act.put, List.setIfInBounds_toArray, List.set_cons_zero, List.set_cons_succ]
        refine wpList_run (v := .int .i64 0) (by kernel_rfl) (exec_move rfl rfl) ?_
        simp only [Act.put, List.setIfInBounds_toArray, List.set_cons_zero, List.set_cons_succ]
        refine wpList_run (v := .bool false) (by kernel_rfl) (ix_neq rfl rfl rfl (by decide)) ?_
        simp only [Act.put, List.setIfInBounds_toArray, List.set_cons_zero, List.set_cons_succ]
        refine wpList_run (v := .bool false) (by kernel_rfl) (exec_move rfl rfl) ?_
        simp only [Act.put, List.setIfInBounds_toArray, List.set_cons_zero, List.set_cons_succ]
        refine wpList_run (v := .int .i64 0) (by kernel_rfl) (exec_move rfl rfl) ?_
        simp only [Act.put, List.setIfInBounds_toArray, List.set_cons_zero, List.set_cons_succ]
        refine wpList_run (v := .bool false) (by kernel_rfl) (ix_neq rfl rfl rfl (by decide)) ?_
        simp only [Act.put, List.setIfInBounds_toArray, List.set_cons_zero, List.set_cons_succ]
        refine wpList_run (v := .bool false) (by kernel_rfl) (ix_pickF rfl rfl rfl) ?_
        simp only [Act.put, List.setIfInBounds_toArray, List.set_cons_zero, List.set_cons_succ]
        refine wpList_run (v := .bool false) (by kernel_rfl) (exec_move rfl rfl) ?_
        simp only [Act.put, List.setIfInBounds_toArray, List.set_cons_zero, List.set_cons_succ]
        refine wpList_run (v := .slice A3 n3 c3) (by kernel_rfl) (exec_move rfl rfl) ?_
        simp only [Act.put, List.setIfInBounds_toArray, List.set_cons_zero, List.set_cons_succ]
        refine wpList_run (v := strV b1) (by kernel_rfl) (exec_strBs (l := b1) rfl rfl (bs_still HS2.out (HT3.out.trans HT4.out (fun _ _ e => e)))) ?_
        simp only [Act.put, List.setIfInBounds_toArray, List.set_cons_zero, List.set_cons_succ]
        refine wpList_run (v := .slice A4 n4 c4) (by kernel_rfl) (exec_move rfl rfl) ?_
        simp only [Act.put, List.setIfInBounds_toArray, List.set_cons_zero, List.set_cons_succ]
        refine wpList_run (v := strV b1) (by kernel_rfl) (exec_strBs (l := b1) rfl rfl (bs_still HS3.out HT4.out)) ?_
        simp only [Act.put, List.setIfInBounds_toArray, List.set_cons_zero, List.set_cons_succ]
        refine wpList_run (v := .bool true) (by kernel_rfl) (seql_same (l := b1) rfl rfl rfl) ?_
        simp only [Act.put, List.setIfInBounds_toArray, List.set_cons_zero, List.set_cons_succ]
        refine wpList_run (v := .bool true) (by kernel_rfl) (exec_move rfl rfl) ?_
        simp only [Act.put, List.setIfInBounds_toArray, List.set_cons_zero, List.set_cons_succ]
        refine wpList_run (v := .bool true) (by kernel_rfl) (bx_eqb (p := true) (q := true) rfl rfl rfl) ?_
        simp only [Act.put, List.setIfInBounds_toArray, List.set_cons_zero, List.set_cons_succ]
        refine wpList_run (v := .bool true) (by kernel_rfl) (ix_pickF rfl rfl rfl) ?_
        simp only [Act.put, List.setIfInBounds_toArray, List.set_cons_zero, List.set_cons_succ]
        refine wpList_run (v := .bool true) (by kernel_rfl) (ix_pickT rfl rfl rfl) ?_
        simp only [Act.put, List.setIfInBounds_toArray, List.set_cons_zero, List.set_cons_succ]
        refine wpList_run (v := .bool true) (by kernel_rfl) (gx_assign rfl rfl) ?_
        simp only [Act.put, List.setIfInBounds_toArray, List.set_cons_zero, List.set_cons_succ]
        go_wp2_with fail
        go_ret
        exact ⟨rfl, (((((HT0.out.trans HT1.out (fun _ _ e => e)).trans HT2.out (fun _ _ e => e)).trans HT3.out (fun _ _ e => e)).trans HT4.out (fun _ _ e => e))).below (Nat.le_refl _) (fun _ _ e => e)⟩
      · rw [decide_eq_false hsame] at hS
        have HSM := Lib.hid hsame
        clear hsame
        refine wpList_op rfl fun K9 HK9 => ?_
        go_wp2_with fail
        refine (hS).mono ?_
        rintro e w4 ⟨rfl, htx⟩
        refine HK9.out _ _ ?_
        clear HK9
        try simp only [Act.put, List.setIfInBounds_toArray, List.set_cons_zero, List.set_cons_succ]
        have HT4 := Lib.hid htx
        clear htx hS
        refine wpList_run (v := .bool false) rfl (gx_assign rfl rfl) ?_
        simp only [Act.put, List.setIfInBounds_toArray, List.set_cons_zero, List.set_cons_succ]
        have HNE := Lib.hid (show b1 ≠ b2 from by
          rintro rfl
          exact HSM.out (mencode_inj he1 he2))
        clear he1 he2
        go_upto_region 5 with fail
        refine wp_region_lit ?_
        refine wpList_run (v := .bool true) (by kernel_rfl) (exec_move rfl rfl) ?_
        simp only [Act.put, List.setIfInBounds_toArray, List.set_cons_zero, List.set_cons_succ]
        refine wpList_run (v := .bool true) (by kernel_rfl) (exec_move rfl rfl) ?_
        simp only [Act.put, List.setIfInBounds_toArray, List.set_cons_zero, List.set_cons_succ]
        refine wpList_run (v := .int .i64 0) (by kernel_rfl) (exec_move rfl rfl) ?_
        simp only [Act.put, List.setIfInBounds_toArray, List.set_cons_zero, List.set_cons_succ]
        refine wpList_run (v := .bool false) (by kernel_rfl) (ix_neq rfl rfl rfl (by decide)) ?_
        simp only [Act.put, List.setIfInBounds_toArray, List.set_cons_zero, List.set_cons_succ]
        refine wpList_run (v := .bool false) (by kernel_rfl) (exec_move rfl rfl) ?_
        simp only [Act.put, List.setIfInBounds_toArray, List.set_cons_zero, List.set_cons_succ]
        refine wpList_run (v := .int .i64 0) (by kernel_rfl) (exec_move rfl rfl) ?_
        simp only [Act.put, List.setIfInBounds_toArray, List.set_cons_zero, List.set_cons_succ]
        refine wpList_run (v := .bool false) (by kernel_rfl) (ix_neq rfl rfl rfl (by decide)) ?_
        simp only [Act.put, List.setIfInBounds_toArray, List.set_cons_zero, List.set_cons_succ]
        refine wpList_run (v := .bool false) (by kernel_rfl) (ix_pickF rfl rfl rfl) ?_
        simp only [Act.put, List.setIfInBounds_toArray, List.set_cons_zero, List.set_cons_succ]
        refine wpList_run (v := .bool false) (by kernel_rfl) (exec_move rfl rfl) ?_
        simp only [Act.put, List.setIfInBounds_toArray, List.set_cons_zero, List.set_cons_succ]
        refine wpList_run (v := .slice A3 n3 c3) (by kernel_rfl) (exec_move rfl rfl) ?_
        simp only [Act.put, List.setIfInBounds_toArray, List.set_cons_zero, List.set_cons_succ]
        refine wpList_run (v := strV b1) (by kernel_rfl) (exec_strBs (l := b1) rfl rfl (bs_still HS2.out (HT3.out.trans HT4.out (fun _ _ e => e)))) ?_
        simp only [Act.put, List.setIfInBounds_toArray, List.set_cons_zero, List.set_cons_succ]
        refine wpList_run (v := .slice A4 n4 c4) (by kernel_rfl) (exec_move rfl rfl) ?_
        simp only [Act.put, List.setIfInBounds_toArray, List.set_cons_zero, List.set_cons_succ]
        refine wpList_run (v := strV b2) (by kernel_rfl) (exec_strBs (l := b2) rfl rfl (bs_still HS3.out HT4.out)) ?_
        simp only [Act.put, List.setIfInBounds_toArray, List.set_cons_zero, List.set_cons_succ]
        refine wpList_run (v := .bool false) (by kernel_rfl) (seql_not (l := b1) (m := b2) rfl rfl rfl HNE.out) ?_
        simp only [Act.put, List.setIfInBounds_toArray, List.set_cons_zero, List.set_cons_succ]
        refine wpList_run (v := .bool false) (by kernel_rfl) (exec_move rfl rfl) ?_
        simp only [Act.put, List.setIfInBounds_toArray, List.set_cons_zero, List.set_cons_succ]
        refine wpList_run (v := .bool true) (by kernel_rfl) (bx_eqb (p := false) (q := false) rfl rfl rfl) ?_
        simp only [Act.put, List.setIfInBounds_toArray, List.set_cons_zero, List.set_cons_succ]
        refine wpList_run (v := .bool true) (by kernel_rfl) (ix_pickF rfl rfl rfl) ?_
        simp only [Act.put, List.setIfInBounds_toArray, List.set_cons_zero, List.set_cons_succ]
        refine wpList_run (v := .bool true) (by kernel_rfl) (ix_pickT rfl rfl rfl) ?_
        simp only [Act.put, List.setIfInBounds_toArray, List.set_cons_zero, List.set_cons_succ]
        refine wpList_run (v := .bool true) (by kernel_rfl) (gx_assign rfl rfl) ?_
        simp only [Act.put, List.setIfInBounds_toArray, List.set_cons_zero, List.set_cons_succ]
        go_wp2_with fail
        go_ret
        exact ⟨rfl, (((((HT0.out.trans HT1.out (fun _ _ e => e)).trans HT2.out (fun _ _ e => e)).trans HT3.out (fun _ _ e => e)).trans HT4.out (fun _ _ e => e))).below (Nat.le_refl _) (fun _ _ e => e)⟩
end Go.Proofs.YtkbdijkoedmgnaaGreatDoor

namespace Go.Proofs.YtkbdijkoedmgnaaGreatDoor.messageUnlike
open Go.ChangeShapes Go.WideShapes Go.ChangeAt Go.RowKit
open Go.ChangeMaps (open_string shut_string)
set_option linter.unusedVariables false

theorem own : ownKnob Tryz.prog.godebug = none := by kernel_rfl
theorem laidOut : laidOutB Tryz.prog = true := by kernel_rfl

set_option maxRecDepth 100000 in
/-- WHAT THE WALK GIVES, FOR EVERY ARGUMENT AND EVERY WORLD: the same for both forms. -/
theorem contract (H : Type) (enc : TypeId × Value → H) (W : World) (base : Nat) (args : Array Value) (ds gs : List (DataW H)) (before : List MemPlace)
    (hval : ∀ (j : Nat) t v, Tryz.f9.params[j]? = some t → args[j]? = some v → Value.okWide Tryz.prog W .any base t v)
    (hW : DataW.Whole enc Tryz.prog Tryz.f9.params.toList Rows.messageUnlikeSpec.vars false W args.toList ds gs before) (hsz0 : (DataW.weightsEach Tryz.prog (Tryz.f9.params.toList ++ Rows.messageUnlikeSpec.plain.varTypes Tryz.prog) (ds ++ gs)).all (· ≤ reachBytes) = true) (hL : laidMetH Tryz.prog Rows.messageUnlikeRow.laid W) (hsh : W.ShapedOpen Tryz.prog) :
    Calls Tryz.prog 9 args W fun e W' => ∃ v, e = .returned v ∧ Rows.messageUnlikeSpec.post enc Tryz.prog Tryz.f9 false true false false W args v W' := by
  have hW' := hW
  obtain ⟨p, q, hA0, hV, rfl, hfz, hnd⟩ := hW
  have hA : DataW.TrodAll enc Tryz.prog W 0 (fun _ => true) true Tryz.f9.params.toList args.toList ds p := hA0
  have hsz : (DataW.weightsEach Tryz.prog (Tryz.f9.params.toList ++ Rows.messageUnlikeSpec.plain.varTypes Tryz.prog) (ds ++ gs)).all (· ≤ reachBytes) = true := hsz0
  rw [Tryz.params9] at hA hval hsz
  obtain ⟨v0, vs0, d0, ds0, p0, q0, hargs, rfl, rfl, h0, r0⟩ := trodAll_cons hA
  obtain ⟨v1, vs1, d1, ds1, p1, q1, rfl, rfl, rfl, h1, r1⟩ := trodAll_cons r0
  obtain ⟨v2, vs2, d2, ds2, p2, q2, rfl, rfl, rfl, h2, r2⟩ := trodAll_cons r1
  obtain ⟨rfl, rfl, rfl⟩ := trodAll_nil r2
  obtain rfl : args = #[v0, v1, v2] := by cases args; simp_all
  obtain ⟨rfl, rfl⟩ := trodVars_none hV
  obtain ⟨x0, rfl, rfl, rfl, w0⟩ := open_int Tryz.underlying3 (hval 0 3 v0 rfl rfl) h0
  have k1 := h1
  have lt1 : ∀ x ∈ p1, x.block < W.heap.size := by obtain ⟨m, hm⟩ := k1; exact DataW.trod_lt m _ _ _ hm
  obtain ⟨ty1, a1, len1, cap1, z1, rfl, w1, tyw1, lc1, nn1, fw1⟩ := msg_of (hval 1 31 v1 rfl rfl) h1 (fun x hx => by simpa using List.all_eq_true.1 hsz _ (DataW.weights_mem_each (j := 1) (t := 31) rfl rfl x hx))
  have k2 := h2
  have lt2 : ∀ x ∈ p2, x.block < W.heap.size := by obtain ⟨m, hm⟩ := k2; exact DataW.trod_lt m _ _ _ hm
  obtain ⟨ty2, a2, len2, cap2, z2, rfl, w2, tyw2, lc2, nn2, fw2⟩ := msg_of (hval 2 31 v2 rfl rfl) h2 (fun x hx => by simpa using List.all_eq_true.1 hsz _ (DataW.weights_mem_each (j := 2) (t := 31) rfl rfl x hx))
  obtain ⟨s, henv⟩ := env_of_laid (l := Rows.messageUnlikeRow.laid) rfl hL
  clear hA0
  refine (messageUnlike_walk x0 W henv w1 w2).mono fun e W' ⟨he, bel⟩ => ?_
  subst he
  exact ⟨_, rfl, _, _, _, [], _, [], hW', trodAll_mk1 (shut_bool Tryz.underlying4 _), (trodAll_cons_mk (shut_int Tryz.underlying3 w0) (trodAll_cons_mk (Below.trod laidOut (by kernel_rfl) (of_decide_eq_true (by kernel_rfl)) k1 bel lt1) (trodAll_cons_mk (Below.trod laidOut (by kernel_rfl) (of_decide_eq_true (by kernel_rfl)) k2 bel lt2) trodAll_mk0))), rfl, bel.frame _, fun h => by cases h⟩

theorem laid_met (os : Os) : laidMetH Tryz.prog Rows.messageUnlikeRow.laid ((hworld os Rows.messageUnlikeRow.laid).forCall (fun _ _ => 0) ⟨#[], #[.int .i64 0, .agg #[.int .i64 0, .slice none 0 0], .agg #[.int .i64 0, .slice none 0 0]], []⟩).memory :=
  laidH_hworld _ (by kernel_rfl) (by kernel_rfl) (by kernel_rfl)
theorem reads (os : Os) {H : Type} (enc : TypeId × Value → H) : ∃ places, DataW.whole enc Tryz.prog ((hworld os Rows.messageUnlikeRow.laid).forCall (fun _ _ => 0) ⟨#[], #[.int .i64 0, .agg #[.int .i64 0, .slice none 0 0], .agg #[.int .i64 0, .slice none 0 0]], []⟩).memory Tryz.f9.params.toList Rows.messageUnlikeSpec.vars false [.int .i64 0, .agg #[.int .i64 0, .slice none 0 0], .agg #[.int .i64 0, .slice none 0 0]] 8 = some ([.lit (.int .i64 0), .agg [.lit (.int .i64 0), .nil], .agg [.lit (.int .i64 0), .nil]], [], places) :=
  ⟨[], by kernel_rfl⟩

set_option maxRecDepth 100000 in
theorem lifted (os : Os) (started : os.Started) (H : Type) (enc : TypeId × Value → H) (F : Stop.Interp) :
    ReturnsInHanded {} Tryz.checked os 9 .any ((OpenSpec.ofChange Rows.messageUnlikeSpec).preRow enc Tryz.prog Tryz.f9 Rows.messageUnlikeRow.domain false Rows.messageUnlikeRow.laid) (((OpenSpec.ofChange Rows.messageUnlikeSpec).at F).post enc Tryz.prog Tryz.f9 false true false false) := by
  obtain ⟨places, hx⟩ := reads os enc
  refine returnsInHanded_of_row (C := Tryz.checked) (s := OpenSpec.ofChange Rows.messageUnlikeSpec) own started (by kernel_rfl) Tryz.func9
    (witness_zip (enc := enc) (C := Tryz.checked) false (hworld os Rows.messageUnlikeRow.laid) #[.int .i64 0, .agg #[.int .i64 0, .slice none 0 0], .agg #[.int .i64 0, .slice none 0 0]] (hworld_os _ _) (World.shaped_of_ZipB (by kernel_rfl) (by kernel_rfl)) (by kernel_rfl)
      (OpenSpec.preRow_of_cond 8 hx (by kernel_rfl) (fun k hk => by cases hk) (by kernel_rfl) (laid_met os))) ?_
  intro W base args ds gs before hval hW _ hcond hsz hL hsh _
  exact contract H enc W base args ds gs before hval hW hsz hL hsh

theorem said : Rows.MessageUnlikeSaid :=
  OpenClaim.holds_of_cond 9 Tryz.f9 rfl rfl rfl rfl rfl rfl rfl ⟨rfl, rfl, rfl, rfl, rfl⟩ rfl rfl rfl rfl rfl (by kernel_rfl) Tryz.func9 (by kernel_rfl)
    (of_decide_eq_true (by kernel_rfl)) (by unfold Func.isWrapper; first | (rw [if_pos (by decide +kernel)]; kernel_rfl) | (rw [if_neg (by decide +kernel)]; exact ⟨rfl, rfl⟩))
    (fun os started H enc _ F => by rw [OpenClaim.pre_eq_preRow]; exact lifted os started H enc F)

theorem plain (f : FuncId) (fn : Func) (hf : Tryz.pinned.checked.prog.funcNamed "groat/groatlaw05.MessageUnlike" = some f) (hfn : Tryz.pinned.checked.prog.funcs[f]? = some fn) :
    true = Tryz.pinned.checked.prog.looks [] ∧ ∀ (j : Nat) t, fn.params[j]? = some t → Tryz.pinned.checked.prog.wantsStandIn t = false := by
  obtain rfl : f = 9 := Option.some.inj ((show Tryz.prog.funcNamed "groat/groatlaw05.MessageUnlike" = some 9 by kernel_rfl).symm.trans hf) |>.symm
  obtain rfl : fn = Tryz.f9 := (Option.some.inj (Tryz.func9.symm.trans hfn)).symm
  refine ⟨by kernel_rfl, fun j t ht => ?_⟩
  rw [Tryz.params9] at ht
  have hm : t ∈ [3, 31, 31] := by simpa using Array.mem_of_getElem? ht
  have hall : ([3, 31, 31].all fun u => !Tryz.prog.wantsStandIn u) = true := by kernel_rfl
  exact (show Tryz.prog.wantsStandIn t = false by simpa using List.all_eq_true.1 hall t hm)

/-- THE CARD -/
theorem card : Rows.MessageUnlikeCardSaid :=
  Claim7.holds_tied_plain_at .later [] _ _ _ _ said (fun _ h => by cases h) (by kernel_rfl) (fun _ h => by cases h) messageUnlike_row_tie rfl ⟨rfl, rfl⟩ (by kernel_rfl) rfl plain (by kernel_rfl)
#print axioms card
end Go.Proofs.YtkbdijkoedmgnaaGreatDoor.messageUnlike
