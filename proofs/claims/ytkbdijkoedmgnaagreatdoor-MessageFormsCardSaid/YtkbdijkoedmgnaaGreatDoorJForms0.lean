/-
  Several texts in one file, in their order:
  - message's Form. Conditions: the tables and the errors read as the program's text lays them.
  - The reference's there and Form. No conditions.
  - groatlaw05's MessageForms: the walk. Conditions: the tables and the errors read as the program's text lays them.
  - PROOF: groatlaw05: for every input the law MessageForms returns true, and each argument reads as it did. Its conditions are the row's own cells (the listed variables read as the program's text lays them: the card ties them).
-/
import Derived.Test.YtkbdijkoedmgnaaGreatDoorJa3
import Derived.Test.YtkbdijkoedmgnaaGreatDoorCards
import Derived.Test.YtkbdijkoedmgnaaGreatDoorTie
import Derived.Test.YtkbdijkoedmgnaaGreatDoorJa4
import Derived.WalkKit
import Derived.ProofKit
import Derived.OpenShut
import Derived.ShutString
import Derived.ChangeOld
import Derived.Below
import Derived.SizedLaws
import Derived.LaidMore
import Derived.Deep.DeepHandedRow
import Derived.Deep.DeepWitnessRowRef
import Derived.Lib.LaidTab
import Derived.Lib.SmallJoins
namespace Go.Proofs.YtkbdijkoedmgnaaGreatDoor
open Go.RowKit
open Fdd
set_option linter.unusedVariables false
set_option linter.unusedSimpArgs false
def fmA (m : Fm) : Array Value := #[.int .i64 m.kind, .int .i64 m.size, .int .i64 m.code]
def fm0 : Fm := ⟨0, 0, 0⟩
def formE (dd no : Int) : Fm × Int := if 1 ≤ dd ∧ dd ≤ 3 then match mform dd.toNat no with
    | some m => (m, 0)
    | none => (fm0, 52)
  else (fm0, 50)
theorem fmA_one (m : Fm) : ∀ v ∈ (fmA m).toList, v.oneCell' = true := fun v hv => by
  unfold fmA at hv
  simp only [List.mem_cons, List.not_mem_nil, or_false] at hv
  rcases hv with rfl | rfl | rfl <;> rfl
theorem zero_fm (w : World) : (zeroValue 24).run Tryz.prog w = .ok (.agg (fmA fm0)) w := by kernel_rfl
theorem build_fm0 (W : World) : (Instr.build 24 #[]).run Tryz.prog W = .ok (.agg (fmA fm0)) W := by kernel_rfl
set_option maxRecDepth 20000 in
set_option maxHeartbeats 1000000 in
theorem Form_walk {s : Sents} {w : World} {dd no : Int} (he : Env s w) :
    Calls Tryz.prog 14 #[.int .i64 dd, .int .i64 no] w fun e w' => e = .returned (.tuple #[.agg (fmA (formE dd no).1), .int .i64 (formE dd no).2]) ∧ Turn nowhere w w' := by
  have hu := (Turn.refl nowhere w).alloc (.cells (fmA fm0) 24)
  have hb := Blk.new w 24 (fmA fm0)
  obtain ⟨gr, hgr⟩ : ∃ gr, gr = w.heap.size := ⟨_, rfl⟩
  rw [← hgr] at hb
  have HGRE := Lib.hid hgr
  have HGR := Lib.hid (show w.heap.size ≤ gr from by omega)
  have HE := Lib.hid he
  have HT0 := Lib.hid hu
  have HBgr := Lib.hid hb
  clear he hu hb hgr
  go_enter Tryz.func14, Tryz.ntmps14
  go_upto_region 1 with fail
  have e2 := HGRE.out
  rw [← e2]
  clear e2 HGRE
  change Code.wp _ _ _ _ (w.alloc (.cells (fmA fm0) 24))
  generalize World.alloc w (.cells (fmA fm0) 24) = w1 at *
  refine wp_region_lit ?_
  refine wpList_run (v := .int .i64 dd) rfl (exec_move rfl rfl) ?_
  simp only [Act.put, List.setIfInBounds_toArray, List.set_cons_zero, List.set_cons_succ]
  by_cases hd : 1 ≤ dd ∧ dd ≤ 3
  · obtain ⟨d, rfl⟩ : ∃ d : Nat, dd = (d : Int) := ⟨dd.toNat, by omega⟩
    have hdn : 1 ≤ d ∧ d ≤ 3 := by omega
    have hFE : formE (d : Int) no = (match mform d no with | some m => (m, 0) | none => (fm0, 52)) := by
      unfold formE
      rw [if_pos hd, Int.toNat_natCast]
    have HFE := Lib.hid hFE
    have HDN := Lib.hid hdn
    clear hFE hd hdn
    refine wpList_op rfl fun K9 HK9 => ?_
    go_wp2_with fail
    refine (tongueOf_ok (s := s) HDN.out (HE.out.turn HT0.out).tab).mono ?_
    rintro e w2 ⟨rfl, htx⟩
    refine HK9.out _ _ ?_
    clear HK9
    try simp only [Act.put, List.setIfInBounds_toArray, List.set_cons_zero, List.set_cons_succ]
    have HT2 := Lib.hid htx
    clear htx
    refine wpList_run (v := .tuple #[tongV d, .nilIface]) rfl (exec_move rfl rfl) ?_
    simp only [Act.put, List.setIfInBounds_toArray, List.set_cons_zero, List.set_cons_succ]
    refine wpList_run (v := tongV d) rfl (ix_extract rfl rfl rfl) ?_
    simp only [Act.put, List.setIfInBounds_toArray, List.set_cons_zero, List.set_cons_succ]
    refine wpList_run (v := .nilIface) rfl (ix_extract rfl rfl rfl) ?_
    simp only [Act.put, List.setIfInBounds_toArray, List.set_cons_zero, List.set_cons_succ]
    refine wpList_new 51 (.tmp 6) (.tmp 12) (tongA d) rfl rfl (zero_tongue _) rfl rfl rfl rfl rfl rfl (by rw [size_tongue]; rfl) (tongA_one d) ?_
    intro w3 gt _ hbx hux
    simp only [Act.put, List.setIfInBounds_toArray, List.set_cons_zero, List.set_cons_succ]
    have HBgt := Lib.hid hbx
    have HTgt := Lib.hid hux
    clear hbx hux
    refine wpList_run (v := .nilIface) rfl (gx_assign rfl rfl) ?_
    simp only [Act.put, List.setIfInBounds_toArray, List.set_cons_zero, List.set_cons_succ]
    go_upto_region 4 with fail
    refine wp_region_lit ?_
    refine wpList_run (v := tongV d) rfl (gx_loads rfl rfl (blk_range HBgt.out) Tryz.underlying51 rfl (by rw [size_tongue]; rfl)) ?_
    simp only [Act.put, List.setIfInBounds_toArray, List.set_cons_zero, List.set_cons_succ]
    refine wpList_run (v := .int .i64 no) rfl (exec_move rfl rfl) ?_
    simp only [Act.put, List.setIfInBounds_toArray, List.set_cons_zero, List.set_cons_succ]
    have hF := form_walk (s := s) (d := d) (no := no) (HE.out.turn ((HT0.out.trans HT2.out (fun _ _ e => e)).trans HTgt.out (fun _ _ e => e))).tab (HE.out.turn ((HT0.out.trans HT2.out (fun _ _ e => e)).trans HTgt.out (fun _ _ e => e))).sen
    unfold formR at hF
    have HFEo := HFE.out
    cases hm : mform d no with
    | some m =>
      rw [hm] at hF HFEo
      have HFX := Lib.hid HFEo
      clear HFEo hm HFE
      refine wpList_op rfl fun K9 HK9 => ?_
      go_wp2_with fail
      refine (hF).mono ?_
      rintro e w4 ⟨rfl, htx⟩
      refine HK9.out _ _ ?_
      clear HK9
      try simp only [Act.put, List.setIfInBounds_toArray, List.set_cons_zero, List.set_cons_succ]
      clear hF
      have HT4 := Lib.hid htx
      clear htx
      refine wpList_run (v := .tuple #[.agg (fmA m), .nilIface]) rfl (exec_move rfl rfl) ?_
      simp only [Act.put, List.setIfInBounds_toArray, List.set_cons_zero, List.set_cons_succ]
      refine wpList_run (v := .agg (fmA m)) rfl (ix_extract rfl rfl rfl) ?_
      simp only [Act.put, List.setIfInBounds_toArray, List.set_cons_zero, List.set_cons_succ]
      refine wpList_run (v := .nilIface) rfl (ix_extract rfl rfl rfl) ?_
      simp only [Act.put, List.setIfInBounds_toArray, List.set_cons_zero, List.set_cons_succ]
      have HG9 := Lib.hid ((HBgr.out.turn ((HT2.out.trans HTgt.out (fun _ _ e => e)).trans HT4.out (fun _ _ e => e)) (fun e => e)))
      refine wpList_new 24 (.tmp 8) (.tmp 23) (fmA m) rfl rfl (zero_fm _) rfl rfl rfl rfl rfl rfl (by rw [size_form]; rfl) (fmA_one _) ?_
      intro w5 gf hgf hbx hux
      simp only [Act.put, List.setIfInBounds_toArray, List.set_cons_zero, List.set_cons_succ]
      have HBgf := Lib.hid hbx
      have HTgf := Lib.hid hux
      have HGf := Lib.hid hgf
      clear hbx hux hgf
      refine wpList_run (v := .nilIface) rfl (gx_assign rfl rfl) ?_
      simp only [Act.put, List.setIfInBounds_toArray, List.set_cons_zero, List.set_cons_succ]
      go_upto_region 5 with fail
      have hS0 : Blk w5.drew gf 24 (fmA m) := HBgf.out.drew
      have HBd := Lib.hid ((HBgr.out.turn (((HT2.out.trans HTgt.out (fun _ _ e => e)).trans HT4.out (fun _ _ e => e)).trans HTgf.out (fun _ _ e => e)) (fun e => e)).drew)
      have HUd := Lib.hid (((((HT0.out.trans HT2.out (fun _ _ e => e)).trans HTgt.out (fun _ _ e => e)).trans HT4.out (fun _ _ e => e)).trans HTgf.out (fun _ _ e => e)).drew)
      have HNE := Lib.hid (show gf ≠ gr from by
        have h1 := HG9.out.lt
        have h2 := HGf.out
        omega)
      refine wp_region_alw (fun W => Blk W gf 24 (fmA m)) (by kernel_rfl) ?_
      generalize w5.drew = w7 at *
      refine alw_take (i := 0) (v := .agg (fmA m)) rfl (by kernel_rfl) (by kernel_rfl) (fun _ _ _ h => h) (.inl ⟨by rfl, fun W hW => gx_loads rfl rfl (blk_range hW) Tryz.underlying24 rfl (by rw [size_form]; rfl)⟩) hS0 ?_
      simp only [Act.put, List.setIfInBounds_toArray, List.set_cons_zero, List.set_cons_succ]
      refine alw_take (i := 1) (v := .nilIface) rfl (by kernel_rfl) (by kernel_rfl) (fun _ _ _ h => h) (.inl ⟨by rfl, fun W hW => exec_move rfl rfl⟩) hS0 ?_
      simp only [Act.put, List.setIfInBounds_toArray, List.set_cons_zero, List.set_cons_succ]
      refine alw_step (i := 2) (by kernel_rfl) rfl rfl ?_
      intro K1 HK1
      go_wp2_with fail
      refine (tell_walk ErrV.nil (HE.out.turn HUd.out).sen).mono ?_
      rintro e w8 ⟨rfl, ht8⟩
      have hS1 := hS0.turn ht8 (fun e => e)
      refine HK1.out _ _ ⟨hS1, ?_⟩
      have HB8 := Lib.hid (HBd.out.turn ht8 (fun e => e))
      have HU8 := Lib.hid (HUd.out.trans ht8 (fun _ _ e => e))
      clear HK1 hS0 ht8 HBd HUd
      try simp only [Act.put, List.setIfInBounds_toArray, List.set_cons_zero, List.set_cons_succ]
      refine alw_step (i := 3) (by kernel_rfl) rfl rfl ?_
      intro K1 HK1
      refine wp_store_rowU 24 (.tmp 4) (.tmp 25) rfl (fmA m) HB8.out rfl rfl rfl (by rw [size_form]; rfl) (fmA_one _) ?_
      intro wz hbz huz
      have hS2 := hS1.turn huz (fun e => HNE.out e)
      have HBZ := Lib.hid hbz
      have HUZ := Lib.hid (above HU8.out HGR.out huz)
      clear hbz huz HU8 HB8 hS1
      refine HK1.out _ _ ⟨hS2, ?_⟩
      clear HK1
      simp only [Act.put, List.setIfInBounds_toArray, List.set_cons_zero, List.set_cons_succ]
      refine alw_take (i := 4) (v := .int .i64 0) rfl (by kernel_rfl) (by kernel_rfl) (fun _ _ _ h => h) (.inl ⟨by rfl, fun W hW => gx_assign rfl rfl⟩) hS2 ?_
      simp only [Act.put, List.setIfInBounds_toArray, List.set_cons_zero, List.set_cons_succ]
      refine alw_done rfl ?_
      clear hS2
      refine NoPanic.normal ?_
      go_wp2_with fail
      refine bodyPost_ret (v := .tuple #[.agg (fmA m), .int .i64 0]) (ret_cell2 rfl _ _ gr _ _ _ rfl rfl HBZ.out Tryz.underlying24 rfl (by rw [size_form]; rfl)) rfl ?_
      rw [HFX.out]
      exact ⟨rfl, HUZ.out⟩
    | none =>
      rw [hm] at hF HFEo
      have HFX := Lib.hid HFEo
      clear HFEo hm HFE
      refine wpList_op rfl fun K9 HK9 => ?_
      go_wp2_with fail
      refine (hF).mono ?_
      rintro e w4 ⟨rfl, htx⟩
      refine HK9.out _ _ ?_
      clear HK9
      try simp only [Act.put, List.setIfInBounds_toArray, List.set_cons_zero, List.set_cons_succ]
      clear hF
      have HT4 := Lib.hid htx
      clear htx
      refine wpList_run (v := .tuple #[.agg (fmA fm0), .iface 81 (.agg #[.int .i64 no, .iface 240 (.pointer (some s.field))])]) rfl (exec_move rfl rfl) ?_
      simp only [Act.put, List.setIfInBounds_toArray, List.set_cons_zero, List.set_cons_succ]
      refine wpList_run (v := .agg (fmA fm0)) rfl (ix_extract rfl rfl rfl) ?_
      simp only [Act.put, List.setIfInBounds_toArray, List.set_cons_zero, List.set_cons_succ]
      refine wpList_run (v := .iface 81 (.agg #[.int .i64 no, .iface 240 (.pointer (some s.field))])) rfl (ix_extract rfl rfl rfl) ?_
      simp only [Act.put, List.setIfInBounds_toArray, List.set_cons_zero, List.set_cons_succ]
      have HG9 := Lib.hid ((HBgr.out.turn ((HT2.out.trans HTgt.out (fun _ _ e => e)).trans HT4.out (fun _ _ e => e)) (fun e => e)))
      refine wpList_new 24 (.tmp 8) (.tmp 23) (fmA fm0) rfl rfl (zero_fm _) rfl rfl rfl rfl rfl rfl (by rw [size_form]; rfl) (fmA_one _) ?_
      intro w5 gf hgf hbx hux
      simp only [Act.put, List.setIfInBounds_toArray, List.set_cons_zero, List.set_cons_succ]
      have HBgf := Lib.hid hbx
      have HTgf := Lib.hid hux
      have HGf := Lib.hid hgf
      clear hbx hux hgf
      refine wpList_run (v := .iface 81 (.agg #[.int .i64 no, .iface 240 (.pointer (some s.field))])) rfl (gx_assign rfl rfl) ?_
      simp only [Act.put, List.setIfInBounds_toArray, List.set_cons_zero, List.set_cons_succ]
      go_upto_region 5 with fail
      have hS0 : Blk w5.drew gf 24 (fmA fm0) := HBgf.out.drew
      have HBd := Lib.hid ((HBgr.out.turn (((HT2.out.trans HTgt.out (fun _ _ e => e)).trans HT4.out (fun _ _ e => e)).trans HTgf.out (fun _ _ e => e)) (fun e => e)).drew)
      have HUd := Lib.hid (((((HT0.out.trans HT2.out (fun _ _ e => e)).trans HTgt.out (fun _ _ e => e)).trans HT4.out (fun _ _ e => e)).trans HTgf.out (fun _ _ e => e)).drew)
      have HNE := Lib.hid (show gf ≠ gr from by
        have h1 := HG9.out.lt
        have h2 := HGf.out
        omega)
      refine wp_region_alw (fun W => Blk W gf 24 (fmA fm0)) (by kernel_rfl) ?_
      generalize w5.drew = w7 at *
      refine alw_take (i := 0) (v := .agg (fmA fm0)) rfl (by kernel_rfl) (by kernel_rfl) (fun _ _ _ h => h) (.inl ⟨by rfl, fun W hW => gx_loads rfl rfl (blk_range hW) Tryz.underlying24 rfl (by rw [size_form]; rfl)⟩) hS0 ?_
      simp only [Act.put, List.setIfInBounds_toArray, List.set_cons_zero, List.set_cons_succ]
      refine alw_take (i := 1) (v := .iface 81 (.agg #[.int .i64 no, .iface 240 (.pointer (some s.field))])) rfl (by kernel_rfl) (by kernel_rfl) (fun _ _ _ h => h) (.inl ⟨by rfl, fun W hW => exec_move rfl rfl⟩) hS0 ?_
      simp only [Act.put, List.setIfInBounds_toArray, List.set_cons_zero, List.set_cons_succ]
      refine alw_step (i := 2) (by kernel_rfl) rfl rfl ?_
      intro K1 HK1
      go_wp2_with fail
      refine (tell_walk (ErrV.field no) (HE.out.turn HUd.out).sen).mono ?_
      rintro e w8 ⟨rfl, ht8⟩
      have hS1 := hS0.turn ht8 (fun e => e)
      refine HK1.out _ _ ⟨hS1, ?_⟩
      have HB8 := Lib.hid (HBd.out.turn ht8 (fun e => e))
      have HU8 := Lib.hid (HUd.out.trans ht8 (fun _ _ e => e))
      clear HK1 hS0 ht8 HBd HUd
      try simp only [Act.put, List.setIfInBounds_toArray, List.set_cons_zero, List.set_cons_succ]
      refine alw_step (i := 3) (by kernel_rfl) rfl rfl ?_
      intro K1 HK1
      refine wp_store_rowU 24 (.tmp 4) (.tmp 25) rfl (fmA fm0) HB8.out rfl rfl rfl (by rw [size_form]; rfl) (fmA_one _) ?_
      intro wz hbz huz
      have hS2 := hS1.turn huz (fun e => HNE.out e)
      have HBZ := Lib.hid hbz
      have HUZ := Lib.hid (above HU8.out HGR.out huz)
      clear hbz huz HU8 HB8 hS1
      refine HK1.out _ _ ⟨hS2, ?_⟩
      clear HK1
      simp only [Act.put, List.setIfInBounds_toArray, List.set_cons_zero, List.set_cons_succ]
      refine alw_take (i := 4) (v := .int .i64 52) rfl (by kernel_rfl) (by kernel_rfl) (fun _ _ _ h => h) (.inl ⟨by rfl, fun W hW => gx_assign rfl rfl⟩) hS2 ?_
      simp only [Act.put, List.setIfInBounds_toArray, List.set_cons_zero, List.set_cons_succ]
      refine alw_done rfl ?_
      clear hS2
      refine NoPanic.normal ?_
      go_wp2_with fail
      refine bodyPost_ret (v := .tuple #[.agg (fmA fm0), .int .i64 52]) (ret_cell2 rfl _ _ gr _ _ _ rfl rfl HBZ.out Tryz.underlying24 rfl (by rw [size_form]; rfl)) rfl ?_
      rw [HFX.out]
      exact ⟨rfl, HUZ.out⟩
  · have HFX := Lib.hid (show formE dd no = (fm0, 50) from by unfold formE; rw [if_neg hd])
    refine wpList_op rfl fun K9 HK9 => ?_
    go_wp2_with fail
    refine (tongueOf_bad (s := s) hd (HE.out.turn HT0.out).sen).mono ?_
    rintro e w2 ⟨rfl, htx⟩
    refine HK9.out _ _ ?_
    clear HK9
    try simp only [Act.put, List.setIfInBounds_toArray, List.set_cons_zero, List.set_cons_succ]
    have HT2 := Lib.hid htx
    clear htx hd
    refine wpList_run (v := .tuple #[.agg #[.int .i64 0, strV [], strV []], .iface 240 (.pointer (some s.dialect))]) rfl (exec_move rfl rfl) ?_
    simp only [Act.put, List.setIfInBounds_toArray, List.set_cons_zero, List.set_cons_succ]
    refine wpList_run (v := .agg #[.int .i64 0, strV [], strV []]) rfl (ix_extract rfl rfl rfl) ?_
    simp only [Act.put, List.setIfInBounds_toArray, List.set_cons_zero, List.set_cons_succ]
    refine wpList_run (v := .iface 240 (.pointer (some s.dialect))) rfl (ix_extract rfl rfl rfl) ?_
    simp only [Act.put, List.setIfInBounds_toArray, List.set_cons_zero, List.set_cons_succ]
    refine wpList_new 51 (.tmp 6) (.tmp 12) #[.int .i64 0, strV [], strV []] rfl rfl (zero_tongue _) rfl rfl rfl rfl rfl rfl (by rw [size_tongue]; rfl) zeroT_one ?_
    intro w3 gt _ hbx hux
    simp only [Act.put, List.setIfInBounds_toArray, List.set_cons_zero, List.set_cons_succ]
    have HBgt := Lib.hid hbx
    have HTgt := Lib.hid hux
    clear hbx hux
    refine wpList_run (v := .iface 240 (.pointer (some s.dialect))) rfl (gx_assign rfl rfl) ?_
    simp only [Act.put, List.setIfInBounds_toArray, List.set_cons_zero, List.set_cons_succ]
    go_upto_region 3 with fail
    refine wp_region_lit ?_
    refine wpList_run (v := .agg (fmA fm0)) rfl (exec_bld rfl (build_fm0 _)) ?_
    simp only [Act.put, List.setIfInBounds_toArray, List.set_cons_zero, List.set_cons_succ]
    refine wpList_run (v := .iface 240 (.pointer (some s.dialect))) rfl (exec_move rfl rfl) ?_
    simp only [Act.put, List.setIfInBounds_toArray, List.set_cons_zero, List.set_cons_succ]
    refine wpList_op rfl fun K9 HK9 => ?_
    go_wp2_with fail
    refine (tell_walk (s := s) ErrV.dialect (HE.out.turn ((HT0.out.trans HT2.out (fun _ _ e => e)).trans HTgt.out (fun _ _ e => e))).sen).mono ?_
    rintro e w4 ⟨rfl, htx⟩
    refine HK9.out _ _ ?_
    clear HK9
    try simp only [Act.put, List.setIfInBounds_toArray, List.set_cons_zero, List.set_cons_succ]
    have HT4 := Lib.hid htx
    clear htx
    refine wpList_store_row rfl 24 (.tmp 4) (.tmp 16) rfl (fmA fm0) (HBgr.out.turn ((HT2.out.trans HTgt.out (fun _ _ e => e)).trans HT4.out (fun _ _ e => e)) (fun e => e)) rfl rfl rfl (by rw [size_form]; rfl) (fmA_one _) ?_
    intro w6 hb6 hu6
    have HBZ := Lib.hid hb6
    have HUZ := Lib.hid (above (((HT0.out.trans HT2.out (fun _ _ e => e)).trans HTgt.out (fun _ _ e => e)).trans HT4.out (fun _ _ e => e)) HGR.out hu6)
    clear hb6 hu6
    try simp only [Act.put, List.setIfInBounds_toArray, List.set_cons_zero, List.set_cons_succ]
    refine wpList_run (v := .int .i64 50) rfl (gx_assign rfl rfl) ?_
    simp only [Act.put, List.setIfInBounds_toArray, List.set_cons_zero, List.set_cons_succ]
    go_wp2_with fail
    refine bodyPost_ret (v := .tuple #[.agg (fmA fm0), .int .i64 50]) (ret_cell2 rfl _ _ gr _ _ _ rfl rfl HBZ.out Tryz.underlying24 rfl (by rw [size_form]; rfl)) rfl ?_
    rw [HFX.out]
    exact ⟨rfl, HUZ.out⟩
end Go.Proofs.YtkbdijkoedmgnaaGreatDoor

namespace Go.Proofs.YtkbdijkoedmgnaaGreatDoor
open Go.RowKit
open Fdd
set_option linter.unusedVariables false
set_option linter.unusedSimpArgs false
def thereR (no : Int) : Int × Int := (mfind no mrows).getD (0, 0)
set_option maxRecDepth 20000 in
set_option maxHeartbeats 2000000 in
theorem there_walk {w : World} {no : Int} : Calls Tryz.prog 30 #[.int .i64 no] w fun e w' => e = .returned (.tuple #[.int .i64 (thereR no).1, .int .i64 (thereR no).2]) ∧ w' = w := by
  by_cases h : no ∈ [(2 : Int), 3, 4, 7, 11, 32, 38, 39, 49, 64, 70, 74, 76, 86, 88, 90, 97]
  · simp only [List.mem_cons, List.not_mem_nil, or_false] at h
    rcases h with rfl | rfl | rfl | rfl | rfl | rfl | rfl | rfl | rfl | rfl | rfl | rfl | rfl | rfl | rfl | rfl | rfl
    all_goals
      go_enter Tryz.func30, Tryz.ntmps30
      go_wp2
      go_ret2
      exact ⟨rfl, rfl⟩
  · simp only [List.mem_cons, List.not_mem_nil, or_false, not_or] at h
    obtain ⟨h1, h2, h3, h4, h5, h6, h7, h8, h9, h10, h11, h12, h13, h14, h15, h16, h17⟩ := h
    have hv : thereR no = (0, 0) := by
      unfold thereR mrows
      simp [mfind, Ne.symm h1, Ne.symm h2, Ne.symm h3, Ne.symm h4, Ne.symm h5, Ne.symm h6, Ne.symm h7, Ne.symm h8, Ne.symm h9, Ne.symm h10, Ne.symm h11, Ne.symm h12, Ne.symm h13, Ne.symm h14, Ne.symm h15, Ne.symm h16, Ne.symm h17]
    rw [hv]
    clear hv
    go_enter Tryz.func30, Tryz.ntmps30
    go_wp2
    go_ret2
    exact ⟨rfl, rfl⟩
theorem mfind_pos {no : Int} {r : Int × Int} (h : mfind no mrows = some r) : r.1 ≠ 0 := by
  have := (mrows_all _ (mfind_mem h)).1
  have h2 : (no, r).2.1 = r.1 := rfl
  omega
theorem mfind_four {r : Int × Int} (h : mfind 4 mrows = some r) : r.2 = 12 := by
  have := (mrows_all _ (mfind_mem h)).2.2.1 rfl
  exact this.1
theorem build_fm3 (x y z : Int) (W : World) : (Instr.build 24 #[(0, .int .i64 x), (1, .int .i64 y), (2, .int .i64 z)]).run Tryz.prog W = .ok (.agg (fmA ⟨x, y, z⟩)) W := by kernel_rfl
set_option maxRecDepth 20000 in
set_option maxHeartbeats 2000000 in
theorem rForm_walk {w : World} {dd no : Int} :
    Calls Tryz.prog 15 #[.int .i64 dd, .int .i64 no] w fun e w' => e = .returned (.tuple #[.agg (fmA (formE dd no).1), .int .i64 (formE dd no).2]) ∧ Turn nowhere w w' := by
  have hu := (Turn.refl nowhere w).alloc (.cells (fmA fm0) 24)
  have hb := Blk.new w 24 (fmA fm0)
  obtain ⟨gr, hgr⟩ : ∃ gr, gr = w.heap.size := ⟨_, rfl⟩
  rw [← hgr] at hb
  have HGRE := Lib.hid hgr
  have HGR := Lib.hid (show w.heap.size ≤ gr from by omega)
  have HT0 := Lib.hid hu
  have HBgr := Lib.hid hb
  clear hu hb hgr
  go_enter Tryz.func15, Tryz.ntmps15
  go_upto_region 1 with fail
  have e2 := HGRE.out
  rw [← e2]
  clear e2 HGRE
  change Code.wp _ _ _ _ (w.alloc (.cells (fmA fm0) 24))
  generalize World.alloc w (.cells (fmA fm0) 24) = w1 at *
  refine wp_region_lit ?_
  refine wpList_run (v := .int .i64 dd) rfl (exec_move rfl rfl) ?_
  simp only [Act.put, List.setIfInBounds_toArray, List.set_cons_zero, List.set_cons_succ]
  by_cases h1 : dd < 1
  · have HFX := Lib.hid (show formE dd no = (fm0, 50) from by unfold formE; rw [if_neg (by omega)])
    refine wpList_run (v := .bool true) rfl (ix_lss rfl rfl rfl (decide_eq_true h1)) ?_
    simp only [Act.put, List.setIfInBounds_toArray, List.set_cons_zero, List.set_cons_succ]
    refine wpList_run (v := .bool true) rfl (exec_move rfl rfl) ?_
    simp only [Act.put, List.setIfInBounds_toArray, List.set_cons_zero, List.set_cons_succ]
    refine wpList_skip (by go_simp) ?_
    simp only [Act.put, List.setIfInBounds_toArray, List.set_cons_zero, List.set_cons_succ]
    refine wpList_skip (by go_simp) ?_
    simp only [Act.put, List.setIfInBounds_toArray, List.set_cons_zero, List.set_cons_succ]
    refine wpList_run (v := .bool true) rfl (ix_pickT rfl rfl rfl) ?_
    simp only [Act.put, List.setIfInBounds_toArray, List.set_cons_zero, List.set_cons_succ]
    go_upto_region 2 with fail
    refine wp_region_lit ?_
    refine wpList_run (v := .agg (fmA fm0)) rfl (exec_bld rfl (build_fm0 _)) ?_
    simp only [Act.put, List.setIfInBounds_toArray, List.set_cons_zero, List.set_cons_succ]
    refine wpList_store_row rfl 24 (.tmp 4) (.tmp 14) rfl (fmA fm0) HBgr.out rfl rfl rfl (by rw [size_form]; rfl) (fmA_one _) ?_
    intro w6 hb6 hu6
    have HBZ := Lib.hid hb6
    have HUZ := Lib.hid (above HT0.out HGR.out hu6)
    clear hb6 hu6
    try simp only [Act.put, List.setIfInBounds_toArray, List.set_cons_zero, List.set_cons_succ]
    refine wpList_run (v := .int .i64 50) rfl (gx_assign rfl rfl) ?_
    simp only [Act.put, List.setIfInBounds_toArray, List.set_cons_zero, List.set_cons_succ]
    go_wp2_with fail
    refine bodyPost_ret (v := .tuple #[.agg (fmA fm0), .int .i64 50]) (ret_cell2 rfl _ _ gr _ _ _ rfl rfl HBZ.out Tryz.underlying24 rfl (by rw [size_form]; rfl)) rfl ?_
    rw [HFX.out]
    exact ⟨rfl, HUZ.out⟩
  · refine wpList_run (v := .bool false) rfl (ix_lss rfl rfl rfl (decide_eq_false h1)) ?_
    simp only [Act.put, List.setIfInBounds_toArray, List.set_cons_zero, List.set_cons_succ]
    refine wpList_run (v := .bool false) rfl (exec_move rfl rfl) ?_
    simp only [Act.put, List.setIfInBounds_toArray, List.set_cons_zero, List.set_cons_succ]
    refine wpList_run (v := .int .i64 dd) rfl (exec_move rfl rfl) ?_
    simp only [Act.put, List.setIfInBounds_toArray, List.set_cons_zero, List.set_cons_succ]
    by_cases h2 : 3 < dd
    · have HFX := Lib.hid (show formE dd no = (fm0, 50) from by unfold formE; rw [if_neg (by omega)])
      refine wpList_run (v := .bool true) rfl (ix_gtr rfl rfl rfl (decide_eq_true h2)) ?_
      simp only [Act.put, List.setIfInBounds_toArray, List.set_cons_zero, List.set_cons_succ]
      refine wpList_run (v := .bool true) rfl (ix_pickF rfl rfl rfl) ?_
      simp only [Act.put, List.setIfInBounds_toArray, List.set_cons_zero, List.set_cons_succ]
      go_upto_region 2 with fail
      refine wp_region_lit ?_
      refine wpList_run (v := .agg (fmA fm0)) rfl (exec_bld rfl (build_fm0 _)) ?_
      simp only [Act.put, List.setIfInBounds_toArray, List.set_cons_zero, List.set_cons_succ]
      refine wpList_store_row rfl 24 (.tmp 4) (.tmp 14) rfl (fmA fm0) HBgr.out rfl rfl rfl (by rw [size_form]; rfl) (fmA_one _) ?_
      intro w6 hb6 hu6
      have HBZ := Lib.hid hb6
      have HUZ := Lib.hid (above HT0.out HGR.out hu6)
      clear hb6 hu6
      try simp only [Act.put, List.setIfInBounds_toArray, List.set_cons_zero, List.set_cons_succ]
      refine wpList_run (v := .int .i64 50) rfl (gx_assign rfl rfl) ?_
      simp only [Act.put, List.setIfInBounds_toArray, List.set_cons_zero, List.set_cons_succ]
      go_wp2_with fail
      refine bodyPost_ret (v := .tuple #[.agg (fmA fm0), .int .i64 50]) (ret_cell2 rfl _ _ gr _ _ _ rfl rfl HBZ.out Tryz.underlying24 rfl (by rw [size_form]; rfl)) rfl ?_
      rw [HFX.out]
      exact ⟨rfl, HUZ.out⟩
    · refine wpList_run (v := .bool false) rfl (ix_gtr rfl rfl rfl (decide_eq_false h2)) ?_
      simp only [Act.put, List.setIfInBounds_toArray, List.set_cons_zero, List.set_cons_succ]
      refine wpList_run (v := .bool false) rfl (ix_pickF rfl rfl rfl) ?_
      simp only [Act.put, List.setIfInBounds_toArray, List.set_cons_zero, List.set_cons_succ]
      have hFE : formE dd no = (match mform dd.toNat no with | some m => (m, 0) | none => (fm0, 52)) := by
        unfold formE
        rw [if_pos (by omega)] <;> rfl
      have hd3 : 1 ≤ dd ∧ dd ≤ 3 := by omega
      clear h1 h2
      go_upto_region 3 with fail
      refine wp_region_lit ?_
      refine wpList_run (v := .int .i64 no) rfl (exec_move rfl rfl) ?_
      simp only [Act.put, List.setIfInBounds_toArray, List.set_cons_zero, List.set_cons_succ]
      refine wpList_op rfl fun K9 HK9 => ?_
      go_wp2_with fail
      refine (there_walk).mono ?_
      rintro e w2 ⟨rfl, rfl⟩
      refine HK9.out _ _ ?_
      clear HK9
      try simp only [Act.put, List.setIfInBounds_toArray, List.set_cons_zero, List.set_cons_succ]
      refine wpList_run (v := .tuple #[.int .i64 (thereR no).1, .int .i64 (thereR no).2]) rfl (exec_move rfl rfl) ?_
      simp only [Act.put, List.setIfInBounds_toArray, List.set_cons_zero, List.set_cons_succ]
      refine wpList_run (v := .int .i64 (thereR no).1) rfl (ix_extract rfl rfl rfl) ?_
      simp only [Act.put, List.setIfInBounds_toArray, List.set_cons_zero, List.set_cons_succ]
      refine wpList_run (v := .int .i64 (thereR no).2) rfl (ix_extract rfl rfl rfl) ?_
      simp only [Act.put, List.setIfInBounds_toArray, List.set_cons_zero, List.set_cons_succ]
      refine wpList_run (v := .int .i64 (thereR no).1) rfl (gx_assign rfl rfl) ?_
      simp only [Act.put, List.setIfInBounds_toArray, List.set_cons_zero, List.set_cons_succ]
      refine wpList_run (v := .int .i64 (thereR no).2) rfl (gx_assign rfl rfl) ?_
      simp only [Act.put, List.setIfInBounds_toArray, List.set_cons_zero, List.set_cons_succ]
      go_upto_region 4 with fail
      refine wp_region_lit ?_
      refine wpList_run (v := .int .i64 (thereR no).1) rfl (exec_move rfl rfl) ?_
      simp only [Act.put, List.setIfInBounds_toArray, List.set_cons_zero, List.set_cons_succ]
      cases hm : mfind no mrows with
      | none =>
        have HFX := Lib.hid (show formE dd no = (fm0, 52) from by
          rw [hFE]
          unfold mform
          rw [hm]
          rfl)
        have h0 : thereR no = (0, 0) := by
          unfold thereR
          rw [hm]
          rfl
        rw [h0]
        clear h0 hm hFE hd3
        refine wpList_run (v := .bool true) rfl (ix_eql rfl rfl rfl (by decide)) ?_
        simp only [Act.put, List.setIfInBounds_toArray, List.set_cons_zero, List.set_cons_succ]
        go_upto_region 5 with fail
        refine wp_region_lit ?_
        refine wpList_run (v := .agg (fmA fm0)) rfl (exec_bld rfl (build_fm0 _)) ?_
        simp only [Act.put, List.setIfInBounds_toArray, List.set_cons_zero, List.set_cons_succ]
        refine wpList_store_row rfl 24 (.tmp 4) (.tmp 22) rfl (fmA fm0) HBgr.out rfl rfl rfl (by rw [size_form]; rfl) (fmA_one _) ?_
        intro w6 hb6 hu6
        have HBZ := Lib.hid hb6
        have HUZ := Lib.hid (above HT0.out HGR.out hu6)
        clear hb6 hu6
        try simp only [Act.put, List.setIfInBounds_toArray, List.set_cons_zero, List.set_cons_succ]
        refine wpList_run (v := .int .i64 52) rfl (gx_assign rfl rfl) ?_
        simp only [Act.put, List.setIfInBounds_toArray, List.set_cons_zero, List.set_cons_succ]
        go_wp2_with fail
        refine bodyPost_ret (v := .tuple #[.agg (fmA fm0), .int .i64 52]) (ret_cell2 rfl _ _ gr _ _ _ rfl rfl HBZ.out Tryz.underlying24 rfl (by rw [size_form]; rfl)) rfl ?_
        rw [HFX.out]
        exact ⟨rfl, HUZ.out⟩
      | some r =>
        have h0 : thereR no = r := by
          unfold thereR
          rw [hm]
          rfl
        rw [h0]
        clear h0
        have HR0 := Lib.hid (mfind_pos hm)
        obtain ⟨r1, r2⟩ := r
        refine wpList_run (v := .bool false) rfl (ix_eql rfl rfl rfl (decide_eq_false HR0.out)) ?_
        simp only [Act.put, List.setIfInBounds_toArray, List.set_cons_zero, List.set_cons_succ]
        go_upto_region 6 with fail
        refine wp_region_lit ?_
        refine wpList_run (v := .int .i64 dd) rfl (exec_move rfl rfl) ?_
        simp only [Act.put, List.setIfInBounds_toArray, List.set_cons_zero, List.set_cons_succ]
        by_cases h3 : dd = 3
        · refine wpList_run (v := .bool true) rfl (ix_eql rfl rfl rfl (decide_eq_true h3)) ?_
          simp only [Act.put, List.setIfInBounds_toArray, List.set_cons_zero, List.set_cons_succ]
          refine wpList_run (v := .bool true) rfl (exec_move rfl rfl) ?_
          simp only [Act.put, List.setIfInBounds_toArray, List.set_cons_zero, List.set_cons_succ]
          refine wpList_run (v := .int .i64 no) rfl (exec_move rfl rfl) ?_
          simp only [Act.put, List.setIfInBounds_toArray, List.set_cons_zero, List.set_cons_succ]
          by_cases h4 : no = 4
          · have HFX := Lib.hid (show formE dd no = (⟨r1, 10, dd⟩, 0) from by
              rw [hFE]
              unfold mform
              rw [hm]
              show ((⟨r1, r2 - ((unsaid dd.toNat no).length : Nat), ((dd.toNat : Nat) : Int)⟩ : Fm), (0 : Int)) = _
              rw [show ((dd.toNat : Nat) : Int) = dd from by omega, show unsaid dd.toNat no = [48, 48] from by unfold unsaid; rw [if_pos ⟨by omega, h4⟩], show r2 = 12 from mfind_four (r := (r1, r2)) (h4 ▸ hm)]; rfl)
            refine wpList_run (v := .bool true) rfl (ix_eql rfl rfl rfl (decide_eq_true h4)) ?_
            simp only [Act.put, List.setIfInBounds_toArray, List.set_cons_zero, List.set_cons_succ]
            refine wpList_run (v := .bool true) rfl (ix_pickT rfl rfl rfl) ?_
            simp only [Act.put, List.setIfInBounds_toArray, List.set_cons_zero, List.set_cons_succ]
            clear hFE hm h3 h4 hd3
            go_upto_region 7 with fail
            refine wp_region_lit ?_
            refine wpList_run (v := .int .i64 10) rfl (gx_assign rfl rfl) ?_
            simp only [Act.put, List.setIfInBounds_toArray, List.set_cons_zero, List.set_cons_succ]
            go_upto_region 8 with fail
            refine wp_region_lit ?_
            refine wpList_run (v := .int .i64 r1) rfl (exec_move rfl rfl) ?_
            simp only [Act.put, List.setIfInBounds_toArray, List.set_cons_zero, List.set_cons_succ]
            refine wpList_run (v := .int .i64 10) rfl (exec_move rfl rfl) ?_
            simp only [Act.put, List.setIfInBounds_toArray, List.set_cons_zero, List.set_cons_succ]
            refine wpList_run (v := .int .i64 dd) rfl (exec_move rfl rfl) ?_
            simp only [Act.put, List.setIfInBounds_toArray, List.set_cons_zero, List.set_cons_succ]
            refine wpList_run (v := .agg (fmA ⟨r1, 10, dd⟩)) rfl (exec_build3 rfl rfl rfl rfl (build_fm3 _ _ _ _)) ?_
            simp only [Act.put, List.setIfInBounds_toArray, List.set_cons_zero, List.set_cons_succ]
            refine wpList_store_row rfl 24 (.tmp 4) (.tmp 32) rfl (fmA ⟨r1, 10, dd⟩) HBgr.out rfl rfl rfl (by rw [size_form]; rfl) (fmA_one _) ?_
            intro w6 hb6 hu6
            have HBZ := Lib.hid hb6
            have HUZ := Lib.hid (above HT0.out HGR.out hu6)
            clear hb6 hu6
            try simp only [Act.put, List.setIfInBounds_toArray, List.set_cons_zero, List.set_cons_succ]
            refine wpList_run (v := .int .i64 0) rfl (gx_assign rfl rfl) ?_
            simp only [Act.put, List.setIfInBounds_toArray, List.set_cons_zero, List.set_cons_succ]
            go_wp2_with fail
            refine bodyPost_ret (v := .tuple #[.agg (fmA ⟨r1, 10, dd⟩), .int .i64 0]) (ret_cell2 rfl _ _ gr _ _ _ rfl rfl HBZ.out Tryz.underlying24 rfl (by rw [size_form]; rfl)) rfl ?_
            rw [HFX.out]
            exact ⟨rfl, HUZ.out⟩
          · have HFX := Lib.hid (show formE dd no = (⟨r1, r2, dd⟩, 0) from by
              rw [hFE]
              unfold mform
              rw [hm]
              show ((⟨r1, r2 - ((unsaid dd.toNat no).length : Nat), ((dd.toNat : Nat) : Int)⟩ : Fm), (0 : Int)) = _
              rw [show ((dd.toNat : Nat) : Int) = dd from by omega, show unsaid dd.toNat no = [] from by unfold unsaid; rw [if_neg (fun h => h4 h.2)], show r2 - (([] : List UInt8).length : Nat) = r2 from by simp])
            refine wpList_run (v := .bool false) rfl (ix_eql rfl rfl rfl (decide_eq_false h4)) ?_
            simp only [Act.put, List.setIfInBounds_toArray, List.set_cons_zero, List.set_cons_succ]
            refine wpList_run (v := .bool false) rfl (ix_pickT rfl rfl rfl) ?_
            simp only [Act.put, List.setIfInBounds_toArray, List.set_cons_zero, List.set_cons_succ]
            clear hFE hm h3 h4 hd3
            go_upto_region 8 with fail
            refine wp_region_lit ?_
            refine wpList_run (v := .int .i64 r1) rfl (exec_move rfl rfl) ?_
            simp only [Act.put, List.setIfInBounds_toArray, List.set_cons_zero, List.set_cons_succ]
            refine wpList_run (v := .int .i64 r2) rfl (exec_move rfl rfl) ?_
            simp only [Act.put, List.setIfInBounds_toArray, List.set_cons_zero, List.set_cons_succ]
            refine wpList_run (v := .int .i64 dd) rfl (exec_move rfl rfl) ?_
            simp only [Act.put, List.setIfInBounds_toArray, List.set_cons_zero, List.set_cons_succ]
            refine wpList_run (v := .agg (fmA ⟨r1, r2, dd⟩)) rfl (exec_build3 rfl rfl rfl rfl (build_fm3 _ _ _ _)) ?_
            simp only [Act.put, List.setIfInBounds_toArray, List.set_cons_zero, List.set_cons_succ]
            refine wpList_store_row rfl 24 (.tmp 4) (.tmp 32) rfl (fmA ⟨r1, r2, dd⟩) HBgr.out rfl rfl rfl (by rw [size_form]; rfl) (fmA_one _) ?_
            intro w6 hb6 hu6
            have HBZ := Lib.hid hb6
            have HUZ := Lib.hid (above HT0.out HGR.out hu6)
            clear hb6 hu6
            try simp only [Act.put, List.setIfInBounds_toArray, List.set_cons_zero, List.set_cons_succ]
            refine wpList_run (v := .int .i64 0) rfl (gx_assign rfl rfl) ?_
            simp only [Act.put, List.setIfInBounds_toArray, List.set_cons_zero, List.set_cons_succ]
            go_wp2_with fail
            refine bodyPost_ret (v := .tuple #[.agg (fmA ⟨r1, r2, dd⟩), .int .i64 0]) (ret_cell2 rfl _ _ gr _ _ _ rfl rfl HBZ.out Tryz.underlying24 rfl (by rw [size_form]; rfl)) rfl ?_
            rw [HFX.out]
            exact ⟨rfl, HUZ.out⟩
        · have HFX := Lib.hid (show formE dd no = (⟨r1, r2, dd⟩, 0) from by
            rw [hFE]
            unfold mform
            rw [hm]
            show ((⟨r1, r2 - ((unsaid dd.toNat no).length : Nat), ((dd.toNat : Nat) : Int)⟩ : Fm), (0 : Int)) = _
            rw [show ((dd.toNat : Nat) : Int) = dd from by omega, show unsaid dd.toNat no = [] from by unfold unsaid; rw [if_neg (fun h => h3 (by omega))], show r2 - (([] : List UInt8).length : Nat) = r2 from by simp])
          refine wpList_run (v := .bool false) rfl (ix_eql rfl rfl rfl (decide_eq_false h3)) ?_
          simp only [Act.put, List.setIfInBounds_toArray, List.set_cons_zero, List.set_cons_succ]
          refine wpList_run (v := .bool false) rfl (exec_move rfl rfl) ?_
          simp only [Act.put, List.setIfInBounds_toArray, List.set_cons_zero, List.set_cons_succ]
          refine wpList_skip (by go_simp) ?_
          simp only [Act.put, List.setIfInBounds_toArray, List.set_cons_zero, List.set_cons_succ]
          refine wpList_skip (by go_simp) ?_
          simp only [Act.put, List.setIfInBounds_toArray, List.set_cons_zero, List.set_cons_succ]
          refine wpList_run (v := .bool false) rfl (ix_pickF rfl rfl rfl) ?_
          simp only [Act.put, List.setIfInBounds_toArray, List.set_cons_zero, List.set_cons_succ]
          clear hFE hm h3 hd3
          go_upto_region 8 with fail
          refine wp_region_lit ?_
          refine wpList_run (v := .int .i64 r1) rfl (exec_move rfl rfl) ?_
          simp only [Act.put, List.setIfInBounds_toArray, List.set_cons_zero, List.set_cons_succ]
          refine wpList_run (v := .int .i64 r2) rfl (exec_move rfl rfl) ?_
          simp only [Act.put, List.setIfInBounds_toArray, List.set_cons_zero, List.set_cons_succ]
          refine wpList_run (v := .int .i64 dd) rfl (exec_move rfl rfl) ?_
          simp only [Act.put, List.setIfInBounds_toArray, List.set_cons_zero, List.set_cons_succ]
          refine wpList_run (v := .agg (fmA ⟨r1, r2, dd⟩)) rfl (exec_build3 rfl rfl rfl rfl (build_fm3 _ _ _ _)) ?_
          simp only [Act.put, List.setIfInBounds_toArray, List.set_cons_zero, List.set_cons_succ]
          refine wpList_store_row rfl 24 (.tmp 4) (.tmp 32) rfl (fmA ⟨r1, r2, dd⟩) HBgr.out rfl rfl rfl (by rw [size_form]; rfl) (fmA_one _) ?_
          intro w6 hb6 hu6
          have HBZ := Lib.hid hb6
          have HUZ := Lib.hid (above HT0.out HGR.out hu6)
          clear hb6 hu6
          try simp only [Act.put, List.setIfInBounds_toArray, List.set_cons_zero, List.set_cons_succ]
          refine wpList_run (v := .int .i64 0) rfl (gx_assign rfl rfl) ?_
          simp only [Act.put, List.setIfInBounds_toArray, List.set_cons_zero, List.set_cons_succ]
          go_wp2_with fail
          refine bodyPost_ret (v := .tuple #[.agg (fmA ⟨r1, r2, dd⟩), .int .i64 0]) (ret_cell2 rfl _ _ gr _ _ _ rfl rfl HBZ.out Tryz.underlying24 rfl (by rw [size_form]; rfl)) rfl ?_
          rw [HFX.out]
          exact ⟨rfl, HUZ.out⟩
end Go.Proofs.YtkbdijkoedmgnaaGreatDoor

namespace Go.Proofs.YtkbdijkoedmgnaaGreatDoor
open Go.RowKit
open Fdd
set_option linter.unusedVariables false
set_option linter.unusedSimpArgs false
theorem fm_eql {a : Act} {o : Oper} {W : World} {x y : Operand} {u : TypeId} {m : Fm} (ho : o.op = .binOp .eql 24 x y u) (hx : a.eval x = .agg (fmA m)) (hy : a.eval y = .agg (fmA m)) : (execOp a.eval o).run Tryz.prog W = .ok (.value (.bool true)) W := by
  unfold execOp
  simp only [ho, hx, hy, fmA]
  go_simp
set_option maxRecDepth 20000 in
set_option maxHeartbeats 2000000 in
theorem messageForms_walk {s : Sents} (x0 x1 : Int) (W : World) (he0 : Env s W) :
    Calls Tryz.prog 3 #[.int .i64 x0, .int .i64 x1] W fun e W' => e = .returned (.bool true) ∧ Below W.heap.size W W' := by
  have HE := Lib.hid he0
  clear he0
  go_enter Tryz.func3, Tryz.ntmps3
  go_upto_region 1 with fail
  refine wp_region_lit ?_
  have hS := shown_walk (s := s) W HE.out
  refine wpList_op rfl fun K9 HK9 => ?_
  go_wp2_with fail
  refine (hS).mono ?_
  rintro e w1 ⟨rfl, htx⟩
  refine HK9.out _ _ ?_
  clear HK9
  try simp only [Act.put, List.setIfInBounds_toArray, List.set_cons_zero, List.set_cons_succ]
  have HT1 := Lib.hid htx
  clear htx hS
  refine wpList_run (v := .bool true) rfl (gx_assign rfl rfl) ?_
  simp only [Act.put, List.setIfInBounds_toArray, List.set_cons_zero, List.set_cons_succ]
  have hG := fun W => rForm_walk (w := W) (dd := x0) (no := x1)
  go_upto_region 2 with fail
  refine wp_region_lit ?_
  refine wpList_run (v := .int .i64 x0) rfl (exec_move rfl rfl) ?_
  simp only [Act.put, List.setIfInBounds_toArray, List.set_cons_zero, List.set_cons_succ]
  refine wpList_run (v := .int .i64 x1) rfl (exec_move rfl rfl) ?_
  simp only [Act.put, List.setIfInBounds_toArray, List.set_cons_zero, List.set_cons_succ]
  have hF := Form_walk (s := s) (dd := x0) (no := x1) (HE.out.turn HT1.out)
  refine wpList_op rfl fun K9 HK9 => ?_
  go_wp2_with fail
  refine (hF).mono ?_
  rintro e w2 ⟨rfl, htx⟩
  refine HK9.out _ _ ?_
  clear HK9
  try simp only [Act.put, List.setIfInBounds_toArray, List.set_cons_zero, List.set_cons_succ]
  clear hF
  have HT2 := Lib.hid htx
  clear htx
  generalize (formE x0 x1).1 = fm at *
  generalize (formE x0 x1).2 = fe at *
  refine wpList_run (v := .tuple #[.agg (fmA fm), .int .i64 fe]) rfl (exec_move rfl rfl) ?_
  simp only [Act.put, List.setIfInBounds_toArray, List.set_cons_zero, List.set_cons_succ]
  refine wpList_run (v := .agg (fmA fm)) rfl (ix_extract rfl rfl rfl) ?_
  simp only [Act.put, List.setIfInBounds_toArray, List.set_cons_zero, List.set_cons_succ]
  refine wpList_run (v := .int .i64 fe) rfl (ix_extract rfl rfl rfl) ?_
  simp only [Act.put, List.setIfInBounds_toArray, List.set_cons_zero, List.set_cons_succ]
  refine wpList_new 24 (.tmp 6) (.tmp 15) (fmA fm) rfl rfl (zero_fm _) rfl rfl rfl rfl rfl rfl (by rw [size_form]; rfl) (fmA_one _) ?_
  intro w3 ga _ hbx hux
  simp only [Act.put, List.setIfInBounds_toArray, List.set_cons_zero, List.set_cons_succ]
  have HBga := Lib.hid hbx
  have HTga := Lib.hid hux
  clear hbx hux
  refine wpList_run (v := .int .i64 fe) rfl (gx_assign rfl rfl) ?_
  simp only [Act.put, List.setIfInBounds_toArray, List.set_cons_zero, List.set_cons_succ]
  go_upto_region 3 with fail
  refine wp_region_lit ?_
  refine wpList_run (v := .int .i64 x0) rfl (exec_move rfl rfl) ?_
  simp only [Act.put, List.setIfInBounds_toArray, List.set_cons_zero, List.set_cons_succ]
  refine wpList_run (v := .int .i64 x1) rfl (exec_move rfl rfl) ?_
  simp only [Act.put, List.setIfInBounds_toArray, List.set_cons_zero, List.set_cons_succ]
  have hF := hG w3
  refine wpList_op rfl fun K9 HK9 => ?_
  go_wp2_with fail
  refine (hF).mono ?_
  rintro e w4 ⟨rfl, htx⟩
  refine HK9.out _ _ ?_
  clear HK9
  try simp only [Act.put, List.setIfInBounds_toArray, List.set_cons_zero, List.set_cons_succ]
  clear hF
  have HT4 := Lib.hid htx
  clear htx
  refine wpList_run (v := .tuple #[.agg (fmA fm), .int .i64 fe]) rfl (exec_move rfl rfl) ?_
  simp only [Act.put, List.setIfInBounds_toArray, List.set_cons_zero, List.set_cons_succ]
  refine wpList_run (v := .agg (fmA fm)) rfl (ix_extract rfl rfl rfl) ?_
  simp only [Act.put, List.setIfInBounds_toArray, List.set_cons_zero, List.set_cons_succ]
  refine wpList_run (v := .int .i64 fe) rfl (ix_extract rfl rfl rfl) ?_
  simp only [Act.put, List.setIfInBounds_toArray, List.set_cons_zero, List.set_cons_succ]
  refine wpList_new 24 (.tmp 8) (.tmp 21) (fmA fm) rfl rfl (zero_fm _) rfl rfl rfl rfl rfl rfl (by rw [size_form]; rfl) (fmA_one _) ?_
  intro w5 gb _ hbx hux
  simp only [Act.put, List.setIfInBounds_toArray, List.set_cons_zero, List.set_cons_succ]
  have HBgb := Lib.hid hbx
  have HTgb := Lib.hid hux
  clear hbx hux
  refine wpList_run (v := .int .i64 fe) rfl (gx_assign rfl rfl) ?_
  simp only [Act.put, List.setIfInBounds_toArray, List.set_cons_zero, List.set_cons_succ]
  go_upto_region 4 with fail
  refine wp_region_lit ?_
  refine wpList_run (v := .bool true) rfl (exec_move rfl rfl) ?_
  simp only [Act.put, List.setIfInBounds_toArray, List.set_cons_zero, List.set_cons_succ]
  refine wpList_run (v := .bool true) rfl (exec_move rfl rfl) ?_
  simp only [Act.put, List.setIfInBounds_toArray, List.set_cons_zero, List.set_cons_succ]
  refine wpList_run (v := .agg (fmA fm)) rfl (gx_loads rfl rfl (blk_range (HBga.out.turn (HT4.out.trans HTgb.out (fun _ _ e => e)) (fun e => e))) Tryz.underlying24 rfl (by rw [size_form]; rfl)) ?_
  simp only [Act.put, List.setIfInBounds_toArray, List.set_cons_zero, List.set_cons_succ]
  refine wpList_run (v := .agg (fmA fm)) rfl (gx_loads rfl rfl (blk_range HBgb.out) Tryz.underlying24 rfl (by rw [size_form]; rfl)) ?_
  simp only [Act.put, List.setIfInBounds_toArray, List.set_cons_zero, List.set_cons_succ]
  refine wpList_run (v := .bool true) rfl (fm_eql (m := fm) rfl rfl rfl) ?_
  simp only [Act.put, List.setIfInBounds_toArray, List.set_cons_zero, List.set_cons_succ]
  refine wpList_run (v := .bool true) rfl (ix_pickT rfl rfl rfl) ?_
  simp only [Act.put, List.setIfInBounds_toArray, List.set_cons_zero, List.set_cons_succ]
  refine wpList_run (v := .bool true) rfl (exec_move rfl rfl) ?_
  simp only [Act.put, List.setIfInBounds_toArray, List.set_cons_zero, List.set_cons_succ]
  refine wpList_run (v := .int .i64 fe) rfl (exec_move rfl rfl) ?_
  simp only [Act.put, List.setIfInBounds_toArray, List.set_cons_zero, List.set_cons_succ]
  refine wpList_run (v := .int .i64 fe) rfl (exec_move rfl rfl) ?_
  simp only [Act.put, List.setIfInBounds_toArray, List.set_cons_zero, List.set_cons_succ]
  refine wpList_run (v := .bool true) rfl (ix_eql rfl rfl rfl (decide_eq_true rfl)) ?_
  simp only [Act.put, List.setIfInBounds_toArray, List.set_cons_zero, List.set_cons_succ]
  refine wpList_run (v := .bool true) rfl (ix_pickT rfl rfl rfl) ?_
  simp only [Act.put, List.setIfInBounds_toArray, List.set_cons_zero, List.set_cons_succ]
  refine wpList_run (v := .bool true) rfl (gx_assign rfl rfl) ?_
  simp only [Act.put, List.setIfInBounds_toArray, List.set_cons_zero, List.set_cons_succ]
  go_wp2_with fail
  go_ret
  exact ⟨rfl, (((((HT1.out.trans HT2.out (fun _ _ e => e)).trans HTga.out (fun _ _ e => e)).trans HT4.out (fun _ _ e => e)).trans HTgb.out (fun _ _ e => e))).below (Nat.le_refl _) (fun _ _ e => e)⟩
end Go.Proofs.YtkbdijkoedmgnaaGreatDoor

namespace Go.Proofs.YtkbdijkoedmgnaaGreatDoor.messageForms
open Go.ChangeShapes Go.WideShapes Go.ChangeAt Go.RowKit
open Go.ChangeMaps (open_string shut_string)
set_option linter.unusedVariables false

theorem own : ownKnob Tryz.prog.godebug = none := by kernel_rfl
theorem laidOut : laidOutB Tryz.prog = true := by kernel_rfl

set_option maxRecDepth 100000 in
/-- WHAT THE WALK GIVES, FOR EVERY ARGUMENT AND EVERY WORLD: the same for both forms. -/
theorem contract (H : Type) (enc : TypeId × Value → H) (W : World) (base : Nat) (args : Array Value) (ds gs : List (DataW H)) (before : List MemPlace)
    (hval : ∀ (j : Nat) t v, Tryz.f3.params[j]? = some t → args[j]? = some v → Value.okWide Tryz.prog W .any base t v)
    (hW : DataW.Whole enc Tryz.prog Tryz.f3.params.toList Rows.messageFormsSpec.vars false W args.toList ds gs before) (hsz0 : (DataW.weightsEach Tryz.prog (Tryz.f3.params.toList ++ Rows.messageFormsSpec.plain.varTypes Tryz.prog) (ds ++ gs)).all (· ≤ reachBytes) = true) (hL : laidMetH Tryz.prog Rows.messageFormsRow.laid W) (hsh : W.ShapedOpen Tryz.prog) :
    Calls Tryz.prog 3 args W fun e W' => ∃ v, e = .returned v ∧ Rows.messageFormsSpec.post enc Tryz.prog Tryz.f3 false true false false W args v W' := by
  have hW' := hW
  obtain ⟨p, q, hA0, hV, rfl, hfz, hnd⟩ := hW
  have hA : DataW.TrodAll enc Tryz.prog W 0 (fun _ => true) true Tryz.f3.params.toList args.toList ds p := hA0
  have hsz : (DataW.weightsEach Tryz.prog (Tryz.f3.params.toList ++ Rows.messageFormsSpec.plain.varTypes Tryz.prog) (ds ++ gs)).all (· ≤ reachBytes) = true := hsz0
  rw [Tryz.params3] at hA hval hsz
  obtain ⟨v0, vs0, d0, ds0, p0, q0, hargs, rfl, rfl, h0, r0⟩ := trodAll_cons hA
  obtain ⟨v1, vs1, d1, ds1, p1, q1, rfl, rfl, rfl, h1, r1⟩ := trodAll_cons r0
  obtain ⟨rfl, rfl, rfl⟩ := trodAll_nil r1
  obtain rfl : args = #[v0, v1] := by cases args; simp_all
  obtain ⟨rfl, rfl⟩ := trodVars_none hV
  obtain ⟨x0, rfl, rfl, rfl, w0⟩ := open_int Tryz.underlying3 (hval 0 3 v0 rfl rfl) h0
  obtain ⟨x1, rfl, rfl, rfl, w1⟩ := open_int Tryz.underlying3 (hval 1 3 v1 rfl rfl) h1
  obtain ⟨s, henv⟩ := env_of_laid (l := Rows.messageFormsRow.laid) rfl hL
  clear hA0
  refine (messageForms_walk x0 x1 W henv).mono fun e W' ⟨he, bel⟩ => ?_
  subst he
  exact ⟨_, rfl, _, _, _, [], _, [], hW', trodAll_mk1 (shut_bool Tryz.underlying4 _), (trodAll_cons_mk (shut_int Tryz.underlying3 w0) (trodAll_cons_mk (shut_int Tryz.underlying3 w1) trodAll_mk0)), rfl, bel.frame _, fun h => by cases h⟩

theorem laid_met (os : Os) : laidMetH Tryz.prog Rows.messageFormsRow.laid ((hworld os Rows.messageFormsRow.laid).forCall (fun _ _ => 0) ⟨#[], #[.int .i64 0, .int .i64 0], []⟩).memory :=
  laidH_hworld _ (by kernel_rfl) (by kernel_rfl) (by kernel_rfl)
theorem reads (os : Os) {H : Type} (enc : TypeId × Value → H) : ∃ places, DataW.whole enc Tryz.prog ((hworld os Rows.messageFormsRow.laid).forCall (fun _ _ => 0) ⟨#[], #[.int .i64 0, .int .i64 0], []⟩).memory Tryz.f3.params.toList Rows.messageFormsSpec.vars false [.int .i64 0, .int .i64 0] 8 = some ([.lit (.int .i64 0), .lit (.int .i64 0)], [], places) :=
  ⟨[], by kernel_rfl⟩

set_option maxRecDepth 100000 in
theorem lifted (os : Os) (started : os.Started) (H : Type) (enc : TypeId × Value → H) (F : Stop.Interp) :
    ReturnsInHanded {} Tryz.checked os 3 .any ((OpenSpec.ofChange Rows.messageFormsSpec).preRow enc Tryz.prog Tryz.f3 Rows.messageFormsRow.domain false Rows.messageFormsRow.laid) (((OpenSpec.ofChange Rows.messageFormsSpec).at F).post enc Tryz.prog Tryz.f3 false true false false) := by
  obtain ⟨places, hx⟩ := reads os enc
  refine returnsInHanded_of_row (C := Tryz.checked) (s := OpenSpec.ofChange Rows.messageFormsSpec) own started (by kernel_rfl) Tryz.func3
    (witness_zip (enc := enc) (C := Tryz.checked) false (hworld os Rows.messageFormsRow.laid) #[.int .i64 0, .int .i64 0] (hworld_os _ _) (World.shaped_of_ZipB (by kernel_rfl) (by kernel_rfl)) (by kernel_rfl)
      (OpenSpec.preRow_of_cond 8 hx (by kernel_rfl) (fun k hk => by cases hk) (by kernel_rfl) (laid_met os))) ?_
  intro W base args ds gs before hval hW _ hcond hsz hL hsh _
  exact contract H enc W base args ds gs before hval hW hsz hL hsh

theorem said : Rows.MessageFormsSaid :=
  OpenClaim.holds_of_cond 3 Tryz.f3 rfl rfl rfl rfl rfl rfl rfl ⟨rfl, rfl, rfl, rfl, rfl⟩ rfl rfl rfl rfl rfl (by kernel_rfl) Tryz.func3 (by kernel_rfl)
    (of_decide_eq_true (by kernel_rfl)) (by unfold Func.isWrapper; first | (rw [if_pos (by decide +kernel)]; kernel_rfl) | (rw [if_neg (by decide +kernel)]; exact ⟨rfl, rfl⟩))
    (fun os started H enc _ F => by rw [OpenClaim.pre_eq_preRow]; exact lifted os started H enc F)

theorem plain (f : FuncId) (fn : Func) (hf : Tryz.pinned.checked.prog.funcNamed "groat/groatlaw05.MessageForms" = some f) (hfn : Tryz.pinned.checked.prog.funcs[f]? = some fn) :
    true = Tryz.pinned.checked.prog.looks [] ∧ ∀ (j : Nat) t, fn.params[j]? = some t → Tryz.pinned.checked.prog.wantsStandIn t = false := by
  obtain rfl : f = 3 := Option.some.inj ((show Tryz.prog.funcNamed "groat/groatlaw05.MessageForms" = some 3 by kernel_rfl).symm.trans hf) |>.symm
  obtain rfl : fn = Tryz.f3 := (Option.some.inj (Tryz.func3.symm.trans hfn)).symm
  refine ⟨by kernel_rfl, fun j t ht => ?_⟩
  rw [Tryz.params3] at ht
  have hm : t ∈ [3, 3] := by simpa using Array.mem_of_getElem? ht
  have hall : ([3, 3].all fun u => !Tryz.prog.wantsStandIn u) = true := by kernel_rfl
  exact (show Tryz.prog.wantsStandIn t = false by simpa using List.all_eq_true.1 hall t hm)

/-- THE CARD -/
theorem card : Rows.MessageFormsCardSaid :=
  Claim7.holds_tied_plain_at .later [] _ _ _ _ said (fun _ h => by cases h) (by kernel_rfl) (fun _ h => by cases h) messageForms_row_tie rfl ⟨rfl, rfl⟩ (by kernel_rfl) rfl plain (by kernel_rfl)
#print axioms card
end Go.Proofs.YtkbdijkoedmgnaaGreatDoor.messageForms
