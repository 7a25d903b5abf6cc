/-
  Several texts in one file, in their order:
  - groatlaw05's MessageWrites: the walk. Conditions: the tables and the errors read as the program's text lays them.
  - PROOF: groatlaw05: for every input the law MessageWrites returns true, and each argument reads as it did. Its conditions are the row's own cells (the listed variables read as the program's text lays them: the card ties them).
-/
import Derived.Test.YticofobhkmabiaaGreatDoorJW0
import Derived.Test.YticofobhkmabiaaGreatDoorJa3
import Derived.Test.YticofobhkmabiaaGreatDoorCards
import Derived.Test.YticofobhkmabiaaGreatDoorTie
import Derived.WalkKit
import Derived.ProofKit
import Derived.OpenShut
import Derived.ShutString
import Derived.ChangeOld
import Derived.Below
import Derived.SizedLaws
import Derived.LaidMore
import Derived.Deep.DeepHandedRow
import Derived.Deep.DeepWitnessRowRef
import Derived.Lib.LaidTab
import Derived.Lib.SmallJoins
namespace Go.Proofs.YticofobhkmabiaaGreatDoor
open Go.RowKit
open Fdd
set_option linter.unusedVariables false
set_option linter.unusedSimpArgs false
theorem errno_eq {a : Act} {o : Oper} {W : World} {x y : Operand} {t u : TypeId} {i : Int} (ho : o.op = .binOp .eql t x y u) (hx : a.eval x = .int .i64 i) (hy : a.eval y = .int .i64 i) : (execOp a.eval o).run Tryz.prog W = .ok (.value (.bool true)) W := by
  unfold execOp
  simp only [ho, hx, hy]
  go_simp
set_option maxRecDepth 20000 in
set_option maxHeartbeats 4000000 in
theorem messageWrites_walk {s : Sents} {ty : Int} {A : Option Addr} {n c : Nat} {fs : List Fld} (x0 : Int) (W : World) (he0 : Env s W) (hf0 : Fl W A n fs) (ht0 : Txts fs) (hz0 : A = none → c = 0) (hr0 : n * 24 ≤ 140737488351232) :
    Calls Tryz.prog 3 #[.int .i64 x0, msgV ty A n c] W fun e W' => e = .returned (.bool true) ∧ Below W.heap.size W W' := by
  have HE := Lib.hid he0
  have HF := Lib.hid hf0
  have HTX := Lib.hid ht0
  have HZN := Lib.hid hz0
  have HRM := Lib.hid hr0
  clear he0 hf0 ht0 hz0 hr0
  unfold msgV
  go_enter Tryz.func3, Tryz.ntmps3
  go_upto_region 1 with fail
  have hb0 := Blk.new (W) 24 #[.int .i64 ty, .slice A n c]
  have hu0 := (Turn.refl nowhere (W)).alloc (.cells #[.int .i64 ty, .slice A n c] 24)
  have hbz := hb0
  have huz := hu0
  clear hb0 hu0
  obtain ⟨gm, hg0⟩ : ∃ g, g = W.heap.size := ⟨_, rfl⟩
  rw [← hg0] at hbz ⊢
  clear hg0
  generalize W.alloc (.cells #[.int .i64 ty, .slice A n c] 24) = w0 at *
  have HBgm := Lib.hid hbz
  have HT0 := Lib.hid huz
  clear hbz huz
  refine wp_region_lit ?_
  have hS := shown_walk (s := s) w0 (HE.out.turn HT0.out)
  refine wpList_op rfl fun K9 HK9 => ?_
  go_wp2_with fail
  refine (hS).mono ?_
  rintro e w1 ⟨rfl, htx⟩
  refine HK9.out _ _ ?_
  clear HK9
  try simp only [Act.put, zzA, zz0, zz1]
  have HT1 := Lib.hid htx
  clear htx hS
  refine wR (v := .bool true) rfl (gx_assign rfl rfl) ?_
  simp only [Act.put, zzA, zz0, zz1]
  go_upto_region 2 with fail
  go_cut [6] from 12 to 18 (fun ov wx => ∃ (go : Nat) (A7 : Option Addr) (c7 : Nat), ov = .pointer (some ⟨go, 0, none⟩) ∧ Blk wx go 24 #[.int .i64 ty, .slice A7 n c7] ∧ FRow wx w1.heap.size (.slice A7 n c7) fs ∧ Turn nowhere w1 wx)
  case first =>
    have HD := Lib.hid ((Turn.refl nowhere w1).drew)
    refine wp_region_alw (fun W => Blk W gm 24 #[.int .i64 ty, .slice A n c]) (by kernel_rfl) ?_
    have hS0 : Blk w1.drew gm 24 #[.int .i64 ty, .slice A n c] := (HBgm.out.turn HT1.out (fun e => e)).drew
    have HFd := Lib.hid (((HF.out.still (HT0.out.next HT1.out))).still HD.out)
    have HSd := Lib.hid hS0
    have HSZ := Lib.hid (show w1.drew.heap.size = w1.heap.size from rfl)
    generalize w1.drew = wd at *
    refine alw_take (i := 0) (v := .pointer (some ⟨gm, 0, none⟩)) rfl (by kernel_rfl) (by kernel_rfl) (fun _ _ _ h => h) (.inl ⟨by rfl, fun W hW => exec_field (off := 0) (d := 0) rfl rfl (by kernel_rfl)⟩) hS0 ?_
    simp only [Act.put, zzA, zz0, zz1]
    refine alw_take (i := 1) (v := .int .i64 ty) rfl (by kernel_rfl) (by kernel_rfl) (fun _ _ _ h => h) (.inl ⟨by rfl, fun W hW => exec_load1 rfl rfl (by kernel_rfl) (hW.cell 0)⟩) hS0 ?_
    simp only [Act.put, zzA, zz0, zz1]
    refine alw_take (i := 3) (v := .pointer (some ⟨gm, 1, none⟩)) rfl (by kernel_rfl) (by kernel_rfl) (fun _ _ _ h => h) (.inl ⟨by rfl, fun W hW => exec_field (off := 0) (d := 1) rfl rfl (by kernel_rfl)⟩) hS0 ?_
    simp only [Act.put, zzA, zz0, zz1]
    refine alw_take (i := 4) (v := .slice A n c) rfl (by kernel_rfl) (by kernel_rfl) (fun _ _ _ h => h) (.inl ⟨by rfl, fun W hW => exec_load1 rfl rfl (by kernel_rfl) (hW.cell 1)⟩) hS0 ?_
    simp only [Act.put, zzA, zz0, zz1]
    have HE1 := Lib.hid ((Turn.refl nowhere wd).alloc (.cells #[] 40))
    have HZ1 := Lib.hid ((Turn.refl nowhere wd).alloc (.cells #[.int .i64 0, .slice none 0 0] 24))
    refine alw_two (i := 2) (k := 7) (by kernel_rfl) rfl rfl rfl rfl ?_ ?_
    · intro K1 HK1
      refine wp_run (bx_slice0 rfl (build_f0 _)) ?_
      refine HK1.out _ _ ⟨HSd.out.turn HE1.out (fun e => e), ?_⟩
      clear HK1
      try simp only [Act.put, zzA, zz0, zz1]
      have HR1 := Lib.hid (own_made (Turn.refl nowhere wd))
      refine alw_two (i := 5) (k := 7) (by kernel_rfl) rfl rfl rfl rfl ?_ ?_
      · obtain ⟨A5, c5, w5, hrun, hrow, ht5, hgr⟩ := own_app HR1.out HE1.out HFd.out HZN.out HRM.out
        intro K1 HK1
        refine wp_run (exec_append rfl rfl rfl hrun) ?_
        refine HK1.out _ _ ⟨HSd.out.turn ht5 (fun e => e), ?_⟩
        clear HK1
        try simp only [Act.put, zzA, zz0, zz1]
        have hS9 := HSd.out.turn ht5 (fun e => e)
        refine alw_take (i := 6) (v := .agg #[.int .i64 ty, .slice A5 n c5]) rfl (by kernel_rfl) (by kernel_rfl) (fun _ _ _ h => h) (.inl ⟨by rfl, fun W hW => gx_build2 rfl rfl rfl (build_msg2 ty A5 n c5 W)⟩) hS9 ?_
        simp only [Act.put, zzA, zz0, zz1]
        refine alw_step (i := 7) (by kernel_rfl) rfl rfl ?_
        intro K1 HK1
        refine wp_run (gx_alloc rfl (zero_msg _)) ?_
        have hta := ht5.alloc (.cells #[.int .i64 0, .slice none 0 0] 24)
        refine HK1.out _ _ ⟨HSd.out.turn hta (fun e => e), ?_⟩
        clear HK1
        try simp only [Act.put, zzA, zz0, zz1]
        have hb6 := Blk.new w5 24 #[.int .i64 0, .slice none 0 0]
        have hr6 := hrow.still ((Turn.refl nowhere w5).alloc (.cells #[.int .i64 0, .slice none 0 0] 24))
        refine alw_step (i := 8) (by kernel_rfl) rfl rfl ?_
        intro K1 HK1
        refine wp_store_rowU 24 (.tmp 6) (.tmp 18) rfl #[.int .i64 ty, .slice A5 n c5] hb6 rfl rfl rfl (by rw [size_msg]; rfl) (msgA_one _ _ _ _) ?_
        intro w7 hb7 hu7
        have hend := own_end hr6 hb6 hta ht5.size hu7
        refine HK1.out _ _ ⟨HSd.out.turn hend.2 (fun e => e), ?_⟩
        clear HK1
        try simp only [Act.put, zzA, zz0, zz1]
        refine alw_done rfl ?_
        refine NoPanic.normal ?_
        go_wp2_with fail
        go_meet
        exact ⟨_, A5, c5, rfl, hb7, by rw [← HSZ.out]; exact hend.1, HD.out.next hend.2⟩
      · have hta := HE1.out.alloc (.cells #[.int .i64 0, .slice none 0 0] 24)
        intro K1 HK1
        refine wp_run (gx_alloc rfl (zero_msg _)) ?_
        refine HK1.out _ _ ⟨HSd.out.turn hta (fun e => e), ?_⟩
        clear HK1
        try simp only [Act.put, zzA, zz0, zz1]
        have hb6 := Blk.new (wd.alloc (.cells #[] 40)) 24 #[.int .i64 0, .slice none 0 0]
        obtain ⟨A5, c5, w5, hrun, hrow, ht5, hgr⟩ := own_app (HR1.out.still ((Turn.refl nowhere (wd.alloc (.cells #[] 40))).alloc (.cells #[.int .i64 0, .slice none 0 0] 24))) hta HFd.out HZN.out HRM.out
        refine alw_step (i := 5) (by kernel_rfl) rfl rfl ?_
        intro K1 HK1
        refine wp_run (exec_append rfl rfl rfl hrun) ?_
        refine HK1.out _ _ ⟨HSd.out.turn ht5 (fun e => e), ?_⟩
        clear HK1
        try simp only [Act.put, zzA, zz0, zz1]
        have hS9 := HSd.out.turn ht5 (fun e => e)
        refine alw_take (i := 6) (v := .agg #[.int .i64 ty, .slice A5 n c5]) rfl (by kernel_rfl) (by kernel_rfl) (fun _ _ _ h => h) (.inl ⟨by rfl, fun W hW => gx_build2 rfl rfl rfl (build_msg2 ty A5 n c5 W)⟩) hS9 ?_
        simp only [Act.put, zzA, zz0, zz1]
        have hb6 := hb6.grown hgr (by simp)
        refine alw_step (i := 8) (by kernel_rfl) rfl rfl ?_
        intro K1 HK1
        refine wp_store_rowU 24 (.tmp 6) (.tmp 18) rfl #[.int .i64 ty, .slice A5 n c5] hb6 rfl rfl rfl (by rw [size_msg]; rfl) (msgA_one _ _ _ _) ?_
        intro w7 hb7 hu7
        have hend := own_end hrow hb6 ht5 (by simp) hu7
        refine HK1.out _ _ ⟨HSd.out.turn hend.2 (fun e => e), ?_⟩
        clear HK1
        try simp only [Act.put, zzA, zz0, zz1]
        refine alw_done rfl ?_
        refine NoPanic.normal ?_
        go_wp2_with fail
        go_meet
        exact ⟨_, A5, c5, rfl, hb7, by rw [← HSZ.out]; exact hend.1, HD.out.next hend.2⟩
    · intro K1 HK1
      refine wp_run (gx_alloc rfl (zero_msg _)) ?_
      refine HK1.out _ _ ⟨HSd.out.turn HZ1.out (fun e => e), ?_⟩
      clear HK1
      try simp only [Act.put, zzA, zz0, zz1]
      have hb60 := Blk.new wd 24 #[.int .i64 0, .slice none 0 0]
      have hR1 := own_made HZ1.out
      have hta := HZ1.out.alloc (.cells #[] 40)
      refine alw_step (i := 2) (by kernel_rfl) rfl rfl ?_
      intro K1 HK1
      refine wp_run (bx_slice0 rfl (build_f0 _)) ?_
      refine HK1.out _ _ ⟨HSd.out.turn hta (fun e => e), ?_⟩
      clear HK1
      try simp only [Act.put, zzA, zz0, zz1]
      obtain ⟨A5, c5, w5, hrun, hrow, ht5, hgr⟩ := own_app hR1 hta HFd.out HZN.out HRM.out
      refine alw_step (i := 5) (by kernel_rfl) rfl rfl ?_
      intro K1 HK1
      refine wp_run (exec_append rfl rfl rfl hrun) ?_
      refine HK1.out _ _ ⟨HSd.out.turn ht5 (fun e => e), ?_⟩
      clear HK1
      try simp only [Act.put, zzA, zz0, zz1]
      have hS9 := HSd.out.turn ht5 (fun e => e)
      refine alw_take (i := 6) (v := .agg #[.int .i64 ty, .slice A5 n c5]) rfl (by kernel_rfl) (by kernel_rfl) (fun _ _ _ h => h) (.inl ⟨by rfl, fun W hW => gx_build2 rfl rfl rfl (build_msg2 ty A5 n c5 W)⟩) hS9 ?_
      simp only [Act.put, zzA, zz0, zz1]
      have hb6 := (hb60.alloc (.cells #[] 40)).grown hgr (by simp)
      refine alw_step (i := 8) (by kernel_rfl) rfl rfl ?_
      intro K1 HK1
      refine wp_store_rowU 24 (.tmp 6) (.tmp 18) rfl #[.int .i64 ty, .slice A5 n c5] hb6 rfl rfl rfl (by rw [size_msg]; rfl) (msgA_one _ _ _ _) ?_
      intro w7 hb7 hu7
      have hend := own_end hrow hb6 ht5 (Nat.le_refl _) hu7
      refine HK1.out _ _ ⟨HSd.out.turn hend.2 (fun e => e), ?_⟩
      clear HK1
      try simp only [Act.put, zzA, zz0, zz1]
      refine alw_done rfl ?_
      refine NoPanic.normal ?_
      go_wp2_with fail
      go_meet
      exact ⟨_, A5, c5, rfl, hb7, by rw [← HSZ.out]; exact hend.1, HD.out.next hend.2⟩
  obtain ⟨go, A7, c7, rfl, hbo, hro, hto⟩ := hcut
  have HBgo := Lib.hid hbo
  have HRgo := Lib.hid hro
  have HTo := Lib.hid hto
  have HFgo := Lib.hid (hro.fl (by have := HF.out.1; have := HRM.out; omega))
  clear hbo hro hto
  have HFO := Lib.hid HFgo.out.1
  generalize hmr : mencode x0 ty fs = r
  go_upto_region 3 with fail
  refine wp_region_lit ?_
  refine wR (v := .int .i64 x0) rfl (exec_move rfl rfl) ?_
  simp only [Act.put, zzA, zz0, zz1]
  refine wR (v := msgV ty A7 n c7) rfl (gx_loads rfl rfl (blk_range HBgo.out) Tryz.underlying24 rfl (by rw [size_msg]; rfl)) ?_
  simp only [Act.put, zzA, zz0, zz1]
  have hE := Encode_walk (s := s) (dd := x0) (ty := ty) (c := c7) (HE.out.turn ((HT0.out.next HT1.out).next HTo.out)) HFO.out
  rw [hmr] at hE
  refine wpList_op rfl fun K9 HK9 => ?_
  go_wp2_with fail
  refine (hE).mono ?_
  rintro e w3 ⟨A2, n2, c2, rfl, hox, htx⟩
  refine HK9.out _ _ ?_
  clear HK9
  try simp only [Act.put, zzA, zz0, zz1]
  clear hE
  have HT3 := Lib.hid htx
  clear htx
  obtain ⟨A9, n9, c9, hf9, hb9, hnc9, hz9⟩ := hox.form
  injection hf9 with g1 g2 g3
  subst g1 g2 g3
  have HS3 := Lib.hid hb9
  clear hox hb9 hnc9 hz9
  refine wR (v := .tuple #[.slice A2 n2 c2, .int .i64 (codeE r)]) rfl (exec_move rfl rfl) ?_
  simp only [Act.put, zzA, zz0, zz1]
  refine wR (v := .slice A2 n2 c2) rfl (ix_extract rfl rfl rfl) ?_
  simp only [Act.put, zzA, zz0, zz1]
  refine wR (v := .int .i64 (codeE r)) rfl (ix_extract rfl rfl rfl) ?_
  simp only [Act.put, zzA, zz0, zz1]
  refine wR (v := .slice A2 n2 c2) rfl (gx_assign rfl rfl) ?_
  simp only [Act.put, zzA, zz0, zz1]
  refine wR (v := .int .i64 (codeE r)) rfl (gx_assign rfl rfl) ?_
  simp only [Act.put, zzA, zz0, zz1]
  go_upto_region 4 with fail
  refine wp_region_lit ?_
  refine wR (v := .int .i64 x0) rfl (exec_move rfl rfl) ?_
  simp only [Act.put, zzA, zz0, zz1]
  refine wR (v := msgV ty A n c) rfl (gx_loads rfl rfl (blk_range (HBgm.out.turn ((HT1.out.next HTo.out).next HT3.out) (fun e => e))) Tryz.underlying24 rfl (by rw [size_msg]; rfl)) ?_
  simp only [Act.put, zzA, zz0, zz1]
  have hE := rEncode_walk (dd := x0) (ty := ty) (c := c) (HF.out.still (((HT0.out.next HT1.out).next HTo.out).next HT3.out)) HTX.out
  rw [hmr] at hE
  clear hmr
  refine wpList_op rfl fun K9 HK9 => ?_
  go_wp2_with fail
  refine (hE).mono ?_
  rintro e w4 ⟨A3, n3, c3, rfl, hox, htx⟩
  refine HK9.out _ _ ?_
  clear HK9
  try simp only [Act.put, zzA, zz0, zz1]
  clear hE
  have HT4 := Lib.hid htx
  clear htx
  obtain ⟨A9, n9, c9, hf9, hb9, hnc9, hz9⟩ := hox.form
  injection hf9 with g1 g2 g3
  subst g1 g2 g3
  have HS4 := Lib.hid hb9
  clear hox hb9 hnc9 hz9
  refine wR (v := .tuple #[.slice A3 n3 c3, .int .i64 (codeE r)]) rfl (exec_move rfl rfl) ?_
  simp only [Act.put, zzA, zz0, zz1]
  refine wR (v := .slice A3 n3 c3) rfl (ix_extract rfl rfl rfl) ?_
  simp only [Act.put, zzA, zz0, zz1]
  refine wR (v := .int .i64 (codeE r)) rfl (ix_extract rfl rfl rfl) ?_
  simp only [Act.put, zzA, zz0, zz1]
  refine wR (v := .slice A3 n3 c3) rfl (gx_assign rfl rfl) ?_
  simp only [Act.put, zzA, zz0, zz1]
  refine wR (v := .int .i64 (codeE r)) rfl (gx_assign rfl rfl) ?_
  simp only [Act.put, zzA, zz0, zz1]
  generalize bytesE r = rb at *
  generalize codeE r = rc at *
  have hS0 : Blk w4 gm 24 #[.int .i64 ty, .slice A n c] ∧ Blk w4 go 24 #[.int .i64 ty, .slice A7 n c7] ∧ Bs w4 A2 n2 rb ∧ Bs w4 A3 n3 rb := ⟨(HBgm.out.turn (((HT1.out.next HTo.out).next HT3.out).next HT4.out) (fun e => e)), (HBgo.out.turn (HT3.out.next HT4.out) (fun e => e)), (bs_still HS3.out HT4.out), HS4.out⟩
  go_upto_region 5 with fail
  refine wp_region_alw (fun W => Blk W gm 24 #[.int .i64 ty, .slice A n c] ∧ Blk W go 24 #[.int .i64 ty, .slice A7 n c7] ∧ Bs W A2 n2 rb ∧ Bs W A3 n3 rb) (by kernel_rfl) ?_
  have hS1 : Blk w4.drew gm 24 #[.int .i64 ty, .slice A n c] ∧ Blk w4.drew go 24 #[.int .i64 ty, .slice A7 n c7] ∧ Bs w4.drew A2 n2 rb ∧ Bs w4.drew A3 n3 rb := ⟨hS0.1.drew, hS0.2.1.drew, bs_still hS0.2.2.1 ((Turn.refl nowhere w4).drew), bs_still hS0.2.2.2 ((Turn.refl nowhere w4).drew)⟩
  have HTD := Lib.hid ((Turn.refl nowhere w4).drew)
  clear hS0
  generalize w4.drew = w5 at *
  refine alw_take (i := 0) (v := .bool true) rfl (by kernel_rfl) (by kernel_rfl) (fun _ _ _ h => h) (.inl ⟨by rfl, fun W hW => exec_move rfl rfl⟩) hS1 ?_
  simp only [Act.put, zzA, zz0, zz1]
  refine alw_take (i := 1) (v := .bool true) rfl (by kernel_rfl) (by kernel_rfl) (fun _ _ _ h => h) (.inl ⟨by rfl, fun W hW => exec_move rfl rfl⟩) hS1 ?_
  simp only [Act.put, zzA, zz0, zz1]
  refine alw_take (i := 2) (v := .slice A2 n2 c2) rfl (by kernel_rfl) (by kernel_rfl) (fun _ _ _ h => h) (.inl ⟨by rfl, fun W hW => exec_move rfl rfl⟩) hS1 ?_
  simp only [Act.put, zzA, zz0, zz1]
  refine alw_take (i := 3) (v := strV rb) rfl (by kernel_rfl) (by kernel_rfl) (fun _ _ _ h => h) (.inl ⟨by rfl, fun W hW => exec_strBs (l := rb) rfl rfl hW.2.2.1⟩) hS1 ?_
  simp only [Act.put, zzA, zz0, zz1]
  refine alw_take (i := 4) (v := .slice A3 n3 c3) rfl (by kernel_rfl) (by kernel_rfl) (fun _ _ _ h => h) (.inl ⟨by rfl, fun W hW => exec_move rfl rfl⟩) hS1 ?_
  simp only [Act.put, zzA, zz0, zz1]
  refine alw_take (i := 5) (v := strV rb) rfl (by kernel_rfl) (by kernel_rfl) (fun _ _ _ h => h) (.inl ⟨by rfl, fun W hW => exec_strBs (l := rb) rfl rfl hW.2.2.2⟩) hS1 ?_
  simp only [Act.put, zzA, zz0, zz1]
  refine alw_take (i := 6) (v := .bool true) rfl (by kernel_rfl) (by kernel_rfl) (fun _ _ _ h => h) (.inl ⟨by rfl, fun W hW => seql_same (l := rb) rfl rfl rfl⟩) hS1 ?_
  simp only [Act.put, zzA, zz0, zz1]
  refine alw_take (i := 7) (v := .bool true) rfl (by kernel_rfl) (by kernel_rfl) (fun _ _ _ h => h) (.inl ⟨by rfl, fun W hW => ix_pickT rfl rfl rfl⟩) hS1 ?_
  simp only [Act.put, zzA, zz0, zz1]
  refine alw_take (i := 8) (v := .bool true) rfl (by kernel_rfl) (by kernel_rfl) (fun _ _ _ h => h) (.inl ⟨by rfl, fun W hW => exec_move rfl rfl⟩) hS1 ?_
  simp only [Act.put, zzA, zz0, zz1]
  refine alw_take (i := 9) (v := .int .i64 rc) rfl (by kernel_rfl) (by kernel_rfl) (fun _ _ _ h => h) (.inl ⟨by rfl, fun W hW => exec_move rfl rfl⟩) hS1 ?_
  simp only [Act.put, zzA, zz0, zz1]
  refine alw_take (i := 10) (v := .int .i64 rc) rfl (by kernel_rfl) (by kernel_rfl) (fun _ _ _ h => h) (.inl ⟨by rfl, fun W hW => exec_move rfl rfl⟩) hS1 ?_
  simp only [Act.put, zzA, zz0, zz1]
  refine alw_take (i := 11) (v := .bool true) rfl (by kernel_rfl) (by kernel_rfl) (fun _ _ _ h => h) (.inl ⟨by rfl, fun W hW => errno_eq (i := rc) rfl rfl rfl⟩) hS1 ?_
  simp only [Act.put, zzA, zz0, zz1]
  refine alw_take (i := 12) (v := .bool true) rfl (by kernel_rfl) (by kernel_rfl) (fun _ _ _ h => h) (.inl ⟨by rfl, fun W hW => ix_pickT rfl rfl rfl⟩) hS1 ?_
  simp only [Act.put, zzA, zz0, zz1]
  refine alw_take (i := 13) (v := .bool true) rfl (by kernel_rfl) (by kernel_rfl) (fun _ _ _ h => h) (.inl ⟨by rfl, fun W hW => exec_move rfl rfl⟩) hS1 ?_
  simp only [Act.put, zzA, zz0, zz1]
  refine alw_take (i := 14) (v := msgV ty A7 n c7) rfl (by kernel_rfl) (by kernel_rfl) (fun _ _ _ h => h) (.inl ⟨by rfl, fun W hW => gx_loads rfl rfl (blk_range hW.2.1) Tryz.underlying24 rfl (by rw [size_msg]; rfl)⟩) hS1 ?_
  simp only [Act.put, zzA, zz0, zz1]
  refine alw_take (i := 16) (v := msgV ty A n c) rfl (by kernel_rfl) (by kernel_rfl) (fun _ _ _ h => h) (.inl ⟨by rfl, fun W hW => gx_loads rfl rfl (blk_range hW.1) Tryz.underlying24 rfl (by rw [size_msg]; rfl)⟩) hS1 ?_
  simp only [Act.put, zzA, zz0, zz1]
  generalize hck : mcheck ty fs = rk
  have hE := Check_walk (s := s) (ty := ty) (c := c7) (HE.out.turn (((((HT0.out.next HT1.out).next HTo.out).next HT3.out).next HT4.out).next HTD.out)) (HFO.out.still ((HT3.out.next HT4.out).next HTD.out))
  rw [hck] at hE
  refine alw_step (i := 15) (by kernel_rfl) rfl rfl ?_
  intro K1 HK1
  go_wp2_with fail
  refine hE.mono ?_
  rintro e w6 ⟨rfl, htx⟩
  have hS2 : Blk w6 gm 24 #[.int .i64 ty, .slice A n c] ∧ Blk w6 go 24 #[.int .i64 ty, .slice A7 n c7] ∧ Bs w6 A2 n2 rb ∧ Bs w6 A3 n3 rb := ⟨hS1.1.turn htx (fun e => e), hS1.2.1.turn htx (fun e => e), bs_still hS1.2.2.1 htx, bs_still hS1.2.2.2 htx⟩
  refine HK1.out _ _ ⟨hS2, ?_⟩
  have HT6 := Lib.hid htx
  clear HK1 htx hE hS1
  try simp only [Act.put, zzA, zz0, zz1]
  have hE := rCheck_walk (ty := ty) (c := c) (HF.out.still ((((((HT0.out.next HT1.out).next HTo.out).next HT3.out).next HT4.out).next HTD.out).next HT6.out)) HTX.out
  rw [hck] at hE
  refine alw_step (i := 17) (by kernel_rfl) rfl rfl ?_
  intro K1 HK1
  go_wp2_with fail
  refine hE.mono ?_
  rintro e w7 ⟨rfl, htx⟩
  have hS3 : Blk w7 gm 24 #[.int .i64 ty, .slice A n c] ∧ Blk w7 go 24 #[.int .i64 ty, .slice A7 n c7] ∧ Bs w7 A2 n2 rb ∧ Bs w7 A3 n3 rb := ⟨hS2.1.turn htx (fun e => e), hS2.2.1.turn htx (fun e => e), bs_still hS2.2.2.1 htx, bs_still hS2.2.2.2 htx⟩
  refine HK1.out _ _ ⟨hS3, ?_⟩
  have HT7 := Lib.hid htx
  clear HK1 htx hE hS2
  try simp only [Act.put, zzA, zz0, zz1]
  refine alw_take (i := 18) (v := .bool true) rfl (by kernel_rfl) (by kernel_rfl) (fun _ _ _ h => h) (.inl ⟨by rfl, fun W hW => errno_eq (i := rk) rfl rfl rfl⟩) hS3 ?_
  simp only [Act.put, zzA, zz0, zz1]
  refine alw_take (i := 19) (v := .bool true) rfl (by kernel_rfl) (by kernel_rfl) (fun _ _ _ h => h) (.inl ⟨by rfl, fun W hW => ix_pickT rfl rfl rfl⟩) hS3 ?_
  simp only [Act.put, zzA, zz0, zz1]
  refine alw_take (i := 20) (v := .bool true) rfl (by kernel_rfl) (by kernel_rfl) (fun _ _ _ h => h) (.inl ⟨by rfl, fun W hW => exec_move rfl rfl⟩) hS3 ?_
  simp only [Act.put, zzA, zz0, zz1]
  refine alw_take (i := 21) (v := msgV ty A7 n c7) rfl (by kernel_rfl) (by kernel_rfl) (fun _ _ _ h => h) (.inl ⟨by rfl, fun W hW => gx_loads rfl rfl (blk_range hW.2.1) Tryz.underlying24 rfl (by rw [size_msg]; rfl)⟩) hS3 ?_
  simp only [Act.put, zzA, zz0, zz1]
  refine alw_take (i := 22) (v := msgV ty A n c) rfl (by kernel_rfl) (by kernel_rfl) (fun _ _ _ h => h) (.inl ⟨by rfl, fun W hW => gx_loads rfl rfl (blk_range hW.1) Tryz.underlying24 rfl (by rw [size_msg]; rfl)⟩) hS3 ?_
  simp only [Act.put, zzA, zz0, zz1]
  have hE := Same_walk (ty1 := ty) (ty2 := ty) (c1 := c7) (c2 := c) (HFO.out.still ((((HT3.out.next HT4.out).next HTD.out).next HT6.out).next HT7.out)) (HF.out.still (((((((HT0.out.next HT1.out).next HTo.out).next HT3.out).next HT4.out).next HTD.out).next HT6.out).next HT7.out))
  rw [decide_eq_true (show ty = ty ∧ fs = fs from ⟨rfl, rfl⟩)] at hE
  refine alw_step (i := 23) (by kernel_rfl) rfl rfl ?_
  intro K1 HK1
  go_wp2_with fail
  refine hE.mono ?_
  rintro e w8 ⟨rfl, htx⟩
  have hS4 : Blk w8 gm 24 #[.int .i64 ty, .slice A n c] ∧ Blk w8 go 24 #[.int .i64 ty, .slice A7 n c7] ∧ Bs w8 A2 n2 rb ∧ Bs w8 A3 n3 rb := ⟨hS3.1.turn htx (fun e => e), hS3.2.1.turn htx (fun e => e), bs_still hS3.2.2.1 htx, bs_still hS3.2.2.2 htx⟩
  refine HK1.out _ _ ⟨hS4, ?_⟩
  have HT8 := Lib.hid htx
  clear HK1 htx hE hS3
  try simp only [Act.put, zzA, zz0, zz1]
  refine alw_take (i := 24) (v := .bool true) rfl (by kernel_rfl) (by kernel_rfl) (fun _ _ _ h => h) (.inl ⟨by rfl, fun W hW => ix_pickT rfl rfl rfl⟩) hS4 ?_
  simp only [Act.put, zzA, zz0, zz1]
  refine alw_take (i := 25) (v := .bool true) rfl (by kernel_rfl) (by kernel_rfl) (fun _ _ _ h => h) (.inl ⟨by rfl, fun W hW => gx_assign rfl rfl⟩) hS4 ?_
  simp only [Act.put, zzA, zz0, zz1]
  refine alw_done rfl ?_
  clear hS4
  refine NoPanic.normal ?_
  go_wp2_with fail
  go_ret
  exact ⟨rfl, (((((((((HT0.out.next HT1.out).next HTo.out).next HT3.out).next HT4.out).next HTD.out).next HT6.out).next HT7.out).next HT8.out)).below (Nat.le_refl _) (fun _ _ e=>e)⟩
end Go.Proofs.YticofobhkmabiaaGreatDoor
namespace Go.Proofs.YticofobhkmabiaaGreatDoor.messageWrites
open Go.ChangeShapes Go.WideShapes Go.ChangeAt Go.RowKit
open Go.ChangeMaps (open_string shut_string)
set_option linter.unusedVariables false
theorem own : ownKnob Tryz.prog.godebug = none := by kernel_rfl
theorem laidOut : laidOutB Tryz.prog = true := by kernel_rfl
set_option maxRecDepth 100000 in
/-- WHAT THE WALK GIVES, FOR EVERY ARGUMENT AND EVERY WORLD: the same for both forms. -/
theorem contract (H : Type) (enc : TypeId × Value → H) (W : World) (base : Nat) (args : Array Value) (ds gs : List (DataW H)) (before : List MemPlace)
    (hval : ∀ (j : Nat) t v, Tryz.f3.params[j]? = some t → args[j]? = some v → Value.okWide Tryz.prog W .any base t v)
    (hW : DataW.Whole enc Tryz.prog Tryz.f3.params.toList Rows.messageWritesSpec.vars false W args.toList ds gs before) (hsz0 : (DataW.weightsEach Tryz.prog (Tryz.f3.params.toList ++ Rows.messageWritesSpec.plain.varTypes Tryz.prog) (ds ++ gs)).all (· ≤ reachBytes) = true) (hL : laidMetH Tryz.prog Rows.messageWritesRow.laid W) (hsh : W.ShapedOpen Tryz.prog) :
    Calls Tryz.prog 3 args W fun e W' => ∃ v, e = .returned v ∧ Rows.messageWritesSpec.post enc Tryz.prog Tryz.f3 false true false false W args v W' := by
  have hW' := hW
  obtain ⟨p, q, hA0, hV, rfl, hfz, hnd⟩ := hW
  have hA : DataW.TrodAll enc Tryz.prog W 0 (fun _ => true) true Tryz.f3.params.toList args.toList ds p := hA0
  have hsz : (DataW.weightsEach Tryz.prog (Tryz.f3.params.toList ++ Rows.messageWritesSpec.plain.varTypes Tryz.prog) (ds ++ gs)).all (· ≤ reachBytes) = true := hsz0
  rw [Tryz.params3] at hA hval hsz
  obtain ⟨v0, vs0, d0, ds0, p0, q0, hargs, rfl, rfl, h0, r0⟩ := trodAll_cons hA
  obtain ⟨v1, vs1, d1, ds1, p1, q1, rfl, rfl, rfl, h1, r1⟩ := trodAll_cons r0
  obtain ⟨rfl, rfl, rfl⟩ := trodAll_nil r1
  obtain rfl : args = #[v0, v1] := by cases args; simp_all
  obtain ⟨rfl, rfl⟩ := trodVars_none hV
  obtain ⟨x0, rfl, rfl, rfl, w0⟩ := open_int Tryz.underlying3 (hval 0 3 v0 rfl rfl) h0
  have k1 := h1
  have lt1 : ∀ x ∈ p1, x.block < W.heap.size := by obtain ⟨m, hm⟩ := k1; exact DataW.trod_lt m _ _ _ hm
  have room1 := msg_room (hval 1 24 v1 rfl rfl) h1 (fun x hx => by simpa using List.all_eq_true.1 hsz _ (DataW.weights_mem_each (j := 1) (t := 24) rfl rfl x hx))
  obtain ⟨ty1, a1, len1, cap1, z1, rfl, w1, tyw1, lc1, nn1, fw1⟩ := msg_of (hval 1 24 v1 rfl rfl) h1 (fun x hx => by simpa using List.all_eq_true.1 hsz _ (DataW.weights_mem_each (j := 1) (t := 24) rfl rfl x hx))
  have hroom1 := room1 _ _ _ _ rfl
  obtain ⟨s, henv⟩ := env_of_laid (l := Rows.messageWritesRow.laid) rfl hL
  clear hA0
  refine (messageWrites_walk x0 W henv w1 (fun f hf => (fw1 f hf).2) nn1 hroom1).mono fun e W' ⟨he, bel⟩ => ?_
  subst he
  exact ⟨_, rfl, _, _, _, [], _, [], hW', trodAll_mk1 (shut_bool Tryz.underlying4 _), (trodAll_cons_mk (shut_int Tryz.underlying3 w0) (trodAll_cons_mk (Below.trod laidOut (by kernel_rfl) (of_decide_eq_true (by kernel_rfl)) k1 bel lt1) trodAll_mk0)), rfl, bel.frame _, fun h => by cases h⟩
theorem laid_met (os : Os) : laidMetH Tryz.prog Rows.messageWritesRow.laid ((hworld os Rows.messageWritesRow.laid).forCall (fun _ _ => 0) ⟨#[], #[.int .i64 0, .agg #[.int .i64 0, .slice none 0 0]], []⟩).memory :=
  laidH_hworld _ (by kernel_rfl) (by kernel_rfl) (by kernel_rfl)
theorem reads (os : Os) {H : Type} (enc : TypeId × Value → H) : ∃ places, DataW.whole enc Tryz.prog ((hworld os Rows.messageWritesRow.laid).forCall (fun _ _ => 0) ⟨#[], #[.int .i64 0, .agg #[.int .i64 0, .slice none 0 0]], []⟩).memory Tryz.f3.params.toList Rows.messageWritesSpec.vars false [.int .i64 0, .agg #[.int .i64 0, .slice none 0 0]] 8 = some ([.lit (.int .i64 0), .agg [.lit (.int .i64 0), .nil]], [], places) :=
  ⟨[], by kernel_rfl⟩
set_option maxRecDepth 100000 in
theorem lifted (os : Os) (started : os.Started) (H : Type) (enc : TypeId × Value → H) (F : Stop.Interp) :
    ReturnsInHanded {} Tryz.checked os 3 .any ((OpenSpec.ofChange Rows.messageWritesSpec).preRow enc Tryz.prog Tryz.f3 Rows.messageWritesRow.domain false Rows.messageWritesRow.laid) (((OpenSpec.ofChange Rows.messageWritesSpec).at F).post enc Tryz.prog Tryz.f3 false true false false) := by
  obtain ⟨places, hx⟩ := reads os enc
  refine returnsInHanded_of_row (C := Tryz.checked) (s := OpenSpec.ofChange Rows.messageWritesSpec) own started (by kernel_rfl) Tryz.func3
    (witness_zip (enc := enc) (C := Tryz.checked) false (hworld os Rows.messageWritesRow.laid) #[.int .i64 0, .agg #[.int .i64 0, .slice none 0 0]] (hworld_os _ _) (World.shaped_of_ZipB (by kernel_rfl) (by kernel_rfl)) (by kernel_rfl)
      (OpenSpec.preRow_of_cond 8 hx (by kernel_rfl) (fun k hk => by cases hk) (by kernel_rfl) (laid_met os))) ?_
  intro W base args ds gs before hval hW _ hcond hsz hL hsh _
  exact contract H enc W base args ds gs before hval hW hsz hL hsh
theorem said : Rows.MessageWritesSaid :=
  OpenClaim.holds_of_cond 3 Tryz.f3 rfl rfl rfl rfl rfl rfl rfl ⟨rfl, rfl, rfl, rfl, rfl⟩ rfl rfl rfl rfl rfl (by kernel_rfl) Tryz.func3 (by kernel_rfl)
    (of_decide_eq_true (by kernel_rfl)) (by unfold Func.isWrapper; first | (rw [if_pos (by decide +kernel)]; kernel_rfl) | (rw [if_neg (by decide +kernel)]; exact ⟨rfl, rfl⟩))
    (fun os started H enc _ F => by rw [OpenClaim.pre_eq_preRow]; exact lifted os started H enc F)
theorem plain (f : FuncId) (fn : Func) (hf : Tryz.pinned.checked.prog.funcNamed "groat/groatlaw05.MessageWrites" = some f) (hfn : Tryz.pinned.checked.prog.funcs[f]? = some fn) :
    true = Tryz.pinned.checked.prog.looks [] ∧ ∀ (j : Nat) t, fn.params[j]? = some t → Tryz.pinned.checked.prog.wantsStandIn t = false := by
  obtain rfl : f = 3 := Option.some.inj ((show Tryz.prog.funcNamed "groat/groatlaw05.MessageWrites" = some 3 by kernel_rfl).symm.trans hf) |>.symm
  obtain rfl : fn = Tryz.f3 := (Option.some.inj (Tryz.func3.symm.trans hfn)).symm
  refine ⟨by kernel_rfl, fun j t ht => ?_⟩
  rw [Tryz.params3] at ht
  have hm : t ∈ [3, 24] := by simpa using Array.mem_of_getElem? ht
  have hall : ([3, 24].all fun u => !Tryz.prog.wantsStandIn u) = true := by kernel_rfl
  exact (show Tryz.prog.wantsStandIn t = false by simpa using List.all_eq_true.1 hall t hm)
/-- THE CARD -/
theorem card : Rows.MessageWritesCardSaid :=
  Claim7.holds_tied_plain_at .later [] _ _ _ _ said (fun _ h => by cases h) (by kernel_rfl) (fun _ h => by cases h) messageWrites_row_tie rfl ⟨rfl, rfl⟩ (by kernel_rfl) rfl plain (by kernel_rfl)
#print axioms card
end Go.Proofs.YticofobhkmabiaaGreatDoor.messageWrites
