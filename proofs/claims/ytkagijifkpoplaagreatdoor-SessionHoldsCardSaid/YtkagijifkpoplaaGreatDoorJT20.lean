/-
  Texts in one file. Conditions: the tables and the errors read as laid.
-/
import Derived.Test.YtkagijifkpoplaaGreatDoorJT19
import Derived.Test.YtkagijifkpoplaaGreatDoorJT18
import Derived.Test.YtkagijifkpoplaaGreatDoorJT16
import Derived.Test.YtkagijifkpoplaaGreatDoorJT0
import Derived.Test.YtkagijifkpoplaaGreatDoorJT1
set_option linter.unusedVariables false
set_option linter.unusedSimpArgs false
set_option maxRecDepth 40000
set_option maxHeartbeats 20000000
namespace Go.Proofs.YtkagijifkpoplaaGreatDoor
open Go.RowKit
open Fdd
def SetP (ty no : Int) (t : List UInt8) (fs : List Fld) (w : World) (e : Ending) (w' : World) : Prop :=
 ∃ A n c, e = .returned (msgV ty A n c) ∧ (setM no t fs).length = n ∧ FRow w' w.heap.size (.slice A n c) (setM no t fs) ∧ Turn nowhere w w'
theorem Set_walk {w : World} {ty no : Int} {t : List UInt8} {A : Option Addr} {n c : Nat} {fs : List Fld} (hf : Fl w A n fs) (hr : n * 24 ≤ 140737488351232) :
 Calls Tryz.prog 28 #[msgV ty A n c, .int .i64 no, strV t] w (SetP ty no t fs w) := by
 have HF := zH hf
 have HNL := zH hf.1
 have HRM := zH hr
 have y9 : (n : Int) ≤ 140737488355328 := by
  have := hf.2.1
  omega
 clear hf hr
 unfold msgV
 have hb0 := ((Blk.new w 29 #[.int .i64 ty, .slice A n c]).alloc (.cells #[.int .i64 no] 3)).alloc (.cells #[.int .i64 0, .slice none 0 0] 29)
 have hb1 := (Blk.new (w.alloc (.cells #[.int .i64 ty, .slice A n c] 29)) 3 #[.int .i64 no]).alloc (.cells #[.int .i64 0, .slice none 0 0] 29)
 have hb2 := Blk.new ((w.alloc (.cells #[.int .i64 ty, .slice A n c] 29)).alloc (.cells #[.int .i64 no] 3)) 29 #[.int .i64 0, .slice none 0 0]
 have hu := (((Turn.refl nowhere w).alloc (.cells #[.int .i64 ty, .slice A n c] 29)).alloc (.cells #[.int .i64 no] 3)).alloc (.cells #[.int .i64 0, .slice none 0 0] 29)
 rw [show (w.alloc (.cells #[.int .i64 ty, .slice A n c] 29)).heap.size = w.heap.size + 1 from by simp] at hb1
 rw [show ((w.alloc (.cells #[.int .i64 ty, .slice A n c] 29)).alloc (.cells #[.int .i64 no] 3)).heap.size = w.heap.size + 1 + 1 from by simp] at hb2
 go_enter Tryz.func28, Tryz.ntmps28
 go_upto_region 1 with fail
 obtain ⟨g6, hg6⟩ : ∃ g, g = w.heap.size + 1 + 1 := ⟨_, rfl⟩
 obtain ⟨gq, hgq⟩ : ∃ g, g = w.heap.size + 1 := ⟨_, rfl⟩
 obtain ⟨gm, hgm⟩ : ∃ g, g = w.heap.size := ⟨_, rfl⟩
 rw [← hg6] at hb2 ⊢
 rw [← hgq] at hb1 ⊢
 rw [← hgm] at hb0 ⊢
 have HG6 := zH (show w.heap.size ≤ g6 from by omega)
 have HGN := zH (show gm ≠ g6 ∧ gq ≠ g6 from ⟨by omega, by omega⟩)
 clear hg6 hgq hgm
 generalize ((w.alloc (.cells #[.int .i64 ty, .slice A n c] 29)).alloc (.cells #[.int .i64 no] 3)).alloc (.cells #[.int .i64 0, .slice none 0 0] 29) = w1 at *
 have HBM := zH hb0
 have HBQ := zH hb1
 have HB6 := zH hb2
 have HT0 := zH hu
 have HF1 := zH (HF.out.still hu)
 clear hb0 hb1 hb2 hu
 refine wp_region_lit ?_
 refine wA (.slice none 0 0) ?_;simp only [zz]
 go_upto_region 2 with fail
 refine wp_region_lit ?_
 refine wS (.pointer (some ⟨gm, 1, none⟩)) (xF 0 1) ?_;simp only [zz];refine wS (.slice A n c) (xL (HBM.out.cell 1)) ?_;simp only [zz];refine wS (.int .i64 (n : Int)) (gx_len rfl rfl Tryz.underlying27) ?_;simp only [zz];refine wM (.int .i64 0) ?_;simp only [zz]
 go_wp2_with fail
 go_loopg [7, 14] n (fun gk lv jv wr => ∃ (j : Nat) (l : List Fld) (B : Option Addr) (k d : Nat), j + gk = n ∧ jv = .int .i64 (j : Int) ∧ lv = .slice B k d ∧ l.length = k ∧ k ≤ j ∧ others no (fs.take j) = l ∧ FRow wr w1.heap.size (.slice B k d) l ∧ Turn nowhere w1 wr)
 case atStart => exact ⟨0, [], none, 0, 0, by omega, rfl, rfl, rfl, by omega, by rw [List.take_zero]; rfl, FRow.nil _ _, Turn.refl _ _⟩
 obtain ⟨j, l, B, k, d, hjl, rfl, rfl, hlk, hkj, hol, hrow, htr⟩ := hrel
 have HJL := zH hjl
 have HLK := zH hlk
 have HKJ := zH hkj
 have HOL := zH hol
 have HRW := zH hrow
 have HTR := zH htr
 clear hjl hlk hkj hol hrow htr
 go_upto_region 3 with fail
 refine wp_region_lit ?_
 by_cases hlt : j < n
 ·have HLT := zH hlt
  have y1 : (j : Int) < (n : Int) := by omega
  obtain ⟨bF, oF, rfl, hr⟩ := HF1.out.2.2 (by omega)
  obtain ⟨f, hf⟩ : ∃ f, fs[j]? = some f := ⟨_, List.getElem?_eq_getElem (show j < fs.length from by rw [HNL.out]; exact hlt)⟩
  have HRR := zH (show wr.rangeAt bF (oF + j * 2) (fldA f).toList from fun i v hv => (HTR.out.cell (World.block_lt_of_cell? _ _ (hr j f hf i v hv)) (fun e => e)).trans (hr j f hf i v hv))
  have HST := zH (oth_take (no := no) hf)
  clear hr hf hlt
  refine wS (.bool true) (ix_lss rfl rfl rfl (decide_eq_true y1)) ?_;simp only [zz]
  go_upto_region 4 with fail
  refine wp_region_lit ?_
  refine wS (.pointer (some ⟨bF, oF + j * 2, none⟩)) (gx_iaddr (i := j) (sz := 2) rfl rfl rfl Tryz.underlying27 size_field HLT.out (by omega)) ?_;simp only [zz];refine wS (.agg (fldA f)) (gx_loads rfl rfl HRR.out Tryz.underlying38 rfl (by rw [size_field]; rfl)) ?_;simp only [zz]
  refine wpList_new 38 (.tmp 9) (.tmp 17) (fldA f) rfl rfl (zero_field _) rfl rfl rfl rfl rfl rfl (by rw [size_field]; rfl) (fldA_one f) ?_
  intro w3 g9 _ hbx hux
  simp only [zz]
  have HB9 := zH hbx
  have HT3 := zH (HTR.out.next hux)
  have HR3 := zH (HRW.out.still hux)
  clear hbx hux HRR
  have HQ3 := zH (HBQ.out.turn HT3.out (fun e => e))
  go_upto_region 5 with fail
  refine wp_region_lit ?_
  refine wS (.pointer (some ⟨g9, 0, none⟩)) (xF 0 0) ?_;simp only [zz];refine wS (.int .i64 f.1) (xL (HB9.out.cell 0)) ?_;simp only [zz];refine wS (.int .i64 no) (xL (HQ3.out.cell 0)) ?_;simp only [zz]
  by_cases heq : f.1 = no
  ·refine wS (.bool false) (ix_neq rfl rfl rfl (decide_eq_false (fun h => h heq))) ?_;simp only [zz]
   have HO2 := zH (show others no (fs.take (j + 1)) = l from by rw [HST.out, if_pos heq, HOL.out])
   clear heq
   go_wp2_with fail
   go_roundg (gk - 1)
   case measure => have := HJL.out; have := HLT.out; omega
   case rel => exact ⟨j + 1, l, B, k, d, by have := HJL.out; have := HLT.out; omega, by go_num, rfl, HLK.out, by have := HKJ.out; omega, HO2.out, HR3.out, HT3.out⟩
  ·refine wS (.bool true) (ix_neq rfl rfl rfl (decide_eq_true heq)) ?_;simp only [zz]
   obtain ⟨B4, d4, w4, hrun, hrow4, ht4⟩ := frow_add (ty := 27) HR3.out HT3.out f (by have := HLK.out; have := HKJ.out; have := HRM.out; have := HLT.out; omega)
   rw [HLK.out] at hrun hrow4
   have HRN := zH hrun
   have HR4 := zH hrow4
   have HT4 := zH ht4
   have HO2 := zH (show others no (fs.take (j + 1)) = l ++ [f] from by rw [HST.out, if_neg heq, HOL.out])
   clear heq hrun hrow4 ht4
   go_upto_region 6 with fail
   refine wp_region_lit ?_
   refine wM (.slice B k d) ?_;simp only [zz];refine wS (.agg (fldA f)) (gx_loads rfl rfl (blk_range HB9.out) Tryz.underlying38 rfl (by rw [size_field]; rfl)) ?_;simp only [zz]
   refine wR (v := .slice (some ⟨w3.heap.size, 0, none⟩) 1 1) (w' := w3.alloc (.cells (fldA f) 38)) rfl (bx_slice1 rfl rfl (build_f1 f _)) ?_
   simp only [zz]
   refine wR (v := .slice B4 (k + 1) d4) (w' := w4) rfl (exec_append rfl rfl rfl HRN.out) ?_
   simp only [zz];refine wA (.slice B4 (k + 1) d4) ?_;simp only [zz]
   clear HRN
   go_wp2_with fail
   go_roundg (gk - 1)
   case measure => have := HJL.out; have := HLT.out; omega
   case rel => exact ⟨j + 1, l ++ [f], B4, k + 1, d4, by have := HJL.out; have := HLT.out; omega, by go_num, rfl, by rw [List.length_append, HLK.out]; rfl, by have := HKJ.out; omega, HO2.out, HR4.out, HT4.out⟩
 ·refine wS (.bool false) (ix_lss rfl rfl rfl (decide_eq_false (by omega))) ?_;simp only [zz]
  have HLL := zH (show others no fs = l from by
   have h := HOL.out
   rwa [List.take_of_length_le (by rw [HNL.out]; omega)] at h)
  have HKN := zH (show k ≤ n from by have := HJL.out; have := HKJ.out; omega)
  clear hlt
  go_upto_region 8 with fail
  refine wp_region_lit ?_
  refine wM (.slice B k d) ?_;simp only [zz];refine wS (moreV gq) (exec_mf rfl rfl) ?_;simp only [zz]
  have HFL := zH (HRW.out.fl (by have := HLK.out; have := HKN.out; have := HRM.out; omega))
  have hI := indexF_walk (c := d) HFL.out.1 (HBQ.out.turn HTR.out (fun e => e))
  unfold idxV at hI
  rw [HLK.out] at hI
  have y5 : (k : Int) ≤ (n : Int) := by have := HKN.out; omega
  obtain ⟨at0, hat0⟩ : ∃ i, i = atM no l := ⟨_, rfl⟩
  have HAE := zH hat0
  have HAL := zH (show at0 ≤ k from by rw [hat0, ← HLK.out]; exact at_le no l)
  have HSET := zH (show setM no t fs = l.take at0 ++ (no, t) :: l.drop at0 from by
   unfold setM
   rw [HLL.out, ins_at, ← hat0])
  rw [← hat0] at hI
  clear hat0
  by_cases hia : at0 < k
  ·rw [if_pos hia] at hI
   have y6 : (at0 : Int) < (k : Int) := by omega
   refine wpList_op rfl fun K9 HK9 => ?_
   go_wp2_with fail
   refine hI.mono ?_
   rintro e w5 ⟨rfl, ht5⟩
   refine HK9.out _ _ ?_
   clear HK9
   try simp only [zz]
   have HT5 := zH (HTR.out.next ht5)
   have HR5 := zH (HRW.out.still ht5)
   clear ht5
   clear hI hia
   refine wA (.int .i64 (at0 : Int)) ?_;simp only [zz]
   go_upto_region 9 with fail
   refine wp_region_lit ?_
   refine wM (.int .i64 (at0 : Int)) ?_;simp only [zz];refine wS (.bool false) (ix_lss rfl rfl rfl (decide_eq_false (by omega))) ?_;simp only [zz]
   have HB62 := zH (HB6.out.turn HT5.out (fun e => e))
   have hS0 : Blk w5 gm 29 #[.int .i64 ty, .slice A n c] ∧ Blk w5 gq 3 #[.int .i64 no] := ⟨HBM.out.turn HT5.out (fun e => e), HBQ.out.turn HT5.out (fun e => e)⟩
   go_upto_region 11 with fail
   refine wp_region_alw (fun W => Blk W gm 29 #[.int .i64 ty, .slice A n c] ∧ Blk W gq 3 #[.int .i64 no]) (by kernel_rfl) ?_
   have HT6 := zH HT5.out.drew
   have HR6 := zH (HR5.out.still ((Turn.refl nowhere w5).drew))
   have HB6d := zH (HB62.out.drew)
   replace hS0 := And.intro hS0.1.drew hS0.2.drew
   generalize w5.drew = w6 at *
   refine aU 0 (.pointer (some ⟨gm, 0, none⟩)) rfl (fun W hW => xF 0 0) hS0 ?_;simp only [zz];refine aU 1 (.int .i64 ty) rfl (fun W hW => xL (hW.1.cell 0)) hS0 ?_;simp only [zz];refine aM 2 (.slice B k d) hS0 ?_;simp only [zz];refine aM 3 (.int .i64 (at0 : Int)) hS0 ?_;simp only [zz];refine aU 4 (.int .i64 no) rfl (fun W hW => xL (hW.2.cell 0)) hS0 ?_;simp only [zz];refine aM 5 (strV t) hS0 ?_;simp only [zz];refine aU 6 (.agg (fldA (no, t))) rfl (fun W hW => gx_build2 rfl rfl rfl (build_fldM no t W)) hS0 ?_;simp only [zz]
   refine alw_step (i := 7) (by kernel_rfl) rfl rfl ?_
   intro K1 HK1
   refine wp_run (bx_slice1 rfl rfl (build_f1 (no, t) _)) ?_
   have hx7 := Blk.new w6 38 (fldA (no, t))
   have ht7 := HT6.out.alloc (.cells (fldA (no, t)) 38)
   have HR7 := zH (HR6.out.still ((Turn.refl nowhere w6).alloc (.cells (fldA (no, t)) 38)))
   have HB7 := zH (HB6d.out.alloc (.cells (fldA (no, t)) 38))
   have hS1 := And.intro (hS0.1.alloc (.cells (fldA (no, t)) 38)) (hS0.2.alloc (.cells (fldA (no, t)) 38))
   have hgl := fun qq (hk : (Value.slice B k d).ownBlock = some qq) => (HR6.out.lt qq hk).2
   refine HK1.out _ _ ⟨hS1, ?_⟩
   obtain ⟨g7, hg7⟩ : ∃ g, g = w6.heap.size := ⟨_, rfl⟩
   rw [← hg7] at hx7 hgl ⊢
   have HX7 := zH hx7
   have HT7 := zH ht7
   have HGL := zH hgl
   clear HK1 hg7 hgl hx7 ht7 hS0
   generalize w6.alloc (.cells (fldA (no, t)) 38) = w7 at *
   try simp only [zz]
   refine alw_step (i := 8) (by kernel_rfl) rfl rfl ?_
   intro K1 HK1
   go_wp2_with fail
   refine (Insert_walk HR7.out HT7.out HLK.out HAL.out HX7.out (fun b o s e => by
    have := HGL.out b (by rw [e]; rfl)
    omega) (by have := HKN.out; have := HRM.out; omega)).mono ?_
   rintro e w8 ⟨A8, c8, rfl, hrow8, ht8⟩
   have HT8 := zH ht8
   have HR8 := zH hrow8
   have hS2 : Blk w8 gm 29 #[.int .i64 ty, .slice A n c] ∧ Blk w8 gq 3 #[.int .i64 no] := ⟨HBM.out.turn ht8 (fun e => e), HBQ.out.turn ht8 (fun e => e)⟩
   have HB8 := zH (HB6.out.turn ht8 (fun e => e))
   refine HK1.out _ _ ⟨hS2, ?_⟩
   clear HK1 hS1 hrow8 ht8
   try simp only [zz]
   refine aU 9 (.agg #[.int .i64 ty, .slice A8 (k + 1) c8]) rfl (fun W hW => gx_build2 rfl rfl rfl (build_msg2 ty A8 (k + 1) c8 W)) hS2 ?_;simp only [zz]
   refine alw_step (i := 10) (by kernel_rfl) rfl rfl ?_
   intro K1 HK1
   refine wp_store_rowU 29 (.tmp 6) (.tmp 43) rfl #[.int .i64 ty, .slice A8 (k + 1) c8] HB8.out rfl rfl rfl (by rw [size_msg]; rfl) (msgA_one _ _ _ _) ?_
   intro wz hbz huz
   have hS3 : Blk wz gm 29 #[.int .i64 ty, .slice A n c] ∧ Blk wz gq 3 #[.int .i64 no] := ⟨hS2.1.turn huz (fun e => HGN.out.1 e), hS2.2.turn huz (fun e => HGN.out.2 e)⟩
   have HBZ := zH hbz
   have HUZ := zH (above (HT0.out.next HT8.out) HG6.out huz)
   have HRZ := zH ((HR8.out.turn huz (fun q hq e => by
    have e : q = g6 := e
    have h1 := (HR8.out.lt q hq).1
    have := HB6.out.lt
    omega)).less HT0.out.size)
   refine HK1.out _ _ ⟨hS3, ?_⟩
   clear hbz huz HK1 hS2
   try simp only [zz]
   refine alw_done rfl ?_
   clear hS3
   refine NoPanic.normal ?_
   go_wp2_with fail
   refine bodyPost_ret (v := .agg #[.int .i64 ty, .slice A8 (k + 1) c8]) (ret_cell1 rfl _ _ g6 _ _ _ rfl HBZ.out Tryz.underlying29 rfl (by rw [size_msg]; rfl)) rfl ?_
   refine ⟨A8, k + 1, c8, rfl, ?_, ?_, HUZ.out⟩
   ·rw [set_len, HLL.out, HLK.out]
   ·rw [HSET.out]
    exact HRZ.out
  ·rw [if_neg hia] at hI
   obtain rfl : at0 = k := by have := HAL.out; omega
   refine wpList_op rfl fun K9 HK9 => ?_
   go_wp2_with fail
   refine hI.mono ?_
   rintro e w5 ⟨rfl, ht5⟩
   refine HK9.out _ _ ?_
   clear HK9
   try simp only [zz]
   have HT5 := zH (HTR.out.next ht5)
   have HR5 := zH (HRW.out.still ht5)
   clear ht5
   clear hI hia
   refine wA (.int .i64 (-1)) ?_;simp only [zz]
   go_upto_region 9 with fail
   refine wp_region_lit ?_
   refine wM (.int .i64 (-1)) ?_;simp only [zz];refine wS (.bool true) (ix_lss rfl rfl rfl (by decide)) ?_;simp only [zz]
   go_upto_region 10 with fail
   refine wp_region_lit ?_
   refine wM (.slice B at0 d) ?_;simp only [zz];refine wS (.int .i64 (at0 : Int)) (gx_len rfl rfl Tryz.underlying27) ?_;simp only [zz];refine wA (.int .i64 (at0 : Int)) ?_;simp only [zz]
   have HB62 := zH (HB6.out.turn HT5.out (fun e => e))
   have hS0 : Blk w5 gm 29 #[.int .i64 ty, .slice A n c] ∧ Blk w5 gq 3 #[.int .i64 no] := ⟨HBM.out.turn HT5.out (fun e => e), HBQ.out.turn HT5.out (fun e => e)⟩
   go_upto_region 11 with fail
   refine wp_region_alw (fun W => Blk W gm 29 #[.int .i64 ty, .slice A n c] ∧ Blk W gq 3 #[.int .i64 no]) (by kernel_rfl) ?_
   have HT6 := zH HT5.out.drew
   have HR6 := zH (HR5.out.still ((Turn.refl nowhere w5).drew))
   have HB6d := zH (HB62.out.drew)
   replace hS0 := And.intro hS0.1.drew hS0.2.drew
   generalize w5.drew = w6 at *
   refine aU 0 (.pointer (some ⟨gm, 0, none⟩)) rfl (fun W hW => xF 0 0) hS0 ?_;simp only [zz];refine aU 1 (.int .i64 ty) rfl (fun W hW => xL (hW.1.cell 0)) hS0 ?_;simp only [zz];refine aM 2 (.slice B at0 d) hS0 ?_;simp only [zz];refine aM 3 (.int .i64 (at0 : Int)) hS0 ?_;simp only [zz];refine aU 4 (.int .i64 no) rfl (fun W hW => xL (hW.2.cell 0)) hS0 ?_;simp only [zz];refine aM 5 (strV t) hS0 ?_;simp only [zz];refine aU 6 (.agg (fldA (no, t))) rfl (fun W hW => gx_build2 rfl rfl rfl (build_fldM no t W)) hS0 ?_;simp only [zz]
   refine alw_step (i := 7) (by kernel_rfl) rfl rfl ?_
   intro K1 HK1
   refine wp_run (bx_slice1 rfl rfl (build_f1 (no, t) _)) ?_
   have hx7 := Blk.new w6 38 (fldA (no, t))
   have ht7 := HT6.out.alloc (.cells (fldA (no, t)) 38)
   have HR7 := zH (HR6.out.still ((Turn.refl nowhere w6).alloc (.cells (fldA (no, t)) 38)))
   have HB7 := zH (HB6d.out.alloc (.cells (fldA (no, t)) 38))
   have hS1 := And.intro (hS0.1.alloc (.cells (fldA (no, t)) 38)) (hS0.2.alloc (.cells (fldA (no, t)) 38))
   have hgl := fun qq (hk : (Value.slice B at0 d).ownBlock = some qq) => (HR6.out.lt qq hk).2
   refine HK1.out _ _ ⟨hS1, ?_⟩
   obtain ⟨g7, hg7⟩ : ∃ g, g = w6.heap.size := ⟨_, rfl⟩
   rw [← hg7] at hx7 hgl ⊢
   have HX7 := zH hx7
   have HT7 := zH ht7
   have HGL := zH hgl
   clear HK1 hg7 hgl hx7 ht7 hS0
   generalize w6.alloc (.cells (fldA (no, t)) 38) = w7 at *
   try simp only [zz]
   refine alw_step (i := 8) (by kernel_rfl) rfl rfl ?_
   intro K1 HK1
   go_wp2_with fail
   refine (Insert_walk HR7.out HT7.out HLK.out HAL.out HX7.out (fun b o s e => by
    have := HGL.out b (by rw [e]; rfl)
    omega) (by have := HKN.out; have := HRM.out; omega)).mono ?_
   rintro e w8 ⟨A8, c8, rfl, hrow8, ht8⟩
   have HT8 := zH ht8
   have HR8 := zH hrow8
   have hS2 : Blk w8 gm 29 #[.int .i64 ty, .slice A n c] ∧ Blk w8 gq 3 #[.int .i64 no] := ⟨HBM.out.turn ht8 (fun e => e), HBQ.out.turn ht8 (fun e => e)⟩
   have HB8 := zH (HB6.out.turn ht8 (fun e => e))
   refine HK1.out _ _ ⟨hS2, ?_⟩
   clear HK1 hS1 hrow8 ht8
   try simp only [zz]
   refine aU 9 (.agg #[.int .i64 ty, .slice A8 (at0 + 1) c8]) rfl (fun W hW => gx_build2 rfl rfl rfl (build_msg2 ty A8 (at0 + 1) c8 W)) hS2 ?_;simp only [zz]
   refine alw_step (i := 10) (by kernel_rfl) rfl rfl ?_
   intro K1 HK1
   refine wp_store_rowU 29 (.tmp 6) (.tmp 43) rfl #[.int .i64 ty, .slice A8 (at0 + 1) c8] HB8.out rfl rfl rfl (by rw [size_msg]; rfl) (msgA_one _ _ _ _) ?_
   intro wz hbz huz
   have hS3 : Blk wz gm 29 #[.int .i64 ty, .slice A n c] ∧ Blk wz gq 3 #[.int .i64 no] := ⟨hS2.1.turn huz (fun e => HGN.out.1 e), hS2.2.turn huz (fun e => HGN.out.2 e)⟩
   have HBZ := zH hbz
   have HUZ := zH (above (HT0.out.next HT8.out) HG6.out huz)
   have HRZ := zH ((HR8.out.turn huz (fun q hq e => by
    have e : q = g6 := e
    have h1 := (HR8.out.lt q hq).1
    have := HB6.out.lt
    omega)).less HT0.out.size)
   refine HK1.out _ _ ⟨hS3, ?_⟩
   clear hbz huz HK1 hS2
   try simp only [zz]
   refine alw_done rfl ?_
   clear hS3
   refine NoPanic.normal ?_
   go_wp2_with fail
   refine bodyPost_ret (v := .agg #[.int .i64 ty, .slice A8 (at0 + 1) c8]) (ret_cell1 rfl _ _ g6 _ _ _ rfl HBZ.out Tryz.underlying29 rfl (by rw [size_msg]; rfl)) rfl ?_
   refine ⟨A8, at0 + 1, c8, rfl, ?_, ?_, HUZ.out⟩
   ·rw [set_len, HLL.out, HLK.out]
   ·rw [HSET.out]
    exact HRZ.out
def gotV (o : Option (List UInt8)) : Value := match o with
 | some t => .tuple #[strV t, .bool true]
 | none => .tuple #[strV [], .bool false]
theorem get_at {fs : List Fld} {no : Int} {j : Nat} {f : Fld} (hf : fs[j]? = some f) : getM no (fs.drop j) = if f.1 = no then some f.2 else getM no (fs.drop (j + 1)) := by
 obtain ⟨hj, e⟩ := List.getElem?_eq_some_iff.1 hf
 rw [List.drop_eq_getElem_cons hj, e]
 rfl
theorem Get_walk {w : World} {ty no : Int} {A : Option Addr} {n c : Nat} {fs : List Fld} (hf : Fl w A n fs) :
 Calls Tryz.prog 30 #[msgV ty A n c, .int .i64 no] w fun e w' => e = .returned (gotV (getM no fs)) ∧ Turn nowhere w w' := by
 have HF := zH hf
 have HNL := zH hf.1
 have y9 : (n : Int) ≤ 140737488355328 := by
  have := hf.2.1
  omega
 clear hf
 unfold msgV
 go_enter Tryz.func30, Tryz.ntmps30
 go_upto_region 1 with fail
 have hb0 := Blk.new w 29 #[.int .i64 ty, .slice A n c]
 have hu0 := (Turn.refl nowhere w).alloc (.cells #[.int .i64 ty, .slice A n c] 29)
 obtain ⟨gm, hg0⟩ : ∃ g, g = w.heap.size := ⟨_, rfl⟩
 rw [← hg0] at hb0 ⊢
 clear hg0
 generalize w.alloc (.cells #[.int .i64 ty, .slice A n c] 29) = w1 at *
 have HBgm := zH hb0
 have HT0 := zH hu0
 clear hb0 hu0
 refine wp_region_lit ?_
 refine wS (.pointer (some ⟨gm, 1, none⟩)) (xF 0 1) ?_;simp only [zz];refine wS (.slice A n c) (xL (HBgm.out.cell 1)) ?_;simp only [zz];refine wS (.int .i64 (n : Int)) (gx_len rfl rfl Tryz.underlying27) ?_;simp only [zz];refine wM (.int .i64 0) ?_;simp only [zz]
 go_wp2_with fail
 go_loopg [11] n (fun gk jv wr => ∃ j : Nat, j + gk = n ∧ jv = .int .i64 (j : Int) ∧ Turn nowhere w1 wr ∧ getM no (fs.drop j) = getM no fs)
 case atStart => exact ⟨0, by omega, rfl, Turn.refl _ _, rfl⟩
 obtain ⟨j, hjl, rfl, htr, hgm⟩ := hrel
 have HJL := zH hjl
 have HTR := zH htr
 have HGM := zH hgm
 clear hjl htr hgm
 go_upto_region 2 with fail
 refine wp_region_lit ?_
 by_cases hlt : j < n
 ·have HLT := zH hlt
  have y1 : (j : Int) < (n : Int) := by omega
  obtain ⟨bF, oF, rfl, hr⟩ := HF.out.2.2 (by omega)
  obtain ⟨f, hf⟩ : ∃ f, fs[j]? = some f := ⟨_, List.getElem?_eq_getElem (show j < fs.length from by rw [HNL.out]; exact hlt)⟩
  have HRR := zH (show wr.rangeAt bF (oF + j * 2) (fldA f).toList from fun i v hv => ((HT0.out.next HTR.out).cell (World.block_lt_of_cell? _ _ (hr j f hf i v hv)) (fun e => e)).trans (hr j f hf i v hv))
  have HGA := zH (get_at (no := no) hf)
  clear hr hf hlt
  refine wS (.bool true) (ix_lss rfl rfl rfl (decide_eq_true y1)) ?_;simp only [zz]
  go_upto_region 3 with fail
  refine wp_region_lit ?_
  refine wS (.pointer (some ⟨bF, oF + j * 2, none⟩)) (gx_iaddr (i := j) (sz := 2) rfl rfl rfl Tryz.underlying27 size_field HLT.out (by omega)) ?_;simp only [zz];refine wS (.agg (fldA f)) (gx_loads rfl rfl HRR.out Tryz.underlying38 rfl (by rw [size_field]; rfl)) ?_;simp only [zz]
  refine wpList_new 38 (.tmp 7) (.tmp 14) (fldA f) rfl rfl (zero_field _) rfl rfl rfl rfl rfl rfl (by rw [size_field]; rfl) (fldA_one f) ?_
  intro w3 g7 _ hbx hux
  simp only [zz]
  have HB7 := zH hbx
  have HT7 := zH hux
  clear hbx hux HRR
  go_upto_region 4 with fail
  refine wp_region_lit ?_
  refine wS (.pointer (some ⟨g7, 0, none⟩)) (xF 0 0) ?_;simp only [zz];refine wS (.int .i64 f.1) (xL (HB7.out.cell 0)) ?_;simp only [zz];refine wM (.int .i64 no) ?_;simp only [zz]
  by_cases heq : f.1 = no
  ·refine wS (.bool true) (ix_eql rfl rfl rfl (decide_eq_true heq)) ?_;simp only [zz]
   go_upto_region 5 with fail
   refine wp_region_lit ?_
   refine wS (.pointer (some ⟨g7, 1, none⟩)) (xF 0 1) ?_;simp only [zz];refine wS (strV f.2) (xL (HB7.out.cell 1)) ?_;simp only [zz];refine wA (strV f.2) ?_;simp only [zz];refine wA (.bool true) ?_;simp only [zz]
   have HG2 := zH (show getM no fs = some f.2 from by rw [← HGM.out, HGA.out, if_pos heq])
   clear heq
   go_wp2_with fail
   go_ret2
   rw [HG2.out]
   exact ⟨rfl, (HT0.out.next HTR.out).next HT7.out⟩
  ·refine wS (.bool false) (ix_eql rfl rfl rfl (decide_eq_false heq)) ?_;simp only [zz]
   have HG2 := zH (show getM no (fs.drop (j + 1)) = getM no fs from by rw [← HGM.out, HGA.out, if_neg heq])
   clear heq
   go_wp2_with fail
   go_roundg (gk - 1)
   case measure => have := HJL.out; have := HLT.out; omega
   case rel => exact ⟨j + 1, by have := HJL.out; have := HLT.out; omega, by go_num, HTR.out.next HT7.out, HG2.out⟩
 ·refine wS (.bool false) (ix_lss rfl rfl rfl (decide_eq_false (by omega))) ?_;simp only [zz]
  have HGN := zH (show getM no fs = none from by
   rw [← HGM.out, List.drop_eq_nil_of_le (by rw [HNL.out]; omega)]
   rfl)
  clear hlt
  go_wp2_with fail
  go_ret2
  rw [HGN.out]
  exact ⟨rfl, HT0.out.next HTR.out⟩
theorem rGet_walk {w : World} {ty no : Int} {A : Option Addr} {n c : Nat} {fs : List Fld} (hf : Fl w A n fs) :
 Calls Tryz.prog 24 #[msgV ty A n c, .int .i64 no] w fun e w' => e = .returned (gotV (getM no fs)) ∧ Turn nowhere w w' := by
 have HF := zH hf
 have HNL := zH hf.1
 have y9 : (n : Int) ≤ 140737488355328 := by
  have := hf.2.1
  omega
 clear hf
 unfold msgV
 go_enter Tryz.func24, Tryz.ntmps24
 go_upto_region 1 with fail
 have hb0 := Blk.new w 29 #[.int .i64 ty, .slice A n c]
 have hu0 := (Turn.refl nowhere w).alloc (.cells #[.int .i64 ty, .slice A n c] 29)
 obtain ⟨gm, hg0⟩ : ∃ g, g = w.heap.size := ⟨_, rfl⟩
 rw [← hg0] at hb0 ⊢
 clear hg0
 generalize w.alloc (.cells #[.int .i64 ty, .slice A n c] 29) = w1 at *
 have HBgm := zH hb0
 have HT0 := zH hu0
 clear hb0 hu0
 refine wp_region_lit ?_
 refine wA (.int .i64 0) ?_;simp only [zz]
 go_wp2_with fail
 go_loopg [6] n (fun gk jv wr => ∃ j : Nat, j + gk = n ∧ jv = .int .i64 (j : Int) ∧ Turn nowhere w1 wr ∧ getM no (fs.drop j) = getM no fs)
 case atStart => exact ⟨0, by omega, rfl, Turn.refl _ _, rfl⟩
 obtain ⟨j, hjl, rfl, htr, hgm⟩ := hrel
 have HJL := zH hjl
 have HTR := zH htr
 have HGM := zH hgm
 clear hjl htr hgm
 have HB2 := zH (HBgm.out.turn HTR.out (fun e => e))
 go_upto_region 2 with fail
 refine wp_region_lit ?_
 refine wM (.int .i64 (j : Int)) ?_;simp only [zz];refine wS (.pointer (some ⟨gm, 1, none⟩)) (xF 0 1) ?_;simp only [zz];refine wS (.slice A n c) (xL (HB2.out.cell 1)) ?_;simp only [zz];refine wS (.int .i64 (n : Int)) (gx_len rfl rfl Tryz.underlying27) ?_;simp only [zz]
 by_cases hlt : j < n
 ·have HLT := zH hlt
  have y1 : (j : Int) < (n : Int) := by omega
  obtain ⟨bF, oF, rfl, hr⟩ := HF.out.2.2 (by omega)
  obtain ⟨f, hf⟩ : ∃ f, fs[j]? = some f := ⟨_, List.getElem?_eq_getElem (show j < fs.length from by rw [HNL.out]; exact hlt)⟩
  have HRR := zH (show wr.rangeAt bF (oF + j * 2) (fldA f).toList from fun i v hv => ((HT0.out.next HTR.out).cell (World.block_lt_of_cell? _ _ (hr j f hf i v hv)) (fun e => e)).trans (hr j f hf i v hv))
  have HGA := zH (get_at (no := no) hf)
  clear hr hf hlt
  refine wS (.bool true) (ix_lss rfl rfl rfl (decide_eq_true y1)) ?_;simp only [zz]
  go_upto_region 4 with fail
  refine wp_region_lit ?_
  refine wS (.pointer (some ⟨gm, 1, none⟩)) (xF 0 1) ?_;simp only [zz];refine wS (.slice (some ⟨bF, oF, none⟩) n c) (xL (HB2.out.cell 1)) ?_;simp only [zz];refine wM (.int .i64 (j : Int)) ?_;simp only [zz];refine wS (.pointer (some ⟨bF, oF + j * 2, none⟩)) (gx_iaddr (i := j) (sz := 2) rfl rfl rfl Tryz.underlying27 size_field HLT.out (by omega)) ?_;simp only [zz];refine wS (.pointer (some ⟨bF, oF + j * 2, none⟩)) (xF (oF + j * 2) 0) ?_;simp only [zz];refine wS (.int .i64 f.1) (xL (HRR.out 0 _ rfl)) ?_;simp only [zz];refine wM (.int .i64 no) ?_;simp only [zz]
  by_cases heq : f.1 = no
  ·refine wS (.bool true) (ix_eql rfl rfl rfl (decide_eq_true heq)) ?_;simp only [zz]
   go_upto_region 5 with fail
   refine wp_region_lit ?_
   refine wS (.pointer (some ⟨gm, 1, none⟩)) (xF 0 1) ?_;simp only [zz];refine wS (.slice (some ⟨bF, oF, none⟩) n c) (xL (HB2.out.cell 1)) ?_;simp only [zz];refine wM (.int .i64 (j : Int)) ?_;simp only [zz];refine wS (.pointer (some ⟨bF, oF + j * 2, none⟩)) (gx_iaddr (i := j) (sz := 2) rfl rfl rfl Tryz.underlying27 size_field HLT.out (by omega)) ?_;simp only [zz];refine wS (.pointer (some ⟨bF, oF + j * 2 + 1, none⟩)) (xF (oF + j * 2) 1) ?_;simp only [zz];refine wS (strV f.2) (xL (HRR.out 1 _ rfl)) ?_;simp only [zz];refine wA (strV f.2) ?_;simp only [zz];refine wA (.bool true) ?_;simp only [zz]
   have HG2 := zH (show getM no fs = some f.2 from by rw [← HGM.out, HGA.out, if_pos heq])
   clear heq
   go_wp2_with fail
   go_ret2
   rw [HG2.out]
   exact ⟨rfl, HT0.out.next HTR.out⟩
  ·refine wS (.bool false) (ix_eql rfl rfl rfl (decide_eq_false heq)) ?_;simp only [zz]
   have HG2 := zH (show getM no (fs.drop (j + 1)) = getM no fs from by rw [← HGM.out, HGA.out, if_neg heq])
   clear heq
   go_wp2_with fail
   go_roundg (gk - 1)
   case measure => have := HJL.out; have := HLT.out; omega
   case rel => exact ⟨j + 1, by have := HJL.out; have := HLT.out; omega, by go_num, HTR.out, HG2.out⟩
 ·refine wS (.bool false) (ix_lss rfl rfl rfl (decide_eq_false (by omega))) ?_;simp only [zz]
  have HGN := zH (show getM no fs = none from by
   rw [← HGM.out, List.drop_eq_nil_of_le (by rw [HNL.out]; omega)]
   rfl)
  clear hlt
  go_wp2_with fail
  go_ret2
  rw [HGN.out]
  exact ⟨rfl, HT0.out.next HTR.out⟩
end Go.Proofs.YtkagijifkpoplaaGreatDoor
namespace Go.Proofs.YtkagijifkpoplaaGreatDoor.Fdd
theorem gd_left {a b : List UInt8} {i : Nat} (h : i < a.length) : (a ++ b).getD i 0 = a.getD i 0 := by simp [List.getD, List.getElem?_append_left h]
theorem gd_right {a b : List UInt8} {i : Nat} (h : a.length ≤ i) : (a ++ b).getD i 0 = b.getD (i - a.length) 0 := by simp [List.getD, List.getElem?_append_right h]
theorem mapPut_t (t : List UInt8) : (mapFm 2).put t = pack hexs (padded (t.take 16)) ++ [] := rfl
def be : Nat → Nat → List UInt8
 | 0, _ => []
 | k + 1, n => be k (n / 256) ++ [UInt8.ofNat (n % 256)]
theorem be_len : ∀ (k n : Nat), (be k n).length = k
 | 0, _ => rfl
 | k + 1, n => by rw [be, List.length_append, be_len k]; rfl
theorem be_at : ∀ (k n i : Nat), i < k → ((be k n).getD i 0).toNat = n / 256 ^ (k - 1 - i) % 256
 | 0, _, _, h => absurd h (Nat.not_lt_zero _)
 | k + 1, n, i, h => by
   rw [be]
   by_cases hi : i < k
   ·rw [gd_left (by rw [be_len]; exact hi), be_at k _ i hi, Nat.div_div_eq_div_mul]
    congr 2
    rw [show k + 1 - 1 - i = (k - 1 - i) + 1 from by omega, Nat.pow_succ, Nat.mul_comm]
   ·obtain rfl : i = k := by omega
    rw [gd_right (by rw [be_len]; exact Nat.le_refl _), be_len, Nat.sub_self, Nat.add_sub_cancel, Nat.sub_self]
    show (UInt8.ofNat (n % 256)).toNat = _
    rw [UInt8.toNat_ofNat']
    simp
theorem pack_snoc (cs : List UInt8) (a b : UInt8) : ∀ l : List UInt8, l.length % 2 = 0 → pack cs (l ++ [a, b]) = pack cs l ++ [UInt8.ofNat (16 * cs.idxOf a + cs.idxOf b)]
 | [], _ => rfl
 | [_], h => by simp at h
 | x :: y :: l, h => by
   show UInt8.ofNat _ :: pack cs (l ++ [a, b]) = _
   rw [pack_snoc cs a b l (by simp only [List.length_cons] at h; omega)]
   rfl
theorem pack_hexk : ∀ (k n : Nat), pack hexs (hexk (2 * k) n) = be k n
 | 0, _ => rfl
 | k + 1, n => by
   rw [show 2 * (k + 1) = (2 * k + 1) + 1 from by omega, hexk, hexk, List.append_assoc]
   show pack hexs (hexk (2 * k) (n / 16 / 16) ++ [hexs.getD (n / 16 % 16) 0, hexs.getD (n % 16) 0]) = _
   rw [pack_snoc _ _ _ _ (by rw [hexk_len]; omega), pack_hexk k, (hex_idx (Nat.mod_lt (n / 16) (by decide))).1, (hex_idx (Nat.mod_lt n (by decide))).1, be, Nat.div_div_eq_div_mul]
   congr 2
   rw [show 16 * (n / 16 % 16) + n % 16 = n % 256 from by omega]
theorem mapPut2 (h : Nat) : (mapFm 2).put (hexk 16 h) = be 8 h := by
 have hl : (hexk 16 h).take 16 = hexk 16 h := List.take_of_length_le (by rw [hexk_len]; exact Nat.le_refl _)
 rw [mapPut_t, List.append_nil, hl]
 unfold padded
 rw [if_neg (by rw [hexk_len]; decide)]
 exact pack_hexk 8 h
theorem get_ext {a b : List UInt8} (hl : a.length = b.length) (h : ∀ i, i < a.length → (a.getD i 0).toNat = (b.getD i 0).toNat) : a = b := by
 refine List.ext_getElem hl fun i h1 h2 => ?_
 have := h i h1
 simp only [List.getD, List.getElem?_eq_getElem h1, List.getElem?_eq_getElem h2, Option.getD_some] at this
 exact UInt8.toNat_inj.1 this
theorem be_or (h j : Nat) (hj : j < 64) : be 8 (h ||| 2 ^ j) = (be 8 h).set (7 - j / 8) ((be 8 h).getD (7 - j / 8) 0 ||| UInt8.ofNat (2 ^ (j % 8))) := by
 refine get_ext (by rw [List.length_set, be_len, be_len]) fun i hi => ?_
 rw [be_len] at hi
 have hp : 2 ^ (j % 8) < 256 := by
  have := Nat.pow_lt_pow_right (a := 2) (by decide) (show j % 8 < 8 from Nat.mod_lt _ (by decide))
  omega
 rw [be_at 8 _ i hi]
 have hset : ((be 8 h).set (7 - j / 8) ((be 8 h).getD (7 - j / 8) 0 ||| UInt8.ofNat (2 ^ (j % 8)))).getD i 0 = if i = 7 - j / 8 then (be 8 h).getD i 0 ||| UInt8.ofNat (2 ^ (j % 8)) else (be 8 h).getD i 0 := by
  simp only [List.getD, List.getElem?_set]
  by_cases e : 7 - j / 8 = i
  ·subst e
   rw [if_pos rfl, if_pos rfl, if_pos (by rw [be_len]; omega)]
   rfl
  ·rw [if_neg e, if_neg (fun h => e h.symm)]
 rw [hset]
 refine Nat.eq_of_testBit_eq fun s => ?_
 have hL : ((h ||| 2 ^ j) / 256 ^ (8 - 1 - i) % 256).testBit s = (decide (s < 8) && (h.testBit (8 * (7 - i) + s) || decide (j = 8 * (7 - i) + s))) := by
  rw [show (256 : Nat) = 2 ^ 8 from rfl, Nat.testBit_mod_two_pow, ← Nat.pow_mul, Nat.testBit_div_two_pow, Nat.testBit_or, Nat.testBit_two_pow, show s + 8 * (8 - 1 - i) = 8 * (7 - i) + s from by omega]
 have hB : (((be 8 h).getD i 0).toNat).testBit s = (decide (s < 8) && h.testBit (8 * (7 - i) + s)) := by
  rw [be_at 8 _ i hi, show (256 : Nat) = 2 ^ 8 from rfl, Nat.testBit_mod_two_pow, ← Nat.pow_mul, Nat.testBit_div_two_pow, show s + 8 * (8 - 1 - i) = 8 * (7 - i) + s from by omega]
 rw [hL]
 by_cases e : i = 7 - j / 8
 ·rw [if_pos e, UInt8.toNat_or, Nat.testBit_or, hB, UInt8.toNat_ofNat', Nat.mod_eq_of_lt hp, Nat.testBit_two_pow]
  by_cases hs : s < 8
  ·rw [decide_eq_true hs, Bool.true_and, Bool.true_and]
   congr 1
   rw [decide_eq_decide]
   omega
  ·rw [decide_eq_false hs, Bool.false_and, Bool.false_and, decide_eq_false (by omega)]
   rfl
 ·rw [if_neg e, hB]
  by_cases hs : s < 8
  ·rw [decide_eq_true hs, Bool.true_and, Bool.true_and, decide_eq_false (show ¬ j = 8 * (7 - i) + s by omega), Bool.or_false]
  ·rw [decide_eq_false hs, Bool.false_and, Bool.false_and]
def B16 (fs : List Fld) : List UInt8 := be 8 (half1 fs) ++ be 8 (half2 fs)
theorem B16_len (fs : List Fld) : (B16 fs).length = 16 := by rw [B16, List.length_append, be_len, be_len]
theorem B16_nil : B16 [] = List.replicate 16 0 := by decide
theorem B16_snoc (fs : List Fld) (f : Fld) {q : Nat} (hq : f.1 = (q : Int)) (h2 : 2 ≤ q) (h97 : q ≤ 97) :
 B16 (fs ++ [f]) = (B16 fs).set ((q - 1) / 8) ((B16 fs).getD ((q - 1) / 8) 0 ||| UInt8.ofNat (128 / 2 ^ ((q - 1) % 8))) := by
 have hp : ∀ n : Nat, 2 ^ (7 - n % 8) = 128 / 2 ^ (n % 8) := fun n => by
  have hc : n % 8 = 0 ∨ n % 8 = 1 ∨ n % 8 = 2 ∨ n % 8 = 3 ∨ n % 8 = 4 ∨ n % 8 = 5 ∨ n % 8 = 6 ∨ n % 8 = 7 := by omega
  rcases hc with e | e | e | e | e | e | e | e <;> rw [e]
 have h1 : half1 (fs ++ [f]) = if f.1 ≤ 64 then half1 fs ||| 2 ^ (64 - f.1.toNat) else half1 fs := by
  unfold half1
  rw [List.foldl_append]
  rfl
 have h2' : half2 (fs ++ [f]) = if f.1 ≤ 64 then half2 fs else half2 fs ||| 2 ^ (128 - f.1.toNat) := by
  unfold half2
  rw [List.foldl_append]
  rfl
 have hqn : f.1.toNat = q := by omega
 unfold B16
 rw [h1, h2', hqn]
 by_cases h64 : q ≤ 64
 ·rw [if_pos (by omega), if_pos (by omega), be_or _ _ (by omega), show 7 - (64 - q) / 8 = (q - 1) / 8 from by omega, show (64 - q) % 8 = 7 - (q - 1) % 8 from by omega, hp, gd_left (by rw [be_len]; omega), List.set_append_left _ _ (by rw [be_len]; omega)]
 ·rw [if_neg (by omega), if_neg (by omega), be_or _ _ (by omega), show 7 - (128 - q) / 8 = (q - 1) / 8 - 8 from by omega, show (128 - q) % 8 = 7 - (q - 1) % 8 from by omega, hp, gd_right (by rw [be_len]; omega), be_len, List.set_append_right _ _ (by rw [be_len]; omega), be_len]
def bitsL (fs : List Fld) : List UInt8 := if half2 fs = 0 then be 8 (half1 fs) else be 8 (half1 fs ||| 2 ^ 63) ++ be 8 (half2 fs)
def far64 (fs : List Fld) : Bool := fs.any fun f => decide (64 < f.1)
theorem far_half {fs : List Fld} (h : ∀ f ∈ fs, 2 ≤ f.1 ∧ f.1 ≤ 97) : far64 fs = true ↔ half2 fs ≠ 0 := by
 unfold far64
 rw [List.any_eq_true]
 constructor
 ·rintro ⟨f, hf, h1⟩ h0
  have h1 : 64 < f.1 := of_decide_eq_true h1
  have := (bit_half2 fs (128 - f.1.toNat)).2 ⟨f, hf, h1, rfl⟩
  rw [h0] at this
  simp at this
 ·intro h0
  obtain ⟨i, hi⟩ := Nat.exists_testBit_of_ne_zero h0
  obtain ⟨f, hf, h1, _⟩ := (bit_half2 fs i).1 hi
  exact ⟨f, hf, decide_eq_true h1⟩
theorem far_snoc (fs : List Fld) (f : Fld) : far64 (fs ++ [f]) = (far64 fs || decide (64 < f.1)) := by
 unfold far64
 rw [List.any_append]
 simp
theorem bits_far {fs : List Fld} (h : half2 fs ≠ 0) : (B16 fs).set 0 ((B16 fs).getD 0 0 ||| 128) = bitsL fs := by
 unfold bitsL B16
 rw [if_neg h, be_or _ 63 (by decide), gd_left (by rw [be_len]; decide), List.set_append_left _ _ (by rw [be_len]; decide)]
 rfl
theorem bits_near {fs : List Fld} (h : half2 fs = 0) : (B16 fs).take 8 = bitsL fs := by
 unfold bitsL B16
 rw [if_pos h, List.take_append_of_le_length (by rw [be_len]; decide), List.take_of_length_le (by rw [be_len]; decide)]
def mapB (d : Nat) (l : List UInt8) : List UInt8 := if d = 1 then l.flatMap fun x => [hexU.getD (x.toNat / 16) 0, hexU.getD (x.toNat % 16) 0] else l
theorem mapB_append (d : Nat) (a b : List UInt8) : mapB d (a ++ b) = mapB d a ++ mapB d b := by
 unfold mapB
 split
 ·exact List.flatMap_append
 ·rfl
theorem mapPut3 (h : Nat) : (mapFm 3).put (hexk 16 h) = be 8 h := by
 have hl : (hexk 16 h).take 16 = hexk 16 h := List.take_of_length_le (by rw [hexk_len]; exact Nat.le_refl _)
 have e : ∀ t : List UInt8, (mapFm 3).put t = pack hexs (padded (t.take 16)) ++ [] := fun t => rfl
 rw [e, List.append_nil, hl]
 unfold padded
 rw [if_neg (by rw [hexk_len]; decide)]
 exact pack_hexk 8 h
theorem one_hex {d : Nat} (h : d < 16) : one hexs hexU (hexs.getD d 0) = hexU.getD d 0 := by
 unfold one
 rw [(hex_idx h).1]
theorem map_hexk : ∀ (k n : Nat), (hexk (2 * k) n).map (one hexs hexU) = (be k n).flatMap fun x => [hexU.getD (x.toNat / 16) 0, hexU.getD (x.toNat % 16) 0]
 | 0, _ => rfl
 | k + 1, n => by
   rw [show 2 * (k + 1) = (2 * k + 1) + 1 from by omega, hexk, hexk, List.append_assoc, List.map_append, map_hexk k, be, List.flatMap_append, Nat.div_div_eq_div_mul]
   congr 1
   show [one hexs hexU (hexs.getD (n / 16 % 16) 0), one hexs hexU (hexs.getD (n % 16) 0)] = [hexU.getD ((UInt8.ofNat (n % 256)).toNat / 16) 0, hexU.getD ((UInt8.ofNat (n % 256)).toNat % 16) 0]
   rw [one_hex (Nat.mod_lt _ (by decide)), one_hex (Nat.mod_lt _ (by decide)), UInt8.toNat_ofNat', show n % 256 % 2 ^ 8 = n % 256 from by omega, show n % 256 / 16 = n / 16 % 16 from by omega, show n % 256 % 16 = n % 16 from by omega]
theorem mapPut1 (h : Nat) : (mapFm 1).put (hexk 16 h) = mapB 1 (be 8 h) := by
 have e : ∀ t : List UInt8, (mapFm 1).put t = (t.take 16).map (one hexs hexU) ++ [] := fun t => rfl
 rw [e, List.append_nil, List.take_of_length_le (by rw [hexk_len]; exact Nat.le_refl _)]
 exact map_hexk 8 h
theorem mapPut_be {d : Nat} (hd : 1 ≤ d ∧ d ≤ 3) (h : Nat) : (mapFm d).put (hexk 16 h) = mapB d (be 8 h) := by
 have hc : d = 1 ∨ d = 2 ∨ d = 3 := by omega
 rcases hc with rfl | rfl | rfl
 ·exact mapPut1 h
 ·exact mapPut2 h
 ·exact mapPut3 h
theorem mapPut_bits {d : Nat} (hd : 1 ≤ d ∧ d ≤ 3) (fs : List Fld) : mapPut d fs = mapB d (bitsL fs) := by
 unfold mapPut halves bitsL
 split
 ·show (mapFm d).put (hexk 16 (half1 fs)) ++ [] = _
  rw [List.append_nil, mapPut_be hd]
 ·show (mapFm d).put (hexk 16 (half1 fs ||| 2 ^ 63)) ++ ((mapFm d).put (hexk 16 (half2 fs)) ++ []) = _
  rw [List.append_nil, mapPut_be hd, mapPut_be hd, mapB_append]
def Amt (d : Nat) (f : Fld) : Prop := d = 3 → f.1 = 4 → f.2.take 2 = [48, 48]
theorem mright_code {k s c c' : Nat} {t : List UInt8} : (nf k s c).right t = (nf k s c').right t := by
 have h : ∀ (kk : Int) (n : Nat) (t : List UInt8), rightAll (ptsOf kk (c : Int) n) t = rightAll (ptsOf kk (c' : Int) n) t := fun kk n t => by
  unfold ptsOf
  split
  ·rfl
  ·split
   ·rfl
   ·split
    ·rfl
    ·rfl
 unfold Fm.right
 show (if (k : Int) = 2 then _ else _) = (if (k : Int) = 2 then _ else _)
 split
 ·show (_ && rightAll (ptsOf 2 (c : Int) t.length) t) = (_ && rightAll (ptsOf 2 (c' : Int) t.length) t)
  rw [h]
  rfl
 ·exact h _ _ _
theorem said_amt {d : Nat} {f : Fld} (hd : 1 ≤ d ∧ d ≤ 3) {m1 : Fm} (hm1 : mform 1 f.1 = some m1) (hc1 : m1.check f.2 = 0) : Said d f ↔ Amt d f := by
 obtain ⟨k, s, rfl, hk, hs, _, _, hf1, h4⟩ := form_nf hm1
 have hu1 : unsaid 1 f.1 = [] := by unfold unsaid; rw [if_neg (fun h => by omega)]
 rw [hu1] at hf1 h4
 have hr1 := (check_zero hk (by decide) hs).1 hc1
 rcases unsaid_len d f.1 with hu | ⟨hu, rfl, h4'⟩
 ·have hmd : mform d f.1 = some (nf k s d) := by
   unfold mform
   rw [hf1, hu]
   simp [nf]
  constructor
  ·intro _ h3 h4'
   exfalso
   unfold unsaid at hu
   rw [if_pos ⟨h3, h4'⟩] at hu
   cases hu
  ·intro _
   refine ⟨_, hmd, ?_⟩
   rw [say_nil hu]
   exact (check_zero hk hd hs).2 (by rw [mright_code (c' := 1)]; exact hr1)
 ·obtain ⟨rfl, hs12⟩ := h4 h4'
  have hs12 : s = 12 := by simpa using hs12
  subst hs12
  have hmd : mform 3 f.1 = some (nf 1 10 3) := by
   unfold mform
   rw [hf1, hu]
   rfl
  obtain ⟨hl, hdig⟩ := right_n.1 hr1
  have hsay : say 3 f = Lib.trimPrefix f.2 [48, 48] := by unfold say; rw [hu]
  constructor
  ·rintro ⟨m, hm, hc⟩ _ _
   rw [hmd] at hm
   injection hm with hm
   subst hm
   obtain ⟨hl2, _⟩ := right_n.1 ((check_zero (by decide) (by decide) (by decide)).1 hc)
   rw [hsay] at hl2
   unfold Lib.trimPrefix at hl2
   split at hl2
   ·rename_i hp
    obtain ⟨r, hr⟩ := List.isPrefixOf_iff_prefix.1 hp
    rw [← hr]
    rfl
   ·omega
  ·intro ha
   have ht := ha rfl h4'
   refine ⟨_, hmd, (check_zero (by decide) (by decide) (by decide)).2 (right_n.2 ?_)⟩
   have hp : Lib.hasPrefix f.2 [48, 48] = true := List.isPrefixOf_iff_prefix.2 ⟨f.2.drop 2, by rw [← ht, List.take_append_drop]⟩
   rw [hsay]
   unfold Lib.trimPrefix
   rw [if_pos hp]
   refine ⟨by rw [List.length_drop, hl]; rfl, ?_⟩
   unfold onlyOf at hdig ⊢
   rw [List.all_eq_true] at hdig ⊢
   exact fun x hx => hdig x (List.mem_of_mem_drop hx)
theorem say_amt {d : Nat} {f : Fld} (h : Amt d f) : say d f = if d = 3 ∧ f.1 = 4 then f.2.drop 2 else f.2 := by
 unfold say unsaid
 split
 ·rename_i h34
  have ht := h h34.1 h34.2
  have hp : Lib.hasPrefix f.2 [48, 48] = true := List.isPrefixOf_iff_prefix.2 ⟨f.2.drop 2, by rw [← ht, List.take_append_drop]⟩
  unfold Lib.trimPrefix
  rw [if_pos hp]
  rfl
 ·unfold Lib.trimPrefix
  simp
theorem mencode_ref {d ty : Int} {fs : List Fld} (hd : 1 ≤ d ∧ d ≤ 3) (hck : mcheck ty fs = 0) : ((∀ f ∈ fs, Amt d.toNat f) → mencode d ty fs = .ok (wire d.toNat ty fs)) ∧ ((∃ f ∈ fs, ¬ Amt d.toNat f) → mencode d ty fs = .error 41) := by
 obtain ⟨hty, hn, hg⟩ := mcheck_zero.1 hck
 have hs : ∀ f ∈ fs, (Said d.toNat f ↔ Amt d.toNat f) := fun f hf => by
  obtain ⟨m, hm, hc⟩ := hg.2 f hf
  exact said_amt (toNat_in hd) hm hc
 constructor
 ·intro h
  exact mencode_ok.2 ⟨hd, ⟨hty, hn, hg, fun f hf => (hs f hf).2 (h f hf)⟩, rfl⟩
 ·rintro ⟨f, hf, hna⟩
  unfold mencode
  rw [if_pos hd, if_pos hck]
  cases hp : putFs d.toNat (mhead d.toNat ty fs) fs with
  | none => rfl
  | some b => exact absurd ((hs f hf).1 (((putFs_iff fs _ _).1 hp).2 f hf)) hna
theorem body_snoc (d : Nat) (fs : List Fld) (f : Fld) : body d (fs ++ [f]) = body d fs ++ sayPut d f := by
 unfold body
 induction fs with
 | nil => simp
 | cons x l ih => simp [ih]
end Go.Proofs.YtkagijifkpoplaaGreatDoor.Fdd
namespace Go.Proofs.YtkagijifkpoplaaGreatDoor
open Go.RowKit
open Fdd
theorem own_of {w : World} {g B : Nat} {l : List UInt8} (h : Blk w g 5 (bcs l).toArray) (hB : B ≤ g) (hm : l.length ≤ maxLen) : Own w B 5 (.slice (some ⟨g, 0, none⟩) l.length l.length) l := by
 refine ⟨by rw [bcs_length, Nat.mul_one], .inr ⟨g, l.length, _, rfl, hB, h, Nat.le_refl _, hm, ?_, ?_⟩⟩
 ·rw [List.size_toArray, bcs_length, Nat.mul_one]
 ·show List.take _ (bcs l) = _
  rw [List.take_of_length_le (by rw [bcs_length]; omega)]
theorem ver_z {d : Nat} (hd : 1 ≤ d ∧ d ≤ 3) : ver d = [([48, 48, 49, 57] : List UInt8).getD d 0] := by
 have hc : d = 1 ∨ d = 2 ∨ d = 3 := by omega
 rcases hc with rfl | rfl | rfl <;> rfl
theorem build_3u (x y z : Int) (W : World) : (Instr.buildSlice 22 3 #[(0, .int .u8 x), (1, .int .u8 y), (2, .int .u8 z)]).run Tryz.prog W = .ok (.slice (some ⟨W.heap.size, 0, none⟩) 3 3) (W.alloc (.cells #[.int .u8 x, .int .u8 y, .int .u8 z] 5)) := by kernel_rfl
theorem head_walk {w : World} {d ty : Nat} (hd : 1 ≤ d ∧ d ≤ 3) (ht : ty ≤ 999) :
 Calls Tryz.prog 58 #[.int .i64 (d : Int), .int .i64 (ty : Int)] w fun e w' => e = .returned (strV (ver d ++ dig3 ty)) ∧ Turn nowhere w w' := by
 have HV := zH (ver_z hd)
 have y1 : d < 4 := by omega
 have HT := zH ht
 clear hd
 go_enter Tryz.func58, Tryz.ntmps58
 go_upto_region 1 with fail
 refine wp_region_lit ?_
 refine wA (strV [48, 48, 49, 57]) ?_;simp only [zz]
 go_upto_region 2 with fail
 refine wp_region_lit ?_
 refine wM (strV [48, 48, 49, 57]) ?_;simp only [zz];refine wM (.int .i64 (d : Int)) ?_;simp only [zz];refine wS (.int .u8 ((([48, 48, 49, 57] : List UInt8).getD d 0).toNat : Int)) (exec_sidx (l := [48, 48, 49, 57]) (i := d) rfl rfl rfl y1) ?_;simp only [zz]
 obtain ⟨z, hz⟩ : ∃ z, z = ([48, 48, 49, 57] : List UInt8).getD d 0 := ⟨_, rfl⟩
 rw [← hz] at HV ⊢
 clear hz
 refine wR (v := .slice (some ⟨w.heap.size, 0, none⟩) 1 1) (w' := w.alloc (.cells (bcs [z]).toArray 5)) rfl (exec_one (z := z) rfl rfl) ?_
 simp only [zz]
 have hb := Blk.new w 5 (bcs [z]).toArray
 have hu := (Turn.refl nowhere w).alloc (.cells (bcs [z]).toArray 5)
 obtain ⟨g, hg⟩ : ∃ g, g = w.heap.size := ⟨_, rfl⟩
 rw [← hg] at hb ⊢
 have HG := zH (show w.heap.size ≤ g from by omega)
 clear hg
 generalize w.alloc (.cells (bcs [z]).toArray 5) = w1 at *
 have HB := zH hb
 have HU := zH hu
 clear hb hu
 refine wA (.slice (some ⟨g, 0, none⟩) 1 1) ?_;simp only [zz]
 go_upto_region 3 with fail
 refine wp_region_lit ?_
 refine wM (.slice (some ⟨g, 0, none⟩) 1 1) ?_;simp only [zz];refine wM (.int .i64 (ty : Int)) ?_;simp only [zz];refine wS (.int .i64 ((ty / 100 : Nat) : Int)) (ix_quo (n := ty) (m := 100) rfl rfl rfl (by decide) (by have := HT.out; omega)) ?_;simp only [zz];refine wS (.int .i64 ((48 + ty / 100 : Nat) : Int)) (ix_add rfl rfl rfl (by omega) (by have := HT.out; omega)) ?_;simp only [zz];refine wS (.int .u8 (((UInt8.ofNat (48 + ty / 100)).toNat : Nat) : Int)) (ix_i2b (k := 48 + ty / 100) rfl rfl) ?_;simp only [zz];refine wM (.int .i64 (ty : Int)) ?_;simp only [zz];refine wS (.int .i64 ((ty / 10 : Nat) : Int)) (ix_quo (n := ty) (m := 10) rfl rfl rfl (by decide) (by have := HT.out; omega)) ?_;simp only [zz];refine wS (.int .i64 ((ty / 10 % 10 : Nat) : Int)) (ix_rem (n := ty / 10) (m := 10) rfl rfl rfl (by decide) (by have := HT.out; omega)) ?_;simp only [zz];refine wS (.int .i64 ((48 + ty / 10 % 10 : Nat) : Int)) (ix_add rfl rfl rfl (by omega) (by omega)) ?_;simp only [zz];refine wS (.int .u8 (((UInt8.ofNat (48 + ty / 10 % 10)).toNat : Nat) : Int)) (ix_i2b (k := 48 + ty / 10 % 10) rfl rfl) ?_;simp only [zz];refine wM (.int .i64 (ty : Int)) ?_;simp only [zz];refine wS (.int .i64 ((ty % 10 : Nat) : Int)) (ix_rem (n := ty) (m := 10) rfl rfl rfl (by decide) (by have := HT.out; omega)) ?_;simp only [zz];refine wS (.int .i64 ((48 + ty % 10 : Nat) : Int)) (ix_add rfl rfl rfl (by omega) (by omega)) ?_;simp only [zz];refine wS (.int .u8 (((UInt8.ofNat (48 + ty % 10)).toNat : Nat) : Int)) (ix_i2b (k := 48 + ty % 10) rfl rfl) ?_
 simp only [zz]
 refine wR (v := .slice (some ⟨w1.heap.size, 0, none⟩) 3 3) (w' := w1.alloc (.cells (bcs (dig3 ty)).toArray 5)) rfl (bx_slice3 rfl rfl rfl rfl (build_3u _ _ _ w1)) ?_
 simp only [zz]
 have hu2 := (Turn.refl nowhere w1).alloc (.cells (bcs (dig3 ty)).toArray 5)
 have hs2 := bs_blk (Blk.new w1 5 (bcs (dig3 ty)).toArray) (n := 3) rfl (by unfold maxLen; omega)
 have ho2 := own_still (own_of HB.out HG.out (by unfold maxLen; simp)) hu2
 obtain ⟨g2, hg2⟩ : ∃ g, g = w1.heap.size := ⟨_, rfl⟩
 rw [← hg2] at hs2 ⊢
 clear hg2
 generalize w1.alloc (.cells (bcs (dig3 ty)).toArray 5) = w2 at *
 refine wpList_append_bytes w2 rfl _ _ _ rfl w.heap.size 5 byteInfo Tryz.underlying22 _ [z] rfl ho2 _ 3 3 (dig3 ty) rfl hs2 (fun h => by cases h) (by simp) (Nat.le_trans HU.out.size hu2.size) ?_
 intro v3 w3 ho3 hb3
 obtain ⟨A3, n3, c3, rfl, hs3, _, _⟩ := ho3.form
 simp only [zz]
 have HS3 := zH hs3
 have HT3 := zH (Turn.of_below (((HU.out.next hu2).below (Nat.le_refl _) (fun _ _ e=>e)).trans hb3) (Nat.le_refl _))
 clear ho2 hs2 ho3 hb3 hs3 hu2
 refine wS (strV ([z] ++ dig3 ty)) (exec_strBs (l := [z] ++ dig3 ty) rfl rfl HS3.out) ?_;simp only [zz];refine wA (strV ([z] ++ dig3 ty)) ?_;simp only [zz]
 go_wp2_with fail
 go_ret
 rw [HV.out]
 exact ⟨rfl, HT3.out⟩
end Go.Proofs.YtkagijifkpoplaaGreatDoor
