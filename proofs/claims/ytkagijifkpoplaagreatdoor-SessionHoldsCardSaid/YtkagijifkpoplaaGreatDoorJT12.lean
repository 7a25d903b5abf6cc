/-
  Texts in one file. Conditions: the tables and the errors read as laid.
-/
import Derived.Test.YtkagijifkpoplaaGreatDoorJT11
import Derived.Test.YtkagijifkpoplaaGreatDoorJT0
import Derived.Test.YtkagijifkpoplaaGreatDoorJT1
set_option linter.unusedVariables false
set_option linter.unusedSimpArgs false
set_option maxRecDepth 40000
set_option maxHeartbeats 20000000
namespace Go.Proofs.YtkagijifkpoplaaGreatDoor
open Go.RowKit
open Fdd
theorem pput_walk {w : World} {q c B : Nat} {ch t bs : List UInt8} {A0 : Option Addr} {n0 c0 : Nat} (hq : Blk w q 197 #[placeV c]) (hc : Blk w c 9 #[strV ch]) (ht : onlyOf t ch = true) (h48 : 48 ∈ ch) (hown : Own w B 5 (.slice A0 n0 c0) bs) (hB : B ≤ w.heap.size)
 (hlen : bs.length + t.length ≤ 140737488354000) (ht1 : t.length ≤ 1000) (hch : ch.length ≤ 16) :
 Calls Tryz.prog 158 #[.slice A0 n0 c0, strV t, ptrTo q] w fun e w' => ∃ A n c', e = .returned (.slice A n c') ∧ Own w' B 5 (.slice A n c') (bs ++ pack ch (padded t)) ∧ Ext w w' (.slice A0 n0 c0) (.slice A n c') := by
 unfold ptrTo
 have HQ := zH hq
 have HC := zH hc
 have HM := zH (fun x (hx : x ∈ padded t) => padded_mem ht h48 hx)
 have HO := zH hown
 have HB := zH hB
 have hpl := padded_len t
 have HN := zH (show bs.length + (padded t).length ≤ 140737488355328 from by omega)
 have HT1 := zH ht1
 have HCH := zH hch
 clear hq hc hown hB hlen hch ht h48
 go_enter Tryz.func158, Tryz.ntmps158
 go_upto_region 1 with fail
 refine wp_region_lit ?_
 refine wM (strV t) ?_;simp only [zz]
 refine wR (v := .int .i64 (t.length : Int)) (w' := w) rfl (exec_slen rfl rfl) ?_
 simp only [zz]
 have hpd : padded t = if t.length % 2 = 1 then 48 :: t else t := rfl
 by_cases hodd : t.length % 2 = 1
 ·rw [if_pos hodd] at hpd
  refine wR (v := .int .i64 1) (w' := w) rfl (by go_simp; exact tmod_one hodd) ?_
  simp only [zz]
  have HPD := zH hpd
  have HPL := zH hpl
  clear hpd hpl hodd ht1
  go_upto_region 2 with fail
  refine wp_region_lit ?_
  refine wM (strV t) ?_;simp only [zz]
  refine wR (v := strV (padded t)) (w' := w) rfl (by rw [HPD.out]; exact exec_sadd (l := [48]) rfl rfl rfl (by have := HT1.out; simp; omega)) ?_
  simp only [zz]
  obtain ⟨T, hTT⟩ : ∃ T, T = padded t := ⟨_, rfl⟩
  rw [← hTT]
  clear HPD
  rw [← hTT] at HPL HM HN
  have HTT := zH hTT
  clear hTT
  obtain ⟨h, hh⟩ : ∃ h, h = (t.length + 1) / 2 := ⟨_, rfl⟩
  have hT : T.length = 2 * h := by rw [hh]; exact HPL.out
  have hh1 : h ≤ 1000 := by have := HT1.out; omega
  have HT := zH hT
  have HH1 := zH hh1
  clear hT hh1 hh HPL HT1
  go_wp2_with fail
  go_loopg [0, 6] h (fun gk b i wr => ∃ (k : Nat) (A : Option Addr) (n c' : Nat), k + gk = h ∧ i = .int .i64 ((2 * k : Nat) : Int) ∧ b = .slice A n c' ∧ Own wr B 5 (.slice A n c') (bs ++ pack ch (T.take (2 * k))) ∧ Ext w wr (.slice A0 n0 c0) (.slice A n c'))
  case atStart => exact ⟨0, _, _, _, by omega, rfl, rfl, by simpa [pack] using HO.out, Ext.refl _ _⟩
  case round =>
   obtain ⟨k, A, n, c', hkl, rfl, rfl, hO, hE⟩ := hrel
   have HKL := zH hkl
   have HO' := zH hO
   have HE := zH hE
   clear hkl hO hE
   go_upto_region 4 with fail
   refine wp_region_lit ?_
   refine wM (.int .i64 ((2 * k : Nat) : Int)) ?_;simp only [zz];refine wM (strV T) ?_;simp only [zz]
   refine wR (v := .int .i64 ((2 * h : Nat) : Int)) (w' := wr) rfl (by rw [← HT.out]; exact exec_slen rfl rfl) ?_
   simp only [zz]
   by_cases hlt : k < h
   ·have y1 : ((2 * k : Nat) : Int) < ((2 * h : Nat) : Int) := by omega
    refine wR (v := .bool true) (w' := wr) rfl (exec_lss rfl rfl rfl y1) ?_
    simp only [zz]
    have HLT := zH hlt
    clear hlt y1
    go_upto_region 6 with fail
    have hk0 : 2 * k < T.length := by rw [HT.out]; have := HLT.out; omega
    have hk1 : 2 * k + 1 < T.length := by rw [HT.out]; have := HLT.out; omega
    have hm0 : T.getD (2 * k) 0 ∈ ch := by
     rw [List.getD_eq_getElem?_getD, List.getElem?_eq_getElem hk0]
     exact HM.out _ (List.getElem_mem _)
    have hm1 : T.getD (2 * k + 1) 0 ∈ ch := by
     rw [List.getD_eq_getElem?_getD, List.getElem?_eq_getElem hk1]
     exact HM.out _ (List.getElem_mem _)
    have HK0 := zH hk0
    have HK1 := zH hk1
    have HM0 := zH hm0
    have HM1 := zH hm1
    have HP0 := zH (fun W (hW : PlS q c ch W) => place_walk hW.2 _ hm0 HCH.out)
    have HP1 := zH (fun W (hW : PlS q c ch W) => place_walk hW.2 _ hm1 HCH.out)
    have HI0 := zH (show ch.idxOf (T.getD (2 * k) 0) < 16 from Nat.lt_of_lt_of_le (idx_lt hm0) HCH.out)
    have HI1 := zH (show ch.idxOf (T.getD (2 * k + 1) 0) < 16 from Nat.lt_of_lt_of_le (idx_lt hm1) HCH.out)
    have htk := pack_take ch k T (by rw [HT.out]; have := HLT.out; omega)
    generalize ch.idxOf (T.getD (2 * k) 0) = i0 at *
    generalize ch.idxOf (T.getD (2 * k + 1) 0) = i1 at *
    have hby : ((UInt8.ofNat (16 * i0 + i1)).toNat : Int) = ((16 * i0 + i1 : Nat) : Int) := by rw [UInt8.toNat_ofNat']; have := HI0.out; have := HI1.out; omega
    generalize UInt8.ofNat (16 * i0 + i1) = z at *
    have HTK := zH htk
    have HBY := zH hby
    clear hk0 hk1 hm0 hm1 htk hby
    have hS0 : PlS q c ch wr.drew := ⟨(HQ.out.ext HE.out (row_ne HO.out HQ.out (by decide))).drew, (HC.out.ext HE.out (row_ne HO.out HC.out (by decide))).drew⟩
    have x64 : (2 * (k : Int) + 1) ≤ 2001 := by have := HLT.out; have := HH1.out; omega
    refine wp_region_till (PlS q c ch) 16 (by kernel_rfl) ?_
    refine tP 0 (.slice A n c') rfl (fun W hW => exec_move rfl rfl) hS0 ?_;simp only [zz];refine tU 1 (placeV c) rfl (fun W hW => xL (hW.1.cell 0)) hS0 ?_;simp only [zz];refine tP 2 (strV T) rfl (fun W hW => exec_move rfl rfl) hS0 ?_;simp only [zz];refine tP 3 (.int .i64 ((2 * k : Nat) : Int)) rfl (fun W hW => exec_move rfl rfl) hS0 ?_;simp only [zz];refine tP 4 (.int .u8 ((T.getD (2 * k) 0).toNat : Int)) rfl (fun W hW => exec_sidx rfl rfl rfl HK0.out) hS0 ?_;simp only [zz];refine tU 7 (placeV c) rfl (fun W hW => xL (hW.1.cell 0)) hS0 ?_;simp only [zz];refine tP 8 (strV T) rfl (fun W hW => exec_move rfl rfl) hS0 ?_;simp only [zz];refine tP 9 (.int .i64 ((2 * k : Nat) : Int)) rfl (fun W hW => exec_move rfl rfl) hS0 ?_;simp only [zz];refine tP 10 (.int .i64 ((2 * k + 1 : Nat) : Int)) rfl (fun W hW => by go_simp; rw [IntKind.wrap_i64]; omega) hS0 ?_;simp only [zz];refine tP 11 (.int .u8 ((T.getD (2 * k + 1) 0).toNat : Int)) rfl (fun W hW => exec_sidx rfl rfl rfl HK1.out) hS0 ?_;simp only [zz]
    refine till_step (i := 5) (by kernel_rfl) rfl rfl ?_
    intro K1 HK1x
    try unfold placeV
    go_wp2_with fail
    refine (HP0.out _ hS0).mono ?_
    rintro e w5 ⟨rfl, rfl⟩
    refine HK1x.out _ _ ⟨fun _ => hS0, ?_⟩
    clear HK1x
    refine tP 6 (.int .u8 ((16 * i0 : Nat) : Int)) rfl (fun W hW => exec_shl4 i0 HI0.out rfl rfl) hS0 ?_;simp only [zz]
    refine till_step (i := 12) (by kernel_rfl) rfl rfl ?_
    intro K1 HK1x
    try unfold placeV
    go_wp2_with fail
    refine (HP1.out _ hS0).mono ?_
    rintro e w5 ⟨rfl, rfl⟩
    refine HK1x.out _ _ ⟨fun _ => hS0, ?_⟩
    clear HK1x
    refine till_only (i := 13) (by kernel_rfl) rfl rfl ?_
    refine wp_run (v := .int .u8 (z.toNat : Int)) (w' := wr.drew) (by rw [HBY.out]; exact exec_or i0 i1 HI0.out HI1.out rfl rfl rfl) ?_
    refine ⟨fun _ => hS0, ?_⟩
    simp only [zz]
    obtain ⟨j0, hj0, hjz, hj1, hj2⟩ := info_parts byteInfo
    refine till_only (i := 14) (by kernel_rfl) rfl rfl ?_
    refine wp_run (exec_buildSlice1 rfl rfl (run_buildSlice_one (v := .int .u8 (z.toNat : Int)) Tryz.underlying22 hj0 hjz (by rw [hj1]; rfl) (by rw [hj1]; rfl) (by omega) (by omega) _)) ?_
    refine ⟨fun _ => ⟨hS0.1.alloc _, hS0.2.alloc _⟩, ?_⟩
    simp only [zz]
    obtain ⟨A6, c6, w6, hrun, hown6, hext6⟩ := append_news (m := 1) (c := 1) (w := wr.drew) HO'.out.drew (Nat.le_trans HB.out HE.out.tr.size) [z] (by
     have hn := HN.out
     have h1 := HK0.out
     have h2 : (pack ch (T.take (2 * k))).length ≤ (T.take (2 * k)).length := pack_le ch _
     rw [List.length_take] at h2
     rw [List.length_append]
     simp
     omega) rfl
    refine till_only (i := 15) (by kernel_rfl) rfl rfl ?_
    refine wp_run (v := .slice A6 ((bs ++ pack ch (T.take (2 * k))).length + 1) c6) (w' := w6) (exec_append rfl rfl rfl hrun) ?_
    refine ⟨fun _ => ⟨hS0.1.ext hext6 (row_ne HO'.out hS0.1 (by decide)), hS0.2.ext hext6 (row_ne HO'.out hS0.2 (by decide))⟩, ?_⟩
    simp only [zz]
    have HO6 := zH hown6
    have HE6 := zH hext6
    clear hrun hown6 hext6 hS0
    generalize ((bs ++ pack ch (T.take (2 * k))).length + 1) = n6 at *
    refine till_tail 16 rfl (by kernel_rfl) ?_
    go_wp2_with fail
    refine NoPanic.normal ?_
    go_wp2_with fail
    go_roundg (gk - 1)
    case measure => have := HKL.out; have := HLT.out; omega
    case rel =>
     refine ⟨k + 1, A6, n6, c6, by have := HKL.out; have := HLT.out; omega, by go_num, rfl, ?_, ?_⟩
     ·rw [show 2 * (k + 1) = 2 * k + 2 from by omega, HTK.out, ← List.append_assoc]
      exact HO6.out
     ·exact (HE.out.still (Turn.drew (Turn.refl _ _))).trans HE6.out
   ·have hke : k = h := by have := HKL.out; omega
    have y1 : ¬ (((2 * k : Nat) : Int) < ((2 * h : Nat) : Int)) := by omega
    refine wR (v := .bool false) (w' := wr) rfl (exec_nlss rfl rfl rfl y1) ?_
    simp only [zz]
    have HKE := zH hke
    clear hlt hke y1
    go_wp2_with fail
    go_ret
    refine ⟨A, n, c', rfl, ?_, HE.out⟩
    have := HO'.out
    rw [List.take_of_length_le (by rw [HT.out, HKE.out]; exact Nat.le_refl _)] at this
    rw [← HTT.out]
    exact this
 ·rw [if_neg hodd] at hpd
  refine wR (v := .int .i64 0) (w' := w) rfl (by go_simp; exact tmod_nil hodd) ?_
  simp only [zz]
  have HPL := zH hpl
  have HPD := zH hpd
  clear hpl hodd ht1 hpd
  obtain ⟨T, hTT⟩ : ∃ T, T = padded t := ⟨_, rfl⟩
  have hTt : T = t := hTT.trans HPD.out
  rw [← hTt]
  clear hTt HPD
  rw [← hTT] at HPL HM HN
  have HTT := zH hTT
  clear hTT
  obtain ⟨h, hh⟩ : ∃ h, h = (t.length + 1) / 2 := ⟨_, rfl⟩
  have hT : T.length = 2 * h := by rw [hh]; exact HPL.out
  have hh1 : h ≤ 1000 := by have := HT1.out; omega
  have HT := zH hT
  have HH1 := zH hh1
  clear hT hh1 hh HPL HT1
  go_wp2_with fail
  go_loopg [0, 6] h (fun gk b i wr => ∃ (k : Nat) (A : Option Addr) (n c' : Nat), k + gk = h ∧ i = .int .i64 ((2 * k : Nat) : Int) ∧ b = .slice A n c' ∧ Own wr B 5 (.slice A n c') (bs ++ pack ch (T.take (2 * k))) ∧ Ext w wr (.slice A0 n0 c0) (.slice A n c'))
  case atStart => exact ⟨0, _, _, _, by omega, rfl, rfl, by simpa [pack] using HO.out, Ext.refl _ _⟩
  case round =>
   obtain ⟨k, A, n, c', hkl, rfl, rfl, hO, hE⟩ := hrel
   have HKL := zH hkl
   have HO' := zH hO
   have HE := zH hE
   clear hkl hO hE
   go_upto_region 4 with fail
   refine wp_region_lit ?_
   refine wM (.int .i64 ((2 * k : Nat) : Int)) ?_;simp only [zz];refine wM (strV T) ?_;simp only [zz]
   refine wR (v := .int .i64 ((2 * h : Nat) : Int)) (w' := wr) rfl (by rw [← HT.out]; exact exec_slen rfl rfl) ?_
   simp only [zz]
   by_cases hlt : k < h
   ·have y1 : ((2 * k : Nat) : Int) < ((2 * h : Nat) : Int) := by omega
    refine wR (v := .bool true) (w' := wr) rfl (exec_lss rfl rfl rfl y1) ?_
    simp only [zz]
    have HLT := zH hlt
    clear hlt y1
    go_upto_region 6 with fail
    have hk0 : 2 * k < T.length := by rw [HT.out]; have := HLT.out; omega
    have hk1 : 2 * k + 1 < T.length := by rw [HT.out]; have := HLT.out; omega
    have hm0 : T.getD (2 * k) 0 ∈ ch := by
     rw [List.getD_eq_getElem?_getD, List.getElem?_eq_getElem hk0]
     exact HM.out _ (List.getElem_mem _)
    have hm1 : T.getD (2 * k + 1) 0 ∈ ch := by
     rw [List.getD_eq_getElem?_getD, List.getElem?_eq_getElem hk1]
     exact HM.out _ (List.getElem_mem _)
    have HK0 := zH hk0
    have HK1 := zH hk1
    have HM0 := zH hm0
    have HM1 := zH hm1
    have HP0 := zH (fun W (hW : PlS q c ch W) => place_walk hW.2 _ hm0 HCH.out)
    have HP1 := zH (fun W (hW : PlS q c ch W) => place_walk hW.2 _ hm1 HCH.out)
    have HI0 := zH (show ch.idxOf (T.getD (2 * k) 0) < 16 from Nat.lt_of_lt_of_le (idx_lt hm0) HCH.out)
    have HI1 := zH (show ch.idxOf (T.getD (2 * k + 1) 0) < 16 from Nat.lt_of_lt_of_le (idx_lt hm1) HCH.out)
    have htk := pack_take ch k T (by rw [HT.out]; have := HLT.out; omega)
    generalize ch.idxOf (T.getD (2 * k) 0) = i0 at *
    generalize ch.idxOf (T.getD (2 * k + 1) 0) = i1 at *
    have hby : ((UInt8.ofNat (16 * i0 + i1)).toNat : Int) = ((16 * i0 + i1 : Nat) : Int) := by rw [UInt8.toNat_ofNat']; have := HI0.out; have := HI1.out; omega
    generalize UInt8.ofNat (16 * i0 + i1) = z at *
    have HTK := zH htk
    have HBY := zH hby
    clear hk0 hk1 hm0 hm1 htk hby
    have hS0 : PlS q c ch wr.drew := ⟨(HQ.out.ext HE.out (row_ne HO.out HQ.out (by decide))).drew, (HC.out.ext HE.out (row_ne HO.out HC.out (by decide))).drew⟩
    have x64 : (2 * (k : Int) + 1) ≤ 2001 := by have := HLT.out; have := HH1.out; omega
    refine wp_region_till (PlS q c ch) 16 (by kernel_rfl) ?_
    refine tP 0 (.slice A n c') rfl (fun W hW => exec_move rfl rfl) hS0 ?_;simp only [zz];refine tU 1 (placeV c) rfl (fun W hW => xL (hW.1.cell 0)) hS0 ?_;simp only [zz];refine tP 2 (strV T) rfl (fun W hW => exec_move rfl rfl) hS0 ?_;simp only [zz];refine tP 3 (.int .i64 ((2 * k : Nat) : Int)) rfl (fun W hW => exec_move rfl rfl) hS0 ?_;simp only [zz];refine tP 4 (.int .u8 ((T.getD (2 * k) 0).toNat : Int)) rfl (fun W hW => exec_sidx rfl rfl rfl HK0.out) hS0 ?_;simp only [zz];refine tU 7 (placeV c) rfl (fun W hW => xL (hW.1.cell 0)) hS0 ?_;simp only [zz];refine tP 8 (strV T) rfl (fun W hW => exec_move rfl rfl) hS0 ?_;simp only [zz];refine tP 9 (.int .i64 ((2 * k : Nat) : Int)) rfl (fun W hW => exec_move rfl rfl) hS0 ?_;simp only [zz];refine tP 10 (.int .i64 ((2 * k + 1 : Nat) : Int)) rfl (fun W hW => by go_simp; rw [IntKind.wrap_i64]; omega) hS0 ?_;simp only [zz];refine tP 11 (.int .u8 ((T.getD (2 * k + 1) 0).toNat : Int)) rfl (fun W hW => exec_sidx rfl rfl rfl HK1.out) hS0 ?_;simp only [zz]
    refine till_step (i := 5) (by kernel_rfl) rfl rfl ?_
    intro K1 HK1x
    try unfold placeV
    go_wp2_with fail
    refine (HP0.out _ hS0).mono ?_
    rintro e w5 ⟨rfl, rfl⟩
    refine HK1x.out _ _ ⟨fun _ => hS0, ?_⟩
    clear HK1x
    refine tP 6 (.int .u8 ((16 * i0 : Nat) : Int)) rfl (fun W hW => exec_shl4 i0 HI0.out rfl rfl) hS0 ?_;simp only [zz]
    refine till_step (i := 12) (by kernel_rfl) rfl rfl ?_
    intro K1 HK1x
    try unfold placeV
    go_wp2_with fail
    refine (HP1.out _ hS0).mono ?_
    rintro e w5 ⟨rfl, rfl⟩
    refine HK1x.out _ _ ⟨fun _ => hS0, ?_⟩
    clear HK1x
    refine till_only (i := 13) (by kernel_rfl) rfl rfl ?_
    refine wp_run (v := .int .u8 (z.toNat : Int)) (w' := wr.drew) (by rw [HBY.out]; exact exec_or i0 i1 HI0.out HI1.out rfl rfl rfl) ?_
    refine ⟨fun _ => hS0, ?_⟩
    simp only [zz]
    obtain ⟨j0, hj0, hjz, hj1, hj2⟩ := info_parts byteInfo
    refine till_only (i := 14) (by kernel_rfl) rfl rfl ?_
    refine wp_run (exec_buildSlice1 rfl rfl (run_buildSlice_one (v := .int .u8 (z.toNat : Int)) Tryz.underlying22 hj0 hjz (by rw [hj1]; rfl) (by rw [hj1]; rfl) (by omega) (by omega) _)) ?_
    refine ⟨fun _ => ⟨hS0.1.alloc _, hS0.2.alloc _⟩, ?_⟩
    simp only [zz]
    obtain ⟨A6, c6, w6, hrun, hown6, hext6⟩ := append_news (m := 1) (c := 1) (w := wr.drew) HO'.out.drew (Nat.le_trans HB.out HE.out.tr.size) [z] (by
     have hn := HN.out
     have h1 := HK0.out
     have h2 : (pack ch (T.take (2 * k))).length ≤ (T.take (2 * k)).length := pack_le ch _
     rw [List.length_take] at h2
     rw [List.length_append]
     simp
     omega) rfl
    refine till_only (i := 15) (by kernel_rfl) rfl rfl ?_
    refine wp_run (v := .slice A6 ((bs ++ pack ch (T.take (2 * k))).length + 1) c6) (w' := w6) (exec_append rfl rfl rfl hrun) ?_
    refine ⟨fun _ => ⟨hS0.1.ext hext6 (row_ne HO'.out hS0.1 (by decide)), hS0.2.ext hext6 (row_ne HO'.out hS0.2 (by decide))⟩, ?_⟩
    simp only [zz]
    have HO6 := zH hown6
    have HE6 := zH hext6
    clear hrun hown6 hext6 hS0
    generalize ((bs ++ pack ch (T.take (2 * k))).length + 1) = n6 at *
    refine till_tail 16 rfl (by kernel_rfl) ?_
    go_wp2_with fail
    refine NoPanic.normal ?_
    go_wp2_with fail
    go_roundg (gk - 1)
    case measure => have := HKL.out; have := HLT.out; omega
    case rel =>
     refine ⟨k + 1, A6, n6, c6, by have := HKL.out; have := HLT.out; omega, by go_num, rfl, ?_, ?_⟩
     ·rw [show 2 * (k + 1) = 2 * k + 2 from by omega, HTK.out, ← List.append_assoc]
      exact HO6.out
     ·exact (HE.out.still (Turn.drew (Turn.refl _ _))).trans HE6.out
   ·have hke : k = h := by have := HKL.out; omega
    have y1 : ¬ (((2 * k : Nat) : Int) < ((2 * h : Nat) : Int)) := by omega
    refine wR (v := .bool false) (w' := wr) rfl (exec_nlss rfl rfl rfl y1) ?_
    simp only [zz]
    have HKE := zH hke
    clear hlt hke y1
    go_wp2_with fail
    go_ret
    refine ⟨A, n, c', rfl, ?_, HE.out⟩
    have := HO'.out
    rw [List.take_of_length_le (by rw [HT.out, HKE.out]; exact Nat.le_refl _)] at this
    rw [← HTT.out]
    exact this
theorem exec_sub {W : World} {a : Act} {o : Oper} {x y : Operand} {m n : Nat} (ho : o.op = .binOp .sub 3 x y 3) (hx : a.eval x = .int .i64 (m : Int)) (hy : a.eval y = .int .i64 (n : Int)) (h : n ≤ m) (hm : m ≤ 1000000) : (execOp a.eval o).run Tryz.prog W = .ok (.value (.int .i64 ((m - n : Nat) : Int))) W := by
 unfold execOp
 simp only [ho, hx, hy]
 have e : IntKind.i64.wrap ((m : Int) - (n : Int)) = ((m - n : Nat) : Int) := by
  rw [IntKind.wrap_i64]
  omega
 rw [← e]
 go_simp
structure Gd (p : Pt) : Prop where
 st : (p.stands = [] ∧ p.chars.length ≤ 16 ∧ 48 ∈ p.chars) ∨ (p.stands ≠ [] ∧ p.stands.length = p.chars.length)
 ch : p.chars.length ≤ 99
 n1 : 1 ≤ p.n
 n2 : p.n ≤ 200
 asc : ascii p.chars
theorem zero_part (w : World) : (zeroValue 200).run Tryz.prog w = .ok (.agg #[.int .i64 0, .string ByteArray.empty, .string ByteArray.empty]) w := by kernel_rfl
theorem size_part : (Tryz.prog.info? 200).map (·.size) = some 3 := by kernel_rfl
theorem pt_one (p : Pt) : ∀ v ∈ (ptC p).toArray.toList, v.oneCell' = true := by simp [ptC, strV, Value.oneCell']
theorem load_part {w : World} {g q : Nat} {p : Pt} (h : w.rangeAt g q (ptC p)) : (Instr.loadAt 200 (.pointer (some ⟨g, q, none⟩))).run Tryz.prog w = .ok (.agg (ptC p).toArray) w :=
 run_loadAt_mid w g q 200 (ptC p) _ h Tryz.underlying200 rfl (by rw [size_part]; rfl)
theorem load_blkPart {w : World} {g : Nat} {p : Pt} (h : Blk w g 200 (ptC p).toArray) : (Instr.loadAt 200 (.pointer (some ⟨g, 0, none⟩))).run Tryz.prog w = .ok (.agg (ptC p).toArray) w :=
 load_part fun j v hv => by
  rw [Nat.zero_add, h.cell j]
  simpa using hv
theorem wpList_store_part {P : Program} {ops : Array Oper} {rest : List Oper} {o : Oper} {a : Act} {w : World} {Q : Exit → Act → World → Prop} (hgd : Region.wanted o (yielded ops a.tmps) = true) (x y : Operand) (ho : o.op = .store 200 x y) {g : Nat} {p : Pt} {old : Array Value} (hb : Blk w g 200 old) (hs : old.size = 3)
 (hx : a.eval x = .pointer (some ⟨g, 0, none⟩)) (hy : a.eval y = .agg (ptC p).toArray) (hi : (P.info? 200).map (·.size) = some 3)
 (h : ∀ w', Blk w' g 200 (ptC p).toArray → Turn (only g) w w' → wpList P ops Q rest (a.put o.dst undef) w') : wpList P ops Q (o :: rest) a w :=
 wpList_store_row hgd 200 x y ho (ptC p).toArray hb hx hy hs hi (pt_one p) h
theorem field_put (x y z : Value) (W : World) : (Instr.field 216 (.agg #[x, y, z]) 1).run Tryz.prog W = .ok y W := by kernel_rfl
theorem exec_getField {P : Program} {a : Act} {o : Oper} {t : TypeId} {x : Operand} {n : Nat} {u v : Value} {W : World} (ho : o.op = .field t x n) (hx : a.eval x = u) (h : (Instr.field t u n).run P W = .ok v W) : (execOp a.eval o).run P W = .ok (.value v) W := by
 unfold execOp
 simp only [ho, hx, h, Sem.run_bind, Sem.run_pure, Result.andThen_ok]
theorem row_keep {w w' : World} {B : Nat} {e : TypeId} {sz n : Nat} {v : Value} {xs : List Value} (h : w.ownsRow B e sz v n xs) (hk : ∀ g, v.ownBlock = some g → w'.heap[g]? = w.heap[g]?) : w'.ownsRow B e sz v n xs := by
 refine ⟨h.1, ?_⟩
 rcases h.2 with h2 | ⟨g, cap, cur, rfl, h3, h4, h5⟩
 ·exact .inl h2
 ·exact .inr ⟨g, cap, cur, rfl, h3, (hk g rfl).trans h4, h5⟩
theorem own_turn {w w' : World} {B : Nat} {e : TypeId} {v : Value} {bs : List UInt8} (h : Own w B e v bs) (ht : Turn nowhere w w') : Own w' B e v bs := row_keep h fun g hg => ht.block g (h.lt g hg).2 (fun e => e)
theorem code_put {w : World} {cv : Array Value} {p : Pt} (h : CodeAt w cv p) (hg : Gd p) {B : Nat} {t bs : List UInt8} {A0 : Option Addr} {n0 c0 : Nat} (ht : onlyOf t p.chars = true) (hown : Own w B 5 (.slice A0 n0 c0) bs) (hB : B ≤ w.heap.size)
 (hlen : bs.length + t.length ≤ 140737488354000) (ht1 : t.length ≤ 1000) :
 ∃ f c x y, cv = #[x, .func (.func f) #[] c, y] ∧ (f = 161 ∨ f = 158) ∧
 Calls Tryz.prog f (#[.slice A0 n0 c0, strV t] ++ c) w fun e w' => ∃ A n c', e = .returned (.slice A n c') ∧ Own w' B 5 (.slice A n c') (bs ++ p.enc t) ∧ Ext w w' (.slice A0 n0 c0) (.slice A n c') := by
 unfold Pt.enc
 rcases h with ⟨h0, q, c, rfl, h1, h2⟩ | ⟨h0, q, c, rfl, h1, h2⟩
 ·rw [if_pos h0]
  rcases hg.st with ⟨_, g2, g3⟩ | ⟨g1, _⟩
  ·exact ⟨_, #[ptrTo q], _, _, rfl, .inr rfl, pput_walk h1 h2 ht g3 hown hB hlen ht1 g2⟩
  ·exact absurd h0 g1
 ·rw [if_neg h0]
  rcases hg.st with ⟨g1, _⟩ | ⟨_, g2⟩
  ·exact absurd g1 h0
  ·exact ⟨_, #[ptrTo q, ptrTo c], _, _, rfl, .inl rfl, sput_walk h1 h2 ht g2 hown hB (by omega) ht1 (by have := hg.ch; omega)⟩
theorem enc_len (p : Pt) (t : List UInt8) : (p.enc t).length ≤ t.length + 1 := by
 unfold Pt.enc
 by_cases h : p.stands = []
 ·rw [if_pos h]
  have h1 := pack_le p.chars (padded t)
  have h2 := padded_len t
  omega
 ·rw [if_neg h, List.length_map]
  omega
theorem right_cons {p : Pt} {r : List Pt} {t : List UInt8} (h : rightAll (p :: r) t = true) : p.n ≤ t.length ∧ onlyOf (t.take p.n) p.chars = true ∧ rightAll r (t.drop p.n) = true := by
 simpa [rightAll] using h
theorem drop_cons {ps r : List Pt} {p : Pt} {k : Nat} (h : ps.drop k = p :: r) : ps[k]? = some p ∧ ps.drop (k + 1) = r ∧ k < ps.length := by
 have h1 : ps[k]? = some p := by
  have := congrArg (fun l => l[0]?) h
  simpa [List.getElem?_drop] using this
 refine ⟨h1, ?_, (List.getElem?_eq_some_iff.1 h1).1⟩
 have := congrArg (List.drop 1) h
 simpa [List.drop_drop, Nat.add_comm] using this
def PtB (b8 : Nat) (p : Pt) (W : World) : Prop := Blk W b8 200 (ptC p).toArray
theorem put_walk {w : World} {g B np cp : Nat} {ps : List Pt} {t bs : List UInt8} {A0 : Option Addr} {n0 c0 : Nat} (hp : PtsAt w g ps) (hnp : ps.length = np) (hg : ∀ p ∈ ps, Gd p) (hr : rightAll ps t = true) (hown : Own w B 5 (.slice A0 n0 c0) bs) (hB : B ≤ w.heap.size) (hlen : bs.length + 10 * t.length ≤ 140737488354000) (ht1 : t.length ≤ 1000) (hps : np ≤ 5) :
 Calls Tryz.prog 114 #[.slice A0 n0 c0, .slice (some ⟨g, 0, none⟩) np cp, strV t] w fun e w' => ∃ A n c', e = .returned (.slice A n c') ∧ Own w' B 5 (.slice A n c') (bs ++ encAll ps t) ∧ Ext w w' (.slice A0 n0 c0) (.slice A n c') := by
 have HP := zH hp
 have HNP := zH hnp
 have HG := zH hg
 have HO := zH hown
 have HB := zH hB
 have HN := zH hlen
 have HT1 := zH ht1
 have HPS := zH hps
 have HR := zH hr
 clear hp hg hown hB hlen ht1 hps hnp hr
 go_enter Tryz.func114, Tryz.ntmps114
 go_upto_region 2 with fail
 go_loopg [0, 2, 11] np (fun gk b x i wr => ∃ (k : Nat) (A : Option Addr) (n c' : Nat) (t2 e1 : List UInt8), k + gk = np ∧ i = .int .i64 (k : Int) ∧ b = .slice A n c' ∧ x = strV t2 ∧ Own wr B 5 (.slice A n c') (bs ++ e1) ∧ e1 ++ encAll (ps.drop k) t2 = encAll ps t ∧ rightAll (ps.drop k) t2 = true ∧ t2.length ≤ t.length ∧ Ext w wr (.slice A0 n0 c0) (.slice A n c') ∧ e1.length ≤ 2 * k * t.length)
 case atStart => exact ⟨0, _, _, _, t, [], by omega, rfl, rfl, rfl, by simpa using HO.out, by simp, HR.out, Nat.le_refl _, Ext.refl _ _, by simp⟩
 case round =>
  obtain ⟨k, A, n, c', t2, e1, hkl, rfl, rfl, rfl, hO, henc, hright, htl, hE, hel⟩ := hrel
  have HKL := zH hkl
  have HO' := zH hO
  have HENC := zH henc
  have HTL := zH htl
  have HE := zH hE
  have HEL := zH hel
  have HRR := zH hright
  clear hkl hO henc htl hE hel hright
  by_cases hlt : k < np
  ·have y1 : (k : Int) < (np : Int) := by omega
   have y2 : (0 : Int) ≤ (k : Int) := by omega
   have y3 : (np : Int) ≤ 5 := by have := HPS.out; omega
   obtain ⟨p, r, hd⟩ : ∃ p r, ps.drop k = p :: r := by
    cases h : ps.drop k with
    | nil =>
      have := congrArg List.length h
      rw [List.length_drop, HNP.out] at this
      simp at this
      omega
    | cons p r => exact ⟨p, r, rfl⟩
   have HD := zH (drop_cons hd)
   have hrr := HRR.out
   have hen := HENC.out
   rw [hd] at hrr hen
   have HRC := zH (right_cons hrr)
   have HEN := zH hen
   have HLT := zH hlt
   clear hlt hd hrr hen
   go_upto_region 3 with fail
   have hk0 : wr.rangeAt g (k * 3) (ptC p) := ((let ⟨_, hb, _⟩ := HP.out; HP.out.turn HE.out.tr (row_ne HO.out hb (by decide)))).range HD.out.1
   refine wp_region_lit ?_
   refine wR (v := .pointer (some ⟨g, k * 3, none⟩)) (w' := wr) rfl (by go_simp) ?_
   simp only [zz];refine wS (.agg (ptC p).toArray) (exec_load rfl rfl (load_part hk0)) ?_;simp only [zz];refine wS _ (exec_alloc rfl (zero_part _)) ?_;simp only [zz]
   have hbn := Blk.new wr 200 #[.int .i64 0, .string ByteArray.empty, .string ByteArray.empty]
   have htn := (Turn.refl nowhere wr).alloc (.cells #[.int .i64 0, .string ByteArray.empty, .string ByteArray.empty] 200)
   generalize (wr.alloc (.cells #[.int .i64 0, .string ByteArray.empty, .string ByteArray.empty] 200)) = w4 at *
   obtain ⟨b8, hb8⟩ : ∃ b8, b8 = wr.heap.size := ⟨_, rfl⟩
   rw [← hb8] at hbn ⊢
   refine wpList_store_part rfl (.tmp 8) (.tmp 14) rfl hbn rfl rfl rfl size_part ?_
   intro w5 hq5 ht5
   have HT5 := zH (show Turn nowhere wr w5 from htn.trans ht5 (fun j hj e => by have h2 : j = b8 := e; omega))
   have HB5 := zH hq5
   clear hk0 hbn htn hb8 hq5 ht5
   simp only [Act.put]
   have HGD := zH (HG.out p (List.mem_of_getElem? HD.out.1))
   go_upto_region 4 with fail
   have hS0 : PtB b8 p w5.drew := HB5.out.drew
   refine wp_region_till (PtB b8 p) 9 (by kernel_rfl) ?_
   refine tU 0 (.agg (ptC p).toArray) rfl (fun W hW => exec_load rfl rfl (load_blkPart hW)) hS0 ?_;simp only [zz];refine tP 3 (.slice A n c') rfl (fun W hW => exec_move rfl rfl) hS0 ?_;simp only [zz];refine tP 4 (strV t2) rfl (fun W hW => exec_move rfl rfl) hS0 ?_;simp only [zz];refine tP 5 (.pointer (some ⟨b8, 0, none⟩)) rfl (fun W hW => xF 0 0) hS0 ?_;simp only [zz];refine tU 6 (.int .i64 (p.n : Int)) rfl (fun W hW => xL (Blk.cell hW 0)) hS0 ?_;simp only [zz];refine tP 7 (strV (t2.take p.n)) rfl (fun W hW => exec_sto rfl rfl rfl HRC.out.1) hS0 ?_;simp only [zz]
   refine till_step (i := 1) (by kernel_rfl) rfl rfl ?_
   intro K1 HK1
   go_wp2_with fail
   refine (codeOf_walk p _).mono ?_
   rintro e w6 ⟨cv, rfl, hcode, ht6⟩
   have hS1 : PtB b8 p w6 := hS0.turn ht6 (fun e => e)
   refine HK1.out _ _ ⟨fun _ => hS1, ?_⟩
   clear HK1
   have hE6 : Ext w w6 (.slice A0 n0 c0) (.slice A n c') := (HE.out.still ((HT5.out.drew).next ht6))
   have hO6 : Own w6 B 5 (.slice A n c') (bs ++ e1) := own_turn HO'.out ((HT5.out.drew).next ht6)
   obtain ⟨f, cc, xx, yy, rfl, hf, hcall⟩ := code_put hcode HGD.out HRC.out.2.1 hO6 (Nat.le_trans HB.out hE6.tr.size) (by
    rw [List.length_append, List.length_take]
    have h1 := HN.out
    have h2 := HEL.out
    have h3 := HTL.out
    have h4 := HLT.out
    have h5 := HPS.out
    have h6 : 2 * k * t.length ≤ 8 * t.length := Nat.mul_le_mul_right _ (by omega)
    omega) (by rw [List.length_take]; have := HT1.out; have := HTL.out; omega)
   have HCALL := zH hcall
   have HE6 := zH hE6
   have HO6 := zH hO6
   clear hcall hcode ht6 hE6 hO6
   refine tP 2 (.func (.func f) #[] cc) rfl (fun W hW => exec_getField rfl rfl (field_put _ _ _ W)) hS1 ?_;simp only [zz]
   refine till_step (i := 8) (by kernel_rfl) rfl rfl ?_
   intro K1 HK1
   have HS1 := zH hS1
   clear hS0 hS1
   rcases hf with rfl | rfl
   ·go_wp2_with fail
    refine HCALL.out.mono ?_
    rintro e w7 ⟨A7, n7, c7, rfl, hO7, hE7⟩
    have hS2 : PtB b8 p w7 := Blk.ext HS1.out hE7 (row_ne HO6.out HS1.out (by decide))
    refine HK1.out _ _ ⟨fun _ => hS2, ?_⟩
    clear HK1
    have HO7 := zH hO7
    have HE7 := zH (HE6.out.trans hE7)
    have HB7 := zH hS2
    clear hO7 hE7 hS2
    refine till_tail 9 rfl (by kernel_rfl) ?_
    go_wp2_with fail
    refine NoPanic.normal ?_
    go_upto_region 5 with fail
    refine wp_region_lit ?_
    refine wM (strV t2) ?_;simp only [zz];refine wS (.pointer (some ⟨b8, 0, none⟩)) (xF 0 0) ?_;simp only [zz];refine wS (.int .i64 (p.n : Int)) (xL (Blk.cell HB7.out 0)) ?_;simp only [zz]
    refine wR (v := strV (t2.drop p.n)) (w' := w7) rfl (exec_sfrom rfl rfl rfl HRC.out.1) ?_
    simp only [zz]
    go_wp2_with fail
    go_roundg (gk - 1)
    case measure => have := HKL.out; have := HLT.out; omega
    case rel =>
     refine ⟨k + 1, A7, n7, c7, t2.drop p.n, e1 ++ p.enc (t2.take p.n), by have := HKL.out; have := HLT.out; omega, by go_num, rfl, rfl, ?_, ?_, ?_, ?_, HE7.out, ?_⟩
     ·rw [← List.append_assoc]
      exact HO7.out
     ·rw [HD.out.2.1, List.append_assoc]
      exact HEN.out
     ·rw [HD.out.2.1]
      exact HRC.out.2.2
     ·rw [List.length_drop]
      have := HTL.out
      omega
     ·have h1 := enc_len p (t2.take p.n)
      have h2 := HEL.out
      have h3 := HTL.out
      have h5 := HGD.out.n1
      have h6 := HRC.out.1
      rw [List.length_take] at h1
      rw [List.length_append, show 2 * (k + 1) * t.length = 2 * k * t.length + 2 * t.length from by rw [Nat.mul_add, Nat.add_mul]]
      omega
   ·go_wp2_with fail
    refine HCALL.out.mono ?_
    rintro e w7 ⟨A7, n7, c7, rfl, hO7, hE7⟩
    have hS2 : PtB b8 p w7 := Blk.ext HS1.out hE7 (row_ne HO6.out HS1.out (by decide))
    refine HK1.out _ _ ⟨fun _ => hS2, ?_⟩
    clear HK1
    have HO7 := zH hO7
    have HE7 := zH (HE6.out.trans hE7)
    have HB7 := zH hS2
    clear hO7 hE7 hS2
    refine till_tail 9 rfl (by kernel_rfl) ?_
    go_wp2_with fail
    refine NoPanic.normal ?_
    go_upto_region 5 with fail
    refine wp_region_lit ?_
    refine wM (strV t2) ?_;simp only [zz];refine wS (.pointer (some ⟨b8, 0, none⟩)) (xF 0 0) ?_;simp only [zz];refine wS (.int .i64 (p.n : Int)) (xL (Blk.cell HB7.out 0)) ?_;simp only [zz]
    refine wR (v := strV (t2.drop p.n)) (w' := w7) rfl (exec_sfrom rfl rfl rfl HRC.out.1) ?_
    simp only [zz]
    go_wp2_with fail
    go_roundg (gk - 1)
    case measure => have := HKL.out; have := HLT.out; omega
    case rel =>
     refine ⟨k + 1, A7, n7, c7, t2.drop p.n, e1 ++ p.enc (t2.take p.n), by have := HKL.out; have := HLT.out; omega, by go_num, rfl, rfl, ?_, ?_, ?_, ?_, HE7.out, ?_⟩
     ·rw [← List.append_assoc]
      exact HO7.out
     ·rw [HD.out.2.1, List.append_assoc]
      exact HEN.out
     ·rw [HD.out.2.1]
      exact HRC.out.2.2
     ·rw [List.length_drop]
      have := HTL.out
      omega
     ·have h1 := enc_len p (t2.take p.n)
      have h2 := HEL.out
      have h3 := HTL.out
      have h5 := HGD.out.n1
      have h6 := HRC.out.1
      rw [List.length_take] at h1
      rw [List.length_append, show 2 * (k + 1) * t.length = 2 * k * t.length + 2 * t.length from by rw [Nat.mul_add, Nat.add_mul]]
      omega
  ·have hke : k = np := by have := HKL.out; omega
   have y1 : ¬ ((k : Int) < (np : Int)) := by omega
   clear hlt
   have hen := HENC.out
   rw [List.drop_of_length_le (by rw [HNP.out, hke]; exact Nat.le_refl _)] at hen
   have he : e1 = encAll ps t := by simpa [encAll] using hen
   have HEE := zH he
   clear hke hen he
   go_wp2_with fail
   go_ret
   refine ⟨A, n, c', rfl, ?_, HE.out⟩
   have := HO'.out
   rwa [HEE.out] at this
end Go.Proofs.YtkagijifkpoplaaGreatDoor
