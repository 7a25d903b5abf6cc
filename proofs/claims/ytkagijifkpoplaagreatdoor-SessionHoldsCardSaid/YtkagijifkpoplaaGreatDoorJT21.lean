/-
  Texts in one file. Conditions: the tables and the errors read as laid.
-/
import Derived.Test.YtkagijifkpoplaaGreatDoorJT18
import Derived.Test.YtkagijifkpoplaaGreatDoorJT13
import Derived.Test.YtkagijifkpoplaaGreatDoorJT0
import Derived.Test.YtkagijifkpoplaaGreatDoorJT20
import Derived.Test.YtkagijifkpoplaaGreatDoorJT1
set_option linter.unusedVariables false
set_option linter.unusedSimpArgs false
set_option maxRecDepth 40000
set_option maxHeartbeats 20000000
namespace Go.Proofs.YtkagijifkpoplaaGreatDoor
open Go.RowKit
open Fdd
theorem rpack_take : ∀ (k : Nat) (T : List UInt8), 2 * k + 1 < T.length → rpack (T.take (2 * (k + 1))) = rpack (T.take (2 * k)) ++ [UInt8.ofNat (16 * vOf (T.getD (2 * k) 0) + vOf (T.getD (2 * k + 1) 0))]
 | 0, a :: b :: r, _ => rfl
 | 0, [], h => by simp at h
 | 0, [_], h => by simp at h
 | k + 1, a :: b :: r, h => by
   have ih := rpack_take k r (by simp at h; omega)
   rw [show 2 * (k + 1 + 1) = 2 * (k + 1) + 1 + 1 from by omega, show 2 * (k + 1) = 2 * k + 1 + 1 from by omega]
   simp only [List.take_succ_cons, List.getD_cons_succ]
   rw [show 2 * k + 1 + 1 = 2 * (k + 1) from by omega]
   show UInt8.ofNat _ :: rpack (r.take (2 * (k + 1))) = UInt8.ofNat _ :: rpack (r.take (2 * k)) ++ _
   rw [ih]
   rfl
 | k + 1, [], h => by simp at h
 | k + 1, [_], h => by simp at h
theorem rpack_len : ∀ T : List UInt8, (rpack T).length ≤ T.length
 | [] => Nat.le_refl _
 | [_] => Nat.zero_le _
 | a :: b :: r => by
   have := rpack_len r
   simp only [rpack, List.length_cons]
   omega
theorem packed_walk (t : List UInt8) (w : World) (hl : t.length ≤ 1000) (ht : onlyOf t hexs = true) :
 Calls Tryz.prog 103 #[strV t] w (Made w (rpack (padded t))) := by
 have hpl := padded_two t
 have HM := zH (fun x (hx : x ∈ padded t) => padded_in (ch := hexs) (by decide) (only_in ht) x hx)
 have HL := zH hl
 clear ht
 obtain ⟨B, hB⟩ : ∃ B, B = w.heap.size := ⟨_, rfl⟩
 have HB := zH hB
 clear hB
 go_enter Tryz.func103, Tryz.ntmps103
 go_upto_region 1 with fail
 refine wp_region_lit ?_
 refine wM (strV t) ?_;simp only [zz]
 refine wR (v := .int .i64 (t.length : Int)) (w' := w) rfl (exec_slen rfl rfl) ?_
 simp only [zz]
 have hpd : padded t = if t.length % 2 = 1 then 48 :: t else t := rfl
 by_cases hodd : t.length % 2 = 1
 ·rw [if_pos hodd] at hpd
  refine wR (v := .int .i64 1) (w' := w) rfl (by go_simp; exact tmod_one hodd) ?_
  simp only [zz]
  have HPD := zH hpd
  have HPL := zH hpl
  clear hpd hpl hodd hl
  go_upto_region 2 with fail
  refine wp_region_lit ?_
  refine wM (strV t) ?_;simp only [zz]
  refine wR (v := strV (padded t)) (w' := w) rfl (by rw [HPD.out]; exact exec_sadd (l := [48]) rfl rfl rfl (by have := HL.out; simp; omega)) ?_
  simp only [zz]
  obtain ⟨T, hTT⟩ : ∃ T, T = padded t := ⟨_, rfl⟩
  rw [← hTT] at HPL HM HPD
  rw [← hTT]
  have HTT := zH hTT
  clear hTT
  obtain ⟨h, hh⟩ : ∃ h, h = (t.length + 1) / 2 := ⟨_, rfl⟩
  have hT : T.length = 2 * h := by have h1 := HPL.out.1; have h2 := HPL.out.2; omega
  have hh1 : h ≤ 1000 := by have := HL.out; omega
  have HT := zH hT
  have HH1 := zH hh1
  clear hT hh1 hh HPL HPD
  go_upto_region 3 with fail
  refine wp_region_lit ?_
  refine wS _ (exec_make0 rfl) ?_;simp only [zz];refine wA (.slice (some ⟨w.heap.size, 0, none⟩) 0 0) ?_;simp only [zz]
  have hown0 := Own.empty w B 5 (Nat.le_of_eq HB.out)
  have hbel0 : Below B w (w.alloc (.cells #[] 5)) := (Below.refl _ w).alloc (Nat.le_of_eq HB.out) _
  generalize (w.alloc (.cells #[] 5)) = w1 at *
  generalize (some (⟨w.heap.size, 0, none⟩ : Addr)) = A0 at *
  have HO0 := zH hown0
  have HB0 := zH hbel0
  clear hown0 hbel0
  go_wp2_with fail
  go_loopg [3, 4] h (fun gk b i wr => ∃ (k : Nat) (A : Option Addr) (m c : Nat), k + gk = h ∧ i = .int .i64 ((2 * k : Nat) : Int) ∧ b = .slice A m c ∧ Own wr B 5 (.slice A m c) (rpack (T.take (2 * k))) ∧ Below B w wr)
  case atStart => exact ⟨0, A0, 0, 0, by omega, rfl, rfl, HO0.out, HB0.out⟩
  case round =>
   obtain ⟨k, A, m, c, hkl, rfl, rfl, hown, hbel⟩ := hrel
   have HKL := zH hkl
   have HO := zH hown
   have HE := zH hbel
   clear hkl hown hbel
   go_upto_region 5 with fail
   refine wp_region_lit ?_
   refine wM (.int .i64 ((2 * k : Nat) : Int)) ?_;simp only [zz];refine wM (strV T) ?_;simp only [zz]
   refine wR (v := .int .i64 ((2 * h : Nat) : Int)) (w' := wr) rfl (by rw [← HT.out]; exact exec_slen rfl rfl) ?_
   simp only [zz]
   by_cases hlt : k < h
   ·have y1 : ((2 * k : Nat) : Int) < ((2 * h : Nat) : Int) := by omega
    refine wR (v := .bool true) (w' := wr) rfl (exec_lss rfl rfl rfl y1) ?_
    simp only [zz]
    have HLT := zH hlt
    clear hlt y1
    go_upto_region 7 with fail
    have hk0 : 2 * k < T.length := by rw [HT.out]; have := HLT.out; omega
    have hk1 : 2 * k + 1 < T.length := by rw [HT.out]; have := HLT.out; omega
    have hm0 : hexs.contains (T.getD (2 * k) 0) = true := by
     rw [List.getD_eq_getElem?_getD, List.getElem?_eq_getElem hk0, List.contains_iff_mem]
     exact HM.out _ (List.getElem_mem _)
    have hm1 : hexs.contains (T.getD (2 * k + 1) 0) = true := by
     rw [List.getD_eq_getElem?_getD, List.getElem?_eq_getElem hk1, List.contains_iff_mem]
     exact HM.out _ (List.getElem_mem _)
    have hi0 := vOf_lt _ hm0
    have hi1 := vOf_lt _ hm1
    have HV0 := zH (fun W => valueH_walk _ hm0 W)
    have HV1 := zH (fun W => valueH_walk _ hm1 W)
    have htk := rpack_take k T hk1
    have HK0 := zH hk0
    have HK1 := zH hk1
    generalize vOf (T.getD (2 * k) 0) = i0 at *
    generalize vOf (T.getD (2 * k + 1) 0) = i1 at *
    have hby : ((UInt8.ofNat (16 * i0 + i1)).toNat : Int) = ((16 * i0 + i1 : Nat) : Int) := by rw [UInt8.toNat_ofNat']; omega
    generalize UInt8.ofNat (16 * i0 + i1) = z at *
    have HTK := zH htk
    have HBY := zH hby
    have HI := zH (And.intro hi0 hi1)
    have hw5 : IntKind.i64.wrap (16 * (i0 : Int)) = 16 * (i0 : Int) := by rw [IntKind.wrap_i64]; omega
    have hw11 : IntKind.i64.wrap (16 * (i0 : Int) + (i1 : Int)) = 16 * (i0 : Int) + (i1 : Int) := by rw [IntKind.wrap_i64]; omega
    have hw12 : IntKind.u8.wrap (16 * (i0 : Int) + (i1 : Int)) = (z.toNat : Int) := by rw [wrapu8, hby]; omega
    have HW := zH (And.intro hw5 (And.intro hw11 hw12))
    clear hk0 hk1 hm0 hm1 htk hby hi0 hi1 hw5 hw11 hw12
    have x64 : (2 * (k : Int) + 1) ≤ 2001 := by have := HLT.out; have := HH1.out; omega
    have hS0 : True := trivial
    refine wp_region_till (fun _ => True) 15 (by kernel_rfl) ?_
    refine tP 0 (.slice A m c) rfl (fun W hW => exec_move rfl rfl) hS0 ?_;simp only [zz];refine tP 1 (strV T) rfl (fun W hW => exec_move rfl rfl) hS0 ?_;simp only [zz];refine tP 2 (.int .i64 ((2 * k : Nat) : Int)) rfl (fun W hW => exec_move rfl rfl) hS0 ?_;simp only [zz];refine tP 3 (.int .u8 ((T.getD (2 * k) 0).toNat : Int)) rfl (fun W hW => exec_sidx rfl rfl rfl HK0.out) hS0 ?_;simp only [zz];refine tP 6 (strV T) rfl (fun W hW => exec_move rfl rfl) hS0 ?_;simp only [zz];refine tP 7 (.int .i64 ((2 * k : Nat) : Int)) rfl (fun W hW => exec_move rfl rfl) hS0 ?_;simp only [zz];refine tP 8 (.int .i64 ((2 * k + 1 : Nat) : Int)) rfl (fun W hW => by go_simp; rw [IntKind.wrap_i64]; omega) hS0 ?_;simp only [zz];refine tP 9 (.int .u8 ((T.getD (2 * k + 1) 0).toNat : Int)) rfl (fun W hW => exec_sidx rfl rfl rfl HK1.out) hS0 ?_;simp only [zz]
    refine till_step (i := 4) (by kernel_rfl) rfl rfl ?_
    intro K1 HK1x
    go_wp2_with fail
    refine (HV0.out _).mono ?_
    rintro e w5 ⟨rfl, hw⟩
    obtain rfl : wr.drew = w5 := hw.symm
    refine HK1x.out _ _ ⟨fun _ => hS0, ?_⟩
    clear HK1x
    refine tP 5 (.int .i64 (16 * (i0 : Int))) rfl (fun W hW => by have h := HW.out.1; go_simp) hS0 ?_;simp only [zz]
    refine till_step (i := 10) (by kernel_rfl) rfl rfl ?_
    intro K1 HK1x
    go_wp2_with fail
    refine (HV1.out _).mono ?_
    rintro e w5 ⟨rfl, hw⟩
    obtain rfl : wr.drew = w5 := hw.symm
    refine HK1x.out _ _ ⟨fun _ => hS0, ?_⟩
    clear HK1x
    refine tP 11 (.int .i64 (16 * (i0 : Int) + (i1 : Int))) rfl (fun W hW => by have h := HW.out.2.1; go_simp) hS0 ?_;simp only [zz];refine tP 12 (.int .u8 (z.toNat : Int)) rfl (fun W hW => by have h := HW.out.2.2; go_simp) hS0 ?_;simp only [zz]
    refine till_only (i := 13) (by kernel_rfl) rfl rfl ?_
    refine wp_run (exec_one (z := z) rfl rfl) ?_
    refine ⟨fun _ => hS0, ?_⟩
    simp only [zz]
    refine till_step (i := 14) (by kernel_rfl) rfl rfl ?_
    intro K1 HK1x
    have hone := bs_blk (Blk.new wr.drew 5 (bcs [z]).toArray) (n := 1) rfl (by unfold maxLen; omega)
    have hown1 : Own (wr.drew.alloc (.cells (bcs [z]).toArray 5)) B 5 (.slice A m c) (rpack (T.take (2 * k))) := World.ownsRow.alloc (w := wr.drew) HO.out _
    refine wp_append_bytes _ _ _ _ rfl B 5 byteInfo Tryz.underlying22 _ _ rfl hown1 _ 1 1 [z] rfl hone (fun h => by cases h) (by have h1 := rpack_len (T.take (2 * k)); rw [List.length_take] at h1; have := HT.out; have := HH1.out; omega) (by have := HE.out.size; have := HB.out; simp; omega) ?_
    intro v2 w2 ho2 hb2
    refine HK1x.out _ _ ⟨fun _ => hS0, ?_⟩
    clear HK1x
    simp only [zz]
    obtain ⟨A2, m2, c2, rfl, _⟩ := ho2.form
    have HO2 := zH ho2
    have HB2 := zH hb2
    clear ho2 hb2 hone hown1
    refine till_tail 15 rfl (by kernel_rfl) ?_
    have b0 : (0 : Int) ≤ (k : Int) := by omega
    have b1 : (k : Int) ≤ 1000 := by have := HLT.out; have := HH1.out; omega
    go_wp2_with fail
    refine NoPanic.normal ?_
    go_wp2_with fail
    go_roundg (gk - 1)
    case measure => have := HKL.out; have := HLT.out; omega
    case rel =>
     refine ⟨k + 1, A2, m2, c2, by have := HKL.out; have := HLT.out; omega, by go_num, rfl, ?_, (HE.out.drew.alloc (by have := HE.out.size; have := HB.out; show B ≤ wr.heap.size; omega) _).trans HB2.out⟩
     rw [HTK.out]
     exact HO2.out
   ·have y1 : ¬ (((2 * k : Nat) : Int) < ((2 * h : Nat) : Int)) := by omega
    refine wR (v := .bool false) (w' := wr) rfl (exec_nlss rfl rfl rfl y1) ?_
    simp only [zz]
    have hkn : T.take (2 * k) = T := List.take_of_length_le (by have := HKL.out; have := HT.out; omega)
    have ho := HO.out
    rw [hkn] at ho
    have HOO := zH ho
    have HTW := zH (below_turn (by have := HE.out; rwa [HB.out] at this))
    clear hlt hkn ho y1
    go_wp2_with fail
    go_ret
    refine ⟨A, m, c, rfl, ?_, HTW.out⟩
    rw [← HB.out, ← HTT.out]
    exact HOO.out
 ·rw [if_neg hodd] at hpd
  refine wR (v := .int .i64 0) (w' := w) rfl (by go_simp; exact tmod_nil hodd) ?_
  simp only [zz]
  have HPD := zH hpd
  have HPL := zH hpl
  clear hpd hpl hodd hl
  obtain ⟨T, hTT⟩ : ∃ T, T = padded t := ⟨_, rfl⟩
  rw [← hTT] at HPL HM HPD
  have hTt : T = t := HPD.out
  have HTT := zH hTT
  clear hTT
  obtain ⟨h, hh⟩ : ∃ h, h = (t.length + 1) / 2 := ⟨_, rfl⟩
  have hT : T.length = 2 * h := by have h1 := HPL.out.1; have h2 := HPL.out.2; omega
  have hh1 : h ≤ 1000 := by have := HL.out; omega
  have HT := zH hT
  have HH1 := zH hh1
  clear hT hh1 hh HPL HPD
  rw [← hTt]
  have HTx := zH hTt
  clear hTt
  go_upto_region 3 with fail
  refine wp_region_lit ?_
  refine wS _ (exec_make0 rfl) ?_;simp only [zz];refine wA (.slice (some ⟨w.heap.size, 0, none⟩) 0 0) ?_;simp only [zz]
  have hown0 := Own.empty w B 5 (Nat.le_of_eq HB.out)
  have hbel0 : Below B w (w.alloc (.cells #[] 5)) := (Below.refl _ w).alloc (Nat.le_of_eq HB.out) _
  generalize (w.alloc (.cells #[] 5)) = w1 at *
  generalize (some (⟨w.heap.size, 0, none⟩ : Addr)) = A0 at *
  have HO0 := zH hown0
  have HB0 := zH hbel0
  clear hown0 hbel0
  go_wp2_with fail
  go_loopg [3, 4] h (fun gk b i wr => ∃ (k : Nat) (A : Option Addr) (m c : Nat), k + gk = h ∧ i = .int .i64 ((2 * k : Nat) : Int) ∧ b = .slice A m c ∧ Own wr B 5 (.slice A m c) (rpack (T.take (2 * k))) ∧ Below B w wr)
  case atStart => exact ⟨0, A0, 0, 0, by omega, rfl, rfl, HO0.out, HB0.out⟩
  case round =>
   obtain ⟨k, A, m, c, hkl, rfl, rfl, hown, hbel⟩ := hrel
   have HKL := zH hkl
   have HO := zH hown
   have HE := zH hbel
   clear hkl hown hbel
   go_upto_region 5 with fail
   refine wp_region_lit ?_
   refine wM (.int .i64 ((2 * k : Nat) : Int)) ?_;simp only [zz];refine wM (strV T) ?_;simp only [zz]
   refine wR (v := .int .i64 ((2 * h : Nat) : Int)) (w' := wr) rfl (by rw [← HT.out]; exact exec_slen rfl rfl) ?_
   simp only [zz]
   by_cases hlt : k < h
   ·have y1 : ((2 * k : Nat) : Int) < ((2 * h : Nat) : Int) := by omega
    refine wR (v := .bool true) (w' := wr) rfl (exec_lss rfl rfl rfl y1) ?_
    simp only [zz]
    have HLT := zH hlt
    clear hlt y1
    go_upto_region 7 with fail
    have hk0 : 2 * k < T.length := by rw [HT.out]; have := HLT.out; omega
    have hk1 : 2 * k + 1 < T.length := by rw [HT.out]; have := HLT.out; omega
    have hm0 : hexs.contains (T.getD (2 * k) 0) = true := by
     rw [List.getD_eq_getElem?_getD, List.getElem?_eq_getElem hk0, List.contains_iff_mem]
     exact HM.out _ (List.getElem_mem _)
    have hm1 : hexs.contains (T.getD (2 * k + 1) 0) = true := by
     rw [List.getD_eq_getElem?_getD, List.getElem?_eq_getElem hk1, List.contains_iff_mem]
     exact HM.out _ (List.getElem_mem _)
    have hi0 := vOf_lt _ hm0
    have hi1 := vOf_lt _ hm1
    have HV0 := zH (fun W => valueH_walk _ hm0 W)
    have HV1 := zH (fun W => valueH_walk _ hm1 W)
    have htk := rpack_take k T hk1
    have HK0 := zH hk0
    have HK1 := zH hk1
    generalize vOf (T.getD (2 * k) 0) = i0 at *
    generalize vOf (T.getD (2 * k + 1) 0) = i1 at *
    have hby : ((UInt8.ofNat (16 * i0 + i1)).toNat : Int) = ((16 * i0 + i1 : Nat) : Int) := by rw [UInt8.toNat_ofNat']; omega
    generalize UInt8.ofNat (16 * i0 + i1) = z at *
    have HTK := zH htk
    have HBY := zH hby
    have HI := zH (And.intro hi0 hi1)
    have hw5 : IntKind.i64.wrap (16 * (i0 : Int)) = 16 * (i0 : Int) := by rw [IntKind.wrap_i64]; omega
    have hw11 : IntKind.i64.wrap (16 * (i0 : Int) + (i1 : Int)) = 16 * (i0 : Int) + (i1 : Int) := by rw [IntKind.wrap_i64]; omega
    have hw12 : IntKind.u8.wrap (16 * (i0 : Int) + (i1 : Int)) = (z.toNat : Int) := by rw [wrapu8, hby]; omega
    have HW := zH (And.intro hw5 (And.intro hw11 hw12))
    clear hk0 hk1 hm0 hm1 htk hby hi0 hi1 hw5 hw11 hw12
    have x64 : (2 * (k : Int) + 1) ≤ 2001 := by have := HLT.out; have := HH1.out; omega
    have hS0 : True := trivial
    refine wp_region_till (fun _ => True) 15 (by kernel_rfl) ?_
    refine tP 0 (.slice A m c) rfl (fun W hW => exec_move rfl rfl) hS0 ?_;simp only [zz];refine tP 1 (strV T) rfl (fun W hW => exec_move rfl rfl) hS0 ?_;simp only [zz];refine tP 2 (.int .i64 ((2 * k : Nat) : Int)) rfl (fun W hW => exec_move rfl rfl) hS0 ?_;simp only [zz];refine tP 3 (.int .u8 ((T.getD (2 * k) 0).toNat : Int)) rfl (fun W hW => exec_sidx rfl rfl rfl HK0.out) hS0 ?_;simp only [zz];refine tP 6 (strV T) rfl (fun W hW => exec_move rfl rfl) hS0 ?_;simp only [zz];refine tP 7 (.int .i64 ((2 * k : Nat) : Int)) rfl (fun W hW => exec_move rfl rfl) hS0 ?_;simp only [zz];refine tP 8 (.int .i64 ((2 * k + 1 : Nat) : Int)) rfl (fun W hW => by go_simp; rw [IntKind.wrap_i64]; omega) hS0 ?_;simp only [zz];refine tP 9 (.int .u8 ((T.getD (2 * k + 1) 0).toNat : Int)) rfl (fun W hW => exec_sidx rfl rfl rfl HK1.out) hS0 ?_;simp only [zz]
    refine till_step (i := 4) (by kernel_rfl) rfl rfl ?_
    intro K1 HK1x
    go_wp2_with fail
    refine (HV0.out _).mono ?_
    rintro e w5 ⟨rfl, hw⟩
    obtain rfl : wr.drew = w5 := hw.symm
    refine HK1x.out _ _ ⟨fun _ => hS0, ?_⟩
    clear HK1x
    refine tP 5 (.int .i64 (16 * (i0 : Int))) rfl (fun W hW => by have h := HW.out.1; go_simp) hS0 ?_;simp only [zz]
    refine till_step (i := 10) (by kernel_rfl) rfl rfl ?_
    intro K1 HK1x
    go_wp2_with fail
    refine (HV1.out _).mono ?_
    rintro e w5 ⟨rfl, hw⟩
    obtain rfl : wr.drew = w5 := hw.symm
    refine HK1x.out _ _ ⟨fun _ => hS0, ?_⟩
    clear HK1x
    refine tP 11 (.int .i64 (16 * (i0 : Int) + (i1 : Int))) rfl (fun W hW => by have h := HW.out.2.1; go_simp) hS0 ?_;simp only [zz];refine tP 12 (.int .u8 (z.toNat : Int)) rfl (fun W hW => by have h := HW.out.2.2; go_simp) hS0 ?_;simp only [zz]
    refine till_only (i := 13) (by kernel_rfl) rfl rfl ?_
    refine wp_run (exec_one (z := z) rfl rfl) ?_
    refine ⟨fun _ => hS0, ?_⟩
    simp only [zz]
    refine till_step (i := 14) (by kernel_rfl) rfl rfl ?_
    intro K1 HK1x
    have hone := bs_blk (Blk.new wr.drew 5 (bcs [z]).toArray) (n := 1) rfl (by unfold maxLen; omega)
    have hown1 : Own (wr.drew.alloc (.cells (bcs [z]).toArray 5)) B 5 (.slice A m c) (rpack (T.take (2 * k))) := World.ownsRow.alloc (w := wr.drew) HO.out _
    refine wp_append_bytes _ _ _ _ rfl B 5 byteInfo Tryz.underlying22 _ _ rfl hown1 _ 1 1 [z] rfl hone (fun h => by cases h) (by have h1 := rpack_len (T.take (2 * k)); rw [List.length_take] at h1; have := HT.out; have := HH1.out; omega) (by have := HE.out.size; have := HB.out; simp; omega) ?_
    intro v2 w2 ho2 hb2
    refine HK1x.out _ _ ⟨fun _ => hS0, ?_⟩
    clear HK1x
    simp only [zz]
    obtain ⟨A2, m2, c2, rfl, _⟩ := ho2.form
    have HO2 := zH ho2
    have HB2 := zH hb2
    clear ho2 hb2 hone hown1
    refine till_tail 15 rfl (by kernel_rfl) ?_
    have b0 : (0 : Int) ≤ (k : Int) := by omega
    have b1 : (k : Int) ≤ 1000 := by have := HLT.out; have := HH1.out; omega
    go_wp2_with fail
    refine NoPanic.normal ?_
    go_wp2_with fail
    go_roundg (gk - 1)
    case measure => have := HKL.out; have := HLT.out; omega
    case rel =>
     refine ⟨k + 1, A2, m2, c2, by have := HKL.out; have := HLT.out; omega, by go_num, rfl, ?_, (HE.out.drew.alloc (by have := HE.out.size; have := HB.out; show B ≤ wr.heap.size; omega) _).trans HB2.out⟩
     rw [HTK.out]
     exact HO2.out
   ·have y1 : ¬ (((2 * k : Nat) : Int) < ((2 * h : Nat) : Int)) := by omega
    refine wR (v := .bool false) (w' := wr) rfl (exec_nlss rfl rfl rfl y1) ?_
    simp only [zz]
    have hkn : T.take (2 * k) = T := List.take_of_length_le (by have := HKL.out; have := HT.out; omega)
    have ho := HO.out
    rw [hkn] at ho
    have HOO := zH ho
    have HTW := zH (below_turn (by have := HE.out; rwa [HB.out] at this))
    clear hlt hkn ho y1
    go_wp2_with fail
    go_ret
    refine ⟨A, m, c, rfl, ?_, HTW.out⟩
    rw [← HB.out, ← HTT.out]
    exact HOO.out
theorem two_made (a b : Int) (W : World) : (Instr.buildSlice 22 2 #[(0, .int .u8 a), (1, .int .u8 b)]).run Tryz.prog W = .ok (.slice (some ⟨W.heap.size, 0, none⟩) 2 2) (W.alloc (.cells #[.int .u8 a, .int .u8 b] 5)) := by kernel_rfl
theorem exec_two {a : Act} {o : Oper} {W : World} {x y : Operand} {u v : UInt8} (ho : o.op = .buildSlice 22 2 #[(0, x), (1, y)]) (hx : a.eval x = .int .u8 (u.toNat : Int)) (hy : a.eval y = .int .u8 (v.toNat : Int)) :
 (execOp a.eval o).run Tryz.prog W = .ok (.value (.slice (some ⟨W.heap.size, 0, none⟩) 2 2)) (W.alloc (.cells (bcs [u, v]).toArray 5)) := by
 unfold execOp
 simp only [ho, List.map_toArray, List.map_cons, List.map_nil, hx, hy, two_made, Sem.run_bind, Sem.run_pure, Result.andThen_ok]
 rfl
theorem r2_walk (n : Nat) (w : World) (hn : n ≤ 99) : Calls Tryz.prog 101 #[.int .i64 (n : Int)] w fun e w' => e = .returned (strV (two n)) ∧ Turn nowhere w w' := by
 obtain ⟨u, hu⟩ : ∃ u, u = UInt8.ofNat (48 + n / 10) := ⟨_, rfl⟩
 obtain ⟨v, hv⟩ : ∃ v, v = UInt8.ofNat (48 + n % 10) := ⟨_, rfl⟩
 have hun : (u.toNat : Int) = 48 + ((n / 10 : Nat) : Int) := by rw [hu, UInt8.toNat_ofNat']; omega
 have hvn : (v.toNat : Int) = 48 + ((n % 10 : Nat) : Int) := by rw [hv, UInt8.toNat_ofNat']; omega
 have htw : two n = [u, v] := by rw [hu, hv]; rfl
 rw [htw]
 have hq : (n : Int).tdiv 10 = ((n / 10 : Nat) : Int) := rfl
 have hr : (n : Int).tmod 10 = ((n % 10 : Nat) : Int) := rfl
 have hd1 : n / 10 ≤ 9 := by omega
 have hd2 : n % 10 ≤ 9 := by omega
 have hw1 : IntKind.i64.wrap (48 + ((n / 10 : Nat) : Int)) = (u.toNat : Int) := by rw [IntKind.wrap_i64, hun]; omega
 have hw2 : IntKind.i64.wrap (48 + ((n % 10 : Nat) : Int)) = (v.toNat : Int) := by rw [IntKind.wrap_i64, hvn]; omega
 have hw3 : IntKind.u8.wrap (u.toNat : Int) = (u.toNat : Int) := by rw [wrapu8]; have := u.toNat_lt; omega
 have hw4 : IntKind.u8.wrap (v.toNat : Int) = (v.toNat : Int) := by rw [wrapu8]; have := v.toNat_lt; omega
 have hw5 : IntKind.i64.wrap ((n / 10 : Nat) : Int) = ((n / 10 : Nat) : Int) := by rw [IntKind.wrap_i64]; omega
 have H := zH (And.intro hq (And.intro hr (And.intro hw1 (And.intro hw2 (And.intro hw3 hw4)))))
 have H5 := zH hw5
 clear hu hv hun hvn htw hq hr hd1 hd2 hw1 hw2 hw3 hw4 hw5 hn
 generalize hn10 : ((n / 10 : Nat) : Int) = q at *
 generalize hm10 : ((n % 10 : Nat) : Int) = r at *
 clear hn10 hm10
 go_enter Tryz.func101, Tryz.ntmps101
 go_upto_region 1 with fail
 refine wp_region_lit ?_
 refine wM (.int .i64 (n : Int)) ?_;simp only [zz]
 refine wR (v := .int .i64 q) (w' := w) rfl (by have h := H.out.1; have h5 := H5.out; go_simp) ?_
 simp only [zz]
 refine wR (v := .int .i64 (u.toNat : Int)) (w' := w) rfl (by have h := H.out.2.2.1; go_simp) ?_
 simp only [zz]
 refine wR (v := .int .u8 (u.toNat : Int)) (w' := w) rfl (by have h := H.out.2.2.2.2.1; go_simp) ?_
 simp only [zz];refine wM (.int .i64 (n : Int)) ?_;simp only [zz]
 refine wR (v := .int .i64 r) (w' := w) rfl (by have h := H.out.2.1; go_simp) ?_
 simp only [zz]
 refine wR (v := .int .i64 (v.toNat : Int)) (w' := w) rfl (by have h := H.out.2.2.2.1; go_simp) ?_
 simp only [zz]
 refine wR (v := .int .u8 (v.toNat : Int)) (w' := w) rfl (by have h := H.out.2.2.2.2.2; go_simp) ?_
 simp only [zz];refine wS _ (exec_two (u := u) (v := v) rfl rfl rfl) ?_;simp only [zz]
 have hb := Blk.new w 5 (bcs [u, v]).toArray
 have ht : Turn nowhere w (w.alloc (.cells (bcs [u, v]).toArray 5)) := (Turn.refl nowhere w).alloc _
 generalize w.alloc (.cells (bcs [u, v]).toArray 5) = w1 at *
 have HB := zH (bs_blk hb (n := 2) rfl (by unfold maxLen; omega))
 have HT := zH ht
 clear hb ht
 refine wR (v := strV [u, v]) (w' := w1) rfl (exec_strBs rfl rfl HB.out) ?_
 simp only [zz]
 go_wp2_with fail
 go_ret
 exact ⟨rfl, HT.out⟩
theorem rdig_walk (code : Int) (t : List UInt8) (w : World) (hl : t.length ≤ 1000) (ht : onlyOf t dec = true) :
 Calls Tryz.prog 100 #[.int .i64 code, strV t] w (Made w (rdigits code t)) := by
 have hp := packed_walk t w hl (onlyOf_of fun c hc => dec_hex c (only_in ht c hc))
 have hs := signs_walk code t w hl
 by_cases h : code = 2
 ·have e : rdigits code t = rpack (padded t) := by unfold rdigits; rw [if_pos h]
  rw [e]
  subst h
  have HP := zH hp
  clear hp hs e ht hl
  generalize rpack (padded t) = l at *
  go_enter Tryz.func100, Tryz.ntmps100
  go_wp2_with (go_at_call 103; refine HP.out.mono ?_; rintro e w1 ⟨A, n, c, rfl, ho, ht⟩; have HO := zH ho; have HT := zH ht; clear ho ht)
  go_ret
  exact ⟨A, n, c, rfl, HO.out, HT.out⟩
 ·have e : rdigits code t = rsigns code t := by unfold rdigits; rw [if_neg h]
  rw [e]
  have h2 : (code == 2) = false := by simpa using h
  have HP := zH hs
  clear hp hs e ht hl h
  generalize rsigns code t = l at *
  go_enter Tryz.func100, Tryz.ntmps100
  go_wp2_with (go_at_call 102; refine HP.out.mono ?_; rintro e w1 ⟨A, n, c, rfl, ho, ht⟩; have HO := zH ho; have HT := zH ht; clear ho ht)
  go_ret
  exact ⟨A, n, c, rfl, HO.out, HT.out⟩
theorem Made.of {w w1 w' : World} {l : List UInt8} {e : Ending} (h : Made w1 l e w') (ht : Turn nowhere w w1) : Made w l e w' := by
 obtain ⟨A, n, c, he, ho, h2⟩ := h
 refine ⟨A, n, c, he, ⟨ho.1, ?_⟩, ht.trans h2 fun _ _ e => e⟩
 rcases ho.2 with hn | ⟨g, cap, cur, hv, hg, hr⟩
 ·exact .inl hn
 ·exact .inr ⟨g, cap, cur, hv, Nat.le_trans ht.size hg, hr⟩
theorem own_lower {w : World} {B B' : Nat} {e : TypeId} {v : Value} {l : List UInt8} (h : Own w B e v l) (hb : B' ≤ B) : Own w B' e v l := by
 refine ⟨h.1, ?_⟩
 rcases h.2 with hn | ⟨g, cap, cur, hv, hg, hr⟩
 ·exact .inl hn
 ·exact .inr ⟨g, cap, cur, hv, Nat.le_trans hb hg, hr⟩
theorem bytes1_walk (s : Nat) (code : Int) (t : List UInt8) (w : World) (hl : t.length ≤ 1000) (ht : onlyOf t dec = true) :
 Calls Tryz.prog 78 #[fmV ⟨1, (s : Int), code⟩, strV t] w (Made w (rdigits code t)) := by
 have HC := zH (fun W => rdig_walk code t W hl ht)
 clear hl ht
 unfold fmV
 obtain ⟨b2, hb2⟩ : ∃ b2, b2 = w.heap.size := ⟨_, rfl⟩
 have HB2 := zH hb2
 go_enter Tryz.func78, Tryz.ntmps78
 go_upto_region 1 with fail
 have hb0 := Blk.new w 105 #[.int .i64 1, .int .i64 (s : Int), .int .i64 code]
 have ht0 := (Turn.refl nowhere w).alloc (.cells #[.int .i64 1, .int .i64 (s : Int), .int .i64 code] 105)
 generalize (w.alloc (.cells #[.int .i64 1, .int .i64 (s : Int), .int .i64 code] 105)) = w1 at *
 rw [← hb2] at hb0 ⊢
 have HBK := zH hb0
 have HT0 := zH ht0
 have c0 : w1.cell? ⟨b2, 0, none⟩ = some (.int .i64 1) := hb0.cell 0
 have c2 : w1.cell? ⟨b2, 2, none⟩ = some (.int .i64 code) := hb0.cell 2
 clear hb0 ht0 hb2
 go_wp2_with (go_at_call 100; refine (HC.out _).mono ?_; rintro e w2 hm; obtain ⟨A, n, c, rfl, ho, ht⟩ := hm.of HT0.out; have HO := zH ho; have HT := zH ht; clear ho ht hm)
 go_ret
 exact ⟨A, n, c, rfl, HO.out, HT.out⟩
theorem bytes3_walk (s : Nat) (code : Int) (t : List UInt8) (w : World) (hl : t.length ≤ 1000) :
 Calls Tryz.prog 78 #[fmV ⟨3, (s : Int), code⟩, strV t] w (Made w (rsigns code t)) := by
 have HC := zH (fun W => signs_walk code t W hl)
 clear hl
 unfold fmV
 obtain ⟨b2, hb2⟩ : ∃ b2, b2 = w.heap.size := ⟨_, rfl⟩
 have HB2 := zH hb2
 go_enter Tryz.func78, Tryz.ntmps78
 go_upto_region 1 with fail
 have hb0 := Blk.new w 105 #[.int .i64 3, .int .i64 (s : Int), .int .i64 code]
 have ht0 := (Turn.refl nowhere w).alloc (.cells #[.int .i64 3, .int .i64 (s : Int), .int .i64 code] 105)
 generalize (w.alloc (.cells #[.int .i64 3, .int .i64 (s : Int), .int .i64 code] 105)) = w1 at *
 rw [← hb2] at hb0 ⊢
 have HBK := zH hb0
 have HT0 := zH ht0
 have c0 : w1.cell? ⟨b2, 0, none⟩ = some (.int .i64 3) := hb0.cell 0
 have c2 : w1.cell? ⟨b2, 2, none⟩ = some (.int .i64 code) := hb0.cell 2
 clear hb0 ht0 hb2
 go_wp2_with (go_at_call 102; refine (HC.out _).mono ?_; rintro e w2 hm; obtain ⟨A, n, c, rfl, ho, ht⟩ := hm.of HT0.out; have HO := zH ho; have HT := zH ht; clear ho ht hm)
 go_ret
 exact ⟨A, n, c, rfl, HO.out, HT.out⟩
theorem bytes4p_walk (s : Nat) (code : Int) (t : List UInt8) (w : World) (hl : t.length ≤ 1000) (ht : onlyOf t hexs = true) (hc : code ≠ 1) :
 Calls Tryz.prog 78 #[fmV ⟨4, (s : Int), code⟩, strV t] w (Made w (rpack (padded t))) := by
 have HC := zH (fun W => packed_walk t W hl ht)
 have h1 : (code == 1) = false := by simpa using hc
 have h2 : (code != 1) = true := by simpa using hc
 clear hl ht hc
 unfold fmV
 obtain ⟨b2, hb2⟩ : ∃ b2, b2 = w.heap.size := ⟨_, rfl⟩
 have HB2 := zH hb2
 go_enter Tryz.func78, Tryz.ntmps78
 go_upto_region 1 with fail
 have hb0 := Blk.new w 105 #[.int .i64 4, .int .i64 (s : Int), .int .i64 code]
 have ht0 := (Turn.refl nowhere w).alloc (.cells #[.int .i64 4, .int .i64 (s : Int), .int .i64 code] 105)
 generalize (w.alloc (.cells #[.int .i64 4, .int .i64 (s : Int), .int .i64 code] 105)) = w1 at *
 rw [← hb2] at hb0 ⊢
 have HBK := zH hb0
 have HT0 := zH ht0
 have c0 : w1.cell? ⟨b2, 0, none⟩ = some (.int .i64 4) := hb0.cell 0
 have c2 : w1.cell? ⟨b2, 2, none⟩ = some (.int .i64 code) := hb0.cell 2
 clear hb0 ht0 hb2
 go_wp2_with (go_at_call 103; refine (HC.out _).mono ?_; rintro e w2 hm; obtain ⟨A, n, c, rfl, ho, ht⟩ := hm.of HT0.out; have HO := zH ho; have HT := zH ht; clear ho ht hm)
 go_ret
 exact ⟨A, n, c, rfl, HO.out, HT.out⟩
def FoS (b2 : Nat) (x y z : Int) (W : World) : Prop := Blk W b2 105 #[.int .i64 x, .int .i64 y, .int .i64 z]
theorem FoS.turn {b2 : Nat} {x y z : Int} {W W' : World} (h : FoS b2 x y z W) (ht : Turn nowhere W W') : FoS b2 x y z W' := Blk.turn (F := nowhere) h ht fun e => e
theorem rdigits_len (code : Int) (t : List UInt8) : (rdigits code t).length ≤ t.length + 1 := by
 unfold rdigits
 split
 ·have h1 := rpack_len (padded t)
  have h2 := (padded_two t).2
  unfold padded at h1 ⊢
  split at h1
  ·rename_i h
   rw [if_pos h]
   simpa using h1
  ·rename_i h
   rw [if_neg h]
   omega
 ·unfold rsigns
  split
  ·simp
  ·omega
theorem rsigns_len (code : Int) (t : List UInt8) : (rsigns code t).length = t.length := by
 unfold rsigns
 split
 ·simp
 ·rfl
theorem exec_sto1 {W : World} {a : Act} {o : Oper} {x : Operand} {l : List UInt8} (ho : o.op = .slice 9 x none (some (.const (.int .i64 1))) none) (hx : a.eval x = strV l) (hn : 1 ≤ l.length) : (execOp a.eval o).run Tryz.prog W = .ok (.value (strV (l.take 1))) W :=
 exec_sto (n := 1) ho hx rfl hn
theorem exec_sfrom1 {W : World} {a : Act} {o : Oper} {x : Operand} {l : List UInt8} (ho : o.op = .slice 9 x (some (.const (.int .i64 1))) none none) (hx : a.eval x = strV l) (hn : 1 ≤ l.length) : (execOp a.eval o).run Tryz.prog W = .ok (.value (strV (l.drop 1))) W :=
 exec_sfrom (n := 1) ho hx rfl hn
theorem bytes2_walk (s : Nat) (code : Int) (t : List UInt8) (w : World) (hl : t.length ≤ 99) (ht : onlyOf t dec = true) :
 Calls Tryz.prog 78 #[fmV ⟨2, (s : Int), code⟩, strV t] w (Made w (rdigits code (two t.length) ++ rdigits code t)) := by
 have HC0 := zH (fun W => r2_walk t.length W hl)
 have HC1 := zH (fun W => rdig_walk code (two t.length) W (by rw [two_len]; omega) (two_ok hl).2)
 have HC2 := zH (fun W => rdig_walk code t W (by omega) ht)
 have h1 := rdigits_len code (two t.length)
 have h2 := rdigits_len code t
 rw [two_len] at h1
 have HLS := zH (show (rdigits code (two t.length)).length + (rdigits code t).length ≤ 1000 by omega)
 clear hl ht h1 h2
 generalize rdigits code (two t.length) = l1 at *
 generalize rdigits code t = l2 at *
 unfold fmV
 obtain ⟨b2, hb2⟩ : ∃ b2, b2 = w.heap.size := ⟨_, rfl⟩
 have HB2 := zH hb2
 go_enter Tryz.func78, Tryz.ntmps78
 go_upto_region 1 with fail
 have hb0 := Blk.new w 105 #[.int .i64 2, .int .i64 (s : Int), .int .i64 code]
 have ht0 := (Turn.refl nowhere w).alloc (.cells #[.int .i64 2, .int .i64 (s : Int), .int .i64 code] 105)
 generalize (w.alloc (.cells #[.int .i64 2, .int .i64 (s : Int), .int .i64 code] 105)) = w1 at *
 rw [← hb2] at hb0 ⊢
 have HBK := zH hb0
 have HT0 := zH ht0
 have c0 : w1.cell? ⟨b2, 0, none⟩ = some (.int .i64 2) := hb0.cell 0
 have c2 : w1.cell? ⟨b2, 2, none⟩ = some (.int .i64 code) := hb0.cell 2
 clear hb0 ht0 hb2
 go_upto_region 5 with fail
 have hS0 : FoS b2 2 (s : Int) code w1.drew := HBK.out
 refine wp_region_till (FoS b2 2 (s : Int) code) 11 (by kernel_rfl) ?_
 refine tP 0 (.pointer (some ⟨b2, 2, none⟩)) rfl (fun W hW => xF 0 2) hS0 ?_;simp only [zz];refine tU 1 (.int .i64 code) rfl (fun W hW => xL (hW.cell 2)) hS0 ?_;simp only [zz];refine tP 2 (strV t) rfl (fun W hW => exec_move rfl rfl) hS0 ?_;simp only [zz];refine tP 3 (.int .i64 (t.length : Int)) rfl (fun W hW => exec_slen rfl rfl) hS0 ?_;simp only [zz];refine tP 6 (.pointer (some ⟨b2, 2, none⟩)) rfl (fun W hW => xF 0 2) hS0 ?_;simp only [zz];refine tU 7 (.int .i64 code) rfl (fun W hW => xL (hW.cell 2)) hS0 ?_;simp only [zz];refine tP 8 (strV t) rfl (fun W hW => exec_move rfl rfl) hS0 ?_;simp only [zz]
 refine till_step (i := 4) (by kernel_rfl) rfl rfl ?_
 intro K1 HK1
 go_wp2_with fail
 refine (HC0.out w1.drew).mono ?_
 rintro e w2 ⟨rfl, ht2⟩
 have hS2 : FoS b2 2 (s : Int) code w2 := hS0.turn ht2
 refine HK1.out _ _ ⟨fun _ => hS2, ?_⟩
 clear HK1
 refine till_step (i := 5) (by kernel_rfl) rfl rfl ?_
 intro K1 HK1
 go_wp2_with fail
 refine (HC1.out w2).mono ?_
 rintro e w3 ⟨A1, n1, c1, rfl, ho1, ht3⟩
 have hS3 : FoS b2 2 (s : Int) code w3 := hS2.turn ht3
 refine HK1.out _ _ ⟨fun _ => hS3, ?_⟩
 clear HK1
 refine till_step (i := 9) (by kernel_rfl) rfl rfl ?_
 intro K1 HK1
 go_wp2_with fail
 refine (HC2.out w3).mono ?_
 rintro e w4 ⟨A2, n2, c2, rfl, ho2, ht4⟩
 have hS4 : FoS b2 2 (s : Int) code w4 := hS3.turn ht4
 refine HK1.out _ _ ⟨fun _ => hS4, ?_⟩
 clear HK1
 refine till_step (i := 10) (by kernel_rfl) rfl rfl ?_
 intro K1 HK1
 have ho1' : Own w4 w1.heap.size 5 (.slice A1 n1 c1) l1 := own_lower (Own.below ho1 (ht4.below (Nat.le_refl _) (fun _ _ e=>e)) (Nat.le_refl _)) ht2.size
 obtain ⟨hb2, hn2, hz2⟩ := own_bs ho2
 have hle : w1.heap.size ≤ w4.heap.size := Nat.le_trans ht2.size (Nat.le_trans ht3.size ht4.size)
 refine wp_append_bytes w4 _ _ _ rfl w1.heap.size 5 byteInfo Tryz.underlying22 _ _ rfl ho1' _ n2 c2 l2 rfl hb2 hz2 (by have := hb2.1; have := HLS.out; omega) hle ?_
 intro v5 w5 ho5 hb5
 have hbl : b2 < w1.heap.size := Blk.lt (w := w1) HBK.out
 have hS5 : FoS b2 2 (s : Int) code w5 := (hb5.block b2 hbl).trans hS4
 refine HK1.out _ _ ⟨fun _ => hS5, ?_⟩
 clear HK1
 simp only [zz]
 obtain ⟨A5, n5, c5, rfl, _⟩ := ho5.form
 have HO5 := zH (own_lower ho5 HT0.out.size)
 have HT5 := zH (turn_below (((HT0.out.drew.trans ht2 fun _ _ e => e).trans ht3 fun _ _ e => e).trans ht4 fun _ _ e => e) (hb5.mono HT0.out.size))
 clear hS0 hS2 hS3 hS4 hS5 ho1 ho2 ho1' ho5 hb5 hb2 hn2 hz2 hle ht2 ht3 ht4 hbl
 refine till_tail 11 rfl (by kernel_rfl) ?_
 go_wp2_with fail
 refine NoPanic.normal ?_
 go_wp2_with fail
 go_ret
 exact ⟨A5, n5, c5, rfl, HO5.out, HT5.out⟩
theorem bytes5_walk (s : Nat) (code : Int) (t : List UInt8) (w : World) (hl : t.length ≤ 99) (h1 : 1 ≤ t.length) (ht : onlyOf (t.drop 1) dec = true) :
 Calls Tryz.prog 78 #[fmV ⟨5, (s : Int), code⟩, strV t] w (Made w (rsigns code (t.take 1) ++ rdigits code (t.drop 1))) := by
 have HT1 := zH h1
 obtain ⟨m, hm⟩ : ∃ m, m = t.take 1 := ⟨_, rfl⟩
 obtain ⟨d, hd⟩ : ∃ d, d = t.drop 1 := ⟨_, rfl⟩
 have hml : m.length ≤ 1 := by rw [hm, List.length_take]; omega
 have hdl : d.length ≤ 99 := by rw [hd, List.length_drop]; omega
 rw [← hm, ← hd]
 rw [← hd] at ht
 have HM := zH hm
 have HD := zH hd
 have HC1 := zH (fun W => signs_walk code m W (by omega))
 have HC2 := zH (fun W => rdig_walk code d W (by omega) ht)
 have h2 := rdigits_len code d
 have h3 := rsigns_len code m
 have HLS := zH (show (rsigns code m).length + (rdigits code d).length ≤ 1000 by omega)
 clear hl ht h1 h2 h3 hm hd hml hdl
 generalize rsigns code m = l1 at *
 generalize rdigits code d = l2 at *
 unfold fmV
 obtain ⟨b2, hb2⟩ : ∃ b2, b2 = w.heap.size := ⟨_, rfl⟩
 have HB2 := zH hb2
 go_enter Tryz.func78, Tryz.ntmps78
 go_upto_region 1 with fail
 have hb0 := Blk.new w 105 #[.int .i64 5, .int .i64 (s : Int), .int .i64 code]
 have ht0 := (Turn.refl nowhere w).alloc (.cells #[.int .i64 5, .int .i64 (s : Int), .int .i64 code] 105)
 generalize (w.alloc (.cells #[.int .i64 5, .int .i64 (s : Int), .int .i64 code] 105)) = w1 at *
 rw [← hb2] at hb0 ⊢
 have HBK := zH hb0
 have HT0 := zH ht0
 have c0 : w1.cell? ⟨b2, 0, none⟩ = some (.int .i64 5) := hb0.cell 0
 have c2 : w1.cell? ⟨b2, 2, none⟩ = some (.int .i64 code) := hb0.cell 2
 clear hb0 ht0 hb2
 go_upto_region 7 with fail
 have hS0 : FoS b2 5 (s : Int) code w1.drew := HBK.out
 refine wp_region_till (FoS b2 5 (s : Int) code) 11 (by kernel_rfl) ?_
 refine tP 0 (.pointer (some ⟨b2, 2, none⟩)) rfl (fun W hW => xF 0 2) hS0 ?_;simp only [zz];refine tU 1 (.int .i64 code) rfl (fun W hW => xL (hW.cell 2)) hS0 ?_;simp only [zz];refine tP 2 (strV t) rfl (fun W hW => exec_move rfl rfl) hS0 ?_;simp only [zz];refine tP 3 (strV m) rfl (fun W hW => by rw [HM.out]; exact exec_sto1 rfl rfl HT1.out) hS0 ?_;simp only [zz];refine tP 5 (.pointer (some ⟨b2, 2, none⟩)) rfl (fun W hW => xF 0 2) hS0 ?_;simp only [zz];refine tU 6 (.int .i64 code) rfl (fun W hW => xL (hW.cell 2)) hS0 ?_;simp only [zz];refine tP 7 (strV t) rfl (fun W hW => exec_move rfl rfl) hS0 ?_;simp only [zz];refine tP 8 (strV d) rfl (fun W hW => by rw [HD.out]; exact exec_sfrom1 rfl rfl HT1.out) hS0 ?_;simp only [zz]
 have ht2 : Turn nowhere w1.drew w1.drew := Turn.refl _ _
 have hS2 : FoS b2 5 (s : Int) code w1.drew := hS0
 refine till_step (i := 4) (by kernel_rfl) rfl rfl ?_
 intro K1 HK1
 go_wp2_with fail
 refine (HC1.out w1.drew).mono ?_
 rintro e w3 ⟨A1, n1, c1, rfl, ho1, ht3⟩
 have hS3 : FoS b2 5 (s : Int) code w3 := hS2.turn ht3
 refine HK1.out _ _ ⟨fun _ => hS3, ?_⟩
 clear HK1
 refine till_step (i := 9) (by kernel_rfl) rfl rfl ?_
 intro K1 HK1
 go_wp2_with fail
 refine (HC2.out w3).mono ?_
 rintro e w4 ⟨A2, n2, c2, rfl, ho2, ht4⟩
 have hS4 : FoS b2 5 (s : Int) code w4 := hS3.turn ht4
 refine HK1.out _ _ ⟨fun _ => hS4, ?_⟩
 clear HK1
 refine till_step (i := 10) (by kernel_rfl) rfl rfl ?_
 intro K1 HK1
 have ho1' : Own w4 w1.heap.size 5 (.slice A1 n1 c1) l1 := own_lower (Own.below ho1 (ht4.below (Nat.le_refl _) (fun _ _ e=>e)) (Nat.le_refl _)) ht2.size
 obtain ⟨hb2, hn2, hz2⟩ := own_bs ho2
 have hle : w1.heap.size ≤ w4.heap.size := Nat.le_trans ht2.size (Nat.le_trans ht3.size ht4.size)
 refine wp_append_bytes w4 _ _ _ rfl w1.heap.size 5 byteInfo Tryz.underlying22 _ _ rfl ho1' _ n2 c2 l2 rfl hb2 hz2 (by have := hb2.1; have := HLS.out; omega) hle ?_
 intro v5 w5 ho5 hb5
 have hbl : b2 < w1.heap.size := Blk.lt (w := w1) HBK.out
 have hS5 : FoS b2 5 (s : Int) code w5 := (hb5.block b2 hbl).trans hS4
 refine HK1.out _ _ ⟨fun _ => hS5, ?_⟩
 clear HK1
 simp only [zz]
 obtain ⟨A5, n5, c5, rfl, _⟩ := ho5.form
 have HO5 := zH (own_lower ho5 HT0.out.size)
 have HT5 := zH (turn_below (((HT0.out.drew.trans ht2 fun _ _ e => e).trans ht3 fun _ _ e => e).trans ht4 fun _ _ e => e) (hb5.mono HT0.out.size))
 clear hS0 hS2 hS3 hS4 hS5 ho1 ho2 ho1' ho5 hb5 hb2 hn2 hz2 hle ht2 ht3 ht4 hbl
 refine till_tail 11 rfl (by kernel_rfl) ?_
 go_wp2_with fail
 refine NoPanic.normal ?_
 go_wp2_with fail
 go_ret
 exact ⟨A5, n5, c5, rfl, HO5.out, HT5.out⟩
theorem upc_nat (b : UInt8) : ((upc b).toNat : Int) = if 97 ≤ b.toNat then (b.toNat : Int) - 32 else (b.toNat : Int) := by
 have h := byte_of (P := fun b => (upc b).toNat = if 97 ≤ b.toNat then b.toNat - 32 else b.toNat) (by decide +kernel) b
 rw [h]
 split <;> omega
theorem bytes4a_walk (s : Nat) (t : List UInt8) (w : World) (hl : t.length ≤ 1000) :
 Calls Tryz.prog 78 #[fmV ⟨4, (s : Int), 1⟩, strV t] w (Made w (t.map upc)) := by
 have HL := zH hl
 clear hl
 obtain ⟨n, hn⟩ : ∃ n, n = t.length := ⟨_, rfl⟩
 have HN := zH hn
 clear hn
 unfold fmV
 obtain ⟨b2, hb2⟩ : ∃ b2, b2 = w.heap.size := ⟨_, rfl⟩
 have HB2 := zH hb2
 go_enter Tryz.func78, Tryz.ntmps78
 go_upto_region 1 with fail
 have hb0 := Blk.new w 105 #[.int .i64 4, .int .i64 (s : Int), .int .i64 1]
 have ht0 := (Turn.refl nowhere w).alloc (.cells #[.int .i64 4, .int .i64 (s : Int), .int .i64 1] 105)
 generalize (w.alloc (.cells #[.int .i64 4, .int .i64 (s : Int), .int .i64 1] 105)) = w1 at *
 rw [← hb2] at hb0 ⊢
 have HBK := zH hb0
 have HT0 := zH ht0
 have c0 : w1.cell? ⟨b2, 0, none⟩ = some (.int .i64 4) := hb0.cell 0
 have c2 : w1.cell? ⟨b2, 2, none⟩ = some (.int .i64 1) := hb0.cell 2
 clear hb0 ht0 hb2
 go_upto_region 12 with fail
 have hown0 := Own.empty w1 w1.heap.size 5 (Nat.le_refl _)
 have hbel0 : Below w1.heap.size w1 (w1.alloc (.cells #[] 5)) := (Below.refl _ w1).alloc (Nat.le_refl _) _
 obtain ⟨B, hB⟩ : ∃ B, B = w1.heap.size := ⟨_, rfl⟩
 rw [← hB] at hown0 hbel0
 have HB := zH hB
 clear hB
 refine wp_region_lit ?_
 refine wS _ (exec_make0 rfl) ?_;simp only [zz];refine wA (.slice (some ⟨w1.heap.size, 0, none⟩) 0 0) ?_;simp only [zz]
 rw [← HB.out]
 generalize (w1.alloc (.cells #[] 5)) = w2 at *
 have HO0 := zH hown0
 have HB0 := zH hbel0
 clear hown0 hbel0 c0 c2
 go_wp2_with fail
 go_loopg [5, 6] n (fun gk b i wr => ∃ (k : Nat) (A : Option Addr) (m c : Nat), k + gk = n ∧ i = .int .i64 (k : Int) ∧ b = .slice A m c ∧ Own wr B 5 (.slice A m c) ((t.take k).map upc) ∧ Below B w1 wr)
 case atStart => exact ⟨0, some ⟨B, 0, none⟩, 0, 0, by omega, rfl, rfl, HO0.out, HB0.out⟩
 case round =>
  obtain ⟨k, A, m, c, hkl, rfl, rfl, hown, hbel⟩ := hrel
  have HKL := zH hkl
  have HO := zH hown
  have HE := zH hbel
  clear hkl hown hbel
  go_upto_region 14 with fail
  refine wp_region_lit ?_
  refine wM (.int .i64 (k : Int)) ?_;simp only [zz];refine wM (strV t) ?_;simp only [zz]
  refine wR (v := .int .i64 (n : Int)) (w' := wr) rfl (by rw [HN.out]; exact exec_slen rfl rfl) ?_
  simp only [zz]
  by_cases hlt : k < n
  ·refine wR (v := .bool true) (w' := wr) rfl (exec_lss rfl rfl rfl (by omega)) ?_
   simp only [zz]
   have HLT := zH hlt
   have HKT := zH (show k < t.length by rw [← HN.out]; exact hlt)
   clear hlt
   have htk : (t.take (k + 1)).map upc = (t.take k).map upc ++ [upc (t.getD k 0)] := by rw [take_one HKT.out, List.map_append]; rfl
   have hz := upc_nat (t.getD k 0)
   have HTK := zH htk
   clear htk
   go_upto_region 16 with fail
   refine wp_region_lit ?_
   refine wM (strV t) ?_;simp only [zz];refine wM (.int .i64 (k : Int)) ?_;simp only [zz]
   refine wR (v := .int .u8 ((t.getD k 0).toNat : Int)) (w' := wr) rfl (exec_sidx rfl rfl rfl HKT.out) ?_
   simp only [zz]
   generalize upc (t.getD k 0) = z at *
   generalize t.getD k 0 = y at *
   have hyb := y.toNat_lt
   by_cases h97 : 97 ≤ y.toNat
   all_goals
    first
     | (rw [if_pos h97] at hz; have v1 : (97 : Int) ≤ (y.toNat : Int) := (by omega); have v2 : IntKind.u8.wrap ((y.toNat : Int) - 97) = (y.toNat : Int) - 97 := (by rw [wrapu8]; omega); have v3 : IntKind.u8.wrap ((y.toNat : Int) - 97 + 65) = (z.toNat : Int) := (by rw [wrapu8]; omega))
     | (rw [if_neg h97] at hz; have v1 : ¬ ((97 : Int) ≤ (y.toNat : Int)) := (by omega); have v2 : True := trivial; have v3 : True := trivial; obtain rfl : z = y := UInt8.toNat_inj.1 (by omega))
    clear hz h97
    go_upto_region 19 with fail
    clear v1 v2 v3
    refine wp_region_lit ?_
    refine wM (.slice A m c) ?_;simp only [zz];refine wM (.int .u8 (z.toNat : Int)) ?_;simp only [zz];refine wS _ (exec_one (z := z) rfl rfl) ?_;simp only [zz]
    have hone := bs_blk (Blk.new wr 5 (bcs [z]).toArray) (n := 1) rfl (by unfold maxLen; omega)
    have hown1 : Own (wr.alloc (.cells (bcs [z]).toArray 5)) B 5 (.slice A m c) ((t.take k).map upc) := HO.out.alloc _
    refine wpList_append_bytes _ rfl _ _ _ rfl B 5 byteInfo Tryz.underlying22 _ _ rfl hown1 _ 1 1 [z] rfl hone (fun h => by cases h) (by rw [List.length_map, List.length_take]; have := HN.out; have := HL.out; omega) (by have := HE.out.size; have := HB.out; simp; omega) ?_
    intro v2 w3 ho2 hb2
    simp only [zz]
    obtain ⟨A2, m2, c2, rfl, _⟩ := ho2.form
    have HO2 := zH ho2
    have HB2 := zH hb2
    clear ho2 hb2 hone hown1 hyb
    have b0 : (0 : Int) ≤ (k : Int) := by omega
    have b1 : (k : Int) ≤ 1000 := by have := HLT.out; have := HN.out; have := HL.out; omega
    go_wp2_with fail
    go_roundg (gk - 1)
    case measure => have := HKL.out; have := HLT.out; omega
    case rel =>
     refine ⟨k + 1, A2, m2, c2, by have := HKL.out; have := HLT.out; omega, by go_num, rfl, ?_, (HE.out.alloc (by have := HE.out.size; have := HB.out; omega) _).trans HB2.out⟩
     rw [HTK.out]
     exact HO2.out
  ·refine wR (v := .bool false) (w' := wr) rfl (exec_nlss rfl rfl rfl (by omega)) ?_
   simp only [zz]
   have hkn : t.take k = t := List.take_of_length_le (by have := HKL.out; have := HN.out; omega)
   have ho := HO.out
   rw [hkn] at ho
   have HOO := zH ho
   have HTW := zH (turn_below HT0.out (HE.out.mono (by rw [HB.out]; exact HT0.out.size)))
   clear hlt hkn ho
   go_wp2_with fail
   go_ret
   exact ⟨A, m, c, rfl, own_lower HOO.out (by rw [HB.out]; exact HT0.out.size), HTW.out⟩
theorem bytes_walk {k s c : Nat} {t : List UInt8} (w : World) (hk : 1 ≤ k ∧ k ≤ 5) (hc : 1 ≤ c ∧ c ≤ 3) (hs : 1 ≤ s ∧ s ≤ 64) (hr : (nf k s c).right t = true) :
 Calls Tryz.prog 78 #[fmV (nf k s c), strV t] w (Made w ((nf k s c).put t)) := by
 rw [← rbytes_put hk hc hs hr]
 have hkk : k = 1 ∨ k = 2 ∨ k = 3 ∨ k = 4 ∨ k = 5 := by omega
 rcases hkk with rfl | rfl | rfl | rfl | rfl
 ·rw [right_nl (by decide)] at hr
  obtain ⟨h1, h2⟩ := right_one (p := ⟨s, dec, _⟩) hr
  have h2' : t.length = s := h2
  exact bytes1_walk s (c : Int) t w (by omega) h1
 ·obtain ⟨hl, hr2⟩ := ll_right hr
  obtain ⟨h1, h2⟩ := right_one (p := ⟨t.length, dec, _⟩) hr2
  exact bytes2_walk s (c : Int) t w (by omega) h1
 ·rw [right_nl (by decide)] at hr
  obtain ⟨h1, h2⟩ := right_one (p := ⟨s, sgn, _⟩) hr
  have h2' : t.length = s := h2
  exact bytes3_walk s (c : Int) t w (by omega)
 ·rw [right_nl (by decide)] at hr
  obtain ⟨h1, h2⟩ := right_one (p := ⟨2 * s, hexs, _⟩) hr
  have h2' : t.length = 2 * s := h2
  by_cases h : c = 1
  ·subst h
   exact bytes4a_walk s t w (by omega)
  ·have e : rbytes (nf 4 s c) t = rpack (padded t) := by
    show (if (c : Int) ≠ 1 then rpack (padded t) else t.map upc) = _
    rw [if_pos (by omega)]
   rw [e]
   exact bytes4p_walk s (c : Int) t w (by omega) h1 (by omega)
 ·rw [right_nl (by decide)] at hr
  obtain ⟨h1, h2, h3⟩ := right_two (p := ⟨1, mk, _⟩) (q := ⟨s, dec, _⟩) hr
  obtain ⟨h4, h5⟩ := right_one h3
  have h1' : 1 ≤ t.length := h1
  have h5' : (t.drop 1).length = s := h5
  rw [List.length_drop] at h5'
  exact bytes5_walk s (c : Int) t w (by omega) h1' h4
theorem rput_walk {w : World} {f : Fm} {n cap : Nat} {A : Option Addr} {b t : List UInt8} (hb : Bs w A n b) (hz : A = none → cap = 0) (hn : n ≤ 140737488351232) (hl : t.length ≤ 9223372036854775807) :
 Calls Tryz.prog 56 #[.slice A n cap, fmV f, strV t] w (PutPost w f t b) := by
 have HCK := zH (fun W => rcheck_walk (f := f) W hl)
 have HB := zH hb
 have HZ := zH hz
 have HN := zH hn
 have hby : f.check t = 0 → (∀ W, Calls Tryz.prog 78 #[fmV f, strV t] W (Made W (f.put t))) ∧ (f.put t).length ≤ 1000 := by
  intro h
  have hs := put_small h
  obtain ⟨hm, hrt⟩ := check_cases h
  obtain ⟨k, s, c, rfl, h1, h2, h3⟩ := fm_exp hm
  exact ⟨fun W => bytes_walk W h1 h2 h3 hrt, hs⟩
 have HBY := zH hby
 have hR : putR f t b = if f.check t = 0 then b ++ f.put t else [] := rfl
 have HR := zH hR
 clear hb hz hn hl hby hR
 obtain ⟨ke, hke⟩ : ∃ ke, ke = f.check t := ⟨_, rfl⟩
 have hpp : PutPost w f t b = fun e w' => ∃ A n c, e = .returned (.tuple #[.slice A n c, .int .i64 ke]) ∧ Own w' w.heap.size 5 (.slice A n c) (putR f t b) ∧ Turn nowhere w w' := by
  rw [hke]
  rfl
 rw [hpp]
 rw [← hke] at HCK HBY HR
 clear hpp hke
 generalize putR f t b = R at *
 generalize f.put t = pv at *
 obtain ⟨x0, x1, x2⟩ := f
 have hfv : fmV ⟨x0, x1, x2⟩ = .agg #[.int .i64 x0, .int .i64 x1, .int .i64 x2] := rfl
 rw [hfv] at HCK HBY ⊢
 clear hfv
 obtain ⟨b4, hb4⟩ : ∃ b4, b4 = w.heap.size := ⟨_, rfl⟩
 have HB4 := zH hb4
 go_enter Tryz.func56, Tryz.ntmps56
 go_upto_region 1 with fail
 have hb0 := Blk.new w 105 #[.int .i64 x0, .int .i64 x1, .int .i64 x2]
 have ht0 := (Turn.refl nowhere w).alloc (.cells #[.int .i64 x0, .int .i64 x1, .int .i64 x2] 105)
 generalize (w.alloc (.cells #[.int .i64 x0, .int .i64 x1, .int .i64 x2] 105)) = w1 at *
 rw [← hb4] at hb0 ⊢
 have HBK := zH hb0
 have HT0 := zH ht0
 clear hb0 ht0 hb4
 refine wp_region_lit ?_
 refine wR (v := .agg #[.int .i64 x0, .int .i64 x1, .int .i64 x2]) (w' := w1) rfl (exec_load rfl rfl (load_blkForm HBK.out)) ?_
 simp only [zz]
 go_wp2_with fail
 refine (HCK.out w1).mono ?_
 rintro e w2 ⟨rfl, ht2⟩
 have HT2 := zH (HT0.out.trans ht2 fun _ _ e => e)
 have HBK := zH (HBK.out.turn ht2 fun e => e)
 clear ht2
 by_cases h0 : ke = 0
 ·subst h0
  have hr := HR.out
  rw [if_pos rfl] at hr
  subst hr
  obtain ⟨hbw, hpl⟩ := HBY.out rfl
  have HBW := zH hbw
  have HPL := zH hpl
  clear hbw hpl HR HBY
  go_upto_region 4 with fail
  refine wp_region_lit ?_
  refine wS _ (exec_make0 rfl) ?_;simp only [zz];refine wM (.slice A n cap) ?_;simp only [zz]
  have hown0 := Own.empty w2 w2.heap.size 5 (Nat.le_refl _)
  have hb1 : Bs (w2.alloc (.cells #[] 5)) A n b := bs_turn HB.out (HT2.out.alloc _)
  have hb2t : Below w2.heap.size w2 (w2.alloc (.cells #[] 5)) := (Below.refl _ w2).alloc (Nat.le_refl _) _
  have hle3 : w2.heap.size ≤ (w2.alloc (.cells #[] 5)).heap.size := by simp
  generalize (w2.alloc (.cells #[] 5)) = w3 at *
  refine wpList_append_bytes w3 rfl _ _ _ rfl w2.heap.size 5 byteInfo Tryz.underlying22 _ [] rfl hown0 A n cap b rfl hb1 HZ.out (by have := HN.out; simp; omega) hle3 ?_
  intro v4 w4 ho4 hb4
  rw [List.nil_append] at ho4
  obtain ⟨A4, n4, c4, rfl, hbs4, _⟩ := ho4.form
  simp only [zz]
  have HO4 := zH ho4
  have hbel := hb2t.trans hb4
  have HT4 := zH (turn_below HT2.out (hbel.mono HT2.out.size))
  have HBK4 := zH (HBK.out.turn (Turn.of_below hbel (Nat.le_refl _)) fun e => e)
  have HL4 := zH (show b.length ≤ 140737488351232 by have := HB.out.1; have := HN.out; omega)
  have HLE4 := zH hbel.size
  clear ho4 hb4 hown0 hb1 hb2t hle3 hbs4 hbel
  go_upto_region 5 with fail
  refine wp_region_lit ?_
  refine wM (.slice A4 n4 c4) ?_;simp only [zz]
  refine wR (v := .agg #[.int .i64 x0, .int .i64 x1, .int .i64 x2]) (w' := w4) rfl (exec_load rfl rfl (load_blkForm HBK4.out)) ?_
  simp only [zz];refine wM (strV t) ?_;simp only [zz]
  refine wpList_call rfl ?_
  intro K1 HK1
  go_wp2_with fail
  refine (HBW.out w4).mono ?_
  rintro e w5 ⟨A5, n5, c5, rfl, ho5, ht5⟩
  refine HK1.out _ _ ?_
  clear HK1
  try simp only [zz]
  obtain ⟨hbs5, hn5, hz5⟩ := own_bs ho5
  have ho4' : Own w5 w2.heap.size 5 (.slice A4 n4 c4) b := Own.below HO4.out (ht5.below (Nat.le_refl _) (fun _ _ e=>e)) (Nat.le_refl _)
  refine wpList_append_bytes w5 rfl _ _ _ rfl w2.heap.size 5 byteInfo Tryz.underlying22 _ b rfl ho4' A5 n5 c5 pv rfl hbs5 hz5 (by have := HL4.out; have := HPL.out; have := hbs5.1; omega) (Nat.le_trans HLE4.out ht5.size) ?_
  intro v6 w6 ho6 hb6
  obtain ⟨A6, n6, c6, rfl, _⟩ := ho6.form
  simp only [zz]
  have HO6 := zH (own_lower ho6 HT2.out.size)
  have HT6 := zH (turn_below (HT4.out.trans ht5 fun _ _ e => e) (hb6.mono HT2.out.size))
  clear ho6 hb6 hbs5 hn5 hz5 ho4' ho5 ht5
  go_wp2_with fail
  exact bodyPost_ret (v := .tuple #[.slice A6 n6 c6, .int .i64 0]) (by simp [results, Tryz.results56, go_sem]) rfl ⟨A6, n6, c6, rfl, HO6.out, HT6.out⟩
 ·have hr := HR.out
  rw [if_neg h0] at hr
  subst hr
  have y0 : (ke == 0) = false := by simpa using h0
  have y1 : (ke != 0) = true := by simpa using h0
  clear h0
  go_wp2_with fail
  exact bodyPost_ret (v := .tuple #[.slice none 0 0, .int .i64 ke]) (by simp [results, Tryz.results56, go_sem]) rfl ⟨none, 0, 0, rfl, World.ownsRow_nil _ _ _ _, HT2.out⟩
theorem b8_or {a : Act} {o : Oper} {W : World} {x y : Operand} {t u : TypeId} {b : UInt8} {m : Nat} (ho : o.op = .binOp .or t x y u) (hx : a.eval x = .int .u8 (b.toNat : Int)) (hy : a.eval y = .int .u8 (m : Int)) (hm : m < 256) : (execOp a.eval o).run Tryz.prog W = .ok (.value (.int .u8 ((b ||| UInt8.ofNat m).toNat : Int))) W := by
 have e : ((b ||| UInt8.ofNat m).toNat : Int) = ((b.toNat ||| m : Nat) : Int) := by
  rw [UInt8.toNat_or, UInt8.toNat_ofNat', Nat.mod_eq_of_lt (by omega)]
 rw [e]
 unfold execOp
 simp only [ho, hx, hy]
 go_simp
 rw [u8_or_nat b.toNat m (UInt8.toNat_lt _) (by omega)]
theorem b8_shr {a : Act} {o : Oper} {W : World} {y : Operand} {u : TypeId} {k : Nat} (ho : o.op = .binOp .shr 5 (.const (.int .u8 128)) y u) (hy : a.eval y = .int .i64 (k : Int)) (hk : k < 8) : (execOp a.eval o).run Tryz.prog W = .ok (.value (.int .u8 ((128 / 2 ^ k : Nat) : Int))) W := by
 unfold execOp
 simp only [ho, hy]
 have hc : k = 0 ∨ k = 1 ∨ k = 2 ∨ k = 3 ∨ k = 4 ∨ k = 5 ∨ k = 6 ∨ k = 7 := by omega
 rcases hc with rfl | rfl | rfl | rfl | rfl | rfl | rfl | rfl <;> go_simp
theorem b8_quo {a : Act} {o : Oper} {W : World} {x : Operand} {n : Nat} (ho : o.op = .binOp .quo 5 x (.const (.int .u8 16)) 5) (hx : a.eval x = .int .u8 (n : Int)) (hn : n < 256) : (execOp a.eval o).run Tryz.prog W = .ok (.value (.int .u8 ((n / 16 : Nat) : Int))) W := by
 have hw : IntKind.u8.wrap ((n : Int) / 16) = (n : Int) / 16 := by rw [wrapu8]; omega
 unfold execOp
 simp only [ho, hx]
 go_simp
 all_goals (first | rfl | exact hw | (rw [hw]; rfl) | simp [hw])
theorem b8_rem {a : Act} {o : Oper} {W : World} {x : Operand} {n : Nat} (ho : o.op = .binOp .rem 5 x (.const (.int .u8 16)) 5) (hx : a.eval x = .int .u8 (n : Int)) : (execOp a.eval o).run Tryz.prog W = .ok (.value (.int .u8 ((n % 16 : Nat) : Int))) W := by
 unfold execOp
 simp only [ho, hx]
 go_simp
 exact Int.tmod_eq_emod_of_nonneg (by omega)
theorem blk_byte {W : World} {g : Nat} {t : TypeId} {l : List UInt8} (h : Blk W g t (bcs l).toArray) {i : Nat} (hi : i < l.length) : W.cell? ⟨g, i, none⟩ = some (.int .u8 ((l.getD i 0).toNat : Int)) := by
 rw [h.cell]
 simpa using bcs_at l i hi
theorem mbcs_set (l : List UInt8) (i : Nat) (x : UInt8) : (bcs l).toArray.setIfInBounds i (.int .u8 (x.toNat : Int)) = (bcs (l.set i x)).toArray := by
 rw [List.setIfInBounds_toArray]
 unfold bcs
 rw [List.map_set]
theorem bcs_size (l : List UInt8) : (bcs l).toArray.size = l.length := by rw [List.size_toArray, bcs_length]
theorem mk16 (W : World) : (Instr.makeSlice 22 (.int .i64 16) (.int .i64 16)).run Tryz.prog W = .ok (.slice (some ⟨W.heap.size, 0, none⟩) 16 16) (W.alloc (.cells (bcs (List.replicate 16 0)).toArray 5)) := by kernel_rfl
theorem size_byte1 : (Tryz.prog.info? 5).map (·.size) = some 1 := by kernel_rfl
theorem wp_store1 {P : Program} {o : Oper} {a : Act} {w : World} {K : Act → World → Prop} {Q : Exit → Act → World → Prop} (ty : TypeId) (x y : Operand) (ho : o.op = .store ty x y) {g i : Nat} {t : TypeId} {old : Array Value} {v : Value} (hb : Blk w g t old)
 (hx : a.eval x = .pointer (some ⟨g, i, none⟩)) (hy : a.eval y = v) (hi : i < old.size) (hv : v.cells = #[v]) (h1 : v.oneCell' = true) (hsz : (P.info? ty).map (·.size) = some 1)
 (h : Blk (w.setCell ⟨g, i, none⟩ v) g t (old.setIfInBounds i v) → Turn (only g) w (w.setCell ⟨g, i, none⟩ v) → K (a.put o.dst undef) (w.setCell ⟨g, i, none⟩ v)) : o.wp P a w K Q := by
 obtain ⟨j, hj, hjs⟩ := Option.map_eq_some_iff.1 hsz
 have hc : w.cell? ⟨g, i, none⟩ = some (old[i]) := by rw [hb.cell i, Array.getElem?_eq_getElem hi]
 have hf : w.frozen? ⟨g, i, none⟩ = false := hb.frozen i
 have hst : (Instr.storeAt ty (.pointer (some ⟨g, i, none⟩)) v).run P w = .ok () (w.setCell ⟨g, i, none⟩ v) := by
  have h0 : (⟨g, i, none⟩ : Addr).add 0 = ⟨g, i, none⟩ := by simp [Addr.add]
  simp [Instr.storeAt, storeVar, hv, Instr.sureAddr, sizeOf, typeInfo, hj, hjs, Result.andThen, storeCells, run_store _ _ _ _ _ h1, stored, h0, hc, hf]
 unfold Oper.wp execOp
 simp only [ho, hx, hy, hst, Sem.run_bind, Sem.run_pure, Result.andThen_ok]
 exact h (hb.set_ i v) ((Turn.refl _ w).at_ i v)
theorem type_small {ty : Int} (h : mtypes.contains ty = true) : ∃ t : Nat, ty = (t : Int) ∧ t ≤ 999 := by
 have hall : ∀ t ∈ mtypes, 0 ≤ t ∧ t ≤ 999 := by decide
 have := hall ty (by simpa using h)
 exact ⟨ty.toNat, by omega, by omega⟩
theorem amt_len {fs : List Fld} (h : Fdd.Good fs) {f : Fld} (hf : f ∈ fs) (h4 : f.1 = 4) : f.2.length = 12 := by
 obtain ⟨m, hm, hc⟩ := h.2 f hf
 obtain ⟨k, s, rfl, hk, hs, _, _, _, hx⟩ := form_nf hm
 have hu1 : unsaid 1 f.1 = [] := by unfold unsaid; rw [if_neg (fun h => by omega)]
 obtain ⟨e1, e2⟩ := hx h4
 subst e1
 rw [hu1] at e2
 have h5 := (Fdd.right_n.1 ((check_zero hk (by decide) hs).1 hc)).1
 simp only [List.length_nil] at e2
 omega
theorem body_take_le (d : Nat) (fs : List Fld) (j : Nat) : (body d (fs.take j)).length ≤ (body d fs).length := by
 have e : body d fs = body d (fs.take j) ++ body d (fs.drop j) := by
  have : ∀ a b : List Fld, body d (a ++ b) = body d a ++ body d b := fun a b => by
   unfold body
   induction a with
   | nil => simp
   | cons x l ih => simp [ih]
  rw [← this, List.take_append_drop]
 rw [e, List.length_append]
 omega
end Go.Proofs.YtkagijifkpoplaaGreatDoor
