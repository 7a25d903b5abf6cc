/-
  The reference's bytes: digits in pairs, digits, a right text's bytes, Put. No conditions.
-/
import Derived.Test.YtgdlidjjogoiaaaGreatDoorFdPa
namespace Go.Proofs.YtgdlidjjogoiaaaGreatDoor
open Go.RowKit
open Fdd
set_option linter.unusedVariables false
set_option linter.unusedSimpArgs false
theorem rpack_take : ∀ (k : Nat) (T : List UInt8), 2 * k + 1 < T.length → rpack (T.take (2 * (k + 1))) = rpack (T.take (2 * k)) ++ [UInt8.ofNat (16 * vOf (T.getD (2 * k) 0) + vOf (T.getD (2 * k + 1) 0))]
  | 0, a :: b :: r, _ => rfl
  | 0, [], h => by simp at h
  | 0, [_], h => by simp at h
  | k + 1, a :: b :: r, h => by
    have ih := rpack_take k r (by simp at h; omega)
    rw [show 2 * (k + 1 + 1) = 2 * (k + 1) + 1 + 1 from by omega, show 2 * (k + 1) = 2 * k + 1 + 1 from by omega]
    simp only [List.take_succ_cons, List.getD_cons_succ]
    rw [show 2 * k + 1 + 1 = 2 * (k + 1) from by omega]
    show UInt8.ofNat _ :: rpack (r.take (2 * (k + 1))) = UInt8.ofNat _ :: rpack (r.take (2 * k)) ++ _
    rw [ih]
    rfl
  | k + 1, [], h => by simp at h
  | k + 1, [_], h => by simp at h
theorem rpack_len : ∀ T : List UInt8, (rpack T).length ≤ T.length
  | [] => Nat.le_refl _
  | [_] => Nat.zero_le _
  | a :: b :: r => by
    have := rpack_len r
    simp only [rpack, List.length_cons]
    omega
set_option maxRecDepth 20000 in
set_option maxHeartbeats 2000000 in
theorem packed_walk (t : List UInt8) (w : World) (hl : t.length ≤ 1000) (ht : onlyOf t hexs = true) :
    Calls Tryz.prog 38 #[strV t] w (Made w (rpack (padded t))) := by
  have hpl := padded_two t
  have HM := Lib.hid (fun x (hx : x ∈ padded t) => padded_in (ch := hexs) (by decide) (only_in ht) x hx)
  have HL := Lib.hid hl
  clear ht
  obtain ⟨B, hB⟩ : ∃ B, B = w.heap.size := ⟨_, rfl⟩
  have HB := Lib.hid hB
  clear hB
  go_enter Tryz.func38, Tryz.ntmps38
  go_upto_region 1 with fail
  refine wp_region_lit ?_
  refine wpList_run (v := strV t) rfl (exec_move rfl rfl) ?_
  simp only [Act.put, List.setIfInBounds_toArray, List.set_cons_zero, List.set_cons_succ]
  refine wpList_run (v := .int .i64 (t.length : Int)) (w' := w) rfl (exec_slen rfl rfl) ?_
  simp only [Act.put, List.setIfInBounds_toArray, List.set_cons_zero, List.set_cons_succ]
  have hpd : padded t = if t.length % 2 = 1 then 48 :: t else t := rfl
  by_cases hodd : t.length % 2 = 1
  · rw [if_pos hodd] at hpd
    refine wpList_run (v := .int .i64 1) (w' := w) rfl (by go_simp; exact tmod_one hodd) ?_
    simp only [Act.put, List.setIfInBounds_toArray, List.set_cons_zero, List.set_cons_succ]
    have HPD := Lib.hid hpd
    have HPL := Lib.hid hpl
    clear hpd hpl hodd hl
    go_upto_region 2 with fail
    refine wp_region_lit ?_
    refine wpList_run (v := strV t) rfl (exec_move rfl rfl) ?_
    simp only [Act.put, List.setIfInBounds_toArray, List.set_cons_zero, List.set_cons_succ]
    refine wpList_run (v := strV (padded t)) (w' := w) rfl (by rw [HPD.out]; exact exec_sadd (l := [48]) rfl rfl rfl (by have := HL.out; simp; omega)) ?_
    simp only [Act.put, List.setIfInBounds_toArray, List.set_cons_zero, List.set_cons_succ]
    obtain ⟨T, hTT⟩ : ∃ T, T = padded t := ⟨_, rfl⟩
    rw [← hTT] at HPL HM HPD
    rw [← hTT]
    have HTT := Lib.hid hTT
    clear hTT
    obtain ⟨h, hh⟩ : ∃ h, h = (t.length + 1) / 2 := ⟨_, rfl⟩
    have hT : T.length = 2 * h := by have h1 := HPL.out.1; have h2 := HPL.out.2; omega
    have hh1 : h ≤ 1000 := by have := HL.out; omega
    have HT := Lib.hid hT
    have HH1 := Lib.hid hh1
    clear hT hh1 hh HPL HPD
    go_upto_region 3 with fail
    refine wp_region_lit ?_
    refine wpList_run (v := _) rfl (exec_make0 rfl) ?_
    simp only [Act.put, List.setIfInBounds_toArray, List.set_cons_zero, List.set_cons_succ]
    refine wpList_run (v := .slice (some ⟨w.heap.size, 0, none⟩) 0 0) rfl (gx_assign rfl rfl) ?_
    simp only [Act.put, List.setIfInBounds_toArray, List.set_cons_zero, List.set_cons_succ]
    have hown0 := Own.empty w B 5 (Nat.le_of_eq HB.out)
    have hbel0 : Below B w (w.alloc (.cells #[] 5)) := (Below.refl _ w).alloc (Nat.le_of_eq HB.out) _
    generalize (w.alloc (.cells #[] 5)) = w1 at *
    generalize (some (⟨w.heap.size, 0, none⟩ : Addr)) = A0 at *
    have HO0 := Lib.hid hown0
    have HB0 := Lib.hid hbel0
    clear hown0 hbel0
    go_wp2_with fail
    go_loopg [3, 4] h (fun gk b i wr => ∃ (k : Nat) (A : Option Addr) (m c : Nat), k + gk = h ∧ i = .int .i64 ((2 * k : Nat) : Int) ∧ b = .slice A m c ∧ Own wr B 5 (.slice A m c) (rpack (T.take (2 * k))) ∧ Below B w wr)
    case atStart => exact ⟨0, A0, 0, 0, by omega, rfl, rfl, HO0.out, HB0.out⟩
    case round =>
      obtain ⟨k, A, m, c, hkl, rfl, rfl, hown, hbel⟩ := hrel
      have HKL := Lib.hid hkl
      have HO := Lib.hid hown
      have HE := Lib.hid hbel
      clear hkl hown hbel
      go_upto_region 5 with fail
      refine wp_region_lit ?_
      refine wpList_run (v := .int .i64 ((2 * k : Nat) : Int)) rfl (exec_move rfl rfl) ?_
      simp only [Act.put, List.setIfInBounds_toArray, List.set_cons_zero, List.set_cons_succ]
      refine wpList_run (v := strV T) rfl (exec_move rfl rfl) ?_
      simp only [Act.put, List.setIfInBounds_toArray, List.set_cons_zero, List.set_cons_succ]
      refine wpList_run (v := .int .i64 ((2 * h : Nat) : Int)) (w' := wr) rfl (by rw [← HT.out]; exact exec_slen rfl rfl) ?_
      simp only [Act.put, List.setIfInBounds_toArray, List.set_cons_zero, List.set_cons_succ]
      by_cases hlt : k < h
      · have y1 : ((2 * k : Nat) : Int) < ((2 * h : Nat) : Int) := by omega
        refine wpList_run (v := .bool true) (w' := wr) rfl (exec_lss rfl rfl rfl y1) ?_
        simp only [Act.put, List.setIfInBounds_toArray, List.set_cons_zero, List.set_cons_succ]
        have HLT := Lib.hid hlt
        clear hlt y1
        go_upto_region 7 with fail
        have hk0 : 2 * k < T.length := by rw [HT.out]; have := HLT.out; omega
        have hk1 : 2 * k + 1 < T.length := by rw [HT.out]; have := HLT.out; omega
        have hm0 : hexs.contains (T.getD (2 * k) 0) = true := by
          rw [List.getD_eq_getElem?_getD, List.getElem?_eq_getElem hk0, List.contains_iff_mem]
          exact HM.out _ (List.getElem_mem _)
        have hm1 : hexs.contains (T.getD (2 * k + 1) 0) = true := by
          rw [List.getD_eq_getElem?_getD, List.getElem?_eq_getElem hk1, List.contains_iff_mem]
          exact HM.out _ (List.getElem_mem _)
        have hi0 := vOf_lt _ hm0
        have hi1 := vOf_lt _ hm1
        have HV0 := Lib.hid (fun W => valueH_walk _ hm0 W)
        have HV1 := Lib.hid (fun W => valueH_walk _ hm1 W)
        have htk := rpack_take k T hk1
        have HK0 := Lib.hid hk0
        have HK1 := Lib.hid hk1
        generalize vOf (T.getD (2 * k) 0) = i0 at *
        generalize vOf (T.getD (2 * k + 1) 0) = i1 at *
        have hby : ((UInt8.ofNat (16 * i0 + i1)).toNat : Int) = ((16 * i0 + i1 : Nat) : Int) := by rw [UInt8.toNat_ofNat']; omega
        generalize UInt8.ofNat (16 * i0 + i1) = z at *
        have HTK := Lib.hid htk
        have HBY := Lib.hid hby
        have HI := Lib.hid (And.intro hi0 hi1)
        have hw5 : IntKind.i64.wrap (16 * (i0 : Int)) = 16 * (i0 : Int) := by rw [IntKind.wrap_i64]; omega
        have hw11 : IntKind.i64.wrap (16 * (i0 : Int) + (i1 : Int)) = 16 * (i0 : Int) + (i1 : Int) := by rw [IntKind.wrap_i64]; omega
        have hw12 : IntKind.u8.wrap (16 * (i0 : Int) + (i1 : Int)) = (z.toNat : Int) := by rw [wrapu8, hby]; omega
        have HW := Lib.hid (And.intro hw5 (And.intro hw11 hw12))
        clear hk0 hk1 hm0 hm1 htk hby hi0 hi1 hw5 hw11 hw12
        have x64 : (2 * (k : Int) + 1) ≤ 2001 := by have := HLT.out; have := HH1.out; omega
        have hS0 : True := trivial
        refine wp_region_till (fun _ => True) 15 (by kernel_rfl) ?_
        refine till_pure (i := 0) (v := .slice A m c) rfl (by kernel_rfl) (by kernel_rfl) (fun _ _ _ h => h) (.inl ⟨by rfl, fun W hW => exec_move rfl rfl⟩) hS0 ?_
        simp only [Act.put, List.setIfInBounds_toArray, List.set_cons_zero, List.set_cons_succ]
        refine till_pure (i := 1) (v := strV T) rfl (by kernel_rfl) (by kernel_rfl) (fun _ _ _ h => h) (.inl ⟨by rfl, fun W hW => exec_move rfl rfl⟩) hS0 ?_
        simp only [Act.put, List.setIfInBounds_toArray, List.set_cons_zero, List.set_cons_succ]
        refine till_pure (i := 2) (v := .int .i64 ((2 * k : Nat) : Int)) rfl (by kernel_rfl) (by kernel_rfl) (fun _ _ _ h => h) (.inl ⟨by rfl, fun W hW => exec_move rfl rfl⟩) hS0 ?_
        simp only [Act.put, List.setIfInBounds_toArray, List.set_cons_zero, List.set_cons_succ]
        refine till_pure (i := 3) (v := .int .u8 ((T.getD (2 * k) 0).toNat : Int)) rfl (by kernel_rfl) (by kernel_rfl) (fun _ _ _ h => h) (.inl ⟨by rfl, fun W hW => exec_sidx rfl rfl rfl HK0.out⟩) hS0 ?_
        simp only [Act.put, List.setIfInBounds_toArray, List.set_cons_zero, List.set_cons_succ]
        refine till_pure (i := 6) (v := strV T) rfl (by kernel_rfl) (by kernel_rfl) (fun _ _ _ h => h) (.inl ⟨by rfl, fun W hW => exec_move rfl rfl⟩) hS0 ?_
        simp only [Act.put, List.setIfInBounds_toArray, List.set_cons_zero, List.set_cons_succ]
        refine till_pure (i := 7) (v := .int .i64 ((2 * k : Nat) : Int)) rfl (by kernel_rfl) (by kernel_rfl) (fun _ _ _ h => h) (.inl ⟨by rfl, fun W hW => exec_move rfl rfl⟩) hS0 ?_
        simp only [Act.put, List.setIfInBounds_toArray, List.set_cons_zero, List.set_cons_succ]
        refine till_pure (i := 8) (v := .int .i64 ((2 * k + 1 : Nat) : Int)) rfl (by kernel_rfl) (by kernel_rfl) (fun _ _ _ h => h) (.inl ⟨by rfl, fun W hW => by go_simp; rw [IntKind.wrap_i64]; omega⟩) hS0 ?_
        simp only [Act.put, List.setIfInBounds_toArray, List.set_cons_zero, List.set_cons_succ]
        refine till_pure (i := 9) (v := .int .u8 ((T.getD (2 * k + 1) 0).toNat : Int)) rfl (by kernel_rfl) (by kernel_rfl) (fun _ _ _ h => h) (.inl ⟨by rfl, fun W hW => exec_sidx rfl rfl rfl HK1.out⟩) hS0 ?_
        simp only [Act.put, List.setIfInBounds_toArray, List.set_cons_zero, List.set_cons_succ]
        refine till_step (i := 4) (by kernel_rfl) rfl rfl ?_
        intro K1 HK1x
        go_wp2_with fail
        refine (HV0.out _).mono ?_
        rintro e w5 ⟨rfl, hw⟩
        obtain rfl : wr.drew = w5 := hw.symm
        refine HK1x.out _ _ ⟨fun _ => hS0, ?_⟩
        clear HK1x
        refine till_pure (i := 5) (v := .int .i64 (16 * (i0 : Int))) rfl (by kernel_rfl) (by kernel_rfl) (fun _ _ _ h => h) (.inl ⟨by rfl, fun W hW => by have h := HW.out.1; go_simp⟩) hS0 ?_
        simp only [Act.put, List.setIfInBounds_toArray, List.set_cons_zero, List.set_cons_succ]
        refine till_step (i := 10) (by kernel_rfl) rfl rfl ?_
        intro K1 HK1x
        go_wp2_with fail
        refine (HV1.out _).mono ?_
        rintro e w5 ⟨rfl, hw⟩
        obtain rfl : wr.drew = w5 := hw.symm
        refine HK1x.out _ _ ⟨fun _ => hS0, ?_⟩
        clear HK1x
        refine till_pure (i := 11) (v := .int .i64 (16 * (i0 : Int) + (i1 : Int))) rfl (by kernel_rfl) (by kernel_rfl) (fun _ _ _ h => h) (.inl ⟨by rfl, fun W hW => by have h := HW.out.2.1; go_simp⟩) hS0 ?_
        simp only [Act.put, List.setIfInBounds_toArray, List.set_cons_zero, List.set_cons_succ]
        refine till_pure (i := 12) (v := .int .u8 (z.toNat : Int)) rfl (by kernel_rfl) (by kernel_rfl) (fun _ _ _ h => h) (.inl ⟨by rfl, fun W hW => by have h := HW.out.2.2; go_simp⟩) hS0 ?_
        simp only [Act.put, List.setIfInBounds_toArray, List.set_cons_zero, List.set_cons_succ]
        refine till_only (i := 13) (by kernel_rfl) rfl rfl ?_
        refine wp_run (exec_one (z := z) rfl rfl) ?_
        refine ⟨fun _ => hS0, ?_⟩
        simp only [Act.put, List.setIfInBounds_toArray, List.set_cons_zero, List.set_cons_succ]
        refine till_step (i := 14) (by kernel_rfl) rfl rfl ?_
        intro K1 HK1x
        have hone := bs_blk (Blk.new wr.drew 5 (bcs [z]).toArray) (n := 1) rfl (by unfold maxLen; omega)
        have hown1 : Own (wr.drew.alloc (.cells (bcs [z]).toArray 5)) B 5 (.slice A m c) (rpack (T.take (2 * k))) := World.ownsRow.alloc (w := wr.drew) HO.out _
        refine wp_append_bytes _ _ _ _ rfl B 5 byteInfo Tryz.underlying22 _ _ rfl hown1 _ 1 1 [z] rfl hone (fun h => by cases h) (by have h1 := rpack_len (T.take (2 * k)); rw [List.length_take] at h1; have := HT.out; have := HH1.out; omega) (by have := HE.out.size; have := HB.out; simp; omega) ?_
        intro v2 w2 ho2 hb2
        refine HK1x.out _ _ ⟨fun _ => hS0, ?_⟩
        clear HK1x
        simp only [Act.put, List.setIfInBounds_toArray, List.set_cons_zero, List.set_cons_succ]
        obtain ⟨A2, m2, c2, rfl, _⟩ := ho2.form
        have HO2 := Lib.hid ho2
        have HB2 := Lib.hid hb2
        clear ho2 hb2 hone hown1
        refine till_tail 15 rfl (by kernel_rfl) ?_
        have b0 : (0 : Int) ≤ (k : Int) := by omega
        have b1 : (k : Int) ≤ 1000 := by have := HLT.out; have := HH1.out; omega
        go_wp2_with fail
        refine NoPanic.normal ?_
        go_wp2_with fail
        go_roundg (gk - 1)
        case measure => have := HKL.out; have := HLT.out; omega
        case rel =>
          refine ⟨k + 1, A2, m2, c2, by have := HKL.out; have := HLT.out; omega, by go_num, rfl, ?_, (HE.out.drew.alloc (by have := HE.out.size; have := HB.out; show B ≤ wr.heap.size; omega) _).trans HB2.out⟩
          rw [HTK.out]
          exact HO2.out
      · have y1 : ¬ (((2 * k : Nat) : Int) < ((2 * h : Nat) : Int)) := by omega
        refine wpList_run (v := .bool false) (w' := wr) rfl (exec_nlss rfl rfl rfl y1) ?_
        simp only [Act.put, List.setIfInBounds_toArray, List.set_cons_zero, List.set_cons_succ]
        have hkn : T.take (2 * k) = T := List.take_of_length_le (by have := HKL.out; have := HT.out; omega)
        have ho := HO.out
        rw [hkn] at ho
        have HOO := Lib.hid ho
        have HTW := Lib.hid (below_turn (by have := HE.out; rwa [HB.out] at this))
        clear hlt hkn ho y1
        go_wp2_with fail
        go_ret
        refine ⟨A, m, c, rfl, ?_, HTW.out⟩
        rw [← HB.out, ← HTT.out]
        exact HOO.out
  · rw [if_neg hodd] at hpd
    refine wpList_run (v := .int .i64 0) (w' := w) rfl (by go_simp; exact tmod_nil hodd) ?_
    simp only [Act.put, List.setIfInBounds_toArray, List.set_cons_zero, List.set_cons_succ]
    have HPD := Lib.hid hpd
    have HPL := Lib.hid hpl
    clear hpd hpl hodd hl
    obtain ⟨T, hTT⟩ : ∃ T, T = padded t := ⟨_, rfl⟩
    rw [← hTT] at HPL HM HPD
    have hTt : T = t := HPD.out
    have HTT := Lib.hid hTT
    clear hTT
    obtain ⟨h, hh⟩ : ∃ h, h = (t.length + 1) / 2 := ⟨_, rfl⟩
    have hT : T.length = 2 * h := by have h1 := HPL.out.1; have h2 := HPL.out.2; omega
    have hh1 : h ≤ 1000 := by have := HL.out; omega
    have HT := Lib.hid hT
    have HH1 := Lib.hid hh1
    clear hT hh1 hh HPL HPD
    rw [← hTt]
    have HTx := Lib.hid hTt
    clear hTt
    go_upto_region 3 with fail
    refine wp_region_lit ?_
    refine wpList_run (v := _) rfl (exec_make0 rfl) ?_
    simp only [Act.put, List.setIfInBounds_toArray, List.set_cons_zero, List.set_cons_succ]
    refine wpList_run (v := .slice (some ⟨w.heap.size, 0, none⟩) 0 0) rfl (gx_assign rfl rfl) ?_
    simp only [Act.put, List.setIfInBounds_toArray, List.set_cons_zero, List.set_cons_succ]
    have hown0 := Own.empty w B 5 (Nat.le_of_eq HB.out)
    have hbel0 : Below B w (w.alloc (.cells #[] 5)) := (Below.refl _ w).alloc (Nat.le_of_eq HB.out) _
    generalize (w.alloc (.cells #[] 5)) = w1 at *
    generalize (some (⟨w.heap.size, 0, none⟩ : Addr)) = A0 at *
    have HO0 := Lib.hid hown0
    have HB0 := Lib.hid hbel0
    clear hown0 hbel0
    go_wp2_with fail
    go_loopg [3, 4] h (fun gk b i wr => ∃ (k : Nat) (A : Option Addr) (m c : Nat), k + gk = h ∧ i = .int .i64 ((2 * k : Nat) : Int) ∧ b = .slice A m c ∧ Own wr B 5 (.slice A m c) (rpack (T.take (2 * k))) ∧ Below B w wr)
    case atStart => exact ⟨0, A0, 0, 0, by omega, rfl, rfl, HO0.out, HB0.out⟩
    case round =>
      obtain ⟨k, A, m, c, hkl, rfl, rfl, hown, hbel⟩ := hrel
      have HKL := Lib.hid hkl
      have HO := Lib.hid hown
      have HE := Lib.hid hbel
      clear hkl hown hbel
      go_upto_region 5 with fail
      refine wp_region_lit ?_
      refine wpList_run (v := .int .i64 ((2 * k : Nat) : Int)) rfl (exec_move rfl rfl) ?_
      simp only [Act.put, List.setIfInBounds_toArray, List.set_cons_zero, List.set_cons_succ]
      refine wpList_run (v := strV T) rfl (exec_move rfl rfl) ?_
      simp only [Act.put, List.setIfInBounds_toArray, List.set_cons_zero, List.set_cons_succ]
      refine wpList_run (v := .int .i64 ((2 * h : Nat) : Int)) (w' := wr) rfl (by rw [← HT.out]; exact exec_slen rfl rfl) ?_
      simp only [Act.put, List.setIfInBounds_toArray, List.set_cons_zero, List.set_cons_succ]
      by_cases hlt : k < h
      · have y1 : ((2 * k : Nat) : Int) < ((2 * h : Nat) : Int) := by omega
        refine wpList_run (v := .bool true) (w' := wr) rfl (exec_lss rfl rfl rfl y1) ?_
        simp only [Act.put, List.setIfInBounds_toArray, List.set_cons_zero, List.set_cons_succ]
        have HLT := Lib.hid hlt
        clear hlt y1
        go_upto_region 7 with fail
        have hk0 : 2 * k < T.length := by rw [HT.out]; have := HLT.out; omega
        have hk1 : 2 * k + 1 < T.length := by rw [HT.out]; have := HLT.out; omega
        have hm0 : hexs.contains (T.getD (2 * k) 0) = true := by
          rw [List.getD_eq_getElem?_getD, List.getElem?_eq_getElem hk0, List.contains_iff_mem]
          exact HM.out _ (List.getElem_mem _)
        have hm1 : hexs.contains (T.getD (2 * k + 1) 0) = true := by
          rw [List.getD_eq_getElem?_getD, List.getElem?_eq_getElem hk1, List.contains_iff_mem]
          exact HM.out _ (List.getElem_mem _)
        have hi0 := vOf_lt _ hm0
        have hi1 := vOf_lt _ hm1
        have HV0 := Lib.hid (fun W => valueH_walk _ hm0 W)
        have HV1 := Lib.hid (fun W => valueH_walk _ hm1 W)
        have htk := rpack_take k T hk1
        have HK0 := Lib.hid hk0
        have HK1 := Lib.hid hk1
        generalize vOf (T.getD (2 * k) 0) = i0 at *
        generalize vOf (T.getD (2 * k + 1) 0) = i1 at *
        have hby : ((UInt8.ofNat (16 * i0 + i1)).toNat : Int) = ((16 * i0 + i1 : Nat) : Int) := by rw [UInt8.toNat_ofNat']; omega
        generalize UInt8.ofNat (16 * i0 + i1) = z at *
        have HTK := Lib.hid htk
        have HBY := Lib.hid hby
        have HI := Lib.hid (And.intro hi0 hi1)
        have hw5 : IntKind.i64.wrap (16 * (i0 : Int)) = 16 * (i0 : Int) := by rw [IntKind.wrap_i64]; omega
        have hw11 : IntKind.i64.wrap (16 * (i0 : Int) + (i1 : Int)) = 16 * (i0 : Int) + (i1 : Int) := by rw [IntKind.wrap_i64]; omega
        have hw12 : IntKind.u8.wrap (16 * (i0 : Int) + (i1 : Int)) = (z.toNat : Int) := by rw [wrapu8, hby]; omega
        have HW := Lib.hid (And.intro hw5 (And.intro hw11 hw12))
        clear hk0 hk1 hm0 hm1 htk hby hi0 hi1 hw5 hw11 hw12
        have x64 : (2 * (k : Int) + 1) ≤ 2001 := by have := HLT.out; have := HH1.out; omega
        have hS0 : True := trivial
        refine wp_region_till (fun _ => True) 15 (by kernel_rfl) ?_
        refine till_pure (i := 0) (v := .slice A m c) rfl (by kernel_rfl) (by kernel_rfl) (fun _ _ _ h => h) (.inl ⟨by rfl, fun W hW => exec_move rfl rfl⟩) hS0 ?_
        simp only [Act.put, List.setIfInBounds_toArray, List.set_cons_zero, List.set_cons_succ]
        refine till_pure (i := 1) (v := strV T) rfl (by kernel_rfl) (by kernel_rfl) (fun _ _ _ h => h) (.inl ⟨by rfl, fun W hW => exec_move rfl rfl⟩) hS0 ?_
        simp only [Act.put, List.setIfInBounds_toArray, List.set_cons_zero, List.set_cons_succ]
        refine till_pure (i := 2) (v := .int .i64 ((2 * k : Nat) : Int)) rfl (by kernel_rfl) (by kernel_rfl) (fun _ _ _ h => h) (.inl ⟨by rfl, fun W hW => exec_move rfl rfl⟩) hS0 ?_
        simp only [Act.put, List.setIfInBounds_toArray, List.set_cons_zero, List.set_cons_succ]
        refine till_pure (i := 3) (v := .int .u8 ((T.getD (2 * k) 0).toNat : Int)) rfl (by kernel_rfl) (by kernel_rfl) (fun _ _ _ h => h) (.inl ⟨by rfl, fun W hW => exec_sidx rfl rfl rfl HK0.out⟩) hS0 ?_
        simp only [Act.put, List.setIfInBounds_toArray, List.set_cons_zero, List.set_cons_succ]
        refine till_pure (i := 6) (v := strV T) rfl (by kernel_rfl) (by kernel_rfl) (fun _ _ _ h => h) (.inl ⟨by rfl, fun W hW => exec_move rfl rfl⟩) hS0 ?_
        simp only [Act.put, List.setIfInBounds_toArray, List.set_cons_zero, List.set_cons_succ]
        refine till_pure (i := 7) (v := .int .i64 ((2 * k : Nat) : Int)) rfl (by kernel_rfl) (by kernel_rfl) (fun _ _ _ h => h) (.inl ⟨by rfl, fun W hW => exec_move rfl rfl⟩) hS0 ?_
        simp only [Act.put, List.setIfInBounds_toArray, List.set_cons_zero, List.set_cons_succ]
        refine till_pure (i := 8) (v := .int .i64 ((2 * k + 1 : Nat) : Int)) rfl (by kernel_rfl) (by kernel_rfl) (fun _ _ _ h => h) (.inl ⟨by rfl, fun W hW => by go_simp; rw [IntKind.wrap_i64]; omega⟩) hS0 ?_
        simp only [Act.put, List.setIfInBounds_toArray, List.set_cons_zero, List.set_cons_succ]
        refine till_pure (i := 9) (v := .int .u8 ((T.getD (2 * k + 1) 0).toNat : Int)) rfl (by kernel_rfl) (by kernel_rfl) (fun _ _ _ h => h) (.inl ⟨by rfl, fun W hW => exec_sidx rfl rfl rfl HK1.out⟩) hS0 ?_
        simp only [Act.put, List.setIfInBounds_toArray, List.set_cons_zero, List.set_cons_succ]
        refine till_step (i := 4) (by kernel_rfl) rfl rfl ?_
        intro K1 HK1x
        go_wp2_with fail
        refine (HV0.out _).mono ?_
        rintro e w5 ⟨rfl, hw⟩
        obtain rfl : wr.drew = w5 := hw.symm
        refine HK1x.out _ _ ⟨fun _ => hS0, ?_⟩
        clear HK1x
        refine till_pure (i := 5) (v := .int .i64 (16 * (i0 : Int))) rfl (by kernel_rfl) (by kernel_rfl) (fun _ _ _ h => h) (.inl ⟨by rfl, fun W hW => by have h := HW.out.1; go_simp⟩) hS0 ?_
        simp only [Act.put, List.setIfInBounds_toArray, List.set_cons_zero, List.set_cons_succ]
        refine till_step (i := 10) (by kernel_rfl) rfl rfl ?_
        intro K1 HK1x
        go_wp2_with fail
        refine (HV1.out _).mono ?_
        rintro e w5 ⟨rfl, hw⟩
        obtain rfl : wr.drew = w5 := hw.symm
        refine HK1x.out _ _ ⟨fun _ => hS0, ?_⟩
        clear HK1x
        refine till_pure (i := 11) (v := .int .i64 (16 * (i0 : Int) + (i1 : Int))) rfl (by kernel_rfl) (by kernel_rfl) (fun _ _ _ h => h) (.inl ⟨by rfl, fun W hW => by have h := HW.out.2.1; go_simp⟩) hS0 ?_
        simp only [Act.put, List.setIfInBounds_toArray, List.set_cons_zero, List.set_cons_succ]
        refine till_pure (i := 12) (v := .int .u8 (z.toNat : Int)) rfl (by kernel_rfl) (by kernel_rfl) (fun _ _ _ h => h) (.inl ⟨by rfl, fun W hW => by have h := HW.out.2.2; go_simp⟩) hS0 ?_
        simp only [Act.put, List.setIfInBounds_toArray, List.set_cons_zero, List.set_cons_succ]
        refine till_only (i := 13) (by kernel_rfl) rfl rfl ?_
        refine wp_run (exec_one (z := z) rfl rfl) ?_
        refine ⟨fun _ => hS0, ?_⟩
        simp only [Act.put, List.setIfInBounds_toArray, List.set_cons_zero, List.set_cons_succ]
        refine till_step (i := 14) (by kernel_rfl) rfl rfl ?_
        intro K1 HK1x
        have hone := bs_blk (Blk.new wr.drew 5 (bcs [z]).toArray) (n := 1) rfl (by unfold maxLen; omega)
        have hown1 : Own (wr.drew.alloc (.cells (bcs [z]).toArray 5)) B 5 (.slice A m c) (rpack (T.take (2 * k))) := World.ownsRow.alloc (w := wr.drew) HO.out _
        refine wp_append_bytes _ _ _ _ rfl B 5 byteInfo Tryz.underlying22 _ _ rfl hown1 _ 1 1 [z] rfl hone (fun h => by cases h) (by have h1 := rpack_len (T.take (2 * k)); rw [List.length_take] at h1; have := HT.out; have := HH1.out; omega) (by have := HE.out.size; have := HB.out; simp; omega) ?_
        intro v2 w2 ho2 hb2
        refine HK1x.out _ _ ⟨fun _ => hS0, ?_⟩
        clear HK1x
        simp only [Act.put, List.setIfInBounds_toArray, List.set_cons_zero, List.set_cons_succ]
        obtain ⟨A2, m2, c2, rfl, _⟩ := ho2.form
        have HO2 := Lib.hid ho2
        have HB2 := Lib.hid hb2
        clear ho2 hb2 hone hown1
        refine till_tail 15 rfl (by kernel_rfl) ?_
        have b0 : (0 : Int) ≤ (k : Int) := by omega
        have b1 : (k : Int) ≤ 1000 := by have := HLT.out; have := HH1.out; omega
        go_wp2_with fail
        refine NoPanic.normal ?_
        go_wp2_with fail
        go_roundg (gk - 1)
        case measure => have := HKL.out; have := HLT.out; omega
        case rel =>
          refine ⟨k + 1, A2, m2, c2, by have := HKL.out; have := HLT.out; omega, by go_num, rfl, ?_, (HE.out.drew.alloc (by have := HE.out.size; have := HB.out; show B ≤ wr.heap.size; omega) _).trans HB2.out⟩
          rw [HTK.out]
          exact HO2.out
      · have y1 : ¬ (((2 * k : Nat) : Int) < ((2 * h : Nat) : Int)) := by omega
        refine wpList_run (v := .bool false) (w' := wr) rfl (exec_nlss rfl rfl rfl y1) ?_
        simp only [Act.put, List.setIfInBounds_toArray, List.set_cons_zero, List.set_cons_succ]
        have hkn : T.take (2 * k) = T := List.take_of_length_le (by have := HKL.out; have := HT.out; omega)
        have ho := HO.out
        rw [hkn] at ho
        have HOO := Lib.hid ho
        have HTW := Lib.hid (below_turn (by have := HE.out; rwa [HB.out] at this))
        clear hlt hkn ho y1
        go_wp2_with fail
        go_ret
        refine ⟨A, m, c, rfl, ?_, HTW.out⟩
        rw [← HB.out, ← HTT.out]
        exact HOO.out
end Go.Proofs.YtgdlidjjogoiaaaGreatDoor
