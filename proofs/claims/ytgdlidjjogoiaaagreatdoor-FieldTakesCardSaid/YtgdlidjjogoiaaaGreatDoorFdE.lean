/-
  field's codes: writing. Conditions: the text's characters are the code's.
-/
import Derived.Test.YtgdlidjjogoiaaaGreatDoorFdD
namespace Go.Proofs.YtgdlidjjogoiaaaGreatDoor
open Go.RowKit
open Fdd
set_option linter.unusedVariables false
def TwoS (s c : Nat) (st ch : List UInt8) (W : World) : Prop := Blk W s 9 #[strV st] ∧ Blk W c 9 #[strV ch]
theorem bcs1 (x : UInt8) : (bcs [x]).toArray = #[.int .u8 (x.toNat : Int)] := rfl
set_option maxHeartbeats 1000000 in
theorem sput_walk {w : World} {s c B : Nat} {st ch t bs : List UInt8} {A0 : Option Addr} {n0 c0 : Nat} (hs : Blk w s 9 #[strV st]) (hc : Blk w c 9 #[strV ch]) (ht : onlyOf t ch = true) (hl : st.length = ch.length) (hown : Own w B 5 (.slice A0 n0 c0) bs) (hB : B ≤ w.heap.size)
    (hlen : bs.length + t.length ≤ 140737488355328) (ht1 : t.length ≤ 1000) (hch : ch.length ≤ 1000) :
    Calls Tryz.prog 77 #[.slice A0 n0 c0, strV t, ptrTo s, ptrTo c] w fun e w' => ∃ A n c', e = .returned (.slice A n c') ∧ Own w' B 5 (.slice A n c') (bs ++ t.map (one ch st)) ∧ Ext w w' (.slice A0 n0 c0) (.slice A n c') := by
  unfold ptrTo
  have HS := Lib.hid hs
  have HC := Lib.hid hc
  have HT := Lib.hid ht
  have HL := Lib.hid hl
  have HO := Lib.hid hown
  have HB := Lib.hid hB
  have HN := Lib.hid hlen
  have HT1 := Lib.hid ht1
  have HCH := Lib.hid hch
  clear hs hc ht hl hown hB hlen ht1 hch
  go_enter Tryz.func77, Tryz.ntmps77
  go_upto_region 1 with fail
  refine wp_region_lit ?_
  refine wpList_run (v := strV t) rfl (exec_move rfl rfl) ?_
  simp only [Act.put, List.setIfInBounds_toArray, List.set_cons_zero, List.set_cons_succ]
  refine wpList_run (v := .int .i64 (t.length : Int)) (w' := w) rfl (exec_slen rfl rfl) ?_
  simp only [Act.put, List.setIfInBounds_toArray, List.set_cons_zero, List.set_cons_succ]
  obtain ⟨len, hlen⟩ : ∃ len, t.length = len := ⟨_, rfl⟩
  rw [hlen]
  have HLEN := Lib.hid hlen
  clear hlen
  go_wp2_with fail
  go_loopg [0, 10] len (fun gk b i wr => ∃ (k : Nat) (A : Option Addr) (n c' : Nat), k + gk = len ∧ i = .int .i64 (k : Int) ∧ b = .slice A n c' ∧ Own wr B 5 (.slice A n c') (bs ++ (t.take k).map (one ch st)) ∧ Ext w wr (.slice A0 n0 c0) (.slice A n c'))
  case atStart => exact ⟨0, _, _, _, by omega, rfl, rfl, by simpa using HO.out, Ext.refl _ _⟩
  case round =>
    obtain ⟨k, A, n, c', hkl, rfl, rfl, hO, hE⟩ := hrel
    have HKL := Lib.hid hkl
    have HO' := Lib.hid hO
    have HE := Lib.hid hE
    clear hkl hO hE
    by_cases hlt : k < len
    · have y1 : (k : Int) < (len : Int) := by omega
      have y2 : (0 : Int) ≤ (k : Int) := by omega
      have y3 : (len : Int) ≤ 1000 := by have := HT1.out; have := HLEN.out; omega
      have HLT := Lib.hid hlt
      clear hlt
      go_upto_region 4 with fail
      have hk : k < t.length := by rw [HLEN.out]; exact HLT.out
      have hmem : t.getD k 0 ∈ ch := by
        rw [List.getD_eq_getElem?_getD, List.getElem?_eq_getElem hk]
        exact onlyOf_mem HT.out (List.getElem_mem _)
      have htk : (t.take (k + 1)).map (one ch st) = (t.take k).map (one ch st) ++ [one ch st (t.getD k 0)] := by
        rw [List.take_add_one, List.getElem?_eq_getElem hk, List.map_append, List.getD_eq_getElem?_getD, List.getElem?_eq_getElem hk]
        rfl
      have HK := Lib.hid hk
      have HTK := Lib.hid htk
      have hiw := index_walk ch (t.getD k 0)
      have hix := idx_lt hmem
      have hone : one ch st (t.getD k 0) = st.getD (ch.idxOf (t.getD k 0)) 0 := rfl
      rw [index_mem ch _ hmem] at hiw
      generalize ch.idxOf (t.getD k 0) = ix at *
      have HIW := Lib.hid hiw
      have HIX := Lib.hid hix
      have HONE := Lib.hid hone
      clear hiw hix hone hmem hk htk
      have hS0 : TwoS s c st ch wr.drew := ⟨(HS.out.ext HE.out (row_ne HO.out HS.out (by decide))).drew, (HC.out.ext HE.out (row_ne HO.out HC.out (by decide))).drew⟩
      refine wp_region_till (TwoS s c st ch) 7 (by kernel_rfl) ?_
      refine till_pure (i := 0) (v := .slice A n c') rfl (by kernel_rfl) (by kernel_rfl) (fun _ _ _ h => h) (.inl ⟨by rfl, fun W hW => exec_move rfl rfl⟩) hS0 ?_
      simp only [Act.put, List.setIfInBounds_toArray, List.set_cons_zero, List.set_cons_succ]
      refine till_take (i := 1) (v := strV st) rfl (by kernel_rfl) (by kernel_rfl) (fun _ _ _ h => h) (.inl ⟨by rfl, fun W hW => exec_load1 rfl rfl (by kernel_rfl) (hW.1.cell 0)⟩) hS0 ?_
      simp only [Act.put, List.setIfInBounds_toArray, List.set_cons_zero, List.set_cons_succ]
      refine till_take2 6 (i := 2) (v := strV ch) rfl (by kernel_rfl) (by kernel_rfl) (fun _ _ _ h => h) (.inl ⟨by rfl, fun W hW => exec_load1 rfl rfl (by kernel_rfl) (hW.2.cell 0)⟩) hS0 ?_
      simp only [Act.put, List.setIfInBounds_toArray, List.set_cons_zero, List.set_cons_succ]
      refine till_pure (i := 3) (v := strV t) rfl (by kernel_rfl) (by kernel_rfl) (fun _ _ _ h => h) (.inl ⟨by rfl, fun W hW => exec_move rfl rfl⟩) hS0 ?_
      simp only [Act.put, List.setIfInBounds_toArray, List.set_cons_zero, List.set_cons_succ]
      refine till_pure (i := 4) (v := .int .i64 (k : Int)) rfl (by kernel_rfl) (by kernel_rfl) (fun _ _ _ h => h) (.inl ⟨by rfl, fun W hW => exec_move rfl rfl⟩) hS0 ?_
      simp only [Act.put, List.setIfInBounds_toArray, List.set_cons_zero, List.set_cons_succ]
      refine till_pure (i := 5) (v := .int .u8 ((t.getD k 0).toNat : Int)) rfl (by kernel_rfl) (by kernel_rfl) (fun _ _ _ h => h) (.inl ⟨by rfl, fun W hW => exec_sidx rfl rfl rfl HK.out⟩) hS0 ?_
      simp only [Act.put, List.setIfInBounds_toArray, List.set_cons_zero, List.set_cons_succ]
      refine till_step (i := 6) (by kernel_rfl) rfl rfl ?_
      intro K1 HK1
      go_wp2_with fail
      refine (HIW.out _).mono ?_
      rintro e w5 ⟨rfl, rfl⟩
      refine HK1.out _ _ ⟨fun _ => hS0, ?_⟩
      clear HK1
      refine till_tail 7 rfl (by kernel_rfl) ?_
      refine wpList_run (v := .int .u8 ((one ch st (t.getD k 0)).toNat : Int)) rfl (by rw [HONE.out]; exact exec_sidx rfl rfl rfl (by rw [HL.out]; exact HIX.out)) ?_
      simp only [Act.put, List.setIfInBounds_toArray, List.set_cons_zero, List.set_cons_succ]
      obtain ⟨i0, hi0, hz0, hz1, hz2⟩ := info_parts byteInfo
      refine wpList_run (v := _) rfl (exec_buildSlice1 rfl rfl (run_buildSlice_one (v := .int .u8 ((one ch st (t.getD k 0)).toNat : Int)) Tryz.underlying22 hi0 hz0 (by rw [hz1]; rfl) (by rw [hz1]; rfl) (by omega) (by omega) _)) ?_
      simp only [Act.put, List.setIfInBounds_toArray, List.set_cons_zero, List.set_cons_succ]
      obtain ⟨A6, c6, w6, hrun, hown6, hext6⟩ := append_news (m := 1) (c := 1) (w := wr.drew) HO'.out.drew (Nat.le_trans HB.out HE.out.tr.size) [one ch st (t.getD k 0)] (by rw [List.length_append, List.length_map, List.length_take]; have := HN.out; have := HK.out; simp; omega) rfl
      refine wpList_run (v := .slice A6 ((bs ++ (t.take k).map (one ch st)).length + 1) c6) (w' := w6) rfl (exec_append rfl rfl rfl hrun) ?_
      simp only [Act.put, List.setIfInBounds_toArray, List.set_cons_zero, List.set_cons_succ]
      have HO6 := Lib.hid hown6
      have HE6 := Lib.hid hext6
      clear hrun hown6 hext6 hS0
      generalize ((bs ++ (t.take k).map (one ch st)).length + 1) = n6 at *
      go_wp2_with fail
      refine NoPanic.normal ?_
      go_wp2_with fail
      go_roundg (gk - 1)
      case measure => have := HKL.out; have := HLT.out; omega
      case rel =>
        refine ⟨k + 1, A6, n6, c6, by have := HKL.out; have := HLT.out; omega, by go_num, rfl, ?_, ?_⟩
        · rw [HTK.out, ← List.append_assoc]
          exact HO6.out
        · exact (HE.out.still (Turn.drew (Turn.refl _ _))).trans HE6.out
    · have hke : k = len := by have := HKL.out; omega
      have y1 : ¬ ((k : Int) < (len : Int)) := by omega
      clear hlt
      have HKE := Lib.hid hke
      clear hke
      go_wp2_with fail
      go_ret
      refine ⟨A, n, c', rfl, ?_, HE.out⟩
      have := HO'.out
      rwa [List.take_of_length_le (by rw [HLEN.out, HKE.out]; exact Nat.le_refl _)] at this
end Go.Proofs.YtgdlidjjogoiaaaGreatDoor
