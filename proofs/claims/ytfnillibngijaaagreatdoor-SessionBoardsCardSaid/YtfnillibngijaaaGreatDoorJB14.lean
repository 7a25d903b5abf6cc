/-
  Texts in one file: FdF FdG FdI. Conditions: the tables and the errors read as the program's text lays them.
-/
import Derived.Test.YtfnillibngijaaaGreatDoorJB13
namespace Go.Proofs.YtfnillibngijaaaGreatDoor
open Go.RowKit
open Fdd
set_option linter.unusedVariables false
section
variable {P : Program} {md : Region.Mode} {ops : Array Oper} {Q : Exit → Act → World → Prop} {S : World → Prop} {k : Nat}
end
theorem pack_take (ch : List UInt8) : ∀ (k : Nat) (T : List UInt8), 2 * k + 2 ≤ T.length → pack ch (T.take (2 * k + 2)) = pack ch (T.take (2 * k)) ++ [UInt8.ofNat (16 * ch.idxOf (T.getD (2 * k) 0) + ch.idxOf (T.getD (2 * k + 1) 0))]
  | 0, a :: b :: r, _ => by simp [pack]
  | k + 1, a :: b :: r, h => by
    have ih := pack_take ch k r (by simp at h; omega)
    rw [show 2 * (k + 1) + 2 = 2 * k + 2 + 2 from by omega, show 2 * (k + 1) = 2 * k + 2 from by omega]
    simp only [List.take_succ_cons, pack, List.cons_append, List.getD_cons_succ]
    rw [ih]
  | _, [], h => by simp at h
  | _, [_], h => by simp at h
theorem padded_len (t : List UInt8) : (padded t).length = 2 * ((t.length + 1) / 2) := by
  unfold padded
  by_cases h : t.length % 2 = 1
  · rw [if_pos h, List.length_cons]
    omega
  · rw [if_neg h]
    omega
theorem padded_mem {t ch : List UInt8} (h : onlyOf t ch = true) (h0 : 48 ∈ ch) {c : UInt8} (hc : c ∈ padded t) : c ∈ ch := by
  unfold padded at hc
  by_cases h1 : t.length % 2 = 1
  · rw [if_pos h1] at hc
    rcases List.mem_cons.1 hc with rfl | hc
    · exact h0
    · exact onlyOf_mem h hc
  · rw [if_neg h1] at hc
    exact onlyOf_mem h hc
def PlS (q c : Nat) (ch : List UInt8) (W : World) : Prop := Blk W q 220 #[placeV c] ∧ Blk W c 9 #[strV ch]
theorem exec_shl4 {W : World} {a : Act} {o : Oper} {x : Operand} (k : Nat) (hk : k < 16) (ho : o.op = .binOp .shl 5 x (.const (.int .u64 4)) 94) (hx : a.eval x = .int .u8 (k : Int)) : (execOp a.eval o).run Tryz.prog W = .ok (.value (.int .u8 ((16 * k : Nat) : Int))) W := by
  unfold execOp
  simp only [ho, hx]
  go_simp
  have h : ∀ k : Fin 16, IntKind.u8.wrap ((k.val : Int) * 16) = 16 * (k.val : Int) := by decide +kernel
  exact h ⟨k, hk⟩
theorem exec_or {W : World} {a : Act} {o : Oper} {x y : Operand} (k m : Nat) (hk : k < 16) (hm : m < 16) (ho : o.op = .binOp .or 5 x y 5) (hx : a.eval x = .int .u8 ((16 * k : Nat) : Int)) (hy : a.eval y = .int .u8 (m : Int)) : (execOp a.eval o).run Tryz.prog W = .ok (.value (.int .u8 ((16 * k + m : Nat) : Int))) W := by
  unfold execOp
  simp only [ho, hx, hy]
  go_simp
  have h : ∀ k m : Fin 16, bits BinOp.or IntKind.u8 (16 * (k.val : Int)) (m.val : Int) = 16 * (k.val : Int) + (m.val : Int) := by decide +kernel
  exact h ⟨k, hk⟩ ⟨m, hm⟩
theorem exec_lss {W : World} {a : Act} {o : Oper} {x y : Operand} {i j : Int} (ho : o.op = .binOp .lss 3 x y 3) (hx : a.eval x = .int .i64 i) (hy : a.eval y = .int .i64 j) (h : i < j) : (execOp a.eval o).run Tryz.prog W = .ok (.value (.bool true)) W := by
  unfold execOp
  simp only [ho, hx, hy]
  go_simp
theorem exec_nlss {W : World} {a : Act} {o : Oper} {x y : Operand} {i j : Int} (ho : o.op = .binOp .lss 3 x y 3) (hx : a.eval x = .int .i64 i) (hy : a.eval y = .int .i64 j) (h : ¬ (i < j)) : (execOp a.eval o).run Tryz.prog W = .ok (.value (.bool false)) W := by
  unfold execOp
  simp only [ho, hx, hy]
  go_simp
theorem pack_le (ch : List UInt8) : ∀ l : List UInt8, (pack ch l).length ≤ l.length
  | [] => Nat.le_refl _
  | [_] => by simp [pack]
  | a :: b :: r => by
    have := pack_le ch r
    simp only [pack, List.length_cons]
    omega
theorem tmod_one {n : Nat} (h : n % 2 = 1) : Int.tmod (n : Int) 2 = 1 := by
  rw [show Int.tmod (n : Int) 2 = ((n % 2 : Nat) : Int) from rfl, h]
  rfl
theorem tmod_nil {n : Nat} (h : ¬ n % 2 = 1) : Int.tmod (n : Int) 2 = 0 := by
  rw [show Int.tmod (n : Int) 2 = ((n % 2 : Nat) : Int) from rfl, show n % 2 = 0 from by omega]
  rfl
end Go.Proofs.YtfnillibngijaaaGreatDoor
namespace Go.Proofs.YtfnillibngijaaaGreatDoor
open Go.RowKit
open Fdd
set_option linter.unusedVariables false
set_option maxRecDepth 20000 in
set_option maxHeartbeats 2000000 in
theorem pput_walk {w : World} {q c B : Nat} {ch t bs : List UInt8} {A0 : Option Addr} {n0 c0 : Nat} (hq : Blk w q 220 #[placeV c]) (hc : Blk w c 9 #[strV ch]) (ht : onlyOf t ch = true) (h48 : 48 ∈ ch) (hown : Own w B 5 (.slice A0 n0 c0) bs) (hB : B ≤ w.heap.size)
    (hlen : bs.length + t.length ≤ 140737488354000) (ht1 : t.length ≤ 1000) (hch : ch.length ≤ 16) :
    Calls Tryz.prog 120 #[.slice A0 n0 c0, strV t, ptrTo q] w fun e w' => ∃ A n c', e = .returned (.slice A n c') ∧ Own w' B 5 (.slice A n c') (bs ++ pack ch (padded t)) ∧ Ext w w' (.slice A0 n0 c0) (.slice A n c') := by
  unfold ptrTo
  have HQ := Lib.hid hq
  have HC := Lib.hid hc
  have HM := Lib.hid (fun x (hx : x ∈ padded t) => padded_mem ht h48 hx)
  have HO := Lib.hid hown
  have HB := Lib.hid hB
  have hpl := padded_len t
  have HN := Lib.hid (show bs.length + (padded t).length ≤ 140737488355328 from by omega)
  have HT1 := Lib.hid ht1
  have HCH := Lib.hid hch
  clear hq hc hown hB hlen hch ht h48
  go_enter Tryz.func120, Tryz.ntmps120
  go_upto_region 1 with fail
  refine wp_region_lit ?_
  refine wpList_run (v := strV t) rfl (exec_move rfl rfl) ?_
  simp only [Act.put, List.setIfInBounds_toArray, List.set_cons_zero, List.set_cons_succ]
  refine wpList_run (v := .int .i64 (t.length : Int)) (w' := w) rfl (exec_slen rfl rfl) ?_
  simp only [Act.put, List.setIfInBounds_toArray, List.set_cons_zero, List.set_cons_succ]
  have hpd : padded t = if t.length % 2 = 1 then 48 :: t else t := rfl
  by_cases hodd : t.length % 2 = 1
  · rw [if_pos hodd] at hpd
    refine wpList_run (v := .int .i64 1) (w' := w) rfl (by go_simp; exact tmod_one hodd) ?_
    simp only [Act.put, List.setIfInBounds_toArray, List.set_cons_zero, List.set_cons_succ]
    have HPD := Lib.hid hpd
    have HPL := Lib.hid hpl
    clear hpd hpl hodd ht1
    go_upto_region 2 with fail
    refine wp_region_lit ?_
    refine wpList_run (v := strV t) rfl (exec_move rfl rfl) ?_
    simp only [Act.put, List.setIfInBounds_toArray, List.set_cons_zero, List.set_cons_succ]
    refine wpList_run (v := strV (padded t)) (w' := w) rfl (by rw [HPD.out]; exact exec_sadd (l := [48]) rfl rfl rfl (by have := HT1.out; simp; omega)) ?_
    simp only [Act.put, List.setIfInBounds_toArray, List.set_cons_zero, List.set_cons_succ]
    obtain ⟨T, hTT⟩ : ∃ T, T = padded t := ⟨_, rfl⟩
    rw [← hTT]
    clear HPD
    rw [← hTT] at HPL HM HN
    have HTT := Lib.hid hTT
    clear hTT
    obtain ⟨h, hh⟩ : ∃ h, h = (t.length + 1) / 2 := ⟨_, rfl⟩
    have hT : T.length = 2 * h := by rw [hh]; exact HPL.out
    have hh1 : h ≤ 1000 := by have := HT1.out; omega
    have HT := Lib.hid hT
    have HH1 := Lib.hid hh1
    clear hT hh1 hh HPL HT1
    go_wp2_with fail
    go_loopg [0, 6] h (fun gk b i wr => ∃ (k : Nat) (A : Option Addr) (n c' : Nat), k + gk = h ∧ i = .int .i64 ((2 * k : Nat) : Int) ∧ b = .slice A n c' ∧ Own wr B 5 (.slice A n c') (bs ++ pack ch (T.take (2 * k))) ∧ Ext w wr (.slice A0 n0 c0) (.slice A n c'))
    case atStart => exact ⟨0, _, _, _, by omega, rfl, rfl, by simpa [pack] using HO.out, Ext.refl _ _⟩
    case round =>
      obtain ⟨k, A, n, c', hkl, rfl, rfl, hO, hE⟩ := hrel
      have HKL := Lib.hid hkl
      have HO' := Lib.hid hO
      have HE := Lib.hid hE
      clear hkl hO hE
      go_upto_region 4 with fail
      refine wp_region_lit ?_
      refine wpList_run (v := .int .i64 ((2 * k : Nat) : Int)) rfl (exec_move rfl rfl) ?_
      simp only [Act.put, List.setIfInBounds_toArray, List.set_cons_zero, List.set_cons_succ]
      refine wpList_run (v := strV T) rfl (exec_move rfl rfl) ?_
      simp only [Act.put, List.setIfInBounds_toArray, List.set_cons_zero, List.set_cons_succ]
      refine wpList_run (v := .int .i64 ((2 * h : Nat) : Int)) (w' := wr) rfl (by rw [← HT.out]; exact exec_slen rfl rfl) ?_
      simp only [Act.put, List.setIfInBounds_toArray, List.set_cons_zero, List.set_cons_succ]
      by_cases hlt : k < h
      · have y1 : ((2 * k : Nat) : Int) < ((2 * h : Nat) : Int) := by omega
        refine wpList_run (v := .bool true) (w' := wr) rfl (exec_lss rfl rfl rfl y1) ?_
        simp only [Act.put, List.setIfInBounds_toArray, List.set_cons_zero, List.set_cons_succ]
        have HLT := Lib.hid hlt
        clear hlt y1
        go_upto_region 6 with fail
        have hk0 : 2 * k < T.length := by rw [HT.out]; have := HLT.out; omega
        have hk1 : 2 * k + 1 < T.length := by rw [HT.out]; have := HLT.out; omega
        have hm0 : T.getD (2 * k) 0 ∈ ch := by
          rw [List.getD_eq_getElem?_getD, List.getElem?_eq_getElem hk0]
          exact HM.out _ (List.getElem_mem _)
        have hm1 : T.getD (2 * k + 1) 0 ∈ ch := by
          rw [List.getD_eq_getElem?_getD, List.getElem?_eq_getElem hk1]
          exact HM.out _ (List.getElem_mem _)
        have HK0 := Lib.hid hk0
        have HK1 := Lib.hid hk1
        have HM0 := Lib.hid hm0
        have HM1 := Lib.hid hm1
        have HP0 := Lib.hid (fun W (hW : PlS q c ch W) => place_walk hW.2 _ hm0 HCH.out)
        have HP1 := Lib.hid (fun W (hW : PlS q c ch W) => place_walk hW.2 _ hm1 HCH.out)
        have HI0 := Lib.hid (show ch.idxOf (T.getD (2 * k) 0) < 16 from Nat.lt_of_lt_of_le (idx_lt hm0) HCH.out)
        have HI1 := Lib.hid (show ch.idxOf (T.getD (2 * k + 1) 0) < 16 from Nat.lt_of_lt_of_le (idx_lt hm1) HCH.out)
        have htk := pack_take ch k T (by rw [HT.out]; have := HLT.out; omega)
        generalize ch.idxOf (T.getD (2 * k) 0) = i0 at *
        generalize ch.idxOf (T.getD (2 * k + 1) 0) = i1 at *
        have hby : ((UInt8.ofNat (16 * i0 + i1)).toNat : Int) = ((16 * i0 + i1 : Nat) : Int) := by rw [UInt8.toNat_ofNat']; have := HI0.out; have := HI1.out; omega
        generalize UInt8.ofNat (16 * i0 + i1) = z at *
        have HTK := Lib.hid htk
        have HBY := Lib.hid hby
        clear hk0 hk1 hm0 hm1 htk hby
        have hS0 : PlS q c ch wr.drew := ⟨(HQ.out.ext HE.out (row_ne HO.out HQ.out (by decide))).drew, (HC.out.ext HE.out (row_ne HO.out HC.out (by decide))).drew⟩
        have x64 : (2 * (k : Int) + 1) ≤ 2001 := by have := HLT.out; have := HH1.out; omega
        refine wp_region_till (PlS q c ch) 16 (by kernel_rfl) ?_
        refine till_pure (i := 0) (v := .slice A n c') rfl (by kernel_rfl) (by kernel_rfl) (fun _ _ _ h => h) (.inl ⟨by rfl, fun W hW => exec_move rfl rfl⟩) hS0 ?_
        simp only [Act.put, List.setIfInBounds_toArray, List.set_cons_zero, List.set_cons_succ]
        refine till_take (i := 1) (v := placeV c) rfl (by kernel_rfl) (by kernel_rfl) (fun _ _ _ h => h) (.inl ⟨by rfl, fun W hW => exec_load1 rfl rfl (by kernel_rfl) (hW.1.cell 0)⟩) hS0 ?_
        simp only [Act.put, List.setIfInBounds_toArray, List.set_cons_zero, List.set_cons_succ]
        refine till_pure (i := 2) (v := strV T) rfl (by kernel_rfl) (by kernel_rfl) (fun _ _ _ h => h) (.inl ⟨by rfl, fun W hW => exec_move rfl rfl⟩) hS0 ?_
        simp only [Act.put, List.setIfInBounds_toArray, List.set_cons_zero, List.set_cons_succ]
        refine till_pure (i := 3) (v := .int .i64 ((2 * k : Nat) : Int)) rfl (by kernel_rfl) (by kernel_rfl) (fun _ _ _ h => h) (.inl ⟨by rfl, fun W hW => exec_move rfl rfl⟩) hS0 ?_
        simp only [Act.put, List.setIfInBounds_toArray, List.set_cons_zero, List.set_cons_succ]
        refine till_pure (i := 4) (v := .int .u8 ((T.getD (2 * k) 0).toNat : Int)) rfl (by kernel_rfl) (by kernel_rfl) (fun _ _ _ h => h) (.inl ⟨by rfl, fun W hW => exec_sidx rfl rfl rfl HK0.out⟩) hS0 ?_
        simp only [Act.put, List.setIfInBounds_toArray, List.set_cons_zero, List.set_cons_succ]
        refine till_take (i := 7) (v := placeV c) rfl (by kernel_rfl) (by kernel_rfl) (fun _ _ _ h => h) (.inl ⟨by rfl, fun W hW => exec_load1 rfl rfl (by kernel_rfl) (hW.1.cell 0)⟩) hS0 ?_
        simp only [Act.put, List.setIfInBounds_toArray, List.set_cons_zero, List.set_cons_succ]
        refine till_pure (i := 8) (v := strV T) rfl (by kernel_rfl) (by kernel_rfl) (fun _ _ _ h => h) (.inl ⟨by rfl, fun W hW => exec_move rfl rfl⟩) hS0 ?_
        simp only [Act.put, List.setIfInBounds_toArray, List.set_cons_zero, List.set_cons_succ]
        refine till_pure (i := 9) (v := .int .i64 ((2 * k : Nat) : Int)) rfl (by kernel_rfl) (by kernel_rfl) (fun _ _ _ h => h) (.inl ⟨by rfl, fun W hW => exec_move rfl rfl⟩) hS0 ?_
        simp only [Act.put, List.setIfInBounds_toArray, List.set_cons_zero, List.set_cons_succ]
        refine till_pure (i := 10) (v := .int .i64 ((2 * k + 1 : Nat) : Int)) rfl (by kernel_rfl) (by kernel_rfl) (fun _ _ _ h => h) (.inl ⟨by rfl, fun W hW => by go_simp; rw [IntKind.wrap_i64]; omega⟩) hS0 ?_
        simp only [Act.put, List.setIfInBounds_toArray, List.set_cons_zero, List.set_cons_succ]
        refine till_pure (i := 11) (v := .int .u8 ((T.getD (2 * k + 1) 0).toNat : Int)) rfl (by kernel_rfl) (by kernel_rfl) (fun _ _ _ h => h) (.inl ⟨by rfl, fun W hW => exec_sidx rfl rfl rfl HK1.out⟩) hS0 ?_
        simp only [Act.put, List.setIfInBounds_toArray, List.set_cons_zero, List.set_cons_succ]
        refine till_step (i := 5) (by kernel_rfl) rfl rfl ?_
        intro K1 HK1x
        try unfold placeV
        go_wp2_with fail
        refine (HP0.out _ hS0).mono ?_
        rintro e w5 ⟨rfl, rfl⟩
        refine HK1x.out _ _ ⟨fun _ => hS0, ?_⟩
        clear HK1x
        refine till_pure (i := 6) (v := .int .u8 ((16 * i0 : Nat) : Int)) rfl (by kernel_rfl) (by kernel_rfl) (fun _ _ _ h => h) (.inl ⟨by rfl, fun W hW => exec_shl4 i0 HI0.out rfl rfl⟩) hS0 ?_
        simp only [Act.put, List.setIfInBounds_toArray, List.set_cons_zero, List.set_cons_succ]
        refine till_step (i := 12) (by kernel_rfl) rfl rfl ?_
        intro K1 HK1x
        try unfold placeV
        go_wp2_with fail
        refine (HP1.out _ hS0).mono ?_
        rintro e w5 ⟨rfl, rfl⟩
        refine HK1x.out _ _ ⟨fun _ => hS0, ?_⟩
        clear HK1x
        refine till_only (i := 13) (by kernel_rfl) rfl rfl ?_
        refine wp_run (v := .int .u8 (z.toNat : Int)) (w' := wr.drew) (by rw [HBY.out]; exact exec_or i0 i1 HI0.out HI1.out rfl rfl rfl) ?_
        refine ⟨fun _ => hS0, ?_⟩
        simp only [Act.put, List.setIfInBounds_toArray, List.set_cons_zero, List.set_cons_succ]
        obtain ⟨j0, hj0, hjz, hj1, hj2⟩ := info_parts byteInfo
        refine till_only (i := 14) (by kernel_rfl) rfl rfl ?_
        refine wp_run (exec_buildSlice1 rfl rfl (run_buildSlice_one (v := .int .u8 (z.toNat : Int)) Tryz.underlying42 hj0 hjz (by rw [hj1]; rfl) (by rw [hj1]; rfl) (by omega) (by omega) _)) ?_
        refine ⟨fun _ => ⟨hS0.1.alloc _, hS0.2.alloc _⟩, ?_⟩
        simp only [Act.put, List.setIfInBounds_toArray, List.set_cons_zero, List.set_cons_succ]
        obtain ⟨A6, c6, w6, hrun, hown6, hext6⟩ := append_news (m := 1) (c := 1) (w := wr.drew) HO'.out.drew (Nat.le_trans HB.out HE.out.tr.size) [z] (by
          have hn := HN.out
          have h1 := HK0.out
          have h2 : (pack ch (T.take (2 * k))).length ≤ (T.take (2 * k)).length := pack_le ch _
          rw [List.length_take] at h2
          rw [List.length_append]
          simp
          omega) rfl
        refine till_only (i := 15) (by kernel_rfl) rfl rfl ?_
        refine wp_run (v := .slice A6 ((bs ++ pack ch (T.take (2 * k))).length + 1) c6) (w' := w6) (exec_append rfl rfl rfl hrun) ?_
        refine ⟨fun _ => ⟨hS0.1.ext hext6 (row_ne HO'.out hS0.1 (by decide)), hS0.2.ext hext6 (row_ne HO'.out hS0.2 (by decide))⟩, ?_⟩
        simp only [Act.put, List.setIfInBounds_toArray, List.set_cons_zero, List.set_cons_succ]
        have HO6 := Lib.hid hown6
        have HE6 := Lib.hid hext6
        clear hrun hown6 hext6 hS0
        generalize ((bs ++ pack ch (T.take (2 * k))).length + 1) = n6 at *
        refine till_tail 16 rfl (by kernel_rfl) ?_
        go_wp2_with fail
        refine NoPanic.normal ?_
        go_wp2_with fail
        go_roundg (gk - 1)
        case measure => have := HKL.out; have := HLT.out; omega
        case rel =>
          refine ⟨k + 1, A6, n6, c6, by have := HKL.out; have := HLT.out; omega, by go_num, rfl, ?_, ?_⟩
          · rw [show 2 * (k + 1) = 2 * k + 2 from by omega, HTK.out, ← List.append_assoc]
            exact HO6.out
          · exact (HE.out.still (Turn.drew (Turn.refl _ _))).trans HE6.out
      · have hke : k = h := by have := HKL.out; omega
        have y1 : ¬ (((2 * k : Nat) : Int) < ((2 * h : Nat) : Int)) := by omega
        refine wpList_run (v := .bool false) (w' := wr) rfl (exec_nlss rfl rfl rfl y1) ?_
        simp only [Act.put, List.setIfInBounds_toArray, List.set_cons_zero, List.set_cons_succ]
        have HKE := Lib.hid hke
        clear hlt hke y1
        go_wp2_with fail
        go_ret
        refine ⟨A, n, c', rfl, ?_, HE.out⟩
        have := HO'.out
        rw [List.take_of_length_le (by rw [HT.out, HKE.out]; exact Nat.le_refl _)] at this
        rw [← HTT.out]
        exact this
  · rw [if_neg hodd] at hpd
    refine wpList_run (v := .int .i64 0) (w' := w) rfl (by go_simp; exact tmod_nil hodd) ?_
    simp only [Act.put, List.setIfInBounds_toArray, List.set_cons_zero, List.set_cons_succ]
    have HPL := Lib.hid hpl
    have HPD := Lib.hid hpd
    clear hpl hodd ht1 hpd
    obtain ⟨T, hTT⟩ : ∃ T, T = padded t := ⟨_, rfl⟩
    have hTt : T = t := hTT.trans HPD.out
    rw [← hTt]
    clear hTt HPD
    rw [← hTT] at HPL HM HN
    have HTT := Lib.hid hTT
    clear hTT
    obtain ⟨h, hh⟩ : ∃ h, h = (t.length + 1) / 2 := ⟨_, rfl⟩
    have hT : T.length = 2 * h := by rw [hh]; exact HPL.out
    have hh1 : h ≤ 1000 := by have := HT1.out; omega
    have HT := Lib.hid hT
    have HH1 := Lib.hid hh1
    clear hT hh1 hh HPL HT1
    go_wp2_with fail
    go_loopg [0, 6] h (fun gk b i wr => ∃ (k : Nat) (A : Option Addr) (n c' : Nat), k + gk = h ∧ i = .int .i64 ((2 * k : Nat) : Int) ∧ b = .slice A n c' ∧ Own wr B 5 (.slice A n c') (bs ++ pack ch (T.take (2 * k))) ∧ Ext w wr (.slice A0 n0 c0) (.slice A n c'))
    case atStart => exact ⟨0, _, _, _, by omega, rfl, rfl, by simpa [pack] using HO.out, Ext.refl _ _⟩
    case round =>
      obtain ⟨k, A, n, c', hkl, rfl, rfl, hO, hE⟩ := hrel
      have HKL := Lib.hid hkl
      have HO' := Lib.hid hO
      have HE := Lib.hid hE
      clear hkl hO hE
      go_upto_region 4 with fail
      refine wp_region_lit ?_
      refine wpList_run (v := .int .i64 ((2 * k : Nat) : Int)) rfl (exec_move rfl rfl) ?_
      simp only [Act.put, List.setIfInBounds_toArray, List.set_cons_zero, List.set_cons_succ]
      refine wpList_run (v := strV T) rfl (exec_move rfl rfl) ?_
      simp only [Act.put, List.setIfInBounds_toArray, List.set_cons_zero, List.set_cons_succ]
      refine wpList_run (v := .int .i64 ((2 * h : Nat) : Int)) (w' := wr) rfl (by rw [← HT.out]; exact exec_slen rfl rfl) ?_
      simp only [Act.put, List.setIfInBounds_toArray, List.set_cons_zero, List.set_cons_succ]
      by_cases hlt : k < h
      · have y1 : ((2 * k : Nat) : Int) < ((2 * h : Nat) : Int) := by omega
        refine wpList_run (v := .bool true) (w' := wr) rfl (exec_lss rfl rfl rfl y1) ?_
        simp only [Act.put, List.setIfInBounds_toArray, List.set_cons_zero, List.set_cons_succ]
        have HLT := Lib.hid hlt
        clear hlt y1
        go_upto_region 6 with fail
        have hk0 : 2 * k < T.length := by rw [HT.out]; have := HLT.out; omega
        have hk1 : 2 * k + 1 < T.length := by rw [HT.out]; have := HLT.out; omega
        have hm0 : T.getD (2 * k) 0 ∈ ch := by
          rw [List.getD_eq_getElem?_getD, List.getElem?_eq_getElem hk0]
          exact HM.out _ (List.getElem_mem _)
        have hm1 : T.getD (2 * k + 1) 0 ∈ ch := by
          rw [List.getD_eq_getElem?_getD, List.getElem?_eq_getElem hk1]
          exact HM.out _ (List.getElem_mem _)
        have HK0 := Lib.hid hk0
        have HK1 := Lib.hid hk1
        have HM0 := Lib.hid hm0
        have HM1 := Lib.hid hm1
        have HP0 := Lib.hid (fun W (hW : PlS q c ch W) => place_walk hW.2 _ hm0 HCH.out)
        have HP1 := Lib.hid (fun W (hW : PlS q c ch W) => place_walk hW.2 _ hm1 HCH.out)
        have HI0 := Lib.hid (show ch.idxOf (T.getD (2 * k) 0) < 16 from Nat.lt_of_lt_of_le (idx_lt hm0) HCH.out)
        have HI1 := Lib.hid (show ch.idxOf (T.getD (2 * k + 1) 0) < 16 from Nat.lt_of_lt_of_le (idx_lt hm1) HCH.out)
        have htk := pack_take ch k T (by rw [HT.out]; have := HLT.out; omega)
        generalize ch.idxOf (T.getD (2 * k) 0) = i0 at *
        generalize ch.idxOf (T.getD (2 * k + 1) 0) = i1 at *
        have hby : ((UInt8.ofNat (16 * i0 + i1)).toNat : Int) = ((16 * i0 + i1 : Nat) : Int) := by rw [UInt8.toNat_ofNat']; have := HI0.out; have := HI1.out; omega
        generalize UInt8.ofNat (16 * i0 + i1) = z at *
        have HTK := Lib.hid htk
        have HBY := Lib.hid hby
        clear hk0 hk1 hm0 hm1 htk hby
        have hS0 : PlS q c ch wr.drew := ⟨(HQ.out.ext HE.out (row_ne HO.out HQ.out (by decide))).drew, (HC.out.ext HE.out (row_ne HO.out HC.out (by decide))).drew⟩
        have x64 : (2 * (k : Int) + 1) ≤ 2001 := by have := HLT.out; have := HH1.out; omega
        refine wp_region_till (PlS q c ch) 16 (by kernel_rfl) ?_
        refine till_pure (i := 0) (v := .slice A n c') rfl (by kernel_rfl) (by kernel_rfl) (fun _ _ _ h => h) (.inl ⟨by rfl, fun W hW => exec_move rfl rfl⟩) hS0 ?_
        simp only [Act.put, List.setIfInBounds_toArray, List.set_cons_zero, List.set_cons_succ]
        refine till_take (i := 1) (v := placeV c) rfl (by kernel_rfl) (by kernel_rfl) (fun _ _ _ h => h) (.inl ⟨by rfl, fun W hW => exec_load1 rfl rfl (by kernel_rfl) (hW.1.cell 0)⟩) hS0 ?_
        simp only [Act.put, List.setIfInBounds_toArray, List.set_cons_zero, List.set_cons_succ]
        refine till_pure (i := 2) (v := strV T) rfl (by kernel_rfl) (by kernel_rfl) (fun _ _ _ h => h) (.inl ⟨by rfl, fun W hW => exec_move rfl rfl⟩) hS0 ?_
        simp only [Act.put, List.setIfInBounds_toArray, List.set_cons_zero, List.set_cons_succ]
        refine till_pure (i := 3) (v := .int .i64 ((2 * k : Nat) : Int)) rfl (by kernel_rfl) (by kernel_rfl) (fun _ _ _ h => h) (.inl ⟨by rfl, fun W hW => exec_move rfl rfl⟩) hS0 ?_
        simp only [Act.put, List.setIfInBounds_toArray, List.set_cons_zero, List.set_cons_succ]
        refine till_pure (i := 4) (v := .int .u8 ((T.getD (2 * k) 0).toNat : Int)) rfl (by kernel_rfl) (by kernel_rfl) (fun _ _ _ h => h) (.inl ⟨by rfl, fun W hW => exec_sidx rfl rfl rfl HK0.out⟩) hS0 ?_
        simp only [Act.put, List.setIfInBounds_toArray, List.set_cons_zero, List.set_cons_succ]
        refine till_take (i := 7) (v := placeV c) rfl (by kernel_rfl) (by kernel_rfl) (fun _ _ _ h => h) (.inl ⟨by rfl, fun W hW => exec_load1 rfl rfl (by kernel_rfl) (hW.1.cell 0)⟩) hS0 ?_
        simp only [Act.put, List.setIfInBounds_toArray, List.set_cons_zero, List.set_cons_succ]
        refine till_pure (i := 8) (v := strV T) rfl (by kernel_rfl) (by kernel_rfl) (fun _ _ _ h => h) (.inl ⟨by rfl, fun W hW => exec_move rfl rfl⟩) hS0 ?_
        simp only [Act.put, List.setIfInBounds_toArray, List.set_cons_zero, List.set_cons_succ]
        refine till_pure (i := 9) (v := .int .i64 ((2 * k : Nat) : Int)) rfl (by kernel_rfl) (by kernel_rfl) (fun _ _ _ h => h) (.inl ⟨by rfl, fun W hW => exec_move rfl rfl⟩) hS0 ?_
        simp only [Act.put, List.setIfInBounds_toArray, List.set_cons_zero, List.set_cons_succ]
        refine till_pure (i := 10) (v := .int .i64 ((2 * k + 1 : Nat) : Int)) rfl (by kernel_rfl) (by kernel_rfl) (fun _ _ _ h => h) (.inl ⟨by rfl, fun W hW => by go_simp; rw [IntKind.wrap_i64]; omega⟩) hS0 ?_
        simp only [Act.put, List.setIfInBounds_toArray, List.set_cons_zero, List.set_cons_succ]
        refine till_pure (i := 11) (v := .int .u8 ((T.getD (2 * k + 1) 0).toNat : Int)) rfl (by kernel_rfl) (by kernel_rfl) (fun _ _ _ h => h) (.inl ⟨by rfl, fun W hW => exec_sidx rfl rfl rfl HK1.out⟩) hS0 ?_
        simp only [Act.put, List.setIfInBounds_toArray, List.set_cons_zero, List.set_cons_succ]
        refine till_step (i := 5) (by kernel_rfl) rfl rfl ?_
        intro K1 HK1x
        try unfold placeV
        go_wp2_with fail
        refine (HP0.out _ hS0).mono ?_
        rintro e w5 ⟨rfl, rfl⟩
        refine HK1x.out _ _ ⟨fun _ => hS0, ?_⟩
        clear HK1x
        refine till_pure (i := 6) (v := .int .u8 ((16 * i0 : Nat) : Int)) rfl (by kernel_rfl) (by kernel_rfl) (fun _ _ _ h => h) (.inl ⟨by rfl, fun W hW => exec_shl4 i0 HI0.out rfl rfl⟩) hS0 ?_
        simp only [Act.put, List.setIfInBounds_toArray, List.set_cons_zero, List.set_cons_succ]
        refine till_step (i := 12) (by kernel_rfl) rfl rfl ?_
        intro K1 HK1x
        try unfold placeV
        go_wp2_with fail
        refine (HP1.out _ hS0).mono ?_
        rintro e w5 ⟨rfl, rfl⟩
        refine HK1x.out _ _ ⟨fun _ => hS0, ?_⟩
        clear HK1x
        refine till_only (i := 13) (by kernel_rfl) rfl rfl ?_
        refine wp_run (v := .int .u8 (z.toNat : Int)) (w' := wr.drew) (by rw [HBY.out]; exact exec_or i0 i1 HI0.out HI1.out rfl rfl rfl) ?_
        refine ⟨fun _ => hS0, ?_⟩
        simp only [Act.put, List.setIfInBounds_toArray, List.set_cons_zero, List.set_cons_succ]
        obtain ⟨j0, hj0, hjz, hj1, hj2⟩ := info_parts byteInfo
        refine till_only (i := 14) (by kernel_rfl) rfl rfl ?_
        refine wp_run (exec_buildSlice1 rfl rfl (run_buildSlice_one (v := .int .u8 (z.toNat : Int)) Tryz.underlying42 hj0 hjz (by rw [hj1]; rfl) (by rw [hj1]; rfl) (by omega) (by omega) _)) ?_
        refine ⟨fun _ => ⟨hS0.1.alloc _, hS0.2.alloc _⟩, ?_⟩
        simp only [Act.put, List.setIfInBounds_toArray, List.set_cons_zero, List.set_cons_succ]
        obtain ⟨A6, c6, w6, hrun, hown6, hext6⟩ := append_news (m := 1) (c := 1) (w := wr.drew) HO'.out.drew (Nat.le_trans HB.out HE.out.tr.size) [z] (by
          have hn := HN.out
          have h1 := HK0.out
          have h2 : (pack ch (T.take (2 * k))).length ≤ (T.take (2 * k)).length := pack_le ch _
          rw [List.length_take] at h2
          rw [List.length_append]
          simp
          omega) rfl
        refine till_only (i := 15) (by kernel_rfl) rfl rfl ?_
        refine wp_run (v := .slice A6 ((bs ++ pack ch (T.take (2 * k))).length + 1) c6) (w' := w6) (exec_append rfl rfl rfl hrun) ?_
        refine ⟨fun _ => ⟨hS0.1.ext hext6 (row_ne HO'.out hS0.1 (by decide)), hS0.2.ext hext6 (row_ne HO'.out hS0.2 (by decide))⟩, ?_⟩
        simp only [Act.put, List.setIfInBounds_toArray, List.set_cons_zero, List.set_cons_succ]
        have HO6 := Lib.hid hown6
        have HE6 := Lib.hid hext6
        clear hrun hown6 hext6 hS0
        generalize ((bs ++ pack ch (T.take (2 * k))).length + 1) = n6 at *
        refine till_tail 16 rfl (by kernel_rfl) ?_
        go_wp2_with fail
        refine NoPanic.normal ?_
        go_wp2_with fail
        go_roundg (gk - 1)
        case measure => have := HKL.out; have := HLT.out; omega
        case rel =>
          refine ⟨k + 1, A6, n6, c6, by have := HKL.out; have := HLT.out; omega, by go_num, rfl, ?_, ?_⟩
          · rw [show 2 * (k + 1) = 2 * k + 2 from by omega, HTK.out, ← List.append_assoc]
            exact HO6.out
          · exact (HE.out.still (Turn.drew (Turn.refl _ _))).trans HE6.out
      · have hke : k = h := by have := HKL.out; omega
        have y1 : ¬ (((2 * k : Nat) : Int) < ((2 * h : Nat) : Int)) := by omega
        refine wpList_run (v := .bool false) (w' := wr) rfl (exec_nlss rfl rfl rfl y1) ?_
        simp only [Act.put, List.setIfInBounds_toArray, List.set_cons_zero, List.set_cons_succ]
        have HKE := Lib.hid hke
        clear hlt hke y1
        go_wp2_with fail
        go_ret
        refine ⟨A, n, c', rfl, ?_, HE.out⟩
        have := HO'.out
        rw [List.take_of_length_le (by rw [HT.out, HKE.out]; exact Nat.le_refl _)] at this
        rw [← HTT.out]
        exact this
end Go.Proofs.YtfnillibngijaaaGreatDoor
namespace Go.Proofs.YtfnillibngijaaaGreatDoor
open Go.RowKit
open Fdd
set_option linter.unusedVariables false
theorem exec_sub {W : World} {a : Act} {o : Oper} {x y : Operand} {m n : Nat} (ho : o.op = .binOp .sub 3 x y 3) (hx : a.eval x = .int .i64 (m : Int)) (hy : a.eval y = .int .i64 (n : Int)) (h : n ≤ m) (hm : m ≤ 1000000) : (execOp a.eval o).run Tryz.prog W = .ok (.value (.int .i64 ((m - n : Nat) : Int))) W := by
  unfold execOp
  simp only [ho, hx, hy]
  have e : IntKind.i64.wrap ((m : Int) - (n : Int)) = ((m - n : Nat) : Int) := by
    rw [IntKind.wrap_i64]
    omega
  rw [← e]
  go_simp
end Go.Proofs.YtfnillibngijaaaGreatDoor
