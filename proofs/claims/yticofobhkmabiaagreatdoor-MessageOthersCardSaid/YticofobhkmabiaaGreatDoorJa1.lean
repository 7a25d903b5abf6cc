/-
  Several texts in one file, in their order:
  - field's codes: writing two digits a byte. Conditions: the text's characters are the code's.
  - field's codes: writing two digits a byte. Conditions: the text's characters are the code's.
  - field's codes: reading two digits a byte. Condition: there are as many bytes as the digits take.
  - field's put. Conditions: the text is right for the parts; the parts are good.
  - field's right and Check. Conditions: the rows read as the program's text lays them.
  - field's Digits and Amount. Conditions: the library's table of powers and its ErrSyntax read as the program's text lays them.
  - field's Amount. Condition: where the text is empty, the library's ErrSyntax reads as some error.
  - field's take. Conditions: the parts are good.
  - field's Put and Take. Conditions: the rows read as the program's text lays them.
  - field's Put where the text is refused; takeNumber; Take. Conditions: the rows read as the program's text lays them.
  - field's Take. Conditions: the rows read as the program's text lays them.
  - An append leaves the old slice as it reads. No conditions.
  - Small facts for walks of texts: forms, pairs, new rows of bytes. No conditions.
  - General parts for the laws over field. No conditions.
  - field's Put onto nothing, and what it says of texts. Conditions: the rows read as the program's text lays them.
  - field's Put and Take, in every case. Conditions: the rows read as the program's text lays them.
  - Messages in plain data: hexadecimal digits there and back, forms, increasing rows of numbers. No conditions; nothing of the program.
  - message's (tongue).form. Condition: the tables and the errors read as the program's text lays them.
  - message's wrap, put and isType. Condition: the errors read as the program's text lays them.
  - Operations on numbers of 64 bits without a sign, an equation each. No conditions.
-/
import Derived.Test.YticofobhkmabiaaGreatDoorJa0
import Derived.Deep.Upon
import Derived.Laws.BitsAllLaws
namespace Go.Proofs.YticofobhkmabiaaGreatDoor
open Go.RowKit
open Fdd
set_option linter.unusedVariables false
section
variable {P : Program} {md : Region.Mode} {ops : Array Oper} {Q : Exit → Act → World → Prop} {S : World → Prop} {k : Nat}
/-- one of two may come up -/
theorem till_two {i j : Nat} {oi oj : Oper} {n : Nat} {l : Array Bool} {a : Act} {w : World} (hr : Region.ready md ops l = [i, j]) (hi0 : ops.toList[i]? = some oi) (hj0 : ops.toList[j]? = some oj)
    (hwi : Region.wanted oi (yielded ops a.tmps) = true) (hwj : Region.wanted oj (yielded ops a.tmps) = true)
    (h1 : ∀ K : Act → World → Prop, Shut (∀ a' w', (((l.setIfInBounds i true).getD k true = false → S w') ∧ Till P md ops Q S k n (l.setIfInBounds i true) a' w') → K a' w') → oi.wp P a w K Q)
    (h2 : ∀ K : Act → World → Prop, Shut (∀ a' w', (((l.setIfInBounds j true).getD k true = false → S w') ∧ Till P md ops Q S k n (l.setIfInBounds j true) a' w') → K a' w') → oj.wp P a w K Q) : Till P md ops Q S k (n + 1) l a w := by
  have hi : ops[i]? = some oi := by rw [← hi0, Array.getElem?_toList]
  have hj : ops[j]? = some oj := by rw [← hj0, Array.getElem?_toList]
  refine ⟨fun h0 => (by rw [h0] at hr; cases hr), fun m hm => ?_⟩
  rw [hr] at hm
  simp only [List.mem_cons, List.not_mem_nil, or_false] at hm
  rcases hm with rfl | rfl
  · unfold wpOp
    simp only [hi, hwi, if_true]
    exact .inl (h1 _ (Lib.hid fun _ _ h => h))
  · unfold wpOp
    simp only [hj, hwj, if_true]
    exact .inl (h2 _ (Lib.hid fun _ _ h => h))
end
theorem pack_take (ch : List UInt8) : ∀ (k : Nat) (T : List UInt8), 2 * k + 2 ≤ T.length → pack ch (T.take (2 * k + 2)) = pack ch (T.take (2 * k)) ++ [UInt8.ofNat (16 * ch.idxOf (T.getD (2 * k) 0) + ch.idxOf (T.getD (2 * k + 1) 0))]
  | 0, a :: b :: r, _ => by simp [pack]
  | k + 1, a :: b :: r, h => by
    have ih := pack_take ch k r (by simp at h; omega)
    rw [show 2 * (k + 1) + 2 = 2 * k + 2 + 2 from by omega, show 2 * (k + 1) = 2 * k + 2 from by omega]
    simp only [List.take_succ_cons, pack, List.cons_append, List.getD_cons_succ]
    rw [ih]
  | _, [], h => by simp at h
  | _, [_], h => by simp at h
theorem padded_even (t : List UInt8) : (padded t).length % 2 = 0 := by
  unfold padded
  by_cases h : t.length % 2 = 1
  · rw [if_pos h, List.length_cons]
    omega
  · rw [if_neg h]
    omega
theorem padded_len (t : List UInt8) : (padded t).length = 2 * ((t.length + 1) / 2) := by
  unfold padded
  by_cases h : t.length % 2 = 1
  · rw [if_pos h, List.length_cons]
    omega
  · rw [if_neg h]
    omega
theorem padded_mem {t ch : List UInt8} (h : onlyOf t ch = true) (h0 : 48 ∈ ch) {c : UInt8} (hc : c ∈ padded t) : c ∈ ch := by
  unfold padded at hc
  by_cases h1 : t.length % 2 = 1
  · rw [if_pos h1] at hc
    rcases List.mem_cons.1 hc with rfl | hc
    · exact h0
    · exact onlyOf_mem h hc
  · rw [if_neg h1] at hc
    exact onlyOf_mem h hc
def PlS (q c : Nat) (ch : List UInt8) (W : World) : Prop := Blk W q 141 #[placeV c] ∧ Blk W c 9 #[strV ch]
theorem exec_shl4 {W : World} {a : Act} {o : Oper} {x : Operand} (k : Nat) (hk : k < 16) (ho : o.op = .binOp .shl 5 x (.const (.int .u64 4)) 172) (hx : a.eval x = .int .u8 (k : Int)) : (execOp a.eval o).run Tryz.prog W = .ok (.value (.int .u8 ((16 * k : Nat) : Int))) W := by
  unfold execOp
  simp only [ho, hx]
  go_simp
  have h : ∀ k : Fin 16, IntKind.u8.wrap ((k.val : Int) * 16) = 16 * (k.val : Int) := by decide +kernel
  exact h ⟨k, hk⟩
theorem exec_or {W : World} {a : Act} {o : Oper} {x y : Operand} (k m : Nat) (hk : k < 16) (hm : m < 16) (ho : o.op = .binOp .or 5 x y 5) (hx : a.eval x = .int .u8 ((16 * k : Nat) : Int)) (hy : a.eval y = .int .u8 (m : Int)) : (execOp a.eval o).run Tryz.prog W = .ok (.value (.int .u8 ((16 * k + m : Nat) : Int))) W := by
  unfold execOp
  simp only [ho, hx, hy]
  go_simp
  have h : ∀ k m : Fin 16, bits BinOp.or IntKind.u8 (16 * (k.val : Int)) (m.val : Int) = 16 * (k.val : Int) + (m.val : Int) := by decide +kernel
  exact h ⟨k, hk⟩ ⟨m, hm⟩
theorem exec_lss {W : World} {a : Act} {o : Oper} {x y : Operand} {i j : Int} (ho : o.op = .binOp .lss 3 x y 3) (hx : a.eval x = .int .i64 i) (hy : a.eval y = .int .i64 j) (h : i < j) : (execOp a.eval o).run Tryz.prog W = .ok (.value (.bool true)) W := by
  unfold execOp
  simp only [ho, hx, hy]
  go_simp
theorem exec_nlss {W : World} {a : Act} {o : Oper} {x y : Operand} {i j : Int} (ho : o.op = .binOp .lss 3 x y 3) (hx : a.eval x = .int .i64 i) (hy : a.eval y = .int .i64 j) (h : ¬ (i < j)) : (execOp a.eval o).run Tryz.prog W = .ok (.value (.bool false)) W := by
  unfold execOp
  simp only [ho, hx, hy]
  go_simp
theorem pack_le (ch : List UInt8) : ∀ l : List UInt8, (pack ch l).length ≤ l.length
  | [] => Nat.le_refl _
  | [_] => by simp [pack]
  | a :: b :: r => by
    have := pack_le ch r
    simp only [pack, List.length_cons]
    omega
theorem tmod_one {n : Nat} (h : n % 2 = 1) : Int.tmod (n : Int) 2 = 1 := by
  rw [show Int.tmod (n : Int) 2 = ((n % 2 : Nat) : Int) from rfl, h]
  rfl
theorem tmod_nil {n : Nat} (h : ¬ n % 2 = 1) : Int.tmod (n : Int) 2 = 0 := by
  rw [show Int.tmod (n : Int) 2 = ((n % 2 : Nat) : Int) from rfl, show n % 2 = 0 from by omega]
  rfl
end Go.Proofs.YticofobhkmabiaaGreatDoor
namespace Go.Proofs.YticofobhkmabiaaGreatDoor
open Go.RowKit
open Fdd
set_option linter.unusedVariables false
set_option maxRecDepth 20000 in
set_option maxHeartbeats 2000000 in
theorem pput_walk {w : World} {q c B : Nat} {ch t bs : List UInt8} {A0 : Option Addr} {n0 c0 : Nat} (hq : Blk w q 141 #[placeV c]) (hc : Blk w c 9 #[strV ch]) (ht : onlyOf t ch = true) (h48 : 48 ∈ ch) (hown : Own w B 5 (.slice A0 n0 c0) bs) (hB : B ≤ w.heap.size)
    (hlen : bs.length + t.length ≤ 140737488354000) (ht1 : t.length ≤ 1000) (hch : ch.length ≤ 16) :
    Calls Tryz.prog 149 #[.slice A0 n0 c0, strV t, ptrTo q] w fun e w' => ∃ A n c', e = .returned (.slice A n c') ∧ Own w' B 5 (.slice A n c') (bs ++ pack ch (padded t)) ∧ Ext w w' (.slice A0 n0 c0) (.slice A n c') := by
  unfold ptrTo
  have HQ := Lib.hid hq
  have HC := Lib.hid hc
  have HM := Lib.hid (fun x (hx : x ∈ padded t) => padded_mem ht h48 hx)
  have HO := Lib.hid hown
  have HB := Lib.hid hB
  have hpl := padded_len t
  have HN := Lib.hid (show bs.length + (padded t).length ≤ 140737488355328 from by omega)
  have HT1 := Lib.hid ht1
  have HCH := Lib.hid hch
  clear hq hc hown hB hlen hch ht h48
  go_enter Tryz.func149, Tryz.ntmps149
  go_upto_region 1 with fail
  refine wp_region_lit ?_
  refine wR (v := strV t) rfl (exec_move rfl rfl) ?_
  simp only [Act.put, zzA, zz0, zz1]
  refine wR (v := .int .i64 (t.length : Int)) (w' := w) rfl (exec_slen rfl rfl) ?_
  simp only [Act.put, zzA, zz0, zz1]
  have hpd : padded t = if t.length % 2 = 1 then 48 :: t else t := rfl
  by_cases hodd : t.length % 2 = 1
  · rw [if_pos hodd] at hpd
    refine wR (v := .int .i64 1) (w' := w) rfl (by go_simp; exact tmod_one hodd) ?_
    simp only [Act.put, zzA, zz0, zz1]
    have HPD := Lib.hid hpd
    have HPL := Lib.hid hpl
    clear hpd hpl hodd ht1
    go_upto_region 2 with fail
    refine wp_region_lit ?_
    refine wR (v := strV t) rfl (exec_move rfl rfl) ?_
    simp only [Act.put, zzA, zz0, zz1]
    refine wR (v := strV (padded t)) (w' := w) rfl (by rw [HPD.out]; exact exec_sadd (l := [48]) rfl rfl rfl (by have := HT1.out; simp; omega)) ?_
    simp only [Act.put, zzA, zz0, zz1]
    obtain ⟨T, hTT⟩ : ∃ T, T = padded t := ⟨_, rfl⟩
    rw [← hTT]
    clear HPD
    rw [← hTT] at HPL HM HN
    have HTT := Lib.hid hTT
    clear hTT
    obtain ⟨h, hh⟩ : ∃ h, h = (t.length + 1) / 2 := ⟨_, rfl⟩
    have hT : T.length = 2 * h := by rw [hh]; exact HPL.out
    have hh1 : h ≤ 1000 := by have := HT1.out; omega
    have HT := Lib.hid hT
    have HH1 := Lib.hid hh1
    clear hT hh1 hh HPL HT1
    go_wp2_with fail
    go_loopg [0, 6] h (fun gk b i wr => ∃ (k : Nat) (A : Option Addr) (n c' : Nat), k + gk = h ∧ i = .int .i64 ((2 * k : Nat) : Int) ∧ b = .slice A n c' ∧ Own wr B 5 (.slice A n c') (bs ++ pack ch (T.take (2 * k))) ∧ Ext w wr (.slice A0 n0 c0) (.slice A n c'))
    case atStart => exact ⟨0, _, _, _, by omega, rfl, rfl, by simpa [pack] using HO.out, Ext.refl _ _⟩
    case round =>
      obtain ⟨k, A, n, c', hkl, rfl, rfl, hO, hE⟩ := hrel
      have HKL := Lib.hid hkl
      have HO' := Lib.hid hO
      have HE := Lib.hid hE
      clear hkl hO hE
      go_upto_region 4 with fail
      refine wp_region_lit ?_
      refine wR (v := .int .i64 ((2 * k : Nat) : Int)) rfl (exec_move rfl rfl) ?_
      simp only [Act.put, zzA, zz0, zz1]
      refine wR (v := strV T) rfl (exec_move rfl rfl) ?_
      simp only [Act.put, zzA, zz0, zz1]
      refine wR (v := .int .i64 ((2 * h : Nat) : Int)) (w' := wr) rfl (by rw [← HT.out]; exact exec_slen rfl rfl) ?_
      simp only [Act.put, zzA, zz0, zz1]
      by_cases hlt : k < h
      · have y1 : ((2 * k : Nat) : Int) < ((2 * h : Nat) : Int) := by omega
        refine wR (v := .bool true) (w' := wr) rfl (exec_lss rfl rfl rfl y1) ?_
        simp only [Act.put, zzA, zz0, zz1]
        have HLT := Lib.hid hlt
        clear hlt y1
        go_upto_region 6 with fail
        have hk0 : 2 * k < T.length := by rw [HT.out]; have := HLT.out; omega
        have hk1 : 2 * k + 1 < T.length := by rw [HT.out]; have := HLT.out; omega
        have hm0 : T.getD (2 * k) 0 ∈ ch := by
          rw [List.getD_eq_getElem?_getD, List.getElem?_eq_getElem hk0]
          exact HM.out _ (List.getElem_mem _)
        have hm1 : T.getD (2 * k + 1) 0 ∈ ch := by
          rw [List.getD_eq_getElem?_getD, List.getElem?_eq_getElem hk1]
          exact HM.out _ (List.getElem_mem _)
        have HK0 := Lib.hid hk0
        have HK1 := Lib.hid hk1
        have HM0 := Lib.hid hm0
        have HM1 := Lib.hid hm1
        have HP0 := Lib.hid (fun W (hW : PlS q c ch W) => place_walk hW.2 _ hm0 HCH.out)
        have HP1 := Lib.hid (fun W (hW : PlS q c ch W) => place_walk hW.2 _ hm1 HCH.out)
        have HI0 := Lib.hid (show ch.idxOf (T.getD (2 * k) 0) < 16 from Nat.lt_of_lt_of_le (idx_lt hm0) HCH.out)
        have HI1 := Lib.hid (show ch.idxOf (T.getD (2 * k + 1) 0) < 16 from Nat.lt_of_lt_of_le (idx_lt hm1) HCH.out)
        have htk := pack_take ch k T (by rw [HT.out]; have := HLT.out; omega)
        generalize ch.idxOf (T.getD (2 * k) 0) = i0 at *
        generalize ch.idxOf (T.getD (2 * k + 1) 0) = i1 at *
        have hby : ((UInt8.ofNat (16 * i0 + i1)).toNat : Int) = ((16 * i0 + i1 : Nat) : Int) := by rw [UInt8.toNat_ofNat']; have := HI0.out; have := HI1.out; omega
        generalize UInt8.ofNat (16 * i0 + i1) = z at *
        have HTK := Lib.hid htk
        have HBY := Lib.hid hby
        clear hk0 hk1 hm0 hm1 htk hby
        have hS0 : PlS q c ch wr.drew := ⟨(HQ.out.ext HE.out (row_ne HO.out HQ.out (by decide))).drew, (HC.out.ext HE.out (row_ne HO.out HC.out (by decide))).drew⟩
        have x64 : (2 * (k : Int) + 1) ≤ 2001 := by have := HLT.out; have := HH1.out; omega
        refine wp_region_till (PlS q c ch) 16 (by kernel_rfl) ?_
        refine till_pure (i := 0) (v := .slice A n c') rfl (by kernel_rfl) (by kernel_rfl) (fun _ _ _ h => h) (.inl ⟨by rfl, fun W hW => exec_move rfl rfl⟩) hS0 ?_
        simp only [Act.put, zzA, zz0, zz1]
        refine till_take (i := 1) (v := placeV c) rfl (by kernel_rfl) (by kernel_rfl) (fun _ _ _ h => h) (.inl ⟨by rfl, fun W hW => exec_load1 rfl rfl (by kernel_rfl) (hW.1.cell 0)⟩) hS0 ?_
        simp only [Act.put, zzA, zz0, zz1]
        refine till_pure (i := 2) (v := strV T) rfl (by kernel_rfl) (by kernel_rfl) (fun _ _ _ h => h) (.inl ⟨by rfl, fun W hW => exec_move rfl rfl⟩) hS0 ?_
        simp only [Act.put, zzA, zz0, zz1]
        refine till_pure (i := 3) (v := .int .i64 ((2 * k : Nat) : Int)) rfl (by kernel_rfl) (by kernel_rfl) (fun _ _ _ h => h) (.inl ⟨by rfl, fun W hW => exec_move rfl rfl⟩) hS0 ?_
        simp only [Act.put, zzA, zz0, zz1]
        refine till_pure (i := 4) (v := .int .u8 ((T.getD (2 * k) 0).toNat : Int)) rfl (by kernel_rfl) (by kernel_rfl) (fun _ _ _ h => h) (.inl ⟨by rfl, fun W hW => exec_sidx rfl rfl rfl HK0.out⟩) hS0 ?_
        simp only [Act.put, zzA, zz0, zz1]
        refine till_take (i := 7) (v := placeV c) rfl (by kernel_rfl) (by kernel_rfl) (fun _ _ _ h => h) (.inl ⟨by rfl, fun W hW => exec_load1 rfl rfl (by kernel_rfl) (hW.1.cell 0)⟩) hS0 ?_
        simp only [Act.put, zzA, zz0, zz1]
        refine till_pure (i := 8) (v := strV T) rfl (by kernel_rfl) (by kernel_rfl) (fun _ _ _ h => h) (.inl ⟨by rfl, fun W hW => exec_move rfl rfl⟩) hS0 ?_
        simp only [Act.put, zzA, zz0, zz1]
        refine till_pure (i := 9) (v := .int .i64 ((2 * k : Nat) : Int)) rfl (by kernel_rfl) (by kernel_rfl) (fun _ _ _ h => h) (.inl ⟨by rfl, fun W hW => exec_move rfl rfl⟩) hS0 ?_
        simp only [Act.put, zzA, zz0, zz1]
        refine till_pure (i := 10) (v := .int .i64 ((2 * k + 1 : Nat) : Int)) rfl (by kernel_rfl) (by kernel_rfl) (fun _ _ _ h => h) (.inl ⟨by rfl, fun W hW => by go_simp; rw [IntKind.wrap_i64]; omega⟩) hS0 ?_
        simp only [Act.put, zzA, zz0, zz1]
        refine till_pure (i := 11) (v := .int .u8 ((T.getD (2 * k + 1) 0).toNat : Int)) rfl (by kernel_rfl) (by kernel_rfl) (fun _ _ _ h => h) (.inl ⟨by rfl, fun W hW => exec_sidx rfl rfl rfl HK1.out⟩) hS0 ?_
        simp only [Act.put, zzA, zz0, zz1]
        refine till_step (i := 5) (by kernel_rfl) rfl rfl ?_
        intro K1 HK1x
        try unfold placeV
        go_wp2_with fail
        refine (HP0.out _ hS0).mono ?_
        rintro e w5 ⟨rfl, rfl⟩
        refine HK1x.out _ _ ⟨fun _ => hS0, ?_⟩
        clear HK1x
        refine till_pure (i := 6) (v := .int .u8 ((16 * i0 : Nat) : Int)) rfl (by kernel_rfl) (by kernel_rfl) (fun _ _ _ h => h) (.inl ⟨by rfl, fun W hW => exec_shl4 i0 HI0.out rfl rfl⟩) hS0 ?_
        simp only [Act.put, zzA, zz0, zz1]
        refine till_step (i := 12) (by kernel_rfl) rfl rfl ?_
        intro K1 HK1x
        try unfold placeV
        go_wp2_with fail
        refine (HP1.out _ hS0).mono ?_
        rintro e w5 ⟨rfl, rfl⟩
        refine HK1x.out _ _ ⟨fun _ => hS0, ?_⟩
        clear HK1x
        refine till_only (i := 13) (by kernel_rfl) rfl rfl ?_
        refine wp_run (v := .int .u8 (z.toNat : Int)) (w' := wr.drew) (by rw [HBY.out]; exact exec_or i0 i1 HI0.out HI1.out rfl rfl rfl) ?_
        refine ⟨fun _ => hS0, ?_⟩
        simp only [Act.put, zzA, zz0, zz1]
        obtain ⟨j0, hj0, hjz, hj1, hj2⟩ := info_parts byteInfo
        refine till_only (i := 14) (by kernel_rfl) rfl rfl ?_
        refine wp_run (exec_buildSlice1 rfl rfl (run_buildSlice_one (v := .int .u8 (z.toNat : Int)) Tryz.underlying26 hj0 hjz (by rw [hj1]; rfl) (by rw [hj1]; rfl) (by omega) (by omega) _)) ?_
        refine ⟨fun _ => ⟨hS0.1.alloc _, hS0.2.alloc _⟩, ?_⟩
        simp only [Act.put, zzA, zz0, zz1]
        obtain ⟨A6, c6, w6, hrun, hown6, hext6⟩ := append_news (m := 1) (c := 1) (w := wr.drew) HO'.out.drew (Nat.le_trans HB.out HE.out.tr.size) [z] (by
          have hn := HN.out
          have h1 := HK0.out
          have h2 : (pack ch (T.take (2 * k))).length ≤ (T.take (2 * k)).length := pack_le ch _
          rw [List.length_take] at h2
          rw [List.length_append]
          simp
          omega) rfl
        refine till_only (i := 15) (by kernel_rfl) rfl rfl ?_
        refine wp_run (v := .slice A6 ((bs ++ pack ch (T.take (2 * k))).length + 1) c6) (w' := w6) (exec_append rfl rfl rfl hrun) ?_
        refine ⟨fun _ => ⟨hS0.1.ext hext6 (row_ne HO'.out hS0.1 (by decide)), hS0.2.ext hext6 (row_ne HO'.out hS0.2 (by decide))⟩, ?_⟩
        simp only [Act.put, zzA, zz0, zz1]
        have HO6 := Lib.hid hown6
        have HE6 := Lib.hid hext6
        clear hrun hown6 hext6 hS0
        generalize ((bs ++ pack ch (T.take (2 * k))).length + 1) = n6 at *
        refine till_tail 16 rfl (by kernel_rfl) ?_
        go_wp2_with fail
        refine NoPanic.normal ?_
        go_wp2_with fail
        go_roundg (gk - 1)
        case measure => have := HKL.out; have := HLT.out; omega
        case rel =>
          refine ⟨k + 1, A6, n6, c6, by have := HKL.out; have := HLT.out; omega, by go_num, rfl, ?_, ?_⟩
          · rw [show 2 * (k + 1) = 2 * k + 2 from by omega, HTK.out, ← List.append_assoc]
            exact HO6.out
          · exact (HE.out.still (Turn.drew (Turn.refl _ _))).trans HE6.out
      · have hke : k = h := by have := HKL.out; omega
        have y1 : ¬ (((2 * k : Nat) : Int) < ((2 * h : Nat) : Int)) := by omega
        refine wR (v := .bool false) (w' := wr) rfl (exec_nlss rfl rfl rfl y1) ?_
        simp only [Act.put, zzA, zz0, zz1]
        have HKE := Lib.hid hke
        clear hlt hke y1
        go_wp2_with fail
        go_ret
        refine ⟨A, n, c', rfl, ?_, HE.out⟩
        have := HO'.out
        rw [List.take_of_length_le (by rw [HT.out, HKE.out]; exact Nat.le_refl _)] at this
        rw [← HTT.out]
        exact this
  · rw [if_neg hodd] at hpd
    refine wR (v := .int .i64 0) (w' := w) rfl (by go_simp; exact tmod_nil hodd) ?_
    simp only [Act.put, zzA, zz0, zz1]
    have HPL := Lib.hid hpl
    have HPD := Lib.hid hpd
    clear hpl hodd ht1 hpd
    obtain ⟨T, hTT⟩ : ∃ T, T = padded t := ⟨_, rfl⟩
    have hTt : T = t := hTT.trans HPD.out
    rw [← hTt]
    clear hTt HPD
    rw [← hTT] at HPL HM HN
    have HTT := Lib.hid hTT
    clear hTT
    obtain ⟨h, hh⟩ : ∃ h, h = (t.length + 1) / 2 := ⟨_, rfl⟩
    have hT : T.length = 2 * h := by rw [hh]; exact HPL.out
    have hh1 : h ≤ 1000 := by have := HT1.out; omega
    have HT := Lib.hid hT
    have HH1 := Lib.hid hh1
    clear hT hh1 hh HPL HT1
    go_wp2_with fail
    go_loopg [0, 6] h (fun gk b i wr => ∃ (k : Nat) (A : Option Addr) (n c' : Nat), k + gk = h ∧ i = .int .i64 ((2 * k : Nat) : Int) ∧ b = .slice A n c' ∧ Own wr B 5 (.slice A n c') (bs ++ pack ch (T.take (2 * k))) ∧ Ext w wr (.slice A0 n0 c0) (.slice A n c'))
    case atStart => exact ⟨0, _, _, _, by omega, rfl, rfl, by simpa [pack] using HO.out, Ext.refl _ _⟩
    case round =>
      obtain ⟨k, A, n, c', hkl, rfl, rfl, hO, hE⟩ := hrel
      have HKL := Lib.hid hkl
      have HO' := Lib.hid hO
      have HE := Lib.hid hE
      clear hkl hO hE
      go_upto_region 4 with fail
      refine wp_region_lit ?_
      refine wR (v := .int .i64 ((2 * k : Nat) : Int)) rfl (exec_move rfl rfl) ?_
      simp only [Act.put, zzA, zz0, zz1]
      refine wR (v := strV T) rfl (exec_move rfl rfl) ?_
      simp only [Act.put, zzA, zz0, zz1]
      refine wR (v := .int .i64 ((2 * h : Nat) : Int)) (w' := wr) rfl (by rw [← HT.out]; exact exec_slen rfl rfl) ?_
      simp only [Act.put, zzA, zz0, zz1]
      by_cases hlt : k < h
      · have y1 : ((2 * k : Nat) : Int) < ((2 * h : Nat) : Int) := by omega
        refine wR (v := .bool true) (w' := wr) rfl (exec_lss rfl rfl rfl y1) ?_
        simp only [Act.put, zzA, zz0, zz1]
        have HLT := Lib.hid hlt
        clear hlt y1
        go_upto_region 6 with fail
        have hk0 : 2 * k < T.length := by rw [HT.out]; have := HLT.out; omega
        have hk1 : 2 * k + 1 < T.length := by rw [HT.out]; have := HLT.out; omega
        have hm0 : T.getD (2 * k) 0 ∈ ch := by
          rw [List.getD_eq_getElem?_getD, List.getElem?_eq_getElem hk0]
          exact HM.out _ (List.getElem_mem _)
        have hm1 : T.getD (2 * k + 1) 0 ∈ ch := by
          rw [List.getD_eq_getElem?_getD, List.getElem?_eq_getElem hk1]
          exact HM.out _ (List.getElem_mem _)
        have HK0 := Lib.hid hk0
        have HK1 := Lib.hid hk1
        have HM0 := Lib.hid hm0
        have HM1 := Lib.hid hm1
        have HP0 := Lib.hid (fun W (hW : PlS q c ch W) => place_walk hW.2 _ hm0 HCH.out)
        have HP1 := Lib.hid (fun W (hW : PlS q c ch W) => place_walk hW.2 _ hm1 HCH.out)
        have HI0 := Lib.hid (show ch.idxOf (T.getD (2 * k) 0) < 16 from Nat.lt_of_lt_of_le (idx_lt hm0) HCH.out)
        have HI1 := Lib.hid (show ch.idxOf (T.getD (2 * k + 1) 0) < 16 from Nat.lt_of_lt_of_le (idx_lt hm1) HCH.out)
        have htk := pack_take ch k T (by rw [HT.out]; have := HLT.out; omega)
        generalize ch.idxOf (T.getD (2 * k) 0) = i0 at *
        generalize ch.idxOf (T.getD (2 * k + 1) 0) = i1 at *
        have hby : ((UInt8.ofNat (16 * i0 + i1)).toNat : Int) = ((16 * i0 + i1 : Nat) : Int) := by rw [UInt8.toNat_ofNat']; have := HI0.out; have := HI1.out; omega
        generalize UInt8.ofNat (16 * i0 + i1) = z at *
        have HTK := Lib.hid htk
        have HBY := Lib.hid hby
        clear hk0 hk1 hm0 hm1 htk hby
        have hS0 : PlS q c ch wr.drew := ⟨(HQ.out.ext HE.out (row_ne HO.out HQ.out (by decide))).drew, (HC.out.ext HE.out (row_ne HO.out HC.out (by decide))).drew⟩
        have x64 : (2 * (k : Int) + 1) ≤ 2001 := by have := HLT.out; have := HH1.out; omega
        refine wp_region_till (PlS q c ch) 16 (by kernel_rfl) ?_
        refine till_pure (i := 0) (v := .slice A n c') rfl (by kernel_rfl) (by kernel_rfl) (fun _ _ _ h => h) (.inl ⟨by rfl, fun W hW => exec_move rfl rfl⟩) hS0 ?_
        simp only [Act.put, zzA, zz0, zz1]
        refine till_take (i := 1) (v := placeV c) rfl (by kernel_rfl) (by kernel_rfl) (fun _ _ _ h => h) (.inl ⟨by rfl, fun W hW => exec_load1 rfl rfl (by kernel_rfl) (hW.1.cell 0)⟩) hS0 ?_
        simp only [Act.put, zzA, zz0, zz1]
        refine till_pure (i := 2) (v := strV T) rfl (by kernel_rfl) (by kernel_rfl) (fun _ _ _ h => h) (.inl ⟨by rfl, fun W hW => exec_move rfl rfl⟩) hS0 ?_
        simp only [Act.put, zzA, zz0, zz1]
        refine till_pure (i := 3) (v := .int .i64 ((2 * k : Nat) : Int)) rfl (by kernel_rfl) (by kernel_rfl) (fun _ _ _ h => h) (.inl ⟨by rfl, fun W hW => exec_move rfl rfl⟩) hS0 ?_
        simp only [Act.put, zzA, zz0, zz1]
        refine till_pure (i := 4) (v := .int .u8 ((T.getD (2 * k) 0).toNat : Int)) rfl (by kernel_rfl) (by kernel_rfl) (fun _ _ _ h => h) (.inl ⟨by rfl, fun W hW => exec_sidx rfl rfl rfl HK0.out⟩) hS0 ?_
        simp only [Act.put, zzA, zz0, zz1]
        refine till_take (i := 7) (v := placeV c) rfl (by kernel_rfl) (by kernel_rfl) (fun _ _ _ h => h) (.inl ⟨by rfl, fun W hW => exec_load1 rfl rfl (by kernel_rfl) (hW.1.cell 0)⟩) hS0 ?_
        simp only [Act.put, zzA, zz0, zz1]
        refine till_pure (i := 8) (v := strV T) rfl (by kernel_rfl) (by kernel_rfl) (fun _ _ _ h => h) (.inl ⟨by rfl, fun W hW => exec_move rfl rfl⟩) hS0 ?_
        simp only [Act.put, zzA, zz0, zz1]
        refine till_pure (i := 9) (v := .int .i64 ((2 * k : Nat) : Int)) rfl (by kernel_rfl) (by kernel_rfl) (fun _ _ _ h => h) (.inl ⟨by rfl, fun W hW => exec_move rfl rfl⟩) hS0 ?_
        simp only [Act.put, zzA, zz0, zz1]
        refine till_pure (i := 10) (v := .int .i64 ((2 * k + 1 : Nat) : Int)) rfl (by kernel_rfl) (by kernel_rfl) (fun _ _ _ h => h) (.inl ⟨by rfl, fun W hW => by go_simp; rw [IntKind.wrap_i64]; omega⟩) hS0 ?_
        simp only [Act.put, zzA, zz0, zz1]
        refine till_pure (i := 11) (v := .int .u8 ((T.getD (2 * k + 1) 0).toNat : Int)) rfl (by kernel_rfl) (by kernel_rfl) (fun _ _ _ h => h) (.inl ⟨by rfl, fun W hW => exec_sidx rfl rfl rfl HK1.out⟩) hS0 ?_
        simp only [Act.put, zzA, zz0, zz1]
        refine till_step (i := 5) (by kernel_rfl) rfl rfl ?_
        intro K1 HK1x
        try unfold placeV
        go_wp2_with fail
        refine (HP0.out _ hS0).mono ?_
        rintro e w5 ⟨rfl, rfl⟩
        refine HK1x.out _ _ ⟨fun _ => hS0, ?_⟩
        clear HK1x
        refine till_pure (i := 6) (v := .int .u8 ((16 * i0 : Nat) : Int)) rfl (by kernel_rfl) (by kernel_rfl) (fun _ _ _ h => h) (.inl ⟨by rfl, fun W hW => exec_shl4 i0 HI0.out rfl rfl⟩) hS0 ?_
        simp only [Act.put, zzA, zz0, zz1]
        refine till_step (i := 12) (by kernel_rfl) rfl rfl ?_
        intro K1 HK1x
        try unfold placeV
        go_wp2_with fail
        refine (HP1.out _ hS0).mono ?_
        rintro e w5 ⟨rfl, rfl⟩
        refine HK1x.out _ _ ⟨fun _ => hS0, ?_⟩
        clear HK1x
        refine till_only (i := 13) (by kernel_rfl) rfl rfl ?_
        refine wp_run (v := .int .u8 (z.toNat : Int)) (w' := wr.drew) (by rw [HBY.out]; exact exec_or i0 i1 HI0.out HI1.out rfl rfl rfl) ?_
        refine ⟨fun _ => hS0, ?_⟩
        simp only [Act.put, zzA, zz0, zz1]
        obtain ⟨j0, hj0, hjz, hj1, hj2⟩ := info_parts byteInfo
        refine till_only (i := 14) (by kernel_rfl) rfl rfl ?_
        refine wp_run (exec_buildSlice1 rfl rfl (run_buildSlice_one (v := .int .u8 (z.toNat : Int)) Tryz.underlying26 hj0 hjz (by rw [hj1]; rfl) (by rw [hj1]; rfl) (by omega) (by omega) _)) ?_
        refine ⟨fun _ => ⟨hS0.1.alloc _, hS0.2.alloc _⟩, ?_⟩
        simp only [Act.put, zzA, zz0, zz1]
        obtain ⟨A6, c6, w6, hrun, hown6, hext6⟩ := append_news (m := 1) (c := 1) (w := wr.drew) HO'.out.drew (Nat.le_trans HB.out HE.out.tr.size) [z] (by
          have hn := HN.out
          have h1 := HK0.out
          have h2 : (pack ch (T.take (2 * k))).length ≤ (T.take (2 * k)).length := pack_le ch _
          rw [List.length_take] at h2
          rw [List.length_append]
          simp
          omega) rfl
        refine till_only (i := 15) (by kernel_rfl) rfl rfl ?_
        refine wp_run (v := .slice A6 ((bs ++ pack ch (T.take (2 * k))).length + 1) c6) (w' := w6) (exec_append rfl rfl rfl hrun) ?_
        refine ⟨fun _ => ⟨hS0.1.ext hext6 (row_ne HO'.out hS0.1 (by decide)), hS0.2.ext hext6 (row_ne HO'.out hS0.2 (by decide))⟩, ?_⟩
        simp only [Act.put, zzA, zz0, zz1]
        have HO6 := Lib.hid hown6
        have HE6 := Lib.hid hext6
        clear hrun hown6 hext6 hS0
        generalize ((bs ++ pack ch (T.take (2 * k))).length + 1) = n6 at *
        refine till_tail 16 rfl (by kernel_rfl) ?_
        go_wp2_with fail
        refine NoPanic.normal ?_
        go_wp2_with fail
        go_roundg (gk - 1)
        case measure => have := HKL.out; have := HLT.out; omega
        case rel =>
          refine ⟨k + 1, A6, n6, c6, by have := HKL.out; have := HLT.out; omega, by go_num, rfl, ?_, ?_⟩
          · rw [show 2 * (k + 1) = 2 * k + 2 from by omega, HTK.out, ← List.append_assoc]
            exact HO6.out
          · exact (HE.out.still (Turn.drew (Turn.refl _ _))).trans HE6.out
      · have hke : k = h := by have := HKL.out; omega
        have y1 : ¬ (((2 * k : Nat) : Int) < ((2 * h : Nat) : Int)) := by omega
        refine wR (v := .bool false) (w' := wr) rfl (exec_nlss rfl rfl rfl y1) ?_
        simp only [Act.put, zzA, zz0, zz1]
        have HKE := Lib.hid hke
        clear hlt hke y1
        go_wp2_with fail
        go_ret
        refine ⟨A, n, c', rfl, ?_, HE.out⟩
        have := HO'.out
        rw [List.take_of_length_le (by rw [HT.out, HKE.out]; exact Nat.le_refl _)] at this
        rw [← HTT.out]
        exact this
end Go.Proofs.YticofobhkmabiaaGreatDoor
namespace Go.Proofs.YticofobhkmabiaaGreatDoor
open Go.RowKit
open Fdd
set_option linter.unusedVariables false
theorem exec_shr4 {W : World} {a : Act} {o : Oper} {x : Operand} (z : UInt8) (ho : o.op = .binOp .shr 5 x (.const (.int .u64 4)) 172) (hx : a.eval x = .int .u8 (z.toNat : Int)) : (execOp a.eval o).run Tryz.prog W = .ok (.value (.int .u8 ((z.toNat / 16 : Nat) : Int))) W := by
  unfold execOp
  simp only [ho, hx]
  go_simp
theorem exec_and15 {W : World} {a : Act} {o : Oper} {x : Operand} (z : UInt8) (ho : o.op = .binOp .and 5 x (.const (.int .u8 15)) 5) (hx : a.eval x = .int .u8 (z.toNat : Int)) : (execOp a.eval o).run Tryz.prog W = .ok (.value (.int .u8 ((z.toNat % 16 : Nat) : Int))) W := by
  unfold execOp
  simp only [ho, hx]
  go_simp
  have h : ∀ k : Fin 256, bits BinOp.and IntKind.u8 (k.val : Int) 15 = (k.val : Int) % 16 := by decide +kernel
  exact h ⟨z.toNat, z.toNat_lt⟩
theorem exec_sub {W : World} {a : Act} {o : Oper} {x y : Operand} {m n : Nat} (ho : o.op = .binOp .sub 3 x y 3) (hx : a.eval x = .int .i64 (m : Int)) (hy : a.eval y = .int .i64 (n : Int)) (h : n ≤ m) (hm : m ≤ 1000000) : (execOp a.eval o).run Tryz.prog W = .ok (.value (.int .i64 ((m - n : Nat) : Int))) W := by
  unfold execOp
  simp only [ho, hx, hy]
  have e : IntKind.i64.wrap ((m : Int) - (n : Int)) = ((m - n : Nat) : Int) := by
    rw [IntKind.wrap_i64]
    omega
  rw [← e]
  go_simp
theorem exec_u8int {W : World} {a : Act} {o : Oper} {x : Operand} (n : Nat) (hn : n < 256) (ho : o.op = .convert 5 3 x) (hx : a.eval x = .int .u8 (n : Int)) : (execOp a.eval o).run Tryz.prog W = .ok (.value (.int .i64 (n : Int))) W := by
  unfold execOp
  simp only [ho, hx]
  go_simp
  rw [IntKind.wrap_i64]
  omega
theorem build_two (x y : Int) (W : World) : (Instr.buildSlice 26 2 #[(0, .int .u8 x), (1, .int .u8 y)]).run Tryz.prog W = .ok (.slice (some ⟨W.heap.size, 0, none⟩) 2 2) (W.alloc (.cells #[.int .u8 x, .int .u8 y] 5)) := by kernel_rfl
theorem exec_build2 {P : Program} {a : Act} {o : Oper} {t : TypeId} {x y : Operand} {u v r : Value} {W W' : World} (ho : o.op = .buildSlice t 2 #[(0, x), (1, y)]) (hx : a.eval x = u) (hy : a.eval y = v)
    (h : (Instr.buildSlice t 2 #[(0, u), (1, v)]).run P W = .ok r W') : (execOp a.eval o).run P W = .ok (.value r) W' := by
  unfold execOp
  simp only [ho, List.map_toArray, List.map_cons, List.map_nil, hx, hy, h, Sem.run_bind, Sem.run_pure, Result.andThen_ok]
theorem unpack_len (ch : List UInt8) : ∀ bs : List UInt8, (unpack ch bs).length = 2 * bs.length
  | [] => rfl
  | x :: r => by
    have := unpack_len ch r
    simp only [unpack, List.length_cons]
    omega
theorem unpack_snoc (ch : List UInt8) : ∀ (k : Nat) (bs : List UInt8), k < bs.length → unpack ch (bs.take (k + 1)) = unpack ch (bs.take k) ++ [ch.getD ((bs.getD k 0).toNat / 16) 0, ch.getD ((bs.getD k 0).toNat % 16) 0]
  | 0, x :: r, _ => by simp [unpack]
  | k + 1, x :: r, h => by
    have ih := unpack_snoc ch k r (by simpa using h)
    simp only [List.take_succ_cons, unpack, List.cons_append, List.getD_cons_succ]
    rw [ih]
  | _, [], h => by simp at h
def okB (ch : List UInt8) (x : UInt8) : Prop := x.toNat / 16 < ch.length ∧ x.toNat % 16 < ch.length
theorem packOk_of {ch bs : List UInt8} (h : ∀ x ∈ bs, okB ch x) : packOk ch bs = true := by
  unfold packOk
  rw [List.all_eq_true]
  intro x hx
  have := h x hx
  simp only [Bool.and_eq_true, decide_eq_true_eq]
  exact this
theorem packOk_not {ch bs : List UInt8} {x : UInt8} (hx : x ∈ bs) (h : ¬ okB ch x) : packOk ch bs = false := by
  rw [Bool.eq_false_iff]
  intro hp
  have := List.all_eq_true.1 hp x hx
  simp only [Bool.and_eq_true, decide_eq_true_eq] at this
  exact h this
theorem slice_end (g L c d : Nat) (h0 : d < L) (hc : L ≤ c) (W : World) : (Instr.sliceAt 26 (.slice (some ⟨g, 0, none⟩) L c) (some (.int .i64 (d : Int))) none none).run Tryz.prog W = .ok (.slice (some ⟨g, d, none⟩) (L - d) (c - d)) W := by
  have hi : ∃ i, Tryz.prog.info? 5 = some i ∧ i.size = 1 := by
    have h := byteInfo
    cases hq : Tryz.prog.info? 5 with
    | none => rw [hq] at h; cases h
    | some i => exact ⟨i, rfl, by rw [hq] at h; simp at h; exact h.2.1⟩
  obtain ⟨i, hi1, hi2⟩ := hi
  have e1 : (⟨g, 0, none⟩ : Addr).add d = ⟨g, d, none⟩ := by rw [add_nat, Nat.zero_add]
  have b1 : (0 : Int) ≤ (d : Int) ∧ (d : Int) ≤ (L : Int) := ⟨by omega, by omega⟩
  have hne : c ≠ d := by omega
  have hu := Tryz.underlying26
  simp [Instr.sliceAt, Instr.slice, Instr.sliceBounds, Instr.sliceBound, asIntOf, run_underlying hu, sizeOf, typeInfo, hi1, hi2, b1, hne, e1]
  intro h
  omega
theorem own_slice {W : World} {B g L c d : Nat} {xs : List UInt8} (h : Own W B 5 (.slice (some ⟨g, 0, none⟩) L c) xs) (hL : xs.length = L) (hm : L ≤ 100000) : Bs W (some ⟨g, d, none⟩) (L - d) (xs.drop d) := by
  refine ⟨by rw [List.length_drop, hL], by unfold maxLen; omega, fun hp => ⟨g, d, rfl, fun i hi => ?_⟩⟩
  have hc := World.ownsRow.cells (g := g) h rfl (d + i) _ (bcs_at xs (d + i) (by omega))
  rw [add_nat, Nat.zero_add] at hc
  rw [hc, List.getD_eq_getElem?_getD, List.getD_eq_getElem?_getD, List.getElem?_drop]
def CsS (c : Nat) (ch : List UInt8) (W : World) : Prop := Blk W c 9 #[strV ch]
set_option maxRecDepth 20000 in
set_option maxHeartbeats 2000000 in
theorem ptake_walk {w : World} {c n m cap : Nat} {ch bs : List UInt8} {A : Option Addr} (hc : Blk w c 9 #[strV ch]) (hb : Bs w A m bs) (hm : m = (n + 1) / 2) (hn : n ≤ 1000) (hn1 : 1 ≤ n) (hch : ch.length ≤ 1000) :
    Calls Tryz.prog 150 #[.slice A m cap, .int .i64 (n : Int), ptrTo c] w fun e w' => e = .returned (optV (unpacked ch bs n)) ∧ Turn nowhere w w' := by
  unfold ptrTo
  have HC := Lib.hid hc
  have HB := Lib.hid hb
  have HM := Lib.hid hm
  have HN := Lib.hid hn
  have HN1 := Lib.hid hn1
  have hm1 : m ≤ 501 := by omega
  have HM1 := Lib.hid hm1
  clear hc hb hm hn hn1
  go_enter Tryz.func150, Tryz.ntmps150
  go_upto_region 1 with fail
  refine wp_region_lit ?_
  refine wR (v := .slice A m cap) rfl (exec_move rfl rfl) ?_
  simp only [Act.put, zzA, zz0, zz1]
  refine wR (v := .int .i64 (m : Int)) (w' := w) rfl (by go_simp) ?_
  simp only [Act.put, zzA, zz0, zz1]
  refine wR (v := .int .i64 ((2 * m : Nat) : Int)) (w' := w) rfl (by go_simp; rw [IntKind.wrap_i64]; omega) ?_
  simp only [Act.put, zzA, zz0, zz1]
  refine wR (v := .slice (some ⟨w.heap.size, 0, none⟩) 0 (2 * m)) (w' := w.alloc (.cells (bcs (List.replicate (2 * m) 0)).toArray 5)) rfl (exec_makeV rfl rfl rfl (make_bytes 0 (2 * m) (by omega) (by omega) w)) ?_
  simp only [Act.put, zzA, zz0, zz1]
  have hg : Own (w.alloc (.cells (bcs (List.replicate (2 * m) 0)).toArray 5)) w.heap.size 5 (.slice (some ⟨w.heap.size, 0, none⟩) 0 (2 * m)) [] := World.ownsRow_made w _ (2 * m) (Nat.le_refl _) (by unfold maxLen; omega) (by simp [bcs])
  have ht := (Turn.refl nowhere w).alloc (.cells (bcs (List.replicate (2 * m) 0)).toArray 5)
  generalize (w.alloc (.cells (bcs (List.replicate (2 * m) 0)).toArray 5)) = w1 at *
  have HG := Lib.hid hg
  have HT := Lib.hid ht
  have HBL := Lib.hid (show bs.length = m from HB.out.1)
  clear hg ht hm1
  go_wp2_with fail
  go_loopg [7, 18] m (fun gk v i wr => ∃ (k : Nat) (A' : Option Addr) (n' c' : Nat), k + gk = m ∧ i = .int .i64 (k : Int) ∧ v = .slice A' n' c' ∧ Own wr w.heap.size 5 (.slice A' n' c') (unpack ch (bs.take k)) ∧ Turn nowhere w wr ∧ ∀ x ∈ bs.take k, okB ch x)
  case atStart => exact ⟨0, _, _, _, by omega, rfl, rfl, by simpa [unpack] using HG.out, HT.out, fun x hx => by simp at hx⟩
  case round =>
    obtain ⟨k, A', n', c', hkl, rfl, rfl, hown, htr, hin⟩ := hrel
    have HKL := Lib.hid hkl
    have HO := Lib.hid hown
    have HTR := Lib.hid htr
    have HIN := Lib.hid hin
    clear hkl hown htr hin
    by_cases hlt : k < m
    · have y1 : (k : Int) < (m : Int) := by omega
      have y2 : (0 : Int) ≤ (k : Int) := by omega
      have y3 : (m : Int) ≤ 501 := by have := HM1.out; omega
      obtain ⟨h1, h2, h3⟩ := bs_turn HB.out HTR.out
      obtain ⟨b, off, rfl, hcell⟩ := h3 (by omega)
      have hcell := hcell k hlt
      have hkb : k < bs.length := by rw [HBL.out]; exact hlt
      have HKB := Lib.hid hkb
      have HLT := Lib.hid hlt
      have hmem : bs.getD k 0 ∈ bs := by
        rw [List.getD_eq_getElem?_getD, List.getElem?_eq_getElem hkb]
        exact List.getElem_mem _
      have HMEM := Lib.hid hmem
      have hus := unpack_snoc ch k bs hkb
      obtain ⟨x, hx⟩ : ∃ x, x = bs.getD k 0 := ⟨_, rfl⟩
      rw [← hx] at hcell hmem hus
      have HXK := Lib.hid hx
      have HUS := Lib.hid hus
      clear hlt h1 h2 h3 hkb hx hus
      go_upto_region 5 with fail
      clear hcell
      have x16 : x.toNat / 16 < 16 := by have := x.toNat_lt; omega
      have X16 := Lib.hid x16
      clear x16
      refine wp_region_lit ?_
      refine wR (v := .int .u8 (x.toNat : Int)) rfl (exec_move rfl rfl) ?_
      simp only [Act.put, zzA, zz0, zz1]
      refine wR (v := .int .u8 ((x.toNat / 16 : Nat) : Int)) (w' := wr) rfl (exec_shr4 x rfl rfl) ?_
      simp only [Act.put, zzA, zz0, zz1]
      refine wR (v := .int .i64 ((x.toNat / 16 : Nat) : Int)) (w' := wr) rfl (exec_u8int _ (by have := X16.out; omega) rfl rfl) ?_
      simp only [Act.put, zzA, zz0, zz1]
      refine wR (v := .int .u8 (x.toNat : Int)) rfl (exec_move rfl rfl) ?_
      simp only [Act.put, zzA, zz0, zz1]
      refine wR (v := .int .u8 ((x.toNat % 16 : Nat) : Int)) (w' := wr) rfl (exec_and15 x rfl rfl) ?_
      simp only [Act.put, zzA, zz0, zz1]
      refine wR (v := .int .i64 ((x.toNat % 16 : Nat) : Int)) (w' := wr) rfl (exec_u8int _ (by omega) rfl rfl) ?_
      simp only [Act.put, zzA, zz0, zz1]
      have cc : wr.cell? ⟨c, 0, none⟩ = some (.string ⟨ch.toArray⟩) := (HC.out.turn HTR.out (fun e => e)).cell 0
      have hsz := str_size ch
      have hup : unpack ch (bs.take (k + 1)) = unpack ch (bs.take k) ++ [ch.getD (x.toNat / 16) 0, ch.getD (x.toNat % 16) 0] := HUS.out
      obtain ⟨hi, hhi⟩ : ∃ hi, hi = x.toNat / 16 := ⟨_, rfl⟩
      obtain ⟨lo, hlo⟩ : ∃ lo, lo = x.toNat % 16 := ⟨_, rfl⟩
      rw [← hhi, ← hlo] at hup ⊢
      have HUP := Lib.hid hup
      have HHI := Lib.hid hhi
      have HLO := Lib.hid hlo
      clear HUS X16 hup hhi hlo
      obtain ⟨s, hs⟩ : ∃ s : ByteArray, s = ⟨ch.toArray⟩ := ⟨_, rfl⟩
      rw [← hs] at cc hsz
      have HS := Lib.hid hs
      have HSZ := Lib.hid hsz
      clear hs hsz
      have z1 : (0 : Int) ≤ (hi : Int) := by omega
      have z2 : (0 : Int) ≤ (lo : Int) := by omega
      by_cases hgood : hi < s.size ∧ lo < s.size
      · have y5 : ¬ ((s.size : Int) ≤ (hi : Int)) := by omega
        have y6 : ¬ ((s.size : Int) ≤ (lo : Int)) := by omega
        have HGD := Lib.hid hgood
        clear hgood
        go_upto_region 8 with fail
        have hS0 : CsS c ch wr.drew := (HC.out.turn HTR.out (fun e => e)).drew
        have HZ := Lib.hid (show okB ch x from ⟨by rw [← HHI.out, ← HSZ.out]; exact HGD.out.1, by rw [← HLO.out, ← HSZ.out]; exact HGD.out.2⟩)
        have hgh : hi < ch.length := by rw [← HSZ.out]; exact HGD.out.1
        have hgl : lo < ch.length := by rw [← HSZ.out]; exact HGD.out.2
        have HGH := Lib.hid hgh
        have HGL := Lib.hid hgl
        clear hgh hgl cc y5 y6 HGD HSZ HS
        refine wp_region_till (CsS c ch) 9 (by kernel_rfl) ?_
        refine till_pure (i := 0) (v := .slice A' n' c') rfl (by kernel_rfl) (by kernel_rfl) (fun _ _ _ h => h) (.inl ⟨by rfl, fun W hW => exec_move rfl rfl⟩) hS0 ?_
        simp only [Act.put, zzA, zz0, zz1]
        refine till_take (i := 1) (v := strV ch) rfl (by kernel_rfl) (by kernel_rfl) (fun _ _ _ h => h) (.inl ⟨by rfl, fun W hW => exec_load1 rfl rfl (by kernel_rfl) (Blk.cell hW 0)⟩) hS0 ?_
        simp only [Act.put, zzA, zz0, zz1]
        refine till_pure (i := 2) (v := .int .i64 (hi : Int)) rfl (by kernel_rfl) (by kernel_rfl) (fun _ _ _ h => h) (.inl ⟨by rfl, fun W hW => exec_move rfl rfl⟩) hS0 ?_
        simp only [Act.put, zzA, zz0, zz1]
        refine till_pure (i := 3) (v := .int .u8 ((ch.getD hi 0).toNat : Int)) rfl (by kernel_rfl) (by kernel_rfl) (fun _ _ _ h => h) (.inl ⟨by rfl, fun W hW => exec_sidx rfl rfl rfl HGH.out⟩) hS0 ?_
        simp only [Act.put, zzA, zz0, zz1]
        refine till_take (i := 4) (v := strV ch) rfl (by kernel_rfl) (by kernel_rfl) (fun _ _ _ h => h) (.inl ⟨by rfl, fun W hW => exec_load1 rfl rfl (by kernel_rfl) (Blk.cell hW 0)⟩) hS0 ?_
        simp only [Act.put, zzA, zz0, zz1]
        refine till_pure (i := 5) (v := .int .i64 (lo : Int)) rfl (by kernel_rfl) (by kernel_rfl) (fun _ _ _ h => h) (.inl ⟨by rfl, fun W hW => exec_move rfl rfl⟩) hS0 ?_
        simp only [Act.put, zzA, zz0, zz1]
        refine till_pure (i := 6) (v := .int .u8 ((ch.getD lo 0).toNat : Int)) rfl (by kernel_rfl) (by kernel_rfl) (fun _ _ _ h => h) (.inl ⟨by rfl, fun W hW => exec_sidx rfl rfl rfl HGL.out⟩) hS0 ?_
        simp only [Act.put, zzA, zz0, zz1]
        refine till_only (i := 7) (by kernel_rfl) rfl rfl ?_
        refine wp_run (exec_build2 rfl rfl rfl (build_two _ _ _)) ?_
        refine ⟨fun _ => hS0.alloc _, ?_⟩
        simp only [Act.put, zzA, zz0, zz1]
        obtain ⟨A6, c6, w6, hrun, hown6, hext6⟩ := append_news (m := 2) (c := 2) (w := wr.drew) HO.out.drew (Nat.le_trans HTR.out.size (Nat.le_refl _)) [ch.getD hi 0, ch.getD lo 0] (by
          rw [unpack_len, List.length_take]
          have := HM1.out
          have := HLT.out
          simp
          omega) rfl
        refine till_only (i := 8) (by kernel_rfl) rfl rfl ?_
        refine wp_run (v := .slice A6 ((unpack ch (bs.take k)).length + 2) c6) (w' := w6) (exec_append rfl rfl rfl hrun) ?_
        refine ⟨fun _ => Blk.ext hS0 hext6 (row_ne HO.out hS0 (by decide)), ?_⟩
        simp only [Act.put, zzA, zz0, zz1]
        have HO6 := Lib.hid hown6
        have HE6 := Lib.hid hext6
        clear hrun hown6 hext6 hS0
        generalize ((unpack ch (bs.take k)).length + 2) = n6 at *
        refine till_tail 9 rfl (by kernel_rfl) ?_
        go_wp2_with fail
        refine NoPanic.normal ?_
        go_wp2_with fail
        go_roundg (gk - 1)
        case measure => have := HKL.out; have := HLT.out; omega
        case rel =>
          refine ⟨k + 1, A6, n6, c6, by have := HKL.out; have := HLT.out; omega, by go_num, rfl, ?_, ?_, ?_⟩
          · rw [HUP.out]
            exact HO6.out
          · refine (HTR.out.drew).trans HE6.out.tr fun j hj e => ?_
            have := (HO.out.lt j e.symm).1
            omega
          · intro y hy
            rw [List.take_add_one, List.mem_append] at hy
            rcases hy with hy | hy
            · exact HIN.out y hy
            · rw [List.getElem?_eq_getElem HKB.out] at hy
              have hxk := HXK.out
              rw [List.getD_eq_getElem?_getD, List.getElem?_eq_getElem HKB.out] at hxk
              simp at hy hxk
              rw [hy, ← hxk]
              exact HZ.out
      · have HNO := Lib.hid (show unpacked ch bs n = none from by
          unfold unpacked
          rw [packOk_not (x := x) (by rw [HXK.out]; exact HMEM.out) (fun h => hgood ⟨by rw [HSZ.out, HHI.out]; exact h.1, by rw [HSZ.out, HLO.out]; exact h.2⟩)]
          rfl)
        by_cases hh : hi < s.size
        · have y5 : ¬ ((s.size : Int) ≤ (hi : Int)) := by omega
          have y6 : (s.size : Int) ≤ (lo : Int) := by omega
          clear hgood hh
          go_wp2_with fail
          go_ret2
          rw [HNO.out]
          exact ⟨rfl, HTR.out⟩
        · have y5 : (s.size : Int) ≤ (hi : Int) := by omega
          clear hgood hh
          go_wp2_with fail
          go_ret2
          rw [HNO.out]
          exact ⟨rfl, HTR.out⟩
    · have hke : k = m := by have := HKL.out; omega
      have y1 : ¬ ((k : Int) < (m : Int)) := by omega
      clear hlt
      have hown := HO.out
      have hin := HIN.out
      rw [List.take_of_length_le (by rw [HBL.out, hke]; exact Nat.le_refl _)] at hown hin
      have hpk := packOk_of hin
      have hul := unpack_len ch bs
      rw [HBL.out] at hul
      obtain ⟨A'', n'', c'', hform, hbs, hncap, _⟩ := hown.form
      injection hform with hf1 hf2 hf3
      subst hf1 hf2 hf3
      have hnl : n' = 2 * m := hbs.1.symm.trans hul
      subst hnl
      obtain ⟨g, off, rfl, hcells⟩ := hbs.2.2 (by have := HM.out; have := HN1.out; omega)
      have hoff : off = 0 := by
        rcases hown.2 with ⟨h, _⟩ | ⟨g', cap', cur, h, _⟩
        · cases h
        · injection h with h _ _
          injection h with h
          injection h
      subst hoff
      have hc0 := hcells 0 (by have := HM.out; have := HN1.out; omega)
      rw [Nat.zero_add] at hc0
      have HCAP := Lib.hid hncap
      have HOO := Lib.hid hown
      have HUL := Lib.hid hul
      have HPK := Lib.hid hpk
      have HKE := Lib.hid hke
      clear hcells hbs hin hown hul hpk hncap hke
      have hunp : unpacked ch bs n = if n % 2 = 1 ∧ (unpack ch bs).getD 0 0 ≠ 48 then none else some ((unpack ch bs).drop ((unpack ch bs).length - n)) := by
        unfold unpacked
        rw [HPK.out]
        rfl
      rw [HUL.out] at hunp
      generalize (unpack ch bs).getD 0 0 = z0 at *
      have HU := Lib.hid hunp
      clear hunp
      have hnm : n ≤ 2 * m := by have := HM.out; omega
      have HNM := Lib.hid hnm
      clear hnm
      have y7 : (0 : Int) < 2 * (m : Int) := by have := HM.out; have := HN1.out; omega
      by_cases hodd : n % 2 = 1
      · by_cases hz : z0 = 48
        · have hu := HU.out
          rw [if_neg (by intro h; exact h.2 hz)] at hu
          have HU2 := Lib.hid hu
          have t1 : Int.tmod (n : Int) 2 = 1 := tmod_one hodd
          have hz0 : (z0.toNat : Int) = 48 := by rw [hz]; rfl
          clear hu HU
          rw [hz0] at hc0
          clear hz0 hz hodd
          go_upto_region 12 with fail
          clear hc0
          refine wp_region_lit ?_
          refine wR (v := .slice (some ⟨g, 0, none⟩) (2 * m) c') rfl (exec_move rfl rfl) ?_
          simp only [Act.put, zzA, zz0, zz1]
          refine wR (v := .slice (some ⟨g, 0, none⟩) (2 * m) c') rfl (exec_move rfl rfl) ?_
          simp only [Act.put, zzA, zz0, zz1]
          refine wR (v := .int .i64 ((2 * m : Nat) : Int)) (w' := wr) rfl (by go_simp) ?_
          simp only [Act.put, zzA, zz0, zz1]
          refine wR (v := .int .i64 (n : Int)) rfl (exec_move rfl rfl) ?_
          simp only [Act.put, zzA, zz0, zz1]
          refine wR (v := .int .i64 ((2 * m - n : Nat) : Int)) (w' := wr) rfl (exec_sub rfl rfl rfl HNM.out (by have := HM1.out; omega)) ?_
          simp only [Act.put, zzA, zz0, zz1]
          refine wR (v := .slice (some ⟨g, 2 * m - n, none⟩) (2 * m - (2 * m - n)) (c' - (2 * m - n))) rfl (exec_slice rfl rfl rfl rfl rfl (slice_end g (2 * m) c' (2 * m - n) (by have := HN1.out; have := HNM.out; omega) HCAP.out wr)) ?_
          simp only [Act.put, zzA, zz0, zz1]
          refine wR (v := strV ((unpack ch bs).drop (2 * m - n))) (w' := wr) rfl (exec_strBs rfl rfl (own_slice HOO.out HUL.out (by have := HM1.out; omega))) ?_
          simp only [Act.put, zzA, zz0, zz1]
          go_wp2_with fail
          go_ret2
          rw [HU2.out]
          exact ⟨rfl, HTR.out⟩
        · have hu := HU.out
          rw [if_pos ⟨hodd, hz⟩] at hu
          have t1 : Int.tmod (n : Int) 2 = 1 := tmod_one hodd
          have hz0 : ((z0.toNat : Int) == 48) = false := by
            simp only [beq_eq_false_iff_ne, ne_eq]
            intro h
            exact hz (UInt8.toNat_inj.1 (by rw [show (48 : UInt8).toNat = 48 from rfl]; omega))
          have HU2 := Lib.hid hu
          clear hu HU hz hodd
          go_wp2_with fail
          go_ret2
          rw [HU2.out]
          exact ⟨rfl, HTR.out⟩
      · have hu := HU.out
        rw [if_neg (by intro h; exact hodd h.1)] at hu
        have HU2 := Lib.hid hu
        have t1 : Int.tmod (n : Int) 2 = 0 := tmod_nil hodd
        clear hu HU hodd
        go_upto_region 12 with fail
        clear hc0
        refine wp_region_lit ?_
        refine wR (v := .slice (some ⟨g, 0, none⟩) (2 * m) c') rfl (exec_move rfl rfl) ?_
        simp only [Act.put, zzA, zz0, zz1]
        refine wR (v := .slice (some ⟨g, 0, none⟩) (2 * m) c') rfl (exec_move rfl rfl) ?_
        simp only [Act.put, zzA, zz0, zz1]
        refine wR (v := .int .i64 ((2 * m : Nat) : Int)) (w' := wr) rfl (by go_simp) ?_
        simp only [Act.put, zzA, zz0, zz1]
        refine wR (v := .int .i64 (n : Int)) rfl (exec_move rfl rfl) ?_
        simp only [Act.put, zzA, zz0, zz1]
        refine wR (v := .int .i64 ((2 * m - n : Nat) : Int)) (w' := wr) rfl (exec_sub rfl rfl rfl HNM.out (by have := HM1.out; omega)) ?_
        simp only [Act.put, zzA, zz0, zz1]
        refine wR (v := .slice (some ⟨g, 2 * m - n, none⟩) (2 * m - (2 * m - n)) (c' - (2 * m - n))) rfl (exec_slice rfl rfl rfl rfl rfl (slice_end g (2 * m) c' (2 * m - n) (by have := HN1.out; have := HNM.out; omega) HCAP.out wr)) ?_
        simp only [Act.put, zzA, zz0, zz1]
        refine wR (v := strV ((unpack ch bs).drop (2 * m - n))) (w' := wr) rfl (exec_strBs rfl rfl (own_slice HOO.out HUL.out (by have := HM1.out; omega))) ?_
        simp only [Act.put, zzA, zz0, zz1]
        go_wp2_with fail
        go_ret2
        rw [HU2.out]
        exact ⟨rfl, HTR.out⟩
end Go.Proofs.YticofobhkmabiaaGreatDoor
namespace Go.Proofs.YticofobhkmabiaaGreatDoor
open Go.RowKit
open Fdd
set_option linter.unusedVariables false
/-- a part that a code may be made of -/
structure Gd (p : Pt) : Prop where
  st : (p.stands = [] ∧ p.chars.length ≤ 16 ∧ 48 ∈ p.chars) ∨ (p.stands ≠ [] ∧ p.stands.length = p.chars.length)
  ch : p.chars.length ≤ 99
  n1 : 1 ≤ p.n
  n2 : p.n ≤ 200
  asc : ascii p.chars
theorem zero_part (w : World) : (zeroValue 167).run Tryz.prog w = .ok (.agg #[.int .i64 0, .string ByteArray.empty, .string ByteArray.empty]) w := by kernel_rfl
theorem size_part : (Tryz.prog.info? 167).map (·.size) = some 3 := by kernel_rfl
theorem pt_one (p : Pt) : ∀ v ∈ (ptC p).toArray.toList, v.oneCell' = true := by simp [ptC, strV, Value.oneCell']
theorem load_part {w : World} {g q : Nat} {p : Pt} (h : w.rangeAt g q (ptC p)) : (Instr.loadAt 167 (.pointer (some ⟨g, q, none⟩))).run Tryz.prog w = .ok (.agg (ptC p).toArray) w :=
  run_loadAt_mid w g q 167 (ptC p) _ h Tryz.underlying167 rfl (by rw [size_part]; rfl)
theorem load_blkPart {w : World} {g : Nat} {p : Pt} (h : Blk w g 167 (ptC p).toArray) : (Instr.loadAt 167 (.pointer (some ⟨g, 0, none⟩))).run Tryz.prog w = .ok (.agg (ptC p).toArray) w :=
  load_part fun j v hv => by
    rw [Nat.zero_add, h.cell j]
    simpa using hv
theorem wpList_store_part {P : Program} {ops : Array Oper} {rest : List Oper} {o : Oper} {a : Act} {w : World} {Q : Exit → Act → World → Prop} (hgd : Region.wanted o (yielded ops a.tmps) = true) (x y : Operand) (ho : o.op = .store 167 x y) {g : Nat} {p : Pt} {old : Array Value} (hb : Blk w g 167 old) (hs : old.size = 3)
    (hx : a.eval x = .pointer (some ⟨g, 0, none⟩)) (hy : a.eval y = .agg (ptC p).toArray) (hi : (P.info? 167).map (·.size) = some 3)
    (h : ∀ w', Blk w' g 167 (ptC p).toArray → Turn (only g) w w' → wpList P ops Q rest (a.put o.dst undef) w') : wpList P ops Q (o :: rest) a w :=
  wpList_store_row hgd 167 x y ho (ptC p).toArray hb hx hy hs hi (pt_one p) h
theorem field_put (x y z : Value) (W : World) : (Instr.field 186 (.agg #[x, y, z]) 1).run Tryz.prog W = .ok y W := by kernel_rfl
theorem field_take (x y z : Value) (W : World) : (Instr.field 186 (.agg #[x, y, z]) 2).run Tryz.prog W = .ok z W := by kernel_rfl
theorem field_size (x y z : Value) (W : World) : (Instr.field 186 (.agg #[x, y, z]) 0).run Tryz.prog W = .ok x W := by kernel_rfl
theorem exec_getField {P : Program} {a : Act} {o : Oper} {t : TypeId} {x : Operand} {n : Nat} {u v : Value} {W : World} (ho : o.op = .field t x n) (hx : a.eval x = u) (h : (Instr.field t u n).run P W = .ok v W) : (execOp a.eval o).run P W = .ok (.value v) W := by
  unfold execOp
  simp only [ho, hx, h, Sem.run_bind, Sem.run_pure, Result.andThen_ok]
theorem row_keep {w w' : World} {B : Nat} {e : TypeId} {sz n : Nat} {v : Value} {xs : List Value} (h : w.ownsRow B e sz v n xs) (hk : ∀ g, v.ownBlock = some g → w'.heap[g]? = w.heap[g]?) : w'.ownsRow B e sz v n xs := by
  refine ⟨h.1, ?_⟩
  rcases h.2 with h2 | ⟨g, cap, cur, rfl, h3, h4, h5⟩
  · exact .inl h2
  · exact .inr ⟨g, cap, cur, rfl, h3, (hk g rfl).trans h4, h5⟩
theorem own_turn {w w' : World} {B : Nat} {e : TypeId} {v : Value} {bs : List UInt8} (h : Own w B e v bs) (ht : Turn nowhere w w') : Own w' B e v bs := row_keep h fun g hg => ht.block g (h.lt g hg).2 (fun e => e)
theorem code_put {w : World} {cv : Array Value} {p : Pt} (h : CodeAt w cv p) (hg : Gd p) {B : Nat} {t bs : List UInt8} {A0 : Option Addr} {n0 c0 : Nat} (ht : onlyOf t p.chars = true) (hown : Own w B 5 (.slice A0 n0 c0) bs) (hB : B ≤ w.heap.size)
    (hlen : bs.length + t.length ≤ 140737488354000) (ht1 : t.length ≤ 1000) :
    ∃ f c x y, cv = #[x, .func (.func f) #[] c, y] ∧ (f = 152 ∨ f = 149) ∧
    Calls Tryz.prog f (#[.slice A0 n0 c0, strV t] ++ c) w fun e w' => ∃ A n c', e = .returned (.slice A n c') ∧ Own w' B 5 (.slice A n c') (bs ++ p.enc t) ∧ Ext w w' (.slice A0 n0 c0) (.slice A n c') := by
  unfold Pt.enc
  rcases h with ⟨h0, q, c, rfl, h1, h2⟩ | ⟨h0, q, c, rfl, h1, h2⟩
  · rw [if_pos h0]
    rcases hg.st with ⟨_, g2, g3⟩ | ⟨g1, _⟩
    · exact ⟨_, #[ptrTo q], _, _, rfl, .inr rfl, pput_walk h1 h2 ht g3 hown hB hlen ht1 g2⟩
    · exact absurd h0 g1
  · rw [if_neg h0]
    rcases hg.st with ⟨g1, _⟩ | ⟨_, g2⟩
    · exact absurd g1 h0
    · exact ⟨_, #[ptrTo q, ptrTo c], _, _, rfl, .inl rfl, sput_walk h1 h2 ht g2 hown hB (by omega) ht1 (by have := hg.ch; omega)⟩
theorem enc_len (p : Pt) (t : List UInt8) : (p.enc t).length ≤ t.length + 1 := by
  unfold Pt.enc
  by_cases h : p.stands = []
  · rw [if_pos h]
    have h1 := pack_le p.chars (padded t)
    have h2 := padded_len t
    omega
  · rw [if_neg h, List.length_map]
    omega
theorem right_cons {p : Pt} {r : List Pt} {t : List UInt8} (h : rightAll (p :: r) t = true) : p.n ≤ t.length ∧ onlyOf (t.take p.n) p.chars = true ∧ rightAll r (t.drop p.n) = true := by
  simpa [rightAll] using h
theorem drop_cons {ps r : List Pt} {p : Pt} {k : Nat} (h : ps.drop k = p :: r) : ps[k]? = some p ∧ ps.drop (k + 1) = r ∧ k < ps.length := by
  have h1 : ps[k]? = some p := by
    have := congrArg (fun l => l[0]?) h
    simpa [List.getElem?_drop] using this
  refine ⟨h1, ?_, (List.getElem?_eq_some_iff.1 h1).1⟩
  have := congrArg (List.drop 1) h
  simpa [List.drop_drop, Nat.add_comm] using this
def PtB (b8 : Nat) (p : Pt) (W : World) : Prop := Blk W b8 167 (ptC p).toArray
set_option maxRecDepth 20000 in
set_option maxHeartbeats 2000000 in
theorem put_walk {w : World} {g B np cp : Nat} {ps : List Pt} {t bs : List UInt8} {A0 : Option Addr} {n0 c0 : Nat} (hp : PtsAt w g ps) (hnp : ps.length = np) (hg : ∀ p ∈ ps, Gd p) (hr : rightAll ps t = true) (hown : Own w B 5 (.slice A0 n0 c0) bs) (hB : B ≤ w.heap.size) (hlen : bs.length + 10 * t.length ≤ 140737488354000) (ht1 : t.length ≤ 1000) (hps : np ≤ 5) :
    Calls Tryz.prog 92 #[.slice A0 n0 c0, .slice (some ⟨g, 0, none⟩) np cp, strV t] w fun e w' => ∃ A n c', e = .returned (.slice A n c') ∧ Own w' B 5 (.slice A n c') (bs ++ encAll ps t) ∧ Ext w w' (.slice A0 n0 c0) (.slice A n c') := by
  have HP := Lib.hid hp
  have HNP := Lib.hid hnp
  have HG := Lib.hid hg
  have HO := Lib.hid hown
  have HB := Lib.hid hB
  have HN := Lib.hid hlen
  have HT1 := Lib.hid ht1
  have HPS := Lib.hid hps
  have HR := Lib.hid hr
  clear hp hg hown hB hlen ht1 hps hnp hr
  go_enter Tryz.func92, Tryz.ntmps92
  go_upto_region 2 with fail
  go_loopg [0, 2, 11] np (fun gk b x i wr => ∃ (k : Nat) (A : Option Addr) (n c' : Nat) (t2 e1 : List UInt8), k + gk = np ∧ i = .int .i64 (k : Int) ∧ b = .slice A n c' ∧ x = strV t2 ∧ Own wr B 5 (.slice A n c') (bs ++ e1) ∧ e1 ++ encAll (ps.drop k) t2 = encAll ps t ∧ rightAll (ps.drop k) t2 = true ∧ t2.length ≤ t.length ∧ Ext w wr (.slice A0 n0 c0) (.slice A n c') ∧ e1.length ≤ 2 * k * t.length)
  case atStart => exact ⟨0, _, _, _, t, [], by omega, rfl, rfl, rfl, by simpa using HO.out, by simp, HR.out, Nat.le_refl _, Ext.refl _ _, by simp⟩
  case round =>
    obtain ⟨k, A, n, c', t2, e1, hkl, rfl, rfl, rfl, hO, henc, hright, htl, hE, hel⟩ := hrel
    have HKL := Lib.hid hkl
    have HO' := Lib.hid hO
    have HENC := Lib.hid henc
    have HTL := Lib.hid htl
    have HE := Lib.hid hE
    have HEL := Lib.hid hel
    have HRR := Lib.hid hright
    clear hkl hO henc htl hE hel hright
    by_cases hlt : k < np
    · have y1 : (k : Int) < (np : Int) := by omega
      have y2 : (0 : Int) ≤ (k : Int) := by omega
      have y3 : (np : Int) ≤ 5 := by have := HPS.out; omega
      obtain ⟨p, r, hd⟩ : ∃ p r, ps.drop k = p :: r := by
        cases h : ps.drop k with
        | nil =>
          have := congrArg List.length h
          rw [List.length_drop, HNP.out] at this
          simp at this
          omega
        | cons p r => exact ⟨p, r, rfl⟩
      have HD := Lib.hid (drop_cons hd)
      have hrr := HRR.out
      have hen := HENC.out
      rw [hd] at hrr hen
      have HRC := Lib.hid (right_cons hrr)
      have HEN := Lib.hid hen
      have HLT := Lib.hid hlt
      clear hlt hd hrr hen
      go_upto_region 3 with fail
      have hk0 : wr.rangeAt g (k * 3) (ptC p) := ((let ⟨_, hb, _⟩ := HP.out; HP.out.turn HE.out.tr (row_ne HO.out hb (by decide)))).range HD.out.1
      refine wp_region_lit ?_
      refine wR (v := .pointer (some ⟨g, k * 3, none⟩)) (w' := wr) rfl (by go_simp) ?_
      simp only [Act.put, zzA, zz0, zz1]
      refine wR (v := .agg (ptC p).toArray) rfl (exec_load rfl rfl (load_part hk0)) ?_
      simp only [Act.put, zzA, zz0, zz1]
      refine wR (v := _) rfl (exec_alloc rfl (zero_part _)) ?_
      simp only [Act.put, zzA, zz0, zz1]
      have hbn := Blk.new wr 167 #[.int .i64 0, .string ByteArray.empty, .string ByteArray.empty]
      have htn := (Turn.refl nowhere wr).alloc (.cells #[.int .i64 0, .string ByteArray.empty, .string ByteArray.empty] 167)
      generalize (wr.alloc (.cells #[.int .i64 0, .string ByteArray.empty, .string ByteArray.empty] 167)) = w4 at *
      obtain ⟨b8, hb8⟩ : ∃ b8, b8 = wr.heap.size := ⟨_, rfl⟩
      rw [← hb8] at hbn ⊢
      refine wpList_store_part rfl (.tmp 8) (.tmp 14) rfl hbn rfl rfl rfl size_part ?_
      intro w5 hq5 ht5
      have HT5 := Lib.hid (show Turn nowhere wr w5 from htn.trans ht5 (fun j hj e => by have h2 : j = b8 := e; omega))
      have HB5 := Lib.hid hq5
      clear hk0 hbn htn hb8 hq5 ht5
      simp only [Act.put]
      have HGD := Lib.hid (HG.out p (List.mem_of_getElem? HD.out.1))
      go_upto_region 4 with fail
      have hS0 : PtB b8 p w5.drew := HB5.out.drew
      refine wp_region_till (PtB b8 p) 9 (by kernel_rfl) ?_
      refine till_take (i := 0) (v := .agg (ptC p).toArray) rfl (by kernel_rfl) (by kernel_rfl) (fun _ _ _ h => h) (.inl ⟨by rfl, fun W hW => exec_load rfl rfl (load_blkPart hW)⟩) hS0 ?_
      simp only [Act.put, zzA, zz0, zz1]
      refine till_pure (i := 3) (v := .slice A n c') rfl (by kernel_rfl) (by kernel_rfl) (fun _ _ _ h => h) (.inl ⟨by rfl, fun W hW => exec_move rfl rfl⟩) hS0 ?_
      simp only [Act.put, zzA, zz0, zz1]
      refine till_pure (i := 4) (v := strV t2) rfl (by kernel_rfl) (by kernel_rfl) (fun _ _ _ h => h) (.inl ⟨by rfl, fun W hW => exec_move rfl rfl⟩) hS0 ?_
      simp only [Act.put, zzA, zz0, zz1]
      refine till_pure (i := 5) (v := .pointer (some ⟨b8, 0, none⟩)) rfl (by kernel_rfl) (by kernel_rfl) (fun _ _ _ h => h) (.inl ⟨by rfl, fun W hW => exec_field (off := 0) (d := 0) rfl rfl (by kernel_rfl)⟩) hS0 ?_
      simp only [Act.put, zzA, zz0, zz1]
      refine till_take (i := 6) (v := .int .i64 (p.n : Int)) rfl (by kernel_rfl) (by kernel_rfl) (fun _ _ _ h => h) (.inl ⟨by rfl, fun W hW => exec_load1 rfl rfl (by kernel_rfl) (Blk.cell hW 0)⟩) hS0 ?_
      simp only [Act.put, zzA, zz0, zz1]
      refine till_pure (i := 7) (v := strV (t2.take p.n)) rfl (by kernel_rfl) (by kernel_rfl) (fun _ _ _ h => h) (.inl ⟨by rfl, fun W hW => exec_sto rfl rfl rfl HRC.out.1⟩) hS0 ?_
      simp only [Act.put, zzA, zz0, zz1]
      refine till_step (i := 1) (by kernel_rfl) rfl rfl ?_
      intro K1 HK1
      go_wp2_with fail
      refine (codeOf_walk p _).mono ?_
      rintro e w6 ⟨cv, rfl, hcode, ht6⟩
      have hS1 : PtB b8 p w6 := hS0.turn ht6 (fun e => e)
      refine HK1.out _ _ ⟨fun _ => hS1, ?_⟩
      clear HK1
      have hE6 : Ext w w6 (.slice A0 n0 c0) (.slice A n c') := (HE.out.still ((HT5.out.drew).next ht6))
      have hO6 : Own w6 B 5 (.slice A n c') (bs ++ e1) := own_turn HO'.out ((HT5.out.drew).next ht6)
      obtain ⟨f, cc, xx, yy, rfl, hf, hcall⟩ := code_put hcode HGD.out HRC.out.2.1 hO6 (Nat.le_trans HB.out hE6.tr.size) (by
        rw [List.length_append, List.length_take]
        have h1 := HN.out
        have h2 := HEL.out
        have h3 := HTL.out
        have h4 := HLT.out
        have h5 := HPS.out
        have h6 : 2 * k * t.length ≤ 8 * t.length := Nat.mul_le_mul_right _ (by omega)
        omega) (by rw [List.length_take]; have := HT1.out; have := HTL.out; omega)
      have HCALL := Lib.hid hcall
      have HE6 := Lib.hid hE6
      have HO6 := Lib.hid hO6
      clear hcall hcode ht6 hE6 hO6
      refine till_pure (i := 2) (v := .func (.func f) #[] cc) rfl (by kernel_rfl) (by kernel_rfl) (fun _ _ _ h => h) (.inl ⟨by rfl, fun W hW => exec_getField rfl rfl (field_put _ _ _ W)⟩) hS1 ?_
      simp only [Act.put, zzA, zz0, zz1]
      refine till_step (i := 8) (by kernel_rfl) rfl rfl ?_
      intro K1 HK1
      have HS1 := Lib.hid hS1
      clear hS0 hS1
      rcases hf with rfl | rfl
      · go_wp2_with fail
        refine HCALL.out.mono ?_
        rintro e w7 ⟨A7, n7, c7, rfl, hO7, hE7⟩
        have hS2 : PtB b8 p w7 := Blk.ext HS1.out hE7 (row_ne HO6.out HS1.out (by decide))
        refine HK1.out _ _ ⟨fun _ => hS2, ?_⟩
        clear HK1
        have HO7 := Lib.hid hO7
        have HE7 := Lib.hid (HE6.out.trans hE7)
        have HB7 := Lib.hid hS2
        clear hO7 hE7 hS2
        refine till_tail 9 rfl (by kernel_rfl) ?_
        go_wp2_with fail
        refine NoPanic.normal ?_
        go_upto_region 5 with fail
        refine wp_region_lit ?_
        refine wR (v := strV t2) rfl (exec_move rfl rfl) ?_
        simp only [Act.put, zzA, zz0, zz1]
        refine wR (v := .pointer (some ⟨b8, 0, none⟩)) rfl (exec_field (off := 0) (d := 0) rfl rfl (by kernel_rfl)) ?_
        simp only [Act.put, zzA, zz0, zz1]
        refine wR (v := .int .i64 (p.n : Int)) rfl (exec_load1 rfl rfl (by kernel_rfl) (Blk.cell HB7.out 0)) ?_
        simp only [Act.put, zzA, zz0, zz1]
        refine wR (v := strV (t2.drop p.n)) (w' := w7) rfl (exec_sfrom rfl rfl rfl HRC.out.1) ?_
        simp only [Act.put, zzA, zz0, zz1]
        go_wp2_with fail
        go_roundg (gk - 1)
        case measure => have := HKL.out; have := HLT.out; omega
        case rel =>
          refine ⟨k + 1, A7, n7, c7, t2.drop p.n, e1 ++ p.enc (t2.take p.n), by have := HKL.out; have := HLT.out; omega, by go_num, rfl, rfl, ?_, ?_, ?_, ?_, HE7.out, ?_⟩
          · rw [← List.append_assoc]
            exact HO7.out
          · rw [HD.out.2.1, List.append_assoc]
            exact HEN.out
          · rw [HD.out.2.1]
            exact HRC.out.2.2
          · rw [List.length_drop]
            have := HTL.out
            omega
          · have h1 := enc_len p (t2.take p.n)
            have h2 := HEL.out
            have h3 := HTL.out
            have h5 := HGD.out.n1
            have h6 := HRC.out.1
            rw [List.length_take] at h1
            rw [List.length_append, show 2 * (k + 1) * t.length = 2 * k * t.length + 2 * t.length from by rw [Nat.mul_add, Nat.add_mul]]
            omega
      · go_wp2_with fail
        refine HCALL.out.mono ?_
        rintro e w7 ⟨A7, n7, c7, rfl, hO7, hE7⟩
        have hS2 : PtB b8 p w7 := Blk.ext HS1.out hE7 (row_ne HO6.out HS1.out (by decide))
        refine HK1.out _ _ ⟨fun _ => hS2, ?_⟩
        clear HK1
        have HO7 := Lib.hid hO7
        have HE7 := Lib.hid (HE6.out.trans hE7)
        have HB7 := Lib.hid hS2
        clear hO7 hE7 hS2
        refine till_tail 9 rfl (by kernel_rfl) ?_
        go_wp2_with fail
        refine NoPanic.normal ?_
        go_upto_region 5 with fail
        refine wp_region_lit ?_
        refine wR (v := strV t2) rfl (exec_move rfl rfl) ?_
        simp only [Act.put, zzA, zz0, zz1]
        refine wR (v := .pointer (some ⟨b8, 0, none⟩)) rfl (exec_field (off := 0) (d := 0) rfl rfl (by kernel_rfl)) ?_
        simp only [Act.put, zzA, zz0, zz1]
        refine wR (v := .int .i64 (p.n : Int)) rfl (exec_load1 rfl rfl (by kernel_rfl) (Blk.cell HB7.out 0)) ?_
        simp only [Act.put, zzA, zz0, zz1]
        refine wR (v := strV (t2.drop p.n)) (w' := w7) rfl (exec_sfrom rfl rfl rfl HRC.out.1) ?_
        simp only [Act.put, zzA, zz0, zz1]
        go_wp2_with fail
        go_roundg (gk - 1)
        case measure => have := HKL.out; have := HLT.out; omega
        case rel =>
          refine ⟨k + 1, A7, n7, c7, t2.drop p.n, e1 ++ p.enc (t2.take p.n), by have := HKL.out; have := HLT.out; omega, by go_num, rfl, rfl, ?_, ?_, ?_, ?_, HE7.out, ?_⟩
          · rw [← List.append_assoc]
            exact HO7.out
          · rw [HD.out.2.1, List.append_assoc]
            exact HEN.out
          · rw [HD.out.2.1]
            exact HRC.out.2.2
          · rw [List.length_drop]
            have := HTL.out
            omega
          · have h1 := enc_len p (t2.take p.n)
            have h2 := HEL.out
            have h3 := HTL.out
            have h5 := HGD.out.n1
            have h6 := HRC.out.1
            rw [List.length_take] at h1
            rw [List.length_append, show 2 * (k + 1) * t.length = 2 * k * t.length + 2 * t.length from by rw [Nat.mul_add, Nat.add_mul]]
            omega
    · have hke : k = np := by have := HKL.out; omega
      have y1 : ¬ ((k : Int) < (np : Int)) := by omega
      clear hlt
      have hen := HENC.out
      rw [List.drop_of_length_le (by rw [HNP.out, hke]; exact Nat.le_refl _)] at hen
      have he : e1 = encAll ps t := by simpa [encAll] using hen
      have HEE := Lib.hid he
      clear hke hen he
      go_wp2_with fail
      go_ret
      refine ⟨A, n, c', rfl, ?_, HE.out⟩
      have := HO'.out
      rwa [HEE.out] at this
end Go.Proofs.YticofobhkmabiaaGreatDoor
namespace Go.Proofs.YticofobhkmabiaaGreatDoor
open Go.RowKit
open Fdd
set_option linter.unusedVariables false
theorem ascii_of {l : List UInt8} (h : l.all (fun b => decide (b.toNat < 128)) = true) : ascii l := fun j b hj => by
  simpa using List.all_eq_true.1 h b (List.mem_of_getElem? hj)
theorem pts_good {k : Int} {c n : Nat} (hk : 1 ≤ k ∧ k ≤ 5) (hc : 1 ≤ c ∧ c ≤ 3) (hn : 1 ≤ n ∧ n ≤ 64) : ∀ p ∈ ptsOf k (c : Int) n, Gd p := by
  have hcc : c = 1 ∨ c = 2 ∨ c = 3 := by omega
  intro p hp
  unfold ptsOf at hp
  rw [Int.toNat_natCast] at hp
  have good : ∀ (n : Nat) (ch st : List UInt8), 1 ≤ n → n ≤ 200 → ((decide (st = []) && (decide (ch.length ≤ 16) && ch.contains 48)) || (!decide (st = []) && decide (st.length = ch.length))) = true → ch.length ≤ 99 → ch.all (fun b => decide (b.toNat < 128)) = true → Gd ⟨n, ch, st⟩ := by
    intro n ch st h1 h2 h3 h4 h5
    refine ⟨?_, h4, h1, h2, ascii_of h5⟩
    simp only [Bool.or_eq_true, Bool.and_eq_true, decide_eq_true_eq, Bool.not_eq_true', decide_eq_false_iff_not] at h3
    rcases h3 with ⟨h, h6, h7⟩ | ⟨h, h6⟩
    · exact .inl ⟨h, h6, by simpa using h7⟩
    · exact .inr ⟨h, h6⟩
  split at hp
  · simp only [List.mem_singleton] at hp
    subst hp
    rcases hcc with rfl | rfl | rfl <;> exact good _ _ _ (by omega) (by omega) (by decide) (by decide) (by decide)
  · split at hp
    · simp only [List.mem_singleton] at hp
      subst hp
      rcases hcc with rfl | rfl | rfl <;> exact good _ _ _ (by omega) (by omega) (by decide) (by decide) (by decide)
    · split at hp
      · simp only [List.mem_cons, List.not_mem_nil, or_false] at hp
        rcases hp with rfl | rfl
        · rcases hcc with rfl | rfl | rfl <;> exact good _ _ _ (by omega) (by omega) (by decide) (by decide) (by decide)
        · rcases hcc with rfl | rfl | rfl <;> exact good _ _ _ (by omega) (by omega) (by decide) (by decide) (by decide)
      · simp only [List.mem_singleton] at hp
        subst hp
        rcases hcc with rfl | rfl | rfl <;> exact good _ _ _ (by omega) (by omega) (by decide) (by decide) (by decide)
theorem pts_len (k : Int) (c n : Nat) : (ptsOf k (c : Int) n).length ≤ 2 := by
  unfold ptsOf
  split
  · simp
  · split
    · simp
    · split
      · simp
      · simp
theorem lss_walk {W : World} {a : Act} {o : Oper} {x y : Operand} {i j : Int} (ho : o.op = .binOp .lss 3 x y 3) (hx : a.eval x = .int .i64 i) (hy : a.eval y = .int .i64 j) : (execOp a.eval o).run Tryz.prog W = .ok (.value (.bool (decide (i < j)))) W := by
  by_cases h : i < j
  · rw [exec_lss ho hx hy h]
    simp [h]
  · rw [exec_nlss ho hx hy h]
    simp [h]
theorem load_blkForm {w : World} {g : Nat} {k s c : Int} (h : Blk w g 49 #[.int .i64 k, .int .i64 s, .int .i64 c]) : (Instr.loadAt 49 (.pointer (some ⟨g, 0, none⟩))).run Tryz.prog w = .ok (fmV ⟨k, s, c⟩) w :=
  run_loadAt_mid w g 0 49 [.int .i64 k, .int .i64 s, .int .i64 c] _ (fun j v hv => by
    rw [Nat.zero_add, h.cell j]
    simpa using hv) Tryz.underlying49 rfl (by rw [size_form]; rfl)
set_option maxRecDepth 20000 in
set_option maxHeartbeats 2000000 in
theorem right_walk {w : World} {kk s c : Nat} {t : List UInt8} (hk : 1 ≤ kk ∧ kk ≤ 5) (hc : 1 ≤ c ∧ c ≤ 3) (hs : 1 ≤ s ∧ s ≤ 64) (hr : RowsT w) :
    Calls Tryz.prog 75 #[fmV ⟨(kk : Int), (s : Int), (c : Int)⟩, strV t] w fun e w' => e = .returned (.bool (Fm.right ⟨(kk : Int), (s : Int), (c : Int)⟩ t)) ∧ Turn nowhere w w' := by
  unfold fmV
  have HK := Lib.hid hk
  have HC := Lib.hid hc
  have HS := Lib.hid hs
  have HR := Lib.hid hr
  clear hr
  go_enter Tryz.func75, Tryz.ntmps75
  go_upto_region 1 with fail
  have hb0 := Blk.new w 49 #[.int .i64 (kk : Int), .int .i64 (s : Int), .int .i64 (c : Int)]
  have ht0 := (Turn.refl nowhere w).alloc (.cells #[.int .i64 (kk : Int), .int .i64 (s : Int), .int .i64 (c : Int)] 49)
  generalize (w.alloc (.cells #[.int .i64 (kk : Int), .int .i64 (s : Int), .int .i64 (c : Int)] 49)) = w0 at *
  generalize w.heap.size = b2 at *
  have HB0 := Lib.hid hb0
  have HT0 := Lib.hid ht0
  have hload := load_blkForm hb0
  have HLOAD := Lib.hid hload
  have c0 : w0.cell? ⟨b2, 0, none⟩ = some (.int .i64 (kk : Int)) := hb0.cell 0
  have c1 : w0.cell? ⟨b2, 1, none⟩ = some (.int .i64 (s : Int)) := hb0.cell 1
  have c2 : w0.cell? ⟨b2, 2, none⟩ = some (.int .i64 (c : Int)) := hb0.cell 2
  clear hb0 ht0 hload
  by_cases hk2 : kk = 2
  · have y0 : ((kk : Int) == 2) = true := by simp; omega
    have HK2 := Lib.hid hk2
    clear hk hk2
    go_upto_region 3 with fail
    refine wp_region_lit ?_
    refine wR (v := strV t) rfl (exec_move rfl rfl) ?_
    simp only [Act.put, zzA, zz0, zz1]
    refine wR (v := .int .i64 (t.length : Int)) (w' := w0) rfl (exec_slen rfl rfl) ?_
    simp only [Act.put, zzA, zz0, zz1]
    have hform : Fm.right ⟨(kk : Int), (s : Int), (c : Int)⟩ t = (decide (1 ≤ t.length ∧ (t.length : Int) ≤ (s : Int)) && rightAll (ptsOf (kk : Int) (c : Int) t.length) t) := by
      unfold Fm.right
      rw [HK2.out]
      rfl
    have HFORM := Lib.hid hform
    clear hform
    by_cases hb1 : t.length < 1
    · have HRT := Lib.hid (show Fm.right ⟨(kk : Int), (s : Int), (c : Int)⟩ t = false from by
        rw [HFORM.out, decide_eq_false (by omega)]
        rfl)
      have y1 : (t.length : Int) < 1 := by omega
      clear hb1
      go_wp2_with fail
      go_ret
      exact ⟨ret_bool HRT.out.symm, HT0.out⟩
    · by_cases hb2 : s < t.length
      · have HRT := Lib.hid (show Fm.right ⟨(kk : Int), (s : Int), (c : Int)⟩ t = false from by
          rw [HFORM.out, decide_eq_false (by omega)]
          rfl)
        have y1 : ¬ ((t.length : Int) < 1) := by omega
        have y2 : (s : Int) < (t.length : Int) := by omega
        clear hb1 hb2
        go_wp2_with fail
        go_ret
        exact ⟨ret_bool HRT.out.symm, HT0.out⟩
      · have HRT := Lib.hid (show Fm.right ⟨(kk : Int), (s : Int), (c : Int)⟩ t = rightAll (ptsOf (kk : Int) (c : Int) t.length) t from by
          rw [HFORM.out, decide_eq_true (by omega), Bool.true_and])
        have y1 : ¬ ((t.length : Int) < 1) := by omega
        have y2 : ¬ ((s : Int) < (t.length : Int)) := by omega
        obtain ⟨n, hn⟩ : ∃ n, n = t.length := ⟨_, rfl⟩
        have hn1 : 1 ≤ n ∧ n ≤ 64 := by omega
        rw [← hn] at y1 y2 ⊢
        rw [← hn] at HRT
        have HN1 := Lib.hid hn1
        have HQ := HK
        clear hb1 hb2 hn hn1
        go_upto_region 6 with fail
        clear y0 y1 y2 c1 c2 HK2 HFORM
        have hpts := parts_walk (kk : Int) (s : Int) c n w0 (by have := HQ.out; omega) (by have := HC.out; omega) (by have := HN1.out; omega) (HR.out.turn HT0.out)
        have HPTS := Lib.hid hpts
        have HGOOD := Lib.hid (pts_good (k := (kk : Int)) (by have := HQ.out; omega) HC.out HN1.out)
        have HPL := Lib.hid (pts_len (kk : Int) c n)
        clear hpts
        generalize ptsOf (kk : Int) (c : Int) n = ps at *
        obtain ⟨np, hnp⟩ : ∃ np, ps.length = np := ⟨_, rfl⟩
        have HNP := Lib.hid hnp
        rw [hnp] at HPTS HPL
        clear hnp
        refine wp_region_lit ?_
        refine wR (v := fmV ⟨(kk : Int), (s : Int), (c : Int)⟩) rfl (exec_load rfl rfl HLOAD.out) ?_
        simp only [Act.put, zzA, zz0, zz1]
        refine wR (v := .int .i64 (n : Int)) rfl (exec_move rfl rfl) ?_
        simp only [Act.put, zzA, zz0, zz1]
        unfold fmV
        go_wp2_with (go_at_call 94; refine HPTS.out.mono ?_; rintro e w1 ⟨g, cp, rfl, hp, ht1⟩)
        have HP := Lib.hid hp
        have HT1 := Lib.hid (HT0.out.next ht1)
        clear hp ht1 HLOAD
        go_loopg [1, 27] np (fun gk x i wr => ∃ (k : Nat) (t2 : List UInt8), k + gk = np ∧ i = .int .i64 (k : Int) ∧ x = strV t2 ∧ rightAll (ps.drop k) t2 = rightAll ps t ∧ Turn nowhere w1 wr)
        case atStart => exact ⟨0, t, by omega, rfl, rfl, by rw [List.drop_zero], Turn.refl _ _⟩
        case round =>
          obtain ⟨k, t2, hkl, rfl, rfl, hright, htr⟩ := hrel
          have HKL := Lib.hid hkl
          have HTR := Lib.hid htr
          have HRR := Lib.hid hright
          clear hkl hright htr
          by_cases hlt : k < np
          · have y1 : (k : Int) < (np : Int) := by omega
            have y2 : (0 : Int) ≤ (k : Int) := by omega
            have y3 : (np : Int) ≤ 2 := by have := HPL.out; omega
            obtain ⟨p, r, hd⟩ : ∃ p r, ps.drop k = p :: r := by
              cases h : ps.drop k with
              | nil =>
                have := congrArg List.length h
                rw [List.length_drop, HNP.out] at this
                simp at this
                omega
              | cons p r => exact ⟨p, r, rfl⟩
            have HD := Lib.hid (drop_cons hd)
            have hrr := HRR.out
            rw [hd] at hrr
            have HRC := Lib.hid hrr
            have HLT := Lib.hid hlt
            clear hlt hd hrr
            go_upto_region 8 with fail
            have hk0 : wr.rangeAt g (k * 3) (ptC p) := (HP.out.turn HTR.out (fun e => e)).range HD.out.1
            refine wp_region_lit ?_
            refine wR (v := .pointer (some ⟨g, k * 3, none⟩)) (w' := wr) rfl (by go_simp) ?_
            simp only [Act.put, zzA, zz0, zz1]
            refine wR (v := .agg (ptC p).toArray) rfl (exec_load rfl rfl (load_part hk0)) ?_
            simp only [Act.put, zzA, zz0, zz1]
            refine wR (v := _) rfl (exec_alloc rfl (zero_part _)) ?_
            simp only [Act.put, zzA, zz0, zz1]
            have hbn := Blk.new wr 167 #[.int .i64 0, .string ByteArray.empty, .string ByteArray.empty]
            have htn := (Turn.refl nowhere wr).alloc (.cells #[.int .i64 0, .string ByteArray.empty, .string ByteArray.empty] 167)
            generalize (wr.alloc (.cells #[.int .i64 0, .string ByteArray.empty, .string ByteArray.empty] 167)) = w4 at *
            obtain ⟨b8, hb8⟩ : ∃ b8, b8 = wr.heap.size := ⟨_, rfl⟩
            rw [← hb8] at hbn ⊢
            refine wpList_store_part rfl (.tmp 7) (.tmp 30) rfl hbn rfl rfl rfl size_part ?_
            intro w5 hq5 ht5
            have HT5 := Lib.hid (show Turn nowhere wr w5 from htn.trans ht5 (fun j hj e => by have h2 : j = b8 := e; omega))
            have HB5 := Lib.hid hq5
            clear hk0 hbn htn hb8 hq5 ht5
            simp only [Act.put]
            have HGD := Lib.hid (HGOOD.out p (List.mem_of_getElem? HD.out.1))
            go_upto_region 9 with fail
            have hS0 : PtB b8 p w5.drew := HB5.out.drew
            by_cases hshort : t2.length < p.n
            · refine wp_region_till (PtB b8 p) 14 (by kernel_rfl) ?_
              refine till_pure (i := 0) (v := strV t2) rfl (by kernel_rfl) (by kernel_rfl) (fun _ _ _ h => h) (.inl ⟨by rfl, fun W hW => exec_move rfl rfl⟩) hS0 ?_
              simp only [Act.put, zzA, zz0, zz1]
              refine till_pure (i := 1) (v := .int .i64 (t2.length : Int)) rfl (by kernel_rfl) (by kernel_rfl) (fun _ _ _ h => h) (.inl ⟨by rfl, fun W hW => exec_slen rfl rfl⟩) hS0 ?_
              simp only [Act.put, zzA, zz0, zz1]
              refine till_pure (i := 2) (v := .pointer (some ⟨b8, 0, none⟩)) rfl (by kernel_rfl) (by kernel_rfl) (fun _ _ _ h => h) (.inl ⟨by rfl, fun W hW => exec_field (off := 0) (d := 0) rfl rfl (by kernel_rfl)⟩) hS0 ?_
              simp only [Act.put, zzA, zz0, zz1]
              refine till_only (i := 3) (by kernel_rfl) rfl rfl ?_
              refine wp_run (v := .int .i64 (p.n : Int)) (w' := w5.drew) (exec_load1 rfl rfl (by kernel_rfl) (Blk.cell hS0 0)) ?_
              refine ⟨fun _ => hS0, ?_⟩
              simp only [Act.put, zzA, zz0, zz1]
              refine till_only (i := 4) (by kernel_rfl) rfl rfl ?_
              refine wp_run (v := .bool true) (w' := w5.drew) (exec_lss rfl rfl rfl (by omega)) ?_
              refine ⟨fun _ => hS0, ?_⟩
              simp only [Act.put, zzA, zz0, zz1]
              refine till_only (i := 5) (by kernel_rfl) rfl rfl ?_
              refine wp_run (v := .bool true) (w' := w5.drew) (exec_move rfl rfl) ?_
              refine ⟨fun _ => hS0, ?_⟩
              simp only [Act.put, zzA, zz0, zz1]
              refine till_pure (i := 6) (v := undef) rfl (by kernel_rfl) (by kernel_rfl) (fun _ _ _ h => h) (.inr ⟨by rfl, rfl⟩) hS0 ?_
              simp only [Act.put, zzA, zz0, zz1]
              refine till_pure (i := 7) (v := undef) rfl (by kernel_rfl) (by kernel_rfl) (fun _ _ _ h => h) (.inr ⟨by rfl, rfl⟩) hS0 ?_
              simp only [Act.put, zzA, zz0, zz1]
              refine till_pure (i := 8) (v := undef) rfl (by kernel_rfl) (by kernel_rfl) (fun _ _ _ h => h) (.inr ⟨by rfl, rfl⟩) hS0 ?_
              simp only [Act.put, zzA, zz0, zz1]
              refine till_pure (i := 9) (v := undef) rfl (by kernel_rfl) (by kernel_rfl) (fun _ _ _ h => h) (.inr ⟨by rfl, rfl⟩) hS0 ?_
              simp only [Act.put, zzA, zz0, zz1]
              refine till_pure (i := 10) (v := undef) rfl (by kernel_rfl) (by kernel_rfl) (fun _ _ _ h => h) (.inr ⟨by rfl, rfl⟩) hS0 ?_
              simp only [Act.put, zzA, zz0, zz1]
              refine till_pure (i := 11) (v := undef) rfl (by kernel_rfl) (by kernel_rfl) (fun _ _ _ h => h) (.inr ⟨by rfl, rfl⟩) hS0 ?_
              simp only [Act.put, zzA, zz0, zz1]
              refine till_pure (i := 12) (v := undef) rfl (by kernel_rfl) (by kernel_rfl) (fun _ _ _ h => h) (.inr ⟨by rfl, rfl⟩) hS0 ?_
              simp only [Act.put, zzA, zz0, zz1]
              refine till_pure (i := 13) (v := undef) rfl (by kernel_rfl) (by kernel_rfl) (fun _ _ _ h => h) (.inr ⟨by rfl, rfl⟩) hS0 ?_
              simp only [Act.put, zzA, zz0, zz1]
              refine till_tail 14 rfl (by kernel_rfl) ?_
              have HNO := Lib.hid (show Fm.right ⟨(kk : Int), (s : Int), (c : Int)⟩ t = false from by
                rw [HRT.out, ← HRC.out]
                unfold rightAll
                rw [decide_eq_false (by omega)]
                rfl)
              clear hshort
              go_wp2_with fail
              refine NoPanic.normal ?_
              go_wp2_with fail
              go_ret
              exact ⟨ret_bool HNO.out.symm, (HT1.out.next HTR.out).next HT5.out |>.drew⟩
            · refine wp_region_till (PtB b8 p) 12 (by kernel_rfl) ?_
              refine till_pure (i := 0) (v := strV t2) rfl (by kernel_rfl) (by kernel_rfl) (fun _ _ _ h => h) (.inl ⟨by rfl, fun W hW => exec_move rfl rfl⟩) hS0 ?_
              simp only [Act.put, zzA, zz0, zz1]
              refine till_pure (i := 1) (v := .int .i64 (t2.length : Int)) rfl (by kernel_rfl) (by kernel_rfl) (fun _ _ _ h => h) (.inl ⟨by rfl, fun W hW => exec_slen rfl rfl⟩) hS0 ?_
              simp only [Act.put, zzA, zz0, zz1]
              refine till_pure (i := 2) (v := .pointer (some ⟨b8, 0, none⟩)) rfl (by kernel_rfl) (by kernel_rfl) (fun _ _ _ h => h) (.inl ⟨by rfl, fun W hW => exec_field (off := 0) (d := 0) rfl rfl (by kernel_rfl)⟩) hS0 ?_
              simp only [Act.put, zzA, zz0, zz1]
              refine till_only (i := 3) (by kernel_rfl) rfl rfl ?_
              refine wp_run (v := .int .i64 (p.n : Int)) (w' := w5.drew) (exec_load1 rfl rfl (by kernel_rfl) (Blk.cell hS0 0)) ?_
              refine ⟨fun _ => hS0, ?_⟩
              simp only [Act.put, zzA, zz0, zz1]
              refine till_only (i := 4) (by kernel_rfl) rfl rfl ?_
              refine wp_run (v := .bool false) (w' := w5.drew) (exec_nlss rfl rfl rfl (by omega)) ?_
              refine ⟨fun _ => hS0, ?_⟩
              simp only [Act.put, zzA, zz0, zz1]
              refine till_only (i := 5) (by kernel_rfl) rfl rfl ?_
              refine wp_run (v := .bool false) (w' := w5.drew) (exec_move rfl rfl) ?_
              refine ⟨fun _ => hS0, ?_⟩
              simp only [Act.put, zzA, zz0, zz1]
              refine till_pure (i := 6) (v := strV t2) rfl (by kernel_rfl) (by kernel_rfl) (fun _ _ _ h => h) (.inl ⟨by rfl, fun W hW => exec_move rfl rfl⟩) hS0 ?_
              simp only [Act.put, zzA, zz0, zz1]
              refine till_pure (i := 7) (v := .pointer (some ⟨b8, 0, none⟩)) rfl (by kernel_rfl) (by kernel_rfl) (fun _ _ _ h => h) (.inl ⟨by rfl, fun W hW => exec_field (off := 0) (d := 0) rfl rfl (by kernel_rfl)⟩) hS0 ?_
              simp only [Act.put, zzA, zz0, zz1]
              refine till_pure (i := 10) (v := .pointer (some ⟨b8, 1, none⟩)) rfl (by kernel_rfl) (by kernel_rfl) (fun _ _ _ h => h) (.inl ⟨by rfl, fun W hW => exec_field (off := 0) (d := 1) rfl rfl (by kernel_rfl)⟩) hS0 ?_
              simp only [Act.put, zzA, zz0, zz1]
              refine till_take2 9 (i := 8) (v := .int .i64 (p.n : Int)) rfl (by kernel_rfl) (by kernel_rfl) (fun _ _ _ h => h) (.inl ⟨by rfl, fun W hW => exec_load1 rfl rfl (by kernel_rfl) (Blk.cell hW 0)⟩) hS0 ?_
              simp only [Act.put, zzA, zz0, zz1]
              refine till_take (i := 11) (v := strV p.chars) rfl (by kernel_rfl) (by kernel_rfl) (fun _ _ _ h => h) (.inl ⟨by rfl, fun W hW => exec_load1 rfl rfl (by kernel_rfl) (Blk.cell hW 1)⟩) hS0 ?_
              simp only [Act.put, zzA, zz0, zz1]
              have hle : p.n ≤ t2.length := by omega
              have HLE := Lib.hid hle
              refine till_only (i := 9) (by kernel_rfl) rfl rfl ?_
              refine wp_run (v := strV (t2.take p.n)) (w' := w5.drew) (exec_sto rfl rfl rfl hle) ?_
              refine ⟨fun _ => hS0, ?_⟩
              simp only [Act.put, zzA, zz0, zz1]
              clear hshort hle
              refine till_step (i := 12) (by kernel_rfl) rfl rfl ?_
              intro K1 HK1
              go_wp2_with fail
              refine (only_walk (t2.take p.n) p.chars (by have := HGD.out.ch; omega) HGD.out.asc _).mono ?_
              rintro e w6 ⟨rfl, ht6⟩
              have hS1 : PtB b8 p w6 := hS0.turn ht6 (fun e => e)
              refine HK1.out _ _ ⟨fun _ => hS1, ?_⟩
              clear HK1
              have HB6 := Lib.hid hS1
              have HT6 := Lib.hid ht6
              clear hS0 hS1 ht6
              have hrc : rightAll ps t = (onlyOf (t2.take p.n) p.chars && rightAll r (t2.drop p.n)) := by
                rw [← HRC.out]
                unfold rightAll
                rw [decide_eq_true HLE.out, Bool.true_and]
                cases r <;> rfl
              have HRC2 := Lib.hid hrc
              clear hrc
              refine till_tail 13 rfl (by kernel_rfl) ?_
              cases hon : onlyOf (t2.take p.n) p.chars with
              | false =>
                have HNO := Lib.hid (show Fm.right ⟨(kk : Int), (s : Int), (c : Int)⟩ t = false from by rw [HRT.out, HRC2.out, hon]; rfl)
                clear hon
                go_wp2_with fail
                refine NoPanic.normal ?_
                go_wp2_with fail
                go_ret
                exact ⟨ret_bool HNO.out.symm, (((HT1.out.next HTR.out).next HT5.out).drew).next HT6.out⟩
              | true =>
                have HYES := Lib.hid (show rightAll r (t2.drop p.n) = rightAll ps t from by rw [HRC2.out, hon]; rfl)
                clear hon
                go_wp2_with fail
                refine NoPanic.normal ?_
                go_upto_region 11 with fail
                refine wp_region_lit ?_
                refine wR (v := strV t2) rfl (exec_move rfl rfl) ?_
                simp only [Act.put, zzA, zz0, zz1]
                refine wR (v := .pointer (some ⟨b8, 0, none⟩)) rfl (exec_field (off := 0) (d := 0) rfl rfl (by kernel_rfl)) ?_
                simp only [Act.put, zzA, zz0, zz1]
                refine wR (v := .int .i64 (p.n : Int)) rfl (exec_load1 rfl rfl (by kernel_rfl) (Blk.cell HB6.out 0)) ?_
                simp only [Act.put, zzA, zz0, zz1]
                refine wR (v := strV (t2.drop p.n)) (w' := w6) rfl (exec_sfrom rfl rfl rfl HLE.out) ?_
                simp only [Act.put, zzA, zz0, zz1]
                go_wp2_with fail
                go_roundg (gk - 1)
                case measure => have := HKL.out; have := HLT.out; omega
                case rel => exact ⟨k + 1, t2.drop p.n, by have := HKL.out; have := HLT.out; omega, by go_num, rfl, by rw [HD.out.2.1]; exact HYES.out, ((HTR.out.next HT5.out).drew).next HT6.out⟩
          · have hke : k = np := by have := HKL.out; omega
            have y1 : ¬ ((k : Int) < (np : Int)) := by omega
            clear hlt
            have hrr := HRR.out
            rw [List.drop_of_length_le (by rw [HNP.out, hke]; exact Nat.le_refl _)] at hrr
            have HEND := Lib.hid (show Fm.right ⟨(kk : Int), (s : Int), (c : Int)⟩ t = (t2 == []) from by rw [HRT.out, ← hrr]; rfl)
            clear hke hrr
            go_upto_region 13 with fail
            refine wp_region_lit ?_
            refine wR (v := strV t2) rfl (exec_move rfl rfl) ?_
            simp only [Act.put, zzA, zz0, zz1]
            refine wR (v := .bool (t2 == [])) (w' := wr) rfl (exec_seql (m := []) rfl rfl rfl) ?_
            simp only [Act.put, zzA, zz0, zz1]
            rw [← HEND.out]
            go_wp2_with fail
            go_ret
            exact ⟨rfl, HT1.out.next HTR.out⟩
  · obtain ⟨n, hn⟩ : ∃ n, n = s := ⟨_, rfl⟩
    have HRT := Lib.hid (show Fm.right ⟨(kk : Int), (s : Int), (c : Int)⟩ t = rightAll (ptsOf (kk : Int) (c : Int) n) t from by
      unfold Fm.right
      rw [if_neg (by simp; omega), hn]
      rfl)
    have y1 : ((kk : Int) == 2) = false := by simp; omega
    clear hk2 hk
    have HN1 := Lib.hid (show 1 ≤ n ∧ n ≤ 64 from by omega)
    have HQ := HK
    clear c2
    go_upto_region 6 with fail
    rw [← hn]
    clear hn c1 y1
    have hpts := parts_walk (kk : Int) (s : Int) c n w0 (by have := HQ.out; omega) (by have := HC.out; omega) (by have := HN1.out; omega) (HR.out.turn HT0.out)
    have HPTS := Lib.hid hpts
    have HGOOD := Lib.hid (pts_good (k := (kk : Int)) (by have := HQ.out; omega) HC.out HN1.out)
    have HPL := Lib.hid (pts_len (kk : Int) c n)
    clear hpts
    generalize ptsOf (kk : Int) (c : Int) n = ps at *
    obtain ⟨np, hnp⟩ : ∃ np, ps.length = np := ⟨_, rfl⟩
    have HNP := Lib.hid hnp
    rw [hnp] at HPTS HPL
    clear hnp
    refine wp_region_lit ?_
    refine wR (v := fmV ⟨(kk : Int), (s : Int), (c : Int)⟩) rfl (exec_load rfl rfl HLOAD.out) ?_
    simp only [Act.put, zzA, zz0, zz1]
    refine wR (v := .int .i64 (n : Int)) rfl (exec_move rfl rfl) ?_
    simp only [Act.put, zzA, zz0, zz1]
    unfold fmV
    go_wp2_with (go_at_call 94; refine HPTS.out.mono ?_; rintro e w1 ⟨g, cp, rfl, hp, ht1⟩)
    have HP := Lib.hid hp
    have HT1 := Lib.hid (HT0.out.next ht1)
    clear hp ht1 HLOAD
    go_loopg [1, 27] np (fun gk x i wr => ∃ (k : Nat) (t2 : List UInt8), k + gk = np ∧ i = .int .i64 (k : Int) ∧ x = strV t2 ∧ rightAll (ps.drop k) t2 = rightAll ps t ∧ Turn nowhere w1 wr)
    case atStart => exact ⟨0, t, by omega, rfl, rfl, by rw [List.drop_zero], Turn.refl _ _⟩
    case round =>
      obtain ⟨k, t2, hkl, rfl, rfl, hright, htr⟩ := hrel
      have HKL := Lib.hid hkl
      have HTR := Lib.hid htr
      have HRR := Lib.hid hright
      clear hkl hright htr
      by_cases hlt : k < np
      · have y1 : (k : Int) < (np : Int) := by omega
        have y2 : (0 : Int) ≤ (k : Int) := by omega
        have y3 : (np : Int) ≤ 2 := by have := HPL.out; omega
        obtain ⟨p, r, hd⟩ : ∃ p r, ps.drop k = p :: r := by
          cases h : ps.drop k with
          | nil =>
            have := congrArg List.length h
            rw [List.length_drop, HNP.out] at this
            simp at this
            omega
          | cons p r => exact ⟨p, r, rfl⟩
        have HD := Lib.hid (drop_cons hd)
        have hrr := HRR.out
        rw [hd] at hrr
        have HRC := Lib.hid hrr
        have HLT := Lib.hid hlt
        clear hlt hd hrr
        go_upto_region 8 with fail
        have hk0 : wr.rangeAt g (k * 3) (ptC p) := (HP.out.turn HTR.out (fun e => e)).range HD.out.1
        refine wp_region_lit ?_
        refine wR (v := .pointer (some ⟨g, k * 3, none⟩)) (w' := wr) rfl (by go_simp) ?_
        simp only [Act.put, zzA, zz0, zz1]
        refine wR (v := .agg (ptC p).toArray) rfl (exec_load rfl rfl (load_part hk0)) ?_
        simp only [Act.put, zzA, zz0, zz1]
        refine wR (v := _) rfl (exec_alloc rfl (zero_part _)) ?_
        simp only [Act.put, zzA, zz0, zz1]
        have hbn := Blk.new wr 167 #[.int .i64 0, .string ByteArray.empty, .string ByteArray.empty]
        have htn := (Turn.refl nowhere wr).alloc (.cells #[.int .i64 0, .string ByteArray.empty, .string ByteArray.empty] 167)
        generalize (wr.alloc (.cells #[.int .i64 0, .string ByteArray.empty, .string ByteArray.empty] 167)) = w4 at *
        obtain ⟨b8, hb8⟩ : ∃ b8, b8 = wr.heap.size := ⟨_, rfl⟩
        rw [← hb8] at hbn ⊢
        refine wpList_store_part rfl (.tmp 7) (.tmp 30) rfl hbn rfl rfl rfl size_part ?_
        intro w5 hq5 ht5
        have HT5 := Lib.hid (show Turn nowhere wr w5 from htn.trans ht5 (fun j hj e => by have h2 : j = b8 := e; omega))
        have HB5 := Lib.hid hq5
        clear hk0 hbn htn hb8 hq5 ht5
        simp only [Act.put]
        have HGD := Lib.hid (HGOOD.out p (List.mem_of_getElem? HD.out.1))
        go_upto_region 9 with fail
        have hS0 : PtB b8 p w5.drew := HB5.out.drew
        by_cases hshort : t2.length < p.n
        · refine wp_region_till (PtB b8 p) 14 (by kernel_rfl) ?_
          refine till_pure (i := 0) (v := strV t2) rfl (by kernel_rfl) (by kernel_rfl) (fun _ _ _ h => h) (.inl ⟨by rfl, fun W hW => exec_move rfl rfl⟩) hS0 ?_
          simp only [Act.put, zzA, zz0, zz1]
          refine till_pure (i := 1) (v := .int .i64 (t2.length : Int)) rfl (by kernel_rfl) (by kernel_rfl) (fun _ _ _ h => h) (.inl ⟨by rfl, fun W hW => exec_slen rfl rfl⟩) hS0 ?_
          simp only [Act.put, zzA, zz0, zz1]
          refine till_pure (i := 2) (v := .pointer (some ⟨b8, 0, none⟩)) rfl (by kernel_rfl) (by kernel_rfl) (fun _ _ _ h => h) (.inl ⟨by rfl, fun W hW => exec_field (off := 0) (d := 0) rfl rfl (by kernel_rfl)⟩) hS0 ?_
          simp only [Act.put, zzA, zz0, zz1]
          refine till_only (i := 3) (by kernel_rfl) rfl rfl ?_
          refine wp_run (v := .int .i64 (p.n : Int)) (w' := w5.drew) (exec_load1 rfl rfl (by kernel_rfl) (Blk.cell hS0 0)) ?_
          refine ⟨fun _ => hS0, ?_⟩
          simp only [Act.put, zzA, zz0, zz1]
          refine till_only (i := 4) (by kernel_rfl) rfl rfl ?_
          refine wp_run (v := .bool true) (w' := w5.drew) (exec_lss rfl rfl rfl (by omega)) ?_
          refine ⟨fun _ => hS0, ?_⟩
          simp only [Act.put, zzA, zz0, zz1]
          refine till_only (i := 5) (by kernel_rfl) rfl rfl ?_
          refine wp_run (v := .bool true) (w' := w5.drew) (exec_move rfl rfl) ?_
          refine ⟨fun _ => hS0, ?_⟩
          simp only [Act.put, zzA, zz0, zz1]
          refine till_pure (i := 6) (v := undef) rfl (by kernel_rfl) (by kernel_rfl) (fun _ _ _ h => h) (.inr ⟨by rfl, rfl⟩) hS0 ?_
          simp only [Act.put, zzA, zz0, zz1]
          refine till_pure (i := 7) (v := undef) rfl (by kernel_rfl) (by kernel_rfl) (fun _ _ _ h => h) (.inr ⟨by rfl, rfl⟩) hS0 ?_
          simp only [Act.put, zzA, zz0, zz1]
          refine till_pure (i := 8) (v := undef) rfl (by kernel_rfl) (by kernel_rfl) (fun _ _ _ h => h) (.inr ⟨by rfl, rfl⟩) hS0 ?_
          simp only [Act.put, zzA, zz0, zz1]
          refine till_pure (i := 9) (v := undef) rfl (by kernel_rfl) (by kernel_rfl) (fun _ _ _ h => h) (.inr ⟨by rfl, rfl⟩) hS0 ?_
          simp only [Act.put, zzA, zz0, zz1]
          refine till_pure (i := 10) (v := undef) rfl (by kernel_rfl) (by kernel_rfl) (fun _ _ _ h => h) (.inr ⟨by rfl, rfl⟩) hS0 ?_
          simp only [Act.put, zzA, zz0, zz1]
          refine till_pure (i := 11) (v := undef) rfl (by kernel_rfl) (by kernel_rfl) (fun _ _ _ h => h) (.inr ⟨by rfl, rfl⟩) hS0 ?_
          simp only [Act.put, zzA, zz0, zz1]
          refine till_pure (i := 12) (v := undef) rfl (by kernel_rfl) (by kernel_rfl) (fun _ _ _ h => h) (.inr ⟨by rfl, rfl⟩) hS0 ?_
          simp only [Act.put, zzA, zz0, zz1]
          refine till_pure (i := 13) (v := undef) rfl (by kernel_rfl) (by kernel_rfl) (fun _ _ _ h => h) (.inr ⟨by rfl, rfl⟩) hS0 ?_
          simp only [Act.put, zzA, zz0, zz1]
          refine till_tail 14 rfl (by kernel_rfl) ?_
          have HNO := Lib.hid (show Fm.right ⟨(kk : Int), (s : Int), (c : Int)⟩ t = false from by
            rw [HRT.out, ← HRC.out]
            unfold rightAll
            rw [decide_eq_false (by omega)]
            rfl)
          clear hshort
          go_wp2_with fail
          refine NoPanic.normal ?_
          go_wp2_with fail
          go_ret
          exact ⟨ret_bool HNO.out.symm, (HT1.out.next HTR.out).next HT5.out |>.drew⟩
        · refine wp_region_till (PtB b8 p) 12 (by kernel_rfl) ?_
          refine till_pure (i := 0) (v := strV t2) rfl (by kernel_rfl) (by kernel_rfl) (fun _ _ _ h => h) (.inl ⟨by rfl, fun W hW => exec_move rfl rfl⟩) hS0 ?_
          simp only [Act.put, zzA, zz0, zz1]
          refine till_pure (i := 1) (v := .int .i64 (t2.length : Int)) rfl (by kernel_rfl) (by kernel_rfl) (fun _ _ _ h => h) (.inl ⟨by rfl, fun W hW => exec_slen rfl rfl⟩) hS0 ?_
          simp only [Act.put, zzA, zz0, zz1]
          refine till_pure (i := 2) (v := .pointer (some ⟨b8, 0, none⟩)) rfl (by kernel_rfl) (by kernel_rfl) (fun _ _ _ h => h) (.inl ⟨by rfl, fun W hW => exec_field (off := 0) (d := 0) rfl rfl (by kernel_rfl)⟩) hS0 ?_
          simp only [Act.put, zzA, zz0, zz1]
          refine till_only (i := 3) (by kernel_rfl) rfl rfl ?_
          refine wp_run (v := .int .i64 (p.n : Int)) (w' := w5.drew) (exec_load1 rfl rfl (by kernel_rfl) (Blk.cell hS0 0)) ?_
          refine ⟨fun _ => hS0, ?_⟩
          simp only [Act.put, zzA, zz0, zz1]
          refine till_only (i := 4) (by kernel_rfl) rfl rfl ?_
          refine wp_run (v := .bool false) (w' := w5.drew) (exec_nlss rfl rfl rfl (by omega)) ?_
          refine ⟨fun _ => hS0, ?_⟩
          simp only [Act.put, zzA, zz0, zz1]
          refine till_only (i := 5) (by kernel_rfl) rfl rfl ?_
          refine wp_run (v := .bool false) (w' := w5.drew) (exec_move rfl rfl) ?_
          refine ⟨fun _ => hS0, ?_⟩
          simp only [Act.put, zzA, zz0, zz1]
          refine till_pure (i := 6) (v := strV t2) rfl (by kernel_rfl) (by kernel_rfl) (fun _ _ _ h => h) (.inl ⟨by rfl, fun W hW => exec_move rfl rfl⟩) hS0 ?_
          simp only [Act.put, zzA, zz0, zz1]
          refine till_pure (i := 7) (v := .pointer (some ⟨b8, 0, none⟩)) rfl (by kernel_rfl) (by kernel_rfl) (fun _ _ _ h => h) (.inl ⟨by rfl, fun W hW => exec_field (off := 0) (d := 0) rfl rfl (by kernel_rfl)⟩) hS0 ?_
          simp only [Act.put, zzA, zz0, zz1]
          refine till_pure (i := 10) (v := .pointer (some ⟨b8, 1, none⟩)) rfl (by kernel_rfl) (by kernel_rfl) (fun _ _ _ h => h) (.inl ⟨by rfl, fun W hW => exec_field (off := 0) (d := 1) rfl rfl (by kernel_rfl)⟩) hS0 ?_
          simp only [Act.put, zzA, zz0, zz1]
          refine till_take2 9 (i := 8) (v := .int .i64 (p.n : Int)) rfl (by kernel_rfl) (by kernel_rfl) (fun _ _ _ h => h) (.inl ⟨by rfl, fun W hW => exec_load1 rfl rfl (by kernel_rfl) (Blk.cell hW 0)⟩) hS0 ?_
          simp only [Act.put, zzA, zz0, zz1]
          refine till_take (i := 11) (v := strV p.chars) rfl (by kernel_rfl) (by kernel_rfl) (fun _ _ _ h => h) (.inl ⟨by rfl, fun W hW => exec_load1 rfl rfl (by kernel_rfl) (Blk.cell hW 1)⟩) hS0 ?_
          simp only [Act.put, zzA, zz0, zz1]
          have hle : p.n ≤ t2.length := by omega
          have HLE := Lib.hid hle
          refine till_only (i := 9) (by kernel_rfl) rfl rfl ?_
          refine wp_run (v := strV (t2.take p.n)) (w' := w5.drew) (exec_sto rfl rfl rfl hle) ?_
          refine ⟨fun _ => hS0, ?_⟩
          simp only [Act.put, zzA, zz0, zz1]
          clear hshort hle
          refine till_step (i := 12) (by kernel_rfl) rfl rfl ?_
          intro K1 HK1
          go_wp2_with fail
          refine (only_walk (t2.take p.n) p.chars (by have := HGD.out.ch; omega) HGD.out.asc _).mono ?_
          rintro e w6 ⟨rfl, ht6⟩
          have hS1 : PtB b8 p w6 := hS0.turn ht6 (fun e => e)
          refine HK1.out _ _ ⟨fun _ => hS1, ?_⟩
          clear HK1
          have HB6 := Lib.hid hS1
          have HT6 := Lib.hid ht6
          clear hS0 hS1 ht6
          have hrc : rightAll ps t = (onlyOf (t2.take p.n) p.chars && rightAll r (t2.drop p.n)) := by
            rw [← HRC.out]
            unfold rightAll
            rw [decide_eq_true HLE.out, Bool.true_and]
            cases r <;> rfl
          have HRC2 := Lib.hid hrc
          clear hrc
          refine till_tail 13 rfl (by kernel_rfl) ?_
          cases hon : onlyOf (t2.take p.n) p.chars with
          | false =>
            have HNO := Lib.hid (show Fm.right ⟨(kk : Int), (s : Int), (c : Int)⟩ t = false from by rw [HRT.out, HRC2.out, hon]; rfl)
            clear hon
            go_wp2_with fail
            refine NoPanic.normal ?_
            go_wp2_with fail
            go_ret
            exact ⟨ret_bool HNO.out.symm, (((HT1.out.next HTR.out).next HT5.out).drew).next HT6.out⟩
          | true =>
            have HYES := Lib.hid (show rightAll r (t2.drop p.n) = rightAll ps t from by rw [HRC2.out, hon]; rfl)
            clear hon
            go_wp2_with fail
            refine NoPanic.normal ?_
            go_upto_region 11 with fail
            refine wp_region_lit ?_
            refine wR (v := strV t2) rfl (exec_move rfl rfl) ?_
            simp only [Act.put, zzA, zz0, zz1]
            refine wR (v := .pointer (some ⟨b8, 0, none⟩)) rfl (exec_field (off := 0) (d := 0) rfl rfl (by kernel_rfl)) ?_
            simp only [Act.put, zzA, zz0, zz1]
            refine wR (v := .int .i64 (p.n : Int)) rfl (exec_load1 rfl rfl (by kernel_rfl) (Blk.cell HB6.out 0)) ?_
            simp only [Act.put, zzA, zz0, zz1]
            refine wR (v := strV (t2.drop p.n)) (w' := w6) rfl (exec_sfrom rfl rfl rfl HLE.out) ?_
            simp only [Act.put, zzA, zz0, zz1]
            go_wp2_with fail
            go_roundg (gk - 1)
            case measure => have := HKL.out; have := HLT.out; omega
            case rel => exact ⟨k + 1, t2.drop p.n, by have := HKL.out; have := HLT.out; omega, by go_num, rfl, by rw [HD.out.2.1]; exact HYES.out, ((HTR.out.next HT5.out).drew).next HT6.out⟩
      · have hke : k = np := by have := HKL.out; omega
        have y1 : ¬ ((k : Int) < (np : Int)) := by omega
        clear hlt
        have hrr := HRR.out
        rw [List.drop_of_length_le (by rw [HNP.out, hke]; exact Nat.le_refl _)] at hrr
        have HEND := Lib.hid (show Fm.right ⟨(kk : Int), (s : Int), (c : Int)⟩ t = (t2 == []) from by rw [HRT.out, ← hrr]; rfl)
        clear hke hrr
        go_upto_region 13 with fail
        refine wp_region_lit ?_
        refine wR (v := strV t2) rfl (exec_move rfl rfl) ?_
        simp only [Act.put, zzA, zz0, zz1]
        refine wR (v := .bool (t2 == [])) (w' := wr) rfl (exec_seql (m := []) rfl rfl rfl) ?_
        simp only [Act.put, zzA, zz0, zz1]
        rw [← HEND.out]
        go_wp2_with fail
        go_ret
        exact ⟨rfl, HT1.out.next HTR.out⟩
theorem may_nat {f : Fm} (h : f.may = true) : ∃ k s c : Nat, f = ⟨(k : Int), (s : Int), (c : Int)⟩ ∧ (1 ≤ k ∧ k ≤ 5) ∧ (1 ≤ c ∧ c ≤ 3) ∧ (1 ≤ s ∧ s ≤ 64) := by
  obtain ⟨k, s, c⟩ := f
  simp only [Fm.may, Bool.and_eq_true, decide_eq_true_eq] at h
  obtain ⟨h1, h2, h3⟩ := h
  refine ⟨k.toNat, s.toNat, c.toNat, ?_, by omega, by omega, by omega⟩
  rw [Int.toNat_of_nonneg (by omega), Int.toNat_of_nonneg (by omega), Int.toNat_of_nonneg (by omega)]
theorem check_walk {w : World} {f : Fm} {t : List UInt8} (hr : RowsT w) :
    Calls Tryz.prog 46 #[fmV f, strV t] w fun e w' => e = .returned (.int .i64 (f.check t)) ∧ Turn nowhere w w' := by
  have HR := Lib.hid hr
  clear hr
  have HMW := Lib.hid (mayBe_walk f)
  have hrw : f.may = true → ∀ W, RowsT W → Calls Tryz.prog 75 #[fmV f, strV t] W fun e w' => e = .returned (.bool (f.right t)) ∧ Turn nowhere W w' := by
    intro h W hW
    obtain ⟨k, s, c, rfl, h1, h2, h3⟩ := may_nat h
    exact right_walk h1 h2 h3 hW
  have HRW := Lib.hid hrw
  have hch : f.check t = if f.may = true then if f.right t = true then 0 else 41 else 40 := rfl
  have HCH := Lib.hid hch
  clear hrw hch
  obtain ⟨fv, hfv⟩ : ∃ fv, fv = fmC f := ⟨_, rfl⟩
  have hv : fmV f = .agg fv := by rw [hfv]; rfl
  have hlf : ∀ W g, Blk W g 49 fv → (Instr.loadAt 49 (.pointer (some ⟨g, 0, none⟩))).run Tryz.prog W = .ok (.agg fv) W := by
    intro W g hb
    rw [← hv]
    rw [hfv] at hb
    exact load_blkForm hb
  have HLF := Lib.hid hlf
  have HV := Lib.hid hv
  rw [hv] at HMW HRW ⊢
  obtain ⟨x0, x1, x2, rfl⟩ : ∃ x0 x1 x2, fv = #[.int .i64 x0, .int .i64 x1, .int .i64 x2] := ⟨_, _, _, hfv⟩
  clear hlf hv hfv
  go_enter Tryz.func46, Tryz.ntmps46
  go_upto_region 1 with fail
  have hb0 := Blk.new w 49 #[.int .i64 x0, .int .i64 x1, .int .i64 x2]
  have ht0 := (Turn.refl nowhere w).alloc (.cells #[.int .i64 x0, .int .i64 x1, .int .i64 x2] 49)
  generalize (w.alloc (.cells #[.int .i64 x0, .int .i64 x1, .int .i64 x2] 49)) = w0 at *
  generalize w.heap.size = b2 at *
  refine wp_region_lit ?_
  refine wR (v := .agg #[.int .i64 x0, .int .i64 x1, .int .i64 x2]) rfl (exec_load rfl rfl (HLF.out _ _ hb0)) ?_
  simp only [Act.put, zzA, zz0, zz1]
  have HB0 := Lib.hid hb0
  have HT0 := Lib.hid ht0
  clear hb0 ht0
  cases hmay : f.may with
  | false =>
    rw [hmay] at HMW
    have HC := Lib.hid (show f.check t = 40 from by rw [HCH.out, hmay]; rfl)
    clear hmay
    go_wp2_with (go_at_call 74; refine (HMW.out _).mono ?_; rintro e w1 ⟨rfl, ht1⟩)
    go_ret
    exact ⟨ret_int HC.out.symm, HT0.out.next ht1⟩
  | true =>
    rw [hmay] at HMW
    have HC := Lib.hid (show f.check t = if f.right t = true then 0 else 41 from by rw [HCH.out, hmay]; rfl)
    have HMY := Lib.hid hmay
    clear hmay
    go_upto_region 3 with (go_at_call 74; refine (HMW.out _).mono ?_; rintro e w1 ⟨rfl, ht1⟩)
    have HT1 := Lib.hid (HT0.out.next ht1)
    have hb1 := HB0.out.turn ht1 (fun e => e)
    clear ht1
    refine wp_region_lit ?_
    refine wR (v := .agg #[.int .i64 x0, .int .i64 x1, .int .i64 x2]) rfl (exec_load rfl rfl (HLF.out _ _ hb1)) ?_
    simp only [Act.put, zzA, zz0, zz1]
    clear hb1
    have hcall := HRW.out HMY.out w1 (HR.out.turn HT1.out)
    cases hrt : f.right t with
    | false =>
      rw [hrt] at hcall
      have HC2 := Lib.hid (show f.check t = 41 from by rw [HC.out, hrt]; rfl)
      clear hrt
      go_wp2_with (go_at_call 75; refine hcall.mono ?_; rintro e w2 ⟨rfl, ht2⟩)
      go_ret
      exact ⟨ret_int HC2.out.symm, HT1.out.next ht2⟩
    | true =>
      rw [hrt] at hcall
      have HC2 := Lib.hid (show f.check t = 0 from by rw [HC.out, hrt]; rfl)
      clear hrt
      go_wp2_with (go_at_call 75; refine hcall.mono ?_; rintro e w2 ⟨rfl, ht2⟩)
      go_ret
      exact ⟨ret_int HC2.out.symm, HT1.out.next ht2⟩
end Go.Proofs.YticofobhkmabiaaGreatDoor
namespace Go.Proofs.YticofobhkmabiaaGreatDoor
open Go.RowKit
open Fdd
set_option linter.unusedVariables false
theorem repeat_one (c : UInt8) : ∀ n, Lib.repeatL [c] n = List.replicate n c
  | 0 => rfl
  | n + 1 => by
    unfold Lib.repeatL
    rw [repeat_one c n]
    rfl
def digitsOf (n size : Int) : List UInt8 × Int :=
  if size < 1 ∨ 18 < size then ([], 40) else if n < 0 ∨ size < ((Lib.itoa n).length : Int) then ([], 41) else (List.replicate (size.toNat - (Lib.itoa n).length) 48 ++ Lib.itoa n, 0)
/-- strconv.Itoa answers so -/
def ItoaAt (n : Int) (w : World) : Prop := Calls Tryz.prog 88 #[.int .i64 n] w fun e w' => e = .returned (strV (Lib.itoa n)) ∧ Turn nowhere w w'
theorem itoa_small (n : Nat) (h : n < 100) (w : World) : ItoaAt (n : Int) w := by
  refine (Any.strconv_Itoa_small Tryz.lays171 n h w).mono ?_
  rintro e w' ⟨rfl, rfl⟩
  refine ⟨?_, Turn.refl _ _⟩
  have : Lib.itoa (n : Int) = Lib.decDigits n := by
    unfold Lib.itoa
    rw [if_neg (by omega), Int.toNat_natCast]
  rw [this]
  rfl
theorem digits_walk (n size : Int) (w : World) (hi : ∀ W, Turn nowhere w W → ItoaAt n W) :
    Calls Tryz.prog 58 #[.int .i64 n, .int .i64 size] w fun e w' => e = .returned (.tuple #[strV (digitsOf n size).1, .int .i64 (digitsOf n size).2]) ∧ Turn nowhere w w' := by
  have HI := Lib.hid (hi w (Turn.refl _ _))
  clear hi
  have hdef : digitsOf n size = if size < 1 ∨ 18 < size then ([], 40) else if n < 0 ∨ size < ((Lib.itoa n).length : Int) then ([], 41) else (List.replicate (size.toNat - (Lib.itoa n).length) 48 ++ Lib.itoa n, 0) := rfl
  have HD := Lib.hid hdef
  clear hdef
  go_enter Tryz.func58, Tryz.ntmps58
  by_cases h1 : size < 1
  · have HX := Lib.hid (show digitsOf n size = ([], 40) from by rw [HD.out, if_pos (.inl h1)])
    go_wp2_with fail
    go_ret2
    rw [HX.out]
    exact ⟨rfl, Turn.refl _ _⟩
  · by_cases h2 : 18 < size
    · have HX := Lib.hid (show digitsOf n size = ([], 40) from by rw [HD.out, if_pos (.inr h2)])
      go_wp2_with fail
      go_ret2
      rw [HX.out]
      exact ⟨rfl, Turn.refl _ _⟩
    · have HX := Lib.hid (show digitsOf n size = if n < 0 ∨ size < ((Lib.itoa n).length : Int) then ([], 41) else (List.replicate (size.toNat - (Lib.itoa n).length) 48 ++ Lib.itoa n, 0) from by rw [HD.out, if_neg (by omega)])
      go_upto_region 4 with (go_at_call 88; refine HI.out.mono ?_; rintro e w1 ⟨rfl, ht⟩)
      have HT := Lib.hid ht
      clear ht HD
      generalize Lib.itoa n = dg at *
      unfold strV
      by_cases h3 : n < 0
      · have HY := Lib.hid (show digitsOf n size = ([], 41) from by rw [HX.out, if_pos (.inl h3)])
        go_wp2_with fail
        go_ret2
        rw [HY.out]
        exact ⟨rfl, HT.out⟩
      · by_cases h4 : size < (dg.length : Int)
        · have HY := Lib.hid (show digitsOf n size = ([], 41) from by rw [HX.out, if_pos (.inr h4)])
          go_wp2_with fail
          go_ret2
          rw [HY.out]
          exact ⟨rfl, HT.out⟩
        · have HY := Lib.hid (show digitsOf n size = (List.replicate (size.toNat - dg.length) 48 ++ dg, 0) from by rw [HX.out, if_neg (by omega)])
          go_upto_region 6 with fail
          refine wp_region_lit ?_
          refine wR (v := .int .i64 ((size.toNat : Nat) : Int)) (w' := w1) rfl (by rw [Int.toNat_of_nonneg (by omega)]; exact exec_move rfl rfl) ?_
          simp only [Act.put, zzA, zz0, zz1]
          refine wR (v := strV dg) rfl (exec_move rfl rfl) ?_
          simp only [Act.put, zzA, zz0, zz1]
          refine wR (v := .int .i64 (dg.length : Int)) (w' := w1) rfl (exec_slen rfl rfl) ?_
          simp only [Act.put, zzA, zz0, zz1]
          refine wR (v := .int .i64 ((size.toNat - dg.length : Nat) : Int)) (w' := w1) rfl (exec_sub rfl rfl rfl (by omega) (by omega)) ?_
          simp only [Act.put, zzA, zz0, zz1]
          have h5 : size.toNat - dg.length ≤ 18 := by omega
          have h6 : dg.length ≤ 18 := by omega
          have H6 := Lib.hid h6
          generalize size.toNat - dg.length = m at *
          have H5 := Lib.hid h5
          clear h3 h4 h5 h6
          have hrep : Calls Tryz.prog 89 #[.string ⟨#[48]⟩, .int .i64 (m : Int)] w1 fun e w' => e = .returned (strV (List.replicate m 48)) ∧ Below w1.heap.size w1 w' := by
            have h := Any.strings_Repeat Tryz.lays105 Tryz.Builder_Extra_105 ⟨#[48]⟩ m w1 (by have := H5.out; omega) (by have := H5.out; rw [show (ByteArray.mk #[48]).size = 1 from rfl]; omega)
            rw [show (ByteArray.mk #[48]).data.toList = [48] from rfl, repeat_one] at h
            exact h
          go_wp2_with (first
            | (go_at_call 89; refine hrep.mono ?_; rintro e w2 ⟨rfl, hb⟩)
            | (refine wR (v := strV (List.replicate m 48 ++ dg)) (w' := w2) rfl (exec_sadd (l := List.replicate m 48) (m := dg) rfl rfl rfl (by have := H5.out; have := H6.out; rw [List.length_replicate]; omega)) ?_))
          go_ret2
          rw [HY.out]
          exact ⟨rfl, HT.out.next (Turn.of_below hb (Nat.le_refl _))⟩
end Go.Proofs.YticofobhkmabiaaGreatDoor
namespace Go.Proofs.YticofobhkmabiaaGreatDoor
open Go.RowKit
open Fdd
set_option linter.unusedVariables false
theorem digitVal_dec {b : UInt8} (h : b ∈ dec) : Lib.digitVal b = some (b.toNat - 48) ∧ b.toNat - 48 < 10 ∧ b ≠ 45 ∧ b ≠ 43 ∧ 48 ≤ b.toNat ∧ b.toNat ≤ 57 := by
  simp only [dec, List.mem_cons, List.not_mem_nil, or_false] at h
  rcases h with rfl | rfl | rfl | rfl | rfl | rfl | rfl | rfl | rfl | rfl <;> decide
theorem decFrom_val : ∀ (l : List UInt8) (acc : Nat), (∀ b ∈ l, b ∈ dec) → Lib.decFrom acc l = some (l.foldl (fun a c => a * 10 + (c.toNat - 48)) acc)
  | [], acc, _ => rfl
  | b :: r, acc, h => by
    unfold Lib.decFrom
    rw [(digitVal_dec (h b (List.mem_cons_self ..))).1]
    exact decFrom_val r _ fun x hx => h x (List.mem_cons_of_mem _ hx)
theorem atoi_val {t : List UInt8} (h : onlyOf t dec = true) (h0 : t ≠ []) : Lib.atoi t = some (val t : Int) := by
  cases t with
  | nil => exact absurd rfl h0
  | cons b r =>
    have hb := digitVal_dec (onlyOf_mem h (List.mem_cons_self ..))
    have h1 : (b == 45) = false := by simpa using hb.2.2.1
    have h2 : (b == 43) = false := by simpa using hb.2.2.2.1
    unfold Lib.atoi
    simp only [h1, h2, Bool.false_eq_true, if_false]
    unfold Lib.decNat
    rw [show (b :: r).isEmpty = false from rfl]
    simp only [Bool.false_eq_true, if_false]
    rw [decFrom_val (b :: r) 0 fun x hx => onlyOf_mem h hx]
    rfl
def amountOf (t : List UInt8) : Int × Int := if t.length ≤ 18 ∧ onlyOf t dec = true ∧ t ≠ [] then ((val t : Int), 0) else (0, 41)
def ErrT (w : World) : Prop := ∃ te pe, w.cell? ⟨13, 0, none⟩ = some (.iface te pe)
theorem ErrT.turn {w w' : World} (h : ErrT w) (ht : Turn nowhere w w') : ErrT w' := by
  obtain ⟨te, pe, h⟩ := h
  exact ⟨te, pe, by rw [ht.cell (World.block_lt_of_cell? _ _ h) (fun e => e)]; exact h⟩
theorem dec_ascii : ascii dec := ascii_of (by decide)
set_option maxRecDepth 20000 in
theorem amount_walk {t : List UInt8} (w : World) (hE : t = [] → ErrT w) :
    Calls Tryz.prog 81 #[strV t] w fun e w' => e = .returned (.tuple #[.int .i64 (amountOf t).1, .int .i64 (amountOf t).2]) ∧ Turn nowhere w w' := by
  have hdef : amountOf t = if t.length ≤ 18 ∧ onlyOf t dec = true ∧ t ≠ [] then ((val t : Int), 0) else (0, 41) := rfl
  have HD := Lib.hid hdef
  have HE := Lib.hid hE
  clear hdef hE
  unfold strV
  go_enter Tryz.func81, Tryz.ntmps81
  by_cases h1 : t.length ≤ 18
  · have HL := Lib.hid h1
    have y1 : ¬ ((18 : Int) < (t.length : Int)) := by omega
    clear h1
    have how := only_walk t dec (by decide) dec_ascii w
    cases hon : onlyOf t dec with
    | false =>
      rw [hon] at how
      have HX := Lib.hid (show amountOf t = (0, 41) from by
        rw [HD.out, if_neg]
        intro h
        rw [hon] at h
        exact absurd h.2.1 (by decide))
      clear hon HD
      go_wp2_with (go_at_call 98; refine how.mono ?_; rintro e w1 ⟨rfl, ht⟩)
      go_ret2
      rw [HX.out]
      exact ⟨rfl, ht⟩
    | true =>
      rw [hon] at how
      have HON := Lib.hid hon
      clear hon
      go_upto_region 3 with (go_at_call 98; refine how.mono ?_; rintro e w1 ⟨rfl, ht⟩)
      have HT := Lib.hid ht
      clear ht how
      by_cases h0 : t = []
      · have HX := Lib.hid (show amountOf t = (0, 41) from by rw [HD.out, if_neg (by intro h; exact h.2.2 h0)])
        obtain ⟨te, pe, hev⟩ := (HE.out h0).turn HT.out
        have hat := Any.strconv_Atoi_err Tryz.laysC172 ⟨t.toArray⟩ (by rw [str_size]; exact HL.out) (by rw [h0]; rfl) _ w1 hev (.inr ⟨te, pe, rfl⟩)
        clear h0 hev
        go_wp2_with (go_at_call 101; refine hat.mono ?_; rintro e w2 ⟨N, rfl, _, _, hb⟩)
        go_ret2
        rw [HX.out]
        exact ⟨rfl, HT.out.next (Turn.of_below hb (Nat.le_refl _))⟩
      · have HX := Lib.hid (show amountOf t = ((val t : Int), 0) from by rw [HD.out, if_pos ⟨HL.out, HON.out, h0⟩])
        have hat := Any.strconv_Atoi Tryz.lays172 ⟨t.toArray⟩ (val t : Int) (by rw [str_size]; exact HL.out) (atoi_val HON.out h0) w1
        clear h0
        go_wp2_with (go_at_call 101; refine hat.mono ?_; rintro e w2 ⟨rfl, bt, rfl⟩)
        go_ret2
        rw [HX.out]
        exact ⟨rfl, HT.out.next (Turn.of_below (Lib.bytesWorld_below _ _ _) (Nat.le_refl _))⟩
  · have HX := Lib.hid (show amountOf t = (0, 41) from by rw [HD.out, if_neg (by intro h; exact h1 h.1)])
    have y1 : (18 : Int) < (t.length : Int) := by omega
    go_wp2_with fail
    go_ret2
    rw [HX.out]
    exact ⟨rfl, Turn.refl _ _⟩
end Go.Proofs.YticofobhkmabiaaGreatDoor
namespace Go.Proofs.YticofobhkmabiaaGreatDoor
open Go.RowKit
open Fdd
set_option linter.unusedVariables false
theorem byte_size : ∃ i, Tryz.prog.info? 5 = some i ∧ i.size = 1 := by
  have h := byteInfo
  cases hq : Tryz.prog.info? 5 with
  | none => rw [hq] at h; cases h
  | some i => exact ⟨i, rfl, by rw [hq] at h; simp at h; exact h.2.1⟩
theorem slice_to_any (A : Option Addr) (n c e : Nat) (h0 : e ≤ n) (hc : n ≤ c) (W : World) : (Instr.sliceAt 26 (.slice A n c) none (some (.int .i64 (e : Int))) none).run Tryz.prog W = .ok (.slice A e c) W := by
  obtain ⟨i, hi1, hi2⟩ := byte_size
  have b1 : (0 : Int) ≤ (e : Int) ∧ (e : Int) ≤ (c : Int) := ⟨by omega, by omega⟩
  have hu := Tryz.underlying26
  simp [Instr.sliceAt, Instr.slice, Instr.sliceBounds, Instr.sliceBound, asIntOf, run_underlying hu, sizeOf, typeInfo, hi1, b1]
  rw [if_pos (show e ≤ c by omega)]
  cases A <;> simp [Addr.add]
def fromA (A : Option Addr) (c d : Nat) : Option Addr := if c = d then A else A.map (·.add (d * 1))
theorem slice_from_any (A : Option Addr) (n c d : Nat) (h0 : d ≤ n) (hc : n ≤ c) (W : World) : (Instr.sliceAt 26 (.slice A n c) (some (.int .i64 (d : Int))) none none).run Tryz.prog W = .ok (.slice (fromA A c d) (n - d) (c - d)) W := by
  obtain ⟨i, hi1, hi2⟩ := byte_size
  have b1 : (0 : Int) ≤ (d : Int) ∧ (d : Int) ≤ (n : Int) := ⟨by omega, by omega⟩
  have hu := Tryz.underlying26
  simp [Instr.sliceAt, Instr.slice, Instr.sliceBounds, Instr.sliceBound, asIntOf, run_underlying hu, sizeOf, typeInfo, hi1, hi2, b1, fromA]
  intro h
  omega
theorem bs_to {W : World} {A : Option Addr} {n e : Nat} {b : List UInt8} (h : Bs W A n b) (he : e ≤ n) : Bs W A e (b.take e) := by
  obtain ⟨h1, h2, h3⟩ := h
  refine ⟨by rw [List.length_take]; omega, by omega, fun hp => ?_⟩
  obtain ⟨g, off, rfl, hc⟩ := h3 (by omega)
  refine ⟨g, off, rfl, fun i hi => ?_⟩
  rw [hc i (by omega), List.getD_eq_getElem?_getD, List.getD_eq_getElem?_getD, List.getElem?_take, if_pos hi]
theorem bs_from {W : World} {A : Option Addr} {n c d : Nat} {b : List UInt8} (h : Bs W A n b) (hd : d ≤ n) (hc : n ≤ c) : Bs W (fromA A c d) (n - d) (b.drop d) := by
  obtain ⟨h1, h2, h3⟩ := h
  refine ⟨by rw [List.length_drop]; omega, by omega, fun hp => ?_⟩
  obtain ⟨g, off, rfl, hcell⟩ := h3 (by omega)
  refine ⟨g, off + d, ?_, fun i hi => ?_⟩
  · unfold fromA
    rw [if_neg (by omega)]
    simp only [Option.map_some, Nat.mul_one]
    rw [add_nat]
  · rw [Nat.add_assoc, hcell (d + i) (by omega), List.getD_eq_getElem?_getD, List.getD_eq_getElem?_getD, List.getElem?_drop]
theorem sizeAll_cons (p : Pt) (r : List Pt) : sizeAll (p :: r) = p.size + sizeAll r := rfl
theorem code_size {w : World} {cv : Array Value} {p : Pt} (h : CodeAt w cv p) (hg : Gd p) : ∃ f c x y, cv = #[.func (.func f) #[] c, x, y] ∧ (f = 151 ∨ f = 148) ∧ c = #[] ∧
    ∀ W, Calls Tryz.prog f #[.int .i64 (p.n : Int)] W fun e w' => e = .returned (.int .i64 (p.size : Int)) ∧ w' = W := by
  unfold Pt.size
  rcases h with ⟨h0, q, c, rfl, h1, h2⟩ | ⟨h0, q, c, rfl, h1, h2⟩
  · rw [if_pos h0]
    exact ⟨_, #[], _, _, rfl, .inr rfl, rfl, fun W => psize_walk p.n (by have := hg.n2; omega) W⟩
  · rw [if_neg h0]
    exact ⟨_, #[], _, _, rfl, .inl rfl, rfl, fun W => ssize_walk p.n W⟩
theorem code_take {w : World} {cv : Array Value} {p : Pt} (h : CodeAt w cv p) (hg : Gd p) {A : Option Addr} {m cap : Nat} {bs : List UInt8} (hb : Bs w A m bs) (hm : m = p.size) : ∃ f c x y, cv = #[x, y, .func (.func f) #[] c] ∧ (f = 153 ∨ f = 150) ∧
    Calls Tryz.prog f (#[.slice A m cap, .int .i64 (p.n : Int)] ++ c) w fun e w' => e = .returned (optV (p.dec bs)) ∧ Turn nowhere w w' := by
  unfold Pt.size at hm
  unfold Pt.dec
  rcases h with ⟨h0, q, c, rfl, h1, h2⟩ | ⟨h0, q, c, rfl, h1, h2⟩
  · rw [if_pos h0] at hm ⊢
    exact ⟨_, #[ptrTo c], _, _, rfl, .inr rfl, ptake_walk h2 hb hm (by have := hg.n2; omega) hg.n1 (by have := hg.ch; omega)⟩
  · rw [if_neg h0] at hm ⊢
    subst hm
    rcases hg.st with ⟨g1, _⟩ | ⟨_, g2⟩
    · exact absurd g1 h0
    · exact ⟨_, #[ptrTo q, ptrTo c], _, _, rfl, .inl rfl, stake_walk h1 h2 g2 hb (by have := hg.n2; omega) (by have := hg.ch; omega)⟩
theorem code_rd {w : World} {cv : Array Value} {p : Pt} (h : CodeAt w cv p) (hg : Gd p) : ∃ fs ft ct y, cv = #[.func (.func fs) #[] #[], y, .func (.func ft) #[] ct] ∧ y.oneCell' = true ∧
    ((fs = 151 ∧ ft = 153) ∨ (fs = 148 ∧ ft = 150)) ∧
    (∀ W, Calls Tryz.prog fs #[.int .i64 (p.n : Int)] W fun e w' => e = .returned (.int .i64 (p.size : Int)) ∧ w' = W) ∧
    ∀ W, CodeAt W cv p → ∀ (A : Option Addr) (m cap : Nat) (bs : List UInt8), Bs W A m bs → m = p.size → Calls Tryz.prog ft (#[.slice A m cap, .int .i64 (p.n : Int)] ++ ct) W fun e w' => e = .returned (optV (p.dec bs)) ∧ Turn nowhere W w' := by
  rcases h with ⟨h0, q, c, rfl, h1, h2⟩ | ⟨h0, q, c, rfl, h1, h2⟩
  · refine ⟨_, _, #[ptrTo c], _, rfl, rfl, .inr ⟨rfl, rfl⟩, ?_, ?_⟩
    · intro W
      unfold Pt.size
      rw [if_pos h0]
      exact psize_walk p.n (by have := hg.n2; omega) W
    · intro W hW A m cap bs hb hm
      obtain ⟨f, c', x, y, hcv, _, hcall⟩ := code_take (cap := cap) hW hg hb hm
      injection hcv with hcv
      injection hcv with _ hcv
      injection hcv with _ hcv
      injection hcv with hcv
      injection hcv with hf _ hc
      injection hf with hf
      subst hf hc
      exact hcall
  · refine ⟨_, _, #[ptrTo q, ptrTo c], _, rfl, rfl, .inl ⟨rfl, rfl⟩, ?_, ?_⟩
    · intro W
      unfold Pt.size
      rw [if_neg h0]
      exact ssize_walk p.n W
    · intro W hW A m cap bs hb hm
      obtain ⟨f, c', x, y, hcv, _, hcall⟩ := code_take (cap := cap) hW hg hb hm
      injection hcv with hcv
      injection hcv with _ hcv
      injection hcv with _ hcv
      injection hcv with hcv
      injection hcv with hf _ hc
      injection hf with hf
      subst hf hc
      exact hcall
theorem rd_one {fs ft : FuncId} {ct : Array Value} {y : Value} (hy : y.oneCell' = true) : ∀ v ∈ (#[.func (.func fs) #[] #[], y, .func (.func ft) #[] ct] : Array Value).toList, v.oneCell' = true := by
  intro v hv
  simp only [List.mem_cons, List.not_mem_nil, or_false] at hv
  rcases hv with rfl | rfl | rfl
  · rfl
  · exact hy
  · rfl
def RdS (b8 b12 : Nat) (p : Pt) (cv : Array Value) (W : World) : Prop := Blk W b8 167 (ptC p).toArray ∧ Blk W b12 186 cv
/-- a new block was written: the code stands -/
theorem CodeAt.poke {w5 w6 w7 w8 : World} {cv : Array Value} {p : Pt} {b12 : Nat} (h6 : CodeAt w6 cv p) (_ : Turn nowhere w5 w8) (_ : Turn nowhere w5 w6) (ht : Turn (only b12) w7 w8) (h : CodeAt w7 cv p) (hn : ∀ (cs : Array Value) (tt : TypeId) (q : Nat), Blk w6 q tt cs → q ≠ b12) : CodeAt w8 cv p := by
  rcases h with ⟨h0, q, c, rfl, h1, h2⟩ | ⟨h0, q, c, rfl, h1, h2⟩
  · rcases h6 with ⟨_, q', c', hcv, g1, g2⟩ | ⟨g0, _⟩
    · have e1 : q = q' ∧ c = c' := by
        unfold pairV at hcv
        injection hcv with hcv
        injection hcv with _ hcv
        injection hcv with h3 hcv
        injection hcv with h4 _
        injection h3 with _ _ h3
        injection h4 with _ _ h4
        unfold ptrTo at h3 h4
        simp at h3 h4
        exact ⟨h3, h4⟩
      obtain ⟨rfl, rfl⟩ := e1
      exact .inl ⟨h0, q, c, rfl, h1.turn ht (hn _ _ _ g1), h2.turn ht (hn _ _ _ g2)⟩
    · exact absurd h0 g0
  · rcases h6 with ⟨g0, _⟩ | ⟨_, q', c', hcv, g1, g2⟩
    · exact absurd g0 h0
    · have e1 : q = q' ∧ c = c' := by
        unfold sinV at hcv
        injection hcv with hcv
        injection hcv with _ hcv
        injection hcv with h3 hcv
        injection h3 with _ _ h3
        unfold ptrTo at h3
        simp at h3
        exact h3
      obtain ⟨rfl, rfl⟩ := e1
      exact .inr ⟨h0, q, c, rfl, h1.turn ht (hn _ _ _ g1), h2.turn ht (hn _ _ _ g2)⟩
/-- what a reading answers -/
def TakeR (r : Except Int (List UInt8 × List UInt8)) (e : Ending) (w' : World) : Prop :=
  match r with
  | .error k => e = .returned (.tuple #[strV [], .slice none 0 0, .int .i64 k])
  | .ok (t, rest) => ∃ A n c, e = .returned (.tuple #[strV t, .slice A n c, .int .i64 0]) ∧ Bs w' A n rest ∧ n ≤ c
theorem exec_assign {a : Act} {o : Oper} {W : World} {P : Program} {x : Operand} {v : Value} (ho : o.op = .assign x) (hx : a.eval x = v) : (execOp a.eval o).run P W = .ok (.value v) W := by
  unfold execOp
  simp only [ho, hx, Sem.run_pure]
theorem exec_extract {a : Act} {o : Oper} {W : World} {P : Program} {x : Operand} {i : Nat} {vs : Array Value} {v : Value} (ho : o.op = .extract x i) (hx : a.eval x = .tuple vs) (hv : vs[i]? = some v) : (execOp a.eval o).run P W = .ok (.value v) W := by
  unfold execOp
  simp only [ho, hx]
  go_simp
theorem exec_addN {W : World} {a : Act} {o : Oper} {x y : Operand} {m n : Nat} (ho : o.op = .binOp .add 3 x y 3) (hx : a.eval x = .int .i64 (m : Int)) (hy : a.eval y = .int .i64 (n : Int)) (h : m + n ≤ 1000000) : (execOp a.eval o).run Tryz.prog W = .ok (.value (.int .i64 ((m + n : Nat) : Int))) W := by
  unfold execOp
  simp only [ho, hx, hy]
  have e : IntKind.i64.wrap ((m : Int) + (n : Int)) = ((m + n : Nat) : Int) := by
    rw [IntKind.wrap_i64]
    omega
  rw [← e]
  go_simp
theorem size_le {p : Pt} (h : Gd p) : p.size ≤ 200 := by
  unfold Pt.size
  have := h.n2
  split <;> omega
theorem dec_len {p : Pt} {b t : List UInt8} (h : p.dec b = some t) : t.length ≤ 2 * b.length + 1 := by
  unfold Pt.dec at h
  split at h
  · unfold unpacked at h
    split at h
    · split at h
      · cases h
      · injection h with h
        rw [← h, List.length_drop, unpack_len]
        omega
    · cases h
  · split at h
    · injection h with h
      rw [← h, List.length_map]
      omega
    · cases h
set_option maxRecDepth 20000 in
set_option maxHeartbeats 2000000 in
theorem take_walk {w : World} {g np cp n c : Nat} {ps : List Pt} {b : List UInt8} {A : Option Addr} (hp : PtsAt w g ps) (hnp : ps.length = np) (hg : ∀ p ∈ ps, Gd p) (hps : np ≤ 2) (hb : Bs w A n b) (hc : n ≤ c) :
    Calls Tryz.prog 116 #[.slice A n c, .slice (some ⟨g, 0, none⟩) np cp] w fun e w' => TakeR (takeAll ps b) e w' ∧ Turn nowhere w w' := by
  have HP := Lib.hid hp
  have HNP := Lib.hid hnp
  have HG := Lib.hid hg
  have HPS := Lib.hid hps
  have HB := Lib.hid hb
  have HC := Lib.hid hc
  have hdef : takeAll ps b = if b.length < sizeAll ps then .error 43 else match decAll ps b with
    | none => .error 42
    | some t => .ok (t, b.drop (sizeAll ps)) := rfl
  have HDEF := Lib.hid hdef
  clear hp hnp hg hps hb hc hdef
  go_enter Tryz.func116, Tryz.ntmps116
  go_upto_region 3 with fail
  go_loopg [7, 18] np (fun gk s i wr => ∃ k sz : Nat, k + gk = np ∧ i = .int .i64 (k : Int) ∧ s = .int .i64 (sz : Int) ∧ sz + sizeAll (ps.drop k) = sizeAll ps ∧ sz ≤ 200 * k ∧ Turn nowhere w wr)
  case atStart => exact ⟨0, 0, by omega, rfl, rfl, by simp, by omega, Turn.refl _ _⟩
  case round =>
    obtain ⟨k, sz, hkl, rfl, rfl, hsz, hsz2, htr⟩ := hrel
    have HKL := Lib.hid hkl
    have HTR := Lib.hid htr
    have HSZ := Lib.hid hsz
    have HSZ2 := Lib.hid hsz2
    clear hkl htr hsz hsz2
    by_cases hlt : k < np
    · have y1 : (k : Int) < (np : Int) := by omega
      have y2 : (0 : Int) ≤ (k : Int) := by omega
      have y3 : (np : Int) ≤ 2 := by have := HPS.out; omega
      obtain ⟨p, r, hd⟩ : ∃ p r, ps.drop k = p :: r := by
        cases h : ps.drop k with
        | nil =>
          have := congrArg List.length h
          rw [List.length_drop, HNP.out] at this
          simp at this
          omega
        | cons p r => exact ⟨p, r, rfl⟩
      have hszz := HSZ.out
      rw [hd] at hszz
      have HSZ3 := Lib.hid (show sz + p.size + sizeAll r = sizeAll ps from by rw [sizeAll_cons] at hszz; omega)
      have HD := Lib.hid (drop_cons hd)
      have HLT := Lib.hid hlt
      clear hlt hd hszz
      go_upto_region 4 with fail
      have hk0 : wr.rangeAt g (k * 3) (ptC p) := (HP.out.turn HTR.out (fun e => e)).range HD.out.1
      refine wp_region_lit ?_
      refine wR (v := .pointer (some ⟨g, k * 3, none⟩)) (w' := wr) rfl (by go_simp) ?_
      simp only [Act.put, zzA, zz0, zz1]
      refine wR (v := .agg (ptC p).toArray) rfl (exec_load rfl rfl (load_part hk0)) ?_
      simp only [Act.put, zzA, zz0, zz1]
      refine wR (v := _) rfl (exec_alloc rfl (zero_part _)) ?_
      simp only [Act.put, zzA, zz0, zz1]
      have hbn := Blk.new wr 167 #[.int .i64 0, .string ByteArray.empty, .string ByteArray.empty]
      have htn := (Turn.refl nowhere wr).alloc (.cells #[.int .i64 0, .string ByteArray.empty, .string ByteArray.empty] 167)
      generalize (wr.alloc (.cells #[.int .i64 0, .string ByteArray.empty, .string ByteArray.empty] 167)) = w4 at *
      obtain ⟨b8, hb8⟩ : ∃ b8, b8 = wr.heap.size := ⟨_, rfl⟩
      rw [← hb8] at hbn ⊢
      refine wpList_store_part rfl (.tmp 9) (.tmp 21) rfl hbn rfl rfl rfl size_part ?_
      intro w5 hq5 ht5
      have HT5 := Lib.hid (show Turn nowhere wr w5 from htn.trans ht5 (fun j hj e => by have h2 : j = b8 := e; omega))
      have HB5 := Lib.hid hq5
      clear hk0 hbn htn hb8 hq5 ht5
      simp only [Act.put]
      have HGD := Lib.hid (HG.out p (List.mem_of_getElem? HD.out.1))
      go_upto_region 5 with fail
      have hS0 : PtB b8 p w5.drew := HB5.out.drew
      refine wp_region_till (PtB b8 p) 8 (by kernel_rfl) ?_
      refine till_pure (i := 0) (v := .int .i64 (sz : Int)) rfl (by kernel_rfl) (by kernel_rfl) (fun _ _ _ h => h) (.inl ⟨by rfl, fun W hW => exec_move rfl rfl⟩) hS0 ?_
      simp only [Act.put, zzA, zz0, zz1]
      refine till_take (i := 1) (v := .agg (ptC p).toArray) rfl (by kernel_rfl) (by kernel_rfl) (fun _ _ _ h => h) (.inl ⟨by rfl, fun W hW => exec_load rfl rfl (load_blkPart hW)⟩) hS0 ?_
      simp only [Act.put, zzA, zz0, zz1]
      refine till_pure (i := 4) (v := .pointer (some ⟨b8, 0, none⟩)) rfl (by kernel_rfl) (by kernel_rfl) (fun _ _ _ h => h) (.inl ⟨by rfl, fun W hW => exec_field (off := 0) (d := 0) rfl rfl (by kernel_rfl)⟩) hS0 ?_
      simp only [Act.put, zzA, zz0, zz1]
      refine till_take (i := 5) (v := .int .i64 (p.n : Int)) rfl (by kernel_rfl) (by kernel_rfl) (fun _ _ _ h => h) (.inl ⟨by rfl, fun W hW => exec_load1 rfl rfl (by kernel_rfl) (Blk.cell hW 0)⟩) hS0 ?_
      simp only [Act.put, zzA, zz0, zz1]
      refine till_step (i := 2) (by kernel_rfl) rfl rfl ?_
      intro K1 HK1
      go_wp2_with fail
      refine (codeOf_walk p _).mono ?_
      rintro e w6 ⟨cv, rfl, hcode, ht6⟩
      have hS1 : PtB b8 p w6 := hS0.turn ht6 (fun e => e)
      refine HK1.out _ _ ⟨fun _ => hS1, ?_⟩
      clear HK1
      obtain ⟨f, cc, xx, yy, rfl, hf, rfl, hcall⟩ := code_size hcode HGD.out
      have HCALL := Lib.hid hcall
      have HT6 := Lib.hid ((HTR.out.next HT5.out).drew.next ht6)
      clear hcall hcode ht6 hS0
      refine till_pure (i := 3) (v := .func (.func f) #[] #[]) rfl (by kernel_rfl) (by kernel_rfl) (fun _ _ _ h => h) (.inl ⟨by rfl, fun W hW => exec_getField rfl rfl (field_size _ _ _ W)⟩) hS1 ?_
      simp only [Act.put, zzA, zz0, zz1]
      refine till_step (i := 6) (by kernel_rfl) rfl rfl ?_
      intro K1 HK1
      have HS1 := Lib.hid hS1
      clear hS1
      have hp8 := size_le HGD.out
      generalize hps8 : p.size = ps8 at *
      have HPS8 := Lib.hid hps8
      have HP8 := Lib.hid hp8
      clear hps8 hp8
      rcases hf with rfl | rfl
      · go_wp2_with fail
        refine (HCALL.out _).mono ?_
        rintro e w7 ⟨rfl, rfl⟩
        refine HK1.out _ _ ⟨fun _ => HS1.out, ?_⟩
        clear HK1
        refine till_only (i := 7) (by kernel_rfl) rfl rfl ?_
        refine wp_run (v := .int .i64 ((sz + ps8 : Nat) : Int)) (w' := w7) (exec_addN rfl rfl rfl (by have h1 := HSZ2.out; have h2 := HP8.out; have h3 := HLT.out; have h4 := HPS.out; omega)) ?_
        refine ⟨fun _ => HS1.out, ?_⟩
        simp only [Act.put, zzA, zz0, zz1]
        refine till_tail 8 rfl (by kernel_rfl) ?_
        go_wp2_with fail
        refine NoPanic.normal ?_
        go_wp2_with fail
        go_roundg (gk - 1)
        case measure => have := HKL.out; have := HLT.out; omega
        case rel =>
          refine ⟨k + 1, sz + ps8, by have := HKL.out; have := HLT.out; omega, by go_num, rfl, ?_, by have h1 := HSZ2.out; have h2 := HP8.out; omega, HT6.out⟩
          rw [HD.out.2.1]
          exact HSZ3.out
      · go_wp2_with fail
        refine (HCALL.out _).mono ?_
        rintro e w7 ⟨rfl, rfl⟩
        refine HK1.out _ _ ⟨fun _ => HS1.out, ?_⟩
        clear HK1
        refine till_only (i := 7) (by kernel_rfl) rfl rfl ?_
        refine wp_run (v := .int .i64 ((sz + ps8 : Nat) : Int)) (w' := w7) (exec_addN rfl rfl rfl (by have h1 := HSZ2.out; have h2 := HP8.out; have h3 := HLT.out; have h4 := HPS.out; omega)) ?_
        refine ⟨fun _ => HS1.out, ?_⟩
        simp only [Act.put, zzA, zz0, zz1]
        refine till_tail 8 rfl (by kernel_rfl) ?_
        go_wp2_with fail
        refine NoPanic.normal ?_
        go_wp2_with fail
        go_roundg (gk - 1)
        case measure => have := HKL.out; have := HLT.out; omega
        case rel =>
          refine ⟨k + 1, sz + ps8, by have := HKL.out; have := HLT.out; omega, by go_num, rfl, ?_, by have h1 := HSZ2.out; have h2 := HP8.out; omega, HT6.out⟩
          rw [HD.out.2.1]
          exact HSZ3.out
    · have hke : k = np := by have := HKL.out; omega
      have y1 : ¬ ((k : Int) < (np : Int)) := by omega
      clear hlt
      have hsz := HSZ.out
      rw [List.drop_of_length_le (by rw [HNP.out, hke]; exact Nat.le_refl _)] at hsz
      have hsz2 : sz = sizeAll ps := by simpa [sizeAll] using hsz
      have HSS := Lib.hid hsz2
      clear hsz hsz2 hke
      have hbl : b.length = n := HB.out.1
      have HBL := Lib.hid hbl
      clear hbl
      by_cases hshort : n < sz
      · have HRES := Lib.hid (show takeAll ps b = .error 43 from by rw [HDEF.out, if_pos (by rw [HBL.out, ← HSS.out]; exact hshort)])
        have y2 : (n : Int) < (sz : Int) := by omega
        clear hshort
        go_wp2_with fail
        go_ret3
        rw [HRES.out]
        exact ⟨rfl, HTR.out⟩
      · have HRES := Lib.hid (show takeAll ps b = (match decAll ps b with
          | none => .error 42
          | some t => .ok (t, b.drop (sizeAll ps))) from by rw [HDEF.out, if_neg (by rw [HBL.out, ← HSS.out]; exact hshort)])
        have y2 : ¬ ((n : Int) < (sz : Int)) := by omega
        have HLONG := Lib.hid hshort
        clear hshort
        generalize gk = gk1 at *
        go_upto_region 10 with fail
        generalize wr = wL at *
        have HB2 := Lib.hid (bs_turn HB.out HTR.out)
        have HP2 := Lib.hid (HP.out.turn HTR.out (fun e => e))
        have HLL := Lib.hid (show sizeAll ps ≤ b.length from by rw [HBL.out, ← HSS.out]; have := HLONG.out; omega)
        clear HSZ HSZ2 HKL y2
        go_loopg [0, 4, 37] np (fun gk x s i wr => ∃ (k n' c' : Nat) (A' : Option Addr) (b2 t1 : List UInt8), k + gk = np ∧ i = .int .i64 (k : Int) ∧ x = .slice A' n' c' ∧ s = strV t1 ∧ Bs wr A' n' b2 ∧ n' ≤ c' ∧ sizeAll (ps.drop k) ≤ b2.length ∧ decAll ps b = (decAll (ps.drop k) b2).map (t1 ++ ·) ∧ b2.drop (sizeAll (ps.drop k)) = b.drop (sizeAll ps) ∧ t1.length ≤ 1000 * k ∧ Turn nowhere wL wr)
        case atStart => exact ⟨0, _, _, _, b, [], by omega, rfl, rfl, rfl, HB2.out, HC.out, by rw [List.drop_zero]; exact HLL.out, by rw [List.drop_zero]; cases decAll ps b <;> rfl, by rw [List.drop_zero], by simp, Turn.refl _ _⟩
        case round =>
          obtain ⟨k, n', c', A', b2, t1, hkl, rfl, rfl, rfl, hbs, hnc, hsl, hdec, hdrop, htl, htr⟩ := hrel
          have HKL := Lib.hid hkl
          have HTR2 := Lib.hid htr
          have HBS := Lib.hid hbs
          have HNC := Lib.hid hnc
          have HSL := Lib.hid hsl
          have HDEC := Lib.hid hdec
          have HDROP := Lib.hid hdrop
          have HTL := Lib.hid htl
          clear hkl htr hbs hnc hsl hdec hdrop htl
          by_cases hlt : k < np
          · have y1 : (k : Int) < (np : Int) := by omega
            have y2 : (0 : Int) ≤ (k : Int) := by omega
            have y3 : (np : Int) ≤ 2 := by have := HPS.out; omega
            obtain ⟨p, r, hd⟩ : ∃ p r, ps.drop k = p :: r := by
              cases h : ps.drop k with
              | nil =>
                have := congrArg List.length h
                rw [List.length_drop, HNP.out] at this
                simp at this
                omega
              | cons p r => exact ⟨p, r, rfl⟩
            have h1 := HSL.out
            have h2 := HDEC.out
            have h3 := HDROP.out
            rw [hd] at h1 h2 h3
            rw [sizeAll_cons] at h1 h3
            have HSL2 := Lib.hid h1
            have HDEC2 := Lib.hid h2
            have HDROP2 := Lib.hid h3
            have HD := Lib.hid (drop_cons hd)
            have HLT := Lib.hid hlt
            clear hlt hd h1 h2 h3
            go_upto_region 11 with fail
            have hk0 : wr.rangeAt g (k * 3) (ptC p) := (HP2.out.turn HTR2.out (fun e => e)).range HD.out.1
            refine wp_region_lit ?_
            refine wR (v := .pointer (some ⟨g, k * 3, none⟩)) (w' := wr) rfl (by go_simp) ?_
            simp only [Act.put, zzA, zz0, zz1]
            refine wR (v := .agg (ptC p).toArray) rfl (exec_load rfl rfl (load_part hk0)) ?_
            simp only [Act.put, zzA, zz0, zz1]
            refine wR (v := _) rfl (exec_alloc rfl (zero_part _)) ?_
            simp only [Act.put, zzA, zz0, zz1]
            have hbn := Blk.new wr 167 #[.int .i64 0, .string ByteArray.empty, .string ByteArray.empty]
            have htn := (Turn.refl nowhere wr).alloc (.cells #[.int .i64 0, .string ByteArray.empty, .string ByteArray.empty] 167)
            generalize (wr.alloc (.cells #[.int .i64 0, .string ByteArray.empty, .string ByteArray.empty] 167)) = w4 at *
            obtain ⟨b8, hb8⟩ : ∃ b8, b8 = wr.heap.size := ⟨_, rfl⟩
            rw [← hb8] at hbn ⊢
            refine wpList_store_part rfl (.tmp 11) (.tmp 40) rfl hbn rfl rfl rfl size_part ?_
            intro w5 hq5 ht5
            have HT5 := Lib.hid (show Turn nowhere wr w5 from htn.trans ht5 (fun j hj e => by have h2 : j = b8 := e; omega))
            have HB5 := Lib.hid hq5
            clear hk0 hbn htn hb8 hq5 ht5
            simp only [Act.put]
            have HGD := Lib.hid (HG.out p (List.mem_of_getElem? HD.out.1))
            go_upto_region 12 with fail
            refine wp_region_lit ?_
            refine wR (v := .agg (ptC p).toArray) rfl (exec_load rfl rfl (load_blkPart HB5.out)) ?_
            simp only [Act.put, zzA, zz0, zz1]
            go_upto_region 13 with (first
              | (go_at_call 113
                 refine (codeOf_walk p _).mono ?_
                 rintro e w6 ⟨cv, rfl, hcode, ht6⟩
                 obtain ⟨fs, ft, ct, yy, rfl, hy, hf, hsize, htake⟩ := code_rd hcode HGD.out
                 have HY := Lib.hid hy
                 have HF := Lib.hid hf
                 have HSIZE := Lib.hid hsize
                 have HTAKE := Lib.hid htake
                 have HCODE := Lib.hid hcode
                 have HT6 := Lib.hid ht6
                 clear hcode ht6 hsize htake hf hy)
              | (refine wR (v := _) rfl (exec_alloc rfl (zero_code _)) ?_
                 simp only [Act.put, zzA, zz0, zz1]
                 have hq7 := Blk.new w6 186 #[.nilFunc, .nilFunc, .nilFunc]
                 have HB7 := Lib.hid ((HB5.out.turn HT6.out (fun e => e)).alloc (.cells #[.nilFunc, .nilFunc, .nilFunc] 186))
                 have HT7 := Lib.hid (HT6.out.alloc (.cells #[.nilFunc, .nilFunc, .nilFunc] 186))
                 have HC7 := Lib.hid (HCODE.out.turn ((Turn.refl nowhere w6).alloc (.cells #[.nilFunc, .nilFunc, .nilFunc] 186)))
                 have HL6 := Lib.hid (show b8 < w6.heap.size from Nat.lt_of_lt_of_le HB5.out.lt HT6.out.size)
                 have HL5 := Lib.hid (show w5.heap.size ≤ w6.heap.size from HT6.out.size)
                 have HL7 := Lib.hid (show ∀ (cs : Array Value) (tt : TypeId) (q : Nat), Blk w6 q tt cs → q ≠ w6.heap.size from fun cs tt q h => Nat.ne_of_lt h.lt)
                 generalize (w6.alloc (.cells #[.nilFunc, .nilFunc, .nilFunc] 186)) = w7 at *
                 generalize w6.heap.size = b12 at *)
              | (refine wpList_store_row rfl 186 (.tmp 12) (.tmp 42) rfl #[.func (.func fs) #[] #[], yy, .func (.func ft) #[] ct] hq7 rfl rfl rfl size_code (rd_one HY.out) ?_
                 intro w8 hb8c ht8
                 have HQ8 := Lib.hid hb8c
                 have HT8 := Lib.hid (show Turn nowhere w5 w8 from HT7.out.trans ht8 (fun j hj e => by have h2 : j = b12 := e; have := HL5.out; omega))
                 have HB8 := Lib.hid (HB7.out.turn ht8 (fun e => by have h2 : b8 = b12 := e; have := HL6.out; omega))
                 have HC8 := Lib.hid (HCODE.out.poke HT8.out HT6.out ht8 HC7.out HL7.out)
                 clear hb8c ht8 hq7))
            have c0 : w8.cell? ⟨b12, 0, none⟩ = some (.func (.func fs) #[] #[]) := HQ8.out.cell 0
            have c1 : w8.cell? ⟨b8, 0, none⟩ = some (.int .i64 (p.n : Int)) := HB8.out.cell 0
            have hdc : decAll (p :: r) b2 = match p.dec (b2.take p.size) with
              | none => none
              | some t => (decAll r (b2.drop p.size)).map (t ++ ·) := rfl
            have HDC := Lib.hid hdc
            clear hdc
            have hp8 := size_le HGD.out
            have HTAKE8 := Lib.hid (HTAKE.out w8.drew (HC8.out.turn (Turn.drew (Turn.refl _ _))) A' p.size c' (b2.take p.size) (bs_to (bs_turn HBS.out ((HT5.out.next HT8.out).drew)) (by have h1 := HSL2.out; have h2 := HBS.out.1; omega)) rfl)
            generalize hps8 : p.size = ps8 at *
            have HPS8 := Lib.hid hps8
            have HP8 := Lib.hid hp8
            clear hps8 hp8 HTAKE
            rcases HF.out with ⟨rfl, rfl⟩ | ⟨rfl, rfl⟩
            · go_upto_region 14 with (go_at_call 151; refine (HSIZE.out _).mono ?_; rintro e w9 ⟨rfl, rfl⟩)
              have hS0 : RdS b8 b12 p #[.func (.func 151) #[] #[], yy, .func (.func 153) #[] ct] w9.drew := ⟨HB8.out.drew, HQ8.out.drew⟩
              refine wp_region_till (RdS b8 b12 p #[.func (.func 151) #[] #[], yy, .func (.func 153) #[] ct]) 7 (by kernel_rfl) ?_
              refine till_pure (i := 0) (v := .pointer (some ⟨b12, 2, none⟩)) rfl (by kernel_rfl) (by kernel_rfl) (fun _ _ _ h => h) (.inl ⟨by rfl, fun W hW => exec_field (off := 0) (d := 2) rfl rfl (by kernel_rfl)⟩) hS0 ?_
              simp only [Act.put, zzA, zz0, zz1]
              refine till_take (i := 1) (v := .func (.func 153) #[] ct) rfl (by kernel_rfl) (by kernel_rfl) (fun _ _ _ h => h) (.inl ⟨by rfl, fun W hW => exec_load1 rfl rfl (by kernel_rfl) (hW.2.cell 2)⟩) hS0 ?_
              simp only [Act.put, zzA, zz0, zz1]
              refine till_pure (i := 2) (v := .slice A' n' c') rfl (by kernel_rfl) (by kernel_rfl) (fun _ _ _ h => h) (.inl ⟨by rfl, fun W hW => exec_move rfl rfl⟩) hS0 ?_
              simp only [Act.put, zzA, zz0, zz1]
              refine till_pure (i := 3) (v := .int .i64 (ps8 : Int)) rfl (by kernel_rfl) (by kernel_rfl) (fun _ _ _ h => h) (.inl ⟨by rfl, fun W hW => exec_move rfl rfl⟩) hS0 ?_
              simp only [Act.put, zzA, zz0, zz1]
              refine till_pure (i := 4) (v := .slice A' ps8 c') rfl (by kernel_rfl) (by kernel_rfl) (fun _ _ _ h => h) (.inl ⟨by rfl, fun W hW => exec_slice rfl rfl rfl rfl rfl (slice_to_any A' n' c' ps8 (by have h1 := HSL2.out; have h2 := HBS.out.1; omega) HNC.out W)⟩) hS0 ?_
              simp only [Act.put, zzA, zz0, zz1]
              refine till_pure (i := 5) (v := .pointer (some ⟨b8, 0, none⟩)) rfl (by kernel_rfl) (by kernel_rfl) (fun _ _ _ h => h) (.inl ⟨by rfl, fun W hW => exec_field (off := 0) (d := 0) rfl rfl (by kernel_rfl)⟩) hS0 ?_
              simp only [Act.put, zzA, zz0, zz1]
              refine till_take (i := 6) (v := .int .i64 (p.n : Int)) rfl (by kernel_rfl) (by kernel_rfl) (fun _ _ _ h => h) (.inl ⟨by rfl, fun W hW => exec_load1 rfl rfl (by kernel_rfl) (hW.1.cell 0)⟩) hS0 ?_
              simp only [Act.put, zzA, zz0, zz1]
              refine till_step (i := 7) (by kernel_rfl) rfl rfl ?_
              intro K1 HK1
              have HS0 := Lib.hid hS0
              clear hS0 c0 c1
              go_wp2_with fail
              refine HTAKE8.out.mono ?_
              rintro e w10 ⟨rfl, ht10⟩
              have hS1 : RdS b8 b12 p #[.func (.func 151) #[] #[], yy, .func (.func 153) #[] ct] w10 := ⟨HS0.out.1.turn ht10 (fun e => e), HS0.out.2.turn ht10 (fun e => e)⟩
              refine HK1.out _ _ ⟨fun _ => hS1, ?_⟩
              clear HK1
              have HT9 := Lib.hid (((HT5.out.next HT8.out).drew).next ht10)
              have HT10 := Lib.hid (((HTR2.out.next HT5.out).next HT8.out).drew.next ht10)
              clear ht10
              refine till_pure (i := 8) (v := optV (p.dec (b2.take ps8))) rfl (by kernel_rfl) (by kernel_rfl) (fun _ _ _ h => h) (.inl ⟨by rfl, fun W hW => exec_move rfl rfl⟩) hS1 ?_
              simp only [Act.put, zzA, zz0, zz1]
              refine till_pure (i := 9) (v := strV ((p.dec (b2.take ps8)).getD [])) rfl (by kernel_rfl) (by kernel_rfl) (fun _ _ _ h => h) (.inl ⟨by rfl, fun W hW => exec_extract rfl rfl rfl⟩) hS1 ?_
              simp only [Act.put, zzA, zz0, zz1]
              refine till_pure (i := 10) (v := .bool (p.dec (b2.take ps8)).isSome) rfl (by kernel_rfl) (by kernel_rfl) (fun _ _ _ h => h) (.inl ⟨by rfl, fun W hW => exec_extract rfl rfl rfl⟩) hS1 ?_
              simp only [Act.put, zzA, zz0, zz1]
              refine till_pure (i := 11) (v := strV ((p.dec (b2.take ps8)).getD [])) rfl (by kernel_rfl) (by kernel_rfl) (fun _ _ _ h => h) (.inl ⟨by rfl, fun W hW => exec_assign rfl rfl⟩) hS1 ?_
              simp only [Act.put, zzA, zz0, zz1]
              refine till_pure (i := 12) (v := .bool (p.dec (b2.take ps8)).isSome) rfl (by kernel_rfl) (by kernel_rfl) (fun _ _ _ h => h) (.inl ⟨by rfl, fun W hW => exec_assign rfl rfl⟩) hS1 ?_
              simp only [Act.put, zzA, zz0, zz1]
              refine till_done (by kernel_rfl) ?_
              refine NoPanic.normal ?_
              clear hS1 HS0
              cases hpd : p.dec (b2.take ps8) with
              | none =>
                have HFAIL := Lib.hid (show takeAll ps b = .error 42 from by
                  rw [HRES.out, HDEC2.out, HDC.out, hpd]
                  rfl)
                simp only [Option.getD_none, Option.isSome_none]
                clear hpd
                go_wp2_with fail
                go_ret3
                rw [HFAIL.out]
                exact ⟨rfl, HTR.out.next HT10.out⟩
              | some tp =>
                have HPD := Lib.hid hpd
                have HTPL := Lib.hid (dec_len hpd)
                simp only [Option.getD_some, Option.isSome_some]
                clear hpd
                go_upto_region 17 with fail
                have hT : (fun _ : World => True) w10.drew := trivial
                refine wp_region_till (fun _ => True) 8 (by kernel_rfl) ?_
                refine till_pure (i := 0) (v := strV t1) rfl (by kernel_rfl) (by kernel_rfl) (fun _ _ _ h => h) (.inl ⟨by rfl, fun W hW => exec_move rfl rfl⟩) hT ?_
                simp only [Act.put, zzA, zz0, zz1]
                refine till_pure (i := 1) (v := strV tp) rfl (by kernel_rfl) (by kernel_rfl) (fun _ _ _ h => h) (.inl ⟨by rfl, fun W hW => exec_move rfl rfl⟩) hT ?_
                simp only [Act.put, zzA, zz0, zz1]
                refine till_pure (i := 2) (v := strV (t1 ++ tp)) rfl (by kernel_rfl) (by kernel_rfl) (fun _ _ _ h => h) (.inl ⟨by rfl, fun W hW => exec_sadd rfl rfl rfl (by have h1 := HTL.out; have h2 := HTPL.out; have h3 := HP8.out; have h4 := HLT.out; have h5 := HPS.out; rw [List.length_take] at h2; omega)⟩) hT ?_
                simp only [Act.put, zzA, zz0, zz1]
                refine till_pure (i := 3) (v := .slice A' n' c') rfl (by kernel_rfl) (by kernel_rfl) (fun _ _ _ h => h) (.inl ⟨by rfl, fun W hW => exec_move rfl rfl⟩) hT ?_
                simp only [Act.put, zzA, zz0, zz1]
                refine till_pure (i := 4) (v := .int .i64 (ps8 : Int)) rfl (by kernel_rfl) (by kernel_rfl) (fun _ _ _ h => h) (.inl ⟨by rfl, fun W hW => exec_move rfl rfl⟩) hT ?_
                simp only [Act.put, zzA, zz0, zz1]
                refine till_pure (i := 5) (v := .slice (fromA A' c' ps8) (n' - ps8) (c' - ps8)) rfl (by kernel_rfl) (by kernel_rfl) (fun _ _ _ h => h) (.inl ⟨by rfl, fun W hW => exec_slice rfl rfl rfl rfl rfl (slice_from_any A' n' c' ps8 (by have h1 := HSL2.out; have h2 := HBS.out.1; omega) HNC.out W)⟩) hT ?_
                simp only [Act.put, zzA, zz0, zz1]
                refine till_pure (i := 6) (v := strV (t1 ++ tp)) rfl (by kernel_rfl) (by kernel_rfl) (fun _ _ _ h => h) (.inl ⟨by rfl, fun W hW => exec_assign rfl rfl⟩) hT ?_
                simp only [Act.put, zzA, zz0, zz1]
                refine till_pure (i := 7) (v := .slice (fromA A' c' ps8) (n' - ps8) (c' - ps8)) rfl (by kernel_rfl) (by kernel_rfl) (fun _ _ _ h => h) (.inl ⟨by rfl, fun W hW => exec_assign rfl rfl⟩) hT ?_
                simp only [Act.put, List.setIfInBounds_toArray, List.set_cons_zero]
                refine till_done (by kernel_rfl) ?_
                refine NoPanic.normal ?_
                clear hT
                go_wp2_with fail
                go_roundg (gk - 1)
                case measure => have := HKL.out; have := HLT.out; omega
                case rel =>
                  refine ⟨k + 1, n' - ps8, c' - ps8, fromA A' c' ps8, b2.drop ps8, t1 ++ tp, by have := HKL.out; have := HLT.out; omega, by go_num, rfl, rfl, ?_, by have := HNC.out; omega, ?_, ?_, ?_, ?_, HT10.out.drew⟩
                  · exact bs_from (bs_turn HBS.out HT9.out.drew) (by have h1 := HSL2.out; have h2 := HBS.out.1; omega) HNC.out
                  · rw [HD.out.2.1, List.length_drop]
                    have h1 := HSL2.out
                    omega
                  · rw [HD.out.2.1, HDEC2.out, HDC.out, HPD.out]
                    cases decAll r (b2.drop ps8) <;> simp
                  · rw [HD.out.2.1, List.drop_drop]
                    exact HDROP2.out
                  · have h1 := HTL.out
                    have h2 := HTPL.out
                    have h3 := HP8.out
                    rw [List.length_take] at h2
                    rw [List.length_append]
                    omega
            · go_upto_region 14 with (go_at_call 148; refine (HSIZE.out _).mono ?_; rintro e w9 ⟨rfl, rfl⟩)
              have hS0 : RdS b8 b12 p #[.func (.func 148) #[] #[], yy, .func (.func 150) #[] ct] w9.drew := ⟨HB8.out.drew, HQ8.out.drew⟩
              refine wp_region_till (RdS b8 b12 p #[.func (.func 148) #[] #[], yy, .func (.func 150) #[] ct]) 7 (by kernel_rfl) ?_
              refine till_pure (i := 0) (v := .pointer (some ⟨b12, 2, none⟩)) rfl (by kernel_rfl) (by kernel_rfl) (fun _ _ _ h => h) (.inl ⟨by rfl, fun W hW => exec_field (off := 0) (d := 2) rfl rfl (by kernel_rfl)⟩) hS0 ?_
              simp only [Act.put, zzA, zz0, zz1]
              refine till_take (i := 1) (v := .func (.func 150) #[] ct) rfl (by kernel_rfl) (by kernel_rfl) (fun _ _ _ h => h) (.inl ⟨by rfl, fun W hW => exec_load1 rfl rfl (by kernel_rfl) (hW.2.cell 2)⟩) hS0 ?_
              simp only [Act.put, zzA, zz0, zz1]
              refine till_pure (i := 2) (v := .slice A' n' c') rfl (by kernel_rfl) (by kernel_rfl) (fun _ _ _ h => h) (.inl ⟨by rfl, fun W hW => exec_move rfl rfl⟩) hS0 ?_
              simp only [Act.put, zzA, zz0, zz1]
              refine till_pure (i := 3) (v := .int .i64 (ps8 : Int)) rfl (by kernel_rfl) (by kernel_rfl) (fun _ _ _ h => h) (.inl ⟨by rfl, fun W hW => exec_move rfl rfl⟩) hS0 ?_
              simp only [Act.put, zzA, zz0, zz1]
              refine till_pure (i := 4) (v := .slice A' ps8 c') rfl (by kernel_rfl) (by kernel_rfl) (fun _ _ _ h => h) (.inl ⟨by rfl, fun W hW => exec_slice rfl rfl rfl rfl rfl (slice_to_any A' n' c' ps8 (by have h1 := HSL2.out; have h2 := HBS.out.1; omega) HNC.out W)⟩) hS0 ?_
              simp only [Act.put, zzA, zz0, zz1]
              refine till_pure (i := 5) (v := .pointer (some ⟨b8, 0, none⟩)) rfl (by kernel_rfl) (by kernel_rfl) (fun _ _ _ h => h) (.inl ⟨by rfl, fun W hW => exec_field (off := 0) (d := 0) rfl rfl (by kernel_rfl)⟩) hS0 ?_
              simp only [Act.put, zzA, zz0, zz1]
              refine till_take (i := 6) (v := .int .i64 (p.n : Int)) rfl (by kernel_rfl) (by kernel_rfl) (fun _ _ _ h => h) (.inl ⟨by rfl, fun W hW => exec_load1 rfl rfl (by kernel_rfl) (hW.1.cell 0)⟩) hS0 ?_
              simp only [Act.put, zzA, zz0, zz1]
              refine till_step (i := 7) (by kernel_rfl) rfl rfl ?_
              intro K1 HK1
              have HS0 := Lib.hid hS0
              clear hS0 c0 c1
              go_wp2_with fail
              refine HTAKE8.out.mono ?_
              rintro e w10 ⟨rfl, ht10⟩
              have hS1 : RdS b8 b12 p #[.func (.func 148) #[] #[], yy, .func (.func 150) #[] ct] w10 := ⟨HS0.out.1.turn ht10 (fun e => e), HS0.out.2.turn ht10 (fun e => e)⟩
              refine HK1.out _ _ ⟨fun _ => hS1, ?_⟩
              clear HK1
              have HT9 := Lib.hid (((HT5.out.next HT8.out).drew).next ht10)
              have HT10 := Lib.hid (((HTR2.out.next HT5.out).next HT8.out).drew.next ht10)
              clear ht10
              refine till_pure (i := 8) (v := optV (p.dec (b2.take ps8))) rfl (by kernel_rfl) (by kernel_rfl) (fun _ _ _ h => h) (.inl ⟨by rfl, fun W hW => exec_move rfl rfl⟩) hS1 ?_
              simp only [Act.put, zzA, zz0, zz1]
              refine till_pure (i := 9) (v := strV ((p.dec (b2.take ps8)).getD [])) rfl (by kernel_rfl) (by kernel_rfl) (fun _ _ _ h => h) (.inl ⟨by rfl, fun W hW => exec_extract rfl rfl rfl⟩) hS1 ?_
              simp only [Act.put, zzA, zz0, zz1]
              refine till_pure (i := 10) (v := .bool (p.dec (b2.take ps8)).isSome) rfl (by kernel_rfl) (by kernel_rfl) (fun _ _ _ h => h) (.inl ⟨by rfl, fun W hW => exec_extract rfl rfl rfl⟩) hS1 ?_
              simp only [Act.put, zzA, zz0, zz1]
              refine till_pure (i := 11) (v := strV ((p.dec (b2.take ps8)).getD [])) rfl (by kernel_rfl) (by kernel_rfl) (fun _ _ _ h => h) (.inl ⟨by rfl, fun W hW => exec_assign rfl rfl⟩) hS1 ?_
              simp only [Act.put, zzA, zz0, zz1]
              refine till_pure (i := 12) (v := .bool (p.dec (b2.take ps8)).isSome) rfl (by kernel_rfl) (by kernel_rfl) (fun _ _ _ h => h) (.inl ⟨by rfl, fun W hW => exec_assign rfl rfl⟩) hS1 ?_
              simp only [Act.put, zzA, zz0, zz1]
              refine till_done (by kernel_rfl) ?_
              refine NoPanic.normal ?_
              clear hS1 HS0
              cases hpd : p.dec (b2.take ps8) with
              | none =>
                have HFAIL := Lib.hid (show takeAll ps b = .error 42 from by
                  rw [HRES.out, HDEC2.out, HDC.out, hpd]
                  rfl)
                simp only [Option.getD_none, Option.isSome_none]
                clear hpd
                go_wp2_with fail
                go_ret3
                rw [HFAIL.out]
                exact ⟨rfl, HTR.out.next HT10.out⟩
              | some tp =>
                have HPD := Lib.hid hpd
                have HTPL := Lib.hid (dec_len hpd)
                simp only [Option.getD_some, Option.isSome_some]
                clear hpd
                go_upto_region 17 with fail
                have hT : (fun _ : World => True) w10.drew := trivial
                refine wp_region_till (fun _ => True) 8 (by kernel_rfl) ?_
                refine till_pure (i := 0) (v := strV t1) rfl (by kernel_rfl) (by kernel_rfl) (fun _ _ _ h => h) (.inl ⟨by rfl, fun W hW => exec_move rfl rfl⟩) hT ?_
                simp only [Act.put, zzA, zz0, zz1]
                refine till_pure (i := 1) (v := strV tp) rfl (by kernel_rfl) (by kernel_rfl) (fun _ _ _ h => h) (.inl ⟨by rfl, fun W hW => exec_move rfl rfl⟩) hT ?_
                simp only [Act.put, zzA, zz0, zz1]
                refine till_pure (i := 2) (v := strV (t1 ++ tp)) rfl (by kernel_rfl) (by kernel_rfl) (fun _ _ _ h => h) (.inl ⟨by rfl, fun W hW => exec_sadd rfl rfl rfl (by have h1 := HTL.out; have h2 := HTPL.out; have h3 := HP8.out; have h4 := HLT.out; have h5 := HPS.out; rw [List.length_take] at h2; omega)⟩) hT ?_
                simp only [Act.put, zzA, zz0, zz1]
                refine till_pure (i := 3) (v := .slice A' n' c') rfl (by kernel_rfl) (by kernel_rfl) (fun _ _ _ h => h) (.inl ⟨by rfl, fun W hW => exec_move rfl rfl⟩) hT ?_
                simp only [Act.put, zzA, zz0, zz1]
                refine till_pure (i := 4) (v := .int .i64 (ps8 : Int)) rfl (by kernel_rfl) (by kernel_rfl) (fun _ _ _ h => h) (.inl ⟨by rfl, fun W hW => exec_move rfl rfl⟩) hT ?_
                simp only [Act.put, zzA, zz0, zz1]
                refine till_pure (i := 5) (v := .slice (fromA A' c' ps8) (n' - ps8) (c' - ps8)) rfl (by kernel_rfl) (by kernel_rfl) (fun _ _ _ h => h) (.inl ⟨by rfl, fun W hW => exec_slice rfl rfl rfl rfl rfl (slice_from_any A' n' c' ps8 (by have h1 := HSL2.out; have h2 := HBS.out.1; omega) HNC.out W)⟩) hT ?_
                simp only [Act.put, zzA, zz0, zz1]
                refine till_pure (i := 6) (v := strV (t1 ++ tp)) rfl (by kernel_rfl) (by kernel_rfl) (fun _ _ _ h => h) (.inl ⟨by rfl, fun W hW => exec_assign rfl rfl⟩) hT ?_
                simp only [Act.put, zzA, zz0, zz1]
                refine till_pure (i := 7) (v := .slice (fromA A' c' ps8) (n' - ps8) (c' - ps8)) rfl (by kernel_rfl) (by kernel_rfl) (fun _ _ _ h => h) (.inl ⟨by rfl, fun W hW => exec_assign rfl rfl⟩) hT ?_
                simp only [Act.put, List.setIfInBounds_toArray, List.set_cons_zero]
                refine till_done (by kernel_rfl) ?_
                refine NoPanic.normal ?_
                clear hT
                go_wp2_with fail
                go_roundg (gk - 1)
                case measure => have := HKL.out; have := HLT.out; omega
                case rel =>
                  refine ⟨k + 1, n' - ps8, c' - ps8, fromA A' c' ps8, b2.drop ps8, t1 ++ tp, by have := HKL.out; have := HLT.out; omega, by go_num, rfl, rfl, ?_, by have := HNC.out; omega, ?_, ?_, ?_, ?_, HT10.out.drew⟩
                  · exact bs_from (bs_turn HBS.out HT9.out.drew) (by have h1 := HSL2.out; have h2 := HBS.out.1; omega) HNC.out
                  · rw [HD.out.2.1, List.length_drop]
                    have h1 := HSL2.out
                    omega
                  · rw [HD.out.2.1, HDEC2.out, HDC.out, HPD.out]
                    cases decAll r (b2.drop ps8) <;> simp
                  · rw [HD.out.2.1, List.drop_drop]
                    exact HDROP2.out
                  · have h1 := HTL.out
                    have h2 := HTPL.out
                    have h3 := HP8.out
                    rw [List.length_take] at h2
                    rw [List.length_append]
                    omega
          · have hke : k = np := by have := HKL.out; omega
            have y1 : ¬ ((k : Int) < (np : Int)) := by omega
            have h1 := HDEC.out
            have h2 := HDROP.out
            have hdr : ps.drop k = [] := List.drop_of_length_le (by rw [HNP.out, hke]; exact Nat.le_refl _)
            rw [hdr] at h1 h2
            rw [show sizeAll [] = 0 from rfl, List.drop_zero] at h2
            have HDONE := Lib.hid (show takeAll ps b = .ok (t1, b2) from by
              rw [HRES.out, h1, ← h2]
              simp [decAll])
            clear hlt hke h1 h2 hdr
            go_wp2_with fail
            go_ret3
            rw [HDONE.out]
            exact ⟨⟨A', n', c', rfl, HBS.out, HNC.out⟩, HTR.out.next HTR2.out⟩
end Go.Proofs.YticofobhkmabiaaGreatDoor
namespace Go.Proofs.YticofobhkmabiaaGreatDoor
open Go.RowKit
open Fdd
set_option linter.unusedVariables false
theorem build_form (z : Int) (W : World) : (Instr.build 49 #[(0, .int .i64 1), (1, .int .i64 2), (2, .int .i64 z)]).run Tryz.prog W = .ok (.agg #[.int .i64 1, .int .i64 2, .int .i64 z]) W := by kernel_rfl
theorem nums_walk (k s : Int) (c : Nat) (w : World) (hc : c < 4) (hr : RowsT w) :
    Calls Tryz.prog 93 #[fmV ⟨k, s, (c : Int)⟩] w fun e w' => ∃ g cap, e = .returned (.slice (some ⟨g, 0, none⟩) (ptsOf 1 (c : Int) 2).length cap) ∧ PtsAt w' g (ptsOf 1 (c : Int) 2) ∧ Turn nowhere w w' := by
  unfold fmV
  have HR := Lib.hid hr
  go_enter Tryz.func93, Tryz.ntmps93
  go_upto_region 1 with fail
  have hb0 := Blk.new w 49 #[.int .i64 k, .int .i64 s, .int .i64 (c : Int)]
  have ht0 := (Turn.refl nowhere w).alloc (.cells #[.int .i64 k, .int .i64 s, .int .i64 (c : Int)] 49)
  generalize (w.alloc (.cells #[.int .i64 k, .int .i64 s, .int .i64 (c : Int)] 49)) = w0 at *
  generalize w.heap.size = b2 at *
  refine wp_region_lit ?_
  refine wR (v := .pointer (some ⟨b2, 2, none⟩)) rfl (exec_field (off := 0) (d := 2) rfl rfl (by kernel_rfl)) ?_
  simp only [Act.put, zzA, zz0, zz1]
  refine wR (v := .int .i64 (c : Int)) rfl (exec_load1 rfl rfl (by kernel_rfl) (hb0.cell 2)) ?_
  simp only [Act.put, zzA, zz0, zz1]
  refine wR (v := .agg #[.int .i64 1, .int .i64 2, .int .i64 (c : Int)]) rfl (exec_build3 rfl rfl rfl rfl (build_form _ _)) ?_
  simp only [Act.put, zzA, zz0, zz1]
  have hpts := parts_walk 1 2 c 2 w0 (by decide) hc (by decide) (hr.turn ht0)
  generalize hps : ptsOf 1 (c : Int) 2 = ps at *
  have HPSE := Lib.hid hps
  have HT0 := Lib.hid ht0
  clear hb0 ht0 hr hps
  go_wp2_with (go_at_call 94; refine hpts.mono ?_; rintro e w1 ⟨g, cp, rfl, hp, ht1⟩)
  go_ret
  rw [HPSE.out]
  exact ⟨g, cp, rfl, hp, HT0.out.next ht1⟩
theorem clone_walk (A : Option Addr) (n c : Nat) (b : List UInt8) (w : World) (hb : Bs w A n b) (hn : n ≤ 140737488355328) :
    Calls Tryz.prog 91 #[.slice A n c] w fun e w' => ∃ A' n' c', e = .returned (.slice A' n' c') ∧ Own w' w.heap.size 5 (.slice A' n' c') b ∧ Turn nowhere w w' := by
  obtain ⟨h1, h2, h3⟩ := hb
  rcases A with _ | a
  · have hn0 : n = 0 := by
      rcases Nat.eq_zero_or_pos n with h | h
      · exact h
      · obtain ⟨_, _, h4, _⟩ := h3 h
        cases h4
    have hbn : b = [] := List.eq_nil_of_length_eq_zero (by omega)
    subst hbn
    refine (Any.bytes_Clone_nil Tryz.laysSlK4 n c w).mono ?_
    rintro e w' ⟨rfl, rfl⟩
    exact ⟨none, 0, 0, rfl, World.ownsRow_nil w' _ _ _, Turn.refl _ _⟩
  · refine (Any.bytes_Clone_at Tryz.laysSlK4 a n c (b.map fun x => (x.toNat : Int)) w (by rw [List.length_map, h1]) hn (fun i hi => ?_)).mono ?_
    · obtain ⟨g, off, he, hc⟩ := h3 (by omega)
      injection he with he
      subst he
      rw [add_nat, hc i hi]
      rw [List.getD_eq_getElem?_getD, List.getD_eq_getElem?_getD, List.getElem?_map, List.getElem?_eq_getElem (by omega)]
      rfl
    · rintro e w' ⟨v', rfl, hown, _, hbel⟩
      obtain ⟨A', c', rfl⟩ := own_form hown
      refine ⟨A', n, c', rfl, ?_, Turn.of_below hbel (Nat.le_refl _)⟩
      unfold Own bcs
      rw [h1]
      rw [List.map_map] at hown
      exact hown
theorem dig_one {n : Nat} (h : n < 10) : Lib.decDigits n = [UInt8.ofNat (48 + n)] := by rw [Lib.decDigits, dif_pos h]
theorem digits_two {n : Nat} (h : n ≤ 99) : digitsOf (n : Int) 2 = (two n, 0) := by
  have e : Lib.itoa (n : Int) = Lib.decDigits n := by
    unfold Lib.itoa
    rw [if_neg (by omega), Int.toNat_natCast]
  unfold digitsOf
  rw [if_neg (by omega), e]
  by_cases h1 : n < 10
  · rw [dig_one h1, if_neg (by simp)]
    unfold two
    rw [show n / 10 = 0 from by omega, show n % 10 = n from by omega]
    rfl
  · have e2 : Lib.decDigits n = [UInt8.ofNat (48 + n / 10), UInt8.ofNat (48 + n % 10)] := by
      rw [Lib.decDigits, dif_neg h1, dig_one (by omega)]
      rfl
    rw [e2, if_neg (by simp)]
    rfl
theorem num_size {c : Nat} (hc : 1 ≤ c ∧ c ≤ 3) : sizeAll (ptsOf 1 (c : Int) 2) ≤ 2 := by
  have hcc : c = 1 ∨ c = 2 ∨ c = 3 := by omega
  rcases hcc with rfl | rfl | rfl <;> decide
theorem pts_sum {k : Int} {c n : Nat} (hk : 1 ≤ k ∧ k ≤ 5) (hn : n ≤ 64) : ((ptsOf k (c : Int) n).map (·.n)).sum ≤ 130 := by
  unfold ptsOf
  split
  · simp; omega
  · split
    · simp; omega
    · split
      · simp; omega
      · simp; omega
theorem own_base {w : World} {B B' : Nat} {e : TypeId} {v : Value} {bs : List UInt8} (h : Own w B e v bs) (hB : B' ≤ B) : Own w B' e v bs := by
  refine ⟨h.1, ?_⟩
  rcases h.2 with h2 | ⟨g, cap, cur, rfl, h3, h4⟩
  · exact .inl h2
  · exact .inr ⟨g, cap, cur, rfl, Nat.le_trans hB h3, h4⟩
/-- what one owns turns, and it is new -/
theorem Ext.fresh {w0 w w' : World} {B : Nat} {e : TypeId} {v v' : Value} {bs : List UInt8} (h : Ext w w' v v') (hown : Own w B e v bs) (ht : Turn nowhere w0 w) (hB : w0.heap.size ≤ B) : Turn nowhere w0 w' :=
  ht.trans h.tr fun k hk he => by
    have := (hown.lt k he.symm).1
    omega
set_option maxRecDepth 20000 in
set_option maxHeartbeats 2000000 in
theorem put_main {w : World} {kk s c n cap : Nat} {A : Option Addr} {b t : List UInt8} (hk : 1 ≤ kk ∧ kk ≤ 5) (hc : 1 ≤ c ∧ c ≤ 3) (hs : 1 ≤ s ∧ s ≤ 64) (hrt : (nf kk s c).right t = true) (hr : RowsT w) (hb : Bs w A n b) (hn : n ≤ 140737488351232) :
    Calls Tryz.prog 62 #[.slice A n cap, fmV (nf kk s c), strV t] w fun e w' => ∃ A' n' c', e = .returned (.tuple #[.slice A' n' c', .int .i64 0]) ∧ Own w' w.heap.size 5 (.slice A' n' c') (b ++ (nf kk s c).put t) ∧ Turn nowhere w w' := by
  have hck : (nf kk s c).check t = 0 := by
    unfold Fm.check
    rw [if_pos (may_nf hk hc hs), if_pos hrt]
  have hch : ∀ W, RowsT W → Calls Tryz.prog 46 #[fmV (nf kk s c), strV t] W fun e w' => e = .returned (.int .i64 0) ∧ Turn nowhere W w' := by
    intro W hW
    have h := check_walk (f := nf kk s c) (t := t) hW
    rw [hck] at h
    exact h
  have HCH := Lib.hid hch
  clear hch hck
  have HRT := Lib.hid hrt
  have HK := Lib.hid hk
  have HC := Lib.hid hc
  have HS := Lib.hid hs
  have HR := Lib.hid hr
  have HB := Lib.hid hb
  have HN := Lib.hid hn
  clear hr hrt hb hn
  unfold nf fmV at *
  go_enter Tryz.func62, Tryz.ntmps62
  go_upto_region 1 with fail
  have hb0 := Blk.new w 49 #[.int .i64 (kk : Int), .int .i64 (s : Int), .int .i64 (c : Int)]
  have ht0 := (Turn.refl nowhere w).alloc (.cells #[.int .i64 (kk : Int), .int .i64 (s : Int), .int .i64 (c : Int)] 49)
  generalize (w.alloc (.cells #[.int .i64 (kk : Int), .int .i64 (s : Int), .int .i64 (c : Int)] 49)) = w0 at *
  obtain ⟨b2, hb2⟩ : ∃ b2, b2 = w.heap.size := ⟨_, rfl⟩
  rw [← hb2] at hb0 ⊢
  have HB2 := Lib.hid hb2
  clear hb2
  refine wp_region_lit ?_
  refine wR (v := fmV ⟨(kk : Int), (s : Int), (c : Int)⟩) rfl (exec_load rfl rfl (load_blkForm hb0)) ?_
  simp only [Act.put, zzA, zz0, zz1]
  unfold fmV
  have HB0 := Lib.hid hb0
  have HT0 := Lib.hid ht0
  clear hb0 ht0
  go_upto_region 4 with (go_at_call 46; refine (HCH.out _ (HR.out.turn HT0.out)).mono ?_; rintro e w1 ⟨rfl, ht1⟩)
  have HT1 := Lib.hid (HT0.out.next ht1)
  have HB1 := Lib.hid (HB0.out.turn ht1 (fun e => e))
  clear ht1 HCH
  go_upto_region 5 with (go_at_call 91; refine (clone_walk A n cap b w1 (bs_turn HB.out HT1.out) (by have := HN.out; omega)).mono ?_; rintro e w3 ⟨A3, n3, c3, rfl, hown3, ht3⟩)
  have HO3 := Lib.hid hown3
  have HT3 := Lib.hid (HT1.out.next ht3)
  have hb3 := HB1.out.turn ht3 (fun e => e)
  have HB3 := Lib.hid hb3
  have HSZ := Lib.hid (show w.heap.size ≤ w1.heap.size from HT1.out.size)
  have HSZ3 := Lib.hid (show w1.heap.size ≤ w3.heap.size from ht3.size)
  have HBL := Lib.hid HB.out.1
  have c0 : w3.cell? ⟨b2, 0, none⟩ = some (.int .i64 (kk : Int)) := hb3.cell 0
  have c1 : w3.cell? ⟨b2, 1, none⟩ = some (.int .i64 (s : Int)) := hb3.cell 1
  clear hown3 ht3 hb3
  by_cases hk2 : kk = 2
  · have y0 : ((kk : Int) == 2) = true := by simp; omega
    have HK2 := Lib.hid hk2
    have hrr := HRT.out
    have hpp : Fm.put ⟨(kk : Int), (s : Int), (c : Int)⟩ t = encAll (ptsOf 1 (c : Int) 2) (two t.length) ++ encAll (ptsOf (kk : Int) (c : Int) t.length) t := by
      rw [hk2]
      rfl
    have hrr2 : (1 ≤ t.length ∧ t.length ≤ s) ∧ rightAll (ptsOf (kk : Int) (c : Int) t.length) t = true := by
      rw [hk2] at hrr ⊢
      exact ll_right hrr
    have HPP := Lib.hid hpp
    have HRR := Lib.hid hrr2
    have HTW := Lib.hid (two_ok (n := t.length) (by have := hrr2.1; omega))
    clear hk2 hk hrr hpp hrr2 HRT
    go_upto_region 7 with fail
    refine wp_region_lit ?_
    refine wR (v := strV t) rfl (exec_move rfl rfl) ?_
    simp only [Act.put, zzA, zz0, zz1]
    refine wR (v := .int .i64 (t.length : Int)) (w' := w3) rfl (exec_slen rfl rfl) ?_
    simp only [Act.put, zzA, zz0, zz1]
    have hdw := digits_walk (t.length : Int) 2 w3 (fun W _ => itoa_small t.length (by have := HRR.out.1; omega) W)
    rw [digits_two (by have := HRR.out.1; omega)] at hdw
    have HTL := Lib.hid (show t.length ≤ 64 from by have := HRR.out.1; omega)
    obtain ⟨m, hm⟩ : ∃ m, m = t.length := ⟨_, rfl⟩
    rw [← hm] at hdw ⊢
    have HM := Lib.hid hm
    clear hm c0 c1
    go_upto_region 9 with (go_at_call 58; refine hdw.mono ?_; rintro e w4 ⟨rfl, ht4⟩)
    have HT4 := Lib.hid ht4
    have hb4 := HB3.out.turn ht4 (fun e => e)
    clear hdw ht4
    refine wp_region_lit ?_
    refine wR (v := .slice A3 n3 c3) rfl (exec_move rfl rfl) ?_
    simp only [Act.put, zzA, zz0, zz1]
    refine wR (v := fmV ⟨(kk : Int), (s : Int), (c : Int)⟩) rfl (exec_load rfl rfl (load_blkForm hb4)) ?_
    simp only [Act.put, zzA, zz0, zz1]
    have hnw := nums_walk (kk : Int) (s : Int) c w4 (by have := HC.out; omega) (HR.out.turn (HT3.out.next HT4.out))
    have HNW := Lib.hid hnw
    have HB4 := Lib.hid hb4
    unfold fmV at *
    clear hnw hb4
    have HPL := Lib.hid (pts_len 1 c 2)
    have HGD := Lib.hid (pts_good (k := 1) (n := 2) (by decide) HC.out (by decide))
    have HRN := Lib.hid ((num_right (c : Int) (two m)).2 ⟨rfl, by rw [HM.out]; exact HTW.out.2⟩)
    generalize hps : ptsOf 1 (c : Int) 2 = ps at *
    have HPSE := Lib.hid hps
    clear hps
    go_wp2_with (go_at_call 93; refine HNW.out.mono ?_; rintro e w5 ⟨g5, cp5, rfl, hp5, ht5⟩)
    have HT5 := Lib.hid ht5
    have hput := put_walk (cp := cp5) hp5 rfl HGD.out HRN.out (own_turn HO3.out (HT4.out.next ht5)) (Nat.le_trans HSZ3.out (HT4.out.next ht5).size) (by have h1 := HBL.out; have h2 := HN.out; rw [two_len]; omega) (by rw [two_len]; omega) (by have := HPL.out; omega)
    clear hp5 ht5
    have HPUT := Lib.hid hput
    clear hput
    go_upto_region 10 with (go_at_call 92; refine HPUT.out.mono ?_; rintro e w6 ⟨A6, n6, c6, rfl, hown6, hext6⟩)
    have HO6 := Lib.hid hown6
    have HT6 := Lib.hid (hext6.fresh (own_turn HO3.out (HT4.out.next HT5.out)) ((HT3.out.next HT4.out).next HT5.out) HSZ.out)
    have hb6 := Blk.ext (HB4.out.turn HT5.out (fun e => e)) hext6 (row_ne (own_turn HO3.out (HT4.out.next HT5.out)) (HB4.out.turn HT5.out (fun e => e)) (by decide))
    have HS6 := Lib.hid (show w1.heap.size ≤ w6.heap.size from Nat.le_trans HSZ3.out (Nat.le_trans (HT4.out.next HT5.out).size hext6.tr.size))
    clear hown6 hext6 HPUT HNW HPL HGD HRN
    rw [HPSE.out.symm] at HO6
    have hlenA := enc_all (ptsOf 1 (c : Int) 2) (two t.length) [] (pts_gm HC.out) ((num_right _ _).2 ⟨rfl, HTW.out.2⟩)
    have HLA := Lib.hid (show (encAll (ptsOf 1 (c : Int) 2) (two m)).length ≤ 2 from by rw [HM.out, hlenA.1]; exact num_size HC.out)
    clear hlenA
    refine wp_region_lit ?_
    refine wR (v := .slice A6 n6 c6) rfl (exec_move rfl rfl) ?_
    simp only [Act.put, zzA, zz0, zz1]
    refine wR (v := fmV ⟨(kk : Int), (s : Int), (c : Int)⟩) rfl (exec_load rfl rfl (load_blkForm hb6)) ?_
    simp only [Act.put, zzA, zz0, zz1]
    refine wR (v := .int .i64 (m : Int)) rfl (exec_move rfl rfl) ?_
    simp only [Act.put, zzA, zz0, zz1]
    have HPW := Lib.hid (parts_walk (kk : Int) (s : Int) c m w6 (by have := HK.out; omega) (by have := HC.out; omega) (by have := And.intro HRR.out.1 HM.out; omega) (HR.out.turn HT6.out))
    have HPL2 := Lib.hid (pts_len (kk : Int) c m)
    have HGD2 := Lib.hid (pts_good (k := (kk : Int)) (n := m) (by have := HK.out; omega) HC.out (by have := And.intro HRR.out.1 HM.out; omega))
    have HR2 := Lib.hid (show rightAll (ptsOf (kk : Int) (c : Int) m) t = true from by rw [HM.out]; exact HRR.out.2)
    have HTL2 := Lib.hid (show t.length ≤ 130 from by
      have h := right_len _ _ HR2.out
      rw [h]
      exact pts_sum (by have := HK.out; omega) (by have := And.intro HRR.out.1 HM.out; omega))
    unfold fmV
    generalize hps2 : ptsOf (kk : Int) (c : Int) m = ps2 at *
    have HPS2 := Lib.hid hps2
    clear hps2
    go_upto_region 99 with (first
      | (go_at_call 94
         refine HPW.out.mono ?_
         rintro e w7 ⟨g7, cp7, rfl, hp7, ht7⟩
         have HT7 := Lib.hid ht7
         have HP7 := Lib.hid hp7
         clear ht7 hp7)
      | (go_at_call 92
         refine (put_walk (cp := cp7) HP7.out rfl HGD2.out HR2.out (own_turn HO6.out HT7.out) (Nat.le_trans HS6.out HT7.out.size) (by have h1 := HTL2.out; have h2 := HBL.out; have h3 := HN.out; have h4 := HLA.out; rw [List.length_append]; omega) (by have := HTL2.out; omega) (by have := HPL2.out; omega)).mono ?_
         rintro e w8 ⟨A8, n8, c8, rfl, hown8, hext8⟩
         have HO9 := Lib.hid hown8
         have HT9 := Lib.hid (hext8.fresh (own_turn HO6.out HT7.out) (HT6.out.next HT7.out) HSZ.out)
         clear hown8 hext8))
    go_ret2
    refine ⟨A8, n8, c8, rfl, own_base ?_ HSZ.out, HT9.out⟩
    have h9 := HO9.out
    rw [← HPS2.out, List.append_assoc, HM.out, HPSE.out] at h9
    rw [HPP.out]
    exact h9
  · have y0 : ((kk : Int) == 2) = false := by simp; omega
    have hrr := HRT.out
    have HPP := Lib.hid (show Fm.put ⟨(kk : Int), (s : Int), (c : Int)⟩ t = encAll (ptsOf (kk : Int) (c : Int) s) t from put_nl (k := kk) (s := s) (c := c) hk2)
    have HRR := Lib.hid (show rightAll (ptsOf (kk : Int) (c : Int) s) t = true from by rw [← right_nl (k := kk) (s := s) (c := c) (t := t) hk2]; exact hrr)
    clear hk2 hk hrr HRT
    go_upto_region 10 with fail
    refine wp_region_lit ?_
    refine wR (v := .slice A3 n3 c3) rfl (exec_move rfl rfl) ?_
    simp only [Act.put, zzA, zz0, zz1]
    refine wR (v := fmV ⟨(kk : Int), (s : Int), (c : Int)⟩) rfl (exec_load rfl rfl (load_blkForm HB3.out)) ?_
    simp only [Act.put, zzA, zz0, zz1]
    refine wR (v := .int .i64 (s : Int)) rfl (exec_move rfl rfl) ?_
    simp only [Act.put, zzA, zz0, zz1]
    have HPW := Lib.hid (parts_walk (kk : Int) (s : Int) c s w3 (by have := HK.out; omega) (by have := HC.out; omega) (by have := HS.out; omega) (HR.out.turn HT3.out))
    have HPL2 := Lib.hid (pts_len (kk : Int) c s)
    have HGD2 := Lib.hid (pts_good (k := (kk : Int)) (n := s) (by have := HK.out; omega) HC.out (by have := HS.out; omega))
    have HR2 := Lib.hid (show rightAll (ptsOf (kk : Int) (c : Int) s) t = true from HRR.out)
    have HTL2 := Lib.hid (show t.length ≤ 130 from by
      have h := right_len _ _ HR2.out
      rw [h]
      exact pts_sum (by have := HK.out; omega) (by have := HS.out; omega))
    unfold fmV
    generalize hps2 : ptsOf (kk : Int) (c : Int) s = ps2 at *
    have HPS2 := Lib.hid hps2
    clear hps2
    go_upto_region 99 with (first
      | (go_at_call 94
         refine HPW.out.mono ?_
         rintro e w7 ⟨g7, cp7, rfl, hp7, ht7⟩
         have HT7 := Lib.hid ht7
         have HP7 := Lib.hid hp7
         clear ht7 hp7)
      | (go_at_call 92
         refine (put_walk (cp := cp7) HP7.out rfl HGD2.out HR2.out (own_turn HO3.out HT7.out) (Nat.le_trans HSZ3.out HT7.out.size) (by have h1 := HTL2.out; have h2 := HBL.out; have h3 := HN.out; omega) (by have := HTL2.out; omega) (by have := HPL2.out; omega)).mono ?_
         rintro e w8 ⟨A8, n8, c8, rfl, hown8, hext8⟩
         have HO9 := Lib.hid hown8
         have HT9 := Lib.hid (hext8.fresh (own_turn HO3.out HT7.out) (HT3.out.next HT7.out) HSZ.out)
         clear hown8 hext8))
    go_ret2
    refine ⟨A8, n8, c8, rfl, own_base ?_ HSZ.out, HT9.out⟩
    have h9 := HO9.out
    rw [HPP.out]
    exact h9
end Go.Proofs.YticofobhkmabiaaGreatDoor
namespace Go.Proofs.YticofobhkmabiaaGreatDoor
open Go.RowKit
open Fdd
set_option linter.unusedVariables false
set_option maxRecDepth 20000 in
theorem put_bad {w : World} {f : Fm} {n cap : Nat} {A : Option Addr} {t : List UInt8} (hck : f.check t ≠ 0) (hr : RowsT w) :
    Calls Tryz.prog 62 #[.slice A n cap, fmV f, strV t] w fun e w' => e = .returned (.tuple #[.slice none 0 0, .int .i64 (f.check t)]) ∧ Turn nowhere w w' := by
  have HR := Lib.hid hr
  have hcw : ∀ W, RowsT W → Calls Tryz.prog 46 #[fmV f, strV t] W fun e w' => e = .returned (.int .i64 (f.check t)) ∧ Turn nowhere W w' := fun W hW => check_walk hW
  have y0 : (f.check t == 0) = false := by simpa using hck
  generalize f.check t = ck at *
  have HCW := Lib.hid hcw
  clear hr hcw hck
  obtain ⟨k, s, c⟩ := f
  unfold fmV at *
  go_enter Tryz.func62, Tryz.ntmps62
  go_upto_region 1 with fail
  have hb0 := Blk.new w 49 #[.int .i64 k, .int .i64 s, .int .i64 c]
  have ht0 := (Turn.refl nowhere w).alloc (.cells #[.int .i64 k, .int .i64 s, .int .i64 c] 49)
  generalize (w.alloc (.cells #[.int .i64 k, .int .i64 s, .int .i64 c] 49)) = w0 at *
  generalize w.heap.size = b2 at *
  refine wp_region_lit ?_
  refine wR (v := fmV ⟨k, s, c⟩) rfl (exec_load rfl rfl (load_blkForm hb0)) ?_
  simp only [Act.put, zzA, zz0, zz1]
  unfold fmV
  have HT0 := Lib.hid ht0
  clear hb0 ht0
  go_wp2_with (go_at_call 46; refine (HCW.out _ (HR.out.turn HT0.out)).mono ?_; rintro e w1 ⟨rfl, ht1⟩)
  go_ret2
  exact ⟨rfl, HT0.out.next ht1⟩
theorem takeAll_err {ps : List Pt} {b : List UInt8} {k : Int} (h : takeAll ps b = .error k) : k = 42 ∨ k = 43 := by
  unfold takeAll at h
  split at h
  · injection h with h
    exact .inr h.symm
  · split at h
    · injection h with h
      exact .inl h.symm
    · cases h
/-- what takeNumber answers -/
def NumR (s : Nat) (r : Except Int (List UInt8 × List UInt8)) (e : Ending) (w' : World) : Prop :=
  match r with
  | .error k => e = .returned (.tuple #[.int .i64 0, .slice none 0 0, .int .i64 k])
  | .ok (t, rest) => if 1 ≤ val t ∧ (val t : Int) ≤ (s : Int) then ∃ A n c, e = .returned (.tuple #[.int .i64 (val t : Int), .slice A n c, .int .i64 0]) ∧ Bs w' A n rest ∧ n ≤ c else e = .returned (.tuple #[.int .i64 0, .slice none 0 0, .int .i64 42])
set_option maxRecDepth 20000 in
set_option maxHeartbeats 1000000 in
theorem num_walk {w : World} {k s c n cap : Nat} {A : Option Addr} {b : List UInt8} (hc : 1 ≤ c ∧ c ≤ 3) (hs : s ≤ 64) (hr : RowsT w) (hb : Bs w A n b) (hcap : n ≤ cap) :
    Calls Tryz.prog 115 #[.slice A n cap, fmV ⟨(k : Int), (s : Int), (c : Int)⟩] w fun e w' => NumR s (takeAll (ptsOf 1 (c : Int) 2) b) e w' ∧ Turn nowhere w w' := by
  have HR := Lib.hid hr
  have HC := Lib.hid hc
  have HS := Lib.hid hs
  have HB := Lib.hid hb
  have HCAP := Lib.hid hcap
  clear hr hc hs hb hcap
  unfold fmV
  go_enter Tryz.func115, Tryz.ntmps115
  go_upto_region 1 with fail
  have hb0 := Blk.new w 49 #[.int .i64 (k : Int), .int .i64 (s : Int), .int .i64 (c : Int)]
  have ht0 := (Turn.refl nowhere w).alloc (.cells #[.int .i64 (k : Int), .int .i64 (s : Int), .int .i64 (c : Int)] 49)
  generalize (w.alloc (.cells #[.int .i64 (k : Int), .int .i64 (s : Int), .int .i64 (c : Int)] 49)) = w0 at *
  generalize w.heap.size = b2 at *
  refine wp_region_lit ?_
  refine wR (v := .slice A n cap) rfl (exec_move rfl rfl) ?_
  simp only [Act.put, zzA, zz0, zz1]
  refine wR (v := fmV ⟨(k : Int), (s : Int), (c : Int)⟩) rfl (exec_load rfl rfl (load_blkForm hb0)) ?_
  simp only [Act.put, zzA, zz0, zz1]
  unfold fmV
  have HB0 := Lib.hid hb0
  have HT0 := Lib.hid ht0
  clear hb0 ht0
  have HNW := Lib.hid (nums_walk (k : Int) (s : Int) c w0 (by have := HC.out; omega) (HR.out.turn HT0.out))
  have HPL := Lib.hid (pts_len 1 c 2)
  have HGD := Lib.hid (pts_good (k := 1) (n := 2) (by decide) HC.out (by decide))
  have HGM := Lib.hid (pts_gm (k := 1) (n := 2) HC.out)
  unfold fmV at HNW
  generalize hps : ptsOf 1 (c : Int) 2 = ps at *
  have HPSE := Lib.hid hps
  clear hps
  generalize hres : takeAll ps b = res at *
  have HRES := Lib.hid hres
  clear hres
  go_wp2_with (go_at_call 93; refine HNW.out.mono ?_; rintro e w1 ⟨g1, cp1, rfl, hp1, ht1⟩)
  have HT1 := Lib.hid (HT0.out.next ht1)
  have htw := take_walk (cp := cp1) hp1 rfl HGD.out HPL.out (bs_turn HB.out HT1.out) HCAP.out
  rw [HRES.out] at htw
  have HTW := Lib.hid htw
  have HB1 := Lib.hid (HB0.out.turn ht1 (fun e => e))
  clear htw hp1 ht1
  have hfin : NumR s (takeAll (ptsOf 1 (c : Int) 2) b) = NumR s res := by rw [HPSE.out, HRES.out]
  have HFIN := Lib.hid hfin
  clear hfin
  cases res with
  | error kk =>
    have hkk := takeAll_err HRES.out
    have y0 : (kk == 0) = false := by simp; omega
    have HY := Lib.hid y0
    clear hkk
    go_wp2_with (go_at_call 116; refine HTW.out.mono ?_; rintro e w2 ⟨(rfl : e = _), ht2⟩)
    go_ret3
    rw [HFIN.out]
    exact ⟨rfl, HT1.out.next ht2⟩
  | ok tr =>
    obtain ⟨t1, r1⟩ := tr
    obtain ⟨hright, _⟩ := ok_take HGM.out HRES.out
    rw [← HPSE.out] at hright
    obtain ⟨hl, hon⟩ := (num_right _ _).1 hright
    have hv := (two_of hl hon).2
    have ham : amountOf t1 = ((val t1 : Int), 0) := by
      unfold amountOf
      rw [if_pos ⟨by omega, hon, by intro h; rw [h] at hl; simp at hl⟩]
    have haw : ∀ W, Calls Tryz.prog 81 #[strV t1] W fun e w' => e = .returned (.tuple #[.int .i64 (val t1 : Int), .int .i64 0]) ∧ Turn nowhere W w' := by
      intro W
      have h := amount_walk (t := t1) W (fun h => by rw [h] at hl; simp at hl)
      rw [ham] at h
      exact h
    have HAW := Lib.hid haw
    clear hright hl hon ham haw
    go_upto_region 4 with (go_at_call 116; refine HTW.out.mono ?_; rintro e w2 ⟨⟨A2, n2, c2, rfl, hbs2, hnc2⟩, ht2⟩)
    have HBS2 := Lib.hid hbs2
    have HNC2 := Lib.hid hnc2
    have HT2 := Lib.hid (HT1.out.next ht2)
    have HB2 := Lib.hid (HB1.out.turn ht2 (fun e => e))
    clear hbs2 hnc2 ht2 HTW
    obtain ⟨m, hm⟩ : ∃ m, m = val t1 := ⟨_, rfl⟩
    rw [← hm] at hv HAW
    have HM := Lib.hid hm
    clear hm
    go_upto_region 5 with (go_at_call 81; refine (HAW.out _).mono ?_; rintro e w3 ⟨rfl, ht3⟩)
    have c1 : w3.cell? ⟨b2, 1, none⟩ = some (.int .i64 (s : Int)) := (HB2.out.turn ht3 (fun e => e)).cell 1
    have HT3 := Lib.hid (HT2.out.next ht3)
    have HBS3 := Lib.hid (bs_turn HBS2.out ht3)
    clear ht3
    have hgoal : ∀ e W, NumR s (takeAll (ptsOf 1 (c : Int) 2) b) e W = (if 1 ≤ m ∧ (m : Int) ≤ (s : Int) then ∃ A n c, e = .returned (.tuple #[.int .i64 (m : Int), .slice A n c, .int .i64 0]) ∧ Bs W A n r1 ∧ n ≤ c else e = .returned (.tuple #[.int .i64 0, .slice none 0 0, .int .i64 42])) := fun e W => by
      rw [HFIN.out, HM.out]
      rfl
    have HGO := Lib.hid hgoal
    clear hgoal HFIN
    by_cases h1 : m < 1
    · have y1 : (m : Int) < 1 := by omega
      have HNO := Lib.hid (show ¬ (1 ≤ m ∧ (m : Int) ≤ (s : Int)) from by omega)
      clear h1
      go_wp2_with fail
      go_ret3
      rw [HGO.out, if_neg HNO.out]
      exact ⟨rfl, HT3.out⟩
    · by_cases h2 : s < m
      · have y1 : ¬ ((m : Int) < 1) := by omega
        have y2 : (s : Int) < (m : Int) := by omega
        have HNO := Lib.hid (show ¬ (1 ≤ m ∧ (m : Int) ≤ (s : Int)) from by omega)
        clear h1 h2
        go_wp2_with fail
        go_ret3
        rw [HGO.out, if_neg HNO.out]
        exact ⟨rfl, HT3.out⟩
      · have y1 : ¬ ((m : Int) < 1) := by omega
        have y2 : ¬ ((s : Int) < (m : Int)) := by omega
        have HYES := Lib.hid (show 1 ≤ m ∧ (m : Int) ≤ (s : Int) from by omega)
        clear h1 h2
        go_wp2_with fail
        go_ret3
        rw [HGO.out, if_pos HYES.out]
        exact ⟨⟨A2, n2, c2, rfl, HBS3.out, HNC2.out⟩, HT3.out⟩
end Go.Proofs.YticofobhkmabiaaGreatDoor
namespace Go.Proofs.YticofobhkmabiaaGreatDoor
open Go.RowKit
open Fdd
set_option linter.unusedVariables false
/-- what Take answers -/
def TakeF (r : Except Int (List UInt8 × List UInt8)) (B : Nat) (e : Ending) (w' : World) : Prop :=
  match r with
  | .error k => e = .returned (.tuple #[strV [], .slice none 0 0, .int .i64 k])
  | .ok (t, rest) => ∃ A n c, e = .returned (.tuple #[strV t, .slice A n c, .int .i64 0]) ∧ Own w' B 5 (.slice A n c) rest
set_option maxRecDepth 20000 in
theorem take_bad {w : World} {f : Fm} {n cap : Nat} {A : Option Addr} (hm : f.may = false) :
    Calls Tryz.prog 99 #[.slice A n cap, fmV f] w fun e w' => e = .returned (.tuple #[strV [], .slice none 0 0, .int .i64 40]) ∧ Turn nowhere w w' := by
  have hmw := mayBe_walk f
  rw [hm] at hmw
  have HMW := Lib.hid hmw
  clear hmw hm
  obtain ⟨k, s, c⟩ := f
  unfold fmV at *
  go_enter Tryz.func99, Tryz.ntmps99
  go_upto_region 1 with fail
  have hb0 := Blk.new w 49 #[.int .i64 k, .int .i64 s, .int .i64 c]
  have ht0 := (Turn.refl nowhere w).alloc (.cells #[.int .i64 k, .int .i64 s, .int .i64 c] 49)
  generalize (w.alloc (.cells #[.int .i64 k, .int .i64 s, .int .i64 c] 49)) = w0 at *
  generalize w.heap.size = b2 at *
  refine wp_region_lit ?_
  refine wR (v := fmV ⟨k, s, c⟩) rfl (exec_load rfl rfl (load_blkForm hb0)) ?_
  simp only [Act.put, zzA, zz0, zz1]
  unfold fmV
  have HT0 := Lib.hid ht0
  clear hb0 ht0
  go_wp2_with (go_at_call 74; refine (HMW.out _).mono ?_; rintro e w1 ⟨rfl, ht1⟩)
  go_ret3
  exact ⟨rfl, HT0.out.next ht1⟩
set_option maxRecDepth 20000 in
set_option maxHeartbeats 2000000 in
theorem take_main {w : World} {kk s c n cap : Nat} {A : Option Addr} {b : List UInt8} (hk : 1 ≤ kk ∧ kk ≤ 5) (hc : 1 ≤ c ∧ c ≤ 3) (hs : 1 ≤ s ∧ s ≤ 64) (hr : RowsT w) (hb : Bs w A n b) (hcap : n ≤ cap) (hn : n ≤ 140737488355328) :
    Calls Tryz.prog 99 #[.slice A n cap, fmV (nf kk s c)] w fun e w' => TakeF ((nf kk s c).take b) w.heap.size e w' ∧ Turn nowhere w w' := by
  have hmw := mayBe_walk (nf kk s c)
  rw [may_nf hk hc hs] at hmw
  have HMW := Lib.hid hmw
  have HMAY := Lib.hid (may_nf hk hc hs)
  clear hmw
  have HK := Lib.hid hk
  have HC := Lib.hid hc
  have HS := Lib.hid hs
  have HR := Lib.hid hr
  have HB := Lib.hid hb
  have HN := Lib.hid hn
  have HCAP := Lib.hid hcap
  clear hr hb hn hcap
  obtain ⟨res, hres⟩ : ∃ res, res = (nf kk s c).take b := ⟨_, rfl⟩
  rw [← hres]
  have HRES := Lib.hid hres
  clear hres
  have hform : fmV (nf kk s c) = .agg #[.int .i64 (kk : Int), .int .i64 (s : Int), .int .i64 (c : Int)] := rfl
  rw [hform] at HMW ⊢
  clear hform
  go_enter Tryz.func99, Tryz.ntmps99
  go_upto_region 1 with fail
  have hb0 := Blk.new w 49 #[.int .i64 (kk : Int), .int .i64 (s : Int), .int .i64 (c : Int)]
  have ht0 := (Turn.refl nowhere w).alloc (.cells #[.int .i64 (kk : Int), .int .i64 (s : Int), .int .i64 (c : Int)] 49)
  generalize (w.alloc (.cells #[.int .i64 (kk : Int), .int .i64 (s : Int), .int .i64 (c : Int)] 49)) = w0 at *
  obtain ⟨b2, hb2⟩ : ∃ b2, b2 = w.heap.size := ⟨_, rfl⟩
  rw [← hb2] at hb0 ⊢
  clear hb2
  refine wp_region_lit ?_
  refine wR (v := fmV ⟨(kk : Int), (s : Int), (c : Int)⟩) rfl (exec_load rfl rfl (load_blkForm hb0)) ?_
  simp only [Act.put, zzA, zz0, zz1]
  unfold fmV
  have HB0 := Lib.hid hb0
  have HT0 := Lib.hid ht0
  clear hb0 ht0
  go_upto_region 3 with (go_at_call 74; refine (HMW.out _).mono ?_; rintro e w1 ⟨rfl, ht1⟩)
  have HT1 := Lib.hid (HT0.out.next ht1)
  have hb1 := HB0.out.turn ht1 (fun e => e)
  have HB1 := Lib.hid hb1
  have HB1s := Lib.hid (bs_turn HB.out HT1.out)
  have c0 : w1.cell? ⟨b2, 0, none⟩ = some (.int .i64 (kk : Int)) := hb1.cell 0
  have c1 : w1.cell? ⟨b2, 1, none⟩ = some (.int .i64 (s : Int)) := hb1.cell 1
  clear ht1 hb1 HMW HB0
  have HBL := Lib.hid HB.out.1
  by_cases hk2 : kk = 2
  · have y0 : ((kk : Int) == 2) = true := by simp; omega
    have HK2 := Lib.hid hk2
    have htl := HRES.out
    rw [hk2, take_ll (by rw [← hk2]; exact HMAY.out)] at htl
    have HTL := Lib.hid htl
    clear hk2 hk htl HRES
    go_upto_region 5 with fail
    clear c0 c1 y0
    refine wp_region_lit ?_
    refine wR (v := .slice A n cap) rfl (exec_move rfl rfl) ?_
    simp only [Act.put, zzA, zz0, zz1]
    refine wR (v := fmV ⟨(kk : Int), (s : Int), (c : Int)⟩) rfl (exec_load rfl rfl (load_blkForm HB1.out)) ?_
    simp only [Act.put, zzA, zz0, zz1]
    have hnw := num_walk (k := kk) (s := s) (c := c) (cap := cap) HC.out (by have := HS.out; omega) (HR.out.turn HT1.out) HB1s.out HCAP.out
    unfold fmV at *
    cases hta : takeAll (ptsOf 1 (c : Int) 2) b with
    | error kk2 =>
      have hke := takeAll_err hta
      rw [hta] at hnw
      have y9 : (kk2 == 0) = false := by simp; omega
      have HRES := Lib.hid (show res = .error kk2 from by rw [HTL.out, hta])
      clear hta hke
      go_wp2_with (go_at_call 115; refine hnw.mono ?_; rintro e w2 ⟨(rfl : e = _), ht2⟩)
      go_ret3
      rw [HRES.out]
      exact ⟨rfl, HT1.out.next ht2⟩
    | ok tr =>
      obtain ⟨t1, r1⟩ := tr
      rw [hta] at hnw
      have HR1L := Lib.hid (show r1.length ≤ b.length from by
        have h := (ok_take (pts_gm HC.out) hta).2
        rw [← h, List.length_append]
        omega)
      have HRES := Lib.hid (show res = if 1 ≤ val t1 ∧ (val t1 : Int) ≤ (s : Int) then takeAll (ptsOf 2 (c : Int) (val t1)) r1 else .error 42 from by rw [HTL.out, hta])
      clear hta
      by_cases hgood : 1 ≤ val t1 ∧ (val t1 : Int) ≤ (s : Int)
      · have hnw2 : Calls Tryz.prog 115 #[.slice A n cap, .agg #[.int .i64 (kk : Int), .int .i64 (s : Int), .int .i64 (c : Int)]] w1 fun e w' => (∃ A n c, e = .returned (.tuple #[.int .i64 (val t1 : Int), .slice A n c, .int .i64 0]) ∧ Bs w' A n r1 ∧ n ≤ c) ∧ Turn nowhere w1 w' := by
          refine hnw.mono ?_
          rintro e w' ⟨h1, h2⟩
          refine ⟨?_, h2⟩
          unfold NumR at h1
          simp only [if_pos hgood] at h1
          exact h1
        have HR2 := Lib.hid (show res = takeAll (ptsOf (kk : Int) (c : Int) (val t1)) r1 from by rw [HRES.out, if_pos hgood, HK2.out]; rfl)
        have HG := Lib.hid hgood
        generalize val t1 = m at *
        clear hnw hgood HRES
        go_upto_region 8 with (go_at_call 115; refine hnw2.mono ?_; rintro e w2 ⟨⟨A2, n2, c2, rfl, hbs2, hnc2⟩, ht2⟩)
        have HT2 := Lib.hid (HT1.out.next ht2)
        have HB2 := Lib.hid (HB1.out.turn ht2 (fun e => e))
        have HBS2 := Lib.hid hbs2
        have HNC2 := Lib.hid hnc2
        clear hbs2 hnc2 ht2 hnw2
        refine wp_region_lit ?_
        refine wR (v := .slice A2 n2 c2) rfl (exec_move rfl rfl) ?_
        simp only [Act.put, zzA, zz0, zz1]
        refine wR (v := fmV ⟨(kk : Int), (s : Int), (c : Int)⟩) rfl (exec_load rfl rfl (load_blkForm HB2.out)) ?_
        simp only [Act.put, zzA, zz0, zz1]
        refine wR (v := .int .i64 (m : Int)) rfl (exec_move rfl rfl) ?_
        simp only [Act.put, zzA, zz0, zz1]
        have HPW := Lib.hid (parts_walk (kk : Int) (s : Int) c m w2 (by have := HK.out; omega) (by have := HC.out; omega) (by have := HG.out; have := HS.out; omega) (HR.out.turn HT2.out))
        have HPL2 := Lib.hid (pts_len (kk : Int) c m)
        have HGD2 := Lib.hid (pts_good (k := (kk : Int)) (n := m) (by have := HK.out; omega) HC.out (by have := HG.out; have := HS.out; omega))
        have HGM2 := Lib.hid (pts_gm (k := (kk : Int)) (n := m) HC.out)
        unfold fmV
        generalize ptsOf (kk : Int) (c : Int) m = ps2 at *
        cases hta2 : takeAll ps2 r1 with
        | error ke =>
          have hke := takeAll_err hta2
          have y9 : (ke == 0) = false := by simp; omega
          have HRX := Lib.hid (show res = .error ke from by rw [HR2.out, hta2])
          have HTA2 := Lib.hid hta2
          clear hta2 hke
          go_wp2_with (first
            | (go_at_call 94
               refine HPW.out.mono ?_
               rintro e w7 ⟨g7, cp7, rfl, hp7, ht7⟩
               have HT7 := Lib.hid (HT2.out.next ht7)
               have htw := take_walk (cp := cp7) hp7 rfl HGD2.out HPL2.out (bs_turn HBS2.out ht7) HNC2.out
               rw [HTA2.out] at htw
               have HTW := Lib.hid htw
               clear ht7 hp7 htw)
            | (go_at_call 116
               refine HTW.out.mono ?_
               rintro e w8 ⟨(rfl : e = _), ht8⟩
               have HT8 := Lib.hid (HT7.out.next ht8)
               clear ht8))
          go_ret3
          rw [HRX.out]
          exact ⟨rfl, HT8.out⟩
        | ok tr2 =>
          obtain ⟨t2, r2⟩ := tr2
          have HRX := Lib.hid (show res = .ok (t2, r2) from by rw [HR2.out, hta2])
          have HR2L := Lib.hid (show r2.length ≤ r1.length from by
            have h := (ok_take HGM2.out hta2).2
            rw [← h, List.length_append]
            omega)
          have HTA2 := Lib.hid hta2
          clear hta2
          go_wp2_with (first
            | (go_at_call 94
               refine HPW.out.mono ?_
               rintro e w7 ⟨g7, cp7, rfl, hp7, ht7⟩
               have HT7 := Lib.hid (HT2.out.next ht7)
               have htw := take_walk (cp := cp7) hp7 rfl HGD2.out HPL2.out (bs_turn HBS2.out ht7) HNC2.out
               rw [HTA2.out] at htw
               have HTW := Lib.hid htw
               clear ht7 hp7 htw)
            | (go_at_call 116
               refine HTW.out.mono ?_
               rintro e w8 ⟨⟨A8, n8, c8, rfl, hbs8, hnc8⟩, ht8⟩
               have HT8 := Lib.hid (HT7.out.next ht8)
               have HBS8 := Lib.hid hbs8
               clear ht8 hbs8 hnc8)
            | (go_at_call 91
               refine (clone_walk A8 n8 c8 r2 w8 HBS8.out (by have h1 := HBS8.out.1; have h2 := HR2L.out; have h3 := HBL.out; have h4 := HN.out; have h5 := HR1L.out; omega)).mono ?_
               rintro e w9 ⟨A9, n9, c9, rfl, hown9, ht9⟩
               have HO9 := Lib.hid (own_base hown9 HT8.out.size)
               have HT9 := Lib.hid (HT8.out.next ht9)
               clear hown9 ht9))
          go_ret3
          rw [HRX.out]
          exact ⟨⟨A9, n9, c9, rfl, HO9.out⟩, HT9.out⟩
      · have hnw2 : Calls Tryz.prog 115 #[.slice A n cap, .agg #[.int .i64 (kk : Int), .int .i64 (s : Int), .int .i64 (c : Int)]] w1 fun e w' => e = .returned (.tuple #[.int .i64 0, .slice none 0 0, .int .i64 42]) ∧ Turn nowhere w1 w' := by
          refine hnw.mono ?_
          rintro e w' ⟨h1, h2⟩
          refine ⟨?_, h2⟩
          unfold NumR at h1
          simp only [if_neg hgood] at h1
          exact h1
        have HR2 := Lib.hid (show res = .error 42 from by rw [HRES.out, if_neg hgood])
        clear hnw hgood HRES
        go_wp2_with (go_at_call 115; refine hnw2.mono ?_; rintro e w2 ⟨rfl, ht2⟩)
        go_ret3
        rw [HR2.out]
        exact ⟨rfl, HT1.out.next ht2⟩
  · have y0 : ((kk : Int) == 2) = false := by simp; omega
    have HR2 := Lib.hid (show res = takeAll (ptsOf (kk : Int) (c : Int) s) b from by rw [HRES.out, take_nl hk2 HMAY.out])
    clear hk2 hk HRES
    go_upto_region 8 with fail
    clear c0 c1 y0
    refine wp_region_lit ?_
    refine wR (v := .slice A n cap) rfl (exec_move rfl rfl) ?_
    simp only [Act.put, zzA, zz0, zz1]
    refine wR (v := fmV ⟨(kk : Int), (s : Int), (c : Int)⟩) rfl (exec_load rfl rfl (load_blkForm HB1.out)) ?_
    simp only [Act.put, zzA, zz0, zz1]
    refine wR (v := .int .i64 (s : Int)) rfl (exec_move rfl rfl) ?_
    simp only [Act.put, zzA, zz0, zz1]
    have HPW := Lib.hid (parts_walk (kk : Int) (s : Int) c s w1 (by have := HK.out; omega) (by have := HC.out; omega) (by have := HS.out; have := HS.out; omega) (HR.out.turn HT1.out))
    have HPL2 := Lib.hid (pts_len (kk : Int) c s)
    have HGD2 := Lib.hid (pts_good (k := (kk : Int)) (n := s) (by have := HK.out; omega) HC.out (by have := HS.out; have := HS.out; omega))
    have HGM2 := Lib.hid (pts_gm (k := (kk : Int)) (n := s) HC.out)
    unfold fmV
    generalize ptsOf (kk : Int) (c : Int) s = ps2 at *
    cases hta2 : takeAll ps2 b with
    | error ke =>
      have hke := takeAll_err hta2
      have y9 : (ke == 0) = false := by simp; omega
      have HRX := Lib.hid (show res = .error ke from by rw [HR2.out, hta2])
      have HTA2 := Lib.hid hta2
      clear hta2 hke
      go_wp2_with (first
        | (go_at_call 94
           refine HPW.out.mono ?_
           rintro e w7 ⟨g7, cp7, rfl, hp7, ht7⟩
           have HT7 := Lib.hid (HT1.out.next ht7)
           have htw := take_walk (cp := cp7) hp7 rfl HGD2.out HPL2.out (bs_turn HB1s.out ht7) HCAP.out
           rw [HTA2.out] at htw
           have HTW := Lib.hid htw
           clear ht7 hp7 htw)
        | (go_at_call 116
           refine HTW.out.mono ?_
           rintro e w8 ⟨(rfl : e = _), ht8⟩
           have HT8 := Lib.hid (HT7.out.next ht8)
           clear ht8))
      go_ret3
      rw [HRX.out]
      exact ⟨rfl, HT8.out⟩
    | ok tr2 =>
      obtain ⟨t2, r2⟩ := tr2
      have HRX := Lib.hid (show res = .ok (t2, r2) from by rw [HR2.out, hta2])
      have HR2L := Lib.hid (show r2.length ≤ b.length from by
        have h := (ok_take HGM2.out hta2).2
        rw [← h, List.length_append]
        omega)
      have HTA2 := Lib.hid hta2
      clear hta2
      go_wp2_with (first
        | (go_at_call 94
           refine HPW.out.mono ?_
           rintro e w7 ⟨g7, cp7, rfl, hp7, ht7⟩
           have HT7 := Lib.hid (HT1.out.next ht7)
           have htw := take_walk (cp := cp7) hp7 rfl HGD2.out HPL2.out (bs_turn HB1s.out ht7) HCAP.out
           rw [HTA2.out] at htw
           have HTW := Lib.hid htw
           clear ht7 hp7 htw)
        | (go_at_call 116
           refine HTW.out.mono ?_
           rintro e w8 ⟨⟨A8, n8, c8, rfl, hbs8, hnc8⟩, ht8⟩
           have HT8 := Lib.hid (HT7.out.next ht8)
           have HBS8 := Lib.hid hbs8
           clear ht8 hbs8 hnc8)
        | (go_at_call 91
           refine (clone_walk A8 n8 c8 r2 w8 HBS8.out (by have h1 := HBS8.out.1; have h2 := HR2L.out; have h3 := HBL.out; have h4 := HN.out; omega)).mono ?_
           rintro e w9 ⟨A9, n9, c9, rfl, hown9, ht9⟩
           have HO9 := Lib.hid (own_base hown9 HT8.out.size)
           have HT9 := Lib.hid (HT8.out.next ht9)
           clear hown9 ht9))
      go_ret3
      rw [HRX.out]
      exact ⟨⟨A9, n9, c9, rfl, HO9.out⟩, HT9.out⟩
end Go.Proofs.YticofobhkmabiaaGreatDoor
namespace Go.Proofs.YticofobhkmabiaaGreatDoor
open Go.RowKit
open Fdd
set_option linter.unusedVariables false
theorem append_old {w : World} {B n c : Nat} {A : Option Addr} {bs : List UInt8} (hown : Own w B 5 (.slice A n c) bs) (hB : B ≤ w.heap.size) (xs : List UInt8) (h0 : 0 < bs.length) (hlen : bs.length + xs.length ≤ 140737488355328) {m c1 : Nat} (hm : xs.length = m) :
    ∃ A' c' w', (Builtin.append_ #[26, 26] 26 #[.slice A n c, .slice (some ⟨w.heap.size, 0, none⟩) m c1]).run Tryz.prog (w.alloc (.cells (bcs xs).toArray 5)) = .ok (.slice A' (bs.length + m) c') w' ∧
      Own w' B 5 (.slice A' (bs.length + m) c') (bs ++ xs) ∧ Ext w w' (.slice A n c) (.slice A' (bs.length + m) c') ∧ Bs w' A n bs := by
  obtain ⟨A', c', w', hrun, ho, he⟩ := append_news hown hB xs hlen (c := c1) hm
  refine ⟨A', c', w', hrun, ho, he, ?_⟩
  have hown1 : Own (w.alloc (.cells (bcs xs).toArray 5)) B 5 (.slice A n c) bs := hown.alloc _
  obtain ⟨A1, n1, c1', hform, hbs1, hnc1, _⟩ := hown1.form
  injection hform with f1 f2 f3
  subst f1 f2 f3
  have hl := hbs1.1
  obtain ⟨g, off, rfl, hcell⟩ := hbs1.2.2 (by omega)
  rcases hown1.2 with ⟨hnil, _⟩ | ⟨g', cap', cur, hv, hg1, hg, hn, hm', hs', ht'⟩
  · cases hnil
  · injection hv with hv1 hv2 hv3
    injection hv1 with hv1
    injection hv1 with hv1 hv4
    subst hv1 hv4 hv3
    have hblk : Blk (w.alloc (.cells (bcs xs).toArray 5)) g 5 cur := hg
    have hcame : Came (w.alloc (.cells (bcs xs).toArray 5)) 1 (some ⟨g, 0, none⟩) g 0 n c (bcs bs) := by
      refine ⟨by omega, fun _ => rfl, fun _ => hblk.lt, by rw [bcs_length]; omega, fun j u hj => ?_, fun j hj => ?_⟩
      · have hjl : j < bs.length := by
          have := (List.getElem?_eq_some_iff.1 hj).1
          rwa [bcs_length] at this
        rw [bcs_at bs j hjl] at hj
        rw [← hj]
        exact hcell j (by omega)
      · rw [hblk.cell]
        exact ⟨by rw [Array.getElem?_eq_getElem (by omega)]; rfl, hblk.frozen _⟩
    obtain ⟨i0, hi0, hz0, hz1, hz2⟩ := info_parts byteInfo
    have hsrc : Src Tryz.prog 1 26 (.slice (some ⟨w.heap.size, 0, none⟩) m c1) m (bcs xs) (w.alloc (.cells (bcs xs).toArray 5)) := by
      refine Src.ofSlice _ Tryz.underlying26 ⟨w.heap.size, 0, none⟩ m c1 (bcs xs) (by rw [bcs_length]; omega) (fun j u hj => ?_) (bcs_one xs)
      rw [add_nat, Nat.zero_add, (Blk.new w 5 (bcs xs).toArray).cell j]
      simpa using hj
    obtain ⟨v2, w2, hrun2, hup⟩ := run_append_upon (P := Tryz.prog) hcame 26 26 26 i0 _ 1 Tryz.underlying26 hi0 hz0 hz1 hz2 rfl (Upon.start hcame) _ m (bcs xs) hsrc (by unfold maxLen; omega) (by omega)
    rw [hrun] at hrun2
    injection hrun2 with e1 e2
    subst e1 e2
    refine ⟨hl, hbs1.2.1, fun _ => ⟨g, 0, rfl, fun i hi => ?_⟩⟩
    rw [hup.old hblk.lt (fun j hj e => by have := e.2; omega)]
    exact hcell i hi
end Go.Proofs.YticofobhkmabiaaGreatDoor
namespace Go.Proofs.YticofobhkmabiaaGreatDoor
open Go.RowKit
open Fdd
set_option linter.unusedVariables false
theorem build_any (x y z : Int) (W : World) : (Instr.build 49 #[(0, .int .i64 x), (1, .int .i64 y), (2, .int .i64 z)]).run Tryz.prog W = .ok (.agg #[.int .i64 x, .int .i64 y, .int .i64 z]) W := by kernel_rfl
theorem build_pair (x y : Int) (W : World) : (Instr.buildSlice 26 2 #[(0, .int .u8 x), (1, .int .u8 y)]).run Tryz.prog W = .ok (.slice (some ⟨W.heap.size, 0, none⟩) 2 2) (W.alloc (.cells #[.int .u8 x, .int .u8 y] 5)) := by kernel_rfl
theorem build_single (x : Int) (W : World) : (Instr.buildSlice 26 1 #[(0, .int .u8 x)]).run Tryz.prog W = .ok (.slice (some ⟨W.heap.size, 0, none⟩) 1 1) (W.alloc (.cells #[.int .u8 x] 5)) := by kernel_rfl
theorem sh_put : (nf 2 19 2).right [52, 53, 54, 55] = true ∧ (nf 2 19 2).put [52, 53, 54, 55] = [4, 69, 103] := by decide
theorem sh_take : (nf 2 19 2).take [4, 69, 103, 9] = .ok ([52, 53, 54, 55], [9]) := by rfl
theorem sh_bad : (nf 1 3 2).take [17, 35] = .error 42 := by rfl
theorem sh_am : amountOf [48, 48, 48, 48, 48, 48, 48, 48, 48, 49, 48, 48] = (100, 0) := by decide
theorem sh_dig : digitsOf 5 3 = ([48, 48, 53], 0) := by
  have e : Lib.itoa 5 = [53] := by
    unfold Lib.itoa
    rw [if_neg (by omega), show Int.toNat 5 = 5 from rfl, dig_one (by omega)]
    rfl
  unfold digitsOf
  rw [e]
  rfl
theorem bs_new2 (W : World) (l : List UInt8) (hl : l.length ≤ 1000) : Bs (W.alloc (.cells (bcs l).toArray 5)) (some ⟨W.heap.size, 0, none⟩) l.length l := by
  have h : Row (W.alloc (.cells (bcs l).toArray 5)) W.heap.size 5 l := Row.new W _ l
  have h2 := h.bs (n := l.length) (Nat.le_refl _) (by unfold maxLen; omega)
  rwa [List.take_length] at h2
end Go.Proofs.YticofobhkmabiaaGreatDoor
namespace Go.Proofs.YticofobhkmabiaaGreatDoor
open Go.RowKit
open Fdd
set_option linter.unusedVariables false
theorem exec_saddB {W : World} {a : Act} {o : Oper} {x y : Operand} {l m : List UInt8} {t u : TypeId} (ho : o.op = .binOp .add t x y u) (hx : a.eval x = strV l) (hy : a.eval y = strV m) (hs : l.length + m.length ≤ 9223372036854775807) : (execOp a.eval o).run Tryz.prog W = .ok (.value (strV (l ++ m))) W := by
  have h := run_string_add_sum (P := Tryz.prog) W ⟨l.toArray⟩ ⟨m.toArray⟩ (by rw [str_size, str_size]; exact hs)
  rw [ByteArray.mk_append_mk] at h
  unfold execOp
  simp [ho, hx, hy, strV, eqGuard, binOp, h]
theorem exec_sself {W : World} {a : Act} {o : Oper} {x y : Operand} {l : List UInt8} {t u : TypeId} (ho : o.op = .binOp .eql t x y u) (hx : a.eval x = strV l) (hy : a.eval y = strV l) : (execOp a.eval o).run Tryz.prog W = .ok (.value (.bool true)) W := by
  have h := exec_seql (W := W) ho hx hy
  rwa [beq_self_eq_true] at h
theorem own_bs {w : World} {B n c : Nat} {A : Option Addr} {bs : List UInt8} (h : Own w B 5 (.slice A n c) bs) : Bs w A n bs ∧ n ≤ c ∧ (A = none → c = 0) := by
  obtain ⟨A', n', c', hf, h1, h2, h3⟩ := h.form
  injection hf with e1 e2 e3
  subst e1 e2 e3
  exact ⟨h1, h2, h3⟩
theorem fm_exp {f : Fm} (h : f.may = true) : ∃ k s c : Nat, f = nf k s c ∧ (1 ≤ k ∧ k ≤ 5) ∧ (1 ≤ c ∧ c ≤ 3) ∧ (1 ≤ s ∧ s ≤ 64) := Fdd.may_form h
theorem fm_err {k s c : Nat} {b : List UInt8} {e : Int} (hm : (nf k s c).may = true) (h : (nf k s c).take b = .error e) : (e == 0) = false := by
  by_cases h2 : k = 2
  · subst h2
    rw [take_ll hm] at h
    split at h
    · rename_i e' he
      injection h with h
      subst h
      have := takeAll_err he
      simp; omega
    · split at h
      · have := takeAll_err h
        simp; omega
      · injection h with h
        subst h
        rfl
  · rw [take_nl h2 hm] at h
    have := takeAll_err h
    simp; omega
theorem check_ok {k s c : Nat} {t : List UInt8} (hm : (nf k s c).may = true) (hr : (nf k s c).right t = true) : (nf k s c).check t = 0 := by
  unfold Fm.check
  rw [if_pos hm, if_pos hr]
end Go.Proofs.YticofobhkmabiaaGreatDoor
namespace Go.Proofs.YticofobhkmabiaaGreatDoor
open Go.RowKit
open Fdd
set_option linter.unusedVariables false
theorem check_cases {f : Fm} {t : List UInt8} (h : f.check t = 0) : f.may = true ∧ f.right t = true := by
  unfold Fm.check at h
  split at h
  · rename_i hm
    split at h
    · rename_i hr
      exact ⟨hm, hr⟩
    · cases h
  · cases h
theorem put_ok {f : Fm} {t : List UInt8} {W : World} (h : f.check t = 0) (hr : RowsT W) :
    Calls Tryz.prog 62 #[.slice none 0 0, fmV f, strV t] W fun e w' => ∃ A n c, e = .returned (.tuple #[.slice A n c, .int .i64 0]) ∧ Bs w' A n (f.put t) ∧ n ≤ c ∧ Turn nowhere W w' := by
  obtain ⟨hm, hrt⟩ := check_cases h
  obtain ⟨k, s, c, rfl, h1, h2, h3⟩ := fm_exp hm
  refine (put_main (cap := 0) h1 h2 h3 hrt hr (bs_nil W none) (by decide)).mono ?_
  rintro e w' ⟨A, n, c', rfl, ho, ht⟩
  rw [List.nil_append] at ho
  exact ⟨A, n, c', rfl, (own_bs ho).1, (own_bs ho).2.1, ht⟩
theorem fm_inj {f : Fm} {a b : List UInt8} (ha : f.check a = 0) (hb : f.check b = 0) : f.put a = f.put b ↔ a = b := by
  constructor
  · intro h
    obtain ⟨hm, hra⟩ := check_cases ha
    obtain ⟨_, hrb⟩ := check_cases hb
    obtain ⟨k, s, c, rfl, h1, h2, h3⟩ := fm_exp hm
    have e1 := fm_back (rest := []) h1 h2 h3 hra
    have e2 := fm_back (rest := []) h1 h2 h3 hrb
    rw [h, e2] at e1
    injection e1 with e1
    injection e1 with e1 _
    exact e1.symm
  · rintro rfl
    rfl
theorem fm_same {f : Fm} {a b : List UInt8} (ha : f.check a = 0) (hb : f.check b = 0) (h : f.kind ≠ 2 ∨ a.length = b.length) : (f.put a).length = (f.put b).length := by
  obtain ⟨hm, hra⟩ := check_cases ha
  obtain ⟨_, hrb⟩ := check_cases hb
  obtain ⟨k, s, c, rfl, h1, h2, h3⟩ := fm_exp hm
  rw [fm_len h2 h3 hra, fm_len h2 h3 hrb]
  by_cases hk : k = 2
  · rw [if_pos hk, if_pos hk]
    rcases h with h | h
    · exact absurd (show (k : Int) = 2 by omega) h
    · rw [h]
  · rw [if_neg hk, if_neg hk]
theorem put_small {f : Fm} {a : List UInt8} (ha : f.check a = 0) : (f.put a).length ≤ 1000 := by
  obtain ⟨hm, hra⟩ := check_cases ha
  obtain ⟨k, s, c, rfl, h1, h2, h3⟩ := fm_exp hm
  rw [fm_len h2 h3 hra]
  have key : ∀ (kk : Int) (n : Nat), n ≤ 64 → sizeAll (ptsOf kk (c : Int) n) ≤ 400 := by
    intro kk n hn
    have hb : ∀ p : Pt, p.size ≤ p.n + 1 := by
      intro p
      unfold Pt.size
      split <;> omega
    unfold ptsOf
    split
    · have := hb ⟨n, sgn, (rws (c : Int).toNat).s⟩
      simp only [sizeAll]
      dsimp only at this
      omega
    · split
      · have := hb ⟨2 * n, hexs, (rws (c : Int).toNat).h⟩
        simp only [sizeAll]
        dsimp only at this
        omega
      · split
        · have h4 := hb ⟨1, mk, (rws (c : Int).toNat).m⟩
          have h5 := hb ⟨n, dec, (rws (c : Int).toNat).d⟩
          simp only [sizeAll]
          dsimp only at h4 h5
          omega
        · have := hb ⟨n, dec, (rws (c : Int).toNat).d⟩
          simp only [sizeAll]
          dsimp only at this
          omega
  by_cases hk : k = 2
  · rw [if_pos hk]
    subst hk
    have hl := (ll_right hra).1
    have e1 := key 1 2 (by omega)
    have e2 := key 2 a.length (by omega)
    omega
  · rw [if_neg hk]
    have := key (k : Int) s (by omega)
    omega
end Go.Proofs.YticofobhkmabiaaGreatDoor
namespace Go.Proofs.YticofobhkmabiaaGreatDoor
open Go.RowKit
open Fdd
set_option linter.unusedVariables false
set_option linter.unusedSimpArgs false
def putR (f : Fm) (t b : List UInt8) : List UInt8 := if f.check t = 0 then b ++ f.put t else []
def PutPost (w : World) (f : Fm) (t b : List UInt8) (e : Ending) (w' : World) : Prop := ∃ A n c, e = .returned (.tuple #[.slice A n c, .int .i64 (f.check t)]) ∧ Own w' w.heap.size 5 (.slice A n c) (putR f t b) ∧ Turn nowhere w w'
theorem put_all {w : World} {f : Fm} {n cap : Nat} {A : Option Addr} {b t : List UInt8} (hr : RowsT w) (hb : Bs w A n b) (hn : n ≤ 140737488351232) :
    Calls Tryz.prog 62 #[.slice A n cap, fmV f, strV t] w (PutPost w f t b) := by
  by_cases h : f.check t = 0
  · obtain ⟨hm, hrt⟩ := check_cases h
    obtain ⟨k, s, c, rfl, h1, h2, h3⟩ := fm_exp hm
    refine (put_main (cap := cap) h1 h2 h3 hrt hr hb (by omega)).mono ?_
    rintro e w' ⟨A', n', c', rfl, ho, ht⟩
    refine ⟨A', n', c', by rw [h], ?_, ht⟩
    unfold putR
    rw [if_pos h]
    exact ho
  · refine (put_bad (cap := cap) (n := n) (A := A) h hr).mono ?_
    rintro e w' ⟨rfl, ht⟩
    refine ⟨none, 0, 0, rfl, ?_, ht⟩
    unfold putR
    rw [if_neg h]
    exact World.ownsRow_nil w' _ _ _
def tk : Except Int (List UInt8 × List UInt8) → List UInt8 × List UInt8 × Int
  | .error k => ([], [], k)
  | .ok (t, r) => (t, r, 0)
def TakeP (w : World) (r : List UInt8 × List UInt8 × Int) (e : Ending) (w' : World) : Prop := ∃ A n c, e = .returned (.tuple #[strV r.1, .slice A n c, .int .i64 r.2.2]) ∧ Own w' w.heap.size 5 (.slice A n c) r.2.1 ∧ Turn nowhere w w'
theorem takeP_of {w w' : World} {r : Except Int (List UInt8 × List UInt8)} {e : Ending} (h : TakeF r w.heap.size e w') (ht : Turn nowhere w w') : TakeP w (tk r) e w' := by
  cases r with
  | error k =>
    have h' : e = .returned (.tuple #[strV [], .slice none 0 0, .int .i64 k]) := h
    exact ⟨none, 0, 0, h', World.ownsRow_nil w' _ _ _, ht⟩
  | ok tr =>
    obtain ⟨t, rest⟩ := tr
    obtain ⟨A, n, c, he, ho⟩ := h
    exact ⟨A, n, c, he, ho, ht⟩
theorem take_all {w : World} {f : Fm} {n cap : Nat} {A : Option Addr} {b : List UInt8} (hr : RowsT w) (hb : Bs w A n b) (hcap : n ≤ cap) (hn : n ≤ 140737488355328) :
    Calls Tryz.prog 99 #[.slice A n cap, fmV f] w (TakeP w (tk (f.take b))) := by
  cases hm : f.may with
  | false =>
    refine (take_bad hm).mono ?_
    rintro e w' ⟨rfl, h2⟩
    have : f.take b = .error 40 := by
      unfold Fm.take
      rw [if_neg (by rw [hm]; decide)]
    rw [this]
    exact ⟨none, 0, 0, rfl, World.ownsRow_nil w' _ _ _, h2⟩
  | true =>
    obtain ⟨k, s, c, rfl, h1, h2, h3⟩ := fm_exp hm
    exact (take_main h1 h2 h3 hr hb hcap hn).mono fun e w' ⟨h, ht⟩ => takeP_of h ht
end Go.Proofs.YticofobhkmabiaaGreatDoor
namespace Go.Proofs.YticofobhkmabiaaGreatDoor.Fdd
set_option linter.unusedVariables false
theorem hexk_len : ∀ (k n : Nat), (hexk k n).length = k
  | 0, _ => rfl
  | k + 1, n => by rw [hexk, List.length_append, hexk_len k]; rfl
theorem hexk_pad (m : Nat) : ∀ (k n : Nat), n < 16 ^ k → hexk (m + k) n = List.replicate m 48 ++ hexk k n
  | 0, n, h => by
    have h0 : n = 0 := by simpa using h
    subst h0
    have : ∀ m, hexk m 0 = List.replicate m 48 := fun m => by
      induction m with
      | zero => rfl
      | succ m ih => rw [hexk, Nat.zero_div, ih, List.replicate_succ']; rfl
    rw [Nat.add_zero, this]
    simp [hexk]
  | k + 1, n, h => by
    rw [show m + (k + 1) = (m + k) + 1 from rfl, hexk, hexk, hexk_pad m k (n / 16) (by rw [Nat.pow_succ] at h; omega), List.append_assoc]
theorem hexs_nodup : hexs.Nodup := by decide
theorem hex_idx {d : Nat} (h : d < 16) : hexs.idxOf (hexs.getD d 0) = d ∧ hexs.getD d 0 ∈ hexs := by
  have key : ∀ d : Fin 16, hexs.idxOf (hexs.getD d.val 0) = d.val ∧ hexs.getD d.val 0 ∈ hexs := by decide +kernel
  exact key ⟨d, h⟩
theorem hex_get {c : UInt8} (h : c ∈ hexs) : hexs.idxOf c < 16 ∧ hexs.getD (hexs.idxOf c) 0 = c := by
  have key : ∀ c ∈ hexs, hexs.idxOf c < 16 ∧ hexs.getD (hexs.idxOf c) 0 = c := by decide +kernel
  exact key c h
theorem hexk_only : ∀ (k n : Nat), onlyOf (hexk k n) hexs = true
  | 0, _ => rfl
  | k + 1, n => by
    have h1 := hexk_only k (n / 16)
    unfold onlyOf at h1 ⊢
    rw [hexk, List.all_append, h1]
    simp only [List.all_cons, List.all_nil, Bool.and_true, Bool.true_and]
    simpa using (hex_idx (Nat.mod_lt n (by decide : 0 < 16))).2
theorem hexVal_snoc (t : List UInt8) (c : UInt8) : hexVal (t ++ [c]) = hexVal t * 16 + hexs.idxOf c := by
  unfold hexVal
  rw [List.foldl_append]
  rfl
theorem hexVal_hexk : ∀ (k n : Nat), n < 16 ^ k → hexVal (hexk k n) = n
  | 0, n, h => by
    have h0 : n = 0 := by simpa using h
    subst h0
    rfl
  | k + 1, n, h => by
    rw [hexk, hexVal_snoc, hexVal_hexk k (n / 16) (by rw [Nat.pow_succ] at h; omega), (hex_idx (Nat.mod_lt n (by decide : 0 < 16))).1]
    omega
theorem snoc_of {α : Type} (l : List α) (h : l ≠ []) : ∃ a x, l = a ++ [x] := ⟨l.dropLast, l.getLast h, (List.dropLast_concat_getLast h).symm⟩
theorem hexk_hexVal : ∀ (k : Nat) (t : List UInt8), t.length = k → onlyOf t hexs = true → hexk k (hexVal t) = t ∧ hexVal t < 16 ^ k
  | 0, t, h, _ => by
    have h0 := List.eq_nil_of_length_eq_zero h
    subst h0
    exact ⟨rfl, by decide⟩
  | k + 1, t, h, ho => by
    obtain ⟨a, x, rfl⟩ := snoc_of t (fun e => by subst e; cases h)
    have hx : x ∈ hexs := onlyOf_mem ho (by simp)
    obtain ⟨h1, h2⟩ := hex_get hx
    obtain ⟨h3, h4⟩ := hexk_hexVal k a (by simp at h; omega) (by
      unfold onlyOf at ho ⊢
      rw [List.all_append, Bool.and_eq_true] at ho
      exact ho.1)
    rw [hexVal_snoc, hexk, show (hexVal a * 16 + hexs.idxOf x) / 16 = hexVal a from by omega, show (hexVal a * 16 + hexs.idxOf x) % 16 = hexs.idxOf x from by omega, h3, h2]
    refine ⟨rfl, ?_⟩
    rw [Nat.pow_succ]
    omega
/-! ### rows of rising numbers -/
def Rise (l : List Int) : Prop := l.Pairwise (· < ·)
theorem rise_eq : ∀ {a b : List Int}, Rise a → Rise b → (∀ x, x ∈ a ↔ x ∈ b) → a = b
  | [], [], _, _, _ => rfl
  | [], y :: b, _, _, h => by have := (h y).2 (List.mem_cons_self ..); cases this
  | x :: a, [], _, _, h => by have := (h x).1 (List.mem_cons_self ..); cases this
  | x :: a, y :: b, ha, hb, h => by
    obtain ⟨a1, a2⟩ := List.pairwise_cons.1 ha
    obtain ⟨b1, b2⟩ := List.pairwise_cons.1 hb
    have hxy : x = y := by
      rcases List.mem_cons.1 ((h x).1 (List.mem_cons_self ..)) with e | e
      · exact e
      · rcases List.mem_cons.1 ((h y).2 (List.mem_cons_self ..)) with e2 | e2
        · exact e2.symm
        · have := b1 x e
          have := a1 y e2
          omega
    subst hxy
    congr 1
    refine rise_eq a2 b2 fun z => ⟨fun hz => ?_, fun hz => ?_⟩
    · rcases List.mem_cons.1 ((h z).1 (List.mem_cons_of_mem _ hz)) with e | e
      · have := a1 z hz
        omega
      · exact e
    · rcases List.mem_cons.1 ((h z).2 (List.mem_cons_of_mem _ hz)) with e | e
      · have := b1 z hz
        omega
      · exact e
/-! ### the forms -/
theorem mfind_mem {no : Int} : ∀ {l : List (Int × Int × Int)} {r : Int × Int}, mfind no l = some r → (no, r) ∈ l
  | [], _, h => by cases h
  | x :: l, r, h => by
    unfold mfind at h
    split at h
    · rename_i e
      injection h with h
      subst h
      subst e
      exact List.mem_cons_self ..
    · exact List.mem_cons_of_mem _ (mfind_mem h)
theorem mrows_all : ∀ x ∈ mrows, (1 ≤ x.2.1 ∧ x.2.1 ≤ 5) ∧ (1 ≤ x.2.2 ∧ x.2.2 ≤ 64) ∧ (x.1 = 4 → x.2.2 = 12 ∧ x.2.1 = 1) ∧ (2 ≤ x.1 ∧ x.1 ≤ 97) ∧ x.1 ≠ 65 := by decide
theorem unsaid_len (d : Nat) (no : Int) : unsaid d no = [] ∨ (unsaid d no = [48, 48] ∧ d = 3 ∧ no = 4) := by
  unfold unsaid
  split
  · exact .inr ⟨rfl, by assumption⟩
  · exact .inl rfl
theorem form_nf {d : Nat} {no : Int} {m : Fm} (h : mform d no = some m) : ∃ k s : Nat, m = nf k s d ∧ (1 ≤ k ∧ k ≤ 5) ∧ (1 ≤ s ∧ s ≤ 64) ∧ (2 ≤ no ∧ no ≤ 97) ∧ no ≠ 65 ∧ mfind no mrows = some ((k : Int), ((s + (unsaid d no).length : Nat) : Int)) ∧ (no = 4 → k = 1 ∧ s + (unsaid d no).length = 12) := by
  unfold mform at h
  obtain ⟨r, hr, rfl⟩ := Option.map_eq_some_iff.1 h
  obtain ⟨⟨a1, a2⟩, ⟨b1, b2⟩, c, e, f⟩ := mrows_all _ (mfind_mem hr)
  simp only at a1 a2 b1 b2 c e f
  have hu : ((unsaid d no).length : Int) = 0 ∨ ((unsaid d no).length : Int) = 2 ∧ no = 4 := by
    rcases unsaid_len d no with h | ⟨h, _, h3⟩
    · left; rw [h]; rfl
    · right; rw [h]; exact ⟨rfl, h3⟩
  generalize hul : (unsaid d no).length = u at *
  refine ⟨r.1.toNat, (r.2 - u).toNat, ?_, by omega, ?_, e, f, ?_, fun e4 => ?_⟩
  · unfold nf
    have hge : 0 ≤ r.2 - (u : Int) := by
      rcases hu with h | ⟨h, h4⟩
      · omega
      · have := c h4
        omega
    rw [Int.toNat_of_nonneg (by omega), Int.toNat_of_nonneg hge]
  · rcases hu with h | ⟨h, h4⟩
    · omega
    · have := c h4
      omega
  · rw [hr]
    congr 1
    refine Prod.ext ?_ ?_
    · show r.1 = _
      omega
    · show r.2 = _
      rcases hu with h | ⟨h, h4⟩
      · omega
      · have := c h4
        omega
  · have := c e4
    rcases hu with h | ⟨h, h4⟩ <;> omega
theorem form_of {d d' : Nat} {no : Int} (h : (mform d no).isSome = true) : (mform d' no).isSome = true := by
  unfold mform at h ⊢
  rw [Option.isSome_map] at h ⊢
  exact h
theorem check_zero {k s c : Nat} {t : List UInt8} (hk : 1 ≤ k ∧ k ≤ 5) (hc : 1 ≤ c ∧ c ≤ 3) (hs : 1 ≤ s ∧ s ≤ 64) : (nf k s c).check t = 0 ↔ (nf k s c).right t = true := by
  unfold Fm.check
  rw [if_pos (may_nf hk hc hs)]
  constructor
  · intro h
    by_cases hr : (nf k s c).right t = true
    · exact hr
    · rw [if_neg hr] at h
      cases h
  · intro h
    rw [if_pos h]
/-- digits, just so many -/
theorem right_n {s c : Nat} {t : List UInt8} : (nf 1 s c).right t = true ↔ t.length = s ∧ onlyOf t dec = true := by
  rw [right_nl (by decide)]
  have e : ptsOf ((1 : Nat) : Int) (c : Int) s = [⟨s, dec, (rws (c : Int).toNat).d⟩] := rfl
  rw [e]
  unfold rightAll rightAll
  simp only [Bool.and_eq_true, decide_eq_true_eq, beq_iff_eq, List.drop_eq_nil_iff]
  constructor
  · rintro ⟨h1, h2, h3⟩
    rw [List.take_of_length_le h3] at h2
    exact ⟨by omega, h2⟩
  · rintro ⟨h1, h2⟩
    rw [List.take_of_length_le (by omega)]
    exact ⟨by omega, h2, by omega⟩
theorem right_b {s c : Nat} {t : List UInt8} : (nf 4 s c).right t = true ↔ t.length = 2 * s ∧ onlyOf t hexs = true := by
  rw [right_nl (by decide)]
  have e : ptsOf ((4 : Nat) : Int) (c : Int) s = [⟨2 * s, hexs, (rws (c : Int).toNat).h⟩] := rfl
  rw [e]
  unfold rightAll rightAll
  simp only [Bool.and_eq_true, decide_eq_true_eq, beq_iff_eq, List.drop_eq_nil_iff]
  constructor
  · rintro ⟨h1, h2, h3⟩
    rw [List.take_of_length_le h3] at h2
    exact ⟨by omega, h2⟩
  · rintro ⟨h1, h2⟩
    rw [List.take_of_length_le (by omega)]
    exact ⟨by omega, h2, by omega⟩
theorem say_nil {d : Nat} {f : Fld} (h : unsaid d f.1 = []) : say d f = f.2 := by
  unfold say Lib.trimPrefix Lib.hasPrefix
  rw [h]
  simp
/-- what is said, with what is not said ahead of it, is the text -/
theorem say_back {d : Nat} {f : Fld} {m : Fm} (hd : 1 ≤ d ∧ d ≤ 3) (hm : mform d f.1 = some m) {m1 : Fm} (hm1 : mform 1 f.1 = some m1) (h1 : m1.check f.2 = 0) (h : m.check (say d f) = 0) : unsaid d f.1 ++ say d f = f.2 := by
  rcases unsaid_len d f.1 with hu | ⟨hu, hd3, h4⟩
  · rw [hu, say_nil hu]
    rfl
  · obtain ⟨k, s, rfl, hk, hs, _, _, _, hx⟩ := form_nf hm
    obtain ⟨k1, s1, rfl, hk1, hs1, _, _, _, hx1⟩ := form_nf hm1
    obtain ⟨rfl, hx⟩ := hx h4
    obtain ⟨rfl, hx1⟩ := hx1 h4
    rw [check_zero hk hd hs, right_n] at h
    rw [check_zero hk1 (by decide) hs1, right_n] at h1
    rw [hu] at hx
    have hu1 : unsaid 1 f.1 = [] := rfl
    rw [hu1] at hx1
    simp only [List.length_cons, List.length_nil] at hx hx1
    rw [hu]
    have hs2 : say d f = Lib.trimPrefix f.2 [48, 48] := by unfold say; rw [hu]
    rw [hs2] at h ⊢
    unfold Lib.trimPrefix at h ⊢
    by_cases hp : Lib.hasPrefix f.2 [48, 48] = true
    · rw [if_pos hp]
      obtain ⟨r, hr⟩ := List.isPrefixOf_iff_prefix.1 hp
      rw [← hr]
      rfl
    · rw [if_neg hp] at h
      omega
/-- a text that a dialect takes is one that the first one has -/
theorem say_of {d : Nat} {no : Int} {m m1 : Fm} {t : List UInt8} (hd : 1 ≤ d ∧ d ≤ 3) (hm : mform d no = some m) (hm1 : mform 1 no = some m1) (h : m.right t = true) : m1.check (unsaid d no ++ t) = 0 ∧ say d (no, unsaid d no ++ t) = t := by
  obtain ⟨k, s, rfl, hk, hs, _, _, hf, hx⟩ := form_nf hm
  obtain ⟨k1, s1, rfl, hk1, hs1, _, _, hf1, hx1⟩ := form_nf hm1
  have hu1 : unsaid 1 no = [] := rfl
  rw [hf] at hf1
  injection hf1 with hf1
  injection hf1 with e1 e2
  rw [check_zero hk1 (by decide) hs1]
  rcases unsaid_len d no with hu | ⟨hu, hd3, h4⟩
  · rw [hu] at e2 ⊢
    rw [hu1] at e2
    obtain rfl : k = k1 := by omega
    obtain rfl : s = s1 := by simp only [List.length_nil] at e2; omega
    refine ⟨by rw [List.nil_append, fm_code (c' := d)]; exact h, ?_⟩
    rw [say_nil hu, List.nil_append]
  · obtain ⟨rfl, hx⟩ := hx h4
    obtain ⟨rfl, hx1⟩ := hx1 h4
    rw [right_n] at h ⊢
    rw [hu] at hx ⊢
    rw [hu1] at hx1
    simp only [List.length_cons, List.length_nil] at hx hx1
    refine ⟨⟨by simp only [List.length_append, List.length_cons, List.length_nil]; omega, ?_⟩, ?_⟩
    · have h2 := h.2
      unfold onlyOf at h2 ⊢
      rw [List.all_append, h2]
      decide
    · unfold say Lib.trimPrefix
      rw [hu]
      have : Lib.hasPrefix ([48, 48] ++ t) [48, 48] = true := List.isPrefixOf_iff_prefix.2 ⟨t, rfl⟩
      rw [if_pos this]
      rfl
end Go.Proofs.YticofobhkmabiaaGreatDoor.Fdd
namespace Go.Proofs.YticofobhkmabiaaGreatDoor
open Go.RowKit
open Fdd
set_option linter.unusedVariables false
set_option linter.unusedSimpArgs false
theorem blk_range {W : World} {g : Nat} {t : TypeId} {cs : Array Value} (h : Blk W g t cs) : W.rangeAt g 0 cs.toList := fun j v hj => by
  rw [Nat.zero_add, h.cell j]
  simpa using hj
theorem gx_iface {P : Program} {a : Act} {o : Oper} {W : World} {t : TypeId} {x : Operand} {v r : Value} (ho : o.op = .makeInterface t x) (hx : a.eval x = v) (h : (Instr.makeInterface t v).run P W = .ok r W) : (execOp a.eval o).run P W = .ok (.value r) W := by
  unfold execOp
  simp only [ho, hx, h, Sem.run_bind, Sem.run_pure, Result.andThen_ok]
theorem mk_fe (v : Value) (W : World) : (Instr.makeInterface 80 v).run Tryz.prog W = .ok (.iface 80 v) W := by kernel_rfl
theorem build_fe (no : Int) (v : Value) (W : World) : (Instr.build 80 #[(0, .int .i64 no), (1, .iface 236 v)]).run Tryz.prog W = .ok (.agg #[.int .i64 no, .iface 236 v]) W := by kernel_rfl
theorem msize_row : (Tryz.prog.info? 110).map (·.size) = some 3 := by kernel_rfl
theorem mzero_row (w : World) : (zeroValue 110).run Tryz.prog w = .ok (.agg #[.int .i64 0, .int .i64 0, .int .i64 0]) w := by kernel_rfl
theorem build_form0 (W : World) : (Instr.build 49 #[]).run Tryz.prog W = .ok (.agg #[.int .i64 0, .int .i64 0, .int .i64 0]) W := by kernel_rfl
def rowA (r : Int × Int × Int) : Array Value := #[.int .i64 r.1, .int .i64 r.2.1, .int .i64 r.2.2]
theorem rowA_one (r : Int × Int × Int) : ∀ v ∈ (rowA r).toList, v.oneCell' = true := fun v hv => by
  unfold rowA at hv
  simp only [List.mem_cons, List.not_mem_nil, or_false] at hv
  rcases hv with rfl | rfl | rfl <;> rfl
theorem fm3_one (a b c : Int) : ∀ v ∈ (#[.int .i64 a, .int .i64 b, .int .i64 c] : Array Value).toList, v.oneCell' = true := rowA_one (a, b, c)
theorem rows_range {W : World} {b off : Nat} (h : ∀ i v, rowCells[i]? = some v → W.cell? ⟨b, off + i, none⟩ = some v) {j : Nat} {r : Int × Int × Int} (hr : mrows[j]? = some r) : W.rangeAt b (off + j * 3) (rowA r).toList := by
  have key : ∀ j : Fin 17, ∀ i : Fin 3, rowCells[j.val * 3 + i.val]? = ((mrows[j.val]?).map rowA).bind fun a => a[i.val]? := by
    intro j i
    have hj : j.val < 17 := j.isLt
    have hi : i.val < 3 := i.isLt
    obtain ⟨j, _⟩ := j
    obtain ⟨i, _⟩ := i
    simp only
    have hjj : j = 0 ∨ j = 1 ∨ j = 2 ∨ j = 3 ∨ j = 4 ∨ j = 5 ∨ j = 6 ∨ j = 7 ∨ j = 8 ∨ j = 9 ∨ j = 10 ∨ j = 11 ∨ j = 12 ∨ j = 13 ∨ j = 14 ∨ j = 15 ∨ j = 16 := by omega
    have hii : i = 0 ∨ i = 1 ∨ i = 2 := by omega
    rcases hii with rfl | rfl | rfl <;> rcases hjj with rfl | rfl | rfl | rfl | rfl | rfl | rfl | rfl | rfl | rfl | rfl | rfl | rfl | rfl | rfl | rfl | rfl <;> rfl
  have hj : j < 17 := (List.getElem?_eq_some_iff.1 hr).1
  intro i v hv
  rw [Nat.add_assoc]
  have hi : i < 3 := by
    have := (List.getElem?_eq_some_iff.1 hv).1
    simpa [rowA] using this
  refine h _ v ?_
  have := key ⟨j, hj⟩ ⟨i, hi⟩
  simp only [hr, Option.map_some, Option.bind_some] at this
  rw [this]
  simpa using hv
set_option maxRecDepth 20000 in
theorem unsaid_walk (d : Nat) (no : Int) (w : World) :
    Calls Tryz.prog 40 #[tongV d, .int .i64 no] w fun e w' => e = .returned (strV (unsaid d no)) ∧ Turn nowhere w w' := by
  by_cases h4 : no = 4
  · subst h4
    unfold tongV tongA
    generalize unsaid d 4 = u
    generalize ver d = v
    go_enter Tryz.func40, Tryz.ntmps40
    go_wp2
    go_ret
    exact ⟨rfl, (Turn.refl nowhere w).alloc _⟩
  · have hu : unsaid d no = [] := by
      unfold unsaid
      rw [if_neg (fun h => h4 h.2)]
    rw [hu]
    clear hu
    unfold tongV tongA
    generalize unsaid d 4 = u
    generalize ver d = v
    go_enter Tryz.func40, Tryz.ntmps40
    go_wp2
    go_ret
    exact ⟨rfl, (Turn.refl nowhere w).alloc _⟩
/-- what form answers -/
def formR (s : Sents) (d : Nat) (no : Int) : Value := match mform d no with
  | some m => .tuple #[fmV m, .nilIface]
  | none => .tuple #[.agg #[.int .i64 0, .int .i64 0, .int .i64 0], .iface 80 (.agg #[.int .i64 no, errS s.field])]
theorem mform_at {d : Nat} {no : Int} {j : Nat} {r : Int × Int × Int} (hr : mrows[j]? = some r) (hm : mfind no (mrows.drop j) = mfind no mrows) : (r.1 = no → mform d no = some ⟨r.2.1, r.2.2 - (unsaid d no).length, (d : Int)⟩) ∧ (r.1 ≠ no → mfind no (mrows.drop (j + 1)) = mfind no mrows) := by
  obtain ⟨hj, hrj⟩ := List.getElem?_eq_some_iff.1 hr
  have hd : mrows.drop j = r :: mrows.drop (j + 1) := by rw [← hrj]; exact List.drop_eq_getElem_cons hj
  have hf : mfind no (r :: mrows.drop (j + 1)) = if r.1 = no then some r.2 else mfind no (mrows.drop (j + 1)) := rfl
  rw [hd, hf] at hm
  refine ⟨fun h => ?_, fun h => ?_⟩
  · rw [if_pos h] at hm
    unfold mform
    rw [← hm]
    rfl
  · rw [if_neg h] at hm
    exact hm
set_option maxRecDepth 20000 in
set_option maxHeartbeats 1000000 in
theorem form_walk {s : Sents} {w : World} {d : Nat} {no : Int} (ht : Tab w) (hs : Sen s w) :
    Calls Tryz.prog 37 #[tongV d, .int .i64 no] w fun e w' => e = .returned (formR s d no) ∧ Turn nowhere w w' := by
  have hW : ∃ w1 b0 bt, w1 = (w.alloc (.cells (tongA d) 70)).alloc (.cells #[.int .i64 0, .int .i64 0, .int .i64 0] 49) ∧ bt = w.heap.size ∧ b0 = w.heap.size + 1 := ⟨_, _, _, rfl, rfl, rfl⟩
  obtain ⟨w1, b0, bt, hw1, hbt, hb0⟩ := hW
  have hU : Turn nowhere w w1 := by rw [hw1]; exact ((Turn.refl nowhere w).alloc _).alloc _
  have hBt : Blk w1 bt 70 (tongA d) := by rw [hw1, hbt]; exact (Blk.new w _ _).alloc _
  have hB0 : Blk w1 b0 49 #[.int .i64 0, .int .i64 0, .int .i64 0] := by
    rw [hw1, hb0]
    have := Blk.new (w.alloc (.cells (tongA d) 70)) 49 #[.int .i64 0, .int .i64 0, .int .i64 0]
    simpa using this
  have HLG := Lib.hid (World.block_lt_of_cell? _ _ hs.field.1)
  have hT1 := ht.turn hU
  have hS1 := hs.turn hU
  obtain ⟨bR, oR, cR, hg6, hcells⟩ := hT1.rows
  have HG := Lib.hid hbt
  have HG0 := Lib.hid hb0
  have HU := Lib.hid hU
  have HBT := Lib.hid hBt
  have HB0 := Lib.hid hB0
  have HS := Lib.hid hS1
  have HC := Lib.hid hcells
  have HW := Lib.hid hw1
  clear hU hBt hB0 hT1 hS1 hcells ht hs hw1 hbt hb0
  go_enter Tryz.func37, Tryz.ntmps37
  go_upto_region 1 with fail
  have e0 := HG0.out
  have e1 := HG.out
  have e2 := HW.out
  change Code.wp _ _ _ _ ((w.alloc (.cells (tongA d) 70)).alloc (.cells #[.int .i64 0, .int .i64 0, .int .i64 0] 49))
  rw [← e2, ← e0, ← e1]
  clear e0 e1 e2 HW
  go_wp2_with fail
  go_loopg [10] 17 (fun gk jv wr => ∃ j : Nat, j + gk = 17 ∧ jv = .int .i64 (j : Int) ∧ mfind no (mrows.drop j) = mfind no mrows ∧ Turn nowhere w1 wr)
  case atStart => exact ⟨0, by omega, rfl, rfl, Turn.refl _ _⟩
  obtain ⟨j, hjl, rfl, hfind, htr⟩ := hrel
  have HJL := Lib.hid hjl
  have HF := Lib.hid hfind
  have HTR := Lib.hid htr
  clear hjl hfind htr hg6
  by_cases hlt : j < 17
  · have y1 : (j : Int) < 17 := by omega
    have HLT := Lib.hid hlt
    obtain ⟨r, hr⟩ : ∃ r, mrows[j]? = some r := ⟨_, List.getElem?_eq_getElem (show j < mrows.length from hlt)⟩
    have HM := Lib.hid (mform_at (d := d) (no := no) hr HF.out)
    have HRR := Lib.hid (rows_range (fun i v h => (HTR.out.cell (World.block_lt_of_cell? _ _ (HC.out i v h)) (fun e => e)).trans (HC.out i v h)) hr)
    have HBD := Lib.hid (show -9223372036854775808 ≤ r.2.2 - ((unsaid d no).length : Int) ∧ r.2.2 - ((unsaid d no).length : Int) ≤ 9223372036854775807 from by
      have h1 := (mrows_all r (List.mem_of_getElem? hr)).2.1
      rcases unsaid_len d no with h | ⟨h, _⟩ <;> rw [h] <;> simp only [List.length_nil, List.length_cons] <;> omega)
    clear hlt hr
    go_upto_region 3 with fail
    refine wp_region_lit ?_
    refine wR (v := .pointer (some ⟨bR, oR + j * 3, none⟩)) rfl (gx_iaddr (i := j) (sz := 3) rfl rfl rfl Tryz.underlying108 (by kernel_rfl) HLT.out (by omega)) ?_
    simp only [Act.put, zzA, zz0, zz1]
    refine wR (v := .agg (rowA r)) rfl (gx_loads rfl rfl HRR.out Tryz.underlying110 rfl (by rw [msize_row]; rfl)) ?_
    simp only [Act.put, zzA, zz0, zz1]
    refine wR (v := .pointer (some ⟨wr.heap.size, 0, none⟩)) (w' := wr.alloc (.cells #[.int .i64 0, .int .i64 0, .int .i64 0] 110)) rfl (gx_alloc rfl (mzero_row _)) ?_
    simp only [Act.put, zzA, zz0, zz1]
    have hb7 := Blk.new wr 110 #[.int .i64 0, .int .i64 0, .int .i64 0]
    have hu7 := HTR.out.alloc (.cells #[.int .i64 0, .int .i64 0, .int .i64 0] 110)
    obtain ⟨g7, hg7⟩ : ∃ g7, g7 = wr.heap.size := ⟨_, rfl⟩
    rw [← hg7] at hb7 ⊢
    have HG7 := Lib.hid (show w1.heap.size ≤ g7 from by rw [hg7]; exact HTR.out.size)
    clear hg7
    generalize wr.alloc (.cells #[.int .i64 0, .int .i64 0, .int .i64 0] 110) = w2 at *
    refine wpList_store_row rfl 110 (.tmp 7) (.tmp 13) rfl (rowA r) hb7 rfl rfl rfl (by rw [msize_row]; rfl) (rowA_one r) ?_
    intro w3 hb3 hu3
    have HB7 := Lib.hid hb3
    have HU3 := Lib.hid (hu7.trans hu3 (fun k hk e => by
      have := HG7.out
      have e : k = g7 := e
      omega))
    clear hb7 hu7 hb3 hu3 HRR
    simp only [Act.put, zzA, zz0, zz1]
    have c0 : w3.cell? ⟨g7, 0, none⟩ = some (.int .i64 r.1) := HB7.out.cell 0
    go_upto_region 4 with fail
    refine wp_region_lit ?_
    refine wR (v := .pointer (some ⟨g7, 0, none⟩)) rfl (exec_field (off := 0) (d := 0) rfl rfl (by kernel_rfl)) ?_
    simp only [Act.put, zzA, zz0, zz1]
    refine wR (v := .int .i64 r.1) rfl (exec_load1 rfl rfl (by kernel_rfl) c0) ?_
    simp only [Act.put, zzA, zz0, zz1]
    refine wR (v := .int .i64 no) rfl (exec_move rfl rfl) ?_
    simp only [Act.put, zzA, zz0, zz1]
    by_cases hrn : r.1 = no
    · have HRN := Lib.hid (HM.out.1 hrn)
      refine wR (v := .bool true) rfl (ix_eql rfl rfl rfl (decide_eq_true hrn)) ?_
      simp only [Act.put, zzA, zz0, zz1]
      clear hrn c0 HM
      have HBT3 := Lib.hid (HBT.out.turn HU3.out (fun e => e))
      have HB03 := Lib.hid (HB0.out.turn HU3.out (fun e => e))
      have hne7 : g7 ≠ b0 := by
        have := HB0.out.lt
        have := HG7.out
        omega
      have hnet : bt ≠ b0 := by
        have := HG.out
        have := HG0.out
        omega
      have HN7 := Lib.hid hne7
      have HNT := Lib.hid hnet
      clear hne7 hnet
      go_upto_region 5 with fail
      have hS0 : Blk w3.drew g7 110 (rowA r) ∧ Blk w3.drew bt 70 (tongA d) := ⟨HB7.out, HBT3.out⟩
      have HU3d : Hid (Turn nowhere w1 w3.drew) := Lib.hid HU3.out.drew
      have HB0d : Hid (Blk w3.drew b0 49 #[.int .i64 0, .int .i64 0, .int .i64 0]) := Lib.hid HB03.out.drew
      clear HB7 HBT3 HU3 HB03
      refine wp_region_alw (fun W => Blk W g7 110 (rowA r) ∧ Blk W bt 70 (tongA d)) (by kernel_rfl) ?_
      generalize w3.drew = w4 at *
      refine alw_take (i := 0) (v := .pointer (some ⟨g7, 1, none⟩)) rfl (by kernel_rfl) (by kernel_rfl) (fun _ _ _ h => h) (.inl ⟨by rfl, fun W hW => exec_field (off := 0) (d := 1) rfl rfl (by kernel_rfl)⟩) hS0 ?_
      simp only [Act.put, zzA, zz0, zz1]
      refine alw_take (i := 1) (v := .int .i64 r.2.1) rfl (by kernel_rfl) (by kernel_rfl) (fun _ _ _ h => h) (.inl ⟨by rfl, fun W hW => exec_load1 rfl rfl (by kernel_rfl) (hW.1.cell 1)⟩) hS0 ?_
      simp only [Act.put, zzA, zz0, zz1]
      refine alw_take (i := 2) (v := .pointer (some ⟨g7, 2, none⟩)) rfl (by kernel_rfl) (by kernel_rfl) (fun _ _ _ h => h) (.inl ⟨by rfl, fun W hW => exec_field (off := 0) (d := 2) rfl rfl (by kernel_rfl)⟩) hS0 ?_
      simp only [Act.put, zzA, zz0, zz1]
      refine alw_take (i := 3) (v := .int .i64 r.2.2) rfl (by kernel_rfl) (by kernel_rfl) (fun _ _ _ h => h) (.inl ⟨by rfl, fun W hW => exec_load1 rfl rfl (by kernel_rfl) (hW.1.cell 2)⟩) hS0 ?_
      simp only [Act.put, zzA, zz0, zz1]
      refine alw_take (i := 4) (v := tongV d) rfl (by kernel_rfl) (by kernel_rfl) (fun _ _ _ h => h) (.inl ⟨by rfl, fun W hW => gx_loads rfl rfl (blk_range hW.2) Tryz.underlying70 rfl (by rw [size_tongue]; rfl)⟩) hS0 ?_
      simp only [Act.put, zzA, zz0, zz1]
      refine alw_take (i := 5) (v := .int .i64 no) rfl (by kernel_rfl) (by kernel_rfl) (fun _ _ _ h => h) (.inl ⟨by rfl, fun W hW => exec_move rfl rfl⟩) hS0 ?_
      simp only [Act.put, zzA, zz0, zz1]
      refine alw_take (i := 9) (v := .pointer (some ⟨bt, 0, none⟩)) rfl (by kernel_rfl) (by kernel_rfl) (fun _ _ _ h => h) (.inl ⟨by rfl, fun W hW => exec_field (off := 0) (d := 0) rfl rfl (by kernel_rfl)⟩) hS0 ?_
      simp only [Act.put, zzA, zz0, zz1]
      refine alw_take (i := 10) (v := .int .i64 (d : Int)) rfl (by kernel_rfl) (by kernel_rfl) (fun _ _ _ h => h) (.inl ⟨by rfl, fun W hW => exec_load1 rfl rfl (by kernel_rfl) (hW.2.cell 0)⟩) hS0 ?_
      simp only [Act.put, zzA, zz0, zz1]
      refine alw_step (i := 6) (by kernel_rfl) rfl rfl ?_
      intro K1 HK1
      go_wp2_with fail
      refine (unsaid_walk d no _).mono ?_
      rintro e w5 ⟨rfl, ht5⟩
      have hS1 : Blk w5 g7 110 (rowA r) ∧ Blk w5 bt 70 (tongA d) := ⟨hS0.1.turn ht5 (fun e => e), hS0.2.turn ht5 (fun e => e)⟩
      refine HK1.out _ _ ⟨hS1, ?_⟩
      have HU5 := Lib.hid (HU3d.out.next ht5)
      have HB05 := Lib.hid (HB0d.out.turn ht5 (fun e => e))
      clear HK1 hS0 HU3d HB0d ht5
      try simp only [Act.put, zzA, zz0, zz1]
      refine alw_take (i := 7) (v := .int .i64 ((unsaid d no).length : Int)) rfl (by kernel_rfl) (by kernel_rfl) (fun _ _ _ h => h) (.inl ⟨by rfl, fun W hW => exec_slen rfl rfl⟩) hS1 ?_
      simp only [Act.put, zzA, zz0, zz1]
      refine alw_take (i := 8) (v := .int .i64 (r.2.2 - ((unsaid d no).length : Int))) rfl (by kernel_rfl) (by kernel_rfl) (fun _ _ _ h => h) (.inl ⟨by rfl, fun W hW => ix_sub rfl rfl rfl rfl HBD.out⟩) hS1 ?_
      simp only [Act.put, zzA, zz0, zz1]
      refine alw_take (i := 11) (v := .agg #[.int .i64 r.2.1, .int .i64 (r.2.2 - ((unsaid d no).length : Int)), .int .i64 (d : Int)]) rfl (by kernel_rfl) (by kernel_rfl) (fun _ _ _ h => h) (.inl ⟨by rfl, fun W hW => exec_build3 rfl rfl rfl rfl (build_any _ _ _ _)⟩) hS1 ?_
      simp only [Act.put, zzA, zz0, zz1]
      refine alw_step (i := 12) (by kernel_rfl) rfl rfl ?_
      intro K2 HK2
      refine wp_store_rowU 49 (.tmp 4) (.tmp 29) rfl #[.int .i64 r.2.1, .int .i64 (r.2.2 - ((unsaid d no).length : Int)), .int .i64 (d : Int)] HB05.out rfl rfl rfl (by rw [size_form]; rfl) (fm3_one _ _ _) ?_
      intro w6 hB6 hU6
      have hS2 : Blk w6 g7 110 (rowA r) ∧ Blk w6 bt 70 (tongA d) := ⟨hS1.1.turn hU6 HN7.out, hS1.2.turn hU6 HNT.out⟩
      refine HK2.out _ _ ⟨hS2, ?_⟩
      have HB6 := Lib.hid hB6
      have HU6 := Lib.hid ((HU.out.next HU5.out).trans hU6 (fun k hk e => by
        have := HG0.out
        have e : k = b0 := e
        omega))
      clear HK2 hS1 HU5 HB05 hB6 hU6
      try simp only [Act.put, zzA, zz0, zz1]
      refine alw_take (i := 13) (v := .nilIface) rfl (by kernel_rfl) (by kernel_rfl) (fun _ _ _ h => h) (.inl ⟨by rfl, fun W hW => gx_assign rfl rfl⟩) hS2 ?_
      simp only [Act.put, zzA, zz0, zz1]
      refine alw_done rfl ?_
      clear hS2
      refine NoPanic.normal ?_
      go_wp2_with fail
      refine bodyPost_ret (v := .tuple #[.agg #[.int .i64 r.2.1, .int .i64 (r.2.2 - ((unsaid d no).length : Int)), .int .i64 (d : Int)], .nilIface]) (ret_cell2 rfl _ _ b0 _ _ _ rfl rfl HB6.out Tryz.underlying49 rfl (by rw [size_form]; rfl)) rfl ?_
      refine ⟨?_, HU6.out⟩
      unfold formR
      rw [HRN.out]
      rfl
    · have HRN := Lib.hid (HM.out.2 hrn)
      refine wR (v := .bool false) rfl (ix_eql rfl rfl rfl (decide_eq_false hrn)) ?_
      simp only [Act.put, zzA, zz0, zz1]
      clear hrn c0 HM
      go_wp2_with fail
      go_roundg (gk - 1)
      case measure => have := HJL.out; have := HLT.out; omega
      case rel => exact ⟨j + 1, by have := HJL.out; have := HLT.out; omega, by go_num, HRN.out, HU3.out⟩
  · have y1 : ¬ ((j : Int) < 17) := by omega
    have HN := Lib.hid (show mform d no = none from by
      have h := HF.out
      have h0 : mrows.drop j = [] := List.drop_eq_nil_iff.2 (show mrows.length ≤ j from by have : mrows.length = 17 := rfl; omega)
      rw [h0] at h
      have h2 : mfind no mrows = none := h.symm
      unfold mform
      rw [h2]
      rfl)
    have HB03 := Lib.hid (HB0.out.turn HTR.out (fun e => e))
    have HLT : Hid (6 < b0) := Lib.hid (by
      have h := World.block_lt_of_cell? _ _ HS.out.field.1
      have h2 := HB0.out.lt
      have := HG0.out
      have h3 : w.heap.size ≤ w1.heap.size := HU.out.size
      have h4 := HLG.out
      omega)
    clear hlt HF
    go_upto_region 7 with fail
    have hS0 : wr.drew.cell? ⟨6, 0, none⟩ = some (errS s.field) := (HS.out.turn HTR.out).field.1
    have HUd : Hid (Turn nowhere w1 wr.drew) := Lib.hid HTR.out.drew
    have HBd : Hid (Blk wr.drew b0 49 #[.int .i64 0, .int .i64 0, .int .i64 0]) := Lib.hid HB03.out.drew
    clear HB03 HTR
    refine wp_region_alw (fun W => W.cell? ⟨6, 0, none⟩ = some (errS s.field)) (by kernel_rfl) ?_
    generalize wr.drew = w4 at *
    refine alw_take (i := 0) (v := .agg #[.int .i64 0, .int .i64 0, .int .i64 0]) rfl (by kernel_rfl) (by kernel_rfl) (fun _ _ _ h => h) (.inl ⟨by rfl, fun W hW => exec_bld rfl (build_form0 _)⟩) hS0 ?_
    simp only [Act.put, zzA, zz0, zz1]
    refine alw_take (i := 1) (v := .int .i64 no) rfl (by kernel_rfl) (by kernel_rfl) (fun _ _ _ h => h) (.inl ⟨by rfl, fun W hW => exec_move rfl rfl⟩) hS0 ?_
    simp only [Act.put, zzA, zz0, zz1]
    refine alw_take (i := 2) (v := errS s.field) rfl (by kernel_rfl) (by kernel_rfl) (fun _ _ _ h => h) (.inl ⟨by rfl, fun W hW => exec_load1 rfl rfl (by kernel_rfl) hW⟩) hS0 ?_
    simp only [Act.put, zzA, zz0, zz1]
    refine alw_take (i := 3) (v := .agg #[.int .i64 no, errS s.field]) rfl (by kernel_rfl) (by kernel_rfl) (fun _ _ _ h => h) (.inl ⟨by rfl, fun W hW => gx_build2 rfl rfl rfl (build_fe _ _ _)⟩) hS0 ?_
    simp only [Act.put, zzA, zz0, zz1]
    refine alw_take (i := 4) (v := .iface 80 (.agg #[.int .i64 no, errS s.field])) rfl (by kernel_rfl) (by kernel_rfl) (fun _ _ _ h => h) (.inl ⟨by rfl, fun W hW => gx_iface rfl rfl (mk_fe _ _)⟩) hS0 ?_
    simp only [Act.put, zzA, zz0, zz1]
    refine alw_step (i := 5) (by kernel_rfl) rfl rfl ?_
    intro K2 HK2
    refine wp_store_rowU 49 (.tmp 4) (.tmp 31) rfl #[.int .i64 0, .int .i64 0, .int .i64 0] HBd.out rfl rfl rfl (by rw [size_form]; rfl) (fm3_one _ _ _) ?_
    intro w6 hB6 hU6
    have hS2 : w6.cell? ⟨6, 0, none⟩ = some (errS s.field) := (hU6.cell (World.block_lt_of_cell? _ _ hS0) (fun e => by
      have e : 6 = b0 := e
      have := HLT.out
      omega)).trans hS0
    refine HK2.out _ _ ⟨hS2, ?_⟩
    have HB6 := Lib.hid hB6
    have HU6 := Lib.hid ((HU.out.next HUd.out).trans hU6 (fun k hk e => by
      have := HG0.out
      have e : k = b0 := e
      omega))
    clear HK2 hS0 HUd HBd hB6 hU6
    try simp only [Act.put, zzA, zz0, zz1]
    refine alw_take (i := 6) (v := .iface 80 (.agg #[.int .i64 no, errS s.field])) rfl (by kernel_rfl) (by kernel_rfl) (fun _ _ _ h => h) (.inl ⟨by rfl, fun W hW => gx_assign rfl rfl⟩) hS2 ?_
    simp only [Act.put, zzA, zz0, zz1]
    refine alw_done rfl ?_
    clear hS2
    refine NoPanic.normal ?_
    go_wp2_with fail
    refine bodyPost_ret (v := .tuple #[.agg #[.int .i64 0, .int .i64 0, .int .i64 0], .iface 80 (.agg #[.int .i64 no, errS s.field])]) (ret_cell2 rfl _ _ b0 _ _ _ rfl rfl HB6.out Tryz.underlying49 rfl (by rw [size_form]; rfl)) rfl ?_
    refine ⟨?_, HU6.out⟩
    unfold formR
    rw [HN.out]
end Go.Proofs.YticofobhkmabiaaGreatDoor
namespace Go.Proofs.YticofobhkmabiaaGreatDoor
open Go.RowKit
open Fdd
set_option linter.unusedVariables false
set_option linter.unusedSimpArgs false
theorem bs_still {w w' : World} {A : Option Addr} {n : Nat} {bs : List UInt8} (h : Bs w A n bs) (ht : Turn nowhere w w') : Bs w' A n bs := bs_below h (ht.below (Nat.le_refl _) (fun _ _ e=>e))
def feV (no : Int) (a : Addr) : Value := .iface 80 (.agg #[.int .i64 no, errS a])
def wrapV (s : Sents) (no e : Int) : Value := if e = 41 then feV no s.text else if e = 42 then feV no s.bytes else if e = 43 then feV no s.short else .nilIface
set_option maxRecDepth 20000 in
theorem wrap_walk {s : Sents} {w : World} {no e : Int} (hs : Sen s w) :
    Calls Tryz.prog 47 #[.int .i64 no, .int .i64 e] w fun r w' => r = .returned (wrapV s no e) ∧ w' = w := by
  have g1 : w.cell? ⟨9, 0, none⟩ = some (errS s.text) := hs.text.1
  have g2 : w.cell? ⟨10, 0, none⟩ = some (errS s.bytes) := hs.bytes.1
  have g3 : w.cell? ⟨11, 0, none⟩ = some (errS s.short) := hs.short.1
  have b1 := build_fe no (.pointer (some s.text)) w
  have b2 := build_fe no (.pointer (some s.bytes)) w
  have b3 := build_fe no (.pointer (some s.short)) w
  unfold errS at g1 g2 g3
  clear hs
  by_cases h1 : e = 41
  · subst h1
    have hv : wrapV s no 41 = feV no s.text := rfl
    rw [hv]
    clear hv g2 g3 b2 b3
    go_enter Tryz.func47, Tryz.ntmps47
    go_wp2
    go_ret
    exact ⟨rfl, rfl⟩
  · by_cases h2 : e = 42
    · subst h2
      have hv : wrapV s no 42 = feV no s.bytes := rfl
      rw [hv]
      clear hv g1 g3 b1 b3
      go_enter Tryz.func47, Tryz.ntmps47
      go_wp2
      go_ret
      exact ⟨rfl, rfl⟩
    · by_cases h3 : e = 43
      · subst h3
        have hv : wrapV s no 43 = feV no s.short := rfl
        rw [hv]
        clear hv g1 g2 b1 b2
        go_enter Tryz.func47, Tryz.ntmps47
        go_wp2
        go_ret
        exact ⟨rfl, rfl⟩
      · have hv : wrapV s no e = .nilIface := by
          unfold wrapV
          rw [if_neg h1, if_neg h2, if_neg h3]
        rw [hv]
        clear hv g1 g2 g3 b1 b2 b3
        go_enter Tryz.func47, Tryz.ntmps47
        go_wp2
        go_ret
        exact ⟨rfl, rfl⟩
/-- what put answers -/
def MPut (s : Sents) (no : Int) (f : Fm) (t b : List UInt8) (w : World) (e : Ending) (w' : World) : Prop := ∃ A n c, e = .returned (.tuple #[.slice A n c, wrapV s no (f.check t)]) ∧ Own w' w.heap.size 5 (.slice A n c) (putR f t b) ∧ Turn nowhere w w'
set_option maxRecDepth 20000 in
theorem mput_walk {s : Sents} {w : World} {no : Int} {f : Fm} {t b : List UInt8} {A : Option Addr} {n cap : Nat} (hs : Sen s w) (hr : RowsT w) (hb : Bs w A n b) (hn : n ≤ 140737488351232) :
    Calls Tryz.prog 38 #[.slice A n cap, .int .i64 no, fmV f, strV t] w (MPut s no f t b w) := by
  have hu1 := (Turn.refl nowhere w).alloc (.cells #[.int .i64 f.kind, .int .i64 f.size, .int .i64 f.code] 49)
  have hb1 := Blk.new w 49 #[.int .i64 f.kind, .int .i64 f.size, .int .i64 f.code]
  obtain ⟨b0, hb0⟩ : ∃ b0, b0 = w.heap.size := ⟨_, rfl⟩
  obtain ⟨w1, hw1⟩ : ∃ w1, w1 = w.alloc (.cells #[.int .i64 f.kind, .int .i64 f.size, .int .i64 f.code] 49) := ⟨_, rfl⟩
  rw [← hw1] at hu1 hb1
  rw [← hb0] at hb1
  have HP := Lib.hid (put_all (f := f) (cap := cap) (t := t) (hr.turn hu1) (bs_still hb hu1) hn)
  have HS := Lib.hid (hs.turn hu1)
  have HU1 := Lib.hid hu1
  have HB1 := Lib.hid hb1
  have HW1 := Lib.hid hw1
  have HB0 := Lib.hid hb0
  clear hs hr hb hu1 hb1 hw1 hb0
  have hfv : fmV f = .agg #[.int .i64 f.kind, .int .i64 f.size, .int .i64 f.code] := rfl
  rw [hfv] at HP ⊢
  clear hfv
  go_enter Tryz.func38, Tryz.ntmps38
  go_upto_region 1 with fail
  have e1 := HW1.out
  have e2 := HB0.out
  rw [← e1, ← e2]
  clear e1 e2 HW1 HB0
  have c0 : w1.cell? ⟨b0, 0, none⟩ = some (.int .i64 f.kind) := HB1.out.cell 0
  have c1 : w1.cell? ⟨b0, 1, none⟩ = some (.int .i64 f.size) := HB1.out.cell 1
  have c2 : w1.cell? ⟨b0, 2, none⟩ = some (.int .i64 f.code) := HB1.out.cell 2
  go_upto_region 2 with (go_at_call 62; refine HP.out.mono ?_; rintro e w2 ⟨A2, n2, cc2, rfl, ho2, ht2⟩)
  have HO2 := Lib.hid ho2
  have HT2 := Lib.hid ht2
  clear ho2 ht2 c0 c1 c2 HB1 HP
  go_wp2_with (go_at_call 47; refine (wrap_walk (HS.out.turn HT2.out)).mono ?_; rintro e w3 ⟨rfl, rfl⟩)
  go_ret2
  exact ⟨_, _, _, rfl, own_base HO2.out HU1.out.size, HU1.out.next HT2.out⟩
set_option maxRecDepth 20000 in
theorem isType_walk {w : World} {n : Int} : Calls Tryz.prog 45 #[.int .i64 n] w fun e w' => e = .returned (.bool (mtypes.contains n)) ∧ w' = w := by
  by_cases h : n ∈ mtypes
  · have hv : mtypes.contains n = true := by simpa using h
    rw [hv]
    clear hv
    unfold mtypes at h
    simp only [List.mem_cons, List.not_mem_nil, or_false] at h
    rcases h with rfl | rfl | rfl | rfl | rfl | rfl | rfl | rfl | rfl | rfl | rfl | rfl | rfl | rfl | rfl | rfl
    all_goals
      go_enter Tryz.func45, Tryz.ntmps45
      go_wp2
      go_ret
      exact ⟨rfl, rfl⟩
  · have hv : mtypes.contains n = false := by simpa using h
    rw [hv]
    clear hv
    unfold mtypes at h
    simp only [List.mem_cons, List.not_mem_nil, or_false, not_or] at h
    obtain ⟨h1, h2, h3, h4, h5, h6, h7, h8, h9, h10, h11, h12, h13, h14, h15, h16⟩ := h
    go_enter Tryz.func45, Tryz.ntmps45
    go_wp2
    go_ret
    exact ⟨rfl, rfl⟩
end Go.Proofs.YticofobhkmabiaaGreatDoor
namespace Go.Proofs.YticofobhkmabiaaGreatDoor
open Go.RowKit
set_option linter.unusedVariables false
set_option linter.unusedSimpArgs false
section
variable {a : Act} {o : Oper} {W : World} {x y : Operand} {t u : TypeId}
theorem ux_and {n m r : Nat} (ho : o.op = .binOp .and t x y u) (hx : a.eval x = .int .u64 (n : Int)) (hy : a.eval y = .int .u64 (m : Int)) (hn : n < 2 ^ 64) (hm : m < 2 ^ 64) (hr : n &&& m = r) : (execOp a.eval o).run Tryz.prog W = .ok (.value (.int .u64 (r : Int))) W := by
  unfold execOp
  simp only [ho, hx, hy]
  go_simp
  rw [u64_and_nat n m (by omega) (by omega), hr]
theorem ux_or {n m r : Nat} (ho : o.op = .binOp .or t x y u) (hx : a.eval x = .int .u64 (n : Int)) (hy : a.eval y = .int .u64 (m : Int)) (hn : n < 2 ^ 64) (hm : m < 2 ^ 64) (hr : n ||| m = r) : (execOp a.eval o).run Tryz.prog W = .ok (.value (.int .u64 (r : Int))) W := by
  unfold execOp
  simp only [ho, hx, hy]
  go_simp
  rw [u64_or_nat n m (by omega) (by omega), hr]
theorem ux_andNot {n m r : Nat} (ho : o.op = .binOp .andNot t x y u) (hx : a.eval x = .int .u64 (n : Int)) (hy : a.eval y = .int .u64 (m : Int)) (hn : n < 2 ^ 64) (hm : m < 2 ^ 64) (hr : n &&& (18446744073709551615 - m) = r) : (execOp a.eval o).run Tryz.prog W = .ok (.value (.int .u64 (r : Int))) W := by
  unfold execOp
  simp only [ho, hx, hy]
  go_simp
  rw [u64_andNot_nat n m (by omega) (by omega), hr]
theorem ux_shr4 {n : Nat} (ho : o.op = .binOp .shr 135 x y u) (hx : a.eval x = .int .u64 (n : Int)) (hy : a.eval y = .int .u64 4) (hn : n < 2 ^ 64) : (execOp a.eval o).run Tryz.prog W = .ok (.value (.int .u64 ((n / 16 : Nat) : Int))) W := by
  unfold execOp
  simp only [ho, hx, hy]
  go_simp
theorem ux_shl1 {m : Nat} (ho : o.op = .binOp .shl 135 (.const (.int .u64 1)) y u) (hy : a.eval y = .int .i64 (m : Int)) (hm : m < 64) : (execOp a.eval o).run Tryz.prog W = .ok (.value (.int .u64 ((2 ^ m : Nat) : Int))) W := by
  have h2 : (2 : Int) ^ m < 2 ^ 64 := by
    have := Nat.pow_lt_pow_right (a := 2) (by decide) hm
    have h3 : ((2 ^ m : Nat) : Int) < ((2 ^ 64 : Nat) : Int) := Int.ofNat_lt.2 this
    simpa using h3
  have h0 : (0 : Int) ≤ 2 ^ m := by
    exact Int.pow_nonneg (by decide)
  unfold execOp
  simp only [ho, hy]
  go_simp
  rw [IntKind.wrap_u64]
  exact Int.emod_eq_of_lt h0 h2
theorem ux_eql {n m : Nat} {r : Bool} (ho : o.op = .binOp .eql t x y u) (hx : a.eval x = .int .u64 (n : Int)) (hy : a.eval y = .int .u64 (m : Int)) (h : decide (n = m) = r) : (execOp a.eval o).run Tryz.prog W = .ok (.value (.bool r)) W := by
  unfold execOp
  simp only [ho, hx, hy]
  go_simp
  subst h
  rw [Bool.eq_iff_iff]
  simp
  omega
theorem ux_geq {n m : Nat} {r : Bool} (ho : o.op = .binOp .geq 135 x y 135) (hx : a.eval x = .int .u64 (n : Int)) (hy : a.eval y = .int .u64 (m : Int)) (h : decide (m ≤ n) = r) : (execOp a.eval o).run Tryz.prog W = .ok (.value (.bool r)) W := by
  unfold execOp
  simp only [ho, hx, hy]
  go_simp
end
end Go.Proofs.YticofobhkmabiaaGreatDoor
