/-
  The reference's bytes: a digit's value, signs, digits in pairs. No conditions.
-/
import Derived.Test.YtgdlidjjogoiaaaGreatDoorFdRk
import Derived.Test.YtgdlidjjogoiaaaGreatDoorFdTb
import Derived.Test.YtgdlidjjogoiaaaGreatDoorGen
import Derived.IntWalk
namespace Go.Proofs.YtgdlidjjogoiaaaGreatDoor
open Go.RowKit
open Fdd
set_option linter.unusedVariables false
set_option linter.unusedSimpArgs false
theorem vOf_nat (b : UInt8) : vOf b = if 48 ≤ b.toNat ∧ b.toNat ≤ 57 then b.toNat - 48 else b.toNat - 87 := byte_of (P := fun b => vOf b = if 48 ≤ b.toNat ∧ b.toNat ≤ 57 then b.toNat - 48 else b.toNat - 87) (by decide +kernel) b
theorem vOf_lt (b : UInt8) (h : hexs.contains b = true) : vOf b < 16 := by
  rw [hex_byte] at h
  have h2 := of_decide_eq_true h
  rw [vOf_nat]
  split <;> omega
theorem ebc_nat (b : UInt8) : (ebc b).toNat = if 48 ≤ b.toNat ∧ b.toNat ≤ 57 then b.toNat + 192 else if 65 ≤ b.toNat ∧ b.toNat ≤ 73 then b.toNat + 128 else if 74 ≤ b.toNat ∧ b.toNat ≤ 82 then b.toNat + 135 else if 83 ≤ b.toNat ∧ b.toNat ≤ 90 then b.toNat + 143 else 64 :=
  byte_of (P := fun b => (ebc b).toNat = if 48 ≤ b.toNat ∧ b.toNat ≤ 57 then b.toNat + 192 else if 65 ≤ b.toNat ∧ b.toNat ≤ 73 then b.toNat + 128 else if 74 ≤ b.toNat ∧ b.toNat ≤ 82 then b.toNat + 135 else if 83 ≤ b.toNat ∧ b.toNat ≤ 90 then b.toNat + 143 else 64) (by decide +kernel) b
theorem wrapu8 (x : Int) : IntKind.u8.wrap x = x % 256 := by
  simp [IntKind.wrap, IntKind.bits, IntKind.signed]
theorem valueH_walk (b : UInt8) (h : hexs.contains b = true) (w : World) :
    Calls Tryz.prog 26 #[.int .u8 (b.toNat : Int)] w fun e w' => e = .returned (.int .i64 ((vOf b : Nat) : Int)) ∧ w' = w := by
  have hd := digit_walk b
  rw [dec_byte] at hd
  rw [hex_byte] at h
  have h2 := of_decide_eq_true h
  rw [vOf_nat]
  have HD := Lib.hid hd
  clear hd h
  generalize b.toNat = n at *
  by_cases h0 : 48 ≤ n ∧ n ≤ 57
  · rw [decide_eq_true h0] at HD
    rw [if_pos h0]
    have h3 := h0.1
    have h4 := h0.2
    clear h0 h2
    go_enter Tryz.func26, Tryz.ntmps26
    go_wp2_with (go_at_call 42; refine (HD.out _).mono ?_; rintro e w1 ⟨rfl, rfl⟩)
    go_ret
    exact ⟨ret_int (by omega), rfl⟩
  · rw [decide_eq_false h0] at HD
    rw [if_neg h0]
    have h3 : 97 ≤ n := by omega
    have h4 : n ≤ 102 := by omega
    clear h0 h2
    go_enter Tryz.func26, Tryz.ntmps26
    go_wp2_with (go_at_call 42; refine (HD.out _).mono ?_; rintro e w1 ⟨rfl, rfl⟩)
    go_ret
    exact ⟨ret_int (by omega), rfl⟩
theorem ebcdic_walk (b : UInt8) (w : World) :
    Calls Tryz.prog 43 #[.int .u8 (b.toNat : Int)] w fun e w' => e = .returned (.int .u8 (((ebc b).toNat : Nat) : Int)) ∧ w' = w := by
  have hd := digit_walk b
  rw [dec_byte] at hd
  rw [ebc_nat]
  have HD := Lib.hid hd
  clear hd
  have hb := b.toNat_lt
  generalize b.toNat = n at *
  by_cases h0 : 48 ≤ n ∧ n ≤ 57
  · rw [decide_eq_true h0] at HD
    rw [if_pos h0]
    have h3 := h0.1
    have h4 := h0.2
    clear h0
    go_enter Tryz.func43, Tryz.ntmps43
    go_wp2_with (go_at_call 42; refine (HD.out _).mono ?_; rintro e w1 ⟨rfl, rfl⟩)
    go_ret
    exact ⟨ret_int (by first | omega | (simp only [wrapu8]; omega)), rfl⟩
  · rw [decide_eq_false h0] at HD
    rw [if_neg h0]
    go_enter Tryz.func43, Tryz.ntmps43
    go_wp2_with (go_at_call 42; refine (HD.out _).mono ?_; rintro e w1 ⟨rfl, rfl⟩)
    all_goals (try go_ret)
    all_goals
      refine ⟨ret_int ?_, rfl⟩
      first
        | omega
        | ((repeat' split) <;> omega)
        | (simp only [wrapu8]; (repeat' split) <;> omega)
theorem exec_one {a : Act} {o : Oper} {W : World} {x : Operand} {z : UInt8} (ho : o.op = .buildSlice 22 1 #[(0, x)]) (hx : a.eval x = .int .u8 (z.toNat : Int)) : (execOp a.eval o).run Tryz.prog W = .ok (.value (.slice (some ⟨W.heap.size, 0, none⟩) 1 1)) (W.alloc (.cells (bcs [z]).toArray 5)) := by
  obtain ⟨j0, hj0, hjz, hj1, hj2⟩ := info_parts byteInfo
  exact exec_buildSlice1 ho hx (run_buildSlice_one (v := .int .u8 (z.toNat : Int)) Tryz.underlying22 hj0 hjz (by rw [hj1]; rfl) (by rw [hj1]; rfl) (by omega) (by omega) _)
theorem bs_blk {w : World} {g : Nat} {t : TypeId} {l : List UInt8} {n : Nat} (h : Blk w g t (bcs l).toArray) (hn : l.length = n) (hm : n ≤ maxLen) : Bs w (some ⟨g, 0, none⟩) n l :=
  ⟨hn, hm, fun _ => ⟨g, 0, rfl, fun i hi => by
    rw [h.cell]
    have := bcs_at l i (by omega)
    simpa using this⟩⟩
/-- bytes that a call made -/
def Made (w : World) (l : List UInt8) (e : Ending) (w' : World) : Prop := ∃ A n c, e = .returned (.slice A n c) ∧ Own w' w.heap.size 5 (.slice A n c) l ∧ Turn nowhere w w'
theorem take_one {t : List UInt8} {k : Nat} (h : k < t.length) : t.take (k + 1) = t.take k ++ [t.getD k 0] := by
  rw [List.take_succ_eq_append_getElem h, List.getD_eq_getElem?_getD, List.getElem?_eq_getElem h]
  rfl
theorem wpList_call {P : Program} {ops : Array Oper} {rest : List Oper} {o : Oper} {a : Act} {w : World} {Q : Exit → Act → World → Prop} (hgd : Region.wanted o (yielded ops a.tmps) = true)
    (h : ∀ K : Act → World → Prop, Shut (∀ a' w', wpList P ops Q rest a' w' → K a' w') → o.wp P a w K Q) : wpList P ops Q (o :: rest) a w :=
  wpList_step fun K hK => by
    rw [if_pos hgd]
    exact h K hK
theorem below_turn {w w' : World} (h : Below w.heap.size w w') : Turn nowhere w w' := Turn.of_below h (Nat.le_refl _)
set_option maxRecDepth 20000 in
set_option maxHeartbeats 1000000 in
theorem signs_walk (code : Int) (t : List UInt8) (w : World) (hl : t.length ≤ 1000) :
    Calls Tryz.prog 37 #[.int .i64 code, strV t] w (Made w (rsigns code t)) := by
  obtain ⟨f, hf⟩ : ∃ f : UInt8 → UInt8, ∀ x : List UInt8, x.map f = rsigns code x := by
    by_cases h : code = 3
    · exact ⟨ebc, fun x => by unfold rsigns; rw [if_pos h]⟩
    · exact ⟨id, fun x => by unfold rsigns; rw [if_neg h, List.map_id]⟩
  have hfe : code = 3 → ∀ b, f b = ebc b := fun h b => by
    have := hf [b]
    unfold rsigns at this
    rw [if_pos h] at this
    simpa using this
  have hfi : code ≠ 3 → ∀ b, f b = b := fun h b => by
    have := hf [b]
    unfold rsigns at this
    rw [if_neg h] at this
    simpa using this
  rw [← hf t]
  have HFE := Lib.hid hfe
  have HFI := Lib.hid hfi
  have HL := Lib.hid hl
  clear hf hfe hfi hl
  obtain ⟨n, hn⟩ : ∃ n, n = t.length := ⟨_, rfl⟩
  have HN := Lib.hid hn
  clear hn
  obtain ⟨B, hB⟩ : ∃ B, B = w.heap.size := ⟨_, rfl⟩
  have HB := Lib.hid hB
  clear hB
  go_enter Tryz.func37, Tryz.ntmps37
  go_upto_region 1 with fail
  refine wp_region_lit ?_
  refine wpList_run (v := _) rfl (exec_make0 rfl) ?_
  simp only [Act.put, List.setIfInBounds_toArray, List.set_cons_zero, List.set_cons_succ]
  refine wpList_run (v := .slice (some ⟨w.heap.size, 0, none⟩) 0 0) rfl (gx_assign rfl rfl) ?_
  simp only [Act.put, List.setIfInBounds_toArray, List.set_cons_zero, List.set_cons_succ]
  have hown0 := Own.empty w B 5 (Nat.le_of_eq HB.out)
  have hbel0 : Below B w (w.alloc (.cells #[] 5)) := (Below.refl _ w).alloc (Nat.le_of_eq HB.out) _
  generalize (w.alloc (.cells #[] 5)) = w1 at *
  generalize (some (⟨w.heap.size, 0, none⟩ : Addr)) = A0 at *
  have HO0 := Lib.hid hown0
  have HB0 := Lib.hid hbel0
  clear hown0 hbel0
  go_wp2_with fail
  go_loopg [5, 6] n (fun gk b i wr => ∃ (k : Nat) (A : Option Addr) (m c : Nat), k + gk = n ∧ i = .int .i64 (k : Int) ∧ b = .slice A m c ∧ Own wr B 5 (.slice A m c) ((t.take k).map f) ∧ Below B w wr)
  case atStart => exact ⟨0, A0, 0, 0, by omega, rfl, rfl, HO0.out, HB0.out⟩
  case round =>
    obtain ⟨k, A, m, c, hkl, rfl, rfl, hown, hbel⟩ := hrel
    have HKL := Lib.hid hkl
    have HO := Lib.hid hown
    have HE := Lib.hid hbel
    clear hkl hown hbel
    go_upto_region 3 with fail
    refine wp_region_lit ?_
    refine wpList_run (v := .int .i64 (k : Int)) rfl (exec_move rfl rfl) ?_
    simp only [Act.put, List.setIfInBounds_toArray, List.set_cons_zero, List.set_cons_succ]
    refine wpList_run (v := strV t) rfl (exec_move rfl rfl) ?_
    simp only [Act.put, List.setIfInBounds_toArray, List.set_cons_zero, List.set_cons_succ]
    refine wpList_run (v := .int .i64 (n : Int)) (w' := wr) rfl (by rw [HN.out]; exact exec_slen rfl rfl) ?_
    simp only [Act.put, List.setIfInBounds_toArray, List.set_cons_zero, List.set_cons_succ]
    by_cases hlt : k < n
    · refine wpList_run (v := .bool true) (w' := wr) rfl (exec_lss rfl rfl rfl (by omega)) ?_
      simp only [Act.put, List.setIfInBounds_toArray, List.set_cons_zero, List.set_cons_succ]
      have HLT := Lib.hid hlt
      have HKT := Lib.hid (show k < t.length by rw [← HN.out]; exact hlt)
      clear hlt
      by_cases h3 : code = 3
      · have hz : f (t.getD k 0) = ebc (t.getD k 0) := HFE.out h3 _
        have htk : (t.take (k + 1)).map f = (t.take k).map f ++ [f (t.getD k 0)] := by rw [take_one HKT.out, List.map_append]; rfl
        rw [hz] at htk
        subst h3
        have HTK := Lib.hid htk
        have HEB := Lib.hid (ebcdic_walk (t.getD k 0) wr)
        clear hz htk
        go_upto_region 6 with fail
        refine wp_region_lit ?_
        refine wpList_run (v := .slice A m c) rfl (exec_move rfl rfl) ?_
        simp only [Act.put, List.setIfInBounds_toArray, List.set_cons_zero, List.set_cons_succ]
        refine wpList_run (v := strV t) rfl (exec_move rfl rfl) ?_
        simp only [Act.put, List.setIfInBounds_toArray, List.set_cons_zero, List.set_cons_succ]
        refine wpList_run (v := .int .i64 (k : Int)) rfl (exec_move rfl rfl) ?_
        simp only [Act.put, List.setIfInBounds_toArray, List.set_cons_zero, List.set_cons_succ]
        refine wpList_run (v := .int .u8 ((t.getD k 0).toNat : Int)) (w' := wr) rfl (exec_sidx rfl rfl rfl HKT.out) ?_
        simp only [Act.put, List.setIfInBounds_toArray, List.set_cons_zero, List.set_cons_succ]
        generalize ebc (t.getD k 0) = z at *
        generalize t.getD k 0 = y at *
        refine wpList_call rfl ?_
        intro K1 HK1
        go_wp2_with fail
        refine HEB.out.mono ?_
        rintro e w1' ⟨rfl, hw⟩
        obtain rfl : wr = w1' := hw.symm
        refine HK1.out _ _ ?_
        clear HK1
        refine wpList_run (v := _) rfl (exec_one (z := z) rfl rfl) ?_
        simp only [Act.put, List.setIfInBounds_toArray, List.set_cons_zero, List.set_cons_succ]
        have hone := bs_blk (Blk.new wr 5 (bcs [z]).toArray) (n := 1) rfl (by unfold maxLen; omega)
        have hown1 : Own (wr.alloc (.cells (bcs [z]).toArray 5)) B 5 (.slice A m c) ((t.take k).map f) := HO.out.alloc _
        refine wpList_append_bytes _ rfl _ _ _ rfl B 5 byteInfo Tryz.underlying22 _ _ rfl hown1 _ 1 1 [z] rfl hone (fun h => by cases h) (by rw [List.length_map, List.length_take]; have := HN.out; have := HL.out; omega) (by have := HE.out.size; have := HB.out; simp; omega) ?_
        intro v2 w2 ho2 hb2
        simp only [Act.put, List.setIfInBounds_toArray, List.set_cons_zero, List.set_cons_succ]
        obtain ⟨A2, m2, c2, rfl, _⟩ := ho2.form
        have HO2 := Lib.hid ho2
        have HB2 := Lib.hid hb2
        clear ho2 hb2 hone hown1
        have b0 : (0 : Int) ≤ (k : Int) := by omega
        have b1 : (k : Int) ≤ 1000 := by have := HLT.out; have := HN.out; have := HL.out; omega
        go_wp2_with fail
        go_roundg (gk - 1)
        case measure => have := HKL.out; have := HLT.out; omega
        case rel =>
          refine ⟨k + 1, A2, m2, c2, by have := HKL.out; have := HLT.out; omega, by go_num, rfl, ?_, (HE.out.alloc (by have := HE.out.size; have := HB.out; omega) _).trans HB2.out⟩
          rw [HTK.out]
          exact HO2.out
      · have hz : f (t.getD k 0) = t.getD k 0 := HFI.out h3 _
        have htk : (t.take (k + 1)).map f = (t.take k).map f ++ [f (t.getD k 0)] := by rw [take_one HKT.out, List.map_append]; rfl
        rw [hz] at htk
        have h33 : (code == 3) = false := by simpa using h3
        have HTK := Lib.hid htk
        clear hz htk
        go_upto_region 7 with fail
        refine wp_region_lit ?_
        refine wpList_run (v := .slice A m c) rfl (exec_move rfl rfl) ?_
        simp only [Act.put, List.setIfInBounds_toArray, List.set_cons_zero, List.set_cons_succ]
        refine wpList_run (v := strV t) rfl (exec_move rfl rfl) ?_
        simp only [Act.put, List.setIfInBounds_toArray, List.set_cons_zero, List.set_cons_succ]
        refine wpList_run (v := .int .i64 (k : Int)) rfl (exec_move rfl rfl) ?_
        simp only [Act.put, List.setIfInBounds_toArray, List.set_cons_zero, List.set_cons_succ]
        refine wpList_run (v := .int .u8 ((t.getD k 0).toNat : Int)) (w' := wr) rfl (exec_sidx rfl rfl rfl HKT.out) ?_
        simp only [Act.put, List.setIfInBounds_toArray, List.set_cons_zero, List.set_cons_succ]
        generalize t.getD k 0 = z at *
        refine wpList_run (v := _) rfl (exec_one (z := z) rfl rfl) ?_
        simp only [Act.put, List.setIfInBounds_toArray, List.set_cons_zero, List.set_cons_succ]
        have hone := bs_blk (Blk.new wr 5 (bcs [z]).toArray) (n := 1) rfl (by unfold maxLen; omega)
        have hown1 : Own (wr.alloc (.cells (bcs [z]).toArray 5)) B 5 (.slice A m c) ((t.take k).map f) := HO.out.alloc _
        refine wpList_append_bytes _ rfl _ _ _ rfl B 5 byteInfo Tryz.underlying22 _ _ rfl hown1 _ 1 1 [z] rfl hone (fun h => by cases h) (by rw [List.length_map, List.length_take]; have := HN.out; have := HL.out; omega) (by have := HE.out.size; have := HB.out; simp; omega) ?_
        intro v2 w2 ho2 hb2
        simp only [Act.put, List.setIfInBounds_toArray, List.set_cons_zero, List.set_cons_succ]
        obtain ⟨A2, m2, c2, rfl, _⟩ := ho2.form
        have HO2 := Lib.hid ho2
        have HB2 := Lib.hid hb2
        clear ho2 hb2 hone hown1
        have b0 : (0 : Int) ≤ (k : Int) := by omega
        have b1 : (k : Int) ≤ 1000 := by have := HLT.out; have := HN.out; have := HL.out; omega
        go_wp2_with fail
        go_roundg (gk - 1)
        case measure => have := HKL.out; have := HLT.out; omega
        case rel =>
          refine ⟨k + 1, A2, m2, c2, by have := HKL.out; have := HLT.out; omega, by go_num, rfl, ?_, (HE.out.alloc (by have := HE.out.size; have := HB.out; omega) _).trans HB2.out⟩
          rw [HTK.out]
          exact HO2.out
    · refine wpList_run (v := .bool false) (w' := wr) rfl (exec_nlss rfl rfl rfl (by omega)) ?_
      simp only [Act.put, List.setIfInBounds_toArray, List.set_cons_zero, List.set_cons_succ]
      have hkn : t.take k = t := List.take_of_length_le (by have := HKL.out; have := HN.out; omega)
      have ho := HO.out
      rw [hkn] at ho
      have HOO := Lib.hid ho
      have HTT := Lib.hid (below_turn (by have := HE.out; rwa [HB.out] at this))
      clear hlt hkn ho
      go_wp2_with fail
      go_ret
      refine ⟨A, m, c, rfl, ?_, HTT.out⟩
      rw [← HB.out]
      exact HOO.out
end Go.Proofs.YtgdlidjjogoiaaaGreatDoor
