/-
  The reference's tests of bytes and texts. No conditions.
-/
import Derived.Test.YtgdlidjjogoiaaaGreatDoorFdW
namespace Go.Proofs.YtgdlidjjogoiaaaGreatDoor
open Go.RowKit
open Fdd
set_option linter.unusedVariables false
set_option linter.unusedSimpArgs false
theorem byte_of {P : UInt8 → Prop} (h : ∀ n : Nat, n < 256 → P (UInt8.ofNat n)) (b : UInt8) : P b := by
  have h2 := h b.toNat b.toNat_lt
  rwa [show UInt8.ofNat b.toNat = b by simp] at h2
theorem dec_byte (b : UInt8) : dec.contains b = decide (48 ≤ b.toNat ∧ b.toNat ≤ 57) := byte_of (P := fun b => dec.contains b = decide (48 ≤ b.toNat ∧ b.toNat ≤ 57)) (by decide +kernel) b
theorem hex_byte (b : UInt8) : hexs.contains b = decide ((48 ≤ b.toNat ∧ b.toNat ≤ 57) ∨ (97 ≤ b.toNat ∧ b.toNat ≤ 102)) := byte_of (P := fun b => hexs.contains b = decide ((48 ≤ b.toNat ∧ b.toNat ≤ 57) ∨ (97 ≤ b.toNat ∧ b.toNat ≤ 102))) (by decide +kernel) b
theorem sgn_byte (b : UInt8) : sgn.contains b = decide ((48 ≤ b.toNat ∧ b.toNat ≤ 57) ∨ (65 ≤ b.toNat ∧ b.toNat ≤ 90) ∨ b.toNat = 32) := byte_of (P := fun b => sgn.contains b = decide ((48 ≤ b.toNat ∧ b.toNat ≤ 57) ∨ (65 ≤ b.toNat ∧ b.toNat ≤ 90) ∨ b.toNat = 32)) (by decide +kernel) b
theorem digit_walk (b : UInt8) (w : World) :
    Calls Tryz.prog 42 #[.int .u8 (b.toNat : Int)] w fun e w' => e = .returned (.bool (dec.contains b)) ∧ w' = w := by
  rw [dec_byte]
  have hb := b.toNat_lt
  generalize b.toNat = n at *
  go_enter Tryz.func42, Tryz.ntmps42
  go_wp2
  all_goals (try go_ret)
  all_goals
    refine ⟨ret_bool ?_, rfl⟩
    rw [Bool.eq_iff_iff]
    simp only [Bool.and_eq_true, decide_eq_true_eq, Bool.false_eq_true]
    refine ⟨fun h => ?_, fun h => ?_⟩ <;> (first | omega | contradiction)
theorem hex_walk (b : UInt8) (w : World) :
    Calls Tryz.prog 41 #[.int .u8 (b.toNat : Int)] w fun e w' => e = .returned (.bool (hexs.contains b)) ∧ w' = w := by
  have hd := digit_walk b
  have HD := Lib.hid hd
  clear hd
  rw [hex_byte]
  rw [dec_byte] at HD
  have hb := b.toNat_lt
  generalize b.toNat = n at *
  go_enter Tryz.func41, Tryz.ntmps41
  by_cases h0 : 48 ≤ n ∧ n ≤ 57
  · rw [decide_eq_true h0] at HD
    rw [decide_eq_true (show (48 ≤ n ∧ n ≤ 57) ∨ (97 ≤ n ∧ n ≤ 102) from .inl h0)]
    go_wp2_with (go_at_call 42; refine (HD.out _).mono ?_; rintro e w1 ⟨rfl, rfl⟩)
    go_ret
    exact ⟨rfl, rfl⟩
  · rw [decide_eq_false h0] at HD
    go_wp2_with (go_at_call 42; refine (HD.out _).mono ?_; rintro e w1 ⟨rfl, rfl⟩)
    all_goals (try go_ret)
    all_goals
      refine ⟨ret_bool ?_, rfl⟩
      rw [Bool.eq_iff_iff]
      simp only [Bool.and_eq_true, decide_eq_true_eq, Bool.false_eq_true]
      refine ⟨fun h => ?_, fun h => ?_⟩ <;> (first | omega | contradiction)
theorem sign_walk (b : UInt8) (w : World) :
    Calls Tryz.prog 40 #[.int .u8 (b.toNat : Int)] w fun e w' => e = .returned (.bool (sgn.contains b)) ∧ w' = w := by
  have hd := digit_walk b
  have HD := Lib.hid hd
  clear hd
  rw [sgn_byte]
  rw [dec_byte] at HD
  have hb := b.toNat_lt
  generalize b.toNat = n at *
  go_enter Tryz.func40, Tryz.ntmps40
  by_cases h0 : 48 ≤ n ∧ n ≤ 57
  · rw [decide_eq_true h0] at HD
    rw [decide_eq_true (show (48 ≤ n ∧ n ≤ 57) ∨ (65 ≤ n ∧ n ≤ 90) ∨ n = 32 from .inl h0)]
    go_wp2_with (go_at_call 42; refine (HD.out _).mono ?_; rintro e w1 ⟨rfl, rfl⟩)
    go_ret
    exact ⟨rfl, rfl⟩
  · rw [decide_eq_false h0] at HD
    go_wp2_with (go_at_call 42; refine (HD.out _).mono ?_; rintro e w1 ⟨rfl, rfl⟩)
    all_goals (try go_ret)
    all_goals
      refine ⟨ret_bool ?_, rfl⟩
      rw [Bool.eq_iff_iff]
      simp only [Bool.and_eq_true, Bool.or_eq_true, decide_eq_true_eq, Bool.false_eq_true, beq_iff_eq]
      refine ⟨fun h => ?_, fun h => ?_⟩ <;> (first | omega | contradiction | trivial)
theorem rmay_walk (f : Fm) (w : World) :
    Calls Tryz.prog 22 #[fmV f] w fun e w' => e = .returned (.bool f.may) ∧ Turn nowhere w w' := by
  obtain ⟨k, s, c⟩ := f
  unfold fmV
  go_enter Tryz.func22, Tryz.ntmps22
  go_wp2
  all_goals (try go_ret)
  all_goals
    refine ⟨ret_bool ?_, (Turn.refl _ w).alloc _⟩
    try simp only [beq_iff_eq, beq_eq_false_iff_ne, ne_eq] at *
    rw [Bool.eq_iff_iff]
    simp only [Fm.may, Bool.and_eq_true, decide_eq_true_eq, Bool.false_eq_true]
    refine ⟨fun h => ?_, fun h => ?_⟩ <;> (try dsimp only at h ⊢) <;> omega
theorem only_part {l cs : List UInt8} {k : Nat} (hk : k < l.length) (h : cs.contains (l.getD k 0) = false) : onlyOf l cs = false := by
  cases hq : onlyOf l cs with
  | false => rfl
  | true =>
    have := onlyOf_mem hq (c := l.getD k 0) (by
      rw [List.getD_eq_getElem?_getD, List.getElem?_eq_getElem hk]
      exact List.getElem_mem _)
    rw [← List.contains_iff_mem, h] at this
    cases this
theorem only_step {l cs : List UInt8} {k : Nat} (hk : k < l.length) (h0 : onlyOf (l.take k) cs = true) (h : cs.contains (l.getD k 0) = true) : onlyOf (l.take (k + 1)) cs = true := by
  unfold onlyOf at *
  rw [List.take_add_one, List.all_append, h0, List.getElem?_eq_getElem hk]
  rw [List.getD_eq_getElem?_getD, List.getElem?_eq_getElem hk] at h
  simpa using h
set_option maxRecDepth 20000 in
theorem all_walk (t : List UInt8) (w : World) (hl : t.length ≤ 9223372036854775807) :
    Calls Tryz.prog 39 #[strV t] w fun e w' => e = .returned (.bool (onlyOf t dec)) ∧ w' = w := by
  have HL := Lib.hid hl
  clear hl
  go_enter Tryz.func39, Tryz.ntmps39
  go_wp2_with fail
  obtain ⟨n, hn⟩ : ∃ n, n = t.length := ⟨_, rfl⟩
  have HN := Lib.hid hn
  clear hn
  go_loopg [3] n (fun gk i wr => ∃ k : Nat, k + gk = n ∧ i = .int .i64 (k : Int) ∧ wr = w ∧ onlyOf (t.take k) dec = true)
  case atStart => exact ⟨0, by omega, rfl, rfl, rfl⟩
  obtain ⟨k, hkl, rfl, rfl, hin⟩ := hrel
  have HKL := Lib.hid hkl
  have HIN := Lib.hid hin
  clear hkl hin
  go_upto_region 2 with fail
  refine wp_region_lit ?_
  refine wpList_run (v := .int .i64 (k : Int)) rfl (exec_move rfl rfl) ?_
  simp only [Act.put, List.setIfInBounds_toArray, List.set_cons_zero, List.set_cons_succ]
  refine wpList_run (v := strV t) rfl (exec_move rfl rfl) ?_
  simp only [Act.put, List.setIfInBounds_toArray, List.set_cons_zero, List.set_cons_succ]
  refine wpList_run (v := .int .i64 (n : Int)) (w' := wr) rfl (by rw [HN.out]; exact exec_slen rfl rfl) ?_
  simp only [Act.put, List.setIfInBounds_toArray, List.set_cons_zero, List.set_cons_succ]
  by_cases hlt : k < n
  · have y1 : (k : Int) < (n : Int) := by omega
    have y3 : (n : Int) ≤ 9223372036854775807 := by have := HN.out; have := HL.out; omega
    go_upto_region 4 with fail
    refine wp_region_lit ?_
    refine wpList_run (v := strV t) rfl (exec_move rfl rfl) ?_
    simp only [Act.put, List.setIfInBounds_toArray, List.set_cons_zero, List.set_cons_succ]
    refine wpList_run (v := .int .i64 (k : Int)) rfl (exec_move rfl rfl) ?_
    simp only [Act.put, List.setIfInBounds_toArray, List.set_cons_zero, List.set_cons_succ]
    refine wpList_run (v := .int .u8 ((t.getD k 0).toNat : Int)) (w' := wr) rfl (exec_sidx rfl rfl rfl (by rw [← HN.out]; exact hlt)) ?_
    simp only [Act.put, List.setIfInBounds_toArray, List.set_cons_zero, List.set_cons_succ]
    have HLT := Lib.hid hlt
    clear hlt
    have hd := digit_walk (t.getD k 0) wr
    have hp : dec.contains (t.getD k 0) = false → onlyOf t dec = false := only_part (by rw [← HN.out]; exact HLT.out)
    have hs : dec.contains (t.getD k 0) = true → onlyOf (t.take (k + 1)) dec = true := only_step (by rw [← HN.out]; exact HLT.out) HIN.out
    have HP := Lib.hid hp
    have HS := Lib.hid hs
    clear hp hs HIN
    generalize t.getD k 0 = b at *
    cases hq : dec.contains b with
    | true =>
      rw [hq] at hd
      have HIN := Lib.hid (HS.out hq)
      go_wp2_with (go_at_call 42; refine hd.mono ?_; rintro e w1 ⟨rfl, rfl⟩)
      go_roundg (gk - 1)
      case measure => have := HKL.out; have := HLT.out; omega
      case rel => exact ⟨k + 1, by have := HKL.out; have := HLT.out; omega, by go_num, rfl, HIN.out⟩
    | false =>
      rw [hq] at hd
      have HIN := Lib.hid (HP.out hq)
      go_wp2_with (go_at_call 42; refine hd.mono ?_; rintro e w1 ⟨rfl, rfl⟩)
      go_ret
      rw [HIN.out]
      exact ⟨rfl, rfl⟩
  · have hke : k = n := by have := HKL.out; omega
    have y1 : ¬ ((k : Int) < (n : Int)) := by omega
    have HALL := Lib.hid (show onlyOf t dec = true by
      have := HIN.out
      rwa [List.take_of_length_le (by rw [← HN.out]; omega)] at this)
    clear hlt hke
    go_wp2_with fail
    go_ret
    rw [HALL.out]
    exact ⟨rfl, rfl⟩
end Go.Proofs.YtgdlidjjogoiaaaGreatDoor
