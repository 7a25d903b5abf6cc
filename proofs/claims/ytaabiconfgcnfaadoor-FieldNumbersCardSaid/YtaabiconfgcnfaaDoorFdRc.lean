/-
  The reference's value and Amount. No conditions.
-/
import Derived.Test.YtaabiconfgcnfaaDoorFdAm
import Derived.Test.YtaabiconfgcnfaaDoorFdRa
namespace Go.Proofs.YtaabiconfgcnfaaDoor
open Go.RowKit
open Fdd
set_option linter.unusedVariables false
set_option linter.unusedSimpArgs false
theorem value_walk (b : UInt8) (h : dec.contains b = true) (w : World) :
    Calls Tryd.prog 30 #[.int .u8 (b.toNat : Int)] w fun e w' => e = .returned (.int .i64 ((b.toNat - 48 : Nat) : Int)) ∧ w' = w := by
  have hd := digit_walk b
  rw [h] at hd
  rw [dec_byte] at h
  have h2 := of_decide_eq_true h
  have HD := Lib.hid hd
  clear hd h
  generalize b.toNat = n at *
  go_enter Tryd.func30, Tryd.ntmps30
  go_wp2_with (go_at_call 41; refine (HD.out _).mono ?_; rintro e w1 ⟨rfl, rfl⟩)
  go_ret
  exact ⟨ret_int (by omega), rfl⟩
theorem allD_of {l : List UInt8} (h : onlyOf l dec = true) : AllD l := fun b hb => by
  have := onlyOf_mem h hb
  have h2 := dec_byte b
  rw [show dec.contains b = true by simpa using this] at h2
  exact of_decide_eq_true h2.symm
theorem wrap_big {x : Int} (h0 : -9223372036854775808 ≤ x) (h1 : x ≤ 9223372036854775807) : IntKind.i64.wrap x = x := by
  simp [IntKind.wrap, IntKind.bits, IntKind.signed]
  omega
theorem pow_le {k : Nat} (h : k ≤ 18) : 10 ^ k ≤ 10 ^ 18 := Nat.pow_le_pow_right (by decide) h
set_option maxRecDepth 20000 in
set_option maxHeartbeats 1000000 in
theorem ramount_walk (t : List UInt8) (w : World) (hl : t.length ≤ 9223372036854775807) :
    Calls Tryd.prog 12 #[strV t] w fun e w' => e = .returned (.tuple #[.int .i64 (amountOf t).1, .int .i64 (amountOf t).2]) ∧ w' = w := by
  have hdef : amountOf t = if t.length ≤ 18 ∧ onlyOf t dec = true ∧ t ≠ [] then ((val t : Int), 0) else (0, 41) := rfl
  have HD := Lib.hid hdef
  clear hdef
  have ha := all_walk t w hl
  have HL := Lib.hid hl
  clear hl
  obtain ⟨n, hn⟩ : ∃ n, n = t.length := ⟨_, rfl⟩
  have HN := Lib.hid hn
  clear hn
  go_enter Tryd.func12, Tryd.ntmps12
  go_upto_region 1 with fail
  refine wp_region_lit ?_
  refine wpList_run (v := strV t) rfl (exec_move rfl rfl) ?_
  simp only [Act.put, List.setIfInBounds_toArray, List.set_cons_zero, List.set_cons_succ]
  refine wpList_run (v := .int .i64 (n : Int)) (w' := w) rfl (by rw [HN.out]; exact exec_slen rfl rfl) ?_
  simp only [Act.put, List.setIfInBounds_toArray, List.set_cons_zero, List.set_cons_succ]
  by_cases h0 : n = 0
  · have HX := Lib.hid (show amountOf t = (0, 41) from by
      rw [HD.out, if_neg]
      rintro ⟨_, _, h⟩
      exact h (List.eq_nil_of_length_eq_zero (by rw [← HN.out]; exact h0)))
    subst h0
    go_wp2_with fail
    go_ret2
    rw [HX.out]
    exact ⟨rfl, rfl⟩
  · have y0 : ¬ ((n : Int) < 1) := by omega
    refine wpList_run (v := .bool false) (w' := w) rfl (by go_simp <;> omega) ?_
    simp only [Act.put, List.setIfInBounds_toArray, List.set_cons_zero, List.set_cons_succ]
    refine wpList_run (v := .bool false) rfl (exec_move rfl rfl) ?_
    simp only [Act.put, List.setIfInBounds_toArray, List.set_cons_zero, List.set_cons_succ]
    refine wpList_run (v := strV t) rfl (exec_move rfl rfl) ?_
    simp only [Act.put, List.setIfInBounds_toArray, List.set_cons_zero, List.set_cons_succ]
    refine wpList_run (v := .int .i64 (n : Int)) (w' := w) rfl (by rw [HN.out]; exact exec_slen rfl rfl) ?_
    simp only [Act.put, List.setIfInBounds_toArray, List.set_cons_zero, List.set_cons_succ]
    by_cases h18 : 18 < n
    · have HX := Lib.hid (show amountOf t = (0, 41) from by
        rw [HD.out, if_neg]
        rintro ⟨h, _, _⟩
        rw [← HN.out] at h
        omega)
      have y1 : (18 : Int) < (n : Int) := by omega
      go_wp2_with fail
      go_ret2
      rw [HX.out]
      exact ⟨rfl, rfl⟩
    · have y1 : ¬ ((18 : Int) < (n : Int)) := by omega
      cases hq : onlyOf t dec with
      | false =>
        rw [hq] at ha
        have HX := Lib.hid (show amountOf t = (0, 41) from by
          rw [HD.out, if_neg]
          rintro ⟨_, h, _⟩
          rw [hq] at h
          cases h)
        go_wp2_with (go_at_call 29; refine ha.mono ?_; rintro e w1 ⟨rfl, rfl⟩)
        go_ret2
        rw [HX.out]
        exact ⟨rfl, rfl⟩
      | true =>
        rw [hq] at ha
        have HX := Lib.hid (show amountOf t = ((val t : Int), 0) from by
          rw [HD.out, if_pos ⟨by rw [← HN.out]; omega, hq, by
            rintro rfl
            exact h0 HN.out⟩])
        have HQ := Lib.hid (allD_of hq)
        have HH := Lib.hid (show n ≤ 18 by omega)
        clear hq h0 h18 HD
        go_wp2_with (go_at_call 29; refine ha.mono ?_; rintro e w1 ⟨rfl, rfl⟩)
        clear y0 y1
        go_loopg [4, 5] n (fun gk v i wr => ∃ k : Nat, k + gk = n ∧ i = .int .i64 (k : Int) ∧ v = .int .i64 (val (t.take k) : Int) ∧ wr = w1)
        case atStart => exact ⟨0, by omega, rfl, rfl, rfl⟩
        obtain ⟨k, hkl, rfl, rfl, rfl⟩ := hrel
        have HKL := Lib.hid hkl
        clear hkl
        go_upto_region 5 with fail
        refine wp_region_lit ?_
        refine wpList_run (v := .int .i64 (k : Int)) rfl (exec_move rfl rfl) ?_
        simp only [Act.put, List.setIfInBounds_toArray, List.set_cons_zero, List.set_cons_succ]
        refine wpList_run (v := strV t) rfl (exec_move rfl rfl) ?_
        simp only [Act.put, List.setIfInBounds_toArray, List.set_cons_zero, List.set_cons_succ]
        refine wpList_run (v := .int .i64 (n : Int)) (w' := wr) rfl (by rw [HN.out]; exact exec_slen rfl rfl) ?_
        simp only [Act.put, List.setIfInBounds_toArray, List.set_cons_zero, List.set_cons_succ]
        by_cases hlt : k < n
        · have y1 : (k : Int) < (n : Int) := by omega
          have y2 : (n : Int) ≤ 18 := by have := HH.out; omega
          have HLT := Lib.hid hlt
          clear hlt
          have hkt : k < t.length := by rw [← HN.out]; exact HLT.out
          have HKT := Lib.hid hkt
          have hb := HQ.out (t.getD k 0) (by rw [List.getD_eq_getElem?_getD, List.getElem?_eq_getElem hkt]; exact List.getElem_mem _)
          have hstep : val (t.take (k + 1)) = val (t.take k) * 10 + ((t.getD k 0).toNat - 48) := by
            rw [List.take_add_one, List.getElem?_eq_getElem hkt, List.getD_eq_getElem?_getD, List.getElem?_eq_getElem hkt]
            exact val_snoc _ _
          have hlim : val (t.take k) < 10 ^ 18 := Nat.lt_of_lt_of_le (val_lt (l := t.take k) (fun x hx => HQ.out x (List.mem_of_mem_take hx))) (pow_le (by rw [List.length_take]; have := HH.out; have := HLT.out; omega))
          have hlim2 : val (t.take (k + 1)) < 10 ^ 18 := Nat.lt_of_lt_of_le (val_lt (l := t.take (k + 1)) (fun x hx => HQ.out x (List.mem_of_mem_take hx))) (pow_le (by rw [List.length_take]; have := HH.out; have := HLT.out; omega))
          have hv := value_walk (t.getD k 0) (by rw [dec_byte]; exact decide_eq_true hb) wr
          obtain ⟨b, hbe⟩ : ∃ b, b = t.getD k 0 := ⟨_, rfl⟩
          rw [← hbe] at hv hstep hb
          have HBE := Lib.hid hbe
          generalize hva : val (t.take k) = va at *
          generalize hvb : val (t.take (k + 1)) = vb at *
          have HVB := Lib.hid hvb
          have HST := Lib.hid hstep
          generalize b.toNat - 48 = d at *
          clear hkt hbe hva hvb hb
          have y3 : (va : Int) < 1000000000000000000 := by omega
          have y4 : (0 : Int) ≤ (va : Int) := by omega
          have y5 : (vb : Int) < 1000000000000000000 := by omega
          have y6 : (10 : Int) * (va : Int) + (d : Int) = (vb : Int) := by omega
          have y7 : (0 : Int) ≤ (d : Int) := by omega
          clear hstep hlim hlim2
          go_upto_region 7 with fail
          refine wp_region_lit ?_
          refine wpList_run (v := .int .i64 (va : Int)) rfl (exec_move rfl rfl) ?_
          simp only [Act.put, List.setIfInBounds_toArray, List.set_cons_zero, List.set_cons_succ]
          refine wpList_run (v := .int .i64 (10 * (va : Int))) (w' := wr) rfl (by go_simp; exact wrap_big (by omega) (by omega)) ?_
          simp only [Act.put, List.setIfInBounds_toArray, List.set_cons_zero, List.set_cons_succ]
          refine wpList_run (v := strV t) rfl (exec_move rfl rfl) ?_
          simp only [Act.put, List.setIfInBounds_toArray, List.set_cons_zero, List.set_cons_succ]
          refine wpList_run (v := .int .i64 (k : Int)) rfl (exec_move rfl rfl) ?_
          simp only [Act.put, List.setIfInBounds_toArray, List.set_cons_zero, List.set_cons_succ]
          refine wpList_run (v := .int .u8 (b.toNat : Int)) (w' := wr) rfl (by rw [HBE.out]; exact exec_sidx rfl rfl rfl HKT.out) ?_
          simp only [Act.put, List.setIfInBounds_toArray, List.set_cons_zero, List.set_cons_succ]
          go_wp2_with (go_at_call 30; refine hv.mono ?_; rintro e w2 ⟨rfl, rfl⟩)
          go_roundg (gk - 1)
          case measure => have := HKL.out; have := HLT.out; omega
          case rel => exact ⟨k + 1, by have := HKL.out; have := HLT.out; omega, by go_num, by rw [HVB.out], rfl⟩
        · have hke : k = n := by have := HKL.out; omega
          have y1 : ¬ ((k : Int) < (n : Int)) := by omega
          have hvt : val (t.take k) = val t := by rw [List.take_of_length_le (by rw [← HN.out]; omega)]
          rw [hvt]
          generalize val t = vt at *
          clear hlt hke hvt
          go_wp2_with fail
          go_ret2
          rw [HX.out]
          exact ⟨rfl, rfl⟩
end Go.Proofs.YtaabiconfgcnfaaDoor
