/-
  groatlaw04's FieldNumbers, walked. Conditions: the rows, the table of powers and ErrSyntax read as the program's text lays them.
-/
import Derived.Test.YtaabiconfgcnfaaDoorFdDg
import Derived.Test.YtaabiconfgcnfaaDoorFdWr
namespace Go.Proofs.YtaabiconfgcnfaaDoor
open Go.RowKit
open Fdd
set_option linter.unusedVariables false
theorem exec_nself2 {W : World} {a : Act} {o : Oper} {x y : Operand} {l : List UInt8} {t u : TypeId} (ho : o.op = .binOp .neq t x y u) (hx : a.eval x = strV l) (hy : a.eval y = strV l) : (execOp a.eval o).run Tryd.prog W = .ok (.value (.bool false)) W := by
  have h := exec_sneq (W := W) ho hx hy
  rwa [beq_self_eq_true] at h
set_option maxRecDepth 40000 in
set_option maxHeartbeats 2000000 in
theorem fieldNumbers_walk (t : List UInt8) (n s : Int) (W : World) (hrows : RowsT W) (hpow : PowT W) (herr : ErrT W) (ha : -9223372036854775808 ≤ n ∧ n ≤ 9223372036854775807) (hl : t.length ≤ 9223372036854775807) :
    Calls Tryd.prog 5 #[strV t, .int .i64 n, .int .i64 s] W fun e w' => e = .returned (.bool true) ∧ Below W.heap.size W w' := by
  have HR := Lib.hid hrows
  have HP := Lib.hid hpow
  have HE := Lib.hid herr
  have HA := Lib.hid ha
  have HAM := Lib.hid (fun W' (hT : Turn nowhere W W') => amount_walk (t := t) W' (fun _ => herr.turn hT))
  have HRA := Lib.hid (fun W' => ramount_walk t W' hl)
  have HDG := Lib.hid (fun W' (hT : Turn nowhere W W') => digits_walk n s W' (fun W2 h2 => itoa_at ha.1 ha.2 ((hpow.turn hT).turn h2)))
  have HRD := Lib.hid (fun W' => rdigits_walk n s W' ha)
  have HWH := Lib.hid (fun W' => when_walk t W')
  have HRW := Lib.hid (fun W' => rwhen_walk t W' hl)
  have hok : (digitsOf n s).2 = 0 → DgOk n s (digitsOf n s).1 := digits_ok
  have HOK := Lib.hid hok
  clear hrows hpow herr ha hl hok
  generalize (amountOf t).1 = a1 at *
  generalize (amountOf t).2 = a2 at *
  generalize (digitsOf n s).1 = lx at *
  generalize (digitsOf n s).2 = ke at *
  generalize whenD t = wd at *
  go_enter Tryd.func5, Tryd.ntmps5
  go_upto_region 2 with (go_at_call 6; refine (shown_walk _ HR.out).mono ?_; rintro e w0 ⟨rfl, ht0⟩)
  have HT0 := Lib.hid ht0
  clear ht0
  go_upto_region 3 with (go_at_call 11; refine (HAM.out _ HT0.out).mono ?_; rintro e w1 ⟨rfl, ht1⟩)
  have HT1 := Lib.hid (HT0.out.trans ht1 (fun _ _ e => e))
  clear ht1
  go_upto_region 4 with (go_at_call 12; refine (HRA.out _).mono ?_; rintro e w2 ⟨rfl, ht2⟩; rw [ht2]; clear ht2)
  go_upto_region 5 with (go_at_call 13; refine (HDG.out _ HT1.out).mono ?_; rintro e w3 ⟨rfl, ht3⟩)
  have HT3 := Lib.hid (HT1.out.trans ht3 (fun _ _ e => e))
  clear ht3
  go_upto_region 6 with (go_at_call 14; refine (HRD.out _).mono ?_; rintro e w4 ⟨rfl, ht4⟩)
  have HT4 := Lib.hid (HT3.out.trans ht4 (fun _ _ e => e))
  clear ht4
  refine wp_region_lit ?_
  refine wpList_run (v := .bool true) rfl (exec_move rfl rfl) ?_
  simp only [Act.put, List.setIfInBounds_toArray, List.set_cons_zero, List.set_cons_succ]
  refine wpList_run (v := .bool false) (w' := w4) rfl (by go_simp) ?_
  simp only [Act.put, List.setIfInBounds_toArray, List.set_cons_zero, List.set_cons_succ]
  refine wpList_run (v := .bool false) rfl (exec_move rfl rfl) ?_
  simp only [Act.put, List.setIfInBounds_toArray, List.set_cons_zero, List.set_cons_succ]
  refine wpList_run (v := .int .i64 a1) rfl (exec_move rfl rfl) ?_
  simp only [Act.put, List.setIfInBounds_toArray, List.set_cons_zero, List.set_cons_succ]
  refine wpList_run (v := .int .i64 a1) rfl (exec_move rfl rfl) ?_
  simp only [Act.put, List.setIfInBounds_toArray, List.set_cons_zero, List.set_cons_succ]
  refine wpList_run (v := .bool false) (w' := w4) rfl (by go_simp) ?_
  simp only [Act.put, List.setIfInBounds_toArray, List.set_cons_zero, List.set_cons_succ]
  refine wpList_run (v := .bool false) (w' := w4) rfl (by go_simp) ?_
  simp only [Act.put, List.setIfInBounds_toArray, List.set_cons_zero, List.set_cons_succ]
  refine wpList_run (v := .bool false) rfl (exec_move rfl rfl) ?_
  simp only [Act.put, List.setIfInBounds_toArray, List.set_cons_zero, List.set_cons_succ]
  refine wpList_run (v := .int .i64 a2) rfl (exec_move rfl rfl) ?_
  simp only [Act.put, List.setIfInBounds_toArray, List.set_cons_zero, List.set_cons_succ]
  refine wpList_run (v := .int .i64 a2) rfl (exec_move rfl rfl) ?_
  simp only [Act.put, List.setIfInBounds_toArray, List.set_cons_zero, List.set_cons_succ]
  refine wpList_run (v := .bool false) (w' := w4) rfl (by go_simp) ?_
  simp only [Act.put, List.setIfInBounds_toArray, List.set_cons_zero, List.set_cons_succ]
  refine wpList_run (v := .bool false) (w' := w4) rfl (by go_simp) ?_
  simp only [Act.put, List.setIfInBounds_toArray, List.set_cons_zero, List.set_cons_succ]
  refine wpList_run (v := .bool false) rfl (exec_move rfl rfl) ?_
  simp only [Act.put, List.setIfInBounds_toArray, List.set_cons_zero, List.set_cons_succ]
  refine wpList_run (v := strV lx) rfl (exec_move rfl rfl) ?_
  simp only [Act.put, List.setIfInBounds_toArray, List.set_cons_zero, List.set_cons_succ]
  refine wpList_run (v := strV lx) rfl (exec_move rfl rfl) ?_
  simp only [Act.put, List.setIfInBounds_toArray, List.set_cons_zero, List.set_cons_succ]
  refine wpList_run (v := .bool false) (w' := w4) rfl (exec_nself2 rfl rfl rfl) ?_
  simp only [Act.put, List.setIfInBounds_toArray, List.set_cons_zero, List.set_cons_succ]
  refine wpList_run (v := .bool false) (w' := w4) rfl (by go_simp) ?_
  simp only [Act.put, List.setIfInBounds_toArray, List.set_cons_zero, List.set_cons_succ]
  refine wpList_run (v := .bool false) rfl (exec_move rfl rfl) ?_
  simp only [Act.put, List.setIfInBounds_toArray, List.set_cons_zero, List.set_cons_succ]
  refine wpList_run (v := .int .i64 ke) rfl (exec_move rfl rfl) ?_
  simp only [Act.put, List.setIfInBounds_toArray, List.set_cons_zero, List.set_cons_succ]
  refine wpList_run (v := .int .i64 ke) rfl (exec_move rfl rfl) ?_
  simp only [Act.put, List.setIfInBounds_toArray, List.set_cons_zero, List.set_cons_succ]
  refine wpList_run (v := .bool false) (w' := w4) rfl (by go_simp) ?_
  simp only [Act.put, List.setIfInBounds_toArray, List.set_cons_zero, List.set_cons_succ]
  refine wpList_run (v := .bool false) (w' := w4) rfl (by go_simp) ?_
  simp only [Act.put, List.setIfInBounds_toArray, List.set_cons_zero, List.set_cons_succ]
  refine wpList_run (v := .bool false) rfl (exec_move rfl rfl) ?_
  simp only [Act.put, List.setIfInBounds_toArray, List.set_cons_zero, List.set_cons_succ]
  refine wpList_run (v := strV t) rfl (exec_move rfl rfl) ?_
  simp only [Act.put, List.setIfInBounds_toArray, List.set_cons_zero, List.set_cons_succ]
  refine wpList_do rfl fun K1 hK1 => ?_
  have HK1 := Lib.hid hK1
  clear hK1
  go_wp2_with fail
  refine (HWH.out _).mono ?_
  rintro e w5 ⟨rfl, ht⟩
  have HT5 := Lib.hid (HT4.out.trans ht (fun _ _ e => e))
  clear ht
  refine HK1.out _ _ ?_
  clear HK1
  try simp only [Act.put, List.setIfInBounds_toArray, List.set_cons_zero, List.set_cons_succ]
  refine wpList_run (v := strV t) rfl (exec_move rfl rfl) ?_
  simp only [Act.put, List.setIfInBounds_toArray, List.set_cons_zero, List.set_cons_succ]
  refine wpList_do rfl fun K1 hK1 => ?_
  have HK1 := Lib.hid hK1
  clear hK1
  go_wp2_with fail
  refine (HRW.out _).mono ?_
  rintro e w6 ⟨rfl, ht⟩
  have HT6 := Lib.hid (HT5.out.trans ht (fun _ _ e => e))
  clear ht
  refine HK1.out _ _ ?_
  clear HK1
  try simp only [Act.put, List.setIfInBounds_toArray, List.set_cons_zero, List.set_cons_succ]
  refine wpList_run (v := .bool false) (w' := w6) rfl (by go_simp) ?_
  simp only [Act.put, List.setIfInBounds_toArray, List.set_cons_zero, List.set_cons_succ]
  refine wpList_run (v := .bool false) (w' := w6) rfl (by go_simp) ?_
  simp only [Act.put, List.setIfInBounds_toArray, List.set_cons_zero, List.set_cons_succ]
  by_cases hk : ke = 0
  · subst hk
    have HG := Lib.hid (HOK.out rfl)
    have ham : ∀ W', Calls Tryd.prog 11 #[strV lx] W' fun e w' => e = .returned (.tuple #[.int .i64 n, .int .i64 0]) ∧ Turn nowhere W' w' := by
      intro W'
      have h := amount_walk (t := lx) W' (by rintro rfl; have h1 := HG.out.len; have h2 := HG.out.s1; simp at h1; omega)
      rwa [amount_ok HG.out] at h
    have HAX := Lib.hid ham
    have HLN := Lib.hid (show (lx.length : Int) = s from by have h1 := HG.out.len; have h2 := HG.out.s1; omega)
    clear ham HG HOK
    go_upto_region 11 with (go_at_call 11; refine (HAX.out _).mono ?_; rintro e w7 ⟨rfl, ht7⟩)
    have HT7 := Lib.hid (HT6.out.trans ht7 (fun _ _ e => e))
    clear ht7
    refine wp_region_lit ?_
    refine wpList_run (v := .int .i64 0) rfl (exec_move rfl rfl) ?_
    simp only [Act.put, List.setIfInBounds_toArray, List.set_cons_zero, List.set_cons_succ]
    refine wpList_run (v := .bool true) (w' := w7) rfl (by go_simp) ?_
    simp only [Act.put, List.setIfInBounds_toArray, List.set_cons_zero, List.set_cons_succ]
    refine wpList_run (v := .bool true) rfl (exec_move rfl rfl) ?_
    simp only [Act.put, List.setIfInBounds_toArray, List.set_cons_zero, List.set_cons_succ]
    refine wpList_run (v := .int .i64 n) rfl (exec_move rfl rfl) ?_
    simp only [Act.put, List.setIfInBounds_toArray, List.set_cons_zero, List.set_cons_succ]
    refine wpList_run (v := .int .i64 n) rfl (exec_move rfl rfl) ?_
    simp only [Act.put, List.setIfInBounds_toArray, List.set_cons_zero, List.set_cons_succ]
    refine wpList_run (v := .bool true) (w' := w7) rfl (by go_simp) ?_
    simp only [Act.put, List.setIfInBounds_toArray, List.set_cons_zero, List.set_cons_succ]
    refine wpList_run (v := .bool true) (w' := w7) rfl (by go_simp) ?_
    simp only [Act.put, List.setIfInBounds_toArray, List.set_cons_zero, List.set_cons_succ]
    refine wpList_run (v := .bool true) rfl (exec_move rfl rfl) ?_
    simp only [Act.put, List.setIfInBounds_toArray, List.set_cons_zero, List.set_cons_succ]
    refine wpList_run (v := strV lx) rfl (exec_move rfl rfl) ?_
    simp only [Act.put, List.setIfInBounds_toArray, List.set_cons_zero, List.set_cons_succ]
    refine wpList_run (v := .int .i64 s) (w' := w7) rfl (by rw [← HLN.out]; exact exec_slen rfl rfl) ?_
    simp only [Act.put, List.setIfInBounds_toArray, List.set_cons_zero, List.set_cons_succ]
    refine wpList_run (v := .int .i64 s) rfl (exec_move rfl rfl) ?_
    simp only [Act.put, List.setIfInBounds_toArray, List.set_cons_zero, List.set_cons_succ]
    refine wpList_run (v := .bool true) (w' := w7) rfl (by go_simp) ?_
    simp only [Act.put, List.setIfInBounds_toArray, List.set_cons_zero, List.set_cons_succ]
    go_wp2_with fail
    go_ret
    exact ⟨by simp, HT7.out.below (Nat.le_refl _) (fun _ _ e => e)⟩
  · have y0 : (ke == 0) = false := by simpa using hk
    clear HOK
    go_wp2_with fail
    go_ret
    exact ⟨rfl, HT6.out.below (Nat.le_refl _) (fun _ _ e => e)⟩
end Go.Proofs.YtaabiconfgcnfaaDoor
