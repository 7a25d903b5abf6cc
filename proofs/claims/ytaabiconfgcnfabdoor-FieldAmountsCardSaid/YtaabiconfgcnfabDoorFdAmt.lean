/-
  groatlaw04's FieldAmounts, walked. Conditions: the rows and the library's table of powers read as the program's text lays them.
-/
import Derived.Test.YtaabiconfgcnfabDoorFdAm
import Derived.Lib.AppendIntMem
import Derived.Lib.SmallJoins
import Derived.Lib.LaidTab
namespace Go.Proofs.YtaabiconfgcnfabDoor
open Go.RowKit
open Fdd
set_option linter.unusedVariables false
def PowT (W : World) : Prop := Lib.TabIs Tryd.prog W "internal/strconv.uint64pow10" .u64 Lib.pow10Tab
theorem gPow : Tryd.prog.globalNamed "internal/strconv.uint64pow10" = some 3 := by kernel_rfl
theorem PowT.turn {W W' : World} (h : PowT W) (ht : Turn nowhere W W') : PowT W' := Go.Joins.tab_stays gPow h (ht.below (Nat.le_refl _) (fun _ _ e => e)) (Nat.le_refl _)
theorem itoa_at {n : Int} {W : World} (h0 : -9223372036854775808 ≤ n) (h1 : n ≤ 9223372036854775807) (h : PowT W) : ItoaAt n W := by
  refine (Any.strconv_Itoa Tryd.laysM171 n h0 h1 W h).mono ?_
  rintro e w' ⟨rfl, k, os, rfl⟩
  exact ⟨rfl, Turn.of_below (Lib.below_grow W.heap.size W (Nat.le_refl _) k os) (Nat.le_refl _)⟩
theorem exec_sless {W : World} {a : Act} {o : Oper} {x y : Operand} {l m : List UInt8} {t u : TypeId} (ho : o.op = .binOp .lss t x y u) (hx : a.eval x = strV l) (hy : a.eval y = strV m) : (execOp a.eval o).run Tryd.prog W = .ok (.value (.bool (Op.bytesLess l m))) W := by
  unfold execOp
  simp [ho, hx, hy, strV, eqGuard, binOp_string_lss]
theorem dg_walk {n size : Int} {W : World} (h0 : -9223372036854775808 ≤ n) (h1 : n ≤ 9223372036854775807) (h : PowT W) :
    Calls Tryd.prog 10 #[.int .i64 n, .int .i64 size] W fun e w' => (∃ x k, e = .returned (.tuple #[strV x, .int .i64 k]) ∧ (k = 0 → DgOk n size x) ∧ (k ≠ 0 → x = [])) ∧ Turn nowhere W w' := by
  refine (digits_walk n size W (fun W' ht => itoa_at h0 h1 (h.turn ht))).mono ?_
  rintro e w' ⟨rfl, ht⟩
  exact ⟨⟨_, _, rfl, digits_ok, digits_bad⟩, ht⟩
set_option maxRecDepth 40000 in
set_option maxHeartbeats 2000000 in
theorem fieldAmounts_walk (a b s : Int) (W : World) (hrows : RowsT W) (hpow : PowT W) (ha : -9223372036854775808 ≤ a ∧ a ≤ 9223372036854775807) (hb : -9223372036854775808 ≤ b ∧ b ≤ 9223372036854775807) :
    Calls Tryd.prog 6 #[.int .i64 a, .int .i64 b, .int .i64 s] W fun e w' => e = .returned (.bool true) ∧ Below W.heap.size W w' := by
  have HR := Lib.hid hrows
  have HP := Lib.hid hpow
  have HA := Lib.hid ha
  have HB := Lib.hid hb
  clear hrows hpow ha hb
  go_enter Tryd.func6, Tryd.ntmps6
  go_upto_region 2 with (go_at_call 7; refine (shown_walk _ HR.out).mono ?_; rintro e w0 ⟨rfl, ht0⟩)
  have HT0 := Lib.hid ht0
  clear ht0
  go_upto_region 3 with (go_at_call 10; refine (dg_walk HA.out.1 HA.out.2 (HP.out.turn HT0.out)).mono ?_; rintro e w1 ⟨⟨lx, ke, rfl, hx0, hx1⟩, ht1⟩)
  have HT1 := Lib.hid (HT0.out.trans ht1 (fun _ _ e => e))
  have HX0 := Lib.hid hx0
  have HX1 := Lib.hid hx1
  clear ht1 hx0 hx1
  go_upto_region 4 with (go_at_call 10; refine (dg_walk HB.out.1 HB.out.2 (HP.out.turn HT1.out)).mono ?_; rintro e w2 ⟨⟨ly, kf, rfl, hy0, hy1⟩, ht2⟩)
  have HT2 := Lib.hid (HT1.out.trans ht2 (fun _ _ e => e))
  have HY0 := Lib.hid hy0
  have HY1 := Lib.hid hy1
  clear ht2 hy0 hy1
  by_cases hke : ke = 0
  · subst hke
    have HGX := Lib.hid (HX0.out rfl)
    clear HX0 HX1
    by_cases hkf : kf = 0
    · subst hkf
      have HGY := Lib.hid (HY0.out rfl)
      clear HY0 HY1
      have HL := Lib.hid (dg_less HGX.out HGY.out)
      have HE := Lib.hid (dg_same HGX.out HGY.out)
      have ham : ∀ W', Calls Tryd.prog 11 #[strV lx] W' fun e w' => e = .returned (.tuple #[.int .i64 a, .int .i64 0]) ∧ Turn nowhere W' w' := by
        intro W'
        have h := amount_walk (t := lx) W' (by rintro rfl; have h1 := HGX.out.len; have h2 := HGX.out.s1; simp at h1; omega)
        rwa [amount_ok HGX.out] at h
      have hmo : s < 18 → ∀ W', Calls Tryd.prog 11 #[strV (48 :: lx)] W' fun e w' => e = .returned (.tuple #[.int .i64 a, .int .i64 0]) ∧ Turn nowhere W' w' := by
        intro hs W'
        have h := amount_walk (t := 48 :: lx) W' (by intro h; cases h)
        rwa [amount_more HGX.out hs] at h
      have HAM := Lib.hid ham
      have HMO := Lib.hid hmo
      have HLN := Lib.hid (show lx.length ≤ 18 from by have h1 := HGX.out.len; have h2 := HGX.out.s2; omega)
      clear ham hmo HGX HGY
      go_upto_region 6 with fail
      refine wp_region_lit ?_
      refine wpList_run (v := strV lx) rfl (exec_move rfl rfl) ?_
      simp only [Act.put, List.setIfInBounds_toArray, List.set_cons_zero, List.set_cons_succ]
      go_upto_region 8 with (go_at_call 11; refine (HAM.out _).mono ?_; rintro e w3 ⟨rfl, ht3⟩)
      have HT3 := Lib.hid (HT2.out.trans ht3 (fun _ _ e => e))
      clear ht3
      by_cases hs : s < 18
      · go_upto_region 9 with fail
        refine wp_region_lit ?_
        refine wpList_run (v := strV lx) rfl (exec_move rfl rfl) ?_
        simp only [Act.put, List.setIfInBounds_toArray, List.set_cons_zero, List.set_cons_succ]
        refine wpList_run (v := strV (48 :: lx)) (w' := w3) rfl (exec_saddB (l := [48]) (m := lx) rfl rfl rfl (by have := HLN.out; simp; omega)) ?_
        simp only [Act.put, List.setIfInBounds_toArray, List.set_cons_zero, List.set_cons_succ]
        go_upto_region 10 with (go_at_call 11; refine (HMO.out hs _).mono ?_; rintro e w4 ⟨rfl, ht4⟩)
        have HT4 := Lib.hid (HT3.out.trans ht4 (fun _ _ e => e))
        clear ht4 HT3 HT2 HT1 HT0 HAM HMO HR HP HA HB hs
        have hfin : a < b ∨ a = b ∨ b < a := by omega
        rcases hfin with h | h | h
        · have HLL := Lib.hid (show Op.bytesLess lx ly = true from by rw [HL.out]; simp; omega)
          have HEE := Lib.hid (show (lx == ly) = false from by rw [HE.out]; simp; omega)
          clear HL HE
          refine wp_region_lit ?_
          refine wpList_run (v := strV lx) rfl (exec_move rfl rfl) ?_
          simp only [Act.put, List.setIfInBounds_toArray, List.set_cons_zero, List.set_cons_succ]
          refine wpList_run (v := strV ly) rfl (exec_move rfl rfl) ?_
          simp only [Act.put, List.setIfInBounds_toArray, List.set_cons_zero, List.set_cons_succ]
          refine wpList_run (v := .bool true) (w' := w4) rfl (by rw [← HLL.out]; exact exec_sless rfl rfl rfl) ?_
          simp only [Act.put, List.setIfInBounds_toArray, List.set_cons_zero, List.set_cons_succ]
          refine wpList_run (v := .int .i64 a) rfl (exec_move rfl rfl) ?_
          simp only [Act.put, List.setIfInBounds_toArray, List.set_cons_zero, List.set_cons_succ]
          refine wpList_run (v := .int .i64 b) rfl (exec_move rfl rfl) ?_
          simp only [Act.put, List.setIfInBounds_toArray, List.set_cons_zero, List.set_cons_succ]
          refine wpList_run (v := .bool true) (w' := w4) rfl (by go_simp <;> omega) ?_
          simp only [Act.put, List.setIfInBounds_toArray, List.set_cons_zero, List.set_cons_succ]
          refine wpList_run (v := .bool true) (w' := w4) rfl (by go_simp) ?_
          simp only [Act.put, List.setIfInBounds_toArray, List.set_cons_zero, List.set_cons_succ]
          refine wpList_run (v := .bool true) rfl (exec_move rfl rfl) ?_
          simp only [Act.put, List.setIfInBounds_toArray, List.set_cons_zero, List.set_cons_succ]
          refine wpList_run (v := strV lx) rfl (exec_move rfl rfl) ?_
          simp only [Act.put, List.setIfInBounds_toArray, List.set_cons_zero, List.set_cons_succ]
          refine wpList_run (v := strV ly) rfl (exec_move rfl rfl) ?_
          simp only [Act.put, List.setIfInBounds_toArray, List.set_cons_zero, List.set_cons_succ]
          refine wpList_run (v := .bool false) (w' := w4) rfl (by rw [← HEE.out]; exact exec_seql rfl rfl rfl) ?_
          simp only [Act.put, List.setIfInBounds_toArray, List.set_cons_zero, List.set_cons_succ]
          refine wpList_run (v := .int .i64 a) rfl (exec_move rfl rfl) ?_
          simp only [Act.put, List.setIfInBounds_toArray, List.set_cons_zero, List.set_cons_succ]
          refine wpList_run (v := .int .i64 b) rfl (exec_move rfl rfl) ?_
          simp only [Act.put, List.setIfInBounds_toArray, List.set_cons_zero, List.set_cons_succ]
          refine wpList_run (v := .bool false) (w' := w4) rfl (by go_simp <;> omega) ?_
          simp only [Act.put, List.setIfInBounds_toArray, List.set_cons_zero, List.set_cons_succ]
          clear HLL HEE
          go_wp2_with fail
          go_ret
          exact ⟨by simp, HT4.out.below (Nat.le_refl _) (fun _ _ e => e)⟩
        · have HLL := Lib.hid (show Op.bytesLess lx ly = false from by rw [HL.out]; simp; omega)
          have HEE := Lib.hid (show (lx == ly) = true from by rw [HE.out]; simp; omega)
          clear HL HE
          refine wp_region_lit ?_
          refine wpList_run (v := strV lx) rfl (exec_move rfl rfl) ?_
          simp only [Act.put, List.setIfInBounds_toArray, List.set_cons_zero, List.set_cons_succ]
          refine wpList_run (v := strV ly) rfl (exec_move rfl rfl) ?_
          simp only [Act.put, List.setIfInBounds_toArray, List.set_cons_zero, List.set_cons_succ]
          refine wpList_run (v := .bool false) (w' := w4) rfl (by rw [← HLL.out]; exact exec_sless rfl rfl rfl) ?_
          simp only [Act.put, List.setIfInBounds_toArray, List.set_cons_zero, List.set_cons_succ]
          refine wpList_run (v := .int .i64 a) rfl (exec_move rfl rfl) ?_
          simp only [Act.put, List.setIfInBounds_toArray, List.set_cons_zero, List.set_cons_succ]
          refine wpList_run (v := .int .i64 b) rfl (exec_move rfl rfl) ?_
          simp only [Act.put, List.setIfInBounds_toArray, List.set_cons_zero, List.set_cons_succ]
          refine wpList_run (v := .bool false) (w' := w4) rfl (by go_simp <;> omega) ?_
          simp only [Act.put, List.setIfInBounds_toArray, List.set_cons_zero, List.set_cons_succ]
          refine wpList_run (v := .bool true) (w' := w4) rfl (by go_simp) ?_
          simp only [Act.put, List.setIfInBounds_toArray, List.set_cons_zero, List.set_cons_succ]
          refine wpList_run (v := .bool true) rfl (exec_move rfl rfl) ?_
          simp only [Act.put, List.setIfInBounds_toArray, List.set_cons_zero, List.set_cons_succ]
          refine wpList_run (v := strV lx) rfl (exec_move rfl rfl) ?_
          simp only [Act.put, List.setIfInBounds_toArray, List.set_cons_zero, List.set_cons_succ]
          refine wpList_run (v := strV ly) rfl (exec_move rfl rfl) ?_
          simp only [Act.put, List.setIfInBounds_toArray, List.set_cons_zero, List.set_cons_succ]
          refine wpList_run (v := .bool true) (w' := w4) rfl (by rw [← HEE.out]; exact exec_seql rfl rfl rfl) ?_
          simp only [Act.put, List.setIfInBounds_toArray, List.set_cons_zero, List.set_cons_succ]
          refine wpList_run (v := .int .i64 a) rfl (exec_move rfl rfl) ?_
          simp only [Act.put, List.setIfInBounds_toArray, List.set_cons_zero, List.set_cons_succ]
          refine wpList_run (v := .int .i64 b) rfl (exec_move rfl rfl) ?_
          simp only [Act.put, List.setIfInBounds_toArray, List.set_cons_zero, List.set_cons_succ]
          refine wpList_run (v := .bool true) (w' := w4) rfl (by go_simp <;> omega) ?_
          simp only [Act.put, List.setIfInBounds_toArray, List.set_cons_zero, List.set_cons_succ]
          clear HLL HEE
          go_wp2_with fail
          go_ret
          exact ⟨by simp, HT4.out.below (Nat.le_refl _) (fun _ _ e => e)⟩
        · have HLL := Lib.hid (show Op.bytesLess lx ly = false from by rw [HL.out]; simp; omega)
          have HEE := Lib.hid (show (lx == ly) = false from by rw [HE.out]; simp; omega)
          clear HL HE
          refine wp_region_lit ?_
          refine wpList_run (v := strV lx) rfl (exec_move rfl rfl) ?_
          simp only [Act.put, List.setIfInBounds_toArray, List.set_cons_zero, List.set_cons_succ]
          refine wpList_run (v := strV ly) rfl (exec_move rfl rfl) ?_
          simp only [Act.put, List.setIfInBounds_toArray, List.set_cons_zero, List.set_cons_succ]
          refine wpList_run (v := .bool false) (w' := w4) rfl (by rw [← HLL.out]; exact exec_sless rfl rfl rfl) ?_
          simp only [Act.put, List.setIfInBounds_toArray, List.set_cons_zero, List.set_cons_succ]
          refine wpList_run (v := .int .i64 a) rfl (exec_move rfl rfl) ?_
          simp only [Act.put, List.setIfInBounds_toArray, List.set_cons_zero, List.set_cons_succ]
          refine wpList_run (v := .int .i64 b) rfl (exec_move rfl rfl) ?_
          simp only [Act.put, List.setIfInBounds_toArray, List.set_cons_zero, List.set_cons_succ]
          refine wpList_run (v := .bool false) (w' := w4) rfl (by go_simp <;> omega) ?_
          simp only [Act.put, List.setIfInBounds_toArray, List.set_cons_zero, List.set_cons_succ]
          refine wpList_run (v := .bool true) (w' := w4) rfl (by go_simp) ?_
          simp only [Act.put, List.setIfInBounds_toArray, List.set_cons_zero, List.set_cons_succ]
          refine wpList_run (v := .bool true) rfl (exec_move rfl rfl) ?_
          simp only [Act.put, List.setIfInBounds_toArray, List.set_cons_zero, List.set_cons_succ]
          refine wpList_run (v := strV lx) rfl (exec_move rfl rfl) ?_
          simp only [Act.put, List.setIfInBounds_toArray, List.set_cons_zero, List.set_cons_succ]
          refine wpList_run (v := strV ly) rfl (exec_move rfl rfl) ?_
          simp only [Act.put, List.setIfInBounds_toArray, List.set_cons_zero, List.set_cons_succ]
          refine wpList_run (v := .bool false) (w' := w4) rfl (by rw [← HEE.out]; exact exec_seql rfl rfl rfl) ?_
          simp only [Act.put, List.setIfInBounds_toArray, List.set_cons_zero, List.set_cons_succ]
          refine wpList_run (v := .int .i64 a) rfl (exec_move rfl rfl) ?_
          simp only [Act.put, List.setIfInBounds_toArray, List.set_cons_zero, List.set_cons_succ]
          refine wpList_run (v := .int .i64 b) rfl (exec_move rfl rfl) ?_
          simp only [Act.put, List.setIfInBounds_toArray, List.set_cons_zero, List.set_cons_succ]
          refine wpList_run (v := .bool false) (w' := w4) rfl (by go_simp <;> omega) ?_
          simp only [Act.put, List.setIfInBounds_toArray, List.set_cons_zero, List.set_cons_succ]
          clear HLL HEE
          go_wp2_with fail
          go_ret
          exact ⟨by simp, HT4.out.below (Nat.le_refl _) (fun _ _ e => e)⟩
      · go_upto_region 10 with fail
        clear HT2 HT1 HT0 HAM HMO HR HP HA HB hs
        have hfin : a < b ∨ a = b ∨ b < a := by omega
        rcases hfin with h | h | h
        · have HLL := Lib.hid (show Op.bytesLess lx ly = true from by rw [HL.out]; simp; omega)
          have HEE := Lib.hid (show (lx == ly) = false from by rw [HE.out]; simp; omega)
          clear HL HE
          refine wp_region_lit ?_
          refine wpList_run (v := strV lx) rfl (exec_move rfl rfl) ?_
          simp only [Act.put, List.setIfInBounds_toArray, List.set_cons_zero, List.set_cons_succ]
          refine wpList_run (v := strV ly) rfl (exec_move rfl rfl) ?_
          simp only [Act.put, List.setIfInBounds_toArray, List.set_cons_zero, List.set_cons_succ]
          refine wpList_run (v := .bool true) (w' := w3) rfl (by rw [← HLL.out]; exact exec_sless rfl rfl rfl) ?_
          simp only [Act.put, List.setIfInBounds_toArray, List.set_cons_zero, List.set_cons_succ]
          refine wpList_run (v := .int .i64 a) rfl (exec_move rfl rfl) ?_
          simp only [Act.put, List.setIfInBounds_toArray, List.set_cons_zero, List.set_cons_succ]
          refine wpList_run (v := .int .i64 b) rfl (exec_move rfl rfl) ?_
          simp only [Act.put, List.setIfInBounds_toArray, List.set_cons_zero, List.set_cons_succ]
          refine wpList_run (v := .bool true) (w' := w3) rfl (by go_simp <;> omega) ?_
          simp only [Act.put, List.setIfInBounds_toArray, List.set_cons_zero, List.set_cons_succ]
          refine wpList_run (v := .bool true) (w' := w3) rfl (by go_simp) ?_
          simp only [Act.put, List.setIfInBounds_toArray, List.set_cons_zero, List.set_cons_succ]
          refine wpList_run (v := .bool true) rfl (exec_move rfl rfl) ?_
          simp only [Act.put, List.setIfInBounds_toArray, List.set_cons_zero, List.set_cons_succ]
          refine wpList_run (v := strV lx) rfl (exec_move rfl rfl) ?_
          simp only [Act.put, List.setIfInBounds_toArray, List.set_cons_zero, List.set_cons_succ]
          refine wpList_run (v := strV ly) rfl (exec_move rfl rfl) ?_
          simp only [Act.put, List.setIfInBounds_toArray, List.set_cons_zero, List.set_cons_succ]
          refine wpList_run (v := .bool false) (w' := w3) rfl (by rw [← HEE.out]; exact exec_seql rfl rfl rfl) ?_
          simp only [Act.put, List.setIfInBounds_toArray, List.set_cons_zero, List.set_cons_succ]
          refine wpList_run (v := .int .i64 a) rfl (exec_move rfl rfl) ?_
          simp only [Act.put, List.setIfInBounds_toArray, List.set_cons_zero, List.set_cons_succ]
          refine wpList_run (v := .int .i64 b) rfl (exec_move rfl rfl) ?_
          simp only [Act.put, List.setIfInBounds_toArray, List.set_cons_zero, List.set_cons_succ]
          refine wpList_run (v := .bool false) (w' := w3) rfl (by go_simp <;> omega) ?_
          simp only [Act.put, List.setIfInBounds_toArray, List.set_cons_zero, List.set_cons_succ]
          clear HLL HEE
          go_wp2_with fail
          go_ret
          exact ⟨by simp, HT3.out.below (Nat.le_refl _) (fun _ _ e => e)⟩
        · have HLL := Lib.hid (show Op.bytesLess lx ly = false from by rw [HL.out]; simp; omega)
          have HEE := Lib.hid (show (lx == ly) = true from by rw [HE.out]; simp; omega)
          clear HL HE
          refine wp_region_lit ?_
          refine wpList_run (v := strV lx) rfl (exec_move rfl rfl) ?_
          simp only [Act.put, List.setIfInBounds_toArray, List.set_cons_zero, List.set_cons_succ]
          refine wpList_run (v := strV ly) rfl (exec_move rfl rfl) ?_
          simp only [Act.put, List.setIfInBounds_toArray, List.set_cons_zero, List.set_cons_succ]
          refine wpList_run (v := .bool false) (w' := w3) rfl (by rw [← HLL.out]; exact exec_sless rfl rfl rfl) ?_
          simp only [Act.put, List.setIfInBounds_toArray, List.set_cons_zero, List.set_cons_succ]
          refine wpList_run (v := .int .i64 a) rfl (exec_move rfl rfl) ?_
          simp only [Act.put, List.setIfInBounds_toArray, List.set_cons_zero, List.set_cons_succ]
          refine wpList_run (v := .int .i64 b) rfl (exec_move rfl rfl) ?_
          simp only [Act.put, List.setIfInBounds_toArray, List.set_cons_zero, List.set_cons_succ]
          refine wpList_run (v := .bool false) (w' := w3) rfl (by go_simp <;> omega) ?_
          simp only [Act.put, List.setIfInBounds_toArray, List.set_cons_zero, List.set_cons_succ]
          refine wpList_run (v := .bool true) (w' := w3) rfl (by go_simp) ?_
          simp only [Act.put, List.setIfInBounds_toArray, List.set_cons_zero, List.set_cons_succ]
          refine wpList_run (v := .bool true) rfl (exec_move rfl rfl) ?_
          simp only [Act.put, List.setIfInBounds_toArray, List.set_cons_zero, List.set_cons_succ]
          refine wpList_run (v := strV lx) rfl (exec_move rfl rfl) ?_
          simp only [Act.put, List.setIfInBounds_toArray, List.set_cons_zero, List.set_cons_succ]
          refine wpList_run (v := strV ly) rfl (exec_move rfl rfl) ?_
          simp only [Act.put, List.setIfInBounds_toArray, List.set_cons_zero, List.set_cons_succ]
          refine wpList_run (v := .bool true) (w' := w3) rfl (by rw [← HEE.out]; exact exec_seql rfl rfl rfl) ?_
          simp only [Act.put, List.setIfInBounds_toArray, List.set_cons_zero, List.set_cons_succ]
          refine wpList_run (v := .int .i64 a) rfl (exec_move rfl rfl) ?_
          simp only [Act.put, List.setIfInBounds_toArray, List.set_cons_zero, List.set_cons_succ]
          refine wpList_run (v := .int .i64 b) rfl (exec_move rfl rfl) ?_
          simp only [Act.put, List.setIfInBounds_toArray, List.set_cons_zero, List.set_cons_succ]
          refine wpList_run (v := .bool true) (w' := w3) rfl (by go_simp <;> omega) ?_
          simp only [Act.put, List.setIfInBounds_toArray, List.set_cons_zero, List.set_cons_succ]
          clear HLL HEE
          go_wp2_with fail
          go_ret
          exact ⟨by simp, HT3.out.below (Nat.le_refl _) (fun _ _ e => e)⟩
        · have HLL := Lib.hid (show Op.bytesLess lx ly = false from by rw [HL.out]; simp; omega)
          have HEE := Lib.hid (show (lx == ly) = false from by rw [HE.out]; simp; omega)
          clear HL HE
          refine wp_region_lit ?_
          refine wpList_run (v := strV lx) rfl (exec_move rfl rfl) ?_
          simp only [Act.put, List.setIfInBounds_toArray, List.set_cons_zero, List.set_cons_succ]
          refine wpList_run (v := strV ly) rfl (exec_move rfl rfl) ?_
          simp only [Act.put, List.setIfInBounds_toArray, List.set_cons_zero, List.set_cons_succ]
          refine wpList_run (v := .bool false) (w' := w3) rfl (by rw [← HLL.out]; exact exec_sless rfl rfl rfl) ?_
          simp only [Act.put, List.setIfInBounds_toArray, List.set_cons_zero, List.set_cons_succ]
          refine wpList_run (v := .int .i64 a) rfl (exec_move rfl rfl) ?_
          simp only [Act.put, List.setIfInBounds_toArray, List.set_cons_zero, List.set_cons_succ]
          refine wpList_run (v := .int .i64 b) rfl (exec_move rfl rfl) ?_
          simp only [Act.put, List.setIfInBounds_toArray, List.set_cons_zero, List.set_cons_succ]
          refine wpList_run (v := .bool false) (w' := w3) rfl (by go_simp <;> omega) ?_
          simp only [Act.put, List.setIfInBounds_toArray, List.set_cons_zero, List.set_cons_succ]
          refine wpList_run (v := .bool true) (w' := w3) rfl (by go_simp) ?_
          simp only [Act.put, List.setIfInBounds_toArray, List.set_cons_zero, List.set_cons_succ]
          refine wpList_run (v := .bool true) rfl (exec_move rfl rfl) ?_
          simp only [Act.put, List.setIfInBounds_toArray, List.set_cons_zero, List.set_cons_succ]
          refine wpList_run (v := strV lx) rfl (exec_move rfl rfl) ?_
          simp only [Act.put, List.setIfInBounds_toArray, List.set_cons_zero, List.set_cons_succ]
          refine wpList_run (v := strV ly) rfl (exec_move rfl rfl) ?_
          simp only [Act.put, List.setIfInBounds_toArray, List.set_cons_zero, List.set_cons_succ]
          refine wpList_run (v := .bool false) (w' := w3) rfl (by rw [← HEE.out]; exact exec_seql rfl rfl rfl) ?_
          simp only [Act.put, List.setIfInBounds_toArray, List.set_cons_zero, List.set_cons_succ]
          refine wpList_run (v := .int .i64 a) rfl (exec_move rfl rfl) ?_
          simp only [Act.put, List.setIfInBounds_toArray, List.set_cons_zero, List.set_cons_succ]
          refine wpList_run (v := .int .i64 b) rfl (exec_move rfl rfl) ?_
          simp only [Act.put, List.setIfInBounds_toArray, List.set_cons_zero, List.set_cons_succ]
          refine wpList_run (v := .bool false) (w' := w3) rfl (by go_simp <;> omega) ?_
          simp only [Act.put, List.setIfInBounds_toArray, List.set_cons_zero, List.set_cons_succ]
          clear HLL HEE
          go_wp2_with fail
          go_ret
          exact ⟨by simp, HT3.out.below (Nat.le_refl _) (fun _ _ e => e)⟩
    · have y1 : (kf == 0) = false := by simpa using hkf
      obtain rfl := HY1.out hkf
      clear HY0 HY1
      unfold strV
      go_wp2_with fail
      go_ret
      exact ⟨rfl, HT2.out.below (Nat.le_refl _) (fun _ _ e => e)⟩
  · have y0 : (ke == 0) = false := by simpa using hke
    obtain rfl := HX1.out hke
    clear HX0 HX1
    by_cases hkf : kf = 0
    · subst hkf
      clear HY0 HY1
      unfold strV
      go_wp2_with fail
      go_ret
      exact ⟨rfl, HT2.out.below (Nat.le_refl _) (fun _ _ e => e)⟩
    · have y1 : (kf == 0) = false := by simpa using hkf
      obtain rfl := HY1.out hkf
      clear HY0 HY1
      unfold strV
      go_wp2_with fail
      go_ret
      exact ⟨rfl, HT2.out.below (Nat.le_refl _) (fun _ _ e => e)⟩
end Go.Proofs.YtaabiconfgcnfabDoor
