/-
  groatlaw06's LinkAnew, walked. Condition: each piece, and their number, is at most 2^20.
-/
import Derived.Test.YtagoijgmoaffdaaLkJ
import Derived.Test.YtagoijgmoaffdaaLsOf
namespace Go.Proofs.Ytagoijgmoaffdaa
open Go.RowKit
open Lkk
set_option linter.unusedVariables false
set_option linter.unusedSimpArgs false
theorem build_1 (x : Int) (W : World) : (Instr.buildSlice 22 1 #[(0, .int .u8 x)]).run Try.prog W = .ok (.slice (some ⟨W.heap.size, 0, none⟩) 1 1) (W.alloc (.cells #[.int .u8 x] 5)) := by kernel_rfl
theorem ec_neq {a b : Bool} : decide (ec a ≠ ec b) = (a != b) := by cases a <;> cases b <;> rfl

set_option maxRecDepth 20000 in
set_option maxHeartbeats 4000000 in
theorem linkAnew_walk (A : Option Addr) (n c : Nat) (a : List UInt8) (A1 : Option Addr) (n1 c1 : Nat) (ls : List (List UInt8)) (W : World) (ha : Bs W A n a) (hc : A = none → c = 0) (hls : Ls W A1 n1 ls) (hm : n ≤ 1048576) :
    Calls Try.prog 6 #[.slice A n c, .slice A1 n1 c1] W fun e w' => e = .returned (.bool true) ∧ Below W.heap.size W w' := by
  have HA := Lib.hid ha
  have HC := Lib.hid hc
  have HLS := Lib.hid hls
  have HM := Lib.hid hm
  have hn1 : n1 ≤ 1048576 := hls.2.1
  have HN1 := Lib.hid hn1
  clear ha hc hls hm hn1
  go_enter Try.func6, Try.ntmps6
  go_upto_region 2 with (go_at_call 9; refine (shown_walk _).mono ?_; rintro e w1 ⟨rfl, ht1⟩)
  have HT1 := Lib.hid ht1
  clear ht1
  go_upto_region 3 with (go_at_call 12; refine (newL_walk _).mono ?_; rintro e w2 ⟨p, rfl, hL2, ht2, hp⟩)
  have HX := Lib.hid (lkn_new (B := W.heap.size) hL2 (Nat.le_trans HT1.out.size hp))
  have HT2 := Lib.hid (HT1.out.trans ht2 (fun _ _ e => e))
  clear hL2 ht2 hp HT1
  go_upto_region 4 with (go_at_call 12; refine (newL_walk _).mono ?_; rintro e w3 ⟨q, rfl, hL3, ht3, hq⟩)
  have HY := Lib.hid (lkn_new (B := W.heap.size) hL3 (Nat.le_trans HT2.out.size hq))
  have HAP := Lib.hid (new_apart HX.out.lk hq).symm
  have HX := Lib.hid (HX.out.still ht3)
  have HT3 := Lib.hid (HT2.out.trans ht3 (fun _ _ e => e))
  clear hL3 ht3 hq HT2
  have hw1 := feed_walk (c := c) HX.out.lk (HA.out.still HT3.out) HC.out (by have := HM.out; simp; omega)
  rw [List.nil_append] at hw1
  have HW1 := Lib.hid hw1
  clear hw1
  go_upto_region 7 with (go_at_call 14; refine HW1.out.mono ?_; rintro e w4 ⟨fv4, v4, rfl, hL4, hf4, ht4, hs4⟩)
  have HX4 := Lib.hid (fed_new HX.out hL4 HT3.out.size hs4)
  have HAP4 := Lib.hid (fed_other HY.out.lk HAP.out hs4)
  have HY4 := Lib.hid (HY.out.turn ht4 HAP.out)
  have HT4 := Lib.hid (turn_new HT3.out ht4 HX.out.new)
  clear hf4 hL4 ht4 hs4 HW1 HX HY HAP HT3
  have hwt := rest_waits a
  have hbd := rest_bad a
  have e0 : ec true = 0 := rfl
  have e1 : ec false = 60 := rfl
  have HE0 := Lib.hid e0
  have HE1 := Lib.hid e1
  clear e0 e1
  generalize feed a = r1 at *
  obtain ⟨f1, s1, k1⟩ := r1
  cases k1 with
  | false =>
    have hs1 : s1 = [] := hbd rfl
    subst hs1
    simp only [HE1.out]
    clear hwt hbd
    go_upto_region 14 with (go_at_call 17; refine (held_walk HX4.out.lk).mono ?_; rintro e w20 ⟨rfl, rfl⟩)
    go_wp2_with fail
    go_loopg [11, 12, 13, 14, 15, 16] 20 (fun gk iv x12 x13 x14 x15 x16 wr => ∃ (k : Nat) (vx vy : Value) (h : List UInt8), k + gk = 20 ∧ iv = .int .i64 (k : Int) ∧ LkN W.heap.size wr p vx h ∧ LkN W.heap.size wr q vy h ∧ apart (foot q vy) (foot p vx) ∧ h.length < 514 ∧ Turn nowhere W wr)
    case atStart => exact ⟨0, _, _, [], by omega, rfl, HX4.out, HY4.out, HAP4.out, by decide, HT4.out⟩
    obtain ⟨k, vx, vy, h, hkl, rfl, hx, hy, hap, hh, htr⟩ := hrel
    have HKL := Lib.hid hkl
    have HX := Lib.hid hx
    have HY := Lib.hid hy
    have HAP := Lib.hid hap
    have HH := Lib.hid hh
    have HTR := Lib.hid htr
    clear hkl hx hy hap hh htr
    by_cases hk1 : k < n1
    · by_cases hk2 : k < 20
      · have y1 : (k : Int) < (n1 : Int) := by omega
        have y2 : (k : Int) < 20 := by omega
        obtain ⟨lb, lo, la, lm, lc, lv, rfl, hlv, hcell, hlb, hlc, hlm⟩ := (HLS.out.still HTR.out).at_ hk1
        have HK1 := Lib.hid hk1
        have HK2 := Lib.hid hk2
        have HLV := Lib.hid hlb
        have HLC := Lib.hid hlc
        have HLM := Lib.hid hlm
        have HLL := Lib.hid hlv
        have hw1 := feed_walk (c := lc) HX.out.lk hlb hlc (by have := HH.out; omega)
        have HW1 := Lib.hid hw1
        clear hk1 hk2 hlb hlc hlm hlv hw1
        go_upto_region 17 with fail
        refine wp_region_lit ?_
        refine wpList_run (v := .pointer (some ⟨p, 0, none⟩)) rfl (exec_move rfl rfl) ?_
        simp only [Act.put, List.setIfInBounds_toArray, List.set_cons_zero, List.set_cons_succ]
        refine wpList_run (v := .slice (some ⟨lb, lo, none⟩) n1 c1) rfl (exec_move rfl rfl) ?_
        simp only [Act.put, List.setIfInBounds_toArray, List.set_cons_zero, List.set_cons_succ]
        refine wpList_run (v := .int .i64 (k : Int)) rfl (exec_move rfl rfl) ?_
        simp only [Act.put, List.setIfInBounds_toArray, List.set_cons_zero, List.set_cons_succ]
        refine wpList_run (v := .pointer (some ⟨lb, lo + k, none⟩)) rfl (gx_iaddr (i := k) (sz := 1) rfl rfl rfl Try.underlying28 (by kernel_rfl) HK1.out (by omega)) ?_
        simp only [Act.put, List.setIfInBounds_toArray, List.set_cons_zero, List.set_cons_succ]
        refine wpList_run (v := .slice la lm lc) rfl (lx_sl rfl rfl hcell) ?_
        simp only [Act.put, List.setIfInBounds_toArray, List.set_cons_zero, List.set_cons_succ]

        clear hcell
        go_wp2_with fail
        refine HW1.out.mono ?_
        rintro e w21 ⟨fv1, v1, rfl, hL1, hf1, ht1, hs1⟩
        simp only [Act.put, List.setIfInBounds_toArray, List.set_cons_zero, List.set_cons_succ]
        rename_i K5 hK5
        refine hK5 _ _ ?_
        clear hK5 K5

        obtain ⟨fA1, fc1, rfl⟩ := hf1.form
        have HX1 := Lib.hid (fed_new HX.out hL1 HTR.out.size hs1)
        have HAP1 := Lib.hid (fed_other HY.out.lk HAP.out hs1)
        have HY1 := Lib.hid (HY.out.turn ht1 HAP.out)
        have HT1 := Lib.hid (turn_new HTR.out ht1 HX.out.new)
        have HG1 := Lib.hid (show ∀ k, (wr.heap.size ≤ k ∨ vx.ownBlock = some k) ∧ ¬ foot p v1 k → ¬ foot q vy k from fun k hk e => by
          rcases hk.1 with h | h
          · have := HY.out.lk.lt k e
            omega
          · exact HAP.out k e (.inr h))
        have HF1 := Lib.hid hf1
        clear hf1 hL1 ht1 hs1 HW1 HX HAP
        have hcell := ((HLS.out.still HT1.out).at_ HK1.out)
        obtain ⟨lb', lo', la', lm', lc', lv', elb, hlv', hcell, hlb', hlc', hlm'⟩ := hcell
        obtain ⟨rfl, rfl⟩ : lb = lb' ∧ lo = lo' := by injection elb with e; injection e with e1 e2; exact ⟨e1, e2⟩
        obtain rfl : lv = lv' := Option.some.inj (HLL.out.symm.trans hlv')
        have hw1 := feed_walk (c := lc') HY1.out.lk hlb' hlc' (by have := HH.out; omega)
        have HW1 := Lib.hid hw1
        clear hw1 hlb' hlc' hlm' hlv' elb HY
        go_upto_region 18 with fail
        refine wp_region_lit ?_
        refine wpList_run (v := .pointer (some ⟨q, 0, none⟩)) rfl (exec_move rfl rfl) ?_
        simp only [Act.put, List.setIfInBounds_toArray, List.set_cons_zero, List.set_cons_succ]
        refine wpList_run (v := .slice (some ⟨lb, lo, none⟩) n1 c1) rfl (exec_move rfl rfl) ?_
        simp only [Act.put, List.setIfInBounds_toArray, List.set_cons_zero, List.set_cons_succ]
        refine wpList_run (v := .int .i64 (k : Int)) rfl (exec_move rfl rfl) ?_
        simp only [Act.put, List.setIfInBounds_toArray, List.set_cons_zero, List.set_cons_succ]
        refine wpList_run (v := .pointer (some ⟨lb, lo + k, none⟩)) rfl (gx_iaddr (i := k) (sz := 1) rfl rfl rfl Try.underlying28 (by kernel_rfl) HK1.out (by omega)) ?_
        simp only [Act.put, List.setIfInBounds_toArray, List.set_cons_zero, List.set_cons_succ]
        refine wpList_run (v := .slice la' lm' lc') rfl (lx_sl rfl rfl hcell) ?_
        simp only [Act.put, List.setIfInBounds_toArray, List.set_cons_zero, List.set_cons_succ]

        clear hcell
        go_wp2_with fail
        refine HW1.out.mono ?_
        rintro e w22 ⟨fv2, v2, rfl, hL2, hf2, ht2, hs2⟩
        simp only [Act.put, List.setIfInBounds_toArray, List.set_cons_zero, List.set_cons_succ]
        rename_i K6 hK6
        refine hK6 _ _ ?_
        clear hK6 K6

        obtain ⟨fA2, fc2, rfl⟩ := hf2.form
        have HY2 := Lib.hid (fed_new HY1.out hL2 HT1.out.size hs2)
        have HX2 := Lib.hid (HX1.out.turn ht2 HAP1.out.symm)
        have HAP2 := Lib.hid (fed_other HX1.out.lk HAP1.out.symm hs2).symm
        have HT2 := Lib.hid (turn_new HT1.out ht2 HY1.out.new)
        have HF2 := Lib.hid hf2.frr
        have HF1 := Lib.hid (HF1.out.turn ht2 HG1.out).frr
        have hcnt := fs_count (h ++ lv)
        have hll : (h ++ lv).length ≤ 1049090 := by rw [List.length_append]; have := HLV.out.1; have := HLM.out; have := HH.out; omega
        have hsame := same_walk HF1.out HF2.out (by omega)
        rw [decide_eq_true rfl] at hsame
        have HS := Lib.hid hsame
        have HRL := Lib.hid (rest_len (h ++ lv))
        clear hf2 hL2 ht2 hs2 HW1 HX1 HY1 HAP1 HT1 HF1 HF2 HG1 hsame hcnt hll
        generalize hec : ec (feed (h ++ lv)).ok = e1 at *
        generalize (feed (h ++ lv)).fs.length = m1 at *
        generalize (feed (h ++ lv)).rest = r1 at *
        clear hec
        go_upto_region 20 with (go_at_call 16; refine HS.out.mono ?_; rintro e w23 ⟨rfl, ht23⟩)
        have HX3 := Lib.hid (HX2.out.still ht23)
        have HY3 := Lib.hid (HY2.out.still ht23)
        have HT3 := Lib.hid (HT2.out.trans ht23 (fun _ _ e => e))
        clear ht23 HS HX2 HY2 HT2
        go_wp2_with (go_at_call 17; first | (refine (held_walk HX3.out.lk).mono ?_; rintro e w24 ⟨rfl, rfl⟩) | (refine (held_walk HY3.out.lk).mono ?_; rintro e w24 ⟨rfl, rfl⟩))
        go_roundg (gk - 1)
        case measure => have := HKL.out; have := HK2.out; omega
        case rel => exact ⟨k + 1, v1, v2, r1, by have := HKL.out; have := HK2.out; omega, by go_num, HX3.out, HY3.out, HAP2.out, HRL.out, HT3.out⟩
      · have y1 : (k : Int) < (n1 : Int) := by omega
        have y2 : ¬ ((k : Int) < 20) := by omega
        clear hk1 hk2
        go_wp2_with fail
        go_ret
        exact ⟨rfl, HTR.out.below (Nat.le_refl _) (fun k hk e => e)⟩
    · have y1 : ¬ ((k : Int) < (n1 : Int)) := by omega
      clear hk1
      go_wp2_with fail
      go_ret
      exact ⟨rfl, HTR.out.below (Nat.le_refl _) (fun k hk e => e)⟩

  | true =>
    have HWT := Lib.hid (show Waits s1 from hwt rfl)
    simp only [HE0.out]
    clear hwt hbd
    go_upto_region 8 with fail
    go_wp2_with fail
    go_loopg [9, 10] (left s1) (fun gk ev iv wr => ∃ (k : Nat) (vx : Value) (h : List UInt8) (ok : Bool), iv = .int .i64 (k : Int) ∧ ev = .int .i64 (ec ok) ∧ LkN W.heap.size wr p vx h ∧ LkN W.heap.size wr q (.slice none 0 0) [] ∧ apart (foot q (.slice none 0 0)) (foot p vx) ∧ Turn nowhere W wr ∧ (ok = true → Waits h ∧ gk = left h ∧ k + left h ≤ 515) ∧ (ok = false → h = [] ∧ k ≤ 1100))
    case atStart => exact ⟨0, v4, s1, true, rfl, rfl, HX4.out, HY4.out, HAP4.out, HT4.out, fun _ => ⟨HWT.out, rfl, by have := left_le HWT.out; omega⟩, fun e => by cases e⟩
    obtain ⟨k, vx, h, ok, rfl, rfl, hx, hy, hap, htr, hok, hno⟩ := hrel
    have HX5 := Lib.hid hx
    have HY5 := Lib.hid hy
    have HAP5 := Lib.hid hap
    have HT5 := Lib.hid htr
    clear hx hy hap htr HX4 HY4 HAP4 HT4
    cases ok with
    | false =>
      obtain ⟨rfl, hk⟩ := hno rfl
      simp only [HE1.out]
      clear hok hno
      by_cases hk2 : k < 1100
      · have y1 : (k : Int) < 1100 := by omega
        clear hk hk2
        go_upto_region 14 with (go_at_call 17; refine (held_walk HX5.out.lk).mono ?_; rintro e w20 ⟨rfl, rfl⟩)
        go_wp2_with fail
        go_loopg [11, 12, 13, 14, 15, 16] 20 (fun gk iv x12 x13 x14 x15 x16 wr => ∃ (k : Nat) (vx vy : Value) (h : List UInt8), k + gk = 20 ∧ iv = .int .i64 (k : Int) ∧ LkN W.heap.size wr p vx h ∧ LkN W.heap.size wr q vy h ∧ apart (foot q vy) (foot p vx) ∧ h.length < 514 ∧ Turn nowhere W wr)
        case atStart => exact ⟨0, _, _, [], by omega, rfl, HX5.out, HY5.out, HAP5.out, by decide, HT5.out⟩
        obtain ⟨k, vx, vy, h, hkl, rfl, hx, hy, hap, hh, htr⟩ := hrel
        have HKL := Lib.hid hkl
        have HX := Lib.hid hx
        have HY := Lib.hid hy
        have HAP := Lib.hid hap
        have HH := Lib.hid hh
        have HTR := Lib.hid htr
        clear hkl hx hy hap hh htr
        by_cases hk1 : k < n1
        · by_cases hk2 : k < 20
          · have y1 : (k : Int) < (n1 : Int) := by omega
            have y2 : (k : Int) < 20 := by omega
            obtain ⟨lb, lo, la, lm, lc, lv, rfl, hlv, hcell, hlb, hlc, hlm⟩ := (HLS.out.still HTR.out).at_ hk1
            have HK1 := Lib.hid hk1
            have HK2 := Lib.hid hk2
            have HLV := Lib.hid hlb
            have HLC := Lib.hid hlc
            have HLM := Lib.hid hlm
            have HLL := Lib.hid hlv
            have hw1 := feed_walk (c := lc) HX.out.lk hlb hlc (by have := HH.out; omega)
            have HW1 := Lib.hid hw1
            clear hk1 hk2 hlb hlc hlm hlv hw1
            go_upto_region 17 with fail
            refine wp_region_lit ?_
            refine wpList_run (v := .pointer (some ⟨p, 0, none⟩)) rfl (exec_move rfl rfl) ?_
            simp only [Act.put, List.setIfInBounds_toArray, List.set_cons_zero, List.set_cons_succ]
            refine wpList_run (v := .slice (some ⟨lb, lo, none⟩) n1 c1) rfl (exec_move rfl rfl) ?_
            simp only [Act.put, List.setIfInBounds_toArray, List.set_cons_zero, List.set_cons_succ]
            refine wpList_run (v := .int .i64 (k : Int)) rfl (exec_move rfl rfl) ?_
            simp only [Act.put, List.setIfInBounds_toArray, List.set_cons_zero, List.set_cons_succ]
            refine wpList_run (v := .pointer (some ⟨lb, lo + k, none⟩)) rfl (gx_iaddr (i := k) (sz := 1) rfl rfl rfl Try.underlying28 (by kernel_rfl) HK1.out (by omega)) ?_
            simp only [Act.put, List.setIfInBounds_toArray, List.set_cons_zero, List.set_cons_succ]
            refine wpList_run (v := .slice la lm lc) rfl (lx_sl rfl rfl hcell) ?_
            simp only [Act.put, List.setIfInBounds_toArray, List.set_cons_zero, List.set_cons_succ]

            clear hcell
            go_wp2_with fail
            refine HW1.out.mono ?_
            rintro e w21 ⟨fv1, v1, rfl, hL1, hf1, ht1, hs1⟩
            simp only [Act.put, List.setIfInBounds_toArray, List.set_cons_zero, List.set_cons_succ]
            rename_i K5 hK5
            refine hK5 _ _ ?_
            clear hK5 K5

            obtain ⟨fA1, fc1, rfl⟩ := hf1.form
            have HX1 := Lib.hid (fed_new HX.out hL1 HTR.out.size hs1)
            have HAP1 := Lib.hid (fed_other HY.out.lk HAP.out hs1)
            have HY1 := Lib.hid (HY.out.turn ht1 HAP.out)
            have HT1 := Lib.hid (turn_new HTR.out ht1 HX.out.new)
            have HG1 := Lib.hid (show ∀ k, (wr.heap.size ≤ k ∨ vx.ownBlock = some k) ∧ ¬ foot p v1 k → ¬ foot q vy k from fun k hk e => by
              rcases hk.1 with h | h
              · have := HY.out.lk.lt k e
                omega
              · exact HAP.out k e (.inr h))
            have HF1 := Lib.hid hf1
            clear hf1 hL1 ht1 hs1 HW1 HX HAP
            have hcell := ((HLS.out.still HT1.out).at_ HK1.out)
            obtain ⟨lb', lo', la', lm', lc', lv', elb, hlv', hcell, hlb', hlc', hlm'⟩ := hcell
            obtain ⟨rfl, rfl⟩ : lb = lb' ∧ lo = lo' := by injection elb with e; injection e with e1 e2; exact ⟨e1, e2⟩
            obtain rfl : lv = lv' := Option.some.inj (HLL.out.symm.trans hlv')
            have hw1 := feed_walk (c := lc') HY1.out.lk hlb' hlc' (by have := HH.out; omega)
            have HW1 := Lib.hid hw1
            clear hw1 hlb' hlc' hlm' hlv' elb HY
            go_upto_region 18 with fail
            refine wp_region_lit ?_
            refine wpList_run (v := .pointer (some ⟨q, 0, none⟩)) rfl (exec_move rfl rfl) ?_
            simp only [Act.put, List.setIfInBounds_toArray, List.set_cons_zero, List.set_cons_succ]
            refine wpList_run (v := .slice (some ⟨lb, lo, none⟩) n1 c1) rfl (exec_move rfl rfl) ?_
            simp only [Act.put, List.setIfInBounds_toArray, List.set_cons_zero, List.set_cons_succ]
            refine wpList_run (v := .int .i64 (k : Int)) rfl (exec_move rfl rfl) ?_
            simp only [Act.put, List.setIfInBounds_toArray, List.set_cons_zero, List.set_cons_succ]
            refine wpList_run (v := .pointer (some ⟨lb, lo + k, none⟩)) rfl (gx_iaddr (i := k) (sz := 1) rfl rfl rfl Try.underlying28 (by kernel_rfl) HK1.out (by omega)) ?_
            simp only [Act.put, List.setIfInBounds_toArray, List.set_cons_zero, List.set_cons_succ]
            refine wpList_run (v := .slice la' lm' lc') rfl (lx_sl rfl rfl hcell) ?_
            simp only [Act.put, List.setIfInBounds_toArray, List.set_cons_zero, List.set_cons_succ]

            clear hcell
            go_wp2_with fail
            refine HW1.out.mono ?_
            rintro e w22 ⟨fv2, v2, rfl, hL2, hf2, ht2, hs2⟩
            simp only [Act.put, List.setIfInBounds_toArray, List.set_cons_zero, List.set_cons_succ]
            rename_i K6 hK6
            refine hK6 _ _ ?_
            clear hK6 K6

            obtain ⟨fA2, fc2, rfl⟩ := hf2.form
            have HY2 := Lib.hid (fed_new HY1.out hL2 HT1.out.size hs2)
            have HX2 := Lib.hid (HX1.out.turn ht2 HAP1.out.symm)
            have HAP2 := Lib.hid (fed_other HX1.out.lk HAP1.out.symm hs2).symm
            have HT2 := Lib.hid (turn_new HT1.out ht2 HY1.out.new)
            have HF2 := Lib.hid hf2.frr
            have HF1 := Lib.hid (HF1.out.turn ht2 HG1.out).frr
            have hcnt := fs_count (h ++ lv)
            have hll : (h ++ lv).length ≤ 1049090 := by rw [List.length_append]; have := HLV.out.1; have := HLM.out; have := HH.out; omega
            have hsame := same_walk HF1.out HF2.out (by omega)
            rw [decide_eq_true rfl] at hsame
            have HS := Lib.hid hsame
            have HRL := Lib.hid (rest_len (h ++ lv))
            clear hf2 hL2 ht2 hs2 HW1 HX1 HY1 HAP1 HT1 HF1 HF2 HG1 hsame hcnt hll
            generalize hec : ec (feed (h ++ lv)).ok = e1 at *
            generalize (feed (h ++ lv)).fs.length = m1 at *
            generalize (feed (h ++ lv)).rest = r1 at *
            clear hec
            go_upto_region 20 with (go_at_call 16; refine HS.out.mono ?_; rintro e w23 ⟨rfl, ht23⟩)
            have HX3 := Lib.hid (HX2.out.still ht23)
            have HY3 := Lib.hid (HY2.out.still ht23)
            have HT3 := Lib.hid (HT2.out.trans ht23 (fun _ _ e => e))
            clear ht23 HS HX2 HY2 HT2
            go_wp2_with (go_at_call 17; first | (refine (held_walk HX3.out.lk).mono ?_; rintro e w24 ⟨rfl, rfl⟩) | (refine (held_walk HY3.out.lk).mono ?_; rintro e w24 ⟨rfl, rfl⟩))
            go_roundg (gk - 1)
            case measure => have := HKL.out; have := HK2.out; omega
            case rel => exact ⟨k + 1, v1, v2, r1, by have := HKL.out; have := HK2.out; omega, by go_num, HX3.out, HY3.out, HAP2.out, HRL.out, HT3.out⟩
          · have y1 : (k : Int) < (n1 : Int) := by omega
            have y2 : ¬ ((k : Int) < 20) := by omega
            clear hk1 hk2
            go_wp2_with fail
            go_ret
            exact ⟨rfl, HTR.out.below (Nat.le_refl _) (fun k hk e => e)⟩
        · have y1 : ¬ ((k : Int) < (n1 : Int)) := by omega
          clear hk1
          go_wp2_with fail
          go_ret
          exact ⟨rfl, HTR.out.below (Nat.le_refl _) (fun k hk e => e)⟩

      · have y1 : ¬ ((k : Int) < 1100) := by omega
        clear hk hk2
        go_upto_region 14 with (go_at_call 17; refine (held_walk HX5.out.lk).mono ?_; rintro e w20 ⟨rfl, rfl⟩)
        go_wp2_with fail
        go_loopg [11, 12, 13, 14, 15, 16] 20 (fun gk iv x12 x13 x14 x15 x16 wr => ∃ (k : Nat) (vx vy : Value) (h : List UInt8), k + gk = 20 ∧ iv = .int .i64 (k : Int) ∧ LkN W.heap.size wr p vx h ∧ LkN W.heap.size wr q vy h ∧ apart (foot q vy) (foot p vx) ∧ h.length < 514 ∧ Turn nowhere W wr)
        case atStart => exact ⟨0, _, _, [], by omega, rfl, HX5.out, HY5.out, HAP5.out, by decide, HT5.out⟩
        obtain ⟨k, vx, vy, h, hkl, rfl, hx, hy, hap, hh, htr⟩ := hrel
        have HKL := Lib.hid hkl
        have HX := Lib.hid hx
        have HY := Lib.hid hy
        have HAP := Lib.hid hap
        have HH := Lib.hid hh
        have HTR := Lib.hid htr
        clear hkl hx hy hap hh htr
        by_cases hk1 : k < n1
        · by_cases hk2 : k < 20
          · have y1 : (k : Int) < (n1 : Int) := by omega
            have y2 : (k : Int) < 20 := by omega
            obtain ⟨lb, lo, la, lm, lc, lv, rfl, hlv, hcell, hlb, hlc, hlm⟩ := (HLS.out.still HTR.out).at_ hk1
            have HK1 := Lib.hid hk1
            have HK2 := Lib.hid hk2
            have HLV := Lib.hid hlb
            have HLC := Lib.hid hlc
            have HLM := Lib.hid hlm
            have HLL := Lib.hid hlv
            have hw1 := feed_walk (c := lc) HX.out.lk hlb hlc (by have := HH.out; omega)
            have HW1 := Lib.hid hw1
            clear hk1 hk2 hlb hlc hlm hlv hw1
            go_upto_region 17 with fail
            refine wp_region_lit ?_
            refine wpList_run (v := .pointer (some ⟨p, 0, none⟩)) rfl (exec_move rfl rfl) ?_
            simp only [Act.put, List.setIfInBounds_toArray, List.set_cons_zero, List.set_cons_succ]
            refine wpList_run (v := .slice (some ⟨lb, lo, none⟩) n1 c1) rfl (exec_move rfl rfl) ?_
            simp only [Act.put, List.setIfInBounds_toArray, List.set_cons_zero, List.set_cons_succ]
            refine wpList_run (v := .int .i64 (k : Int)) rfl (exec_move rfl rfl) ?_
            simp only [Act.put, List.setIfInBounds_toArray, List.set_cons_zero, List.set_cons_succ]
            refine wpList_run (v := .pointer (some ⟨lb, lo + k, none⟩)) rfl (gx_iaddr (i := k) (sz := 1) rfl rfl rfl Try.underlying28 (by kernel_rfl) HK1.out (by omega)) ?_
            simp only [Act.put, List.setIfInBounds_toArray, List.set_cons_zero, List.set_cons_succ]
            refine wpList_run (v := .slice la lm lc) rfl (lx_sl rfl rfl hcell) ?_
            simp only [Act.put, List.setIfInBounds_toArray, List.set_cons_zero, List.set_cons_succ]

            clear hcell
            go_wp2_with fail
            refine HW1.out.mono ?_
            rintro e w21 ⟨fv1, v1, rfl, hL1, hf1, ht1, hs1⟩
            simp only [Act.put, List.setIfInBounds_toArray, List.set_cons_zero, List.set_cons_succ]
            rename_i K5 hK5
            refine hK5 _ _ ?_
            clear hK5 K5

            obtain ⟨fA1, fc1, rfl⟩ := hf1.form
            have HX1 := Lib.hid (fed_new HX.out hL1 HTR.out.size hs1)
            have HAP1 := Lib.hid (fed_other HY.out.lk HAP.out hs1)
            have HY1 := Lib.hid (HY.out.turn ht1 HAP.out)
            have HT1 := Lib.hid (turn_new HTR.out ht1 HX.out.new)
            have HG1 := Lib.hid (show ∀ k, (wr.heap.size ≤ k ∨ vx.ownBlock = some k) ∧ ¬ foot p v1 k → ¬ foot q vy k from fun k hk e => by
              rcases hk.1 with h | h
              · have := HY.out.lk.lt k e
                omega
              · exact HAP.out k e (.inr h))
            have HF1 := Lib.hid hf1
            clear hf1 hL1 ht1 hs1 HW1 HX HAP
            have hcell := ((HLS.out.still HT1.out).at_ HK1.out)
            obtain ⟨lb', lo', la', lm', lc', lv', elb, hlv', hcell, hlb', hlc', hlm'⟩ := hcell
            obtain ⟨rfl, rfl⟩ : lb = lb' ∧ lo = lo' := by injection elb with e; injection e with e1 e2; exact ⟨e1, e2⟩
            obtain rfl : lv = lv' := Option.some.inj (HLL.out.symm.trans hlv')
            have hw1 := feed_walk (c := lc') HY1.out.lk hlb' hlc' (by have := HH.out; omega)
            have HW1 := Lib.hid hw1
            clear hw1 hlb' hlc' hlm' hlv' elb HY
            go_upto_region 18 with fail
            refine wp_region_lit ?_
            refine wpList_run (v := .pointer (some ⟨q, 0, none⟩)) rfl (exec_move rfl rfl) ?_
            simp only [Act.put, List.setIfInBounds_toArray, List.set_cons_zero, List.set_cons_succ]
            refine wpList_run (v := .slice (some ⟨lb, lo, none⟩) n1 c1) rfl (exec_move rfl rfl) ?_
            simp only [Act.put, List.setIfInBounds_toArray, List.set_cons_zero, List.set_cons_succ]
            refine wpList_run (v := .int .i64 (k : Int)) rfl (exec_move rfl rfl) ?_
            simp only [Act.put, List.setIfInBounds_toArray, List.set_cons_zero, List.set_cons_succ]
            refine wpList_run (v := .pointer (some ⟨lb, lo + k, none⟩)) rfl (gx_iaddr (i := k) (sz := 1) rfl rfl rfl Try.underlying28 (by kernel_rfl) HK1.out (by omega)) ?_
            simp only [Act.put, List.setIfInBounds_toArray, List.set_cons_zero, List.set_cons_succ]
            refine wpList_run (v := .slice la' lm' lc') rfl (lx_sl rfl rfl hcell) ?_
            simp only [Act.put, List.setIfInBounds_toArray, List.set_cons_zero, List.set_cons_succ]

            clear hcell
            go_wp2_with fail
            refine HW1.out.mono ?_
            rintro e w22 ⟨fv2, v2, rfl, hL2, hf2, ht2, hs2⟩
            simp only [Act.put, List.setIfInBounds_toArray, List.set_cons_zero, List.set_cons_succ]
            rename_i K6 hK6
            refine hK6 _ _ ?_
            clear hK6 K6

            obtain ⟨fA2, fc2, rfl⟩ := hf2.form
            have HY2 := Lib.hid (fed_new HY1.out hL2 HT1.out.size hs2)
            have HX2 := Lib.hid (HX1.out.turn ht2 HAP1.out.symm)
            have HAP2 := Lib.hid (fed_other HX1.out.lk HAP1.out.symm hs2).symm
            have HT2 := Lib.hid (turn_new HT1.out ht2 HY1.out.new)
            have HF2 := Lib.hid hf2.frr
            have HF1 := Lib.hid (HF1.out.turn ht2 HG1.out).frr
            have hcnt := fs_count (h ++ lv)
            have hll : (h ++ lv).length ≤ 1049090 := by rw [List.length_append]; have := HLV.out.1; have := HLM.out; have := HH.out; omega
            have hsame := same_walk HF1.out HF2.out (by omega)
            rw [decide_eq_true rfl] at hsame
            have HS := Lib.hid hsame
            have HRL := Lib.hid (rest_len (h ++ lv))
            clear hf2 hL2 ht2 hs2 HW1 HX1 HY1 HAP1 HT1 HF1 HF2 HG1 hsame hcnt hll
            generalize hec : ec (feed (h ++ lv)).ok = e1 at *
            generalize (feed (h ++ lv)).fs.length = m1 at *
            generalize (feed (h ++ lv)).rest = r1 at *
            clear hec
            go_upto_region 20 with (go_at_call 16; refine HS.out.mono ?_; rintro e w23 ⟨rfl, ht23⟩)
            have HX3 := Lib.hid (HX2.out.still ht23)
            have HY3 := Lib.hid (HY2.out.still ht23)
            have HT3 := Lib.hid (HT2.out.trans ht23 (fun _ _ e => e))
            clear ht23 HS HX2 HY2 HT2
            go_wp2_with (go_at_call 17; first | (refine (held_walk HX3.out.lk).mono ?_; rintro e w24 ⟨rfl, rfl⟩) | (refine (held_walk HY3.out.lk).mono ?_; rintro e w24 ⟨rfl, rfl⟩))
            go_roundg (gk - 1)
            case measure => have := HKL.out; have := HK2.out; omega
            case rel => exact ⟨k + 1, v1, v2, r1, by have := HKL.out; have := HK2.out; omega, by go_num, HX3.out, HY3.out, HAP2.out, HRL.out, HT3.out⟩
          · have y1 : (k : Int) < (n1 : Int) := by omega
            have y2 : ¬ ((k : Int) < 20) := by omega
            clear hk1 hk2
            go_wp2_with fail
            go_ret
            exact ⟨rfl, HTR.out.below (Nat.le_refl _) (fun k hk e => e)⟩
        · have y1 : ¬ ((k : Int) < (n1 : Int)) := by omega
          clear hk1
          go_wp2_with fail
          go_ret
          exact ⟨rfl, HTR.out.below (Nat.le_refl _) (fun k hk e => e)⟩

    | true =>
      obtain ⟨hw, hgk, hk⟩ := hok rfl
      have y1 : (k : Int) < 1100 := by omega
      have y2 : (k : Int) ≤ 515 := by omega
      have HW := Lib.hid hw
      have HGK := Lib.hid hgk
      have HK := Lib.hid hk
      clear hok hno hw hgk hk
      simp only [HE0.out]
      go_upto_region 11 with fail
      refine wp_region_lit ?_
      refine wpList_run (v := .pointer (some ⟨p, 0, none⟩)) rfl (exec_move rfl rfl) ?_
      simp only [Act.put, List.setIfInBounds_toArray, List.set_cons_zero, List.set_cons_succ]
      refine wpList_run (v := .slice (some ⟨wr.heap.size, 0, none⟩) 1 1) (w' := wr.alloc (.cells #[.int .u8 0] 5)) rfl (exec_buildSlice1 rfl rfl (build_1 _ _)) ?_
      simp only [Act.put, List.setIfInBounds_toArray, List.set_cons_zero, List.set_cons_succ]

      have hta := (Turn.refl nowhere wr).alloc (.cells #[.int .u8 0] 5)
      have hbs : Bs _ _ 1 _ := bs_built wr [0] #[.int .u8 0] rfl (by decide)
      have hw1 := feed_walk (c := 1) (HX5.out.still hta).lk hbs (fun e => by cases e) (by have := waits_len HW.out; omega)
      have HW1 := Lib.hid hw1
      have HX6 := Lib.hid (HX5.out.still hta)
      have HY6 := Lib.hid (HY5.out.still hta)
      have HT6 := Lib.hid (HT5.out.trans hta (fun _ _ e => e))
      clear hta hbs hw1 HX5 HY5 HT5
      generalize World.alloc wr (.cells #[.int .u8 0] 5) = w5 at *
      go_wp2_with fail
      refine HW1.out.mono ?_
      rintro e w6 ⟨fv6, v6, rfl, hL6, hf6, ht6, hs6⟩
      simp only [Act.put, List.setIfInBounds_toArray, List.set_cons_zero, List.set_cons_succ]
      rename_i K4 hK4
      refine hK4 _ _ ?_
      clear hK4 K4

      have HX7 := Lib.hid (fed_new HX6.out hL6 HT6.out.size hs6)
      have HAP7 := Lib.hid (fed_other HY6.out.lk HAP5.out hs6)
      have HY7 := Lib.hid (HY6.out.turn ht6 HAP5.out)
      have HT7 := Lib.hid (turn_new HT6.out ht6 HX6.out.new)
      clear hf6 hL6 ht6 hs6 HW1 HX6 HY6 HT6
      have hst := left_step HW.out
      have hwt := rest_waits (h ++ [0])
      have hbd := rest_bad (h ++ [0])
      have hpos := left_pos HW.out
      have HST := Lib.hid hst
      have HWT' := Lib.hid hwt
      have HBD := Lib.hid hbd
      have HPOS := Lib.hid hpos
      clear hst hwt hbd hpos
      generalize feed (h ++ [0]) = r at *
      go_wp2_with fail
      cases hrk : r.ok with
      | false =>
        go_roundg 0
        case measure => have := HGK.out; have := HPOS.out; omega
        case rel => exact ⟨k + 1, v6, r.rest, false, by go_num, rfl, HX7.out, HY7.out, HAP7.out, HT7.out, (fun e => by cases e), fun _ => ⟨HBD.out hrk, by have := HK.out; omega⟩⟩
      | true =>
        go_roundg (left r.rest)
        case measure =>
          rcases HST.out with h1 | h1
          · rw [hrk] at h1
            cases h1
          · have := HGK.out
            omega
        case rel =>
          refine ⟨k + 1, v6, r.rest, true, by go_num, rfl, HX7.out, HY7.out, HAP7.out, HT7.out, fun _ => ⟨HWT'.out hrk, rfl, ?_⟩, fun e => by cases e⟩
          rcases HST.out with h1 | h1
          · rw [hrk] at h1
            cases h1
          · have := HK.out
            omega

end Go.Proofs.Ytagoijgmoaffdaa
