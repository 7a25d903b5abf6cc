/-
  groatlaw04's shown. Conditions: the rows read as the program's text lays them.
-/
import Derived.Test.YtgdlidjjogoiaaaGreatDoorFdU
namespace Go.Proofs.YtgdlidjjogoiaaaGreatDoor
open Go.RowKit
open Fdd
set_option linter.unusedVariables false
theorem build_any (x y z : Int) (W : World) : (Instr.build 24 #[(0, .int .i64 x), (1, .int .i64 y), (2, .int .i64 z)]).run Tryz.prog W = .ok (.agg #[.int .i64 x, .int .i64 y, .int .i64 z]) W := by kernel_rfl
theorem build_pair (x y : Int) (W : World) : (Instr.buildSlice 22 2 #[(0, .int .u8 x), (1, .int .u8 y)]).run Tryz.prog W = .ok (.slice (some ⟨W.heap.size, 0, none⟩) 2 2) (W.alloc (.cells #[.int .u8 x, .int .u8 y] 5)) := by kernel_rfl
theorem build_single (x : Int) (W : World) : (Instr.buildSlice 22 1 #[(0, .int .u8 x)]).run Tryz.prog W = .ok (.slice (some ⟨W.heap.size, 0, none⟩) 1 1) (W.alloc (.cells #[.int .u8 x] 5)) := by kernel_rfl
theorem sh_put : (nf 2 19 2).right [52, 53, 54, 55] = true ∧ (nf 2 19 2).put [52, 53, 54, 55] = [4, 69, 103] := by decide
theorem sh_take : (nf 2 19 2).take [4, 69, 103, 9] = .ok ([52, 53, 54, 55], [9]) := by rfl
theorem sh_bad : (nf 1 3 2).take [17, 35] = .error 42 := by rfl
theorem sh_am : amountOf [48, 48, 48, 48, 48, 48, 48, 48, 48, 49, 48, 48] = (100, 0) := by decide
theorem sh_dig : digitsOf 5 3 = ([48, 48, 53], 0) := by
  have e : Lib.itoa 5 = [53] := by
    unfold Lib.itoa
    rw [if_neg (by omega), show Int.toNat 5 = 5 from rfl, dig_one (by omega)]
    rfl
  unfold digitsOf
  rw [e]
  rfl
theorem bs_new2 (W : World) (l : List UInt8) (hl : l.length ≤ 1000) : Bs (W.alloc (.cells (bcs l).toArray 5)) (some ⟨W.heap.size, 0, none⟩) l.length l := by
  have h : Row (W.alloc (.cells (bcs l).toArray 5)) W.heap.size 5 l := Row.new W _ l
  have h2 := h.bs (n := l.length) (Nat.le_refl _) (by unfold maxLen; omega)
  rwa [List.take_length] at h2
set_option maxRecDepth 40000 in
set_option maxHeartbeats 2000000 in
theorem shown_walk (w : World) (hr : RowsT w) :
    Calls Tryz.prog 5 #[] w fun e w' => e = .returned (.bool true) ∧ Turn nowhere w w' := by
  have HR := Lib.hid hr
  clear hr
  go_enter Tryz.func5, Tryz.ntmps5
  go_upto_region 1 with fail
  refine wp_region_lit ?_
  refine wpList_run (v := fmV (nf 2 19 2)) rfl (exec_build3 rfl rfl rfl rfl (build_any 2 19 2 w)) ?_
  simp only [Act.put, List.setIfInBounds_toArray, List.set_cons_zero, List.set_cons_succ]
  have hp1 := put_main (kk := 2) (s := 19) (c := 2) (A := none) (n := 0) (cap := 0) (b := []) (t := [52, 53, 54, 55]) (by decide) (by decide) (by decide) sh_put.1 HR.out (bs_nil w none) (by decide)
  rw [sh_put.2, List.nil_append] at hp1
  have HP1 := Lib.hid hp1
  clear hp1
  generalize hfv : fmV (nf 2 19 2) = fv at *
  have HFV := Lib.hid hfv
  clear hfv
  go_upto_region 2 with (go_at_call 6; refine HP1.out.mono ?_; rintro e w1 ⟨A1, n1, c1, rfl, ho1, ht1⟩)
  have HO1 := Lib.hid ho1
  have HT1 := Lib.hid ht1
  obtain ⟨A3, n3, c3, hf1, hb1, _, _⟩ := ho1.form
  injection hf1 with g1 g2 g3
  subst g1 g2 g3
  have hn1 : n1 = 3 := hb1.1.symm
  subst hn1
  clear hb1 ho1 ht1
  obtain ⟨A2, c2, w2, hrun2, ho2, he2, hbs2⟩ := append_old (m := 1) (c1 := 1) HO1.out HT1.out.size [9] (by decide) (by decide) rfl
  refine wp_region_lit ?_
  refine wpList_run (v := .slice A1 3 c1) rfl (exec_move rfl rfl) ?_
  simp only [Act.put, List.setIfInBounds_toArray, List.set_cons_zero, List.set_cons_succ]
  refine wpList_run (v := .slice (some ⟨w1.heap.size, 0, none⟩) 1 1) (w' := w1.alloc (.cells #[.int .u8 9] 5)) rfl (exec_buildSlice1 rfl rfl (build_single 9 w1)) ?_
  simp only [Act.put, List.setIfInBounds_toArray, List.set_cons_zero, List.set_cons_succ]
  refine wpList_run (v := .slice A2 4 c2) (w' := w2) rfl (exec_append rfl rfl rfl hrun2) ?_
  simp only [Act.put, List.setIfInBounds_toArray, List.set_cons_zero, List.set_cons_succ]
  refine wpList_run (v := fmV (nf 2 19 2)) rfl (exec_build3 rfl rfl rfl rfl (build_any 2 19 2 w2)) ?_
  simp only [Act.put, List.setIfInBounds_toArray, List.set_cons_zero, List.set_cons_succ]
  have HT2 := Lib.hid (he2.fresh HO1.out HT1.out (Nat.le_refl _))
  have HBS2 := Lib.hid hbs2
  have HO2 := Lib.hid ho2
  clear hrun2 ho2 he2 hbs2
  obtain ⟨A4, n4, c4, hf4, hb4, hnc4, _⟩ := HO2.out.form
  injection hf4 with g1 g2 g3
  subst g1 g2 g3
  have ht2 := take_main (kk := 2) (s := 19) (c := 2) (by decide) (by decide) (by decide) (HR.out.turn HT2.out) hb4 hnc4 (by decide)
  rw [show ([4, 69, 103] ++ [9] : List UInt8) = [4, 69, 103, 9] from rfl, sh_take] at ht2
  have HTK := Lib.hid ht2
  clear ht2 hb4 hnc4
  rw [HFV.out] at HTK ⊢
  go_upto_region 3 with (go_at_call 10; refine HTK.out.mono ?_; rintro e w3 ⟨⟨A5, n5, c5, rfl, ho5⟩, ht3⟩)
  have hn5 : n5 = 1 := by
    obtain ⟨A6, n6, c6, hf6, hb6, _, _⟩ := ho5.form
    injection hf6 with g1 g2 g3
    subst g2
    exact hb6.1.symm
  subst hn5
  have HT3 := Lib.hid (HT2.out.trans ht3 (fun _ _ e => e))
  have HBS3 := Lib.hid (bs_turn HBS2.out ht3)
  clear ho5 ht3
  refine wp_region_lit ?_
  refine wpList_run (v := .slice (some ⟨w3.heap.size, 0, none⟩) 2 2) (w' := w3.alloc (.cells (bcs [17, 35]).toArray 5)) rfl (exec_build2 rfl rfl rfl (build_pair 17 35 w3)) ?_
  simp only [Act.put, List.setIfInBounds_toArray, List.set_cons_zero, List.set_cons_succ]
  refine wpList_run (v := fmV (nf 1 3 2)) rfl (exec_build3 rfl rfl rfl rfl (build_any 1 3 2 _)) ?_
  simp only [Act.put, List.setIfInBounds_toArray, List.set_cons_zero, List.set_cons_succ]
  have HT4 := Lib.hid (HT3.out.alloc (.cells (bcs [17, 35]).toArray 5))
  have HBS4 := Lib.hid (bs_turn HBS3.out ((Turn.refl nowhere w3).alloc (.cells (bcs [17, 35]).toArray 5)))
  have ht4 := take_main (kk := 1) (s := 3) (c := 2) (n := 2) (cap := 2) (b := [17, 35]) (by decide) (by decide) (by decide) (HR.out.turn HT4.out) (bs_new2 w3 [17, 35] (by decide)) (by decide) (by decide)
  rw [sh_bad] at ht4
  have HTK4 := Lib.hid ht4
  clear ht4
  generalize (w3.alloc (.cells (bcs [17, 35]).toArray 5)) = w4 at *
  generalize hfv2 : fmV (nf 1 3 2) = fv2 at *
  have ham : ∀ W, Calls Tryz.prog 12 #[.string ⟨#[48, 48, 48, 48, 48, 48, 48, 48, 48, 49, 48, 48]⟩] W fun e w' => e = .returned (.tuple #[.int .i64 100, .int .i64 0]) ∧ Turn nowhere W w' := by
    intro W
    have h := amount_walk (t := [48, 48, 48, 48, 48, 48, 48, 48, 48, 49, 48, 48]) W (fun h => by cases h)
    rw [sh_am] at h
    exact h
  have hdg : ∀ W, Calls Tryz.prog 13 #[.int .i64 5, .int .i64 3] W fun e w' => e = .returned (.tuple #[strV [48, 48, 53], .int .i64 0]) ∧ Turn nowhere W w' := by
    intro W
    have h := digits_walk 5 3 W (fun W' _ => itoa_small 5 (by decide) W')
    rw [sh_dig] at h
    exact h
  have HAM := Lib.hid ham
  have HDG := Lib.hid hdg
  clear ham hdg
  go_upto_region 6 with (first
    | (go_at_call 10; refine HTK4.out.mono ?_; rintro e w5 ⟨(rfl : e = _), ht5⟩)
    | (go_at_call 12; refine (HAM.out _).mono ?_; rintro e w6 ⟨rfl, ht6⟩)
    | (go_at_call 13; refine (HDG.out _).mono ?_; rintro e w7 ⟨rfl, ht7⟩))
  have HT7 := Lib.hid (((HT4.out.trans ht5 (fun _ _ e => e)).trans ht6 (fun _ _ e => e)).trans ht7 (fun _ _ e => e))
  have HBS7 := Lib.hid (bs_turn HBS4.out ((ht5.trans ht6 (fun _ _ e => e)).trans ht7 (fun _ _ e => e)))
  clear ht5 ht6 ht7
  unfold strV
  go_wp2_with (first
    | (refine wpList_run (v := .string ⟨#[4, 69, 103]⟩) (w' := w7) rfl (exec_strBs (l := [4, 69, 103]) rfl rfl HBS7.out) ?_)
    | (have h8 := ht8; go_at_call 14; refine (when_no _).mono ?_; rintro e w9 ⟨rfl, ht9⟩)
    | (go_at_call 14; refine (when_yes _).mono ?_; rintro e w8 ⟨rfl, ht8⟩))
  go_ret
  exact ⟨rfl, (HT7.out.trans ht8 (fun _ _ e => e)).trans ht9 (fun _ _ e => e)⟩
end Go.Proofs.YtgdlidjjogoiaaaGreatDoor
