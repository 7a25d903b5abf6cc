/-
  field's Digits and Amount. Conditions: the library's table of powers and its ErrSyntax read as the program's text lays them.
-/
import Derived.Test.YtgdlidjjogoiaaaGreatDoorFdK
namespace Go.Proofs.YtgdlidjjogoiaaaGreatDoor
open Go.RowKit
open Fdd
set_option linter.unusedVariables false
theorem repeat_one (c : UInt8) : ∀ n, Lib.repeatL [c] n = List.replicate n c
  | 0 => rfl
  | n + 1 => by
    unfold Lib.repeatL
    rw [repeat_one c n]
    rfl
def digitsOf (n size : Int) : List UInt8 × Int :=
  if size < 1 ∨ 18 < size then ([], 40) else if n < 0 ∨ size < ((Lib.itoa n).length : Int) then ([], 41) else (List.replicate (size.toNat - (Lib.itoa n).length) 48 ++ Lib.itoa n, 0)
/-- strconv.Itoa answers so -/
def ItoaAt (n : Int) (w : World) : Prop := Calls Tryz.prog 31 #[.int .i64 n] w fun e w' => e = .returned (strV (Lib.itoa n)) ∧ Turn nowhere w w'
theorem itoa_small (n : Nat) (h : n < 100) (w : World) : ItoaAt (n : Int) w := by
  refine (Any.strconv_Itoa_small Tryz.lays171 n h w).mono ?_
  rintro e w' ⟨rfl, rfl⟩
  refine ⟨?_, Turn.refl _ _⟩
  have : Lib.itoa (n : Int) = Lib.decDigits n := by
    unfold Lib.itoa
    rw [if_neg (by omega), Int.toNat_natCast]
  rw [this]
  rfl
theorem digits_walk (n size : Int) (w : World) (hi : ∀ W, Turn nowhere w W → ItoaAt n W) :
    Calls Tryz.prog 13 #[.int .i64 n, .int .i64 size] w fun e w' => e = .returned (.tuple #[strV (digitsOf n size).1, .int .i64 (digitsOf n size).2]) ∧ Turn nowhere w w' := by
  have HI := Lib.hid (hi w (Turn.refl _ _))
  clear hi
  have hdef : digitsOf n size = if size < 1 ∨ 18 < size then ([], 40) else if n < 0 ∨ size < ((Lib.itoa n).length : Int) then ([], 41) else (List.replicate (size.toNat - (Lib.itoa n).length) 48 ++ Lib.itoa n, 0) := rfl
  have HD := Lib.hid hdef
  clear hdef
  go_enter Tryz.func13, Tryz.ntmps13
  by_cases h1 : size < 1
  · have HX := Lib.hid (show digitsOf n size = ([], 40) from by rw [HD.out, if_pos (.inl h1)])
    go_wp2_with fail
    go_ret2
    rw [HX.out]
    exact ⟨rfl, Turn.refl _ _⟩
  · by_cases h2 : 18 < size
    · have HX := Lib.hid (show digitsOf n size = ([], 40) from by rw [HD.out, if_pos (.inr h2)])
      go_wp2_with fail
      go_ret2
      rw [HX.out]
      exact ⟨rfl, Turn.refl _ _⟩
    · have HX := Lib.hid (show digitsOf n size = if n < 0 ∨ size < ((Lib.itoa n).length : Int) then ([], 41) else (List.replicate (size.toNat - (Lib.itoa n).length) 48 ++ Lib.itoa n, 0) from by rw [HD.out, if_neg (by omega)])
      go_upto_region 4 with (go_at_call 31; refine HI.out.mono ?_; rintro e w1 ⟨rfl, ht⟩)
      have HT := Lib.hid ht
      clear ht HD
      generalize Lib.itoa n = dg at *
      unfold strV
      by_cases h3 : n < 0
      · have HY := Lib.hid (show digitsOf n size = ([], 41) from by rw [HX.out, if_pos (.inl h3)])
        go_wp2_with fail
        go_ret2
        rw [HY.out]
        exact ⟨rfl, HT.out⟩
      · by_cases h4 : size < (dg.length : Int)
        · have HY := Lib.hid (show digitsOf n size = ([], 41) from by rw [HX.out, if_pos (.inr h4)])
          go_wp2_with fail
          go_ret2
          rw [HY.out]
          exact ⟨rfl, HT.out⟩
        · have HY := Lib.hid (show digitsOf n size = (List.replicate (size.toNat - dg.length) 48 ++ dg, 0) from by rw [HX.out, if_neg (by omega)])
          go_upto_region 6 with fail
          refine wp_region_lit ?_
          refine wpList_run (v := .int .i64 ((size.toNat : Nat) : Int)) (w' := w1) rfl (by rw [Int.toNat_of_nonneg (by omega)]; exact exec_move rfl rfl) ?_
          simp only [Act.put, List.setIfInBounds_toArray, List.set_cons_zero, List.set_cons_succ]
          refine wpList_run (v := strV dg) rfl (exec_move rfl rfl) ?_
          simp only [Act.put, List.setIfInBounds_toArray, List.set_cons_zero, List.set_cons_succ]
          refine wpList_run (v := .int .i64 (dg.length : Int)) (w' := w1) rfl (exec_slen rfl rfl) ?_
          simp only [Act.put, List.setIfInBounds_toArray, List.set_cons_zero, List.set_cons_succ]
          refine wpList_run (v := .int .i64 ((size.toNat - dg.length : Nat) : Int)) (w' := w1) rfl (exec_sub rfl rfl rfl (by omega) (by omega)) ?_
          simp only [Act.put, List.setIfInBounds_toArray, List.set_cons_zero, List.set_cons_succ]
          have h5 : size.toNat - dg.length ≤ 18 := by omega
          have h6 : dg.length ≤ 18 := by omega
          have H6 := Lib.hid h6
          generalize size.toNat - dg.length = m at *
          have H5 := Lib.hid h5
          clear h3 h4 h5 h6
          have hrep : Calls Tryz.prog 32 #[.string ⟨#[48]⟩, .int .i64 (m : Int)] w1 fun e w' => e = .returned (strV (List.replicate m 48)) ∧ Below w1.heap.size w1 w' := by
            have h := Any.strings_Repeat Tryz.lays105 Tryz.Builder_Extra_105 ⟨#[48]⟩ m w1 (by have := H5.out; omega) (by have := H5.out; rw [show (ByteArray.mk #[48]).size = 1 from rfl]; omega)
            rw [show (ByteArray.mk #[48]).data.toList = [48] from rfl, repeat_one] at h
            exact h
          go_wp2_with (first
            | (go_at_call 32; refine hrep.mono ?_; rintro e w2 ⟨rfl, hb⟩)
            | (refine wpList_run (v := strV (List.replicate m 48 ++ dg)) (w' := w2) rfl (exec_sadd (l := List.replicate m 48) (m := dg) rfl rfl rfl (by have := H5.out; have := H6.out; rw [List.length_replicate]; omega)) ?_))
          go_ret2
          rw [HY.out]
          exact ⟨rfl, HT.out.trans (Turn.of_below hb (Nat.le_refl _)) (fun _ _ e => e)⟩
end Go.Proofs.YtgdlidjjogoiaaaGreatDoor
