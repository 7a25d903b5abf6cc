/-
  Texts in one file. Conditions: the tables and the errors read as laid.
-/
import Derived.Test.YtkagijifkpoplaaGreatDoorJT17
import Derived.Test.YtkagijifkpoplaaGreatDoorJT13
import Derived.Test.YtkagijifkpoplaaGreatDoorJT9
import Derived.Test.YtkagijifkpoplaaGreatDoorJT0
import Derived.IntWalk
import Derived.Test.YtkagijifkpoplaaGreatDoorJT16
import Derived.Test.YtkagijifkpoplaaGreatDoorJT1
set_option linter.unusedVariables false
set_option linter.unusedSimpArgs false
set_option maxRecDepth 40000
set_option maxHeartbeats 20000000
namespace Go.Proofs.YtkagijifkpoplaaGreatDoor
open Go.RowKit
open Fdd
theorem wrap_small {x : Int} (h0 : 0 ≤ x) (h1 : x ≤ 1000000) : IntKind.i64.wrap x = x := by
 simp [IntKind.wrap, IntKind.bits, IntKind.signed]
 omega
theorem wpList_skip {P : Program} {ops : Array Oper} {rest : List Oper} {o : Oper} {a : Act} {w : World} {Q : Exit → Act → World → Prop} (hgd : Region.wanted o (yielded ops a.tmps) = false) (h : wpList P ops Q rest (a.put o.dst undef) w) : wpList P ops Q (o :: rest) a w :=
 wpList_step fun K hK => by
  rw [if_neg (by rw [hgd]; decide)]
  exact hK _ _ h
theorem only_take_len {l cs : List UInt8} {n : Nat} {st : List UInt8} : rightAll [⟨n, cs, st⟩] l = (decide (l.length = n) && onlyOf l cs) := by
 show (decide (n ≤ l.length) && (onlyOf (l.take n) cs && (l.drop n == []))) = _
 by_cases h : l.length = n
 ·rw [List.take_of_length_le (by omega), List.drop_of_length_le (by omega), decide_eq_true h, decide_eq_true (by omega)]
  simp
 ·rw [decide_eq_false h]
  by_cases h2 : n ≤ l.length
  ·have h3 : (l.drop n == []) = false := by
    cases hd : l.drop n with
    | nil =>
      have := congrArg List.length hd
      simp at this
      omega
    | cons a r => rfl
   rw [h3]
   simp
  ·rw [decide_eq_false h2]
   simp
theorem right_n {s : Nat} {c : Int} {t : List UInt8} : Fm.right ⟨1, (s : Int), c⟩ t = (decide (t.length = s) && onlyOf t dec) := only_take_len
theorem right_an {s : Nat} {c : Int} {t : List UInt8} : Fm.right ⟨3, (s : Int), c⟩ t = (decide (t.length = s) && onlyOf t sgn) := only_take_len
theorem right_b {s : Nat} {c : Int} {t : List UInt8} : Fm.right ⟨4, (s : Int), c⟩ t = (decide (t.length = 2 * s) && onlyOf t hexs) := only_take_len
theorem right_l {s : Nat} {c : Int} {t : List UInt8} : Fm.right ⟨2, (s : Int), c⟩ t = (decide (1 ≤ t.length ∧ t.length ≤ s) && onlyOf t dec) := by
 show (decide (1 ≤ t.length ∧ (t.length : Int) ≤ (s : Int)) && rightAll [⟨t.length, dec, _⟩] t) = _
 rw [only_take_len, decide_eq_true (show t.length = t.length from rfl), Bool.true_and]
 congr 1
 exact decide_eq_decide.2 ⟨fun h => ⟨h.1, by omega⟩, fun h => ⟨h.1, by omega⟩⟩
theorem right_x {s : Nat} {c : Int} {t : List UInt8} : Fm.right ⟨5, (s : Int), c⟩ t = (decide (t.length = s + 1) && (mk.contains (t.getD 0 0) && onlyOf (t.drop 1) dec)) := by
 show (decide (1 ≤ t.length) && (onlyOf (t.take 1) mk && rightAll [⟨s, dec, _⟩] (t.drop 1))) = _
 rw [only_take_len]
 cases t with
 | nil => simp
 | cons b r =>
   simp only [List.length_cons, List.take_succ_cons, List.take_zero, List.drop_succ_cons, List.drop_zero, List.getD_cons_zero]
   unfold onlyOf
   simp only [List.all_cons, List.all_nil, Bool.and_true]
   rw [decide_eq_true (show 1 ≤ r.length + 1 by omega), Bool.true_and]
   rw [show decide (r.length + 1 = s + 1) = decide (r.length = s) from decide_eq_decide.2 (by omega)]
   cases mk.contains b <;> cases decide (r.length = s) <;> simp
theorem mk_byte (b : UInt8) : mk.contains b = (decide (b.toNat = 67) || decide (b.toNat = 68)) := byte_of (P := fun b => mk.contains b = (decide (b.toNat = 67) || decide (b.toNat = 68))) (by decide +kernel) b
theorem rright_walk {k : Int} {s : Nat} {c : Int} {t : List UInt8} (w : World) (hk : 1 ≤ k ∧ k ≤ 5) (hs : 1 ≤ s ∧ s ≤ 64) (hl : t.length ≤ 9223372036854775807) :
 Calls Tryz.prog 99 #[fmV ⟨k, (s : Int), c⟩, strV t] w fun e w' => e = .returned (.bool (Fm.right ⟨k, (s : Int), c⟩ t)) ∧ Turn nowhere w w' := by
 have HL := zH hl
 have HS := zH hs
 clear hl hs
 unfold fmV
 go_enter Tryz.func99, Tryz.ntmps99
 go_upto_region 1 with fail
 have hb0 := Blk.new w 105 #[.int .i64 k, .int .i64 (s : Int), .int .i64 c]
 have ht0 := (Turn.refl nowhere w).alloc (.cells #[.int .i64 k, .int .i64 (s : Int), .int .i64 c] 105)
 generalize (w.alloc (.cells #[.int .i64 k, .int .i64 (s : Int), .int .i64 c] 105)) = w1 at *
 generalize w.heap.size = b2 at *
 have c0 : w1.cell? ⟨b2, 0, none⟩ = some (.int .i64 k) := hb0.cell 0
 have c1 : w1.cell? ⟨b2, 1, none⟩ = some (.int .i64 (s : Int)) := hb0.cell 1
 have HT1 := zH ht0
 clear hb0 ht0
 obtain ⟨n, hn⟩ : ∃ n, n = t.length := ⟨_, rfl⟩
 have HN := zH hn
 clear hn
 have hck : k = 1 ∨ k = 2 ∨ k = 3 ∨ k = 4 ∨ k = 5 := by omega
 clear hk
 rcases hck with rfl | rfl | rfl | rfl | rfl
 ·have HD := zH (show Fm.right ⟨1, (s : Int), c⟩ t = (decide (n = s) && onlyOf t dec) from by rw [HN.out]; exact right_n)
  go_upto_region 3 with fail
  refine wp_region_lit ?_
  refine wM (strV t) ?_;simp only [zz]
  refine wR (v := .int .i64 (n : Int)) (w' := w1) rfl (by rw [HN.out]; exact exec_slen rfl rfl) ?_
  simp only [zz]
  by_cases he : n = s
  ·have HE := zH (show decide (n = s) = true from decide_eq_true he)
   have y5 : (n : Int) = (s : Int) := by omega
   clear he
   go_wp2_with (go_at_call 120; refine (all_walk t _ HL.out).mono ?_; rintro e w2 ⟨rfl, rfl⟩)
   go_ret
   rw [HD.out, HE.out]
   exact ⟨by simp, HT1.out⟩
  ·have HE := zH (show decide (n = s) = false from decide_eq_false he)
   have y5 : ¬ ((n : Int) = (s : Int)) := by omega
   clear he
   go_wp2_with fail
   go_ret
   rw [HD.out, HE.out]
   exact ⟨by simp, HT1.out⟩
 ·have HD := zH (show Fm.right ⟨2, (s : Int), c⟩ t = (decide (1 ≤ n ∧ n ≤ s) && onlyOf t dec) from by rw [HN.out]; exact right_l)
  go_upto_region 5 with fail
  refine wp_region_lit ?_
  refine wM (strV t) ?_;simp only [zz]
  refine wR (v := .int .i64 (n : Int)) (w' := w1) rfl (by rw [HN.out]; exact exec_slen rfl rfl) ?_
  simp only [zz]
  by_cases h1 : 1 ≤ n
  ·refine wR (v := .bool true) (w' := w1) rfl (by go_simp <;> omega) ?_
   simp only [zz];refine wM (.bool true) ?_;simp only [zz];refine wM (strV t) ?_;simp only [zz]
   refine wR (v := .int .i64 (n : Int)) (w' := w1) rfl (by rw [HN.out]; exact exec_slen rfl rfl) ?_
   simp only [zz]
   by_cases h2 : n ≤ s
   ·have HE := zH (show decide (1 ≤ n ∧ n ≤ s) = true from decide_eq_true ⟨h1, h2⟩)
    have y5 : (n : Int) ≤ (s : Int) := by omega
    clear h1 h2
    go_wp2_with (go_at_call 120; refine (all_walk t _ HL.out).mono ?_; rintro e w2 ⟨rfl, rfl⟩)
    go_ret
    rw [HD.out, HE.out]
    exact ⟨by simp, HT1.out⟩
   ·have HE := zH (show decide (1 ≤ n ∧ n ≤ s) = false from decide_eq_false (by omega))
    have y5 : ¬ ((n : Int) ≤ (s : Int)) := by omega
    clear h1 h2
    go_wp2_with fail
    go_ret
    rw [HD.out, HE.out]
    exact ⟨by simp, HT1.out⟩
  ·have HE := zH (show decide (1 ≤ n ∧ n ≤ s) = false from decide_eq_false (by omega))
   have y5 : ¬ (1 ≤ (n : Int)) := by omega
   clear h1
   go_wp2_with fail
   go_ret
   rw [HD.out, HE.out]
   exact ⟨by simp, HT1.out⟩
 ·have HD := zH (show Fm.right ⟨3, (s : Int), c⟩ t = (decide (n = s) && onlyOf t sgn) from by rw [HN.out]; exact right_an)
  go_upto_region 9 with fail
  go_wp2_with fail
  go_loopg [5] n (fun gk i wr => ∃ k : Nat, k + gk = n ∧ i = .int .i64 (k : Int) ∧ wr = w1 ∧ onlyOf (t.take k) sgn = true)
  case atStart => exact ⟨0, by omega, rfl, rfl, rfl⟩
  obtain ⟨k, hkl, rfl, rfl, hin⟩ := hrel
  have HKL := zH hkl
  have HIN := zH hin
  clear hkl hin
  go_upto_region 10 with fail
  refine wp_region_lit ?_
  refine wM (.int .i64 (k : Int)) ?_;simp only [zz];refine wM (strV t) ?_;simp only [zz]
  refine wR (v := .int .i64 (n : Int)) (w' := wr) rfl (by rw [HN.out]; exact exec_slen rfl rfl) ?_
  simp only [zz]
  by_cases hlt : k < n
  ·have y1 : (k : Int) < (n : Int) := by omega
   have y3 : (n : Int) ≤ 9223372036854775807 := by have := HN.out; have := HL.out; omega
   go_upto_region 12 with fail
   refine wp_region_lit ?_
   refine wM (strV t) ?_;simp only [zz];refine wM (.int .i64 (k : Int)) ?_;simp only [zz]
   refine wR (v := .int .u8 ((t.getD k 0).toNat : Int)) (w' := wr) rfl (exec_sidx rfl rfl rfl (by rw [← HN.out]; exact hlt)) ?_
   simp only [zz]
   have HLT := zH hlt
   clear hlt
   have hd := sign_walk (t.getD k 0) wr
   have hp : sgn.contains (t.getD k 0) = false → onlyOf t sgn = false := only_part (by rw [← HN.out]; exact HLT.out)
   have hs : sgn.contains (t.getD k 0) = true → onlyOf (t.take (k + 1)) sgn = true := only_step (by rw [← HN.out]; exact HLT.out) HIN.out
   have HP := zH hp
   have HSS := zH hs
   clear hp hs HIN
   generalize t.getD k 0 = b at *
   cases hq : sgn.contains b with
   | true =>
     rw [hq] at hd
     have HIN := zH (HSS.out hq)
     go_wp2_with (go_at_call 121; refine hd.mono ?_; rintro e w2 ⟨rfl, rfl⟩)
     go_roundg (gk - 1)
     case measure => have := HKL.out; have := HLT.out; omega
     case rel => exact ⟨k + 1, by have := HKL.out; have := HLT.out; omega, by go_num, rfl, HIN.out⟩
   | false =>
     rw [hq] at hd
     have HIN := zH (HP.out hq)
     go_wp2_with (go_at_call 121; refine hd.mono ?_; rintro e w2 ⟨rfl, rfl⟩)
     go_ret
     rw [HD.out, HIN.out, Bool.and_false]
     exact ⟨rfl, HT1.out⟩
  ·have hke : k = n := by have := HKL.out; omega
   have y1 : ¬ ((k : Int) < (n : Int)) := by omega
   have HALL := zH (show onlyOf t sgn = true by
    have := HIN.out
    rwa [List.take_of_length_le (by rw [← HN.out]; omega)] at this)
   clear hlt hke
   go_upto_region 14 with fail
   refine wp_region_lit ?_
   refine wM (strV t) ?_;simp only [zz]
   refine wR (v := .int .i64 (n : Int)) (w' := wr) rfl (by rw [HN.out]; exact exec_slen rfl rfl) ?_
   simp only [zz]
   refine wR (v := .pointer (some ⟨b2, 1, none⟩)) (w' := wr) rfl (by go_simp) ?_
   simp only [zz];refine wS (.int .i64 (s : Int)) (exec_load1 rfl rfl (by kernel_rfl) c1) ?_;simp only [zz]
   by_cases he : n = s
   ·have HE := zH (show decide (n = s) = true from decide_eq_true he)
    refine wR (v := .bool true) (w' := wr) rfl (by go_simp <;> omega) ?_
    simp only [zz]
    clear he
    go_wp2_with fail
    go_ret
    rw [HD.out, HALL.out, HE.out]
    exact ⟨rfl, HT1.out⟩
   ·have HE := zH (show decide (n = s) = false from decide_eq_false he)
    refine wR (v := .bool false) (w' := wr) rfl (by go_simp <;> omega) ?_
    simp only [zz]
    clear he
    go_wp2_with fail
    go_ret
    rw [HD.out, HE.out, Bool.false_and]
    exact ⟨rfl, HT1.out⟩
 ·have HD := zH (show Fm.right ⟨4, (s : Int), c⟩ t = (decide (n = 2 * s) && onlyOf t hexs) from by rw [HN.out]; exact right_b)
  go_upto_region 15 with fail
  go_wp2_with fail
  go_loopg [6] n (fun gk i wr => ∃ k : Nat, k + gk = n ∧ i = .int .i64 (k : Int) ∧ wr = w1 ∧ onlyOf (t.take k) hexs = true)
  case atStart => exact ⟨0, by omega, rfl, rfl, rfl⟩
  obtain ⟨k, hkl, rfl, rfl, hin⟩ := hrel
  have HKL := zH hkl
  have HIN := zH hin
  clear hkl hin
  go_upto_region 16 with fail
  refine wp_region_lit ?_
  refine wM (.int .i64 (k : Int)) ?_;simp only [zz];refine wM (strV t) ?_;simp only [zz]
  refine wR (v := .int .i64 (n : Int)) (w' := wr) rfl (by rw [HN.out]; exact exec_slen rfl rfl) ?_
  simp only [zz]
  by_cases hlt : k < n
  ·have y1 : (k : Int) < (n : Int) := by omega
   have y3 : (n : Int) ≤ 9223372036854775807 := by have := HN.out; have := HL.out; omega
   go_upto_region 18 with fail
   refine wp_region_lit ?_
   refine wM (strV t) ?_;simp only [zz];refine wM (.int .i64 (k : Int)) ?_;simp only [zz]
   refine wR (v := .int .u8 ((t.getD k 0).toNat : Int)) (w' := wr) rfl (exec_sidx rfl rfl rfl (by rw [← HN.out]; exact hlt)) ?_
   simp only [zz]
   have HLT := zH hlt
   clear hlt
   have hd := hex_walk (t.getD k 0) wr
   have hp : hexs.contains (t.getD k 0) = false → onlyOf t hexs = false := only_part (by rw [← HN.out]; exact HLT.out)
   have hs : hexs.contains (t.getD k 0) = true → onlyOf (t.take (k + 1)) hexs = true := only_step (by rw [← HN.out]; exact HLT.out) HIN.out
   have HP := zH hp
   have HSS := zH hs
   clear hp hs HIN
   generalize t.getD k 0 = b at *
   cases hq : hexs.contains b with
   | true =>
     rw [hq] at hd
     have HIN := zH (HSS.out hq)
     go_wp2_with (go_at_call 122; refine hd.mono ?_; rintro e w2 ⟨rfl, rfl⟩)
     go_roundg (gk - 1)
     case measure => have := HKL.out; have := HLT.out; omega
     case rel => exact ⟨k + 1, by have := HKL.out; have := HLT.out; omega, by go_num, rfl, HIN.out⟩
   | false =>
     rw [hq] at hd
     have HIN := zH (HP.out hq)
     go_wp2_with (go_at_call 122; refine hd.mono ?_; rintro e w2 ⟨rfl, rfl⟩)
     go_ret
     rw [HD.out, HIN.out, Bool.and_false]
     exact ⟨rfl, HT1.out⟩
  ·have hke : k = n := by have := HKL.out; omega
   have y1 : ¬ ((k : Int) < (n : Int)) := by omega
   have HALL := zH (show onlyOf t hexs = true by
    have := HIN.out
    rwa [List.take_of_length_le (by rw [← HN.out]; omega)] at this)
   clear hlt hke
   go_upto_region 20 with fail
   refine wp_region_lit ?_
   refine wM (strV t) ?_;simp only [zz]
   refine wR (v := .int .i64 (n : Int)) (w' := wr) rfl (by rw [HN.out]; exact exec_slen rfl rfl) ?_
   simp only [zz]
   refine wR (v := .pointer (some ⟨b2, 1, none⟩)) (w' := wr) rfl (by go_simp) ?_
   simp only [zz];refine wS (.int .i64 (s : Int)) (exec_load1 rfl rfl (by kernel_rfl) c1) ?_;simp only [zz]
   refine wR (v := .int .i64 ((2 * s : Nat) : Int)) (w' := wr) rfl (by have := HS.out; go_simp; rw [wrap_small (by omega) (by omega)]; try omega) ?_
   simp only [zz]
   by_cases he : n = 2 * s
   ·have HE := zH (show decide (n = 2 * s) = true from decide_eq_true he)
    refine wR (v := .bool true) (w' := wr) rfl (by go_simp <;> omega) ?_
    simp only [zz]
    clear he
    go_wp2_with fail
    go_ret
    rw [HD.out, HALL.out, HE.out]
    exact ⟨rfl, HT1.out⟩
   ·have HE := zH (show decide (n = 2 * s) = false from decide_eq_false he)
    refine wR (v := .bool false) (w' := wr) rfl (by go_simp <;> omega) ?_
    simp only [zz]
    clear he
    go_wp2_with fail
    go_ret
    rw [HD.out, HE.out, Bool.false_and]
    exact ⟨rfl, HT1.out⟩
 ·have HD := zH (show Fm.right ⟨5, (s : Int), c⟩ t = (decide (n = s + 1) && (mk.contains (t.getD 0 0) && onlyOf (t.drop 1) dec)) from by rw [HN.out]; exact right_x)
  go_upto_region 7 with fail
  refine wp_region_lit ?_
  refine wM (strV t) ?_;simp only [zz]
  refine wR (v := .int .i64 (n : Int)) (w' := w1) rfl (by rw [HN.out]; exact exec_slen rfl rfl) ?_
  simp only [zz]
  refine wR (v := .pointer (some ⟨b2, 1, none⟩)) (w' := w1) rfl (by go_simp) ?_
  simp only [zz];refine wS (.int .i64 (s : Int)) (exec_load1 rfl rfl (by kernel_rfl) c1) ?_;simp only [zz]
  refine wR (v := .int .i64 ((s + 1 : Nat) : Int)) (w' := w1) rfl (by have := HS.out; go_simp; rw [wrap_small (by omega) (by omega)]; try omega) ?_
  simp only [zz]
  by_cases he : n = s + 1
  ·have HE := zH (show decide (n = s + 1) = true from decide_eq_true he)
   refine wR (v := .bool true) (w' := w1) rfl (by go_simp <;> omega) ?_
   simp only [zz];refine wM (.bool true) ?_;simp only [zz];refine wM (strV t) ?_;simp only [zz]
   refine wR (v := .int .u8 ((t.getD 0 0).toNat : Int)) (w' := w1) rfl (exec_sidx rfl rfl rfl (by rw [← HN.out]; omega)) ?_
   simp only [zz]
   have HN1 := zH (show 1 ≤ t.length by rw [← HN.out]; omega)
   clear he
   have hm := mk_byte (t.getD 0 0)
   obtain ⟨b, hbe⟩ : ∃ b, b = t.getD 0 0 := ⟨_, rfl⟩
   rw [← hbe] at hm HD ⊢
   have HBE := zH hbe
   clear hbe
   have HM := zH hm
   clear hm
   have hx : ∀ W : World, Calls Tryz.prog 120 #[strV (t.drop 1)] W fun e w' => e = .returned (.bool (onlyOf (t.drop 1) dec)) ∧ w' = W := fun W => all_walk (t.drop 1) W (by have := HL.out; simp; omega)
   obtain ⟨td, htd⟩ : ∃ td, td = t.drop 1 := ⟨_, rfl⟩
   rw [← htd] at hx HD
   have HTD := zH htd
   have HX := zH hx
   clear hx htd
   generalize hq : onlyOf td dec = q at *
   clear hq
   by_cases h7 : b.toNat = 67
   ·have HM2 := zH (show mk.contains b = true from by rw [HM.out, decide_eq_true h7]; rfl)
    refine wR (v := .bool true) (w' := w1) rfl (by go_simp <;> omega) ?_
    simp only [zz];refine wM (.bool true) ?_;simp only [zz]
    refine wpList_skip rfl ?_
    simp only [zz]
    refine wpList_skip rfl ?_
    simp only [zz]
    refine wpList_skip rfl ?_
    simp only [zz]
    refine wR (v := .bool true) (w' := w1) rfl (by go_simp) ?_
    simp only [zz]
    refine wR (v := .bool true) (w' := w1) rfl (by go_simp) ?_
    simp only [zz];refine wM (.bool true) ?_;simp only [zz];refine wM (strV t) ?_;simp only [zz]
    refine wR (v := strV td) (w' := w1) rfl (by rw [HTD.out]; exact exec_sfrom (n := 1) rfl rfl rfl HN1.out) ?_
    simp only [zz]
    go_wp2_with (go_at_call 120; refine (HX.out _).mono ?_; rintro e w2 ⟨rfl, rfl⟩)
    go_ret
    rw [HD.out, HE.out, HM2.out]
    exact ⟨by simp, HT1.out⟩
   ·by_cases h8 : b.toNat = 68
    ·have HM2 := zH (show mk.contains b = true from by rw [HM.out, decide_eq_true h8, Bool.or_true])
     refine wR (v := .bool false) (w' := w1) rfl (by go_simp <;> omega) ?_
     simp only [zz];refine wM (.bool false) ?_;simp only [zz];refine wM (strV t) ?_;simp only [zz]
     refine wR (v := .int .u8 (b.toNat : Int)) (w' := w1) rfl (by rw [HBE.out]; exact exec_sidx rfl rfl rfl (by have := HN1.out; omega)) ?_
     simp only [zz]
     refine wR (v := .bool true) (w' := w1) rfl (by go_simp <;> omega) ?_
     simp only [zz]
     refine wR (v := .bool true) (w' := w1) rfl (by go_simp) ?_
     simp only [zz]
     refine wR (v := .bool true) (w' := w1) rfl (by go_simp) ?_
     simp only [zz];refine wM (.bool true) ?_;simp only [zz];refine wM (strV t) ?_;simp only [zz]
     refine wR (v := strV td) (w' := w1) rfl (by rw [HTD.out]; exact exec_sfrom (n := 1) rfl rfl rfl HN1.out) ?_
     simp only [zz]
     go_wp2_with (go_at_call 120; refine (HX.out _).mono ?_; rintro e w2 ⟨rfl, rfl⟩)
     go_ret
     rw [HD.out, HE.out, HM2.out]
     exact ⟨by simp, HT1.out⟩
    ·have HM2 := zH (show mk.contains b = false from by rw [HM.out]; simp only [decide_eq_false h7, decide_eq_false h8]; rfl)
     refine wR (v := .bool false) (w' := w1) rfl (by go_simp <;> omega) ?_
     simp only [zz];refine wM (.bool false) ?_;simp only [zz];refine wM (strV t) ?_;simp only [zz]
     refine wR (v := .int .u8 (b.toNat : Int)) (w' := w1) rfl (by rw [HBE.out]; exact exec_sidx rfl rfl rfl (by have := HN1.out; omega)) ?_
     simp only [zz]
     refine wR (v := .bool false) (w' := w1) rfl (by go_simp <;> omega) ?_
     simp only [zz]
     go_wp2_with fail
     go_ret
     rw [HD.out, HM2.out, Bool.false_and, Bool.and_false]
     exact ⟨rfl, HT1.out⟩
  ·have HE := zH (show decide (n = s + 1) = false from decide_eq_false he)
   have y5 : ¬ ((n : Int) = ((s + 1 : Nat) : Int)) := by omega
   clear he
   go_wp2_with fail
   go_ret
   rw [HD.out, HE.out]
   exact ⟨by simp, HT1.out⟩
theorem fld_neq {a : Act} {o : Oper} {W : World} {x y : Operand} {u : TypeId} {f g : Fld} (ho : o.op = .binOp .neq 38 x y u) (hx : a.eval x = .agg (fldA f)) (hy : a.eval y = .agg (fldA g)) : (execOp a.eval o).run Tryz.prog W = .ok (.value (.bool (!(decide (f = g))))) W := by
 unfold execOp
 simp only [ho, hx, hy, fldA, strV]
 go_simp
 obtain ⟨a1, a2⟩ := f
 obtain ⟨b1, b2⟩ := g
 by_cases h : a1 = b1 <;> by_cases h2 : a2 = b2 <;> simp [h, h2]
theorem fsame_step {fs gs : List Fld} {k : Nat} {f g : Fld} (h : fs.take k = gs.take k) (hf : fs[k]? = some f) (hg : gs[k]? = some g) (e : f = g) : fs.take (k + 1) = gs.take (k + 1) := by
 rw [List.take_add_one, List.take_add_one, h, hf, hg, e]
theorem fsame_not {fs gs : List Fld} {k : Nat} {f g : Fld} (hf : fs[k]? = some f) (hg : gs[k]? = some g) (e : ¬ f = g) : ¬ fs = gs := by
 rintro rfl
 rw [hf] at hg
 injection hg with hg
 exact e hg
theorem Same_walk {w : World} {ty1 ty2 : Int} {A1 A2 : Option Addr} {n1 c1 n2 c2 : Nat} {fs1 fs2 : List Fld} (h1 : Fl w A1 n1 fs1) (h2 : Fl w A2 n2 fs2) :
 Calls Tryz.prog 11 #[msgV ty1 A1 n1 c1, msgV ty2 A2 n2 c2] w fun e w' => e = .returned (.bool (decide (ty1 = ty2 ∧ fs1 = fs2))) ∧ Turn nowhere w w' := by
 unfold msgV
 have hb1 := (Blk.new w 29 #[.int .i64 ty1, .slice A1 n1 c1]).alloc (.cells #[.int .i64 ty2, .slice A2 n2 c2] 29)
 have hb2 := Blk.new (w.alloc (.cells #[.int .i64 ty1, .slice A1 n1 c1] 29)) 29 #[.int .i64 ty2, .slice A2 n2 c2]
 have hu := ((Turn.refl nowhere w).alloc (.cells #[.int .i64 ty1, .slice A1 n1 c1] 29)).alloc (.cells #[.int .i64 ty2, .slice A2 n2 c2] 29)
 rw [show (w.alloc (.cells #[.int .i64 ty1, .slice A1 n1 c1] 29)).heap.size = w.heap.size + 1 from by simp] at hb2
 have HF1 := zH (h1.still hu)
 have HF2 := zH (h2.still hu)
 have HN1 := zH h1.1
 have HN2 := zH h2.1
 have HNM := zH h1.2.1
 have y9 : (n1 : Int) ≤ 140737488355328 := by
  have := h1.2.1
  omega
 have HU := zH hu
 have HB1 := zH hb1
 have HB2 := zH hb2
 clear h1 h2 hb1 hb2 hu
 go_enter Tryz.func11, Tryz.ntmps11
 go_upto_region 1 with fail
 generalize (w.alloc (.cells #[.int .i64 ty1, .slice A1 n1 c1] 29)).alloc (.cells #[.int .i64 ty2, .slice A2 n2 c2] 29) = w1 at *
 obtain ⟨p2, hp2⟩ : ∃ p, p = w.heap.size + 1 := ⟨_, rfl⟩
 obtain ⟨p1, hp1⟩ : ∃ p, p = w.heap.size := ⟨_, rfl⟩
 rw [← hp2] at HB2 ⊢
 rw [← hp1] at HB1 ⊢
 clear hp1 hp2
 refine wp_region_lit ?_
 refine wS (.pointer (some ⟨p1, 0, none⟩)) (xF 0 0) ?_;simp only [zz];refine wS (.int .i64 ty1) (xL (HB1.out.cell 0)) ?_;simp only [zz];refine wS (.pointer (some ⟨p2, 0, none⟩)) (xF 0 0) ?_;simp only [zz];refine wS (.int .i64 ty2) (xL (HB2.out.cell 0)) ?_;simp only [zz]
 by_cases ht : ty1 = ty2
 case neg =>
  have HR := zH (show decide (ty1 = ty2 ∧ fs1 = fs2) = false from decide_eq_false (fun h => ht h.1))
  refine wS (.bool true) (ix_neq rfl rfl rfl (decide_eq_true ht)) ?_;simp only [zz];refine wM (.bool true) ?_;simp only [zz]
  refine wpList_skip rfl ?_
  simp only [zz]
  refine wpList_skip rfl ?_
  simp only [zz]
  refine wpList_skip rfl ?_
  simp only [zz]
  refine wpList_skip rfl ?_
  simp only [zz]
  refine wpList_skip rfl ?_
  simp only [zz]
  refine wpList_skip rfl ?_
  simp only [zz]
  refine wpList_skip rfl ?_
  simp only [zz];refine wS (.bool true) (ix_pickT rfl rfl rfl) ?_;simp only [zz]
  clear ht
  go_wp2_with fail
  go_ret
  rw [HR.out]
  exact ⟨rfl, HU.out⟩
 refine wS (.bool false) (ix_neq rfl rfl rfl (decide_eq_false (fun h => h ht))) ?_;simp only [zz];refine wM (.bool false) ?_;simp only [zz];refine wS (.pointer (some ⟨p1, 1, none⟩)) (xF 0 1) ?_;simp only [zz];refine wS (.slice A1 n1 c1) (xL (HB1.out.cell 1)) ?_;simp only [zz];refine wS (.int .i64 (n1 : Int)) (gx_len rfl rfl Tryz.underlying27) ?_;simp only [zz];refine wS (.pointer (some ⟨p2, 1, none⟩)) (xF 0 1) ?_;simp only [zz];refine wS (.slice A2 n2 c2) (xL (HB2.out.cell 1)) ?_;simp only [zz];refine wS (.int .i64 (n2 : Int)) (gx_len rfl rfl Tryz.underlying27) ?_;simp only [zz]
 by_cases hn : n1 = n2
 case neg =>
  have HR := zH (show decide (ty1 = ty2 ∧ fs1 = fs2) = false from decide_eq_false (fun h => hn (by rw [← HN1.out, ← HN2.out, h.2])))
  refine wS (.bool true) (ix_neq rfl rfl rfl (decide_eq_true (by omega))) ?_;simp only [zz];refine wS (.bool true) (ix_pickF rfl rfl rfl) ?_;simp only [zz]
  clear ht hn
  go_wp2_with fail
  go_ret
  rw [HR.out]
  exact ⟨rfl, HU.out⟩
 subst hn
 subst ht
 refine wS (.bool false) (ix_neq rfl rfl rfl (by simp)) ?_;simp only [zz];refine wS (.bool false) (ix_pickF rfl rfl rfl) ?_;simp only [zz]
 go_wp2_with fail
 go_loopg [5] n1 (fun gk i wr => ∃ k : Nat, k + gk = n1 ∧ i = .int .i64 (k : Int) ∧ Turn nowhere w1 wr ∧ fs1.take k = fs2.take k)
 case atStart => exact ⟨0, by omega, rfl, Turn.refl _ _, rfl⟩
 obtain ⟨k, hkl, rfl, htr, htk⟩ := hrel
 have HKL := zH hkl
 have HTR := zH htr
 have HTK := zH htk
 have HB3 := zH (HB1.out.turn htr (fun e => e))
 have HB4 := zH (HB2.out.turn htr (fun e => e))
 clear hkl htr htk
 go_upto_region 4 with fail
 refine wp_region_lit ?_
 refine wM (.int .i64 (k : Int)) ?_;simp only [zz];refine wS (.pointer (some ⟨p1, 1, none⟩)) (xF 0 1) ?_;simp only [zz];refine wS (.slice A1 n1 c1) (xL (HB3.out.cell 1)) ?_;simp only [zz];refine wS (.int .i64 (n1 : Int)) (gx_len rfl rfl Tryz.underlying27) ?_;simp only [zz]
 by_cases hlt : k < n1
 ·have HLT := zH hlt
  have y1 : (k : Int) < (n1 : Int) := by omega
  obtain ⟨B1, O1, rfl, hr1⟩ := HF1.out.2.2 (by omega)
  obtain ⟨B2, O2, rfl, hr2⟩ := HF2.out.2.2 (by omega)
  obtain ⟨f1, hf1⟩ : ∃ f, fs1[k]? = some f := ⟨_, List.getElem?_eq_getElem (show k < fs1.length from by rw [HN1.out]; exact hlt)⟩
  obtain ⟨f2, hf2⟩ : ∃ f, fs2[k]? = some f := ⟨_, List.getElem?_eq_getElem (show k < fs2.length from by rw [HN2.out]; exact hlt)⟩
  have hq1 : wr.rangeAt B1 (O1 + k * 2) (fldA f1).toList := fun j v hv => (HTR.out.cell (World.block_lt_of_cell? _ _ (hr1 k f1 hf1 j v hv)) (fun e => e)).trans (hr1 k f1 hf1 j v hv)
  have hq2 : wr.rangeAt B2 (O2 + k * 2) (fldA f2).toList := fun j v hv => (HTR.out.cell (World.block_lt_of_cell? _ _ (hr2 k f2 hf2 j v hv)) (fun e => e)).trans (hr2 k f2 hf2 j v hv)
  have HF3 := zH hf1
  have HF4 := zH hf2
  refine wS (.bool true) (ix_lss rfl rfl rfl (decide_eq_true (by omega))) ?_;simp only [zz]
  have hS0 : (fun W : World => Blk W p1 29 #[.int .i64 ty1, .slice (some ⟨B1, O1, none⟩) n1 c1] ∧ Blk W p2 29 #[.int .i64 ty1, .slice (some ⟨B2, O2, none⟩) n1 c2] ∧ W.rangeAt B1 (O1 + k * 2) (fldA f1).toList ∧ W.rangeAt B2 (O2 + k * 2) (fldA f2).toList) wr.drew := ⟨HB3.out.drew, HB4.out.drew, hq1, hq2⟩
  have HTD := zH (HTR.out.next (Turn.drew (Turn.refl nowhere wr)))
  clear hr1 hr2 hf1 hf2 hq1 hq2 hlt HB3 HB4 HTR
  go_upto_region 6 with fail
  refine wp_region_alw (fun W => Blk W p1 29 #[.int .i64 ty1, .slice (some ⟨B1, O1, none⟩) n1 c1] ∧ Blk W p2 29 #[.int .i64 ty1, .slice (some ⟨B2, O2, none⟩) n1 c2] ∧ W.rangeAt B1 (O1 + k * 2) (fldA f1).toList ∧ W.rangeAt B2 (O2 + k * 2) (fldA f2).toList) (by kernel_rfl) ?_
  generalize wr.drew = w3 at *
  refine aU 0 (.pointer (some ⟨p1, 1, none⟩)) rfl (fun W hW => xF 0 1) hS0 ?_;simp only [zz];refine aU 1 (.slice (some ⟨B1, O1, none⟩) n1 c1) rfl (fun W hW => xL (hW.1.cell 1)) hS0 ?_;simp only [zz];refine aM 2 (.int .i64 (k : Int)) hS0 ?_;simp only [zz];refine aU 3 (.pointer (some ⟨B1, O1 + k * 2, none⟩)) rfl (fun W hW => gx_iaddr (i := k) (sz := 2) rfl rfl rfl Tryz.underlying27 size_field HLT.out (by omega)) hS0 ?_;simp only [zz];refine aU 4 (.agg (fldA f1)) rfl (fun W hW => gx_loads rfl rfl hW.2.2.1 Tryz.underlying38 rfl (by rw [size_field]; rfl)) hS0 ?_;simp only [zz];refine aU 5 (.pointer (some ⟨p2, 1, none⟩)) rfl (fun W hW => xF 0 1) hS0 ?_;simp only [zz];refine aU 6 (.slice (some ⟨B2, O2, none⟩) n1 c2) rfl (fun W hW => xL (hW.2.1.cell 1)) hS0 ?_;simp only [zz];refine aM 7 (.int .i64 (k : Int)) hS0 ?_;simp only [zz];refine aU 8 (.pointer (some ⟨B2, O2 + k * 2, none⟩)) rfl (fun W hW => gx_iaddr (i := k) (sz := 2) rfl rfl rfl Tryz.underlying27 size_field HLT.out (by omega)) hS0 ?_;simp only [zz];refine aU 9 (.agg (fldA f2)) rfl (fun W hW => gx_loads rfl rfl hW.2.2.2 Tryz.underlying38 rfl (by rw [size_field]; rfl)) hS0 ?_;simp only [zz];refine aU 10 (.bool (!(decide (f1 = f2)))) rfl (fun W hW => fld_neq rfl rfl rfl) hS0 ?_;simp only [zz]
  refine alw_done rfl ?_
  clear hS0
  refine NoPanic.normal ?_
  by_cases heq : f1 = f2
  ·have HTK2 := zH (fsame_step HTK.out HF3.out HF4.out heq)
   rw [decide_eq_true heq]
   clear heq
   go_wp2_with fail
   go_roundg (gk - 1)
   case measure => have := HKL.out; have := HLT.out; omega
   case rel => exact ⟨k + 1, by have := HKL.out; have := HLT.out; omega, by go_num, HTD.out, HTK2.out⟩
  ·have HR := zH (show decide (fs1 = fs2) = false from decide_eq_false (fun h => fsame_not HF3.out HF4.out heq h))
   rw [decide_eq_false heq]
   clear heq
   go_wp2_with fail
   go_ret
   rw [HR.out]
   exact ⟨rfl, HU.out.next HTD.out⟩
 ·have HR := zH (show decide (fs1 = fs2) = true from by
   have h1 := HTK.out
   rw [List.take_of_length_le (by rw [HN1.out]; omega), List.take_of_length_le (by rw [HN2.out]; omega)] at h1
   exact decide_eq_true h1)
  refine wS (.bool false) (ix_lss rfl rfl rfl (decide_eq_false (by omega))) ?_;simp only [zz]
  clear hlt
  go_wp2_with fail
  go_ret
  rw [HR.out]
  exact ⟨rfl, HU.out.next HTR.out⟩
theorem rcheck_walk {f : Fm} {t : List UInt8} (w : World) (hl : t.length ≤ 9223372036854775807) :
 Calls Tryz.prog 77 #[fmV f, strV t] w fun e w' => e = .returned (.int .i64 (f.check t)) ∧ Turn nowhere w w' := by
 have HM := zH (fun W => rmay_walk f W)
 have hr : f.may = true → ∀ W, Calls Tryz.prog 99 #[fmV f, strV t] W fun e w' => e = .returned (.bool (f.right t)) ∧ Turn nowhere W w' := by
  intro hm W
  obtain ⟨k, s, c, rfl, h1, h2, h3⟩ := fm_exp hm
  exact rright_walk W (by omega) h3 hl
 have HR := zH hr
 clear hr hl
 have hck : f.check t = if f.may = true then if f.right t = true then 0 else 41 else 40 := rfl
 have HCK := zH hck
 clear hck
 obtain ⟨x0, x1, x2⟩ := f
 have hfv : fmV ⟨x0, x1, x2⟩ = .agg #[.int .i64 x0, .int .i64 x1, .int .i64 x2] := rfl
 rw [hfv] at HM HR ⊢
 clear hfv
 go_enter Tryz.func77, Tryz.ntmps77
 go_upto_region 1 with fail
 have hb0 := Blk.new w 105 #[.int .i64 x0, .int .i64 x1, .int .i64 x2]
 have ht0 := (Turn.refl nowhere w).alloc (.cells #[.int .i64 x0, .int .i64 x1, .int .i64 x2] 105)
 generalize (w.alloc (.cells #[.int .i64 x0, .int .i64 x1, .int .i64 x2] 105)) = w0 at *
 generalize w.heap.size = b2 at *
 have HB0 := zH hb0
 have HT0 := zH ht0
 clear hb0 ht0
 refine wp_region_lit ?_
 refine wS (.agg #[.int .i64 x0, .int .i64 x1, .int .i64 x2]) (exec_load rfl rfl (load_blkForm HB0.out)) ?_;simp only [zz]
 cases hm : Fm.may ⟨x0, x1, x2⟩ with
 | false =>
   rw [hm] at HM HCK
   go_wp2_with (go_at_call 98; refine (HM.out _).mono ?_; rintro e w1 ⟨rfl, ht1⟩)
   go_ret
   rw [HCK.out]
   exact ⟨rfl, HT0.out.next ht1⟩
 | true =>
   rw [hm] at HM HCK
   have HRR := zH (HR.out hm)
   clear HR
   go_upto_region 3 with (go_at_call 98; refine (HM.out _).mono ?_; rintro e w1 ⟨rfl, ht1⟩)
   have HT1 := zH (HT0.out.next ht1)
   have HB1 := zH (HB0.out.turn ht1 (fun e => e))
   clear ht1
   refine wp_region_lit ?_
   refine wS (.agg #[.int .i64 x0, .int .i64 x1, .int .i64 x2]) (exec_load rfl rfl (load_blkForm HB1.out)) ?_;simp only [zz];refine wM (strV t) ?_;simp only [zz]
   cases hrt : Fm.right ⟨x0, x1, x2⟩ t with
   | false =>
     rw [hrt] at HRR HCK
     go_wp2_with (go_at_call 99; refine (HRR.out _).mono ?_; rintro e w2 ⟨rfl, ht2⟩)
     go_ret
     rw [HCK.out]
     exact ⟨rfl, HT1.out.next ht2⟩
   | true =>
     rw [hrt] at HRR HCK
     go_wp2_with (go_at_call 99; refine (HRR.out _).mono ?_; rintro e w2 ⟨rfl, ht2⟩)
     go_ret
     rw [HCK.out]
     exact ⟨rfl, HT1.out.next ht2⟩
theorem turn_below {w w1 w2 : World} (h : Turn nowhere w w1) (g : Below w.heap.size w1 w2) : Turn nowhere w w2 :=
 ⟨g.os.trans h.os, g.tape.trans h.tape, g.output.trans h.output, Nat.le_trans h.size g.size, fun k hk hn => (g.block k hk).trans (h.block k hk hn)⟩
theorem exec_make0 {a : Act} {o : Oper} {W : World} (ho : o.op = .buildSlice 22 0 #[]) : (execOp a.eval o).run Tryz.prog W = .ok (.value (.slice (some ⟨W.heap.size, 0, none⟩) 0 0)) (W.alloc (.cells #[] 5)) := by
 unfold execOp
 simp only [ho]
 kernel_rfl
end Go.Proofs.YtkagijifkpoplaaGreatDoor
namespace Go.Proofs.YtkagijifkpoplaaGreatDoor.Fdd
def ebc (c : UInt8) : UInt8 := if dec.contains c then c + 192 else if 65 ≤ c.toNat ∧ c.toNat ≤ 73 then c + 128 else if 74 ≤ c.toNat ∧ c.toNat ≤ 82 then c + 135 else if 83 ≤ c.toNat ∧ c.toNat ≤ 90 then c + 143 else 64
def vOf (c : UInt8) : Nat := if dec.contains c then c.toNat - 48 else c.toNat - 87
def upc (c : UInt8) : UInt8 := if 97 ≤ c.toNat then c - 32 else c
def rpack : List UInt8 → List UInt8
 | a :: b :: r => UInt8.ofNat (16 * vOf a + vOf b) :: rpack r
 | _ => []
def rsigns (code : Int) (t : List UInt8) : List UInt8 := if code = 3 then t.map ebc else t
def rdigits (code : Int) (t : List UInt8) : List UInt8 := if code = 2 then rpack (padded t) else rsigns code t
def rbytes (f : Fm) (t : List UInt8) : List UInt8 :=
 if f.kind = 1 then rdigits f.code t else if f.kind = 2 then rdigits f.code (two t.length) ++ rdigits f.code t else
 if f.kind = 5 then rsigns f.code (t.take 1) ++ rdigits f.code (t.drop 1) else if f.kind = 3 then rsigns f.code t else
 if f.code ≠ 1 then rpack (padded t) else t.map upc
theorem ebc_dec : ∀ c ∈ dec, one dec eDec c = ebc c := by decide +kernel
theorem ebc_sgn : ∀ c ∈ sgn, one sgn eSgn c = ebc c := by decide +kernel
theorem ebc_mk : ∀ c ∈ mk, one mk eMk c = ebc c := by decide +kernel
theorem id_dec : ∀ c ∈ dec, one dec dec c = c := by decide +kernel
theorem id_sgn : ∀ c ∈ sgn, one sgn sgn c = c := by decide +kernel
theorem id_mk : ∀ c ∈ mk, one mk mk c = c := by decide +kernel
theorem up_hex : ∀ c ∈ hexs, one hexs hexU c = upc c := by decide +kernel
theorem v_hex : ∀ c ∈ hexs, hexs.idxOf c = vOf c := by decide +kernel
theorem v_dec : ∀ c ∈ dec, dec.idxOf c = vOf c := by decide +kernel
theorem rpack_of {ch : List UInt8} (h : ∀ c ∈ ch, ch.idxOf c = vOf c) : ∀ t : List UInt8, (∀ c ∈ t, c ∈ ch) → rpack t = pack ch t
 | [], _ => rfl
 | [_], _ => rfl
 | a :: b :: r, ht => by
   have ha := h a (ht a (List.mem_cons_self ..))
   have hb := h b (ht b (List.mem_cons_of_mem _ (List.mem_cons_self ..)))
   have hr := rpack_of h r fun c hc => ht c (List.mem_cons_of_mem _ (List.mem_cons_of_mem _ hc))
   unfold rpack pack
   rw [ha, hb, hr]
theorem padded_in {ch t : List UInt8} (h0 : (48 : UInt8) ∈ ch) (ht : ∀ c ∈ t, c ∈ ch) : ∀ c ∈ padded t, c ∈ ch := by
 unfold padded
 split
 ·intro c hc
  rcases List.mem_cons.1 hc with rfl | hc
  ·exact h0
  ·exact ht c hc
 ·exact ht
theorem only_in {l cs : List UInt8} (h : onlyOf l cs = true) : ∀ c ∈ l, c ∈ cs := fun _ hc => onlyOf_mem h hc
theorem map_in {f g : UInt8 → UInt8} {cs : List UInt8} (h : ∀ c ∈ cs, f c = g c) {t : List UInt8} (ht : onlyOf t cs = true) : t.map f = t.map g :=
 List.map_congr_left fun c hc => h c (onlyOf_mem ht hc)
theorem enc_dig {n : Nat} {c : Nat} (hc : 1 ≤ c ∧ c ≤ 3) {t : List UInt8} (ht : onlyOf t dec = true) : (⟨n, dec, (rws c).d⟩ : Pt).enc t = rdigits (c : Int) t := by
 have hcc : c = 1 ∨ c = 2 ∨ c = 3 := by omega
 rcases hcc with rfl | rfl | rfl
 ·show t.map (one dec dec) = t
  rw [map_in id_dec ht, List.map_id' t]
 ·show pack dec (padded t) = rpack (padded t)
  exact (rpack_of v_dec _ (padded_in (by decide) (only_in ht))).symm
 ·exact map_in ebc_dec ht
theorem enc_sgn {n : Nat} {c : Nat} (hc : 1 ≤ c ∧ c ≤ 3) {t : List UInt8} (ht : onlyOf t sgn = true) : (⟨n, sgn, (rws c).s⟩ : Pt).enc t = rsigns (c : Int) t := by
 have hcc : c = 1 ∨ c = 2 ∨ c = 3 := by omega
 rcases hcc with rfl | rfl | rfl
 ·show t.map (one sgn sgn) = t
  rw [map_in id_sgn ht, List.map_id' t]
 ·show t.map (one sgn sgn) = t
  rw [map_in id_sgn ht, List.map_id' t]
 ·exact map_in ebc_sgn ht
theorem enc_mk {n : Nat} {c : Nat} (hc : 1 ≤ c ∧ c ≤ 3) {t : List UInt8} (ht : onlyOf t mk = true) : (⟨n, mk, (rws c).m⟩ : Pt).enc t = rsigns (c : Int) t := by
 have hcc : c = 1 ∨ c = 2 ∨ c = 3 := by omega
 rcases hcc with rfl | rfl | rfl
 ·show t.map (one mk mk) = t
  rw [map_in id_mk ht, List.map_id' t]
 ·show t.map (one mk mk) = t
  rw [map_in id_mk ht, List.map_id' t]
 ·exact map_in ebc_mk ht
theorem enc_hex {n : Nat} {c : Nat} (hc : 1 ≤ c ∧ c ≤ 3) {t : List UInt8} (ht : onlyOf t hexs = true) : (⟨n, hexs, (rws c).h⟩ : Pt).enc t = if (c : Int) ≠ 1 then rpack (padded t) else t.map upc := by
 have hcc : c = 1 ∨ c = 2 ∨ c = 3 := by omega
 rcases hcc with rfl | rfl | rfl
 ·exact map_in up_hex ht
 ·show pack hexs (padded t) = rpack (padded t)
  exact (rpack_of v_hex _ (padded_in (by decide) (only_in ht))).symm
 ·show pack hexs (padded t) = rpack (padded t)
  exact (rpack_of v_hex _ (padded_in (by decide) (only_in ht))).symm
theorem right_one {p : Pt} {t : List UInt8} (h : rightAll [p] t = true) : onlyOf t p.chars = true ∧ t.length = p.n := by
 unfold rightAll rightAll at h
 simp only [Bool.and_eq_true, decide_eq_true_eq, beq_iff_eq, List.drop_eq_nil_iff] at h
 obtain ⟨h1, h2, h3⟩ := h
 rw [List.take_of_length_le h3] at h2
 exact ⟨h2, by omega⟩
theorem enc_one {p : Pt} {t : List UInt8} (h : t.length = p.n) : encAll [p] t = p.enc t := by
 unfold encAll encAll
 rw [List.append_nil, List.take_of_length_le (by omega)]
theorem right_two {p q : Pt} {t : List UInt8} (h : rightAll [p, q] t = true) : p.n ≤ t.length ∧ onlyOf (t.take p.n) p.chars = true ∧ rightAll [q] (t.drop p.n) = true := by
 unfold rightAll at h
 simp only [Bool.and_eq_true, decide_eq_true_eq] at h
 exact h
theorem rbytes_put {k s c : Nat} {t : List UInt8} (hk : 1 ≤ k ∧ k ≤ 5) (hc : 1 ≤ c ∧ c ≤ 3) (hs : 1 ≤ s ∧ s ≤ 64) (hr : (nf k s c).right t = true) : rbytes (nf k s c) t = (nf k s c).put t := by
 have hkk : k = 1 ∨ k = 2 ∨ k = 3 ∨ k = 4 ∨ k = 5 := by omega
 have hcn : (c : Int).toNat = c := Int.toNat_natCast c
 rcases hkk with rfl | rfl | rfl | rfl | rfl
 ·rw [right_nl (by decide)] at hr
  rw [put_nl (by decide)]
  have e : ptsOf ((1 : Nat) : Int) (c : Int) s = [⟨s, dec, (rws c).d⟩] := by
   show [(⟨s, dec, (rws (c : Int).toNat).d⟩ : Pt)] = _
   rw [hcn]
  rw [e] at hr ⊢
  obtain ⟨h1, h2⟩ := right_one hr
  rw [enc_one h2, enc_dig hc h1]
  rfl
 ·obtain ⟨hl, hr2⟩ := ll_right hr
  rw [put_ll]
  have e1 : ptsOf 1 (c : Int) 2 = [⟨2, dec, (rws c).d⟩] := by
   show [(⟨2, dec, (rws (c : Int).toNat).d⟩ : Pt)] = _
   rw [hcn]
  have e2 : ptsOf 2 (c : Int) t.length = [⟨t.length, dec, (rws c).d⟩] := by
   show [(⟨t.length, dec, (rws (c : Int).toNat).d⟩ : Pt)] = _
   rw [hcn]
  rw [e2] at hr2
  rw [e1, e2]
  obtain ⟨h1, h2⟩ := right_one hr2
  rw [enc_one h2, enc_one (two_len _), enc_dig hc h1, enc_dig hc (two_ok (show t.length ≤ 99 by omega)).2]
  rfl
 ·rw [right_nl (by decide)] at hr
  rw [put_nl (by decide)]
  have e : ptsOf ((3 : Nat) : Int) (c : Int) s = [⟨s, sgn, (rws c).s⟩] := by
   show [(⟨s, sgn, (rws (c : Int).toNat).s⟩ : Pt)] = _
   rw [hcn]
  rw [e] at hr ⊢
  obtain ⟨h1, h2⟩ := right_one hr
  rw [enc_one h2, enc_sgn hc h1]
  rfl
 ·rw [right_nl (by decide)] at hr
  rw [put_nl (by decide)]
  have e : ptsOf ((4 : Nat) : Int) (c : Int) s = [⟨2 * s, hexs, (rws c).h⟩] := by
   show [(⟨2 * s, hexs, (rws (c : Int).toNat).h⟩ : Pt)] = _
   rw [hcn]
  rw [e] at hr ⊢
  obtain ⟨h1, h2⟩ := right_one hr
  rw [enc_one h2, enc_hex hc h1]
  rfl
 ·rw [right_nl (by decide)] at hr
  rw [put_nl (by decide)]
  have e : ptsOf ((5 : Nat) : Int) (c : Int) s = [⟨1, mk, (rws c).m⟩, ⟨s, dec, (rws c).d⟩] := by
   show [(⟨1, mk, (rws (c : Int).toNat).m⟩ : Pt), ⟨s, dec, (rws (c : Int).toNat).d⟩] = _
   rw [hcn]
  rw [e] at hr ⊢
  obtain ⟨h1, h2, h3⟩ := right_two hr
  obtain ⟨h4, h5⟩ := right_one h3
  have e2 : encAll [⟨1, mk, (rws c).m⟩, ⟨s, dec, (rws c).d⟩] t = (⟨1, mk, (rws c).m⟩ : Pt).enc (t.take 1) ++ encAll [⟨s, dec, (rws c).d⟩] (t.drop 1) := rfl
  rw [e2, enc_one h5, enc_mk hc h2, enc_dig hc h4]
  rfl
theorem dec_hex : ∀ c ∈ dec, c ∈ hexs := by decide +kernel
end Go.Proofs.YtkagijifkpoplaaGreatDoor.Fdd
namespace Go.Proofs.YtkagijifkpoplaaGreatDoor
open Go.RowKit
open Fdd
theorem vOf_nat (b : UInt8) : vOf b = if 48 ≤ b.toNat ∧ b.toNat ≤ 57 then b.toNat - 48 else b.toNat - 87 := byte_of (P := fun b => vOf b = if 48 ≤ b.toNat ∧ b.toNat ≤ 57 then b.toNat - 48 else b.toNat - 87) (by decide +kernel) b
theorem vOf_lt (b : UInt8) (h : hexs.contains b = true) : vOf b < 16 := by
 rw [hex_byte] at h
 have h2 := of_decide_eq_true h
 rw [vOf_nat]
 split <;> omega
theorem ebc_nat (b : UInt8) : (ebc b).toNat = if 48 ≤ b.toNat ∧ b.toNat ≤ 57 then b.toNat + 192 else if 65 ≤ b.toNat ∧ b.toNat ≤ 73 then b.toNat + 128 else if 74 ≤ b.toNat ∧ b.toNat ≤ 82 then b.toNat + 135 else if 83 ≤ b.toNat ∧ b.toNat ≤ 90 then b.toNat + 143 else 64 :=
 byte_of (P := fun b => (ebc b).toNat = if 48 ≤ b.toNat ∧ b.toNat ≤ 57 then b.toNat + 192 else if 65 ≤ b.toNat ∧ b.toNat ≤ 73 then b.toNat + 128 else if 74 ≤ b.toNat ∧ b.toNat ≤ 82 then b.toNat + 135 else if 83 ≤ b.toNat ∧ b.toNat ≤ 90 then b.toNat + 143 else 64) (by decide +kernel) b
theorem wrapu8 (x : Int) : IntKind.u8.wrap x = x % 256 := by
 simp [IntKind.wrap, IntKind.bits, IntKind.signed]
theorem valueH_walk (b : UInt8) (h : hexs.contains b = true) (w : World) :
 Calls Tryz.prog 124 #[.int .u8 (b.toNat : Int)] w fun e w' => e = .returned (.int .i64 ((vOf b : Nat) : Int)) ∧ w' = w := by
 have hd := digit_walk b
 rw [dec_byte] at hd
 rw [hex_byte] at h
 have h2 := of_decide_eq_true h
 rw [vOf_nat]
 have HD := zH hd
 clear hd h
 generalize b.toNat = n at *
 by_cases h0 : 48 ≤ n ∧ n ≤ 57
 ·rw [decide_eq_true h0] at HD
  rw [if_pos h0]
  have h3 := h0.1
  have h4 := h0.2
  clear h0 h2
  go_enter Tryz.func124, Tryz.ntmps124
  go_wp2_with (go_at_call 135; refine (HD.out _).mono ?_; rintro e w1 ⟨rfl, rfl⟩)
  go_ret
  exact ⟨ret_int (by omega), rfl⟩
 ·rw [decide_eq_false h0] at HD
  rw [if_neg h0]
  have h3 : 97 ≤ n := by omega
  have h4 : n ≤ 102 := by omega
  clear h0 h2
  go_enter Tryz.func124, Tryz.ntmps124
  go_wp2_with (go_at_call 135; refine (HD.out _).mono ?_; rintro e w1 ⟨rfl, rfl⟩)
  go_ret
  exact ⟨ret_int (by omega), rfl⟩
theorem ebcdic_walk (b : UInt8) (w : World) :
 Calls Tryz.prog 123 #[.int .u8 (b.toNat : Int)] w fun e w' => e = .returned (.int .u8 (((ebc b).toNat : Nat) : Int)) ∧ w' = w := by
 have hd := digit_walk b
 rw [dec_byte] at hd
 rw [ebc_nat]
 have HD := zH hd
 clear hd
 have hb := b.toNat_lt
 generalize b.toNat = n at *
 by_cases h0 : 48 ≤ n ∧ n ≤ 57
 ·rw [decide_eq_true h0] at HD
  rw [if_pos h0]
  have h3 := h0.1
  have h4 := h0.2
  clear h0
  go_enter Tryz.func123, Tryz.ntmps123
  go_wp2_with (go_at_call 135; refine (HD.out _).mono ?_; rintro e w1 ⟨rfl, rfl⟩)
  go_ret
  exact ⟨ret_int (by first | omega | (simp only [wrapu8]; omega)), rfl⟩
 ·rw [decide_eq_false h0] at HD
  rw [if_neg h0]
  go_enter Tryz.func123, Tryz.ntmps123
  go_wp2_with (go_at_call 135; refine (HD.out _).mono ?_; rintro e w1 ⟨rfl, rfl⟩)
  all_goals (try go_ret)
  all_goals
   refine ⟨ret_int ?_, rfl⟩
   first
    | omega
    | ((repeat' split) <;> omega)
    | (simp only [wrapu8]; (repeat' split) <;> omega)
theorem exec_one {a : Act} {o : Oper} {W : World} {x : Operand} {z : UInt8} (ho : o.op = .buildSlice 22 1 #[(0, x)]) (hx : a.eval x = .int .u8 (z.toNat : Int)) : (execOp a.eval o).run Tryz.prog W = .ok (.value (.slice (some ⟨W.heap.size, 0, none⟩) 1 1)) (W.alloc (.cells (bcs [z]).toArray 5)) := by
 obtain ⟨j0, hj0, hjz, hj1, hj2⟩ := info_parts byteInfo
 exact exec_buildSlice1 ho hx (run_buildSlice_one (v := .int .u8 (z.toNat : Int)) Tryz.underlying22 hj0 hjz (by rw [hj1]; rfl) (by rw [hj1]; rfl) (by omega) (by omega) _)
theorem bs_blk {w : World} {g : Nat} {t : TypeId} {l : List UInt8} {n : Nat} (h : Blk w g t (bcs l).toArray) (hn : l.length = n) (hm : n ≤ maxLen) : Bs w (some ⟨g, 0, none⟩) n l :=
 ⟨hn, hm, fun _ => ⟨g, 0, rfl, fun i hi => by
  rw [h.cell]
  have := bcs_at l i (by omega)
  simpa using this⟩⟩
def Made (w : World) (l : List UInt8) (e : Ending) (w' : World) : Prop := ∃ A n c, e = .returned (.slice A n c) ∧ Own w' w.heap.size 5 (.slice A n c) l ∧ Turn nowhere w w'
theorem take_one {t : List UInt8} {k : Nat} (h : k < t.length) : t.take (k + 1) = t.take k ++ [t.getD k 0] := by
 rw [List.take_succ_eq_append_getElem h, List.getD_eq_getElem?_getD, List.getElem?_eq_getElem h]
 rfl
theorem wpList_call {P : Program} {ops : Array Oper} {rest : List Oper} {o : Oper} {a : Act} {w : World} {Q : Exit → Act → World → Prop} (hgd : Region.wanted o (yielded ops a.tmps) = true)
 (h : ∀ K : Act → World → Prop, Shut (∀ a' w', wpList P ops Q rest a' w' → K a' w') → o.wp P a w K Q) : wpList P ops Q (o :: rest) a w :=
 wpList_step fun K hK => by
  rw [if_pos hgd]
  exact h K hK
theorem below_turn {w w' : World} (h : Below w.heap.size w w') : Turn nowhere w w' := Turn.of_below h (Nat.le_refl _)
theorem signs_walk (code : Int) (t : List UInt8) (w : World) (hl : t.length ≤ 1000) :
 Calls Tryz.prog 102 #[.int .i64 code, strV t] w (Made w (rsigns code t)) := by
 obtain ⟨f, hf⟩ : ∃ f : UInt8 → UInt8, ∀ x : List UInt8, x.map f = rsigns code x := by
  by_cases h : code = 3
  ·exact ⟨ebc, fun x => by unfold rsigns; rw [if_pos h]⟩
  ·exact ⟨id, fun x => by unfold rsigns; rw [if_neg h, List.map_id]⟩
 have hfe : code = 3 → ∀ b, f b = ebc b := fun h b => by
  have := hf [b]
  unfold rsigns at this
  rw [if_pos h] at this
  simpa using this
 have hfi : code ≠ 3 → ∀ b, f b = b := fun h b => by
  have := hf [b]
  unfold rsigns at this
  rw [if_neg h] at this
  simpa using this
 rw [← hf t]
 have HFE := zH hfe
 have HFI := zH hfi
 have HL := zH hl
 clear hf hfe hfi hl
 obtain ⟨n, hn⟩ : ∃ n, n = t.length := ⟨_, rfl⟩
 have HN := zH hn
 clear hn
 obtain ⟨B, hB⟩ : ∃ B, B = w.heap.size := ⟨_, rfl⟩
 have HB := zH hB
 clear hB
 go_enter Tryz.func102, Tryz.ntmps102
 go_upto_region 1 with fail
 refine wp_region_lit ?_
 refine wS _ (exec_make0 rfl) ?_;simp only [zz];refine wA (.slice (some ⟨w.heap.size, 0, none⟩) 0 0) ?_;simp only [zz]
 have hown0 := Own.empty w B 5 (Nat.le_of_eq HB.out)
 have hbel0 : Below B w (w.alloc (.cells #[] 5)) := (Below.refl _ w).alloc (Nat.le_of_eq HB.out) _
 generalize (w.alloc (.cells #[] 5)) = w1 at *
 generalize (some (⟨w.heap.size, 0, none⟩ : Addr)) = A0 at *
 have HO0 := zH hown0
 have HB0 := zH hbel0
 clear hown0 hbel0
 go_wp2_with fail
 go_loopg [5, 6] n (fun gk b i wr => ∃ (k : Nat) (A : Option Addr) (m c : Nat), k + gk = n ∧ i = .int .i64 (k : Int) ∧ b = .slice A m c ∧ Own wr B 5 (.slice A m c) ((t.take k).map f) ∧ Below B w wr)
 case atStart => exact ⟨0, A0, 0, 0, by omega, rfl, rfl, HO0.out, HB0.out⟩
 case round =>
  obtain ⟨k, A, m, c, hkl, rfl, rfl, hown, hbel⟩ := hrel
  have HKL := zH hkl
  have HO := zH hown
  have HE := zH hbel
  clear hkl hown hbel
  go_upto_region 3 with fail
  refine wp_region_lit ?_
  refine wM (.int .i64 (k : Int)) ?_;simp only [zz];refine wM (strV t) ?_;simp only [zz]
  refine wR (v := .int .i64 (n : Int)) (w' := wr) rfl (by rw [HN.out]; exact exec_slen rfl rfl) ?_
  simp only [zz]
  by_cases hlt : k < n
  ·refine wR (v := .bool true) (w' := wr) rfl (exec_lss rfl rfl rfl (by omega)) ?_
   simp only [zz]
   have HLT := zH hlt
   have HKT := zH (show k < t.length by rw [← HN.out]; exact hlt)
   clear hlt
   by_cases h3 : code = 3
   ·have hz : f (t.getD k 0) = ebc (t.getD k 0) := HFE.out h3 _
    have htk : (t.take (k + 1)).map f = (t.take k).map f ++ [f (t.getD k 0)] := by rw [take_one HKT.out, List.map_append]; rfl
    rw [hz] at htk
    subst h3
    have HTK := zH htk
    have HEB := zH (ebcdic_walk (t.getD k 0) wr)
    clear hz htk
    go_upto_region 6 with fail
    refine wp_region_lit ?_
    refine wM (.slice A m c) ?_;simp only [zz];refine wM (strV t) ?_;simp only [zz];refine wM (.int .i64 (k : Int)) ?_;simp only [zz]
    refine wR (v := .int .u8 ((t.getD k 0).toNat : Int)) (w' := wr) rfl (exec_sidx rfl rfl rfl HKT.out) ?_
    simp only [zz]
    generalize ebc (t.getD k 0) = z at *
    generalize t.getD k 0 = y at *
    refine wpList_call rfl ?_
    intro K1 HK1
    go_wp2_with fail
    refine HEB.out.mono ?_
    rintro e w1' ⟨rfl, hw⟩
    obtain rfl : wr = w1' := hw.symm
    refine HK1.out _ _ ?_
    clear HK1
    refine wS _ (exec_one (z := z) rfl rfl) ?_;simp only [zz]
    have hone := bs_blk (Blk.new wr 5 (bcs [z]).toArray) (n := 1) rfl (by unfold maxLen; omega)
    have hown1 : Own (wr.alloc (.cells (bcs [z]).toArray 5)) B 5 (.slice A m c) ((t.take k).map f) := HO.out.alloc _
    refine wpList_append_bytes _ rfl _ _ _ rfl B 5 byteInfo Tryz.underlying22 _ _ rfl hown1 _ 1 1 [z] rfl hone (fun h => by cases h) (by rw [List.length_map, List.length_take]; have := HN.out; have := HL.out; omega) (by have := HE.out.size; have := HB.out; simp; omega) ?_
    intro v2 w2 ho2 hb2
    simp only [zz]
    obtain ⟨A2, m2, c2, rfl, _⟩ := ho2.form
    have HO2 := zH ho2
    have HB2 := zH hb2
    clear ho2 hb2 hone hown1
    have b0 : (0 : Int) ≤ (k : Int) := by omega
    have b1 : (k : Int) ≤ 1000 := by have := HLT.out; have := HN.out; have := HL.out; omega
    go_wp2_with fail
    go_roundg (gk - 1)
    case measure => have := HKL.out; have := HLT.out; omega
    case rel =>
     refine ⟨k + 1, A2, m2, c2, by have := HKL.out; have := HLT.out; omega, by go_num, rfl, ?_, (HE.out.alloc (by have := HE.out.size; have := HB.out; omega) _).trans HB2.out⟩
     rw [HTK.out]
     exact HO2.out
   ·have hz : f (t.getD k 0) = t.getD k 0 := HFI.out h3 _
    have htk : (t.take (k + 1)).map f = (t.take k).map f ++ [f (t.getD k 0)] := by rw [take_one HKT.out, List.map_append]; rfl
    rw [hz] at htk
    have h33 : (code == 3) = false := by simpa using h3
    have HTK := zH htk
    clear hz htk
    go_upto_region 7 with fail
    refine wp_region_lit ?_
    refine wM (.slice A m c) ?_;simp only [zz];refine wM (strV t) ?_;simp only [zz];refine wM (.int .i64 (k : Int)) ?_;simp only [zz]
    refine wR (v := .int .u8 ((t.getD k 0).toNat : Int)) (w' := wr) rfl (exec_sidx rfl rfl rfl HKT.out) ?_
    simp only [zz]
    generalize t.getD k 0 = z at *
    refine wS _ (exec_one (z := z) rfl rfl) ?_;simp only [zz]
    have hone := bs_blk (Blk.new wr 5 (bcs [z]).toArray) (n := 1) rfl (by unfold maxLen; omega)
    have hown1 : Own (wr.alloc (.cells (bcs [z]).toArray 5)) B 5 (.slice A m c) ((t.take k).map f) := HO.out.alloc _
    refine wpList_append_bytes _ rfl _ _ _ rfl B 5 byteInfo Tryz.underlying22 _ _ rfl hown1 _ 1 1 [z] rfl hone (fun h => by cases h) (by rw [List.length_map, List.length_take]; have := HN.out; have := HL.out; omega) (by have := HE.out.size; have := HB.out; simp; omega) ?_
    intro v2 w2 ho2 hb2
    simp only [zz]
    obtain ⟨A2, m2, c2, rfl, _⟩ := ho2.form
    have HO2 := zH ho2
    have HB2 := zH hb2
    clear ho2 hb2 hone hown1
    have b0 : (0 : Int) ≤ (k : Int) := by omega
    have b1 : (k : Int) ≤ 1000 := by have := HLT.out; have := HN.out; have := HL.out; omega
    go_wp2_with fail
    go_roundg (gk - 1)
    case measure => have := HKL.out; have := HLT.out; omega
    case rel =>
     refine ⟨k + 1, A2, m2, c2, by have := HKL.out; have := HLT.out; omega, by go_num, rfl, ?_, (HE.out.alloc (by have := HE.out.size; have := HB.out; omega) _).trans HB2.out⟩
     rw [HTK.out]
     exact HO2.out
  ·refine wR (v := .bool false) (w' := wr) rfl (exec_nlss rfl rfl rfl (by omega)) ?_
   simp only [zz]
   have hkn : t.take k = t := List.take_of_length_le (by have := HKL.out; have := HN.out; omega)
   have ho := HO.out
   rw [hkn] at ho
   have HOO := zH ho
   have HTT := zH (below_turn (by have := HE.out; rwa [HB.out] at this))
   clear hlt hkn ho
   go_wp2_with fail
   go_ret
   refine ⟨A, m, c, rfl, ?_, HTT.out⟩
   rw [← HB.out]
   exact HOO.out
theorem mencode_err {d ty : Int} {fs : List Fld} {k : Int} (h : mencode d ty fs = .error k) : k ≠ 0 := by
 unfold mencode at h
 split at h
 ·split at h
  ·split at h
   ·injection h with h; omega
   ·cases h
  ·rename_i hn
   injection h with h
   rw [← h]
   exact hn
 ·injection h with h; omega
theorem ix_rem {a : Act} {o : Oper} {W : World} {x y : Operand} {n m : Nat} (ho : o.op = .binOp .rem 3 x y 3) (hx : a.eval x = .int .i64 (n : Int)) (hy : a.eval y = .int .i64 (m : Int)) (hm : 0 < m) (hn : n ≤ 9223372036854775807) : (execOp a.eval o).run Tryz.prog W = .ok (.value (.int .i64 ((n % m : Nat) : Int))) W := by
 have hm1 : (m : Int) ≠ 0 := by omega
 obtain ⟨q, hq⟩ : ∃ q : Nat, q = n % m := ⟨_, rfl⟩
 have hlt : q ≤ n := by rw [hq]; exact Nat.mod_le _ _
 have e : (n : Int).tmod (m : Int) = (q : Int) := by rw [hq]; rfl
 rw [← hq]
 have hw : IntKind.i64.wrap (q : Int) = (q : Int) := by rw [IntKind.wrap_i64]; omega
 unfold execOp
 simp only [ho, hx, hy]
 go_simp
 omega
theorem ix_quo {a : Act} {o : Oper} {W : World} {x y : Operand} {n m : Nat} (ho : o.op = .binOp .quo 3 x y 3) (hx : a.eval x = .int .i64 (n : Int)) (hy : a.eval y = .int .i64 (m : Int)) (hm : 0 < m) (hn : n ≤ 9223372036854775807) : (execOp a.eval o).run Tryz.prog W = .ok (.value (.int .i64 ((n / m : Nat) : Int))) W := by
 have hm1 : (m : Int) ≠ 0 := by omega
 obtain ⟨q, hq⟩ : ∃ q : Nat, q = n / m := ⟨_, rfl⟩
 have hlt : q ≤ n := by rw [hq]; exact Nat.div_le_self _ _
 have e : (n : Int).tdiv (m : Int) = (q : Int) := by rw [hq]; rfl
 rw [← hq]
 have hw : IntKind.i64.wrap (q : Int) = (q : Int) := by rw [IntKind.wrap_i64]; omega
 unfold execOp
 simp only [ho, hx, hy]
 go_simp
 rw [if_neg (by omega), show IntKind.i64.wrap ((n : Int) / (m : Int)) = (n : Int) / (m : Int) from by rw [← Int.natCast_ediv, ← hq]; exact hw]
theorem menc_len {d ty : Int} {fs : List Fld} {b : List UInt8} (h : mencode d ty fs = .ok b) : b.length ≤ 500 := by
 obtain ⟨hd, hw, e⟩ := mencode_ok.1 h
 rw [e]
 exact wire_len (toNat_in hd) hw
theorem bs_cut {w : World} {A : Option Addr} {n k : Nat} {b : List UInt8} (h : Bs w A n b) (hk : k ≤ n) : Bs w A k (b.take k) := by
 obtain ⟨h1, h2, h3⟩ := h
 refine ⟨by rw [List.length_take]; omega, by omega, fun hp => ?_⟩
 obtain ⟨g, off, e, hc⟩ := h3 (by omega)
 refine ⟨g, off, e, fun i hi => ?_⟩
 rw [hc i (by omega)]
 have : (b.take k).getD i 0 = b.getD i 0 := by simp [List.getD, List.getElem?_take, hi]
 rw [this]
end Go.Proofs.YtkagijifkpoplaaGreatDoor
namespace Go.Proofs.YtkagijifkpoplaaGreatDoor.Fdd
def getM (no : Int) : List Fld → Option (List UInt8)
 | [] => none
 | f :: r => if f.1 = no then some f.2 else getM no r
def others (no : Int) (fs : List Fld) : List Fld := fs.filter fun f => f.1 != no
def insM (x : Fld) : List Fld → List Fld
 | [] => [x]
 | f :: r => if x.1 < f.1 then x :: f :: r else f :: insM x r
def setM (no : Int) (t : List UInt8) (fs : List Fld) : List Fld := insM (no, t) (others no fs)
def rsetM (no : Int) (t : List UInt8) : Bool → List Fld → List Fld
 | done, [] => if done = true then [] else [(no, t)]
 | done, f :: r => if f.1 = no then rsetM no t done r else if no < f.1 ∧ done = false then (no, t) :: f :: rsetM no t true r else f :: rsetM no t done r
theorem rset_done (no : Int) (t : List UInt8) : ∀ fs, rsetM no t true fs = others no fs
 | [] => rfl
 | f :: r => by
   unfold rsetM others
   by_cases h : f.1 = no
   ·rw [if_pos h, List.filter_cons_of_neg (by simp [h]), rset_done no t r]
    rfl
   ·rw [if_neg h, if_neg (by simp), List.filter_cons_of_pos (by simp [h]), rset_done no t r]
    rfl
theorem rset_set (no : Int) (t : List UInt8) : ∀ fs, rsetM no t false fs = setM no t fs
 | [] => rfl
 | f :: r => by
   unfold rsetM setM others
   by_cases h : f.1 = no
   ·rw [if_pos h, List.filter_cons_of_neg (by simp [h]), rset_set no t r]
    rfl
   ·rw [if_neg h, List.filter_cons_of_pos (by simp [h])]
    unfold insM
    by_cases h2 : no < f.1
    ·rw [if_pos ⟨h2, rfl⟩, if_pos h2, rset_done]
     rfl
    ·rw [if_neg (fun h => h2 h.1), if_neg h2, rset_set no t r]
     rfl
theorem get_ins (no : Int) (t : List UInt8) : ∀ l : List Fld, (∀ f ∈ l, f.1 ≠ no) → getM no (insM (no, t) l) = some t
 | [], _ => by simp [insM, getM]
 | f :: r, h => by
   unfold insM
   split
   ·unfold getM
    rw [if_pos rfl]
   ·unfold getM
    rw [if_neg (h f (List.mem_cons_self ..)), get_ins no t r fun x hx => h x (List.mem_cons_of_mem _ hx)]
theorem get_set (no : Int) (t : List UInt8) (fs : List Fld) : getM no (setM no t fs) = some t := get_ins no t _ fun f hf => by
 have := (List.mem_filter.1 hf).2
 simpa using this
def atM (no : Int) : List Fld → Nat
 | [] => 0
 | f :: r => if no < f.1 then 0 else atM no r + 1
theorem ins_at (no : Int) (t : List UInt8) : ∀ l : List Fld, insM (no, t) l = l.take (atM no l) ++ (no, t) :: l.drop (atM no l)
 | [] => rfl
 | f :: r => by
   unfold insM atM
   split
   ·rfl
   ·rw [ins_at no t r]
    rfl
theorem at_le (no : Int) : ∀ l : List Fld, atM no l ≤ l.length
 | [] => Nat.le_refl _
 | f :: r => by
   unfold atM
   have := at_le no r
   split
   ·exact Nat.zero_le _
   ·rw [List.length_cons]
    omega
end Go.Proofs.YtkagijifkpoplaaGreatDoor.Fdd
