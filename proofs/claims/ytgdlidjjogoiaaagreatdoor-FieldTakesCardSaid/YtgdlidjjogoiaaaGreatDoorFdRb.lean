/-
  The reference's right. No conditions.
-/
import Derived.Test.YtgdlidjjogoiaaaGreatDoorFdRa
namespace Go.Proofs.YtgdlidjjogoiaaaGreatDoor
open Go.RowKit
open Fdd
set_option linter.unusedVariables false
set_option linter.unusedSimpArgs false
theorem wrap_small {x : Int} (h0 : 0 ≤ x) (h1 : x ≤ 1000000) : IntKind.i64.wrap x = x := by
  simp [IntKind.wrap, IntKind.bits, IntKind.signed]
  omega
theorem wpList_skip {P : Program} {ops : Array Oper} {rest : List Oper} {o : Oper} {a : Act} {w : World} {Q : Exit → Act → World → Prop} (hgd : Region.wanted o (yielded ops a.tmps) = false) (h : wpList P ops Q rest (a.put o.dst undef) w) : wpList P ops Q (o :: rest) a w :=
  wpList_step fun K hK => by
    rw [if_neg (by rw [hgd]; decide)]
    exact hK _ _ h
theorem only_take_len {l cs : List UInt8} {n : Nat} {st : List UInt8} : rightAll [⟨n, cs, st⟩] l = (decide (l.length = n) && onlyOf l cs) := by
  show (decide (n ≤ l.length) && (onlyOf (l.take n) cs && (l.drop n == []))) = _
  by_cases h : l.length = n
  · rw [List.take_of_length_le (by omega), List.drop_of_length_le (by omega), decide_eq_true h, decide_eq_true (by omega)]
    simp
  · rw [decide_eq_false h]
    by_cases h2 : n ≤ l.length
    · have h3 : (l.drop n == []) = false := by
        cases hd : l.drop n with
        | nil =>
          have := congrArg List.length hd
          simp at this
          omega
        | cons a r => rfl
      rw [h3]
      simp
    · rw [decide_eq_false h2]
      simp
theorem right_n {s : Nat} {c : Int} {t : List UInt8} : Fm.right ⟨1, (s : Int), c⟩ t = (decide (t.length = s) && onlyOf t dec) := only_take_len
theorem right_an {s : Nat} {c : Int} {t : List UInt8} : Fm.right ⟨3, (s : Int), c⟩ t = (decide (t.length = s) && onlyOf t sgn) := only_take_len
theorem right_b {s : Nat} {c : Int} {t : List UInt8} : Fm.right ⟨4, (s : Int), c⟩ t = (decide (t.length = 2 * s) && onlyOf t hexs) := only_take_len
theorem right_l {s : Nat} {c : Int} {t : List UInt8} : Fm.right ⟨2, (s : Int), c⟩ t = (decide (1 ≤ t.length ∧ t.length ≤ s) && onlyOf t dec) := by
  show (decide (1 ≤ t.length ∧ (t.length : Int) ≤ (s : Int)) && rightAll [⟨t.length, dec, _⟩] t) = _
  rw [only_take_len, decide_eq_true (show t.length = t.length from rfl), Bool.true_and]
  congr 1
  exact decide_eq_decide.2 ⟨fun h => ⟨h.1, by omega⟩, fun h => ⟨h.1, by omega⟩⟩
theorem right_x {s : Nat} {c : Int} {t : List UInt8} : Fm.right ⟨5, (s : Int), c⟩ t = (decide (t.length = s + 1) && (mk.contains (t.getD 0 0) && onlyOf (t.drop 1) dec)) := by
  show (decide (1 ≤ t.length) && (onlyOf (t.take 1) mk && rightAll [⟨s, dec, _⟩] (t.drop 1))) = _
  rw [only_take_len]
  cases t with
  | nil => simp
  | cons b r =>
    simp only [List.length_cons, List.take_succ_cons, List.take_zero, List.drop_succ_cons, List.drop_zero, List.getD_cons_zero]
    unfold onlyOf
    simp only [List.all_cons, List.all_nil, Bool.and_true]
    rw [decide_eq_true (show 1 ≤ r.length + 1 by omega), Bool.true_and]
    rw [show decide (r.length + 1 = s + 1) = decide (r.length = s) from decide_eq_decide.2 (by omega)]
    cases mk.contains b <;> cases decide (r.length = s) <;> simp
theorem mk_byte (b : UInt8) : mk.contains b = (decide (b.toNat = 67) || decide (b.toNat = 68)) := byte_of (P := fun b => mk.contains b = (decide (b.toNat = 67) || decide (b.toNat = 68))) (by decide +kernel) b
set_option maxRecDepth 20000 in
set_option maxHeartbeats 2000000 in
theorem rright_walk {k : Int} {s : Nat} {c : Int} {t : List UInt8} (w : World) (hk : 1 ≤ k ∧ k ≤ 5) (hs : 1 ≤ s ∧ s ≤ 64) (hl : t.length ≤ 9223372036854775807) :
    Calls Tryz.prog 23 #[fmV ⟨k, (s : Int), c⟩, strV t] w fun e w' => e = .returned (.bool (Fm.right ⟨k, (s : Int), c⟩ t)) ∧ Turn nowhere w w' := by
  have HL := Lib.hid hl
  have HS := Lib.hid hs
  clear hl hs
  unfold fmV
  go_enter Tryz.func23, Tryz.ntmps23
  go_upto_region 1 with fail
  have hb0 := Blk.new w 24 #[.int .i64 k, .int .i64 (s : Int), .int .i64 c]
  have ht0 := (Turn.refl nowhere w).alloc (.cells #[.int .i64 k, .int .i64 (s : Int), .int .i64 c] 24)
  generalize (w.alloc (.cells #[.int .i64 k, .int .i64 (s : Int), .int .i64 c] 24)) = w1 at *
  generalize w.heap.size = b2 at *
  have c0 : w1.cell? ⟨b2, 0, none⟩ = some (.int .i64 k) := hb0.cell 0
  have c1 : w1.cell? ⟨b2, 1, none⟩ = some (.int .i64 (s : Int)) := hb0.cell 1
  have HT1 := Lib.hid ht0
  clear hb0 ht0
  obtain ⟨n, hn⟩ : ∃ n, n = t.length := ⟨_, rfl⟩
  have HN := Lib.hid hn
  clear hn
  have hck : k = 1 ∨ k = 2 ∨ k = 3 ∨ k = 4 ∨ k = 5 := by omega
  clear hk
  rcases hck with rfl | rfl | rfl | rfl | rfl
  · have HD := Lib.hid (show Fm.right ⟨1, (s : Int), c⟩ t = (decide (n = s) && onlyOf t dec) from by rw [HN.out]; exact right_n)
    go_upto_region 3 with fail
    refine wp_region_lit ?_
    refine wpList_run (v := strV t) rfl (exec_move rfl rfl) ?_
    simp only [Act.put, List.setIfInBounds_toArray, List.set_cons_zero, List.set_cons_succ]
    refine wpList_run (v := .int .i64 (n : Int)) (w' := w1) rfl (by rw [HN.out]; exact exec_slen rfl rfl) ?_
    simp only [Act.put, List.setIfInBounds_toArray, List.set_cons_zero, List.set_cons_succ]
    by_cases he : n = s
    · have HE := Lib.hid (show decide (n = s) = true from decide_eq_true he)
      have y5 : (n : Int) = (s : Int) := by omega
      clear he
      go_wp2_with (go_at_call 39; refine (all_walk t _ HL.out).mono ?_; rintro e w2 ⟨rfl, rfl⟩)
      go_ret
      rw [HD.out, HE.out]
      exact ⟨by simp, HT1.out⟩
    · have HE := Lib.hid (show decide (n = s) = false from decide_eq_false he)
      have y5 : ¬ ((n : Int) = (s : Int)) := by omega
      clear he
      go_wp2_with fail
      go_ret
      rw [HD.out, HE.out]
      exact ⟨by simp, HT1.out⟩
  · have HD := Lib.hid (show Fm.right ⟨2, (s : Int), c⟩ t = (decide (1 ≤ n ∧ n ≤ s) && onlyOf t dec) from by rw [HN.out]; exact right_l)
    go_upto_region 5 with fail
    refine wp_region_lit ?_
    refine wpList_run (v := strV t) rfl (exec_move rfl rfl) ?_
    simp only [Act.put, List.setIfInBounds_toArray, List.set_cons_zero, List.set_cons_succ]
    refine wpList_run (v := .int .i64 (n : Int)) (w' := w1) rfl (by rw [HN.out]; exact exec_slen rfl rfl) ?_
    simp only [Act.put, List.setIfInBounds_toArray, List.set_cons_zero, List.set_cons_succ]
    by_cases h1 : 1 ≤ n
    · refine wpList_run (v := .bool true) (w' := w1) rfl (by go_simp <;> omega) ?_
      simp only [Act.put, List.setIfInBounds_toArray, List.set_cons_zero, List.set_cons_succ]
      refine wpList_run (v := .bool true) rfl (exec_move rfl rfl) ?_
      simp only [Act.put, List.setIfInBounds_toArray, List.set_cons_zero, List.set_cons_succ]
      refine wpList_run (v := strV t) rfl (exec_move rfl rfl) ?_
      simp only [Act.put, List.setIfInBounds_toArray, List.set_cons_zero, List.set_cons_succ]
      refine wpList_run (v := .int .i64 (n : Int)) (w' := w1) rfl (by rw [HN.out]; exact exec_slen rfl rfl) ?_
      simp only [Act.put, List.setIfInBounds_toArray, List.set_cons_zero, List.set_cons_succ]
      by_cases h2 : n ≤ s
      · have HE := Lib.hid (show decide (1 ≤ n ∧ n ≤ s) = true from decide_eq_true ⟨h1, h2⟩)
        have y5 : (n : Int) ≤ (s : Int) := by omega
        clear h1 h2
        go_wp2_with (go_at_call 39; refine (all_walk t _ HL.out).mono ?_; rintro e w2 ⟨rfl, rfl⟩)
        go_ret
        rw [HD.out, HE.out]
        exact ⟨by simp, HT1.out⟩
      · have HE := Lib.hid (show decide (1 ≤ n ∧ n ≤ s) = false from decide_eq_false (by omega))
        have y5 : ¬ ((n : Int) ≤ (s : Int)) := by omega
        clear h1 h2
        go_wp2_with fail
        go_ret
        rw [HD.out, HE.out]
        exact ⟨by simp, HT1.out⟩
    · have HE := Lib.hid (show decide (1 ≤ n ∧ n ≤ s) = false from decide_eq_false (by omega))
      have y5 : ¬ (1 ≤ (n : Int)) := by omega
      clear h1
      go_wp2_with fail
      go_ret
      rw [HD.out, HE.out]
      exact ⟨by simp, HT1.out⟩
  · have HD := Lib.hid (show Fm.right ⟨3, (s : Int), c⟩ t = (decide (n = s) && onlyOf t sgn) from by rw [HN.out]; exact right_an)
    go_upto_region 9 with fail
    go_wp2_with fail
    go_loopg [5] n (fun gk i wr => ∃ k : Nat, k + gk = n ∧ i = .int .i64 (k : Int) ∧ wr = w1 ∧ onlyOf (t.take k) sgn = true)
    case atStart => exact ⟨0, by omega, rfl, rfl, rfl⟩
    obtain ⟨k, hkl, rfl, rfl, hin⟩ := hrel
    have HKL := Lib.hid hkl
    have HIN := Lib.hid hin
    clear hkl hin
    go_upto_region 10 with fail
    refine wp_region_lit ?_
    refine wpList_run (v := .int .i64 (k : Int)) rfl (exec_move rfl rfl) ?_
    simp only [Act.put, List.setIfInBounds_toArray, List.set_cons_zero, List.set_cons_succ]
    refine wpList_run (v := strV t) rfl (exec_move rfl rfl) ?_
    simp only [Act.put, List.setIfInBounds_toArray, List.set_cons_zero, List.set_cons_succ]
    refine wpList_run (v := .int .i64 (n : Int)) (w' := wr) rfl (by rw [HN.out]; exact exec_slen rfl rfl) ?_
    simp only [Act.put, List.setIfInBounds_toArray, List.set_cons_zero, List.set_cons_succ]
    by_cases hlt : k < n
    · have y1 : (k : Int) < (n : Int) := by omega
      have y3 : (n : Int) ≤ 9223372036854775807 := by have := HN.out; have := HL.out; omega
      go_upto_region 12 with fail
      refine wp_region_lit ?_
      refine wpList_run (v := strV t) rfl (exec_move rfl rfl) ?_
      simp only [Act.put, List.setIfInBounds_toArray, List.set_cons_zero, List.set_cons_succ]
      refine wpList_run (v := .int .i64 (k : Int)) rfl (exec_move rfl rfl) ?_
      simp only [Act.put, List.setIfInBounds_toArray, List.set_cons_zero, List.set_cons_succ]
      refine wpList_run (v := .int .u8 ((t.getD k 0).toNat : Int)) (w' := wr) rfl (exec_sidx rfl rfl rfl (by rw [← HN.out]; exact hlt)) ?_
      simp only [Act.put, List.setIfInBounds_toArray, List.set_cons_zero, List.set_cons_succ]
      have HLT := Lib.hid hlt
      clear hlt
      have hd := sign_walk (t.getD k 0) wr
      have hp : sgn.contains (t.getD k 0) = false → onlyOf t sgn = false := only_part (by rw [← HN.out]; exact HLT.out)
      have hs : sgn.contains (t.getD k 0) = true → onlyOf (t.take (k + 1)) sgn = true := only_step (by rw [← HN.out]; exact HLT.out) HIN.out
      have HP := Lib.hid hp
      have HSS := Lib.hid hs
      clear hp hs HIN
      generalize t.getD k 0 = b at *
      cases hq : sgn.contains b with
      | true =>
        rw [hq] at hd
        have HIN := Lib.hid (HSS.out hq)
        go_wp2_with (go_at_call 40; refine hd.mono ?_; rintro e w2 ⟨rfl, rfl⟩)
        go_roundg (gk - 1)
        case measure => have := HKL.out; have := HLT.out; omega
        case rel => exact ⟨k + 1, by have := HKL.out; have := HLT.out; omega, by go_num, rfl, HIN.out⟩
      | false =>
        rw [hq] at hd
        have HIN := Lib.hid (HP.out hq)
        go_wp2_with (go_at_call 40; refine hd.mono ?_; rintro e w2 ⟨rfl, rfl⟩)
        go_ret
        rw [HD.out, HIN.out, Bool.and_false]
        exact ⟨rfl, HT1.out⟩
    · have hke : k = n := by have := HKL.out; omega
      have y1 : ¬ ((k : Int) < (n : Int)) := by omega
      have HALL := Lib.hid (show onlyOf t sgn = true by
        have := HIN.out
        rwa [List.take_of_length_le (by rw [← HN.out]; omega)] at this)
      clear hlt hke
      go_upto_region 14 with fail
      refine wp_region_lit ?_
      refine wpList_run (v := strV t) rfl (exec_move rfl rfl) ?_
      simp only [Act.put, List.setIfInBounds_toArray, List.set_cons_zero, List.set_cons_succ]
      refine wpList_run (v := .int .i64 (n : Int)) (w' := wr) rfl (by rw [HN.out]; exact exec_slen rfl rfl) ?_
      simp only [Act.put, List.setIfInBounds_toArray, List.set_cons_zero, List.set_cons_succ]
      refine wpList_run (v := .pointer (some ⟨b2, 1, none⟩)) (w' := wr) rfl (by go_simp) ?_
      simp only [Act.put, List.setIfInBounds_toArray, List.set_cons_zero, List.set_cons_succ]
      refine wpList_run (v := .int .i64 (s : Int)) rfl (exec_load1 rfl rfl (by kernel_rfl) c1) ?_
      simp only [Act.put, List.setIfInBounds_toArray, List.set_cons_zero, List.set_cons_succ]
      by_cases he : n = s
      · have HE := Lib.hid (show decide (n = s) = true from decide_eq_true he)
        refine wpList_run (v := .bool true) (w' := wr) rfl (by go_simp <;> omega) ?_
        simp only [Act.put, List.setIfInBounds_toArray, List.set_cons_zero, List.set_cons_succ]
        clear he
        go_wp2_with fail
        go_ret
        rw [HD.out, HALL.out, HE.out]
        exact ⟨rfl, HT1.out⟩
      · have HE := Lib.hid (show decide (n = s) = false from decide_eq_false he)
        refine wpList_run (v := .bool false) (w' := wr) rfl (by go_simp <;> omega) ?_
        simp only [Act.put, List.setIfInBounds_toArray, List.set_cons_zero, List.set_cons_succ]
        clear he
        go_wp2_with fail
        go_ret
        rw [HD.out, HE.out, Bool.false_and]
        exact ⟨rfl, HT1.out⟩
  · have HD := Lib.hid (show Fm.right ⟨4, (s : Int), c⟩ t = (decide (n = 2 * s) && onlyOf t hexs) from by rw [HN.out]; exact right_b)
    go_upto_region 15 with fail
    go_wp2_with fail
    go_loopg [6] n (fun gk i wr => ∃ k : Nat, k + gk = n ∧ i = .int .i64 (k : Int) ∧ wr = w1 ∧ onlyOf (t.take k) hexs = true)
    case atStart => exact ⟨0, by omega, rfl, rfl, rfl⟩
    obtain ⟨k, hkl, rfl, rfl, hin⟩ := hrel
    have HKL := Lib.hid hkl
    have HIN := Lib.hid hin
    clear hkl hin
    go_upto_region 16 with fail
    refine wp_region_lit ?_
    refine wpList_run (v := .int .i64 (k : Int)) rfl (exec_move rfl rfl) ?_
    simp only [Act.put, List.setIfInBounds_toArray, List.set_cons_zero, List.set_cons_succ]
    refine wpList_run (v := strV t) rfl (exec_move rfl rfl) ?_
    simp only [Act.put, List.setIfInBounds_toArray, List.set_cons_zero, List.set_cons_succ]
    refine wpList_run (v := .int .i64 (n : Int)) (w' := wr) rfl (by rw [HN.out]; exact exec_slen rfl rfl) ?_
    simp only [Act.put, List.setIfInBounds_toArray, List.set_cons_zero, List.set_cons_succ]
    by_cases hlt : k < n
    · have y1 : (k : Int) < (n : Int) := by omega
      have y3 : (n : Int) ≤ 9223372036854775807 := by have := HN.out; have := HL.out; omega
      go_upto_region 18 with fail
      refine wp_region_lit ?_
      refine wpList_run (v := strV t) rfl (exec_move rfl rfl) ?_
      simp only [Act.put, List.setIfInBounds_toArray, List.set_cons_zero, List.set_cons_succ]
      refine wpList_run (v := .int .i64 (k : Int)) rfl (exec_move rfl rfl) ?_
      simp only [Act.put, List.setIfInBounds_toArray, List.set_cons_zero, List.set_cons_succ]
      refine wpList_run (v := .int .u8 ((t.getD k 0).toNat : Int)) (w' := wr) rfl (exec_sidx rfl rfl rfl (by rw [← HN.out]; exact hlt)) ?_
      simp only [Act.put, List.setIfInBounds_toArray, List.set_cons_zero, List.set_cons_succ]
      have HLT := Lib.hid hlt
      clear hlt
      have hd := hex_walk (t.getD k 0) wr
      have hp : hexs.contains (t.getD k 0) = false → onlyOf t hexs = false := only_part (by rw [← HN.out]; exact HLT.out)
      have hs : hexs.contains (t.getD k 0) = true → onlyOf (t.take (k + 1)) hexs = true := only_step (by rw [← HN.out]; exact HLT.out) HIN.out
      have HP := Lib.hid hp
      have HSS := Lib.hid hs
      clear hp hs HIN
      generalize t.getD k 0 = b at *
      cases hq : hexs.contains b with
      | true =>
        rw [hq] at hd
        have HIN := Lib.hid (HSS.out hq)
        go_wp2_with (go_at_call 41; refine hd.mono ?_; rintro e w2 ⟨rfl, rfl⟩)
        go_roundg (gk - 1)
        case measure => have := HKL.out; have := HLT.out; omega
        case rel => exact ⟨k + 1, by have := HKL.out; have := HLT.out; omega, by go_num, rfl, HIN.out⟩
      | false =>
        rw [hq] at hd
        have HIN := Lib.hid (HP.out hq)
        go_wp2_with (go_at_call 41; refine hd.mono ?_; rintro e w2 ⟨rfl, rfl⟩)
        go_ret
        rw [HD.out, HIN.out, Bool.and_false]
        exact ⟨rfl, HT1.out⟩
    · have hke : k = n := by have := HKL.out; omega
      have y1 : ¬ ((k : Int) < (n : Int)) := by omega
      have HALL := Lib.hid (show onlyOf t hexs = true by
        have := HIN.out
        rwa [List.take_of_length_le (by rw [← HN.out]; omega)] at this)
      clear hlt hke
      go_upto_region 20 with fail
      refine wp_region_lit ?_
      refine wpList_run (v := strV t) rfl (exec_move rfl rfl) ?_
      simp only [Act.put, List.setIfInBounds_toArray, List.set_cons_zero, List.set_cons_succ]
      refine wpList_run (v := .int .i64 (n : Int)) (w' := wr) rfl (by rw [HN.out]; exact exec_slen rfl rfl) ?_
      simp only [Act.put, List.setIfInBounds_toArray, List.set_cons_zero, List.set_cons_succ]
      refine wpList_run (v := .pointer (some ⟨b2, 1, none⟩)) (w' := wr) rfl (by go_simp) ?_
      simp only [Act.put, List.setIfInBounds_toArray, List.set_cons_zero, List.set_cons_succ]
      refine wpList_run (v := .int .i64 (s : Int)) rfl (exec_load1 rfl rfl (by kernel_rfl) c1) ?_
      simp only [Act.put, List.setIfInBounds_toArray, List.set_cons_zero, List.set_cons_succ]
      refine wpList_run (v := .int .i64 ((2 * s : Nat) : Int)) (w' := wr) rfl (by have := HS.out; go_simp; rw [wrap_small (by omega) (by omega)]; try omega) ?_
      simp only [Act.put, List.setIfInBounds_toArray, List.set_cons_zero, List.set_cons_succ]
      by_cases he : n = 2 * s
      · have HE := Lib.hid (show decide (n = 2 * s) = true from decide_eq_true he)
        refine wpList_run (v := .bool true) (w' := wr) rfl (by go_simp <;> omega) ?_
        simp only [Act.put, List.setIfInBounds_toArray, List.set_cons_zero, List.set_cons_succ]
        clear he
        go_wp2_with fail
        go_ret
        rw [HD.out, HALL.out, HE.out]
        exact ⟨rfl, HT1.out⟩
      · have HE := Lib.hid (show decide (n = 2 * s) = false from decide_eq_false he)
        refine wpList_run (v := .bool false) (w' := wr) rfl (by go_simp <;> omega) ?_
        simp only [Act.put, List.setIfInBounds_toArray, List.set_cons_zero, List.set_cons_succ]
        clear he
        go_wp2_with fail
        go_ret
        rw [HD.out, HE.out, Bool.false_and]
        exact ⟨rfl, HT1.out⟩
  · have HD := Lib.hid (show Fm.right ⟨5, (s : Int), c⟩ t = (decide (n = s + 1) && (mk.contains (t.getD 0 0) && onlyOf (t.drop 1) dec)) from by rw [HN.out]; exact right_x)
    go_upto_region 7 with fail
    refine wp_region_lit ?_
    refine wpList_run (v := strV t) rfl (exec_move rfl rfl) ?_
    simp only [Act.put, List.setIfInBounds_toArray, List.set_cons_zero, List.set_cons_succ]
    refine wpList_run (v := .int .i64 (n : Int)) (w' := w1) rfl (by rw [HN.out]; exact exec_slen rfl rfl) ?_
    simp only [Act.put, List.setIfInBounds_toArray, List.set_cons_zero, List.set_cons_succ]
    refine wpList_run (v := .pointer (some ⟨b2, 1, none⟩)) (w' := w1) rfl (by go_simp) ?_
    simp only [Act.put, List.setIfInBounds_toArray, List.set_cons_zero, List.set_cons_succ]
    refine wpList_run (v := .int .i64 (s : Int)) rfl (exec_load1 rfl rfl (by kernel_rfl) c1) ?_
    simp only [Act.put, List.setIfInBounds_toArray, List.set_cons_zero, List.set_cons_succ]
    refine wpList_run (v := .int .i64 ((s + 1 : Nat) : Int)) (w' := w1) rfl (by have := HS.out; go_simp; rw [wrap_small (by omega) (by omega)]; try omega) ?_
    simp only [Act.put, List.setIfInBounds_toArray, List.set_cons_zero, List.set_cons_succ]
    by_cases he : n = s + 1
    · have HE := Lib.hid (show decide (n = s + 1) = true from decide_eq_true he)
      refine wpList_run (v := .bool true) (w' := w1) rfl (by go_simp <;> omega) ?_
      simp only [Act.put, List.setIfInBounds_toArray, List.set_cons_zero, List.set_cons_succ]
      refine wpList_run (v := .bool true) rfl (exec_move rfl rfl) ?_
      simp only [Act.put, List.setIfInBounds_toArray, List.set_cons_zero, List.set_cons_succ]
      refine wpList_run (v := strV t) rfl (exec_move rfl rfl) ?_
      simp only [Act.put, List.setIfInBounds_toArray, List.set_cons_zero, List.set_cons_succ]
      refine wpList_run (v := .int .u8 ((t.getD 0 0).toNat : Int)) (w' := w1) rfl (exec_sidx rfl rfl rfl (by rw [← HN.out]; omega)) ?_
      simp only [Act.put, List.setIfInBounds_toArray, List.set_cons_zero, List.set_cons_succ]
      have HN1 := Lib.hid (show 1 ≤ t.length by rw [← HN.out]; omega)
      clear he
      have hm := mk_byte (t.getD 0 0)
      obtain ⟨b, hbe⟩ : ∃ b, b = t.getD 0 0 := ⟨_, rfl⟩
      rw [← hbe] at hm HD ⊢
      have HBE := Lib.hid hbe
      clear hbe
      have HM := Lib.hid hm
      clear hm
      have hx : ∀ W : World, Calls Tryz.prog 39 #[strV (t.drop 1)] W fun e w' => e = .returned (.bool (onlyOf (t.drop 1) dec)) ∧ w' = W := fun W => all_walk (t.drop 1) W (by have := HL.out; simp; omega)
      obtain ⟨td, htd⟩ : ∃ td, td = t.drop 1 := ⟨_, rfl⟩
      rw [← htd] at hx HD
      have HTD := Lib.hid htd
      have HX := Lib.hid hx
      clear hx htd
      generalize hq : onlyOf td dec = q at *
      clear hq
      by_cases h7 : b.toNat = 67
      · have HM2 := Lib.hid (show mk.contains b = true from by rw [HM.out, decide_eq_true h7]; rfl)
        refine wpList_run (v := .bool true) (w' := w1) rfl (by go_simp <;> omega) ?_
        simp only [Act.put, List.setIfInBounds_toArray, List.set_cons_zero, List.set_cons_succ]
        refine wpList_run (v := .bool true) rfl (exec_move rfl rfl) ?_
        simp only [Act.put, List.setIfInBounds_toArray, List.set_cons_zero, List.set_cons_succ]
        refine wpList_skip rfl ?_
        simp only [Act.put, List.setIfInBounds_toArray, List.set_cons_zero, List.set_cons_succ]
        refine wpList_skip rfl ?_
        simp only [Act.put, List.setIfInBounds_toArray, List.set_cons_zero, List.set_cons_succ]
        refine wpList_skip rfl ?_
        simp only [Act.put, List.setIfInBounds_toArray, List.set_cons_zero, List.set_cons_succ]
        refine wpList_run (v := .bool true) (w' := w1) rfl (by go_simp) ?_
        simp only [Act.put, List.setIfInBounds_toArray, List.set_cons_zero, List.set_cons_succ]
        refine wpList_run (v := .bool true) (w' := w1) rfl (by go_simp) ?_
        simp only [Act.put, List.setIfInBounds_toArray, List.set_cons_zero, List.set_cons_succ]
        refine wpList_run (v := .bool true) rfl (exec_move rfl rfl) ?_
        simp only [Act.put, List.setIfInBounds_toArray, List.set_cons_zero, List.set_cons_succ]
        refine wpList_run (v := strV t) rfl (exec_move rfl rfl) ?_
        simp only [Act.put, List.setIfInBounds_toArray, List.set_cons_zero, List.set_cons_succ]
        refine wpList_run (v := strV td) (w' := w1) rfl (by rw [HTD.out]; exact exec_sfrom (n := 1) rfl rfl rfl HN1.out) ?_
        simp only [Act.put, List.setIfInBounds_toArray, List.set_cons_zero, List.set_cons_succ]
        go_wp2_with (go_at_call 39; refine (HX.out _).mono ?_; rintro e w2 ⟨rfl, rfl⟩)
        go_ret
        rw [HD.out, HE.out, HM2.out]
        exact ⟨by simp, HT1.out⟩
      · by_cases h8 : b.toNat = 68
        · have HM2 := Lib.hid (show mk.contains b = true from by rw [HM.out, decide_eq_true h8, Bool.or_true])
          refine wpList_run (v := .bool false) (w' := w1) rfl (by go_simp <;> omega) ?_
          simp only [Act.put, List.setIfInBounds_toArray, List.set_cons_zero, List.set_cons_succ]
          refine wpList_run (v := .bool false) rfl (exec_move rfl rfl) ?_
          simp only [Act.put, List.setIfInBounds_toArray, List.set_cons_zero, List.set_cons_succ]
          refine wpList_run (v := strV t) rfl (exec_move rfl rfl) ?_
          simp only [Act.put, List.setIfInBounds_toArray, List.set_cons_zero, List.set_cons_succ]
          refine wpList_run (v := .int .u8 (b.toNat : Int)) (w' := w1) rfl (by rw [HBE.out]; exact exec_sidx rfl rfl rfl (by have := HN1.out; omega)) ?_
          simp only [Act.put, List.setIfInBounds_toArray, List.set_cons_zero, List.set_cons_succ]
          refine wpList_run (v := .bool true) (w' := w1) rfl (by go_simp <;> omega) ?_
          simp only [Act.put, List.setIfInBounds_toArray, List.set_cons_zero, List.set_cons_succ]
          refine wpList_run (v := .bool true) (w' := w1) rfl (by go_simp) ?_
          simp only [Act.put, List.setIfInBounds_toArray, List.set_cons_zero, List.set_cons_succ]
          refine wpList_run (v := .bool true) (w' := w1) rfl (by go_simp) ?_
          simp only [Act.put, List.setIfInBounds_toArray, List.set_cons_zero, List.set_cons_succ]
          refine wpList_run (v := .bool true) rfl (exec_move rfl rfl) ?_
          simp only [Act.put, List.setIfInBounds_toArray, List.set_cons_zero, List.set_cons_succ]
          refine wpList_run (v := strV t) rfl (exec_move rfl rfl) ?_
          simp only [Act.put, List.setIfInBounds_toArray, List.set_cons_zero, List.set_cons_succ]
          refine wpList_run (v := strV td) (w' := w1) rfl (by rw [HTD.out]; exact exec_sfrom (n := 1) rfl rfl rfl HN1.out) ?_
          simp only [Act.put, List.setIfInBounds_toArray, List.set_cons_zero, List.set_cons_succ]
          go_wp2_with (go_at_call 39; refine (HX.out _).mono ?_; rintro e w2 ⟨rfl, rfl⟩)
          go_ret
          rw [HD.out, HE.out, HM2.out]
          exact ⟨by simp, HT1.out⟩
        · have HM2 := Lib.hid (show mk.contains b = false from by rw [HM.out]; simp only [decide_eq_false h7, decide_eq_false h8]; rfl)
          refine wpList_run (v := .bool false) (w' := w1) rfl (by go_simp <;> omega) ?_
          simp only [Act.put, List.setIfInBounds_toArray, List.set_cons_zero, List.set_cons_succ]
          refine wpList_run (v := .bool false) rfl (exec_move rfl rfl) ?_
          simp only [Act.put, List.setIfInBounds_toArray, List.set_cons_zero, List.set_cons_succ]
          refine wpList_run (v := strV t) rfl (exec_move rfl rfl) ?_
          simp only [Act.put, List.setIfInBounds_toArray, List.set_cons_zero, List.set_cons_succ]
          refine wpList_run (v := .int .u8 (b.toNat : Int)) (w' := w1) rfl (by rw [HBE.out]; exact exec_sidx rfl rfl rfl (by have := HN1.out; omega)) ?_
          simp only [Act.put, List.setIfInBounds_toArray, List.set_cons_zero, List.set_cons_succ]
          refine wpList_run (v := .bool false) (w' := w1) rfl (by go_simp <;> omega) ?_
          simp only [Act.put, List.setIfInBounds_toArray, List.set_cons_zero, List.set_cons_succ]
          go_wp2_with fail
          go_ret
          rw [HD.out, HM2.out, Bool.false_and, Bool.and_false]
          exact ⟨rfl, HT1.out⟩
    · have HE := Lib.hid (show decide (n = s + 1) = false from decide_eq_false he)
      have y5 : ¬ ((n : Int) = ((s + 1 : Nat) : Int)) := by omega
      clear he
      go_wp2_with fail
      go_ret
      rw [HD.out, HE.out]
      exact ⟨by simp, HT1.out⟩
end Go.Proofs.YtgdlidjjogoiaaaGreatDoor
