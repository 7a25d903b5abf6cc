/-
  The reference's Next. No conditions.
-/
import Derived.Test.YtjjbmnoamcfdgaaLfB
namespace Go.Proofs.Ytjjbmnoamcfdgaa
open Go.RowKit
set_option linter.unusedVariables false
set_option linter.unusedSimpArgs false
set_option maxRecDepth 20000
/-- the table's cells, as the reference lays them -/
def lcell (s h : Int) : Int × Int × Bool :=
  if h = 2 then (s, 0, decide (s ≠ 0))
  else if h = 6 then if s = 0 then (5, 0, true) else if s = 1 then (5, 0, true) else if s = 5 then (5, 0, true) else if s = 2 then (5, -1, true) else (s, 0, true)
  else if s = 0 then if h = 1 then (1, 0, true) else if h = 7 then (2, 1, true) else if h = 8 then (2, 1, true) else if h = 9 then (0, 0, true) else (0, 0, false)
  else if s = 1 then if h = 3 then (2, 1, true) else if h = 4 then (3, 0, true) else if h = 5 then (4, 0, true) else (0, 0, false)
  else (0, 0, false)
def cellV (p : Int × Int × Bool) : Value := .tuple #[.int .i64 p.1, .int .i64 p.2.1, .bool p.2.2]
theorem lcell_next {s h : Int} (h0 : 0 ≤ s) (h1 : s ≤ 5) (h2 : 1 ≤ h) (h3 : h ≤ 9) : lnext s h = if (lcell s h).2.2 = true then ((lcell s h).1, (lcell s h).2.1, 0) else (0, 0, 160) := by
  have hs : s = 0 ∨ s = 1 ∨ s = 2 ∨ s = 3 ∨ s = 4 ∨ s = 5 := by omega
  have hh : h = 1 ∨ h = 2 ∨ h = 3 ∨ h = 4 ∨ h = 5 ∨ h = 6 ∨ h = 7 ∨ h = 8 ∨ h = 9 := by omega
  rcases hs with rfl | rfl | rfl | rfl | rfl | rfl <;> rcases hh with rfl | rfl | rfl | rfl | rfl | rfl | rfl | rfl | rfl <;> decide
theorem lnext_out {s h : Int} (h0 : s < 0 ∨ 5 < s ∨ h < 1 ∨ 9 < h) : lnext s h = (0, 0, 160) := by
  unfold lnext lbegin
  repeat' split
  all_goals first | rfl | omega
set_option maxRecDepth 20000 in
set_option maxHeartbeats 4000000 in
theorem cell_walk (s h : Int) (w : World) : Calls Try.prog 13 #[.int .i64 s, .int .i64 h] w fun e w' => e = .returned (cellV (lcell s h)) ∧ w' = w := by
  go_enter Try.func13, Try.ntmps13
  by_cases hh2 : h = 2
  · subst hh2
    go_upto_region 0 with fail
    refine wp_region_lit ?_
    refine wpList_run (v := .int .i64 0) (wanted_none rfl) (gx_assign rfl rfl) ?_
    simp only [Act.put, List.setIfInBounds_toArray, List.set_cons_zero, List.set_cons_succ]
    refine wpList_run (v := .int .i64 0) (wanted_none rfl) (gx_assign rfl rfl) ?_
    simp only [Act.put, List.setIfInBounds_toArray, List.set_cons_zero, List.set_cons_succ]
    refine wpList_run (v := .bool false) (wanted_none rfl) (gx_assign rfl rfl) ?_
    simp only [Act.put, List.setIfInBounds_toArray, List.set_cons_zero, List.set_cons_succ]
    go_upto_region 1 with fail
    refine wp_region_lit ?_
    refine wpList_run (v := .int .i64 2) (wanted_none rfl) (exec_move rfl rfl) ?_
    simp only [Act.put, List.setIfInBounds_toArray, List.set_cons_zero, List.set_cons_succ]
    go_upto_region 2 with fail
    refine wp_region_lit ?_
    refine wpList_run (v := .bool true) (wanted_none rfl) (ix_eql rfl rfl rfl (by decide)) ?_
    simp only [Act.put, List.setIfInBounds_toArray, List.set_cons_zero, List.set_cons_succ]
    refine wpList_run (v := .bool true) (wanted_none rfl) (gx_assign rfl rfl) ?_
    simp only [Act.put, List.setIfInBounds_toArray, List.set_cons_zero, List.set_cons_succ]
    by_cases hs0 : s = 0
    · subst hs0
      go_upto_region 3 with fail
      refine wp_region_lit ?_
      refine wpList_run (v := .int .i64 0) (wanted_none rfl) (exec_move rfl rfl) ?_
      simp only [Act.put, List.setIfInBounds_toArray, List.set_cons_zero, List.set_cons_succ]
      refine wpList_run (v := .int .i64 0) (wanted_none rfl) (exec_move rfl rfl) ?_
      simp only [Act.put, List.setIfInBounds_toArray, List.set_cons_zero, List.set_cons_succ]
      refine wpList_run (v := .bool false) (wanted_none rfl) (ix_neq rfl rfl rfl (by decide)) ?_
      simp only [Act.put, List.setIfInBounds_toArray, List.set_cons_zero, List.set_cons_succ]
      refine wpList_run (v := .int .i64 0) (wanted_none rfl) (gx_assign rfl rfl) ?_
      simp only [Act.put, List.setIfInBounds_toArray, List.set_cons_zero, List.set_cons_succ]
      refine wpList_run (v := .int .i64 0) (wanted_none rfl) (gx_assign rfl rfl) ?_
      simp only [Act.put, List.setIfInBounds_toArray, List.set_cons_zero, List.set_cons_succ]
      refine wpList_run (v := .bool false) (wanted_none rfl) (gx_assign rfl rfl) ?_
      simp only [Act.put, List.setIfInBounds_toArray, List.set_cons_zero, List.set_cons_succ]
      go_wp2_with fail
      go_ret3
      rw [show lcell 0 2 = (0, 0, false) from by simp [lcell]]
      exact ⟨rfl, rfl⟩
    · have Hs0 := Lib.hid hs0
      clear hs0
      go_upto_region 3 with fail
      refine wp_region_lit ?_
      refine wpList_run (v := .int .i64 s) (wanted_none rfl) (exec_move rfl rfl) ?_
      simp only [Act.put, List.setIfInBounds_toArray, List.set_cons_zero, List.set_cons_succ]
      refine wpList_run (v := .int .i64 s) (wanted_none rfl) (exec_move rfl rfl) ?_
      simp only [Act.put, List.setIfInBounds_toArray, List.set_cons_zero, List.set_cons_succ]
      refine wpList_run (v := .bool true) (wanted_none rfl) (ix_neq rfl rfl rfl (decide_eq_true Hs0.out)) ?_
      simp only [Act.put, List.setIfInBounds_toArray, List.set_cons_zero, List.set_cons_succ]
      refine wpList_run (v := .int .i64 s) (wanted_none rfl) (gx_assign rfl rfl) ?_
      simp only [Act.put, List.setIfInBounds_toArray, List.set_cons_zero, List.set_cons_succ]
      refine wpList_run (v := .int .i64 0) (wanted_none rfl) (gx_assign rfl rfl) ?_
      simp only [Act.put, List.setIfInBounds_toArray, List.set_cons_zero, List.set_cons_succ]
      refine wpList_run (v := .bool true) (wanted_none rfl) (gx_assign rfl rfl) ?_
      simp only [Act.put, List.setIfInBounds_toArray, List.set_cons_zero, List.set_cons_succ]
      go_wp2_with fail
      go_ret3
      rw [show lcell s 2 = (s, 0, true) from by simp [lcell, Hs0.out]]
      exact ⟨rfl, rfl⟩
  · have Hh2 := Lib.hid hh2
    clear hh2
    by_cases hh6 : h = 6
    · subst hh6
      go_upto_region 0 with fail
      refine wp_region_lit ?_
      refine wpList_run (v := .int .i64 0) (wanted_none rfl) (gx_assign rfl rfl) ?_
      simp only [Act.put, List.setIfInBounds_toArray, List.set_cons_zero, List.set_cons_succ]
      refine wpList_run (v := .int .i64 0) (wanted_none rfl) (gx_assign rfl rfl) ?_
      simp only [Act.put, List.setIfInBounds_toArray, List.set_cons_zero, List.set_cons_succ]
      refine wpList_run (v := .bool false) (wanted_none rfl) (gx_assign rfl rfl) ?_
      simp only [Act.put, List.setIfInBounds_toArray, List.set_cons_zero, List.set_cons_succ]
      go_upto_region 1 with fail
      refine wp_region_lit ?_
      refine wpList_run (v := .int .i64 6) (wanted_none rfl) (exec_move rfl rfl) ?_
      simp only [Act.put, List.setIfInBounds_toArray, List.set_cons_zero, List.set_cons_succ]
      go_upto_region 2 with fail
      refine wp_region_lit ?_
      refine wpList_run (v := .bool false) (wanted_none rfl) (ix_eql rfl rfl rfl (by decide)) ?_
      simp only [Act.put, List.setIfInBounds_toArray, List.set_cons_zero, List.set_cons_succ]
      refine wpList_run (v := .bool false) (wanted_none rfl) (gx_assign rfl rfl) ?_
      simp only [Act.put, List.setIfInBounds_toArray, List.set_cons_zero, List.set_cons_succ]
      go_upto_region 4 with fail
      refine wp_region_lit ?_
      refine wpList_run (v := .bool true) (wanted_none rfl) (ix_eql rfl rfl rfl (by decide)) ?_
      simp only [Act.put, List.setIfInBounds_toArray, List.set_cons_zero, List.set_cons_succ]
      refine wpList_run (v := .bool true) (wanted_none rfl) (gx_assign rfl rfl) ?_
      simp only [Act.put, List.setIfInBounds_toArray, List.set_cons_zero, List.set_cons_succ]
      by_cases hs0 : s = 0
      · subst hs0
        go_upto_region 5 with fail
        refine wp_region_lit ?_
        refine wpList_run (v := .int .i64 0) (wanted_none rfl) (exec_move rfl rfl) ?_
        simp only [Act.put, List.setIfInBounds_toArray, List.set_cons_zero, List.set_cons_succ]
        go_upto_region 6 with fail
        refine wp_region_lit ?_
        refine wpList_run (v := .bool true) (wanted_none rfl) (ix_eql rfl rfl rfl (by decide)) ?_
        simp only [Act.put, List.setIfInBounds_toArray, List.set_cons_zero, List.set_cons_succ]
        refine wpList_run (v := .bool true) (wanted_none rfl) (gx_assign rfl rfl) ?_
        simp only [Act.put, List.setIfInBounds_toArray, List.set_cons_zero, List.set_cons_succ]
        go_upto_region 9 with fail
        refine wp_region_lit ?_
        refine wpList_run (v := .int .i64 5) (wanted_none rfl) (gx_assign rfl rfl) ?_
        simp only [Act.put, List.setIfInBounds_toArray, List.set_cons_zero, List.set_cons_succ]
        refine wpList_run (v := .int .i64 0) (wanted_none rfl) (gx_assign rfl rfl) ?_
        simp only [Act.put, List.setIfInBounds_toArray, List.set_cons_zero, List.set_cons_succ]
        refine wpList_run (v := .bool true) (wanted_none rfl) (gx_assign rfl rfl) ?_
        simp only [Act.put, List.setIfInBounds_toArray, List.set_cons_zero, List.set_cons_succ]
        go_wp2_with fail
        go_ret3
        rw [show lcell 0 6 = (5, 0, true) from by simp [lcell, Hh2.out]]
        exact ⟨rfl, rfl⟩
      · have Hs0 := Lib.hid hs0
        clear hs0
        by_cases hs1 : s = 1
        · subst hs1
          go_upto_region 5 with fail
          refine wp_region_lit ?_
          refine wpList_run (v := .int .i64 1) (wanted_none rfl) (exec_move rfl rfl) ?_
          simp only [Act.put, List.setIfInBounds_toArray, List.set_cons_zero, List.set_cons_succ]
          go_upto_region 6 with fail
          refine wp_region_lit ?_
          refine wpList_run (v := .bool false) (wanted_none rfl) (ix_eql rfl rfl rfl (by decide)) ?_
          simp only [Act.put, List.setIfInBounds_toArray, List.set_cons_zero, List.set_cons_succ]
          refine wpList_run (v := .bool false) (wanted_none rfl) (gx_assign rfl rfl) ?_
          simp only [Act.put, List.setIfInBounds_toArray, List.set_cons_zero, List.set_cons_succ]
          go_upto_region 7 with fail
          refine wp_region_lit ?_
          refine wpList_run (v := .bool true) (wanted_none rfl) (ix_eql rfl rfl rfl (by decide)) ?_
          simp only [Act.put, List.setIfInBounds_toArray, List.set_cons_zero, List.set_cons_succ]
          refine wpList_run (v := .bool true) (wanted_none rfl) (gx_assign rfl rfl) ?_
          simp only [Act.put, List.setIfInBounds_toArray, List.set_cons_zero, List.set_cons_succ]
          go_upto_region 9 with fail
          refine wp_region_lit ?_
          refine wpList_run (v := .int .i64 5) (wanted_none rfl) (gx_assign rfl rfl) ?_
          simp only [Act.put, List.setIfInBounds_toArray, List.set_cons_zero, List.set_cons_succ]
          refine wpList_run (v := .int .i64 0) (wanted_none rfl) (gx_assign rfl rfl) ?_
          simp only [Act.put, List.setIfInBounds_toArray, List.set_cons_zero, List.set_cons_succ]
          refine wpList_run (v := .bool true) (wanted_none rfl) (gx_assign rfl rfl) ?_
          simp only [Act.put, List.setIfInBounds_toArray, List.set_cons_zero, List.set_cons_succ]
          go_wp2_with fail
          go_ret3
          rw [show lcell 1 6 = (5, 0, true) from by simp [lcell, Hh2.out, Hs0.out]]
          exact ⟨rfl, rfl⟩
        · have Hs1 := Lib.hid hs1
          clear hs1
          by_cases hs5 : s = 5
          · subst hs5
            go_upto_region 5 with fail
            refine wp_region_lit ?_
            refine wpList_run (v := .int .i64 5) (wanted_none rfl) (exec_move rfl rfl) ?_
            simp only [Act.put, List.setIfInBounds_toArray, List.set_cons_zero, List.set_cons_succ]
            go_upto_region 6 with fail
            refine wp_region_lit ?_
            refine wpList_run (v := .bool false) (wanted_none rfl) (ix_eql rfl rfl rfl (by decide)) ?_
            simp only [Act.put, List.setIfInBounds_toArray, List.set_cons_zero, List.set_cons_succ]
            refine wpList_run (v := .bool false) (wanted_none rfl) (gx_assign rfl rfl) ?_
            simp only [Act.put, List.setIfInBounds_toArray, List.set_cons_zero, List.set_cons_succ]
            go_upto_region 7 with fail
            refine wp_region_lit ?_
            refine wpList_run (v := .bool false) (wanted_none rfl) (ix_eql rfl rfl rfl (by decide)) ?_
            simp only [Act.put, List.setIfInBounds_toArray, List.set_cons_zero, List.set_cons_succ]
            refine wpList_run (v := .bool false) (wanted_none rfl) (gx_assign rfl rfl) ?_
            simp only [Act.put, List.setIfInBounds_toArray, List.set_cons_zero, List.set_cons_succ]
            go_upto_region 8 with fail
            refine wp_region_lit ?_
            refine wpList_run (v := .bool true) (wanted_none rfl) (ix_eql rfl rfl rfl (by decide)) ?_
            simp only [Act.put, List.setIfInBounds_toArray, List.set_cons_zero, List.set_cons_succ]
            refine wpList_run (v := .bool true) (wanted_none rfl) (gx_assign rfl rfl) ?_
            simp only [Act.put, List.setIfInBounds_toArray, List.set_cons_zero, List.set_cons_succ]
            go_upto_region 9 with fail
            refine wp_region_lit ?_
            refine wpList_run (v := .int .i64 5) (wanted_none rfl) (gx_assign rfl rfl) ?_
            simp only [Act.put, List.setIfInBounds_toArray, List.set_cons_zero, List.set_cons_succ]
            refine wpList_run (v := .int .i64 0) (wanted_none rfl) (gx_assign rfl rfl) ?_
            simp only [Act.put, List.setIfInBounds_toArray, List.set_cons_zero, List.set_cons_succ]
            refine wpList_run (v := .bool true) (wanted_none rfl) (gx_assign rfl rfl) ?_
            simp only [Act.put, List.setIfInBounds_toArray, List.set_cons_zero, List.set_cons_succ]
            go_wp2_with fail
            go_ret3
            rw [show lcell 5 6 = (5, 0, true) from by simp [lcell, Hh2.out, Hs0.out, Hs1.out]]
            exact ⟨rfl, rfl⟩
          · have Hs5 := Lib.hid hs5
            clear hs5
            by_cases hs2 : s = 2
            · subst hs2
              go_upto_region 5 with fail
              refine wp_region_lit ?_
              refine wpList_run (v := .int .i64 2) (wanted_none rfl) (exec_move rfl rfl) ?_
              simp only [Act.put, List.setIfInBounds_toArray, List.set_cons_zero, List.set_cons_succ]
              go_upto_region 6 with fail
              refine wp_region_lit ?_
              refine wpList_run (v := .bool false) (wanted_none rfl) (ix_eql rfl rfl rfl (by decide)) ?_
              simp only [Act.put, List.setIfInBounds_toArray, List.set_cons_zero, List.set_cons_succ]
              refine wpList_run (v := .bool false) (wanted_none rfl) (gx_assign rfl rfl) ?_
              simp only [Act.put, List.setIfInBounds_toArray, List.set_cons_zero, List.set_cons_succ]
              go_upto_region 7 with fail
              refine wp_region_lit ?_
              refine wpList_run (v := .bool false) (wanted_none rfl) (ix_eql rfl rfl rfl (by decide)) ?_
              simp only [Act.put, List.setIfInBounds_toArray, List.set_cons_zero, List.set_cons_succ]
              refine wpList_run (v := .bool false) (wanted_none rfl) (gx_assign rfl rfl) ?_
              simp only [Act.put, List.setIfInBounds_toArray, List.set_cons_zero, List.set_cons_succ]
              go_upto_region 8 with fail
              refine wp_region_lit ?_
              refine wpList_run (v := .bool false) (wanted_none rfl) (ix_eql rfl rfl rfl (by decide)) ?_
              simp only [Act.put, List.setIfInBounds_toArray, List.set_cons_zero, List.set_cons_succ]
              refine wpList_run (v := .bool false) (wanted_none rfl) (gx_assign rfl rfl) ?_
              simp only [Act.put, List.setIfInBounds_toArray, List.set_cons_zero, List.set_cons_succ]
              go_upto_region 10 with fail
              refine wp_region_lit ?_
              refine wpList_run (v := .bool true) (wanted_none rfl) (ix_eql rfl rfl rfl (by decide)) ?_
              simp only [Act.put, List.setIfInBounds_toArray, List.set_cons_zero, List.set_cons_succ]
              refine wpList_run (v := .bool true) (wanted_none rfl) (gx_assign rfl rfl) ?_
              simp only [Act.put, List.setIfInBounds_toArray, List.set_cons_zero, List.set_cons_succ]
              go_upto_region 11 with fail
              refine wp_region_lit ?_
              refine wpList_run (v := .int .i64 5) (wanted_none rfl) (gx_assign rfl rfl) ?_
              simp only [Act.put, List.setIfInBounds_toArray, List.set_cons_zero, List.set_cons_succ]
              refine wpList_run (v := .int .i64 (-1)) (wanted_none rfl) (gx_assign rfl rfl) ?_
              simp only [Act.put, List.setIfInBounds_toArray, List.set_cons_zero, List.set_cons_succ]
              refine wpList_run (v := .bool true) (wanted_none rfl) (gx_assign rfl rfl) ?_
              simp only [Act.put, List.setIfInBounds_toArray, List.set_cons_zero, List.set_cons_succ]
              go_wp2_with fail
              go_ret3
              rw [show lcell 2 6 = (5, (-1), true) from by simp [lcell, Hh2.out, Hs0.out, Hs1.out, Hs5.out]]
              exact ⟨rfl, rfl⟩
            · have Hs2 := Lib.hid hs2
              clear hs2
              go_upto_region 5 with fail
              refine wp_region_lit ?_
              refine wpList_run (v := .int .i64 s) (wanted_none rfl) (exec_move rfl rfl) ?_
              simp only [Act.put, List.setIfInBounds_toArray, List.set_cons_zero, List.set_cons_succ]
              go_upto_region 6 with fail
              refine wp_region_lit ?_
              refine wpList_run (v := .bool false) (wanted_none rfl) (ix_eql rfl rfl rfl (decide_eq_false Hs0.out)) ?_
              simp only [Act.put, List.setIfInBounds_toArray, List.set_cons_zero, List.set_cons_succ]
              refine wpList_run (v := .bool false) (wanted_none rfl) (gx_assign rfl rfl) ?_
              simp only [Act.put, List.setIfInBounds_toArray, List.set_cons_zero, List.set_cons_succ]
              go_upto_region 7 with fail
              refine wp_region_lit ?_
              refine wpList_run (v := .bool false) (wanted_none rfl) (ix_eql rfl rfl rfl (decide_eq_false Hs1.out)) ?_
              simp only [Act.put, List.setIfInBounds_toArray, List.set_cons_zero, List.set_cons_succ]
              refine wpList_run (v := .bool false) (wanted_none rfl) (gx_assign rfl rfl) ?_
              simp only [Act.put, List.setIfInBounds_toArray, List.set_cons_zero, List.set_cons_succ]
              go_upto_region 8 with fail
              refine wp_region_lit ?_
              refine wpList_run (v := .bool false) (wanted_none rfl) (ix_eql rfl rfl rfl (decide_eq_false Hs5.out)) ?_
              simp only [Act.put, List.setIfInBounds_toArray, List.set_cons_zero, List.set_cons_succ]
              refine wpList_run (v := .bool false) (wanted_none rfl) (gx_assign rfl rfl) ?_
              simp only [Act.put, List.setIfInBounds_toArray, List.set_cons_zero, List.set_cons_succ]
              go_upto_region 10 with fail
              refine wp_region_lit ?_
              refine wpList_run (v := .bool false) (wanted_none rfl) (ix_eql rfl rfl rfl (decide_eq_false Hs2.out)) ?_
              simp only [Act.put, List.setIfInBounds_toArray, List.set_cons_zero, List.set_cons_succ]
              refine wpList_run (v := .bool false) (wanted_none rfl) (gx_assign rfl rfl) ?_
              simp only [Act.put, List.setIfInBounds_toArray, List.set_cons_zero, List.set_cons_succ]
              go_upto_region 12 with fail
              refine wp_region_lit ?_
              refine wpList_run (v := .int .i64 s) (wanted_none rfl) (exec_move rfl rfl) ?_
              simp only [Act.put, List.setIfInBounds_toArray, List.set_cons_zero, List.set_cons_succ]
              refine wpList_run (v := .int .i64 s) (wanted_none rfl) (gx_assign rfl rfl) ?_
              simp only [Act.put, List.setIfInBounds_toArray, List.set_cons_zero, List.set_cons_succ]
              refine wpList_run (v := .int .i64 0) (wanted_none rfl) (gx_assign rfl rfl) ?_
              simp only [Act.put, List.setIfInBounds_toArray, List.set_cons_zero, List.set_cons_succ]
              refine wpList_run (v := .bool true) (wanted_none rfl) (gx_assign rfl rfl) ?_
              simp only [Act.put, List.setIfInBounds_toArray, List.set_cons_zero, List.set_cons_succ]
              go_wp2_with fail
              go_ret3
              rw [show lcell s 6 = (s, 0, true) from by simp [lcell, Hh2.out, Hs0.out, Hs1.out, Hs5.out, Hs2.out]]
              exact ⟨rfl, rfl⟩
    · have Hh6 := Lib.hid hh6
      clear hh6
      by_cases hh1 : h = 1
      · subst hh1
        go_upto_region 0 with fail
        refine wp_region_lit ?_
        refine wpList_run (v := .int .i64 0) (wanted_none rfl) (gx_assign rfl rfl) ?_
        simp only [Act.put, List.setIfInBounds_toArray, List.set_cons_zero, List.set_cons_succ]
        refine wpList_run (v := .int .i64 0) (wanted_none rfl) (gx_assign rfl rfl) ?_
        simp only [Act.put, List.setIfInBounds_toArray, List.set_cons_zero, List.set_cons_succ]
        refine wpList_run (v := .bool false) (wanted_none rfl) (gx_assign rfl rfl) ?_
        simp only [Act.put, List.setIfInBounds_toArray, List.set_cons_zero, List.set_cons_succ]
        go_upto_region 1 with fail
        refine wp_region_lit ?_
        refine wpList_run (v := .int .i64 1) (wanted_none rfl) (exec_move rfl rfl) ?_
        simp only [Act.put, List.setIfInBounds_toArray, List.set_cons_zero, List.set_cons_succ]
        go_upto_region 2 with fail
        refine wp_region_lit ?_
        refine wpList_run (v := .bool false) (wanted_none rfl) (ix_eql rfl rfl rfl (by decide)) ?_
        simp only [Act.put, List.setIfInBounds_toArray, List.set_cons_zero, List.set_cons_succ]
        refine wpList_run (v := .bool false) (wanted_none rfl) (gx_assign rfl rfl) ?_
        simp only [Act.put, List.setIfInBounds_toArray, List.set_cons_zero, List.set_cons_succ]
        go_upto_region 4 with fail
        refine wp_region_lit ?_
        refine wpList_run (v := .bool false) (wanted_none rfl) (ix_eql rfl rfl rfl (by decide)) ?_
        simp only [Act.put, List.setIfInBounds_toArray, List.set_cons_zero, List.set_cons_succ]
        refine wpList_run (v := .bool false) (wanted_none rfl) (gx_assign rfl rfl) ?_
        simp only [Act.put, List.setIfInBounds_toArray, List.set_cons_zero, List.set_cons_succ]
        by_cases hs0 : s = 0
        · subst hs0
          go_upto_region 13 with fail
          refine wp_region_lit ?_
          refine wpList_run (v := .int .i64 0) (wanted_none rfl) (exec_move rfl rfl) ?_
          simp only [Act.put, List.setIfInBounds_toArray, List.set_cons_zero, List.set_cons_succ]
          go_upto_region 14 with fail
          refine wp_region_lit ?_
          refine wpList_run (v := .bool true) (wanted_none rfl) (ix_eql rfl rfl rfl (by decide)) ?_
          simp only [Act.put, List.setIfInBounds_toArray, List.set_cons_zero, List.set_cons_succ]
          refine wpList_run (v := .bool true) (wanted_none rfl) (gx_assign rfl rfl) ?_
          simp only [Act.put, List.setIfInBounds_toArray, List.set_cons_zero, List.set_cons_succ]
          go_upto_region 15 with fail
          refine wp_region_lit ?_
          refine wpList_run (v := .int .i64 1) (wanted_none rfl) (exec_move rfl rfl) ?_
          simp only [Act.put, List.setIfInBounds_toArray, List.set_cons_zero, List.set_cons_succ]
          go_upto_region 16 with fail
          refine wp_region_lit ?_
          refine wpList_run (v := .bool true) (wanted_none rfl) (ix_eql rfl rfl rfl (by decide)) ?_
          simp only [Act.put, List.setIfInBounds_toArray, List.set_cons_zero, List.set_cons_succ]
          refine wpList_run (v := .bool true) (wanted_none rfl) (gx_assign rfl rfl) ?_
          simp only [Act.put, List.setIfInBounds_toArray, List.set_cons_zero, List.set_cons_succ]
          go_upto_region 17 with fail
          refine wp_region_lit ?_
          refine wpList_run (v := .int .i64 1) (wanted_none rfl) (gx_assign rfl rfl) ?_
          simp only [Act.put, List.setIfInBounds_toArray, List.set_cons_zero, List.set_cons_succ]
          refine wpList_run (v := .int .i64 0) (wanted_none rfl) (gx_assign rfl rfl) ?_
          simp only [Act.put, List.setIfInBounds_toArray, List.set_cons_zero, List.set_cons_succ]
          refine wpList_run (v := .bool true) (wanted_none rfl) (gx_assign rfl rfl) ?_
          simp only [Act.put, List.setIfInBounds_toArray, List.set_cons_zero, List.set_cons_succ]
          go_wp2_with fail
          go_ret3
          rw [show lcell 0 1 = (1, 0, true) from by simp [lcell, Hh2.out, Hh6.out]]
          exact ⟨rfl, rfl⟩
        · have Hs0 := Lib.hid hs0
          clear hs0
          by_cases hs1 : s = 1
          · subst hs1
            go_upto_region 13 with fail
            refine wp_region_lit ?_
            refine wpList_run (v := .int .i64 1) (wanted_none rfl) (exec_move rfl rfl) ?_
            simp only [Act.put, List.setIfInBounds_toArray, List.set_cons_zero, List.set_cons_succ]
            go_upto_region 14 with fail
            refine wp_region_lit ?_
            refine wpList_run (v := .bool false) (wanted_none rfl) (ix_eql rfl rfl rfl (by decide)) ?_
            simp only [Act.put, List.setIfInBounds_toArray, List.set_cons_zero, List.set_cons_succ]
            refine wpList_run (v := .bool false) (wanted_none rfl) (gx_assign rfl rfl) ?_
            simp only [Act.put, List.setIfInBounds_toArray, List.set_cons_zero, List.set_cons_succ]
            go_upto_region 23 with fail
            refine wp_region_lit ?_
            refine wpList_run (v := .bool true) (wanted_none rfl) (ix_eql rfl rfl rfl (by decide)) ?_
            simp only [Act.put, List.setIfInBounds_toArray, List.set_cons_zero, List.set_cons_succ]
            refine wpList_run (v := .bool true) (wanted_none rfl) (gx_assign rfl rfl) ?_
            simp only [Act.put, List.setIfInBounds_toArray, List.set_cons_zero, List.set_cons_succ]
            go_upto_region 24 with fail
            refine wp_region_lit ?_
            refine wpList_run (v := .int .i64 1) (wanted_none rfl) (exec_move rfl rfl) ?_
            simp only [Act.put, List.setIfInBounds_toArray, List.set_cons_zero, List.set_cons_succ]
            go_upto_region 25 with fail
            refine wp_region_lit ?_
            refine wpList_run (v := .bool false) (wanted_none rfl) (ix_eql rfl rfl rfl (by decide)) ?_
            simp only [Act.put, List.setIfInBounds_toArray, List.set_cons_zero, List.set_cons_succ]
            refine wpList_run (v := .bool false) (wanted_none rfl) (gx_assign rfl rfl) ?_
            simp only [Act.put, List.setIfInBounds_toArray, List.set_cons_zero, List.set_cons_succ]
            go_upto_region 27 with fail
            refine wp_region_lit ?_
            refine wpList_run (v := .bool false) (wanted_none rfl) (ix_eql rfl rfl rfl (by decide)) ?_
            simp only [Act.put, List.setIfInBounds_toArray, List.set_cons_zero, List.set_cons_succ]
            refine wpList_run (v := .bool false) (wanted_none rfl) (gx_assign rfl rfl) ?_
            simp only [Act.put, List.setIfInBounds_toArray, List.set_cons_zero, List.set_cons_succ]
            go_upto_region 29 with fail
            refine wp_region_lit ?_
            refine wpList_run (v := .bool false) (wanted_none rfl) (ix_eql rfl rfl rfl (by decide)) ?_
            simp only [Act.put, List.setIfInBounds_toArray, List.set_cons_zero, List.set_cons_succ]
            refine wpList_run (v := .bool false) (wanted_none rfl) (gx_assign rfl rfl) ?_
            simp only [Act.put, List.setIfInBounds_toArray, List.set_cons_zero, List.set_cons_succ]
            go_upto_region 31 with fail
            refine wp_region_lit ?_
            refine wpList_run (v := .int .i64 0) (wanted_none rfl) (gx_assign rfl rfl) ?_
            simp only [Act.put, List.setIfInBounds_toArray, List.set_cons_zero, List.set_cons_succ]
            refine wpList_run (v := .int .i64 0) (wanted_none rfl) (gx_assign rfl rfl) ?_
            simp only [Act.put, List.setIfInBounds_toArray, List.set_cons_zero, List.set_cons_succ]
            refine wpList_run (v := .bool false) (wanted_none rfl) (gx_assign rfl rfl) ?_
            simp only [Act.put, List.setIfInBounds_toArray, List.set_cons_zero, List.set_cons_succ]
            go_wp2_with fail
            go_ret3
            rw [show lcell 1 1 = (0, 0, false) from by simp [lcell, Hh2.out, Hh6.out, Hs0.out]]
            exact ⟨rfl, rfl⟩
          · have Hs1 := Lib.hid hs1
            clear hs1
            go_upto_region 13 with fail
            refine wp_region_lit ?_
            refine wpList_run (v := .int .i64 s) (wanted_none rfl) (exec_move rfl rfl) ?_
            simp only [Act.put, List.setIfInBounds_toArray, List.set_cons_zero, List.set_cons_succ]
            go_upto_region 14 with fail
            refine wp_region_lit ?_
            refine wpList_run (v := .bool false) (wanted_none rfl) (ix_eql rfl rfl rfl (decide_eq_false Hs0.out)) ?_
            simp only [Act.put, List.setIfInBounds_toArray, List.set_cons_zero, List.set_cons_succ]
            refine wpList_run (v := .bool false) (wanted_none rfl) (gx_assign rfl rfl) ?_
            simp only [Act.put, List.setIfInBounds_toArray, List.set_cons_zero, List.set_cons_succ]
            go_upto_region 23 with fail
            refine wp_region_lit ?_
            refine wpList_run (v := .bool false) (wanted_none rfl) (ix_eql rfl rfl rfl (decide_eq_false Hs1.out)) ?_
            simp only [Act.put, List.setIfInBounds_toArray, List.set_cons_zero, List.set_cons_succ]
            refine wpList_run (v := .bool false) (wanted_none rfl) (gx_assign rfl rfl) ?_
            simp only [Act.put, List.setIfInBounds_toArray, List.set_cons_zero, List.set_cons_succ]
            go_upto_region 31 with fail
            refine wp_region_lit ?_
            refine wpList_run (v := .int .i64 0) (wanted_none rfl) (gx_assign rfl rfl) ?_
            simp only [Act.put, List.setIfInBounds_toArray, List.set_cons_zero, List.set_cons_succ]
            refine wpList_run (v := .int .i64 0) (wanted_none rfl) (gx_assign rfl rfl) ?_
            simp only [Act.put, List.setIfInBounds_toArray, List.set_cons_zero, List.set_cons_succ]
            refine wpList_run (v := .bool false) (wanted_none rfl) (gx_assign rfl rfl) ?_
            simp only [Act.put, List.setIfInBounds_toArray, List.set_cons_zero, List.set_cons_succ]
            go_wp2_with fail
            go_ret3
            rw [show lcell s 1 = (0, 0, false) from by simp [lcell, Hh2.out, Hh6.out, Hs0.out, Hs1.out]]
            exact ⟨rfl, rfl⟩
      · have Hh1 := Lib.hid hh1
        clear hh1
        by_cases hh7 : h = 7
        · subst hh7
          go_upto_region 0 with fail
          refine wp_region_lit ?_
          refine wpList_run (v := .int .i64 0) (wanted_none rfl) (gx_assign rfl rfl) ?_
          simp only [Act.put, List.setIfInBounds_toArray, List.set_cons_zero, List.set_cons_succ]
          refine wpList_run (v := .int .i64 0) (wanted_none rfl) (gx_assign rfl rfl) ?_
          simp only [Act.put, List.setIfInBounds_toArray, List.set_cons_zero, List.set_cons_succ]
          refine wpList_run (v := .bool false) (wanted_none rfl) (gx_assign rfl rfl) ?_
          simp only [Act.put, List.setIfInBounds_toArray, List.set_cons_zero, List.set_cons_succ]
          go_upto_region 1 with fail
          refine wp_region_lit ?_
          refine wpList_run (v := .int .i64 7) (wanted_none rfl) (exec_move rfl rfl) ?_
          simp only [Act.put, List.setIfInBounds_toArray, List.set_cons_zero, List.set_cons_succ]
          go_upto_region 2 with fail
          refine wp_region_lit ?_
          refine wpList_run (v := .bool false) (wanted_none rfl) (ix_eql rfl rfl rfl (by decide)) ?_
          simp only [Act.put, List.setIfInBounds_toArray, List.set_cons_zero, List.set_cons_succ]
          refine wpList_run (v := .bool false) (wanted_none rfl) (gx_assign rfl rfl) ?_
          simp only [Act.put, List.setIfInBounds_toArray, List.set_cons_zero, List.set_cons_succ]
          go_upto_region 4 with fail
          refine wp_region_lit ?_
          refine wpList_run (v := .bool false) (wanted_none rfl) (ix_eql rfl rfl rfl (by decide)) ?_
          simp only [Act.put, List.setIfInBounds_toArray, List.set_cons_zero, List.set_cons_succ]
          refine wpList_run (v := .bool false) (wanted_none rfl) (gx_assign rfl rfl) ?_
          simp only [Act.put, List.setIfInBounds_toArray, List.set_cons_zero, List.set_cons_succ]
          by_cases hs0 : s = 0
          · subst hs0
            go_upto_region 13 with fail
            refine wp_region_lit ?_
            refine wpList_run (v := .int .i64 0) (wanted_none rfl) (exec_move rfl rfl) ?_
            simp only [Act.put, List.setIfInBounds_toArray, List.set_cons_zero, List.set_cons_succ]
            go_upto_region 14 with fail
            refine wp_region_lit ?_
            refine wpList_run (v := .bool true) (wanted_none rfl) (ix_eql rfl rfl rfl (by decide)) ?_
            simp only [Act.put, List.setIfInBounds_toArray, List.set_cons_zero, List.set_cons_succ]
            refine wpList_run (v := .bool true) (wanted_none rfl) (gx_assign rfl rfl) ?_
            simp only [Act.put, List.setIfInBounds_toArray, List.set_cons_zero, List.set_cons_succ]
            go_upto_region 15 with fail
            refine wp_region_lit ?_
            refine wpList_run (v := .int .i64 7) (wanted_none rfl) (exec_move rfl rfl) ?_
            simp only [Act.put, List.setIfInBounds_toArray, List.set_cons_zero, List.set_cons_succ]
            go_upto_region 16 with fail
            refine wp_region_lit ?_
            refine wpList_run (v := .bool false) (wanted_none rfl) (ix_eql rfl rfl rfl (by decide)) ?_
            simp only [Act.put, List.setIfInBounds_toArray, List.set_cons_zero, List.set_cons_succ]
            refine wpList_run (v := .bool false) (wanted_none rfl) (gx_assign rfl rfl) ?_
            simp only [Act.put, List.setIfInBounds_toArray, List.set_cons_zero, List.set_cons_succ]
            go_upto_region 18 with fail
            refine wp_region_lit ?_
            refine wpList_run (v := .bool true) (wanted_none rfl) (ix_eql rfl rfl rfl (by decide)) ?_
            simp only [Act.put, List.setIfInBounds_toArray, List.set_cons_zero, List.set_cons_succ]
            refine wpList_run (v := .bool true) (wanted_none rfl) (gx_assign rfl rfl) ?_
            simp only [Act.put, List.setIfInBounds_toArray, List.set_cons_zero, List.set_cons_succ]
            go_upto_region 20 with fail
            refine wp_region_lit ?_
            refine wpList_run (v := .int .i64 2) (wanted_none rfl) (gx_assign rfl rfl) ?_
            simp only [Act.put, List.setIfInBounds_toArray, List.set_cons_zero, List.set_cons_succ]
            refine wpList_run (v := .int .i64 1) (wanted_none rfl) (gx_assign rfl rfl) ?_
            simp only [Act.put, List.setIfInBounds_toArray, List.set_cons_zero, List.set_cons_succ]
            refine wpList_run (v := .bool true) (wanted_none rfl) (gx_assign rfl rfl) ?_
            simp only [Act.put, List.setIfInBounds_toArray, List.set_cons_zero, List.set_cons_succ]
            go_wp2_with fail
            go_ret3
            rw [show lcell 0 7 = (2, 1, true) from by simp [lcell, Hh2.out, Hh6.out, Hh1.out]]
            exact ⟨rfl, rfl⟩
          · have Hs0 := Lib.hid hs0
            clear hs0
            by_cases hs1 : s = 1
            · subst hs1
              go_upto_region 13 with fail
              refine wp_region_lit ?_
              refine wpList_run (v := .int .i64 1) (wanted_none rfl) (exec_move rfl rfl) ?_
              simp only [Act.put, List.setIfInBounds_toArray, List.set_cons_zero, List.set_cons_succ]
              go_upto_region 14 with fail
              refine wp_region_lit ?_
              refine wpList_run (v := .bool false) (wanted_none rfl) (ix_eql rfl rfl rfl (by decide)) ?_
              simp only [Act.put, List.setIfInBounds_toArray, List.set_cons_zero, List.set_cons_succ]
              refine wpList_run (v := .bool false) (wanted_none rfl) (gx_assign rfl rfl) ?_
              simp only [Act.put, List.setIfInBounds_toArray, List.set_cons_zero, List.set_cons_succ]
              go_upto_region 23 with fail
              refine wp_region_lit ?_
              refine wpList_run (v := .bool true) (wanted_none rfl) (ix_eql rfl rfl rfl (by decide)) ?_
              simp only [Act.put, List.setIfInBounds_toArray, List.set_cons_zero, List.set_cons_succ]
              refine wpList_run (v := .bool true) (wanted_none rfl) (gx_assign rfl rfl) ?_
              simp only [Act.put, List.setIfInBounds_toArray, List.set_cons_zero, List.set_cons_succ]
              go_upto_region 24 with fail
              refine wp_region_lit ?_
              refine wpList_run (v := .int .i64 7) (wanted_none rfl) (exec_move rfl rfl) ?_
              simp only [Act.put, List.setIfInBounds_toArray, List.set_cons_zero, List.set_cons_succ]
              go_upto_region 25 with fail
              refine wp_region_lit ?_
              refine wpList_run (v := .bool false) (wanted_none rfl) (ix_eql rfl rfl rfl (by decide)) ?_
              simp only [Act.put, List.setIfInBounds_toArray, List.set_cons_zero, List.set_cons_succ]
              refine wpList_run (v := .bool false) (wanted_none rfl) (gx_assign rfl rfl) ?_
              simp only [Act.put, List.setIfInBounds_toArray, List.set_cons_zero, List.set_cons_succ]
              go_upto_region 27 with fail
              refine wp_region_lit ?_
              refine wpList_run (v := .bool false) (wanted_none rfl) (ix_eql rfl rfl rfl (by decide)) ?_
              simp only [Act.put, List.setIfInBounds_toArray, List.set_cons_zero, List.set_cons_succ]
              refine wpList_run (v := .bool false) (wanted_none rfl) (gx_assign rfl rfl) ?_
              simp only [Act.put, List.setIfInBounds_toArray, List.set_cons_zero, List.set_cons_succ]
              go_upto_region 29 with fail
              refine wp_region_lit ?_
              refine wpList_run (v := .bool false) (wanted_none rfl) (ix_eql rfl rfl rfl (by decide)) ?_
              simp only [Act.put, List.setIfInBounds_toArray, List.set_cons_zero, List.set_cons_succ]
              refine wpList_run (v := .bool false) (wanted_none rfl) (gx_assign rfl rfl) ?_
              simp only [Act.put, List.setIfInBounds_toArray, List.set_cons_zero, List.set_cons_succ]
              go_upto_region 31 with fail
              refine wp_region_lit ?_
              refine wpList_run (v := .int .i64 0) (wanted_none rfl) (gx_assign rfl rfl) ?_
              simp only [Act.put, List.setIfInBounds_toArray, List.set_cons_zero, List.set_cons_succ]
              refine wpList_run (v := .int .i64 0) (wanted_none rfl) (gx_assign rfl rfl) ?_
              simp only [Act.put, List.setIfInBounds_toArray, List.set_cons_zero, List.set_cons_succ]
              refine wpList_run (v := .bool false) (wanted_none rfl) (gx_assign rfl rfl) ?_
              simp only [Act.put, List.setIfInBounds_toArray, List.set_cons_zero, List.set_cons_succ]
              go_wp2_with fail
              go_ret3
              rw [show lcell 1 7 = (0, 0, false) from by simp [lcell, Hh2.out, Hh6.out, Hh1.out, Hs0.out]]
              exact ⟨rfl, rfl⟩
            · have Hs1 := Lib.hid hs1
              clear hs1
              go_upto_region 13 with fail
              refine wp_region_lit ?_
              refine wpList_run (v := .int .i64 s) (wanted_none rfl) (exec_move rfl rfl) ?_
              simp only [Act.put, List.setIfInBounds_toArray, List.set_cons_zero, List.set_cons_succ]
              go_upto_region 14 with fail
              refine wp_region_lit ?_
              refine wpList_run (v := .bool false) (wanted_none rfl) (ix_eql rfl rfl rfl (decide_eq_false Hs0.out)) ?_
              simp only [Act.put, List.setIfInBounds_toArray, List.set_cons_zero, List.set_cons_succ]
              refine wpList_run (v := .bool false) (wanted_none rfl) (gx_assign rfl rfl) ?_
              simp only [Act.put, List.setIfInBounds_toArray, List.set_cons_zero, List.set_cons_succ]
              go_upto_region 23 with fail
              refine wp_region_lit ?_
              refine wpList_run (v := .bool false) (wanted_none rfl) (ix_eql rfl rfl rfl (decide_eq_false Hs1.out)) ?_
              simp only [Act.put, List.setIfInBounds_toArray, List.set_cons_zero, List.set_cons_succ]
              refine wpList_run (v := .bool false) (wanted_none rfl) (gx_assign rfl rfl) ?_
              simp only [Act.put, List.setIfInBounds_toArray, List.set_cons_zero, List.set_cons_succ]
              go_upto_region 31 with fail
              refine wp_region_lit ?_
              refine wpList_run (v := .int .i64 0) (wanted_none rfl) (gx_assign rfl rfl) ?_
              simp only [Act.put, List.setIfInBounds_toArray, List.set_cons_zero, List.set_cons_succ]
              refine wpList_run (v := .int .i64 0) (wanted_none rfl) (gx_assign rfl rfl) ?_
              simp only [Act.put, List.setIfInBounds_toArray, List.set_cons_zero, List.set_cons_succ]
              refine wpList_run (v := .bool false) (wanted_none rfl) (gx_assign rfl rfl) ?_
              simp only [Act.put, List.setIfInBounds_toArray, List.set_cons_zero, List.set_cons_succ]
              go_wp2_with fail
              go_ret3
              rw [show lcell s 7 = (0, 0, false) from by simp [lcell, Hh2.out, Hh6.out, Hh1.out, Hs0.out, Hs1.out]]
              exact ⟨rfl, rfl⟩
        · have Hh7 := Lib.hid hh7
          clear hh7
          by_cases hh8 : h = 8
          · subst hh8
            go_upto_region 0 with fail
            refine wp_region_lit ?_
            refine wpList_run (v := .int .i64 0) (wanted_none rfl) (gx_assign rfl rfl) ?_
            simp only [Act.put, List.setIfInBounds_toArray, List.set_cons_zero, List.set_cons_succ]
            refine wpList_run (v := .int .i64 0) (wanted_none rfl) (gx_assign rfl rfl) ?_
            simp only [Act.put, List.setIfInBounds_toArray, List.set_cons_zero, List.set_cons_succ]
            refine wpList_run (v := .bool false) (wanted_none rfl) (gx_assign rfl rfl) ?_
            simp only [Act.put, List.setIfInBounds_toArray, List.set_cons_zero, List.set_cons_succ]
            go_upto_region 1 with fail
            refine wp_region_lit ?_
            refine wpList_run (v := .int .i64 8) (wanted_none rfl) (exec_move rfl rfl) ?_
            simp only [Act.put, List.setIfInBounds_toArray, List.set_cons_zero, List.set_cons_succ]
            go_upto_region 2 with fail
            refine wp_region_lit ?_
            refine wpList_run (v := .bool false) (wanted_none rfl) (ix_eql rfl rfl rfl (by decide)) ?_
            simp only [Act.put, List.setIfInBounds_toArray, List.set_cons_zero, List.set_cons_succ]
            refine wpList_run (v := .bool false) (wanted_none rfl) (gx_assign rfl rfl) ?_
            simp only [Act.put, List.setIfInBounds_toArray, List.set_cons_zero, List.set_cons_succ]
            go_upto_region 4 with fail
            refine wp_region_lit ?_
            refine wpList_run (v := .bool false) (wanted_none rfl) (ix_eql rfl rfl rfl (by decide)) ?_
            simp only [Act.put, List.setIfInBounds_toArray, List.set_cons_zero, List.set_cons_succ]
            refine wpList_run (v := .bool false) (wanted_none rfl) (gx_assign rfl rfl) ?_
            simp only [Act.put, List.setIfInBounds_toArray, List.set_cons_zero, List.set_cons_succ]
            by_cases hs0 : s = 0
            · subst hs0
              go_upto_region 13 with fail
              refine wp_region_lit ?_
              refine wpList_run (v := .int .i64 0) (wanted_none rfl) (exec_move rfl rfl) ?_
              simp only [Act.put, List.setIfInBounds_toArray, List.set_cons_zero, List.set_cons_succ]
              go_upto_region 14 with fail
              refine wp_region_lit ?_
              refine wpList_run (v := .bool true) (wanted_none rfl) (ix_eql rfl rfl rfl (by decide)) ?_
              simp only [Act.put, List.setIfInBounds_toArray, List.set_cons_zero, List.set_cons_succ]
              refine wpList_run (v := .bool true) (wanted_none rfl) (gx_assign rfl rfl) ?_
              simp only [Act.put, List.setIfInBounds_toArray, List.set_cons_zero, List.set_cons_succ]
              go_upto_region 15 with fail
              refine wp_region_lit ?_
              refine wpList_run (v := .int .i64 8) (wanted_none rfl) (exec_move rfl rfl) ?_
              simp only [Act.put, List.setIfInBounds_toArray, List.set_cons_zero, List.set_cons_succ]
              go_upto_region 16 with fail
              refine wp_region_lit ?_
              refine wpList_run (v := .bool false) (wanted_none rfl) (ix_eql rfl rfl rfl (by decide)) ?_
              simp only [Act.put, List.setIfInBounds_toArray, List.set_cons_zero, List.set_cons_succ]
              refine wpList_run (v := .bool false) (wanted_none rfl) (gx_assign rfl rfl) ?_
              simp only [Act.put, List.setIfInBounds_toArray, List.set_cons_zero, List.set_cons_succ]
              go_upto_region 18 with fail
              refine wp_region_lit ?_
              refine wpList_run (v := .bool false) (wanted_none rfl) (ix_eql rfl rfl rfl (by decide)) ?_
              simp only [Act.put, List.setIfInBounds_toArray, List.set_cons_zero, List.set_cons_succ]
              refine wpList_run (v := .bool false) (wanted_none rfl) (gx_assign rfl rfl) ?_
              simp only [Act.put, List.setIfInBounds_toArray, List.set_cons_zero, List.set_cons_succ]
              go_upto_region 19 with fail
              refine wp_region_lit ?_
              refine wpList_run (v := .bool true) (wanted_none rfl) (ix_eql rfl rfl rfl (by decide)) ?_
              simp only [Act.put, List.setIfInBounds_toArray, List.set_cons_zero, List.set_cons_succ]
              refine wpList_run (v := .bool true) (wanted_none rfl) (gx_assign rfl rfl) ?_
              simp only [Act.put, List.setIfInBounds_toArray, List.set_cons_zero, List.set_cons_succ]
              go_upto_region 20 with fail
              refine wp_region_lit ?_
              refine wpList_run (v := .int .i64 2) (wanted_none rfl) (gx_assign rfl rfl) ?_
              simp only [Act.put, List.setIfInBounds_toArray, List.set_cons_zero, List.set_cons_succ]
              refine wpList_run (v := .int .i64 1) (wanted_none rfl) (gx_assign rfl rfl) ?_
              simp only [Act.put, List.setIfInBounds_toArray, List.set_cons_zero, List.set_cons_succ]
              refine wpList_run (v := .bool true) (wanted_none rfl) (gx_assign rfl rfl) ?_
              simp only [Act.put, List.setIfInBounds_toArray, List.set_cons_zero, List.set_cons_succ]
              go_wp2_with fail
              go_ret3
              rw [show lcell 0 8 = (2, 1, true) from by simp [lcell, Hh2.out, Hh6.out, Hh1.out, Hh7.out]]
              exact ⟨rfl, rfl⟩
            · have Hs0 := Lib.hid hs0
              clear hs0
              by_cases hs1 : s = 1
              · subst hs1
                go_upto_region 13 with fail
                refine wp_region_lit ?_
                refine wpList_run (v := .int .i64 1) (wanted_none rfl) (exec_move rfl rfl) ?_
                simp only [Act.put, List.setIfInBounds_toArray, List.set_cons_zero, List.set_cons_succ]
                go_upto_region 14 with fail
                refine wp_region_lit ?_
                refine wpList_run (v := .bool false) (wanted_none rfl) (ix_eql rfl rfl rfl (by decide)) ?_
                simp only [Act.put, List.setIfInBounds_toArray, List.set_cons_zero, List.set_cons_succ]
                refine wpList_run (v := .bool false) (wanted_none rfl) (gx_assign rfl rfl) ?_
                simp only [Act.put, List.setIfInBounds_toArray, List.set_cons_zero, List.set_cons_succ]
                go_upto_region 23 with fail
                refine wp_region_lit ?_
                refine wpList_run (v := .bool true) (wanted_none rfl) (ix_eql rfl rfl rfl (by decide)) ?_
                simp only [Act.put, List.setIfInBounds_toArray, List.set_cons_zero, List.set_cons_succ]
                refine wpList_run (v := .bool true) (wanted_none rfl) (gx_assign rfl rfl) ?_
                simp only [Act.put, List.setIfInBounds_toArray, List.set_cons_zero, List.set_cons_succ]
                go_upto_region 24 with fail
                refine wp_region_lit ?_
                refine wpList_run (v := .int .i64 8) (wanted_none rfl) (exec_move rfl rfl) ?_
                simp only [Act.put, List.setIfInBounds_toArray, List.set_cons_zero, List.set_cons_succ]
                go_upto_region 25 with fail
                refine wp_region_lit ?_
                refine wpList_run (v := .bool false) (wanted_none rfl) (ix_eql rfl rfl rfl (by decide)) ?_
                simp only [Act.put, List.setIfInBounds_toArray, List.set_cons_zero, List.set_cons_succ]
                refine wpList_run (v := .bool false) (wanted_none rfl) (gx_assign rfl rfl) ?_
                simp only [Act.put, List.setIfInBounds_toArray, List.set_cons_zero, List.set_cons_succ]
                go_upto_region 27 with fail
                refine wp_region_lit ?_
                refine wpList_run (v := .bool false) (wanted_none rfl) (ix_eql rfl rfl rfl (by decide)) ?_
                simp only [Act.put, List.setIfInBounds_toArray, List.set_cons_zero, List.set_cons_succ]
                refine wpList_run (v := .bool false) (wanted_none rfl) (gx_assign rfl rfl) ?_
                simp only [Act.put, List.setIfInBounds_toArray, List.set_cons_zero, List.set_cons_succ]
                go_upto_region 29 with fail
                refine wp_region_lit ?_
                refine wpList_run (v := .bool false) (wanted_none rfl) (ix_eql rfl rfl rfl (by decide)) ?_
                simp only [Act.put, List.setIfInBounds_toArray, List.set_cons_zero, List.set_cons_succ]
                refine wpList_run (v := .bool false) (wanted_none rfl) (gx_assign rfl rfl) ?_
                simp only [Act.put, List.setIfInBounds_toArray, List.set_cons_zero, List.set_cons_succ]
                go_upto_region 31 with fail
                refine wp_region_lit ?_
                refine wpList_run (v := .int .i64 0) (wanted_none rfl) (gx_assign rfl rfl) ?_
                simp only [Act.put, List.setIfInBounds_toArray, List.set_cons_zero, List.set_cons_succ]
                refine wpList_run (v := .int .i64 0) (wanted_none rfl) (gx_assign rfl rfl) ?_
                simp only [Act.put, List.setIfInBounds_toArray, List.set_cons_zero, List.set_cons_succ]
                refine wpList_run (v := .bool false) (wanted_none rfl) (gx_assign rfl rfl) ?_
                simp only [Act.put, List.setIfInBounds_toArray, List.set_cons_zero, List.set_cons_succ]
                go_wp2_with fail
                go_ret3
                rw [show lcell 1 8 = (0, 0, false) from by simp [lcell, Hh2.out, Hh6.out, Hh1.out, Hh7.out, Hs0.out]]
                exact ⟨rfl, rfl⟩
              · have Hs1 := Lib.hid hs1
                clear hs1
                go_upto_region 13 with fail
                refine wp_region_lit ?_
                refine wpList_run (v := .int .i64 s) (wanted_none rfl) (exec_move rfl rfl) ?_
                simp only [Act.put, List.setIfInBounds_toArray, List.set_cons_zero, List.set_cons_succ]
                go_upto_region 14 with fail
                refine wp_region_lit ?_
                refine wpList_run (v := .bool false) (wanted_none rfl) (ix_eql rfl rfl rfl (decide_eq_false Hs0.out)) ?_
                simp only [Act.put, List.setIfInBounds_toArray, List.set_cons_zero, List.set_cons_succ]
                refine wpList_run (v := .bool false) (wanted_none rfl) (gx_assign rfl rfl) ?_
                simp only [Act.put, List.setIfInBounds_toArray, List.set_cons_zero, List.set_cons_succ]
                go_upto_region 23 with fail
                refine wp_region_lit ?_
                refine wpList_run (v := .bool false) (wanted_none rfl) (ix_eql rfl rfl rfl (decide_eq_false Hs1.out)) ?_
                simp only [Act.put, List.setIfInBounds_toArray, List.set_cons_zero, List.set_cons_succ]
                refine wpList_run (v := .bool false) (wanted_none rfl) (gx_assign rfl rfl) ?_
                simp only [Act.put, List.setIfInBounds_toArray, List.set_cons_zero, List.set_cons_succ]
                go_upto_region 31 with fail
                refine wp_region_lit ?_
                refine wpList_run (v := .int .i64 0) (wanted_none rfl) (gx_assign rfl rfl) ?_
                simp only [Act.put, List.setIfInBounds_toArray, List.set_cons_zero, List.set_cons_succ]
                refine wpList_run (v := .int .i64 0) (wanted_none rfl) (gx_assign rfl rfl) ?_
                simp only [Act.put, List.setIfInBounds_toArray, List.set_cons_zero, List.set_cons_succ]
                refine wpList_run (v := .bool false) (wanted_none rfl) (gx_assign rfl rfl) ?_
                simp only [Act.put, List.setIfInBounds_toArray, List.set_cons_zero, List.set_cons_succ]
                go_wp2_with fail
                go_ret3
                rw [show lcell s 8 = (0, 0, false) from by simp [lcell, Hh2.out, Hh6.out, Hh1.out, Hh7.out, Hs0.out, Hs1.out]]
                exact ⟨rfl, rfl⟩
          · have Hh8 := Lib.hid hh8
            clear hh8
            by_cases hh9 : h = 9
            · subst hh9
              go_upto_region 0 with fail
              refine wp_region_lit ?_
              refine wpList_run (v := .int .i64 0) (wanted_none rfl) (gx_assign rfl rfl) ?_
              simp only [Act.put, List.setIfInBounds_toArray, List.set_cons_zero, List.set_cons_succ]
              refine wpList_run (v := .int .i64 0) (wanted_none rfl) (gx_assign rfl rfl) ?_
              simp only [Act.put, List.setIfInBounds_toArray, List.set_cons_zero, List.set_cons_succ]
              refine wpList_run (v := .bool false) (wanted_none rfl) (gx_assign rfl rfl) ?_
              simp only [Act.put, List.setIfInBounds_toArray, List.set_cons_zero, List.set_cons_succ]
              go_upto_region 1 with fail
              refine wp_region_lit ?_
              refine wpList_run (v := .int .i64 9) (wanted_none rfl) (exec_move rfl rfl) ?_
              simp only [Act.put, List.setIfInBounds_toArray, List.set_cons_zero, List.set_cons_succ]
              go_upto_region 2 with fail
              refine wp_region_lit ?_
              refine wpList_run (v := .bool false) (wanted_none rfl) (ix_eql rfl rfl rfl (by decide)) ?_
              simp only [Act.put, List.setIfInBounds_toArray, List.set_cons_zero, List.set_cons_succ]
              refine wpList_run (v := .bool false) (wanted_none rfl) (gx_assign rfl rfl) ?_
              simp only [Act.put, List.setIfInBounds_toArray, List.set_cons_zero, List.set_cons_succ]
              go_upto_region 4 with fail
              refine wp_region_lit ?_
              refine wpList_run (v := .bool false) (wanted_none rfl) (ix_eql rfl rfl rfl (by decide)) ?_
              simp only [Act.put, List.setIfInBounds_toArray, List.set_cons_zero, List.set_cons_succ]
              refine wpList_run (v := .bool false) (wanted_none rfl) (gx_assign rfl rfl) ?_
              simp only [Act.put, List.setIfInBounds_toArray, List.set_cons_zero, List.set_cons_succ]
              by_cases hs0 : s = 0
              · subst hs0
                go_upto_region 13 with fail
                refine wp_region_lit ?_
                refine wpList_run (v := .int .i64 0) (wanted_none rfl) (exec_move rfl rfl) ?_
                simp only [Act.put, List.setIfInBounds_toArray, List.set_cons_zero, List.set_cons_succ]
                go_upto_region 14 with fail
                refine wp_region_lit ?_
                refine wpList_run (v := .bool true) (wanted_none rfl) (ix_eql rfl rfl rfl (by decide)) ?_
                simp only [Act.put, List.setIfInBounds_toArray, List.set_cons_zero, List.set_cons_succ]
                refine wpList_run (v := .bool true) (wanted_none rfl) (gx_assign rfl rfl) ?_
                simp only [Act.put, List.setIfInBounds_toArray, List.set_cons_zero, List.set_cons_succ]
                go_upto_region 15 with fail
                refine wp_region_lit ?_
                refine wpList_run (v := .int .i64 9) (wanted_none rfl) (exec_move rfl rfl) ?_
                simp only [Act.put, List.setIfInBounds_toArray, List.set_cons_zero, List.set_cons_succ]
                go_upto_region 16 with fail
                refine wp_region_lit ?_
                refine wpList_run (v := .bool false) (wanted_none rfl) (ix_eql rfl rfl rfl (by decide)) ?_
                simp only [Act.put, List.setIfInBounds_toArray, List.set_cons_zero, List.set_cons_succ]
                refine wpList_run (v := .bool false) (wanted_none rfl) (gx_assign rfl rfl) ?_
                simp only [Act.put, List.setIfInBounds_toArray, List.set_cons_zero, List.set_cons_succ]
                go_upto_region 18 with fail
                refine wp_region_lit ?_
                refine wpList_run (v := .bool false) (wanted_none rfl) (ix_eql rfl rfl rfl (by decide)) ?_
                simp only [Act.put, List.setIfInBounds_toArray, List.set_cons_zero, List.set_cons_succ]
                refine wpList_run (v := .bool false) (wanted_none rfl) (gx_assign rfl rfl) ?_
                simp only [Act.put, List.setIfInBounds_toArray, List.set_cons_zero, List.set_cons_succ]
                go_upto_region 19 with fail
                refine wp_region_lit ?_
                refine wpList_run (v := .bool false) (wanted_none rfl) (ix_eql rfl rfl rfl (by decide)) ?_
                simp only [Act.put, List.setIfInBounds_toArray, List.set_cons_zero, List.set_cons_succ]
                refine wpList_run (v := .bool false) (wanted_none rfl) (gx_assign rfl rfl) ?_
                simp only [Act.put, List.setIfInBounds_toArray, List.set_cons_zero, List.set_cons_succ]
                go_upto_region 21 with fail
                refine wp_region_lit ?_
                refine wpList_run (v := .bool true) (wanted_none rfl) (ix_eql rfl rfl rfl (by decide)) ?_
                simp only [Act.put, List.setIfInBounds_toArray, List.set_cons_zero, List.set_cons_succ]
                refine wpList_run (v := .bool true) (wanted_none rfl) (gx_assign rfl rfl) ?_
                simp only [Act.put, List.setIfInBounds_toArray, List.set_cons_zero, List.set_cons_succ]
                go_upto_region 22 with fail
                refine wp_region_lit ?_
                refine wpList_run (v := .int .i64 0) (wanted_none rfl) (gx_assign rfl rfl) ?_
                simp only [Act.put, List.setIfInBounds_toArray, List.set_cons_zero, List.set_cons_succ]
                refine wpList_run (v := .int .i64 0) (wanted_none rfl) (gx_assign rfl rfl) ?_
                simp only [Act.put, List.setIfInBounds_toArray, List.set_cons_zero, List.set_cons_succ]
                refine wpList_run (v := .bool true) (wanted_none rfl) (gx_assign rfl rfl) ?_
                simp only [Act.put, List.setIfInBounds_toArray, List.set_cons_zero, List.set_cons_succ]
                go_wp2_with fail
                go_ret3
                rw [show lcell 0 9 = (0, 0, true) from by simp [lcell, Hh2.out, Hh6.out, Hh1.out, Hh7.out, Hh8.out]]
                exact ⟨rfl, rfl⟩
              · have Hs0 := Lib.hid hs0
                clear hs0
                by_cases hs1 : s = 1
                · subst hs1
                  go_upto_region 13 with fail
                  refine wp_region_lit ?_
                  refine wpList_run (v := .int .i64 1) (wanted_none rfl) (exec_move rfl rfl) ?_
                  simp only [Act.put, List.setIfInBounds_toArray, List.set_cons_zero, List.set_cons_succ]
                  go_upto_region 14 with fail
                  refine wp_region_lit ?_
                  refine wpList_run (v := .bool false) (wanted_none rfl) (ix_eql rfl rfl rfl (by decide)) ?_
                  simp only [Act.put, List.setIfInBounds_toArray, List.set_cons_zero, List.set_cons_succ]
                  refine wpList_run (v := .bool false) (wanted_none rfl) (gx_assign rfl rfl) ?_
                  simp only [Act.put, List.setIfInBounds_toArray, List.set_cons_zero, List.set_cons_succ]
                  go_upto_region 23 with fail
                  refine wp_region_lit ?_
                  refine wpList_run (v := .bool true) (wanted_none rfl) (ix_eql rfl rfl rfl (by decide)) ?_
                  simp only [Act.put, List.setIfInBounds_toArray, List.set_cons_zero, List.set_cons_succ]
                  refine wpList_run (v := .bool true) (wanted_none rfl) (gx_assign rfl rfl) ?_
                  simp only [Act.put, List.setIfInBounds_toArray, List.set_cons_zero, List.set_cons_succ]
                  go_upto_region 24 with fail
                  refine wp_region_lit ?_
                  refine wpList_run (v := .int .i64 9) (wanted_none rfl) (exec_move rfl rfl) ?_
                  simp only [Act.put, List.setIfInBounds_toArray, List.set_cons_zero, List.set_cons_succ]
                  go_upto_region 25 with fail
                  refine wp_region_lit ?_
                  refine wpList_run (v := .bool false) (wanted_none rfl) (ix_eql rfl rfl rfl (by decide)) ?_
                  simp only [Act.put, List.setIfInBounds_toArray, List.set_cons_zero, List.set_cons_succ]
                  refine wpList_run (v := .bool false) (wanted_none rfl) (gx_assign rfl rfl) ?_
                  simp only [Act.put, List.setIfInBounds_toArray, List.set_cons_zero, List.set_cons_succ]
                  go_upto_region 27 with fail
                  refine wp_region_lit ?_
                  refine wpList_run (v := .bool false) (wanted_none rfl) (ix_eql rfl rfl rfl (by decide)) ?_
                  simp only [Act.put, List.setIfInBounds_toArray, List.set_cons_zero, List.set_cons_succ]
                  refine wpList_run (v := .bool false) (wanted_none rfl) (gx_assign rfl rfl) ?_
                  simp only [Act.put, List.setIfInBounds_toArray, List.set_cons_zero, List.set_cons_succ]
                  go_upto_region 29 with fail
                  refine wp_region_lit ?_
                  refine wpList_run (v := .bool false) (wanted_none rfl) (ix_eql rfl rfl rfl (by decide)) ?_
                  simp only [Act.put, List.setIfInBounds_toArray, List.set_cons_zero, List.set_cons_succ]
                  refine wpList_run (v := .bool false) (wanted_none rfl) (gx_assign rfl rfl) ?_
                  simp only [Act.put, List.setIfInBounds_toArray, List.set_cons_zero, List.set_cons_succ]
                  go_upto_region 31 with fail
                  refine wp_region_lit ?_
                  refine wpList_run (v := .int .i64 0) (wanted_none rfl) (gx_assign rfl rfl) ?_
                  simp only [Act.put, List.setIfInBounds_toArray, List.set_cons_zero, List.set_cons_succ]
                  refine wpList_run (v := .int .i64 0) (wanted_none rfl) (gx_assign rfl rfl) ?_
                  simp only [Act.put, List.setIfInBounds_toArray, List.set_cons_zero, List.set_cons_succ]
                  refine wpList_run (v := .bool false) (wanted_none rfl) (gx_assign rfl rfl) ?_
                  simp only [Act.put, List.setIfInBounds_toArray, List.set_cons_zero, List.set_cons_succ]
                  go_wp2_with fail
                  go_ret3
                  rw [show lcell 1 9 = (0, 0, false) from by simp [lcell, Hh2.out, Hh6.out, Hh1.out, Hh7.out, Hh8.out, Hs0.out]]
                  exact ⟨rfl, rfl⟩
                · have Hs1 := Lib.hid hs1
                  clear hs1
                  go_upto_region 13 with fail
                  refine wp_region_lit ?_
                  refine wpList_run (v := .int .i64 s) (wanted_none rfl) (exec_move rfl rfl) ?_
                  simp only [Act.put, List.setIfInBounds_toArray, List.set_cons_zero, List.set_cons_succ]
                  go_upto_region 14 with fail
                  refine wp_region_lit ?_
                  refine wpList_run (v := .bool false) (wanted_none rfl) (ix_eql rfl rfl rfl (decide_eq_false Hs0.out)) ?_
                  simp only [Act.put, List.setIfInBounds_toArray, List.set_cons_zero, List.set_cons_succ]
                  refine wpList_run (v := .bool false) (wanted_none rfl) (gx_assign rfl rfl) ?_
                  simp only [Act.put, List.setIfInBounds_toArray, List.set_cons_zero, List.set_cons_succ]
                  go_upto_region 23 with fail
                  refine wp_region_lit ?_
                  refine wpList_run (v := .bool false) (wanted_none rfl) (ix_eql rfl rfl rfl (decide_eq_false Hs1.out)) ?_
                  simp only [Act.put, List.setIfInBounds_toArray, List.set_cons_zero, List.set_cons_succ]
                  refine wpList_run (v := .bool false) (wanted_none rfl) (gx_assign rfl rfl) ?_
                  simp only [Act.put, List.setIfInBounds_toArray, List.set_cons_zero, List.set_cons_succ]
                  go_upto_region 31 with fail
                  refine wp_region_lit ?_
                  refine wpList_run (v := .int .i64 0) (wanted_none rfl) (gx_assign rfl rfl) ?_
                  simp only [Act.put, List.setIfInBounds_toArray, List.set_cons_zero, List.set_cons_succ]
                  refine wpList_run (v := .int .i64 0) (wanted_none rfl) (gx_assign rfl rfl) ?_
                  simp only [Act.put, List.setIfInBounds_toArray, List.set_cons_zero, List.set_cons_succ]
                  refine wpList_run (v := .bool false) (wanted_none rfl) (gx_assign rfl rfl) ?_
                  simp only [Act.put, List.setIfInBounds_toArray, List.set_cons_zero, List.set_cons_succ]
                  go_wp2_with fail
                  go_ret3
                  rw [show lcell s 9 = (0, 0, false) from by simp [lcell, Hh2.out, Hh6.out, Hh1.out, Hh7.out, Hh8.out, Hs0.out, Hs1.out]]
                  exact ⟨rfl, rfl⟩
            · have Hh9 := Lib.hid hh9
              clear hh9
              by_cases hh3 : h = 3
              · subst hh3
                go_upto_region 0 with fail
                refine wp_region_lit ?_
                refine wpList_run (v := .int .i64 0) (wanted_none rfl) (gx_assign rfl rfl) ?_
                simp only [Act.put, List.setIfInBounds_toArray, List.set_cons_zero, List.set_cons_succ]
                refine wpList_run (v := .int .i64 0) (wanted_none rfl) (gx_assign rfl rfl) ?_
                simp only [Act.put, List.setIfInBounds_toArray, List.set_cons_zero, List.set_cons_succ]
                refine wpList_run (v := .bool false) (wanted_none rfl) (gx_assign rfl rfl) ?_
                simp only [Act.put, List.setIfInBounds_toArray, List.set_cons_zero, List.set_cons_succ]
                go_upto_region 1 with fail
                refine wp_region_lit ?_
                refine wpList_run (v := .int .i64 3) (wanted_none rfl) (exec_move rfl rfl) ?_
                simp only [Act.put, List.setIfInBounds_toArray, List.set_cons_zero, List.set_cons_succ]
                go_upto_region 2 with fail
                refine wp_region_lit ?_
                refine wpList_run (v := .bool false) (wanted_none rfl) (ix_eql rfl rfl rfl (by decide)) ?_
                simp only [Act.put, List.setIfInBounds_toArray, List.set_cons_zero, List.set_cons_succ]
                refine wpList_run (v := .bool false) (wanted_none rfl) (gx_assign rfl rfl) ?_
                simp only [Act.put, List.setIfInBounds_toArray, List.set_cons_zero, List.set_cons_succ]
                go_upto_region 4 with fail
                refine wp_region_lit ?_
                refine wpList_run (v := .bool false) (wanted_none rfl) (ix_eql rfl rfl rfl (by decide)) ?_
                simp only [Act.put, List.setIfInBounds_toArray, List.set_cons_zero, List.set_cons_succ]
                refine wpList_run (v := .bool false) (wanted_none rfl) (gx_assign rfl rfl) ?_
                simp only [Act.put, List.setIfInBounds_toArray, List.set_cons_zero, List.set_cons_succ]
                by_cases hs0 : s = 0
                · subst hs0
                  go_upto_region 13 with fail
                  refine wp_region_lit ?_
                  refine wpList_run (v := .int .i64 0) (wanted_none rfl) (exec_move rfl rfl) ?_
                  simp only [Act.put, List.setIfInBounds_toArray, List.set_cons_zero, List.set_cons_succ]
                  go_upto_region 14 with fail
                  refine wp_region_lit ?_
                  refine wpList_run (v := .bool true) (wanted_none rfl) (ix_eql rfl rfl rfl (by decide)) ?_
                  simp only [Act.put, List.setIfInBounds_toArray, List.set_cons_zero, List.set_cons_succ]
                  refine wpList_run (v := .bool true) (wanted_none rfl) (gx_assign rfl rfl) ?_
                  simp only [Act.put, List.setIfInBounds_toArray, List.set_cons_zero, List.set_cons_succ]
                  go_upto_region 15 with fail
                  refine wp_region_lit ?_
                  refine wpList_run (v := .int .i64 3) (wanted_none rfl) (exec_move rfl rfl) ?_
                  simp only [Act.put, List.setIfInBounds_toArray, List.set_cons_zero, List.set_cons_succ]
                  go_upto_region 16 with fail
                  refine wp_region_lit ?_
                  refine wpList_run (v := .bool false) (wanted_none rfl) (ix_eql rfl rfl rfl (by decide)) ?_
                  simp only [Act.put, List.setIfInBounds_toArray, List.set_cons_zero, List.set_cons_succ]
                  refine wpList_run (v := .bool false) (wanted_none rfl) (gx_assign rfl rfl) ?_
                  simp only [Act.put, List.setIfInBounds_toArray, List.set_cons_zero, List.set_cons_succ]
                  go_upto_region 18 with fail
                  refine wp_region_lit ?_
                  refine wpList_run (v := .bool false) (wanted_none rfl) (ix_eql rfl rfl rfl (by decide)) ?_
                  simp only [Act.put, List.setIfInBounds_toArray, List.set_cons_zero, List.set_cons_succ]
                  refine wpList_run (v := .bool false) (wanted_none rfl) (gx_assign rfl rfl) ?_
                  simp only [Act.put, List.setIfInBounds_toArray, List.set_cons_zero, List.set_cons_succ]
                  go_upto_region 19 with fail
                  refine wp_region_lit ?_
                  refine wpList_run (v := .bool false) (wanted_none rfl) (ix_eql rfl rfl rfl (by decide)) ?_
                  simp only [Act.put, List.setIfInBounds_toArray, List.set_cons_zero, List.set_cons_succ]
                  refine wpList_run (v := .bool false) (wanted_none rfl) (gx_assign rfl rfl) ?_
                  simp only [Act.put, List.setIfInBounds_toArray, List.set_cons_zero, List.set_cons_succ]
                  go_upto_region 21 with fail
                  refine wp_region_lit ?_
                  refine wpList_run (v := .bool false) (wanted_none rfl) (ix_eql rfl rfl rfl (by decide)) ?_
                  simp only [Act.put, List.setIfInBounds_toArray, List.set_cons_zero, List.set_cons_succ]
                  refine wpList_run (v := .bool false) (wanted_none rfl) (gx_assign rfl rfl) ?_
                  simp only [Act.put, List.setIfInBounds_toArray, List.set_cons_zero, List.set_cons_succ]
                  go_upto_region 31 with fail
                  refine wp_region_lit ?_
                  refine wpList_run (v := .int .i64 0) (wanted_none rfl) (gx_assign rfl rfl) ?_
                  simp only [Act.put, List.setIfInBounds_toArray, List.set_cons_zero, List.set_cons_succ]
                  refine wpList_run (v := .int .i64 0) (wanted_none rfl) (gx_assign rfl rfl) ?_
                  simp only [Act.put, List.setIfInBounds_toArray, List.set_cons_zero, List.set_cons_succ]
                  refine wpList_run (v := .bool false) (wanted_none rfl) (gx_assign rfl rfl) ?_
                  simp only [Act.put, List.setIfInBounds_toArray, List.set_cons_zero, List.set_cons_succ]
                  go_wp2_with fail
                  go_ret3
                  rw [show lcell 0 3 = (0, 0, false) from by simp [lcell, Hh2.out, Hh6.out, Hh1.out, Hh7.out, Hh8.out, Hh9.out]]
                  exact ⟨rfl, rfl⟩
                · have Hs0 := Lib.hid hs0
                  clear hs0
                  by_cases hs1 : s = 1
                  · subst hs1
                    go_upto_region 13 with fail
                    refine wp_region_lit ?_
                    refine wpList_run (v := .int .i64 1) (wanted_none rfl) (exec_move rfl rfl) ?_
                    simp only [Act.put, List.setIfInBounds_toArray, List.set_cons_zero, List.set_cons_succ]
                    go_upto_region 14 with fail
                    refine wp_region_lit ?_
                    refine wpList_run (v := .bool false) (wanted_none rfl) (ix_eql rfl rfl rfl (by decide)) ?_
                    simp only [Act.put, List.setIfInBounds_toArray, List.set_cons_zero, List.set_cons_succ]
                    refine wpList_run (v := .bool false) (wanted_none rfl) (gx_assign rfl rfl) ?_
                    simp only [Act.put, List.setIfInBounds_toArray, List.set_cons_zero, List.set_cons_succ]
                    go_upto_region 23 with fail
                    refine wp_region_lit ?_
                    refine wpList_run (v := .bool true) (wanted_none rfl) (ix_eql rfl rfl rfl (by decide)) ?_
                    simp only [Act.put, List.setIfInBounds_toArray, List.set_cons_zero, List.set_cons_succ]
                    refine wpList_run (v := .bool true) (wanted_none rfl) (gx_assign rfl rfl) ?_
                    simp only [Act.put, List.setIfInBounds_toArray, List.set_cons_zero, List.set_cons_succ]
                    go_upto_region 24 with fail
                    refine wp_region_lit ?_
                    refine wpList_run (v := .int .i64 3) (wanted_none rfl) (exec_move rfl rfl) ?_
                    simp only [Act.put, List.setIfInBounds_toArray, List.set_cons_zero, List.set_cons_succ]
                    go_upto_region 25 with fail
                    refine wp_region_lit ?_
                    refine wpList_run (v := .bool true) (wanted_none rfl) (ix_eql rfl rfl rfl (by decide)) ?_
                    simp only [Act.put, List.setIfInBounds_toArray, List.set_cons_zero, List.set_cons_succ]
                    refine wpList_run (v := .bool true) (wanted_none rfl) (gx_assign rfl rfl) ?_
                    simp only [Act.put, List.setIfInBounds_toArray, List.set_cons_zero, List.set_cons_succ]
                    go_upto_region 26 with fail
                    refine wp_region_lit ?_
                    refine wpList_run (v := .int .i64 2) (wanted_none rfl) (gx_assign rfl rfl) ?_
                    simp only [Act.put, List.setIfInBounds_toArray, List.set_cons_zero, List.set_cons_succ]
                    refine wpList_run (v := .int .i64 1) (wanted_none rfl) (gx_assign rfl rfl) ?_
                    simp only [Act.put, List.setIfInBounds_toArray, List.set_cons_zero, List.set_cons_succ]
                    refine wpList_run (v := .bool true) (wanted_none rfl) (gx_assign rfl rfl) ?_
                    simp only [Act.put, List.setIfInBounds_toArray, List.set_cons_zero, List.set_cons_succ]
                    go_wp2_with fail
                    go_ret3
                    rw [show lcell 1 3 = (2, 1, true) from by simp [lcell, Hh2.out, Hh6.out, Hh1.out, Hh7.out, Hh8.out, Hh9.out, Hs0.out]]
                    exact ⟨rfl, rfl⟩
                  · have Hs1 := Lib.hid hs1
                    clear hs1
                    go_upto_region 13 with fail
                    refine wp_region_lit ?_
                    refine wpList_run (v := .int .i64 s) (wanted_none rfl) (exec_move rfl rfl) ?_
                    simp only [Act.put, List.setIfInBounds_toArray, List.set_cons_zero, List.set_cons_succ]
                    go_upto_region 14 with fail
                    refine wp_region_lit ?_
                    refine wpList_run (v := .bool false) (wanted_none rfl) (ix_eql rfl rfl rfl (decide_eq_false Hs0.out)) ?_
                    simp only [Act.put, List.setIfInBounds_toArray, List.set_cons_zero, List.set_cons_succ]
                    refine wpList_run (v := .bool false) (wanted_none rfl) (gx_assign rfl rfl) ?_
                    simp only [Act.put, List.setIfInBounds_toArray, List.set_cons_zero, List.set_cons_succ]
                    go_upto_region 23 with fail
                    refine wp_region_lit ?_
                    refine wpList_run (v := .bool false) (wanted_none rfl) (ix_eql rfl rfl rfl (decide_eq_false Hs1.out)) ?_
                    simp only [Act.put, List.setIfInBounds_toArray, List.set_cons_zero, List.set_cons_succ]
                    refine wpList_run (v := .bool false) (wanted_none rfl) (gx_assign rfl rfl) ?_
                    simp only [Act.put, List.setIfInBounds_toArray, List.set_cons_zero, List.set_cons_succ]
                    go_upto_region 31 with fail
                    refine wp_region_lit ?_
                    refine wpList_run (v := .int .i64 0) (wanted_none rfl) (gx_assign rfl rfl) ?_
                    simp only [Act.put, List.setIfInBounds_toArray, List.set_cons_zero, List.set_cons_succ]
                    refine wpList_run (v := .int .i64 0) (wanted_none rfl) (gx_assign rfl rfl) ?_
                    simp only [Act.put, List.setIfInBounds_toArray, List.set_cons_zero, List.set_cons_succ]
                    refine wpList_run (v := .bool false) (wanted_none rfl) (gx_assign rfl rfl) ?_
                    simp only [Act.put, List.setIfInBounds_toArray, List.set_cons_zero, List.set_cons_succ]
                    go_wp2_with fail
                    go_ret3
                    rw [show lcell s 3 = (0, 0, false) from by simp [lcell, Hh2.out, Hh6.out, Hh1.out, Hh7.out, Hh8.out, Hh9.out, Hs0.out, Hs1.out]]
                    exact ⟨rfl, rfl⟩
              · have Hh3 := Lib.hid hh3
                clear hh3
                by_cases hh4 : h = 4
                · subst hh4
                  go_upto_region 0 with fail
                  refine wp_region_lit ?_
                  refine wpList_run (v := .int .i64 0) (wanted_none rfl) (gx_assign rfl rfl) ?_
                  simp only [Act.put, List.setIfInBounds_toArray, List.set_cons_zero, List.set_cons_succ]
                  refine wpList_run (v := .int .i64 0) (wanted_none rfl) (gx_assign rfl rfl) ?_
                  simp only [Act.put, List.setIfInBounds_toArray, List.set_cons_zero, List.set_cons_succ]
                  refine wpList_run (v := .bool false) (wanted_none rfl) (gx_assign rfl rfl) ?_
                  simp only [Act.put, List.setIfInBounds_toArray, List.set_cons_zero, List.set_cons_succ]
                  go_upto_region 1 with fail
                  refine wp_region_lit ?_
                  refine wpList_run (v := .int .i64 4) (wanted_none rfl) (exec_move rfl rfl) ?_
                  simp only [Act.put, List.setIfInBounds_toArray, List.set_cons_zero, List.set_cons_succ]
                  go_upto_region 2 with fail
                  refine wp_region_lit ?_
                  refine wpList_run (v := .bool false) (wanted_none rfl) (ix_eql rfl rfl rfl (by decide)) ?_
                  simp only [Act.put, List.setIfInBounds_toArray, List.set_cons_zero, List.set_cons_succ]
                  refine wpList_run (v := .bool false) (wanted_none rfl) (gx_assign rfl rfl) ?_
                  simp only [Act.put, List.setIfInBounds_toArray, List.set_cons_zero, List.set_cons_succ]
                  go_upto_region 4 with fail
                  refine wp_region_lit ?_
                  refine wpList_run (v := .bool false) (wanted_none rfl) (ix_eql rfl rfl rfl (by decide)) ?_
                  simp only [Act.put, List.setIfInBounds_toArray, List.set_cons_zero, List.set_cons_succ]
                  refine wpList_run (v := .bool false) (wanted_none rfl) (gx_assign rfl rfl) ?_
                  simp only [Act.put, List.setIfInBounds_toArray, List.set_cons_zero, List.set_cons_succ]
                  by_cases hs0 : s = 0
                  · subst hs0
                    go_upto_region 13 with fail
                    refine wp_region_lit ?_
                    refine wpList_run (v := .int .i64 0) (wanted_none rfl) (exec_move rfl rfl) ?_
                    simp only [Act.put, List.setIfInBounds_toArray, List.set_cons_zero, List.set_cons_succ]
                    go_upto_region 14 with fail
                    refine wp_region_lit ?_
                    refine wpList_run (v := .bool true) (wanted_none rfl) (ix_eql rfl rfl rfl (by decide)) ?_
                    simp only [Act.put, List.setIfInBounds_toArray, List.set_cons_zero, List.set_cons_succ]
                    refine wpList_run (v := .bool true) (wanted_none rfl) (gx_assign rfl rfl) ?_
                    simp only [Act.put, List.setIfInBounds_toArray, List.set_cons_zero, List.set_cons_succ]
                    go_upto_region 15 with fail
                    refine wp_region_lit ?_
                    refine wpList_run (v := .int .i64 4) (wanted_none rfl) (exec_move rfl rfl) ?_
                    simp only [Act.put, List.setIfInBounds_toArray, List.set_cons_zero, List.set_cons_succ]
                    go_upto_region 16 with fail
                    refine wp_region_lit ?_
                    refine wpList_run (v := .bool false) (wanted_none rfl) (ix_eql rfl rfl rfl (by decide)) ?_
                    simp only [Act.put, List.setIfInBounds_toArray, List.set_cons_zero, List.set_cons_succ]
                    refine wpList_run (v := .bool false) (wanted_none rfl) (gx_assign rfl rfl) ?_
                    simp only [Act.put, List.setIfInBounds_toArray, List.set_cons_zero, List.set_cons_succ]
                    go_upto_region 18 with fail
                    refine wp_region_lit ?_
                    refine wpList_run (v := .bool false) (wanted_none rfl) (ix_eql rfl rfl rfl (by decide)) ?_
                    simp only [Act.put, List.setIfInBounds_toArray, List.set_cons_zero, List.set_cons_succ]
                    refine wpList_run (v := .bool false) (wanted_none rfl) (gx_assign rfl rfl) ?_
                    simp only [Act.put, List.setIfInBounds_toArray, List.set_cons_zero, List.set_cons_succ]
                    go_upto_region 19 with fail
                    refine wp_region_lit ?_
                    refine wpList_run (v := .bool false) (wanted_none rfl) (ix_eql rfl rfl rfl (by decide)) ?_
                    simp only [Act.put, List.setIfInBounds_toArray, List.set_cons_zero, List.set_cons_succ]
                    refine wpList_run (v := .bool false) (wanted_none rfl) (gx_assign rfl rfl) ?_
                    simp only [Act.put, List.setIfInBounds_toArray, List.set_cons_zero, List.set_cons_succ]
                    go_upto_region 21 with fail
                    refine wp_region_lit ?_
                    refine wpList_run (v := .bool false) (wanted_none rfl) (ix_eql rfl rfl rfl (by decide)) ?_
                    simp only [Act.put, List.setIfInBounds_toArray, List.set_cons_zero, List.set_cons_succ]
                    refine wpList_run (v := .bool false) (wanted_none rfl) (gx_assign rfl rfl) ?_
                    simp only [Act.put, List.setIfInBounds_toArray, List.set_cons_zero, List.set_cons_succ]
                    go_upto_region 31 with fail
                    refine wp_region_lit ?_
                    refine wpList_run (v := .int .i64 0) (wanted_none rfl) (gx_assign rfl rfl) ?_
                    simp only [Act.put, List.setIfInBounds_toArray, List.set_cons_zero, List.set_cons_succ]
                    refine wpList_run (v := .int .i64 0) (wanted_none rfl) (gx_assign rfl rfl) ?_
                    simp only [Act.put, List.setIfInBounds_toArray, List.set_cons_zero, List.set_cons_succ]
                    refine wpList_run (v := .bool false) (wanted_none rfl) (gx_assign rfl rfl) ?_
                    simp only [Act.put, List.setIfInBounds_toArray, List.set_cons_zero, List.set_cons_succ]
                    go_wp2_with fail
                    go_ret3
                    rw [show lcell 0 4 = (0, 0, false) from by simp [lcell, Hh2.out, Hh6.out, Hh1.out, Hh7.out, Hh8.out, Hh9.out, Hh3.out]]
                    exact ⟨rfl, rfl⟩
                  · have Hs0 := Lib.hid hs0
                    clear hs0
                    by_cases hs1 : s = 1
                    · subst hs1
                      go_upto_region 13 with fail
                      refine wp_region_lit ?_
                      refine wpList_run (v := .int .i64 1) (wanted_none rfl) (exec_move rfl rfl) ?_
                      simp only [Act.put, List.setIfInBounds_toArray, List.set_cons_zero, List.set_cons_succ]
                      go_upto_region 14 with fail
                      refine wp_region_lit ?_
                      refine wpList_run (v := .bool false) (wanted_none rfl) (ix_eql rfl rfl rfl (by decide)) ?_
                      simp only [Act.put, List.setIfInBounds_toArray, List.set_cons_zero, List.set_cons_succ]
                      refine wpList_run (v := .bool false) (wanted_none rfl) (gx_assign rfl rfl) ?_
                      simp only [Act.put, List.setIfInBounds_toArray, List.set_cons_zero, List.set_cons_succ]
                      go_upto_region 23 with fail
                      refine wp_region_lit ?_
                      refine wpList_run (v := .bool true) (wanted_none rfl) (ix_eql rfl rfl rfl (by decide)) ?_
                      simp only [Act.put, List.setIfInBounds_toArray, List.set_cons_zero, List.set_cons_succ]
                      refine wpList_run (v := .bool true) (wanted_none rfl) (gx_assign rfl rfl) ?_
                      simp only [Act.put, List.setIfInBounds_toArray, List.set_cons_zero, List.set_cons_succ]
                      go_upto_region 24 with fail
                      refine wp_region_lit ?_
                      refine wpList_run (v := .int .i64 4) (wanted_none rfl) (exec_move rfl rfl) ?_
                      simp only [Act.put, List.setIfInBounds_toArray, List.set_cons_zero, List.set_cons_succ]
                      go_upto_region 25 with fail
                      refine wp_region_lit ?_
                      refine wpList_run (v := .bool false) (wanted_none rfl) (ix_eql rfl rfl rfl (by decide)) ?_
                      simp only [Act.put, List.setIfInBounds_toArray, List.set_cons_zero, List.set_cons_succ]
                      refine wpList_run (v := .bool false) (wanted_none rfl) (gx_assign rfl rfl) ?_
                      simp only [Act.put, List.setIfInBounds_toArray, List.set_cons_zero, List.set_cons_succ]
                      go_upto_region 27 with fail
                      refine wp_region_lit ?_
                      refine wpList_run (v := .bool true) (wanted_none rfl) (ix_eql rfl rfl rfl (by decide)) ?_
                      simp only [Act.put, List.setIfInBounds_toArray, List.set_cons_zero, List.set_cons_succ]
                      refine wpList_run (v := .bool true) (wanted_none rfl) (gx_assign rfl rfl) ?_
                      simp only [Act.put, List.setIfInBounds_toArray, List.set_cons_zero, List.set_cons_succ]
                      go_upto_region 28 with fail
                      refine wp_region_lit ?_
                      refine wpList_run (v := .int .i64 3) (wanted_none rfl) (gx_assign rfl rfl) ?_
                      simp only [Act.put, List.setIfInBounds_toArray, List.set_cons_zero, List.set_cons_succ]
                      refine wpList_run (v := .int .i64 0) (wanted_none rfl) (gx_assign rfl rfl) ?_
                      simp only [Act.put, List.setIfInBounds_toArray, List.set_cons_zero, List.set_cons_succ]
                      refine wpList_run (v := .bool true) (wanted_none rfl) (gx_assign rfl rfl) ?_
                      simp only [Act.put, List.setIfInBounds_toArray, List.set_cons_zero, List.set_cons_succ]
                      go_wp2_with fail
                      go_ret3
                      rw [show lcell 1 4 = (3, 0, true) from by simp [lcell, Hh2.out, Hh6.out, Hh1.out, Hh7.out, Hh8.out, Hh9.out, Hh3.out, Hs0.out]]
                      exact ⟨rfl, rfl⟩
                    · have Hs1 := Lib.hid hs1
                      clear hs1
                      go_upto_region 13 with fail
                      refine wp_region_lit ?_
                      refine wpList_run (v := .int .i64 s) (wanted_none rfl) (exec_move rfl rfl) ?_
                      simp only [Act.put, List.setIfInBounds_toArray, List.set_cons_zero, List.set_cons_succ]
                      go_upto_region 14 with fail
                      refine wp_region_lit ?_
                      refine wpList_run (v := .bool false) (wanted_none rfl) (ix_eql rfl rfl rfl (decide_eq_false Hs0.out)) ?_
                      simp only [Act.put, List.setIfInBounds_toArray, List.set_cons_zero, List.set_cons_succ]
                      refine wpList_run (v := .bool false) (wanted_none rfl) (gx_assign rfl rfl) ?_
                      simp only [Act.put, List.setIfInBounds_toArray, List.set_cons_zero, List.set_cons_succ]
                      go_upto_region 23 with fail
                      refine wp_region_lit ?_
                      refine wpList_run (v := .bool false) (wanted_none rfl) (ix_eql rfl rfl rfl (decide_eq_false Hs1.out)) ?_
                      simp only [Act.put, List.setIfInBounds_toArray, List.set_cons_zero, List.set_cons_succ]
                      refine wpList_run (v := .bool false) (wanted_none rfl) (gx_assign rfl rfl) ?_
                      simp only [Act.put, List.setIfInBounds_toArray, List.set_cons_zero, List.set_cons_succ]
                      go_upto_region 31 with fail
                      refine wp_region_lit ?_
                      refine wpList_run (v := .int .i64 0) (wanted_none rfl) (gx_assign rfl rfl) ?_
                      simp only [Act.put, List.setIfInBounds_toArray, List.set_cons_zero, List.set_cons_succ]
                      refine wpList_run (v := .int .i64 0) (wanted_none rfl) (gx_assign rfl rfl) ?_
                      simp only [Act.put, List.setIfInBounds_toArray, List.set_cons_zero, List.set_cons_succ]
                      refine wpList_run (v := .bool false) (wanted_none rfl) (gx_assign rfl rfl) ?_
                      simp only [Act.put, List.setIfInBounds_toArray, List.set_cons_zero, List.set_cons_succ]
                      go_wp2_with fail
                      go_ret3
                      rw [show lcell s 4 = (0, 0, false) from by simp [lcell, Hh2.out, Hh6.out, Hh1.out, Hh7.out, Hh8.out, Hh9.out, Hh3.out, Hs0.out, Hs1.out]]
                      exact ⟨rfl, rfl⟩
                · have Hh4 := Lib.hid hh4
                  clear hh4
                  by_cases hh5 : h = 5
                  · subst hh5
                    go_upto_region 0 with fail
                    refine wp_region_lit ?_
                    refine wpList_run (v := .int .i64 0) (wanted_none rfl) (gx_assign rfl rfl) ?_
                    simp only [Act.put, List.setIfInBounds_toArray, List.set_cons_zero, List.set_cons_succ]
                    refine wpList_run (v := .int .i64 0) (wanted_none rfl) (gx_assign rfl rfl) ?_
                    simp only [Act.put, List.setIfInBounds_toArray, List.set_cons_zero, List.set_cons_succ]
                    refine wpList_run (v := .bool false) (wanted_none rfl) (gx_assign rfl rfl) ?_
                    simp only [Act.put, List.setIfInBounds_toArray, List.set_cons_zero, List.set_cons_succ]
                    go_upto_region 1 with fail
                    refine wp_region_lit ?_
                    refine wpList_run (v := .int .i64 5) (wanted_none rfl) (exec_move rfl rfl) ?_
                    simp only [Act.put, List.setIfInBounds_toArray, List.set_cons_zero, List.set_cons_succ]
                    go_upto_region 2 with fail
                    refine wp_region_lit ?_
                    refine wpList_run (v := .bool false) (wanted_none rfl) (ix_eql rfl rfl rfl (by decide)) ?_
                    simp only [Act.put, List.setIfInBounds_toArray, List.set_cons_zero, List.set_cons_succ]
                    refine wpList_run (v := .bool false) (wanted_none rfl) (gx_assign rfl rfl) ?_
                    simp only [Act.put, List.setIfInBounds_toArray, List.set_cons_zero, List.set_cons_succ]
                    go_upto_region 4 with fail
                    refine wp_region_lit ?_
                    refine wpList_run (v := .bool false) (wanted_none rfl) (ix_eql rfl rfl rfl (by decide)) ?_
                    simp only [Act.put, List.setIfInBounds_toArray, List.set_cons_zero, List.set_cons_succ]
                    refine wpList_run (v := .bool false) (wanted_none rfl) (gx_assign rfl rfl) ?_
                    simp only [Act.put, List.setIfInBounds_toArray, List.set_cons_zero, List.set_cons_succ]
                    by_cases hs0 : s = 0
                    · subst hs0
                      go_upto_region 13 with fail
                      refine wp_region_lit ?_
                      refine wpList_run (v := .int .i64 0) (wanted_none rfl) (exec_move rfl rfl) ?_
                      simp only [Act.put, List.setIfInBounds_toArray, List.set_cons_zero, List.set_cons_succ]
                      go_upto_region 14 with fail
                      refine wp_region_lit ?_
                      refine wpList_run (v := .bool true) (wanted_none rfl) (ix_eql rfl rfl rfl (by decide)) ?_
                      simp only [Act.put, List.setIfInBounds_toArray, List.set_cons_zero, List.set_cons_succ]
                      refine wpList_run (v := .bool true) (wanted_none rfl) (gx_assign rfl rfl) ?_
                      simp only [Act.put, List.setIfInBounds_toArray, List.set_cons_zero, List.set_cons_succ]
                      go_upto_region 15 with fail
                      refine wp_region_lit ?_
                      refine wpList_run (v := .int .i64 5) (wanted_none rfl) (exec_move rfl rfl) ?_
                      simp only [Act.put, List.setIfInBounds_toArray, List.set_cons_zero, List.set_cons_succ]
                      go_upto_region 16 with fail
                      refine wp_region_lit ?_
                      refine wpList_run (v := .bool false) (wanted_none rfl) (ix_eql rfl rfl rfl (by decide)) ?_
                      simp only [Act.put, List.setIfInBounds_toArray, List.set_cons_zero, List.set_cons_succ]
                      refine wpList_run (v := .bool false) (wanted_none rfl) (gx_assign rfl rfl) ?_
                      simp only [Act.put, List.setIfInBounds_toArray, List.set_cons_zero, List.set_cons_succ]
                      go_upto_region 18 with fail
                      refine wp_region_lit ?_
                      refine wpList_run (v := .bool false) (wanted_none rfl) (ix_eql rfl rfl rfl (by decide)) ?_
                      simp only [Act.put, List.setIfInBounds_toArray, List.set_cons_zero, List.set_cons_succ]
                      refine wpList_run (v := .bool false) (wanted_none rfl) (gx_assign rfl rfl) ?_
                      simp only [Act.put, List.setIfInBounds_toArray, List.set_cons_zero, List.set_cons_succ]
                      go_upto_region 19 with fail
                      refine wp_region_lit ?_
                      refine wpList_run (v := .bool false) (wanted_none rfl) (ix_eql rfl rfl rfl (by decide)) ?_
                      simp only [Act.put, List.setIfInBounds_toArray, List.set_cons_zero, List.set_cons_succ]
                      refine wpList_run (v := .bool false) (wanted_none rfl) (gx_assign rfl rfl) ?_
                      simp only [Act.put, List.setIfInBounds_toArray, List.set_cons_zero, List.set_cons_succ]
                      go_upto_region 21 with fail
                      refine wp_region_lit ?_
                      refine wpList_run (v := .bool false) (wanted_none rfl) (ix_eql rfl rfl rfl (by decide)) ?_
                      simp only [Act.put, List.setIfInBounds_toArray, List.set_cons_zero, List.set_cons_succ]
                      refine wpList_run (v := .bool false) (wanted_none rfl) (gx_assign rfl rfl) ?_
                      simp only [Act.put, List.setIfInBounds_toArray, List.set_cons_zero, List.set_cons_succ]
                      go_upto_region 31 with fail
                      refine wp_region_lit ?_
                      refine wpList_run (v := .int .i64 0) (wanted_none rfl) (gx_assign rfl rfl) ?_
                      simp only [Act.put, List.setIfInBounds_toArray, List.set_cons_zero, List.set_cons_succ]
                      refine wpList_run (v := .int .i64 0) (wanted_none rfl) (gx_assign rfl rfl) ?_
                      simp only [Act.put, List.setIfInBounds_toArray, List.set_cons_zero, List.set_cons_succ]
                      refine wpList_run (v := .bool false) (wanted_none rfl) (gx_assign rfl rfl) ?_
                      simp only [Act.put, List.setIfInBounds_toArray, List.set_cons_zero, List.set_cons_succ]
                      go_wp2_with fail
                      go_ret3
                      rw [show lcell 0 5 = (0, 0, false) from by simp [lcell, Hh2.out, Hh6.out, Hh1.out, Hh7.out, Hh8.out, Hh9.out, Hh3.out, Hh4.out]]
                      exact ⟨rfl, rfl⟩
                    · have Hs0 := Lib.hid hs0
                      clear hs0
                      by_cases hs1 : s = 1
                      · subst hs1
                        go_upto_region 13 with fail
                        refine wp_region_lit ?_
                        refine wpList_run (v := .int .i64 1) (wanted_none rfl) (exec_move rfl rfl) ?_
                        simp only [Act.put, List.setIfInBounds_toArray, List.set_cons_zero, List.set_cons_succ]
                        go_upto_region 14 with fail
                        refine wp_region_lit ?_
                        refine wpList_run (v := .bool false) (wanted_none rfl) (ix_eql rfl rfl rfl (by decide)) ?_
                        simp only [Act.put, List.setIfInBounds_toArray, List.set_cons_zero, List.set_cons_succ]
                        refine wpList_run (v := .bool false) (wanted_none rfl) (gx_assign rfl rfl) ?_
                        simp only [Act.put, List.setIfInBounds_toArray, List.set_cons_zero, List.set_cons_succ]
                        go_upto_region 23 with fail
                        refine wp_region_lit ?_
                        refine wpList_run (v := .bool true) (wanted_none rfl) (ix_eql rfl rfl rfl (by decide)) ?_
                        simp only [Act.put, List.setIfInBounds_toArray, List.set_cons_zero, List.set_cons_succ]
                        refine wpList_run (v := .bool true) (wanted_none rfl) (gx_assign rfl rfl) ?_
                        simp only [Act.put, List.setIfInBounds_toArray, List.set_cons_zero, List.set_cons_succ]
                        go_upto_region 24 with fail
                        refine wp_region_lit ?_
                        refine wpList_run (v := .int .i64 5) (wanted_none rfl) (exec_move rfl rfl) ?_
                        simp only [Act.put, List.setIfInBounds_toArray, List.set_cons_zero, List.set_cons_succ]
                        go_upto_region 25 with fail
                        refine wp_region_lit ?_
                        refine wpList_run (v := .bool false) (wanted_none rfl) (ix_eql rfl rfl rfl (by decide)) ?_
                        simp only [Act.put, List.setIfInBounds_toArray, List.set_cons_zero, List.set_cons_succ]
                        refine wpList_run (v := .bool false) (wanted_none rfl) (gx_assign rfl rfl) ?_
                        simp only [Act.put, List.setIfInBounds_toArray, List.set_cons_zero, List.set_cons_succ]
                        go_upto_region 27 with fail
                        refine wp_region_lit ?_
                        refine wpList_run (v := .bool false) (wanted_none rfl) (ix_eql rfl rfl rfl (by decide)) ?_
                        simp only [Act.put, List.setIfInBounds_toArray, List.set_cons_zero, List.set_cons_succ]
                        refine wpList_run (v := .bool false) (wanted_none rfl) (gx_assign rfl rfl) ?_
                        simp only [Act.put, List.setIfInBounds_toArray, List.set_cons_zero, List.set_cons_succ]
                        go_upto_region 29 with fail
                        refine wp_region_lit ?_
                        refine wpList_run (v := .bool true) (wanted_none rfl) (ix_eql rfl rfl rfl (by decide)) ?_
                        simp only [Act.put, List.setIfInBounds_toArray, List.set_cons_zero, List.set_cons_succ]
                        refine wpList_run (v := .bool true) (wanted_none rfl) (gx_assign rfl rfl) ?_
                        simp only [Act.put, List.setIfInBounds_toArray, List.set_cons_zero, List.set_cons_succ]
                        go_upto_region 30 with fail
                        refine wp_region_lit ?_
                        refine wpList_run (v := .int .i64 4) (wanted_none rfl) (gx_assign rfl rfl) ?_
                        simp only [Act.put, List.setIfInBounds_toArray, List.set_cons_zero, List.set_cons_succ]
                        refine wpList_run (v := .int .i64 0) (wanted_none rfl) (gx_assign rfl rfl) ?_
                        simp only [Act.put, List.setIfInBounds_toArray, List.set_cons_zero, List.set_cons_succ]
                        refine wpList_run (v := .bool true) (wanted_none rfl) (gx_assign rfl rfl) ?_
                        simp only [Act.put, List.setIfInBounds_toArray, List.set_cons_zero, List.set_cons_succ]
                        go_wp2_with fail
                        go_ret3
                        rw [show lcell 1 5 = (4, 0, true) from by simp [lcell, Hh2.out, Hh6.out, Hh1.out, Hh7.out, Hh8.out, Hh9.out, Hh3.out, Hh4.out, Hs0.out]]
                        exact ⟨rfl, rfl⟩
                      · have Hs1 := Lib.hid hs1
                        clear hs1
                        go_upto_region 13 with fail
                        refine wp_region_lit ?_
                        refine wpList_run (v := .int .i64 s) (wanted_none rfl) (exec_move rfl rfl) ?_
                        simp only [Act.put, List.setIfInBounds_toArray, List.set_cons_zero, List.set_cons_succ]
                        go_upto_region 14 with fail
                        refine wp_region_lit ?_
                        refine wpList_run (v := .bool false) (wanted_none rfl) (ix_eql rfl rfl rfl (decide_eq_false Hs0.out)) ?_
                        simp only [Act.put, List.setIfInBounds_toArray, List.set_cons_zero, List.set_cons_succ]
                        refine wpList_run (v := .bool false) (wanted_none rfl) (gx_assign rfl rfl) ?_
                        simp only [Act.put, List.setIfInBounds_toArray, List.set_cons_zero, List.set_cons_succ]
                        go_upto_region 23 with fail
                        refine wp_region_lit ?_
                        refine wpList_run (v := .bool false) (wanted_none rfl) (ix_eql rfl rfl rfl (decide_eq_false Hs1.out)) ?_
                        simp only [Act.put, List.setIfInBounds_toArray, List.set_cons_zero, List.set_cons_succ]
                        refine wpList_run (v := .bool false) (wanted_none rfl) (gx_assign rfl rfl) ?_
                        simp only [Act.put, List.setIfInBounds_toArray, List.set_cons_zero, List.set_cons_succ]
                        go_upto_region 31 with fail
                        refine wp_region_lit ?_
                        refine wpList_run (v := .int .i64 0) (wanted_none rfl) (gx_assign rfl rfl) ?_
                        simp only [Act.put, List.setIfInBounds_toArray, List.set_cons_zero, List.set_cons_succ]
                        refine wpList_run (v := .int .i64 0) (wanted_none rfl) (gx_assign rfl rfl) ?_
                        simp only [Act.put, List.setIfInBounds_toArray, List.set_cons_zero, List.set_cons_succ]
                        refine wpList_run (v := .bool false) (wanted_none rfl) (gx_assign rfl rfl) ?_
                        simp only [Act.put, List.setIfInBounds_toArray, List.set_cons_zero, List.set_cons_succ]
                        go_wp2_with fail
                        go_ret3
                        rw [show lcell s 5 = (0, 0, false) from by simp [lcell, Hh2.out, Hh6.out, Hh1.out, Hh7.out, Hh8.out, Hh9.out, Hh3.out, Hh4.out, Hs0.out, Hs1.out]]
                        exact ⟨rfl, rfl⟩
                  · have Hh5 := Lib.hid hh5
                    clear hh5
                    go_upto_region 0 with fail
                    refine wp_region_lit ?_
                    refine wpList_run (v := .int .i64 0) (wanted_none rfl) (gx_assign rfl rfl) ?_
                    simp only [Act.put, List.setIfInBounds_toArray, List.set_cons_zero, List.set_cons_succ]
                    refine wpList_run (v := .int .i64 0) (wanted_none rfl) (gx_assign rfl rfl) ?_
                    simp only [Act.put, List.setIfInBounds_toArray, List.set_cons_zero, List.set_cons_succ]
                    refine wpList_run (v := .bool false) (wanted_none rfl) (gx_assign rfl rfl) ?_
                    simp only [Act.put, List.setIfInBounds_toArray, List.set_cons_zero, List.set_cons_succ]
                    go_upto_region 1 with fail
                    refine wp_region_lit ?_
                    refine wpList_run (v := .int .i64 h) (wanted_none rfl) (exec_move rfl rfl) ?_
                    simp only [Act.put, List.setIfInBounds_toArray, List.set_cons_zero, List.set_cons_succ]
                    go_upto_region 2 with fail
                    refine wp_region_lit ?_
                    refine wpList_run (v := .bool false) (wanted_none rfl) (ix_eql rfl rfl rfl (decide_eq_false Hh2.out)) ?_
                    simp only [Act.put, List.setIfInBounds_toArray, List.set_cons_zero, List.set_cons_succ]
                    refine wpList_run (v := .bool false) (wanted_none rfl) (gx_assign rfl rfl) ?_
                    simp only [Act.put, List.setIfInBounds_toArray, List.set_cons_zero, List.set_cons_succ]
                    go_upto_region 4 with fail
                    refine wp_region_lit ?_
                    refine wpList_run (v := .bool false) (wanted_none rfl) (ix_eql rfl rfl rfl (decide_eq_false Hh6.out)) ?_
                    simp only [Act.put, List.setIfInBounds_toArray, List.set_cons_zero, List.set_cons_succ]
                    refine wpList_run (v := .bool false) (wanted_none rfl) (gx_assign rfl rfl) ?_
                    simp only [Act.put, List.setIfInBounds_toArray, List.set_cons_zero, List.set_cons_succ]
                    by_cases hs0 : s = 0
                    · subst hs0
                      go_upto_region 13 with fail
                      refine wp_region_lit ?_
                      refine wpList_run (v := .int .i64 0) (wanted_none rfl) (exec_move rfl rfl) ?_
                      simp only [Act.put, List.setIfInBounds_toArray, List.set_cons_zero, List.set_cons_succ]
                      go_upto_region 14 with fail
                      refine wp_region_lit ?_
                      refine wpList_run (v := .bool true) (wanted_none rfl) (ix_eql rfl rfl rfl (by decide)) ?_
                      simp only [Act.put, List.setIfInBounds_toArray, List.set_cons_zero, List.set_cons_succ]
                      refine wpList_run (v := .bool true) (wanted_none rfl) (gx_assign rfl rfl) ?_
                      simp only [Act.put, List.setIfInBounds_toArray, List.set_cons_zero, List.set_cons_succ]
                      go_upto_region 15 with fail
                      refine wp_region_lit ?_
                      refine wpList_run (v := .int .i64 h) (wanted_none rfl) (exec_move rfl rfl) ?_
                      simp only [Act.put, List.setIfInBounds_toArray, List.set_cons_zero, List.set_cons_succ]
                      go_upto_region 16 with fail
                      refine wp_region_lit ?_
                      refine wpList_run (v := .bool false) (wanted_none rfl) (ix_eql rfl rfl rfl (decide_eq_false Hh1.out)) ?_
                      simp only [Act.put, List.setIfInBounds_toArray, List.set_cons_zero, List.set_cons_succ]
                      refine wpList_run (v := .bool false) (wanted_none rfl) (gx_assign rfl rfl) ?_
                      simp only [Act.put, List.setIfInBounds_toArray, List.set_cons_zero, List.set_cons_succ]
                      go_upto_region 18 with fail
                      refine wp_region_lit ?_
                      refine wpList_run (v := .bool false) (wanted_none rfl) (ix_eql rfl rfl rfl (decide_eq_false Hh7.out)) ?_
                      simp only [Act.put, List.setIfInBounds_toArray, List.set_cons_zero, List.set_cons_succ]
                      refine wpList_run (v := .bool false) (wanted_none rfl) (gx_assign rfl rfl) ?_
                      simp only [Act.put, List.setIfInBounds_toArray, List.set_cons_zero, List.set_cons_succ]
                      go_upto_region 19 with fail
                      refine wp_region_lit ?_
                      refine wpList_run (v := .bool false) (wanted_none rfl) (ix_eql rfl rfl rfl (decide_eq_false Hh8.out)) ?_
                      simp only [Act.put, List.setIfInBounds_toArray, List.set_cons_zero, List.set_cons_succ]
                      refine wpList_run (v := .bool false) (wanted_none rfl) (gx_assign rfl rfl) ?_
                      simp only [Act.put, List.setIfInBounds_toArray, List.set_cons_zero, List.set_cons_succ]
                      go_upto_region 21 with fail
                      refine wp_region_lit ?_
                      refine wpList_run (v := .bool false) (wanted_none rfl) (ix_eql rfl rfl rfl (decide_eq_false Hh9.out)) ?_
                      simp only [Act.put, List.setIfInBounds_toArray, List.set_cons_zero, List.set_cons_succ]
                      refine wpList_run (v := .bool false) (wanted_none rfl) (gx_assign rfl rfl) ?_
                      simp only [Act.put, List.setIfInBounds_toArray, List.set_cons_zero, List.set_cons_succ]
                      go_upto_region 31 with fail
                      refine wp_region_lit ?_
                      refine wpList_run (v := .int .i64 0) (wanted_none rfl) (gx_assign rfl rfl) ?_
                      simp only [Act.put, List.setIfInBounds_toArray, List.set_cons_zero, List.set_cons_succ]
                      refine wpList_run (v := .int .i64 0) (wanted_none rfl) (gx_assign rfl rfl) ?_
                      simp only [Act.put, List.setIfInBounds_toArray, List.set_cons_zero, List.set_cons_succ]
                      refine wpList_run (v := .bool false) (wanted_none rfl) (gx_assign rfl rfl) ?_
                      simp only [Act.put, List.setIfInBounds_toArray, List.set_cons_zero, List.set_cons_succ]
                      go_wp2_with fail
                      go_ret3
                      rw [show lcell 0 h = (0, 0, false) from by simp [lcell, Hh2.out, Hh6.out, Hh1.out, Hh7.out, Hh8.out, Hh9.out, Hh3.out, Hh4.out, Hh5.out]]
                      exact ⟨rfl, rfl⟩
                    · have Hs0 := Lib.hid hs0
                      clear hs0
                      by_cases hs1 : s = 1
                      · subst hs1
                        go_upto_region 13 with fail
                        refine wp_region_lit ?_
                        refine wpList_run (v := .int .i64 1) (wanted_none rfl) (exec_move rfl rfl) ?_
                        simp only [Act.put, List.setIfInBounds_toArray, List.set_cons_zero, List.set_cons_succ]
                        go_upto_region 14 with fail
                        refine wp_region_lit ?_
                        refine wpList_run (v := .bool false) (wanted_none rfl) (ix_eql rfl rfl rfl (by decide)) ?_
                        simp only [Act.put, List.setIfInBounds_toArray, List.set_cons_zero, List.set_cons_succ]
                        refine wpList_run (v := .bool false) (wanted_none rfl) (gx_assign rfl rfl) ?_
                        simp only [Act.put, List.setIfInBounds_toArray, List.set_cons_zero, List.set_cons_succ]
                        go_upto_region 23 with fail
                        refine wp_region_lit ?_
                        refine wpList_run (v := .bool true) (wanted_none rfl) (ix_eql rfl rfl rfl (by decide)) ?_
                        simp only [Act.put, List.setIfInBounds_toArray, List.set_cons_zero, List.set_cons_succ]
                        refine wpList_run (v := .bool true) (wanted_none rfl) (gx_assign rfl rfl) ?_
                        simp only [Act.put, List.setIfInBounds_toArray, List.set_cons_zero, List.set_cons_succ]
                        go_upto_region 24 with fail
                        refine wp_region_lit ?_
                        refine wpList_run (v := .int .i64 h) (wanted_none rfl) (exec_move rfl rfl) ?_
                        simp only [Act.put, List.setIfInBounds_toArray, List.set_cons_zero, List.set_cons_succ]
                        go_upto_region 25 with fail
                        refine wp_region_lit ?_
                        refine wpList_run (v := .bool false) (wanted_none rfl) (ix_eql rfl rfl rfl (decide_eq_false Hh3.out)) ?_
                        simp only [Act.put, List.setIfInBounds_toArray, List.set_cons_zero, List.set_cons_succ]
                        refine wpList_run (v := .bool false) (wanted_none rfl) (gx_assign rfl rfl) ?_
                        simp only [Act.put, List.setIfInBounds_toArray, List.set_cons_zero, List.set_cons_succ]
                        go_upto_region 27 with fail
                        refine wp_region_lit ?_
                        refine wpList_run (v := .bool false) (wanted_none rfl) (ix_eql rfl rfl rfl (decide_eq_false Hh4.out)) ?_
                        simp only [Act.put, List.setIfInBounds_toArray, List.set_cons_zero, List.set_cons_succ]
                        refine wpList_run (v := .bool false) (wanted_none rfl) (gx_assign rfl rfl) ?_
                        simp only [Act.put, List.setIfInBounds_toArray, List.set_cons_zero, List.set_cons_succ]
                        go_upto_region 29 with fail
                        refine wp_region_lit ?_
                        refine wpList_run (v := .bool false) (wanted_none rfl) (ix_eql rfl rfl rfl (decide_eq_false Hh5.out)) ?_
                        simp only [Act.put, List.setIfInBounds_toArray, List.set_cons_zero, List.set_cons_succ]
                        refine wpList_run (v := .bool false) (wanted_none rfl) (gx_assign rfl rfl) ?_
                        simp only [Act.put, List.setIfInBounds_toArray, List.set_cons_zero, List.set_cons_succ]
                        go_upto_region 31 with fail
                        refine wp_region_lit ?_
                        refine wpList_run (v := .int .i64 0) (wanted_none rfl) (gx_assign rfl rfl) ?_
                        simp only [Act.put, List.setIfInBounds_toArray, List.set_cons_zero, List.set_cons_succ]
                        refine wpList_run (v := .int .i64 0) (wanted_none rfl) (gx_assign rfl rfl) ?_
                        simp only [Act.put, List.setIfInBounds_toArray, List.set_cons_zero, List.set_cons_succ]
                        refine wpList_run (v := .bool false) (wanted_none rfl) (gx_assign rfl rfl) ?_
                        simp only [Act.put, List.setIfInBounds_toArray, List.set_cons_zero, List.set_cons_succ]
                        go_wp2_with fail
                        go_ret3
                        rw [show lcell 1 h = (0, 0, false) from by simp [lcell, Hh2.out, Hh6.out, Hh1.out, Hh7.out, Hh8.out, Hh9.out, Hh3.out, Hh4.out, Hh5.out, Hs0.out]]
                        exact ⟨rfl, rfl⟩
                      · have Hs1 := Lib.hid hs1
                        clear hs1
                        go_upto_region 13 with fail
                        refine wp_region_lit ?_
                        refine wpList_run (v := .int .i64 s) (wanted_none rfl) (exec_move rfl rfl) ?_
                        simp only [Act.put, List.setIfInBounds_toArray, List.set_cons_zero, List.set_cons_succ]
                        go_upto_region 14 with fail
                        refine wp_region_lit ?_
                        refine wpList_run (v := .bool false) (wanted_none rfl) (ix_eql rfl rfl rfl (decide_eq_false Hs0.out)) ?_
                        simp only [Act.put, List.setIfInBounds_toArray, List.set_cons_zero, List.set_cons_succ]
                        refine wpList_run (v := .bool false) (wanted_none rfl) (gx_assign rfl rfl) ?_
                        simp only [Act.put, List.setIfInBounds_toArray, List.set_cons_zero, List.set_cons_succ]
                        go_upto_region 23 with fail
                        refine wp_region_lit ?_
                        refine wpList_run (v := .bool false) (wanted_none rfl) (ix_eql rfl rfl rfl (decide_eq_false Hs1.out)) ?_
                        simp only [Act.put, List.setIfInBounds_toArray, List.set_cons_zero, List.set_cons_succ]
                        refine wpList_run (v := .bool false) (wanted_none rfl) (gx_assign rfl rfl) ?_
                        simp only [Act.put, List.setIfInBounds_toArray, List.set_cons_zero, List.set_cons_succ]
                        go_upto_region 31 with fail
                        refine wp_region_lit ?_
                        refine wpList_run (v := .int .i64 0) (wanted_none rfl) (gx_assign rfl rfl) ?_
                        simp only [Act.put, List.setIfInBounds_toArray, List.set_cons_zero, List.set_cons_succ]
                        refine wpList_run (v := .int .i64 0) (wanted_none rfl) (gx_assign rfl rfl) ?_
                        simp only [Act.put, List.setIfInBounds_toArray, List.set_cons_zero, List.set_cons_succ]
                        refine wpList_run (v := .bool false) (wanted_none rfl) (gx_assign rfl rfl) ?_
                        simp only [Act.put, List.setIfInBounds_toArray, List.set_cons_zero, List.set_cons_succ]
                        go_wp2_with fail
                        go_ret3
                        rw [show lcell s h = (0, 0, false) from by simp [lcell, Hh2.out, Hh6.out, Hh1.out, Hh7.out, Hh8.out, Hh9.out, Hh3.out, Hh4.out, Hh5.out, Hs0.out, Hs1.out]]
                        exact ⟨rfl, rfl⟩
set_option maxRecDepth 20000 in
set_option maxHeartbeats 4000000 in
theorem rNext_walk (s h : Int) (w : World) : Calls Try.prog 9 #[.int .i64 s, .int .i64 h] w fun e w' => e = .returned (nextV (lnext s h)) ∧ w' = w := by
  go_enter Try.func9, Try.ntmps9
  go_upto_region 0 with fail
  refine wp_region_lit ?_
  refine wpList_run (v := .int .i64 0) (wanted_none rfl) (gx_assign rfl rfl) ?_
  simp only [Act.put, List.setIfInBounds_toArray, List.set_cons_zero, List.set_cons_succ]
  refine wpList_run (v := .int .i64 0) (wanted_none rfl) (gx_assign rfl rfl) ?_
  simp only [Act.put, List.setIfInBounds_toArray, List.set_cons_zero, List.set_cons_succ]
  refine wpList_run (v := .int .i64 0) (wanted_none rfl) (gx_assign rfl rfl) ?_
  simp only [Act.put, List.setIfInBounds_toArray, List.set_cons_zero, List.set_cons_succ]
  by_cases c0 : s < 0
  · have C0 := Lib.hid c0
    clear c0
    go_upto_region 1 with fail
    refine wp_region_lit ?_
    refine wpList_run (v := .int .i64 s) (wanted_none rfl) (exec_move rfl rfl) ?_
    simp only [Act.put, List.setIfInBounds_toArray, List.set_cons_zero, List.set_cons_succ]
    refine wpList_run (v := .bool true) (wanted_none rfl) (ix_lss rfl rfl rfl (decide_eq_true C0.out)) ?_
    simp only [Act.put, List.setIfInBounds_toArray, List.set_cons_zero, List.set_cons_succ]
    refine wpList_run (v := .bool true) (wanted_none rfl) (exec_move rfl rfl) ?_
    simp only [Act.put, List.setIfInBounds_toArray, List.set_cons_zero, List.set_cons_succ]
    refine wpList_skip (by go_simp) ?_
    simp only [Act.put, List.setIfInBounds_toArray, List.set_cons_zero, List.set_cons_succ]
    refine wpList_skip (by go_simp) ?_
    simp only [Act.put, List.setIfInBounds_toArray, List.set_cons_zero, List.set_cons_succ]
    refine wpList_run (v := .bool true) (wanted_none rfl) (ix_pickT rfl rfl rfl) ?_
    simp only [Act.put, List.setIfInBounds_toArray, List.set_cons_zero, List.set_cons_succ]
    refine wpList_run (v := .bool true) (wanted_none rfl) (exec_move rfl rfl) ?_
    simp only [Act.put, List.setIfInBounds_toArray, List.set_cons_zero, List.set_cons_succ]
    refine wpList_skip (by go_simp) ?_
    simp only [Act.put, List.setIfInBounds_toArray, List.set_cons_zero, List.set_cons_succ]
    refine wpList_skip (by go_simp) ?_
    simp only [Act.put, List.setIfInBounds_toArray, List.set_cons_zero, List.set_cons_succ]
    refine wpList_run (v := .bool true) (wanted_none rfl) (ix_pickT rfl rfl rfl) ?_
    simp only [Act.put, List.setIfInBounds_toArray, List.set_cons_zero, List.set_cons_succ]
    refine wpList_run (v := .bool true) (wanted_none rfl) (exec_move rfl rfl) ?_
    simp only [Act.put, List.setIfInBounds_toArray, List.set_cons_zero, List.set_cons_succ]
    refine wpList_skip (by go_simp) ?_
    simp only [Act.put, List.setIfInBounds_toArray, List.set_cons_zero, List.set_cons_succ]
    refine wpList_skip (by go_simp) ?_
    simp only [Act.put, List.setIfInBounds_toArray, List.set_cons_zero, List.set_cons_succ]
    refine wpList_run (v := .bool true) (wanted_none rfl) (ix_pickT rfl rfl rfl) ?_
    simp only [Act.put, List.setIfInBounds_toArray, List.set_cons_zero, List.set_cons_succ]
    go_upto_region 2 with fail
    refine wp_region_lit ?_
    refine wpList_run (v := .int .i64 0) (wanted_none rfl) (gx_assign rfl rfl) ?_
    simp only [Act.put, List.setIfInBounds_toArray, List.set_cons_zero, List.set_cons_succ]
    refine wpList_run (v := .int .i64 0) (wanted_none rfl) (gx_assign rfl rfl) ?_
    simp only [Act.put, List.setIfInBounds_toArray, List.set_cons_zero, List.set_cons_succ]
    refine wpList_run (v := .int .i64 160) (wanted_none rfl) (gx_assign rfl rfl) ?_
    simp only [Act.put, List.setIfInBounds_toArray, List.set_cons_zero, List.set_cons_succ]
    go_wp2_with fail
    go_ret3
    rw [lnext_out (.inl C0.out)]
    exact ⟨rfl, rfl⟩
  · have C0 := Lib.hid c0
    clear c0
    by_cases c1 : 5 < s
    · have C1 := Lib.hid c1
      clear c1
      go_upto_region 1 with fail
      refine wp_region_lit ?_
      refine wpList_run (v := .int .i64 s) (wanted_none rfl) (exec_move rfl rfl) ?_
      simp only [Act.put, List.setIfInBounds_toArray, List.set_cons_zero, List.set_cons_succ]
      refine wpList_run (v := .bool false) (wanted_none rfl) (ix_lss rfl rfl rfl (decide_eq_false C0.out)) ?_
      simp only [Act.put, List.setIfInBounds_toArray, List.set_cons_zero, List.set_cons_succ]
      refine wpList_run (v := .bool false) (wanted_none rfl) (exec_move rfl rfl) ?_
      simp only [Act.put, List.setIfInBounds_toArray, List.set_cons_zero, List.set_cons_succ]
      refine wpList_run (v := .int .i64 s) rfl (exec_move rfl rfl) ?_
      simp only [Act.put, List.setIfInBounds_toArray, List.set_cons_zero, List.set_cons_succ]
      refine wpList_run (v := .bool true) rfl (ix_gtr rfl rfl rfl (decide_eq_true C1.out)) ?_
      simp only [Act.put, List.setIfInBounds_toArray, List.set_cons_zero, List.set_cons_succ]
      refine wpList_run (v := .bool true) (wanted_none rfl) (ix_pickF rfl rfl rfl) ?_
      simp only [Act.put, List.setIfInBounds_toArray, List.set_cons_zero, List.set_cons_succ]
      refine wpList_run (v := .bool true) (wanted_none rfl) (exec_move rfl rfl) ?_
      simp only [Act.put, List.setIfInBounds_toArray, List.set_cons_zero, List.set_cons_succ]
      refine wpList_skip (by go_simp) ?_
      simp only [Act.put, List.setIfInBounds_toArray, List.set_cons_zero, List.set_cons_succ]
      refine wpList_skip (by go_simp) ?_
      simp only [Act.put, List.setIfInBounds_toArray, List.set_cons_zero, List.set_cons_succ]
      refine wpList_run (v := .bool true) (wanted_none rfl) (ix_pickT rfl rfl rfl) ?_
      simp only [Act.put, List.setIfInBounds_toArray, List.set_cons_zero, List.set_cons_succ]
      refine wpList_run (v := .bool true) (wanted_none rfl) (exec_move rfl rfl) ?_
      simp only [Act.put, List.setIfInBounds_toArray, List.set_cons_zero, List.set_cons_succ]
      refine wpList_skip (by go_simp) ?_
      simp only [Act.put, List.setIfInBounds_toArray, List.set_cons_zero, List.set_cons_succ]
      refine wpList_skip (by go_simp) ?_
      simp only [Act.put, List.setIfInBounds_toArray, List.set_cons_zero, List.set_cons_succ]
      refine wpList_run (v := .bool true) (wanted_none rfl) (ix_pickT rfl rfl rfl) ?_
      simp only [Act.put, List.setIfInBounds_toArray, List.set_cons_zero, List.set_cons_succ]
      go_upto_region 2 with fail
      refine wp_region_lit ?_
      refine wpList_run (v := .int .i64 0) (wanted_none rfl) (gx_assign rfl rfl) ?_
      simp only [Act.put, List.setIfInBounds_toArray, List.set_cons_zero, List.set_cons_succ]
      refine wpList_run (v := .int .i64 0) (wanted_none rfl) (gx_assign rfl rfl) ?_
      simp only [Act.put, List.setIfInBounds_toArray, List.set_cons_zero, List.set_cons_succ]
      refine wpList_run (v := .int .i64 160) (wanted_none rfl) (gx_assign rfl rfl) ?_
      simp only [Act.put, List.setIfInBounds_toArray, List.set_cons_zero, List.set_cons_succ]
      go_wp2_with fail
      go_ret3
      rw [lnext_out (.inr (.inl C1.out))]
      exact ⟨rfl, rfl⟩
    · have C1 := Lib.hid c1
      clear c1
      by_cases c2 : h < 1
      · have C2 := Lib.hid c2
        clear c2
        go_upto_region 1 with fail
        refine wp_region_lit ?_
        refine wpList_run (v := .int .i64 s) (wanted_none rfl) (exec_move rfl rfl) ?_
        simp only [Act.put, List.setIfInBounds_toArray, List.set_cons_zero, List.set_cons_succ]
        refine wpList_run (v := .bool false) (wanted_none rfl) (ix_lss rfl rfl rfl (decide_eq_false C0.out)) ?_
        simp only [Act.put, List.setIfInBounds_toArray, List.set_cons_zero, List.set_cons_succ]
        refine wpList_run (v := .bool false) (wanted_none rfl) (exec_move rfl rfl) ?_
        simp only [Act.put, List.setIfInBounds_toArray, List.set_cons_zero, List.set_cons_succ]
        refine wpList_run (v := .int .i64 s) rfl (exec_move rfl rfl) ?_
        simp only [Act.put, List.setIfInBounds_toArray, List.set_cons_zero, List.set_cons_succ]
        refine wpList_run (v := .bool false) rfl (ix_gtr rfl rfl rfl (decide_eq_false C1.out)) ?_
        simp only [Act.put, List.setIfInBounds_toArray, List.set_cons_zero, List.set_cons_succ]
        refine wpList_run (v := .bool false) (wanted_none rfl) (ix_pickF rfl rfl rfl) ?_
        simp only [Act.put, List.setIfInBounds_toArray, List.set_cons_zero, List.set_cons_succ]
        refine wpList_run (v := .bool false) (wanted_none rfl) (exec_move rfl rfl) ?_
        simp only [Act.put, List.setIfInBounds_toArray, List.set_cons_zero, List.set_cons_succ]
        refine wpList_run (v := .int .i64 h) rfl (exec_move rfl rfl) ?_
        simp only [Act.put, List.setIfInBounds_toArray, List.set_cons_zero, List.set_cons_succ]
        refine wpList_run (v := .bool true) rfl (ix_lss rfl rfl rfl (decide_eq_true C2.out)) ?_
        simp only [Act.put, List.setIfInBounds_toArray, List.set_cons_zero, List.set_cons_succ]
        refine wpList_run (v := .bool true) (wanted_none rfl) (ix_pickF rfl rfl rfl) ?_
        simp only [Act.put, List.setIfInBounds_toArray, List.set_cons_zero, List.set_cons_succ]
        refine wpList_run (v := .bool true) (wanted_none rfl) (exec_move rfl rfl) ?_
        simp only [Act.put, List.setIfInBounds_toArray, List.set_cons_zero, List.set_cons_succ]
        refine wpList_skip (by go_simp) ?_
        simp only [Act.put, List.setIfInBounds_toArray, List.set_cons_zero, List.set_cons_succ]
        refine wpList_skip (by go_simp) ?_
        simp only [Act.put, List.setIfInBounds_toArray, List.set_cons_zero, List.set_cons_succ]
        refine wpList_run (v := .bool true) (wanted_none rfl) (ix_pickT rfl rfl rfl) ?_
        simp only [Act.put, List.setIfInBounds_toArray, List.set_cons_zero, List.set_cons_succ]
        go_upto_region 2 with fail
        refine wp_region_lit ?_
        refine wpList_run (v := .int .i64 0) (wanted_none rfl) (gx_assign rfl rfl) ?_
        simp only [Act.put, List.setIfInBounds_toArray, List.set_cons_zero, List.set_cons_succ]
        refine wpList_run (v := .int .i64 0) (wanted_none rfl) (gx_assign rfl rfl) ?_
        simp only [Act.put, List.setIfInBounds_toArray, List.set_cons_zero, List.set_cons_succ]
        refine wpList_run (v := .int .i64 160) (wanted_none rfl) (gx_assign rfl rfl) ?_
        simp only [Act.put, List.setIfInBounds_toArray, List.set_cons_zero, List.set_cons_succ]
        go_wp2_with fail
        go_ret3
        rw [lnext_out (.inr (.inr (.inl C2.out)))]
        exact ⟨rfl, rfl⟩
      · have C2 := Lib.hid c2
        clear c2
        by_cases c3 : 9 < h
        · have C3 := Lib.hid c3
          clear c3
          go_upto_region 1 with fail
          refine wp_region_lit ?_
          refine wpList_run (v := .int .i64 s) (wanted_none rfl) (exec_move rfl rfl) ?_
          simp only [Act.put, List.setIfInBounds_toArray, List.set_cons_zero, List.set_cons_succ]
          refine wpList_run (v := .bool false) (wanted_none rfl) (ix_lss rfl rfl rfl (decide_eq_false C0.out)) ?_
          simp only [Act.put, List.setIfInBounds_toArray, List.set_cons_zero, List.set_cons_succ]
          refine wpList_run (v := .bool false) (wanted_none rfl) (exec_move rfl rfl) ?_
          simp only [Act.put, List.setIfInBounds_toArray, List.set_cons_zero, List.set_cons_succ]
          refine wpList_run (v := .int .i64 s) rfl (exec_move rfl rfl) ?_
          simp only [Act.put, List.setIfInBounds_toArray, List.set_cons_zero, List.set_cons_succ]
          refine wpList_run (v := .bool false) rfl (ix_gtr rfl rfl rfl (decide_eq_false C1.out)) ?_
          simp only [Act.put, List.setIfInBounds_toArray, List.set_cons_zero, List.set_cons_succ]
          refine wpList_run (v := .bool false) (wanted_none rfl) (ix_pickF rfl rfl rfl) ?_
          simp only [Act.put, List.setIfInBounds_toArray, List.set_cons_zero, List.set_cons_succ]
          refine wpList_run (v := .bool false) (wanted_none rfl) (exec_move rfl rfl) ?_
          simp only [Act.put, List.setIfInBounds_toArray, List.set_cons_zero, List.set_cons_succ]
          refine wpList_run (v := .int .i64 h) rfl (exec_move rfl rfl) ?_
          simp only [Act.put, List.setIfInBounds_toArray, List.set_cons_zero, List.set_cons_succ]
          refine wpList_run (v := .bool false) rfl (ix_lss rfl rfl rfl (decide_eq_false C2.out)) ?_
          simp only [Act.put, List.setIfInBounds_toArray, List.set_cons_zero, List.set_cons_succ]
          refine wpList_run (v := .bool false) (wanted_none rfl) (ix_pickF rfl rfl rfl) ?_
          simp only [Act.put, List.setIfInBounds_toArray, List.set_cons_zero, List.set_cons_succ]
          refine wpList_run (v := .bool false) (wanted_none rfl) (exec_move rfl rfl) ?_
          simp only [Act.put, List.setIfInBounds_toArray, List.set_cons_zero, List.set_cons_succ]
          refine wpList_run (v := .int .i64 h) rfl (exec_move rfl rfl) ?_
          simp only [Act.put, List.setIfInBounds_toArray, List.set_cons_zero, List.set_cons_succ]
          refine wpList_run (v := .bool true) rfl (ix_gtr rfl rfl rfl (decide_eq_true C3.out)) ?_
          simp only [Act.put, List.setIfInBounds_toArray, List.set_cons_zero, List.set_cons_succ]
          refine wpList_run (v := .bool true) (wanted_none rfl) (ix_pickF rfl rfl rfl) ?_
          simp only [Act.put, List.setIfInBounds_toArray, List.set_cons_zero, List.set_cons_succ]
          go_upto_region 2 with fail
          refine wp_region_lit ?_
          refine wpList_run (v := .int .i64 0) (wanted_none rfl) (gx_assign rfl rfl) ?_
          simp only [Act.put, List.setIfInBounds_toArray, List.set_cons_zero, List.set_cons_succ]
          refine wpList_run (v := .int .i64 0) (wanted_none rfl) (gx_assign rfl rfl) ?_
          simp only [Act.put, List.setIfInBounds_toArray, List.set_cons_zero, List.set_cons_succ]
          refine wpList_run (v := .int .i64 160) (wanted_none rfl) (gx_assign rfl rfl) ?_
          simp only [Act.put, List.setIfInBounds_toArray, List.set_cons_zero, List.set_cons_succ]
          go_wp2_with fail
          go_ret3
          rw [lnext_out (.inr (.inr (.inr (C3.out))))]
          exact ⟨rfl, rfl⟩
        · have C3 := Lib.hid c3
          clear c3
          go_upto_region 1 with fail
          refine wp_region_lit ?_
          refine wpList_run (v := .int .i64 s) (wanted_none rfl) (exec_move rfl rfl) ?_
          simp only [Act.put, List.setIfInBounds_toArray, List.set_cons_zero, List.set_cons_succ]
          refine wpList_run (v := .bool false) (wanted_none rfl) (ix_lss rfl rfl rfl (decide_eq_false C0.out)) ?_
          simp only [Act.put, List.setIfInBounds_toArray, List.set_cons_zero, List.set_cons_succ]
          refine wpList_run (v := .bool false) (wanted_none rfl) (exec_move rfl rfl) ?_
          simp only [Act.put, List.setIfInBounds_toArray, List.set_cons_zero, List.set_cons_succ]
          refine wpList_run (v := .int .i64 s) rfl (exec_move rfl rfl) ?_
          simp only [Act.put, List.setIfInBounds_toArray, List.set_cons_zero, List.set_cons_succ]
          refine wpList_run (v := .bool false) rfl (ix_gtr rfl rfl rfl (decide_eq_false C1.out)) ?_
          simp only [Act.put, List.setIfInBounds_toArray, List.set_cons_zero, List.set_cons_succ]
          refine wpList_run (v := .bool false) (wanted_none rfl) (ix_pickF rfl rfl rfl) ?_
          simp only [Act.put, List.setIfInBounds_toArray, List.set_cons_zero, List.set_cons_succ]
          refine wpList_run (v := .bool false) (wanted_none rfl) (exec_move rfl rfl) ?_
          simp only [Act.put, List.setIfInBounds_toArray, List.set_cons_zero, List.set_cons_succ]
          refine wpList_run (v := .int .i64 h) rfl (exec_move rfl rfl) ?_
          simp only [Act.put, List.setIfInBounds_toArray, List.set_cons_zero, List.set_cons_succ]
          refine wpList_run (v := .bool false) rfl (ix_lss rfl rfl rfl (decide_eq_false C2.out)) ?_
          simp only [Act.put, List.setIfInBounds_toArray, List.set_cons_zero, List.set_cons_succ]
          refine wpList_run (v := .bool false) (wanted_none rfl) (ix_pickF rfl rfl rfl) ?_
          simp only [Act.put, List.setIfInBounds_toArray, List.set_cons_zero, List.set_cons_succ]
          refine wpList_run (v := .bool false) (wanted_none rfl) (exec_move rfl rfl) ?_
          simp only [Act.put, List.setIfInBounds_toArray, List.set_cons_zero, List.set_cons_succ]
          refine wpList_run (v := .int .i64 h) rfl (exec_move rfl rfl) ?_
          simp only [Act.put, List.setIfInBounds_toArray, List.set_cons_zero, List.set_cons_succ]
          refine wpList_run (v := .bool false) rfl (ix_gtr rfl rfl rfl (decide_eq_false C3.out)) ?_
          simp only [Act.put, List.setIfInBounds_toArray, List.set_cons_zero, List.set_cons_succ]
          refine wpList_run (v := .bool false) (wanted_none rfl) (ix_pickF rfl rfl rfl) ?_
          simp only [Act.put, List.setIfInBounds_toArray, List.set_cons_zero, List.set_cons_succ]
          go_upto_region 3 with fail
          refine wp_region_lit ?_
          refine wpList_run (v := .int .i64 s) (wanted_none rfl) (exec_move rfl rfl) ?_
          simp only [Act.put, List.setIfInBounds_toArray, List.set_cons_zero, List.set_cons_succ]
          refine wpList_run (v := .int .i64 h) (wanted_none rfl) (exec_move rfl rfl) ?_
          simp only [Act.put, List.setIfInBounds_toArray, List.set_cons_zero, List.set_cons_succ]
          refine wpList_op rfl fun K9 HK9 => ?_
          go_wp2_with fail
          refine (cell_walk s h w).mono ?_
          rintro e w2 ⟨rfl, rfl⟩
          refine HK9.out _ _ ?_
          clear HK9
          try simp only [Act.put, List.setIfInBounds_toArray, List.set_cons_zero, List.set_cons_succ]
          have HN := Lib.hid (lcell_next (s := s) (h := h) (by have := C0.out; omega) (by have := C1.out; omega) (by have := C2.out; omega) (by have := C3.out; omega))
          rcases hc : lcell s h with ⟨a, b, c⟩
          rw [hc] at HN
          clear hc
          cases c
          · refine wpList_run (v := .tuple #[.int .i64 a, .int .i64 b, .bool false]) (wanted_none rfl) (exec_move rfl rfl) ?_
            simp only [Act.put, List.setIfInBounds_toArray, List.set_cons_zero, List.set_cons_succ]
            refine wpList_run (v := .int .i64 a) (wanted_none rfl) (ix_extract rfl rfl rfl) ?_
            simp only [Act.put, List.setIfInBounds_toArray, List.set_cons_zero, List.set_cons_succ]
            refine wpList_run (v := .int .i64 b) (wanted_none rfl) (ix_extract rfl rfl rfl) ?_
            simp only [Act.put, List.setIfInBounds_toArray, List.set_cons_zero, List.set_cons_succ]
            refine wpList_run (v := .bool false) (wanted_none rfl) (ix_extract rfl rfl rfl) ?_
            simp only [Act.put, List.setIfInBounds_toArray, List.set_cons_zero, List.set_cons_succ]
            refine wpList_run (v := .int .i64 a) (wanted_none rfl) (gx_assign rfl rfl) ?_
            simp only [Act.put, List.setIfInBounds_toArray, List.set_cons_zero, List.set_cons_succ]
            refine wpList_run (v := .int .i64 b) (wanted_none rfl) (gx_assign rfl rfl) ?_
            simp only [Act.put, List.setIfInBounds_toArray, List.set_cons_zero, List.set_cons_succ]
            refine wpList_run (v := .bool false) (wanted_none rfl) (gx_assign rfl rfl) ?_
            simp only [Act.put, List.setIfInBounds_toArray, List.set_cons_zero, List.set_cons_succ]
            go_upto_region 4 with fail
            refine wp_region_lit ?_
            refine wpList_run (v := .bool false) (wanted_none rfl) (exec_move rfl rfl) ?_
            simp only [Act.put, List.setIfInBounds_toArray, List.set_cons_zero, List.set_cons_succ]
            refine wpList_run (v := .bool true) (wanted_none rfl) (ix_not (b := false) rfl rfl) ?_
            simp only [Act.put, List.setIfInBounds_toArray, List.set_cons_zero, List.set_cons_succ]
            go_upto_region 5 with fail
            refine wp_region_lit ?_
            refine wpList_run (v := .int .i64 0) (wanted_none rfl) (gx_assign rfl rfl) ?_
            simp only [Act.put, List.setIfInBounds_toArray, List.set_cons_zero, List.set_cons_succ]
            refine wpList_run (v := .int .i64 0) (wanted_none rfl) (gx_assign rfl rfl) ?_
            simp only [Act.put, List.setIfInBounds_toArray, List.set_cons_zero, List.set_cons_succ]
            refine wpList_run (v := .int .i64 160) (wanted_none rfl) (gx_assign rfl rfl) ?_
            simp only [Act.put, List.setIfInBounds_toArray, List.set_cons_zero, List.set_cons_succ]
            go_wp2_with fail
            go_ret3
            rw [HN.out]
            exact ⟨rfl, rfl⟩
          · refine wpList_run (v := .tuple #[.int .i64 a, .int .i64 b, .bool true]) (wanted_none rfl) (exec_move rfl rfl) ?_
            simp only [Act.put, List.setIfInBounds_toArray, List.set_cons_zero, List.set_cons_succ]
            refine wpList_run (v := .int .i64 a) (wanted_none rfl) (ix_extract rfl rfl rfl) ?_
            simp only [Act.put, List.setIfInBounds_toArray, List.set_cons_zero, List.set_cons_succ]
            refine wpList_run (v := .int .i64 b) (wanted_none rfl) (ix_extract rfl rfl rfl) ?_
            simp only [Act.put, List.setIfInBounds_toArray, List.set_cons_zero, List.set_cons_succ]
            refine wpList_run (v := .bool true) (wanted_none rfl) (ix_extract rfl rfl rfl) ?_
            simp only [Act.put, List.setIfInBounds_toArray, List.set_cons_zero, List.set_cons_succ]
            refine wpList_run (v := .int .i64 a) (wanted_none rfl) (gx_assign rfl rfl) ?_
            simp only [Act.put, List.setIfInBounds_toArray, List.set_cons_zero, List.set_cons_succ]
            refine wpList_run (v := .int .i64 b) (wanted_none rfl) (gx_assign rfl rfl) ?_
            simp only [Act.put, List.setIfInBounds_toArray, List.set_cons_zero, List.set_cons_succ]
            refine wpList_run (v := .bool true) (wanted_none rfl) (gx_assign rfl rfl) ?_
            simp only [Act.put, List.setIfInBounds_toArray, List.set_cons_zero, List.set_cons_succ]
            go_upto_region 4 with fail
            refine wp_region_lit ?_
            refine wpList_run (v := .bool true) (wanted_none rfl) (exec_move rfl rfl) ?_
            simp only [Act.put, List.setIfInBounds_toArray, List.set_cons_zero, List.set_cons_succ]
            refine wpList_run (v := .bool false) (wanted_none rfl) (ix_not (b := true) rfl rfl) ?_
            simp only [Act.put, List.setIfInBounds_toArray, List.set_cons_zero, List.set_cons_succ]
            go_upto_region 6 with fail
            refine wp_region_lit ?_
            refine wpList_run (v := .int .i64 a) (wanted_none rfl) (exec_move rfl rfl) ?_
            simp only [Act.put, List.setIfInBounds_toArray, List.set_cons_zero, List.set_cons_succ]
            refine wpList_run (v := .int .i64 b) (wanted_none rfl) (exec_move rfl rfl) ?_
            simp only [Act.put, List.setIfInBounds_toArray, List.set_cons_zero, List.set_cons_succ]
            refine wpList_run (v := .int .i64 a) (wanted_none rfl) (gx_assign rfl rfl) ?_
            simp only [Act.put, List.setIfInBounds_toArray, List.set_cons_zero, List.set_cons_succ]
            refine wpList_run (v := .int .i64 b) (wanted_none rfl) (gx_assign rfl rfl) ?_
            simp only [Act.put, List.setIfInBounds_toArray, List.set_cons_zero, List.set_cons_succ]
            refine wpList_run (v := .int .i64 0) (wanted_none rfl) (gx_assign rfl rfl) ?_
            simp only [Act.put, List.setIfInBounds_toArray, List.set_cons_zero, List.set_cons_succ]
            go_wp2_with fail
            go_ret3
            rw [HN.out]
            exact ⟨rfl, rfl⟩
end Go.Proofs.Ytjjbmnoamcfdgaa
