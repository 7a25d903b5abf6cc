/-
  Several texts in one file, in their order:
  - slices.Insert of one element, slices.Delete and slices.Clone at index's rows (P): the walks. No conditions.
  - Index: how keys are compared; the search in a row of pairs. No conditions.
  - Index: slices.BinarySearchFunc at a node's pairs. No conditions.
  - slices.Insert of one element, slices.Delete and slices.Clone at index's rows (K): the walks. No conditions.
  - Index: nodes in memory, as a map from blocks to what they hold; what a call does to them. No conditions.
  - Index: a pair, a kid taken out of a node. No conditions.
  - Index: a node that is too full in two. No conditions.
  - Index: a pair lent by a neighbour. No conditions.
-/
import Derived.Test.YtmlkdkbpbleilaaJa0
namespace Go.Proofs.Ytmlkdkbpbleilaa
open Go.RowKit
set_option linter.unusedVariables false
set_option linter.unusedSimpArgs false
theorem exec_overP {a : Act} {o : Oper} {W : World} {x y : Operand} {u v : Value} {ts : Array TypeId} (ho : o.op = .call { callee := .value (.func 50), args := #[x, y], argTypes := ts }) (hx : a.eval x = u) (hy : a.eval y = v)
    (hr : (Extern.SlicesOverlaps.overlaps #[59, 59] #[4] #[u, v]).run Try.prog W = .ok (.bool false) W) : (execOp a.eval o).run Try.prog W = .ok (.value (.bool false)) W := by
  have h : (callFunc 50 #[u, v]).run Try.prog W = .ok (.value (.bool false)) W := by
    rw [run_callFunc_extern Try.func50 (by kernel_rfl) (by kernel_rfl) (by kernel_rfl) (e := Extern.SlicesOverlaps.overlaps #[59, 59] #[4]) (by kernel_rfl), hr]
    rfl
  unfold execOp
  simp only [ho, resolve, invoke, Sem.run_bind, Sem.run_pure, Result.andThen_ok, List.map_toArray, List.map_cons, List.map_nil, hx, hy]
  rw [show a.eval (Operand.func 50) = .func (.func 50) #[] #[] from rfl]
  simp [Deferred.ofValue, h]
set_option maxRecDepth 20000 in
set_option maxHeartbeats 2000000 in
theorem InsertP {w : World} {A : Option Addr} {n c i g : Nat} {rs : List (List Value)} {x : List Value} (hown : Orw w 0 65 2 (.slice A n c) rs) (hn : rs.length = n) (hi : i ≤ n) (hx : Blk w g 65 x.toArray) (hxk : x.length = 2) (hx1 : ∀ u ∈ x, u.oneCell' = true)
    (hg : (Value.slice A n c).ownBlock ≠ some g) (hsz : n ≤ 100000) :
    Calls Try.prog 37 #[.slice A n c, .int .i64 (i : Int), .slice (some ⟨g, 0, none⟩) 1 1] w fun e w' =>
      ∃ v', e = .returned v' ∧ Orw w' 0 65 2 v' (rs.take i ++ x :: rs.drop i) ∧ RowTo w (.slice A n c) w' v' := by
  obtain ⟨A9, c9, e9, hnc, hcm, hz, _⟩ := hown.form
  injection e9 with e1 e2 e3
  subst e1 e3
  rw [hn] at hnc
  clear e2
  have HO := Lib.hid hown
  have HN := Lib.hid hn
  have HI := Lib.hid hi
  have HX := Lib.hid hx
  have HXK := Lib.hid hxk
  have HX1 := Lib.hid hx1
  have HG := Lib.hid hg
  have HS := Lib.hid hsz
  have HNC := Lib.hid hnc
  have HCM := Lib.hid hcm
  have y1 : (n : Int) ≤ 100000 := by omega
  have y2 : (i : Int) ≤ (n : Int) := by omega
  have y3 : (c : Int) ≤ 9223372036854775807 := by unfold maxLen at hcm; omega
  clear hown hn hi hx hxk hx1 hg hsz hnc hcm hz
  go_enter Try.func37, Try.ntmps37
  go_upto_region 1 with fail
  refine wp_region_lit ?_
  refine wpList_run (v := .slice A n c) rfl (exec_move rfl rfl) ?_
  simp only [Act.put, List.setIfInBounds_toArray, List.set_cons_zero, List.set_cons_succ]
  refine wpList_run (v := .int .i64 (i : Int)) rfl (exec_move rfl rfl) ?_
  simp only [Act.put, List.setIfInBounds_toArray, List.set_cons_zero, List.set_cons_succ]
  refine wpList_run (v := .slice (fromK 2 A c i) (n - i) (c - i)) rfl (exec_slice rfl rfl rfl rfl rfl (sl_from elmP A n c i HI.out HNC.out _)) ?_
  simp only [Act.put, List.setIfInBounds_toArray, List.set_cons_zero, List.set_cons_succ]
  go_upto_region 2 with fail
  refine wp_region_lit ?_
  refine wpList_run (v := .slice (some ⟨g, 0, none⟩) 1 1) rfl (exec_move rfl rfl) ?_
  simp only [Act.put, List.setIfInBounds_toArray, List.set_cons_zero, List.set_cons_succ]
  refine wpList_run (v := .int .i64 1) rfl (gx_len rfl rfl Try.underlying59) ?_
  simp only [Act.put, List.setIfInBounds_toArray, List.set_cons_zero, List.set_cons_succ]
  refine wpList_run (v := .int .i64 1) rfl (gx_assign rfl rfl) ?_
  simp only [Act.put, List.setIfInBounds_toArray, List.set_cons_zero, List.set_cons_succ]
  go_upto_region 3 with fail
  refine wp_region_lit ?_
  refine wpList_run (v := .int .i64 1) rfl (exec_move rfl rfl) ?_
  simp only [Act.put, List.setIfInBounds_toArray, List.set_cons_zero, List.set_cons_succ]
  refine wpList_run (v := .bool false) rfl (ix_eql rfl rfl rfl (by decide)) ?_
  simp only [Act.put, List.setIfInBounds_toArray, List.set_cons_zero, List.set_cons_succ]
  go_upto_region 5 with fail
  refine wp_region_lit ?_
  refine wpList_run (v := .slice A n c) rfl (exec_move rfl rfl) ?_
  simp only [Act.put, List.setIfInBounds_toArray, List.set_cons_zero, List.set_cons_succ]
  refine wpList_run (v := .int .i64 (n : Int)) rfl (gx_len rfl rfl Try.underlying59) ?_
  simp only [Act.put, List.setIfInBounds_toArray, List.set_cons_zero, List.set_cons_succ]
  refine wpList_run (v := .int .i64 (n : Int)) rfl (gx_assign rfl rfl) ?_
  simp only [Act.put, List.setIfInBounds_toArray, List.set_cons_zero, List.set_cons_succ]
  go_upto_region 6 with fail
  refine wp_region_lit ?_
  refine wpList_run (v := .int .i64 (i : Int)) rfl (exec_move rfl rfl) ?_
  simp only [Act.put, List.setIfInBounds_toArray, List.set_cons_zero, List.set_cons_succ]
  refine wpList_run (v := .int .i64 (n : Int)) rfl (exec_move rfl rfl) ?_
  simp only [Act.put, List.setIfInBounds_toArray, List.set_cons_zero, List.set_cons_succ]
  by_cases hin : i = n
  · refine wpList_run (v := .bool true) rfl (ix_eql rfl rfl rfl (decide_eq_true (by omega))) ?_
    simp only [Act.put, List.setIfInBounds_toArray, List.set_cons_zero, List.set_cons_succ]
    subst hin
    obtain ⟨A7, c7, w7, hrun, hrow, hgr, hob⟩ := orw_grow elmP (ty := 59) (c := 1) HO.out (Nat.zero_le _) (rws_blk HX.out HXK.out) (Fit.one HXK.out HX1.out) (fun h => by cases h) (by have := HS.out; rw [HN.out]; omega)
    rw [HN.out] at hrun hrow hob
    have HR7 := Lib.hid hrow
    have HT7 := Lib.hid (show RowTo w (.slice A i c) w7 (.slice A7 (i + 1) c7) from ⟨(Turn.refl _ w).grown hgr fun g e _ => e, fun b hb => by
      rcases hob with h | h
      · exact .inl (h.symm.trans hb)
      · rw [h] at hb
        exact .inr (by have := Option.some.inj hb; omega)⟩)
    have HE := Lib.hid (show rs.take i ++ x :: rs.drop i = rs ++ [x] from by rw [List.take_of_length_le (by rw [HN.out]; exact Nat.le_refl _), List.drop_of_length_le (by rw [HN.out]; exact Nat.le_refl _)])
    clear hrow hgr hob
    go_upto_region 7 with fail
    refine wp_region_lit ?_
    refine wpList_run (v := .slice A i c) rfl (exec_move rfl rfl) ?_
    simp only [Act.put, List.setIfInBounds_toArray, List.set_cons_zero, List.set_cons_succ]
    refine wpList_run (v := .slice (some ⟨g, 0, none⟩) 1 1) rfl (exec_move rfl rfl) ?_
    simp only [Act.put, List.setIfInBounds_toArray, List.set_cons_zero, List.set_cons_succ]
    refine wpList_run (v := .slice A7 (i + 1) c7) (w' := w7) rfl (exec_append rfl rfl rfl hrun) ?_
    simp only [Act.put, List.setIfInBounds_toArray, List.set_cons_zero, List.set_cons_succ]
    refine wpList_run (v := .slice A7 (i + 1) c7) rfl (gx_assign rfl rfl) ?_
    simp only [Act.put, List.setIfInBounds_toArray, List.set_cons_zero, List.set_cons_succ]
    clear hrun
    go_wp2_with fail
    go_ret
    rw [HE.out]
    exact ⟨_, rfl, HR7.out, HT7.out⟩
  · refine wpList_run (v := .bool false) rfl (ix_eql rfl rfl rfl (decide_eq_false (by omega))) ?_
    simp only [Act.put, List.setIfInBounds_toArray, List.set_cons_zero, List.set_cons_succ]
    have hlt : i < n := by omega
    have y4 : (i : Int) < (n : Int) := by omega
    have HLT := Lib.hid hlt
    clear hin hlt
    obtain ⟨b, rfl⟩ : ∃ b, A = some ⟨b, 0, none⟩ := by
      obtain ⟨b, c0, e, _⟩ := HO.out.some_ (by have := HLT.out; have := HN.out; omega)
      injection e with e _ _
      exact ⟨b, e⟩
    have HBG := Lib.hid (show b ≠ g from fun e => HG.out (by rw [e]; rfl))
    go_upto_region 8 with fail
    refine wp_region_lit ?_
    refine wpList_run (v := .int .i64 (n : Int)) rfl (exec_move rfl rfl) ?_
    simp only [Act.put, List.setIfInBounds_toArray, List.set_cons_zero, List.set_cons_succ]
    refine wpList_run (v := .int .i64 1) rfl (exec_move rfl rfl) ?_
    simp only [Act.put, List.setIfInBounds_toArray, List.set_cons_zero, List.set_cons_succ]
    refine wpList_run (v := .int .i64 ((n + 1 : Nat) : Int)) rfl (ix_add rfl rfl rfl (by omega) (by omega)) ?_
    simp only [Act.put, List.setIfInBounds_toArray, List.set_cons_zero, List.set_cons_succ]
    refine wpList_run (v := .slice (some ⟨b, 0, none⟩) n c) rfl (exec_move rfl rfl) ?_
    simp only [Act.put, List.setIfInBounds_toArray, List.set_cons_zero, List.set_cons_succ]
    refine wpList_run (v := .int .i64 (c : Int)) rfl (gx_cap rfl rfl Try.underlying59) ?_
    simp only [Act.put, List.setIfInBounds_toArray, List.set_cons_zero, List.set_cons_succ]
    by_cases hr : c < n + 1
    · refine wpList_run (v := .bool true) rfl (ix_gtr rfl rfl rfl (decide_eq_true (by omega))) ?_
      simp only [Act.put, List.setIfInBounds_toArray, List.set_cons_zero, List.set_cons_succ]
      obtain ⟨b9, e9, g2, c2, w2, hgw, hap, hg2, hm2, w3, hc3, w4, hc4, hrow, ht4⟩ := insK_grow elmP (ty := 3) (tn := 3) Try.underlying3 HO.out HLT.out HX.out HXK.out HX1.out hr (by have := HS.out; omega)
      obtain rfl : b = b9 := by injection e9 with e9; injection e9
      clear e9
      have HAP := Lib.hid hap
      have HC3 := Lib.hid hc3
      have HC4 := Lib.hid hc4
      have HR4 := Lib.hid hrow
      have HG2 := Lib.hid hg2
      have HT4 := Lib.hid (show RowTo w (.slice (some ⟨b, 0, none⟩) n c) w4 (.slice (some ⟨g2, 0, none⟩) (n + 1) c2) from ⟨ht4.mono fun _ _ e => e.elim, fun b' hb => .inr (by have hb : some g2 = some b' := hb; have := Option.some.inj hb; omega)⟩)
      have y5 : (n : Int) + 1 ≤ (c2 : Int) := by omega
      have y6 : (c2 : Int) ≤ 9223372036854775807 := by unfold maxLen at hm2; omega
      clear hap hc3 hc4 hrow ht4 hg2 hm2 hr hgw
      go_upto_region 9 with fail
      refine wp_region_lit ?_
      refine wpList_run (v := .slice (some ⟨b, 0, none⟩) n c) rfl (exec_move rfl rfl) ?_
      simp only [Act.put, List.setIfInBounds_toArray, List.set_cons_zero, List.set_cons_succ]
      refine wpList_run (v := .int .i64 (i : Int)) rfl (exec_move rfl rfl) ?_
      simp only [Act.put, List.setIfInBounds_toArray, List.set_cons_zero, List.set_cons_succ]
      refine wpList_run (v := .slice (some ⟨b, 0, none⟩) i c) rfl (exec_slice rfl rfl rfl rfl rfl (sl_to elmP _ n c i (by have := HNC.out; omega) _)) ?_
      simp only [Act.put, List.setIfInBounds_toArray, List.set_cons_zero, List.set_cons_succ]
      refine wpList_run (v := .int .i64 (n : Int)) rfl (exec_move rfl rfl) ?_
      simp only [Act.put, List.setIfInBounds_toArray, List.set_cons_zero, List.set_cons_succ]
      refine wpList_run (v := .int .i64 1) rfl (exec_move rfl rfl) ?_
      simp only [Act.put, List.setIfInBounds_toArray, List.set_cons_zero, List.set_cons_succ]
      refine wpList_run (v := .int .i64 ((n + 1 : Nat) : Int)) rfl (ix_add rfl rfl rfl (by omega) (by omega)) ?_
      simp only [Act.put, List.setIfInBounds_toArray, List.set_cons_zero, List.set_cons_succ]
      refine wpList_run (v := .int .i64 (i : Int)) rfl (exec_move rfl rfl) ?_
      simp only [Act.put, List.setIfInBounds_toArray, List.set_cons_zero, List.set_cons_succ]
      refine wpList_run (v := .int .i64 ((n + 1 - i : Nat) : Int)) rfl (ix_sub rfl rfl rfl (by omega) (by omega)) ?_
      simp only [Act.put, List.setIfInBounds_toArray, List.set_cons_zero, List.set_cons_succ]
      refine wpList_run (v := .slice (some ⟨g2, 0, none⟩) (n + 1) c2) (w' := w2) rfl (exec_appz rfl rfl rfl HAP.out) ?_
      simp only [Act.put, List.setIfInBounds_toArray, List.set_cons_zero, List.set_cons_succ]
      refine wpList_run (v := .slice (some ⟨g2, 0, none⟩) (n + 1) c2) rfl (gx_assign rfl rfl) ?_
      simp only [Act.put, List.setIfInBounds_toArray, List.set_cons_zero, List.set_cons_succ]
      go_upto_region 10 with fail
      refine wp_region_lit ?_
      refine wpList_run (v := .slice (some ⟨g2, 0, none⟩) (n + 1) c2) rfl (exec_move rfl rfl) ?_
      simp only [Act.put, List.setIfInBounds_toArray, List.set_cons_zero, List.set_cons_succ]
      refine wpList_run (v := .int .i64 (i : Int)) rfl (exec_move rfl rfl) ?_
      simp only [Act.put, List.setIfInBounds_toArray, List.set_cons_zero, List.set_cons_succ]
      refine wpList_run (v := .slice (some ⟨g2, i * 2, none⟩) (n + 1 - i) (c2 - i)) rfl (exec_slice rfl rfl rfl rfl rfl ((sl_from elmP _ (n + 1) c2 i (by omega) HG2.out _).trans (by rw [fromK_at (by omega), Nat.zero_add]))) ?_
      simp only [Act.put, List.setIfInBounds_toArray, List.set_cons_zero, List.set_cons_succ]
      refine wpList_run (v := .slice (some ⟨g, 0, none⟩) 1 1) rfl (exec_move rfl rfl) ?_
      simp only [Act.put, List.setIfInBounds_toArray, List.set_cons_zero, List.set_cons_succ]
      refine wpList_run (v := goInt (Nat.min 1 (n + 1 - i))) (w' := w3) rfl (exec_copy rfl rfl rfl HC3.out) ?_
      simp only [Act.put, List.setIfInBounds_toArray, List.set_cons_zero, List.set_cons_succ]
      go_upto_region 11 with fail
      refine wp_region_alw (fun _ => True) (by kernel_rfl) ?_
      have hS0 : True := trivial
      refine alw_take (i := 0) (v := .slice (some ⟨g2, 0, none⟩) (n + 1) c2) rfl (by kernel_rfl) (by kernel_rfl) (fun _ _ _ h => h) (.inl ⟨by rfl, fun W hW => exec_move rfl rfl⟩) hS0 ?_
      simp only [Act.put, List.setIfInBounds_toArray, List.set_cons_zero, List.set_cons_succ]
      refine alw_take (i := 1) (v := .int .i64 (i : Int)) rfl (by kernel_rfl) (by kernel_rfl) (fun _ _ _ h => h) (.inl ⟨by rfl, fun W hW => exec_move rfl rfl⟩) hS0 ?_
      simp only [Act.put, List.setIfInBounds_toArray, List.set_cons_zero, List.set_cons_succ]
      refine alw_take (i := 2) (v := .int .i64 1) rfl (by kernel_rfl) (by kernel_rfl) (fun _ _ _ h => h) (.inl ⟨by rfl, fun W hW => exec_move rfl rfl⟩) hS0 ?_
      simp only [Act.put, List.setIfInBounds_toArray, List.set_cons_zero, List.set_cons_succ]
      refine alw_take (i := 3) (v := .int .i64 ((i + 1 : Nat) : Int)) rfl (by kernel_rfl) (by kernel_rfl) (fun _ _ _ h => h) (.inl ⟨by rfl, fun W hW => ix_add rfl rfl rfl (by omega) (by omega)⟩) hS0 ?_
      simp only [Act.put, List.setIfInBounds_toArray, List.set_cons_zero, List.set_cons_succ]
      refine alw_take (i := 4) (v := .slice (some ⟨g2, (i + 1) * 2, none⟩) (n + 1 - (i + 1)) (c2 - (i + 1))) rfl (by kernel_rfl) (by kernel_rfl) (fun _ _ _ h => h) (.inl ⟨by rfl, fun W hW => exec_slice rfl rfl rfl rfl rfl ((sl_from elmP _ (n + 1) c2 (i + 1) (by omega) HG2.out _).trans (by by_cases hq : c2 = i + 1; exact absurd hq (by omega); rw [fromK_at (by omega), Nat.zero_add]))⟩) hS0 ?_
      simp only [Act.put, List.setIfInBounds_toArray, List.set_cons_zero, List.set_cons_succ]
      refine alw_take (i := 5) (v := .slice (some ⟨b, 0, none⟩) n c) rfl (by kernel_rfl) (by kernel_rfl) (fun _ _ _ h => h) (.inl ⟨by rfl, fun W hW => exec_move rfl rfl⟩) hS0 ?_
      simp only [Act.put, List.setIfInBounds_toArray, List.set_cons_zero, List.set_cons_succ]
      refine alw_take (i := 6) (v := .int .i64 (i : Int)) rfl (by kernel_rfl) (by kernel_rfl) (fun _ _ _ h => h) (.inl ⟨by rfl, fun W hW => exec_move rfl rfl⟩) hS0 ?_
      simp only [Act.put, List.setIfInBounds_toArray, List.set_cons_zero, List.set_cons_succ]
      refine alw_take (i := 7) (v := .slice (some ⟨b, i * 2, none⟩) (n - i) (c - i)) rfl (by kernel_rfl) (by kernel_rfl) (fun _ _ _ h => h) (.inl ⟨by rfl, fun W hW => exec_slice rfl rfl rfl rfl rfl ((sl_from elmP _ n c i (by omega) HNC.out _).trans (by rw [fromK_at (by have := HNC.out; omega), Nat.zero_add]))⟩) hS0 ?_
      simp only [Act.put, List.setIfInBounds_toArray, List.set_cons_zero, List.set_cons_succ]
      refine alw_step (i := 8) (by kernel_rfl) rfl rfl ?_
      intro K1 HK1
      refine wp_run (exec_copy rfl rfl rfl HC4.out) ?_
      refine HK1.out _ _ ⟨trivial, ?_⟩
      clear HK1
      simp only [Act.put, List.setIfInBounds_toArray, List.set_cons_zero, List.set_cons_succ]
      refine alw_done rfl ?_
      clear hS0
      refine NoPanic.normal ?_
      go_upto_region 12 with fail
      refine wp_region_lit ?_
      refine wpList_run (v := .slice (some ⟨g2, 0, none⟩) (n + 1) c2) rfl (exec_move rfl rfl) ?_
      simp only [Act.put, List.setIfInBounds_toArray, List.set_cons_zero, List.set_cons_succ]
      refine wpList_run (v := .slice (some ⟨g2, 0, none⟩) (n + 1) c2) rfl (gx_assign rfl rfl) ?_
      simp only [Act.put, List.setIfInBounds_toArray, List.set_cons_zero, List.set_cons_succ]
      go_wp2_with fail
      go_ret
      exact ⟨_, rfl, HR4.out, HT4.out⟩
    · refine wpList_run (v := .bool false) rfl (ix_gtr rfl rfl rfl (decide_eq_false (by omega))) ?_
      simp only [Act.put, List.setIfInBounds_toArray, List.set_cons_zero, List.set_cons_succ]
      have hr2 : n + 1 ≤ c := by omega
      obtain ⟨hov, w3, hc3, w4, hc4, hrow, ht4⟩ := insK_room elmP (ty := 3) HO.out HLT.out HX.out HXK.out HX1.out HBG.out hr2 4
      have HOV := Lib.hid hov
      have HC3 := Lib.hid hc3
      have HC4 := Lib.hid hc4
      have HR4 := Lib.hid hrow
      have HT4 := Lib.hid (show RowTo w (.slice (some ⟨b, 0, none⟩) n c) w4 (.slice (some ⟨b, 0, none⟩) (n + 1) c) from ⟨ht4.mono fun j _ e => by
        have e : j = b := e
        rw [e]; rfl, fun b' hb => .inl hb⟩)
      have HR2 := Lib.hid hr2
      clear hov hc3 hc4 hrow ht4 hr hr2
      go_upto_region 13 with fail
      refine wp_region_lit ?_
      refine wpList_run (v := .slice (some ⟨b, 0, none⟩) n c) rfl (exec_move rfl rfl) ?_
      simp only [Act.put, List.setIfInBounds_toArray, List.set_cons_zero, List.set_cons_succ]
      refine wpList_run (v := .int .i64 (n : Int)) rfl (exec_move rfl rfl) ?_
      simp only [Act.put, List.setIfInBounds_toArray, List.set_cons_zero, List.set_cons_succ]
      refine wpList_run (v := .int .i64 1) rfl (exec_move rfl rfl) ?_
      simp only [Act.put, List.setIfInBounds_toArray, List.set_cons_zero, List.set_cons_succ]
      refine wpList_run (v := .int .i64 ((n + 1 : Nat) : Int)) rfl (ix_add rfl rfl rfl (by omega) (by omega)) ?_
      simp only [Act.put, List.setIfInBounds_toArray, List.set_cons_zero, List.set_cons_succ]
      refine wpList_run (v := .slice (some ⟨b, 0, none⟩) (n + 1) c) rfl (exec_slice rfl rfl rfl rfl rfl (sl_to elmP _ n c (n + 1) HR2.out _)) ?_
      simp only [Act.put, List.setIfInBounds_toArray, List.set_cons_zero, List.set_cons_succ]
      refine wpList_run (v := .slice (some ⟨b, 0, none⟩) (n + 1) c) rfl (gx_assign rfl rfl) ?_
      simp only [Act.put, List.setIfInBounds_toArray, List.set_cons_zero, List.set_cons_succ]
      go_upto_region 14 with fail
      refine wp_region_lit ?_
      refine wpList_run (v := .slice (some ⟨g, 0, none⟩) 1 1) rfl (exec_move rfl rfl) ?_
      simp only [Act.put, List.setIfInBounds_toArray, List.set_cons_zero, List.set_cons_succ]
      refine wpList_run (v := .slice (some ⟨b, 0, none⟩) (n + 1) c) rfl (exec_move rfl rfl) ?_
      simp only [Act.put, List.setIfInBounds_toArray, List.set_cons_zero, List.set_cons_succ]
      refine wpList_run (v := .int .i64 (i : Int)) rfl (exec_move rfl rfl) ?_
      simp only [Act.put, List.setIfInBounds_toArray, List.set_cons_zero, List.set_cons_succ]
      refine wpList_run (v := .int .i64 1) rfl (exec_move rfl rfl) ?_
      simp only [Act.put, List.setIfInBounds_toArray, List.set_cons_zero, List.set_cons_succ]
      refine wpList_run (v := .int .i64 ((i + 1 : Nat) : Int)) rfl (ix_add rfl rfl rfl (by omega) (by omega)) ?_
      simp only [Act.put, List.setIfInBounds_toArray, List.set_cons_zero, List.set_cons_succ]
      refine wpList_run (v := .slice (some ⟨b, (i + 1) * 2, none⟩) (n + 1 - (i + 1)) (c - (i + 1))) rfl (exec_slice rfl rfl rfl rfl rfl ((sl_from elmP _ (n + 1) c (i + 1) (by omega) HR2.out _).trans (by have := HR2.out; rw [fromK_at (by omega), Nat.zero_add]))) ?_
      simp only [Act.put, List.setIfInBounds_toArray, List.set_cons_zero, List.set_cons_succ]
      refine wpList_run (v := .bool false) rfl (exec_overP rfl rfl rfl (HOV.out _ _)) ?_
      simp only [Act.put, List.setIfInBounds_toArray, List.set_cons_zero, List.set_cons_succ]
      refine wpList_run (v := .bool true) rfl (ix_not (b := false) rfl rfl) ?_
      simp only [Act.put, List.setIfInBounds_toArray, List.set_cons_zero, List.set_cons_succ]
      go_upto_region 15 with fail
      refine wp_region_alw (fun _ => True) (by kernel_rfl) ?_
      have hS0 : True := trivial
      refine alw_take (i := 0) (v := .slice (some ⟨b, 0, none⟩) (n + 1) c) rfl (by kernel_rfl) (by kernel_rfl) (fun _ _ _ h => h) (.inl ⟨by rfl, fun W hW => exec_move rfl rfl⟩) hS0 ?_
      simp only [Act.put, List.setIfInBounds_toArray, List.set_cons_zero, List.set_cons_succ]
      refine alw_take (i := 1) (v := .int .i64 (i : Int)) rfl (by kernel_rfl) (by kernel_rfl) (fun _ _ _ h => h) (.inl ⟨by rfl, fun W hW => exec_move rfl rfl⟩) hS0 ?_
      simp only [Act.put, List.setIfInBounds_toArray, List.set_cons_zero, List.set_cons_succ]
      refine alw_take (i := 2) (v := .int .i64 1) rfl (by kernel_rfl) (by kernel_rfl) (fun _ _ _ h => h) (.inl ⟨by rfl, fun W hW => exec_move rfl rfl⟩) hS0 ?_
      simp only [Act.put, List.setIfInBounds_toArray, List.set_cons_zero, List.set_cons_succ]
      refine alw_take (i := 3) (v := .int .i64 ((i + 1 : Nat) : Int)) rfl (by kernel_rfl) (by kernel_rfl) (fun _ _ _ h => h) (.inl ⟨by rfl, fun W hW => ix_add rfl rfl rfl (by omega) (by omega)⟩) hS0 ?_
      simp only [Act.put, List.setIfInBounds_toArray, List.set_cons_zero, List.set_cons_succ]
      refine alw_take (i := 4) (v := .slice (some ⟨b, (i + 1) * 2, none⟩) (n + 1 - (i + 1)) (c - (i + 1))) rfl (by kernel_rfl) (by kernel_rfl) (fun _ _ _ h => h) (.inl ⟨by rfl, fun W hW => exec_slice rfl rfl rfl rfl rfl ((sl_from elmP _ (n + 1) c (i + 1) (by omega) HR2.out _).trans (by have := HR2.out; rw [fromK_at (by omega), Nat.zero_add]))⟩) hS0 ?_
      simp only [Act.put, List.setIfInBounds_toArray, List.set_cons_zero, List.set_cons_succ]
      refine alw_take (i := 5) (v := .slice (some ⟨b, 0, none⟩) (n + 1) c) rfl (by kernel_rfl) (by kernel_rfl) (fun _ _ _ h => h) (.inl ⟨by rfl, fun W hW => exec_move rfl rfl⟩) hS0 ?_
      simp only [Act.put, List.setIfInBounds_toArray, List.set_cons_zero, List.set_cons_succ]
      refine alw_take (i := 6) (v := .int .i64 (i : Int)) rfl (by kernel_rfl) (by kernel_rfl) (fun _ _ _ h => h) (.inl ⟨by rfl, fun W hW => exec_move rfl rfl⟩) hS0 ?_
      simp only [Act.put, List.setIfInBounds_toArray, List.set_cons_zero, List.set_cons_succ]
      refine alw_take (i := 7) (v := .slice (some ⟨b, i * 2, none⟩) (n + 1 - i) (c - i)) rfl (by kernel_rfl) (by kernel_rfl) (fun _ _ _ h => h) (.inl ⟨by rfl, fun W hW => exec_slice rfl rfl rfl rfl rfl ((sl_from elmP _ (n + 1) c i (by omega) HR2.out _).trans (by have := HR2.out; rw [fromK_at (by omega), Nat.zero_add]))⟩) hS0 ?_
      simp only [Act.put, List.setIfInBounds_toArray, List.set_cons_zero, List.set_cons_succ]
      refine alw_step (i := 8) (by kernel_rfl) rfl rfl ?_
      intro K1 HK1
      refine wp_run (exec_copy rfl rfl rfl HC3.out) ?_
      refine HK1.out _ _ ⟨trivial, ?_⟩
      clear HK1
      simp only [Act.put, List.setIfInBounds_toArray, List.set_cons_zero, List.set_cons_succ]
      refine alw_done rfl ?_
      clear hS0
      refine NoPanic.normal ?_
      go_upto_region 16 with fail
      refine wp_region_lit ?_
      refine wpList_run (v := .slice (some ⟨b, 0, none⟩) (n + 1) c) rfl (exec_move rfl rfl) ?_
      simp only [Act.put, List.setIfInBounds_toArray, List.set_cons_zero, List.set_cons_succ]
      refine wpList_run (v := .int .i64 (i : Int)) rfl (exec_move rfl rfl) ?_
      simp only [Act.put, List.setIfInBounds_toArray, List.set_cons_zero, List.set_cons_succ]
      refine wpList_run (v := .slice (some ⟨b, i * 2, none⟩) (n + 1 - i) (c - i)) rfl (exec_slice rfl rfl rfl rfl rfl ((sl_from elmP _ (n + 1) c i (by omega) HR2.out _).trans (by have := HR2.out; rw [fromK_at (by omega), Nat.zero_add]))) ?_
      simp only [Act.put, List.setIfInBounds_toArray, List.set_cons_zero, List.set_cons_succ]
      refine wpList_run (v := .slice (some ⟨g, 0, none⟩) 1 1) rfl (exec_move rfl rfl) ?_
      simp only [Act.put, List.setIfInBounds_toArray, List.set_cons_zero, List.set_cons_succ]
      refine wpList_run (v := goInt (Nat.min 1 (n + 1 - i))) (w' := w4) rfl (exec_copy rfl rfl rfl HC4.out) ?_
      simp only [Act.put, List.setIfInBounds_toArray, List.set_cons_zero, List.set_cons_succ]
      go_upto_region 17 with fail
      refine wp_region_lit ?_
      refine wpList_run (v := .slice (some ⟨b, 0, none⟩) (n + 1) c) rfl (exec_move rfl rfl) ?_
      simp only [Act.put, List.setIfInBounds_toArray, List.set_cons_zero, List.set_cons_succ]
      refine wpList_run (v := .slice (some ⟨b, 0, none⟩) (n + 1) c) rfl (gx_assign rfl rfl) ?_
      simp only [Act.put, List.setIfInBounds_toArray, List.set_cons_zero, List.set_cons_succ]
      go_wp2_with fail
      go_ret
      exact ⟨_, rfl, HR4.out, HT4.out⟩
set_option maxRecDepth 20000 in
set_option maxHeartbeats 2000000 in
theorem DeleteP {w : World} {A : Option Addr} {n c i j : Nat} {rs : List (List Value)} (hown : Orw w 0 65 2 (.slice A n c) rs) (hn : rs.length = n) (hij : i ≤ j) (hj : j ≤ n) (hsz : n ≤ 100000) :
    Calls Try.prog 41 #[.slice A n c, .int .i64 (i : Int), .int .i64 (j : Int)] w fun e w' =>
      ∃ v', e = .returned v' ∧ Orw w' 0 65 2 v' (rs.take i ++ rs.drop j) ∧ RowTo w (.slice A n c) w' v' := by
  obtain ⟨A9, c9, e9, hnc, hcm, hz, _⟩ := hown.form
  injection e9 with e1 e2 e3
  subst e1 e3
  rw [hn] at hnc
  clear e2
  have HO := Lib.hid hown
  have HN := Lib.hid hn
  have HIJ := Lib.hid hij
  have HJ := Lib.hid hj
  have HS := Lib.hid hsz
  have HNC := Lib.hid hnc
  have HCM := Lib.hid hcm
  have y1 : (n : Int) ≤ 100000 := by omega
  have y2 : (j : Int) ≤ (n : Int) := by omega
  have y4 : (i : Int) ≤ (j : Int) := by omega
  have y3 : (c : Int) ≤ 9223372036854775807 := by unfold maxLen at hcm; omega
  obtain ⟨v3, h3⟩ := sl_three elmP A n c i j hij hj hnc w
  have H3 := Lib.hid h3
  clear hown hn hij hj hsz hnc hcm hz h3
  go_enter Try.func41, Try.ntmps41
  go_upto_region 1 with fail
  refine wp_region_lit ?_
  refine wpList_run (v := .slice A n c) rfl (exec_move rfl rfl) ?_
  simp only [Act.put, List.setIfInBounds_toArray, List.set_cons_zero, List.set_cons_succ]
  refine wpList_run (v := .int .i64 (i : Int)) rfl (exec_move rfl rfl) ?_
  simp only [Act.put, List.setIfInBounds_toArray, List.set_cons_zero, List.set_cons_succ]
  refine wpList_run (v := .int .i64 (j : Int)) rfl (exec_move rfl rfl) ?_
  simp only [Act.put, List.setIfInBounds_toArray, List.set_cons_zero, List.set_cons_succ]
  refine wpList_run (v := .slice A n c) rfl (exec_move rfl rfl) ?_
  simp only [Act.put, List.setIfInBounds_toArray, List.set_cons_zero, List.set_cons_succ]
  refine wpList_run (v := .int .i64 (n : Int)) rfl (gx_len rfl rfl Try.underlying59) ?_
  simp only [Act.put, List.setIfInBounds_toArray, List.set_cons_zero, List.set_cons_succ]
  refine wpList_run (v := v3) rfl (exec_slice rfl rfl rfl rfl rfl H3.out) ?_
  simp only [Act.put, List.setIfInBounds_toArray, List.set_cons_zero, List.set_cons_succ]
  go_upto_region 2 with fail
  refine wp_region_lit ?_
  refine wpList_run (v := .int .i64 (i : Int)) rfl (exec_move rfl rfl) ?_
  simp only [Act.put, List.setIfInBounds_toArray, List.set_cons_zero, List.set_cons_succ]
  refine wpList_run (v := .int .i64 (j : Int)) rfl (exec_move rfl rfl) ?_
  simp only [Act.put, List.setIfInBounds_toArray, List.set_cons_zero, List.set_cons_succ]
  by_cases hin : i = j
  · refine wpList_run (v := .bool true) rfl (ix_eql rfl rfl rfl (decide_eq_true (by omega))) ?_
    simp only [Act.put, List.setIfInBounds_toArray, List.set_cons_zero, List.set_cons_succ]
    subst hin
    have HE := Lib.hid (List.take_append_drop i rs)
    go_upto_region 3 with fail
    refine wp_region_lit ?_
    refine wpList_run (v := .slice A n c) rfl (exec_move rfl rfl) ?_
    simp only [Act.put, List.setIfInBounds_toArray, List.set_cons_zero, List.set_cons_succ]
    refine wpList_run (v := .slice A n c) rfl (gx_assign rfl rfl) ?_
    simp only [Act.put, List.setIfInBounds_toArray, List.set_cons_zero, List.set_cons_succ]
    go_wp2_with fail
    go_ret
    rw [HE.out]
    exact ⟨_, rfl, HO.out, Turn.refl _ _, fun b hb => .inl hb⟩
  · refine wpList_run (v := .bool false) rfl (ix_eql rfl rfl rfl (decide_eq_false (by omega))) ?_
    simp only [Act.put, List.setIfInBounds_toArray, List.set_cons_zero, List.set_cons_succ]
    have HLT := Lib.hid (show i < j from by omega)
    have y5 : (i : Int) < (j : Int) := by omega
    clear hin
    obtain ⟨b, rfl⟩ : ∃ b, A = some ⟨b, 0, none⟩ := by
      obtain ⟨b, c0, e, _⟩ := HO.out.some_ (by have := HLT.out; have := HJ.out; have := HN.out; omega)
      injection e with e _ _
      exact ⟨b, e⟩
    go_upto_region 4 with fail
    refine wp_region_lit ?_
    refine wpList_run (v := .slice (some ⟨b, 0, none⟩) n c) rfl (exec_move rfl rfl) ?_
    simp only [Act.put, List.setIfInBounds_toArray, List.set_cons_zero, List.set_cons_succ]
    refine wpList_run (v := .int .i64 (n : Int)) rfl (gx_len rfl rfl Try.underlying59) ?_
    simp only [Act.put, List.setIfInBounds_toArray, List.set_cons_zero, List.set_cons_succ]
    refine wpList_run (v := .int .i64 (n : Int)) rfl (gx_assign rfl rfl) ?_
    simp only [Act.put, List.setIfInBounds_toArray, List.set_cons_zero, List.set_cons_succ]
    go_upto_region 5 with fail
    obtain ⟨w5, hrun, hrow, ht5⟩ := delK_app elmP (ty := 59) (w := w.drew) (HO.out.still (Turn.refl nowhere w).drew) HIJ.out HJ.out
    have HRUN := Lib.hid hrun
    have HROW := Lib.hid hrow
    have HT5 := Lib.hid (show Turn (only b) w w5 from ((Turn.refl (only b) w).drew).trans ht5 fun _ _ e => e)
    clear hrun hrow ht5
    refine wp_region_alw (fun _ => True) (by kernel_rfl) ?_
    have hS0 : True := trivial
    refine alw_take (i := 0) (v := .slice (some ⟨b, 0, none⟩) n c) rfl (by kernel_rfl) (by kernel_rfl) (fun _ _ _ h => h) (.inl ⟨by rfl, fun W hW => exec_move rfl rfl⟩) hS0 ?_
    simp only [Act.put, List.setIfInBounds_toArray, List.set_cons_zero, List.set_cons_succ]
    refine alw_take (i := 1) (v := .int .i64 (i : Int)) rfl (by kernel_rfl) (by kernel_rfl) (fun _ _ _ h => h) (.inl ⟨by rfl, fun W hW => exec_move rfl rfl⟩) hS0 ?_
    simp only [Act.put, List.setIfInBounds_toArray, List.set_cons_zero, List.set_cons_succ]
    refine alw_take (i := 2) (v := .slice (some ⟨b, 0, none⟩) i c) rfl (by kernel_rfl) (by kernel_rfl) (fun _ _ _ h => h) (.inl ⟨by rfl, fun W hW => exec_slice rfl rfl rfl rfl rfl (sl_to elmP _ n c i (by have := HNC.out; omega) _)⟩) hS0 ?_
    simp only [Act.put, List.setIfInBounds_toArray, List.set_cons_zero, List.set_cons_succ]
    refine alw_take (i := 3) (v := .slice (some ⟨b, 0, none⟩) n c) rfl (by kernel_rfl) (by kernel_rfl) (fun _ _ _ h => h) (.inl ⟨by rfl, fun W hW => exec_move rfl rfl⟩) hS0 ?_
    simp only [Act.put, List.setIfInBounds_toArray, List.set_cons_zero, List.set_cons_succ]
    refine alw_take (i := 4) (v := .int .i64 (j : Int)) rfl (by kernel_rfl) (by kernel_rfl) (fun _ _ _ h => h) (.inl ⟨by rfl, fun W hW => exec_move rfl rfl⟩) hS0 ?_
    simp only [Act.put, List.setIfInBounds_toArray, List.set_cons_zero, List.set_cons_succ]
    refine alw_take (i := 5) (v := .slice (fromK 2 (some ⟨b, 0, none⟩) c j) (n - j) (c - j)) rfl (by kernel_rfl) (by kernel_rfl) (fun _ _ _ h => h) (.inl ⟨by rfl, fun W hW => exec_slice rfl rfl rfl rfl rfl (sl_from elmP _ n c j HJ.out HNC.out _)⟩) hS0 ?_
    simp only [Act.put, List.setIfInBounds_toArray, List.set_cons_zero, List.set_cons_succ]
    refine alw_step (i := 6) (by kernel_rfl) rfl rfl ?_
    intro K1 HK1
    refine wp_run (exec_append rfl rfl rfl HRUN.out) ?_
    refine HK1.out _ _ ⟨trivial, ?_⟩
    clear HK1
    simp only [Act.put, List.setIfInBounds_toArray, List.set_cons_zero, List.set_cons_succ]
    refine alw_take (i := 7) (v := .slice (some ⟨b, 0, none⟩) (i + (n - j)) c) rfl (by kernel_rfl) (by kernel_rfl) (fun _ _ _ h => h) (.inl ⟨by rfl, fun W hW => gx_assign rfl rfl⟩) hS0 ?_
    simp only [Act.put, List.setIfInBounds_toArray, List.set_cons_zero, List.set_cons_succ]
    refine alw_done rfl ?_
    clear hS0
    refine NoPanic.normal ?_
    have HM := Lib.hid (show i + (n - j) ≤ n from by have := HIJ.out; have := HJ.out; omega)
    obtain ⟨m, hm⟩ : ∃ m, m = i + (n - j) := ⟨_, rfl⟩
    rw [← hm] at HM HROW ⊢
    clear hm
    obtain ⟨cur, hcur, hcs, htk, hrl, hmc, _, _⟩ := orw_block HROW.out
    have hfx : fromK 2 (some ⟨b, 0, none⟩) c m = some ⟨b, m * 2, none⟩ ∨ c = m := by
      by_cases h : c = m
      · exact .inr h
      · exact .inl ((fromK_at (by omega)).trans (by rw [Nat.zero_add]))
    have hcl : ∃ w6 v6, (Builtin.clear_ #[59] 0 #[.slice (fromK 2 (some ⟨b, 0, none⟩) c m) (n - m) (c - m)]).run Try.prog w5 = .ok v6 w6 ∧ Orw w6 0 65 2 (.slice (some ⟨b, 0, none⟩) m c) (rs.take i ++ rs.drop j) ∧ Turn (only b) w5 w6 := by
      rcases hfx with h | h
      · rw [h]
        obtain ⟨w6, h1, h2, cur', h3, h4, h5⟩ := run_clearK elmP (fun w => zvP w) zvP_one (ty := 0) (o := m * 2) (n := n - m) (c := c - m) hcur (by
          rw [hcs, ← Nat.add_mul]
          exact Nat.mul_le_mul_right _ (by have := HM.out; have := HNC.out; omega))
        exact ⟨w6, _, h1, HROW.out.cleared hcur h3 h4 (Nat.le_refl _) h5, h2⟩
      · have hnm : n - m = 0 := by have := HNC.out; omega
        rw [hnm, show fromK 2 (some ⟨b, 0, none⟩) c m = some ⟨b, 0, none⟩ from by unfold fromK; rw [if_pos h]]
        refine ⟨w5, .tuple #[], ?_, HROW.out, Turn.refl _ _⟩
        simp [Builtin.clear_, run_underlying (elmP).und]
    obtain ⟨w6, v6, hcl1, hcl2, hcl3⟩ := hcl
    have HC := Lib.hid hcl1
    have HR6 := Lib.hid hcl2
    have HT6 := Lib.hid (show RowTo w (.slice (some ⟨b, 0, none⟩) n c) w6 (.slice (some ⟨b, 0, none⟩) m c) from ⟨(HT5.out.trans hcl3 fun _ _ e => e).mono fun j _ e => by
      have e : j = b := e
      rw [e]; rfl, fun b' hb => .inl hb⟩)
    have y6 : (m : Int) ≤ (n : Int) := by have := HM.out; omega
    clear hcur hcs htk hrl hmc hfx hcl1 hcl2 hcl3
    go_upto_region 6 with fail
    refine wp_region_lit ?_
    refine wpList_run (v := .slice (some ⟨b, 0, none⟩) m c) rfl (exec_move rfl rfl) ?_
    simp only [Act.put, List.setIfInBounds_toArray, List.set_cons_zero, List.set_cons_succ]
    refine wpList_run (v := .slice (some ⟨b, 0, none⟩) m c) rfl (exec_move rfl rfl) ?_
    simp only [Act.put, List.setIfInBounds_toArray, List.set_cons_zero, List.set_cons_succ]
    refine wpList_run (v := .int .i64 (m : Int)) rfl (gx_len rfl rfl Try.underlying59) ?_
    simp only [Act.put, List.setIfInBounds_toArray, List.set_cons_zero, List.set_cons_succ]
    refine wpList_run (v := .int .i64 (n : Int)) rfl (exec_move rfl rfl) ?_
    simp only [Act.put, List.setIfInBounds_toArray, List.set_cons_zero, List.set_cons_succ]
    refine wpList_run (v := .slice (fromK 2 (some ⟨b, 0, none⟩) c m) (n - m) (c - m)) rfl (exec_slice rfl rfl rfl rfl rfl (sl_mid elmP _ m n c HM.out HNC.out _)) ?_
    simp only [Act.put, List.setIfInBounds_toArray, List.set_cons_zero, List.set_cons_succ]
    refine wpList_run (v := v6) (w' := w6) rfl (exec_clear rfl rfl HC.out) ?_
    simp only [Act.put, List.setIfInBounds_toArray, List.set_cons_zero, List.set_cons_succ]
    go_upto_region 7 with fail
    refine wp_region_lit ?_
    refine wpList_run (v := .slice (some ⟨b, 0, none⟩) m c) rfl (exec_move rfl rfl) ?_
    simp only [Act.put, List.setIfInBounds_toArray, List.set_cons_zero, List.set_cons_succ]
    refine wpList_run (v := .slice (some ⟨b, 0, none⟩) m c) rfl (gx_assign rfl rfl) ?_
    simp only [Act.put, List.setIfInBounds_toArray, List.set_cons_zero, List.set_cons_succ]
    go_wp2_with fail
    go_ret
    exact ⟨_, rfl, HR6.out, HT6.out⟩
set_option maxRecDepth 20000 in
set_option maxHeartbeats 2000000 in
theorem CloneP {w : World} {A : Option Addr} {n c : Nat} {rs : List (List Value)} (hb : Rws w 2 A n rs) (hf : Fit 2 rs) (hc : A = none → c = 0) (hsz : n ≤ 100000) :
    Calls Try.prog 40 #[.slice A n c] w fun e w' =>
      ∃ v', e = .returned v' ∧ Orw w' w.heap.size 65 2 v' rs ∧ Turn nowhere w w' := by
  have HB := Lib.hid hb
  have HF := Lib.hid hf
  have HC := Lib.hid hc
  have HS := Lib.hid hsz
  clear hb hf hc hsz
  go_enter Try.func40, Try.ntmps40
  go_upto_region 1 with fail
  refine wp_region_lit ?_
  refine wpList_run (v := .slice A n c) rfl (exec_move rfl rfl) ?_
  simp only [Act.put, List.setIfInBounds_toArray, List.set_cons_zero, List.set_cons_succ]
  rcases hA : A with _ | a
  · subst hA
    have h0 : n = 0 := by
      rcases Nat.eq_zero_or_pos n with h | h
      · exact h
      · obtain ⟨_, _, _, h4⟩ := HB.out
        obtain ⟨_, _, e, _⟩ := h4 h
        cases e
    subst h0
    have h1 : rs = [] := List.eq_nil_of_length_eq_zero HB.out.1
    subst h1
    obtain rfl := HC.out rfl
    refine wpList_run (v := .bool true) rfl (exec_eqnil rfl rfl rfl Try.underlying59 rfl) ?_
    simp only [Act.put, List.setIfInBounds_toArray, List.set_cons_zero, List.set_cons_succ]
    go_wp2_with fail
    go_ret
    exact ⟨_, rfl, Orw.nil _ _ _ _, Turn.refl _ _⟩
  · subst hA
    obtain ⟨A7, c7, w7, hrun, hrow, ht7⟩ := copy_rws elmP (ty := 59) (c := c) HB.out HF.out (fun h => by cases h) (by have := HS.out; omega)
    have HRUN := Lib.hid hrun
    have HR7 := Lib.hid hrow
    have HT7 := Lib.hid ht7
    clear hrun hrow ht7
    refine wpList_run (v := .bool false) rfl (exec_eqnil rfl rfl rfl Try.underlying59 rfl) ?_
    simp only [Act.put, List.setIfInBounds_toArray, List.set_cons_zero, List.set_cons_succ]
    go_upto_region 3 with fail
    refine wp_region_lit ?_
    refine wpList_run (v := .slice (some ⟨w.heap.size, 0, none⟩) 0 0) (w' := w.alloc (.cells #[] 65)) rfl (bx_slice0 rfl (build0P _)) ?_
    simp only [Act.put, List.setIfInBounds_toArray, List.set_cons_zero, List.set_cons_succ]
    refine wpList_run (v := .slice (some a) n c) rfl (exec_move rfl rfl) ?_
    simp only [Act.put, List.setIfInBounds_toArray, List.set_cons_zero, List.set_cons_succ]
    refine wpList_run (v := .slice A7 n c7) (w' := w7) rfl (exec_append rfl rfl rfl HRUN.out) ?_
    simp only [Act.put, List.setIfInBounds_toArray, List.set_cons_zero, List.set_cons_succ]
    refine wpList_run (v := .slice A7 n c7) rfl (gx_assign rfl rfl) ?_
    simp only [Act.put, List.setIfInBounds_toArray, List.set_cons_zero, List.set_cons_succ]
    go_wp2_with fail
    go_ret
    exact ⟨_, rfl, HR7.out, HT7.out⟩
end Go.Proofs.Ytmlkdkbpbleilaa

namespace Go.Proofs.Ytmlkdkbpbleilaa
open Go.RowKit
open Ix
set_option linter.unusedVariables false
set_option linter.unusedSimpArgs false
theorem less_klt : ∀ a b : List UInt8, Op.bytesLess a b = klt a b
  | [], [] => rfl
  | [], _ :: _ => rfl
  | _ :: _, [] => rfl
  | x :: a, y :: b => by
    unfold Op.bytesLess klt
    rw [less_klt a b]
    by_cases h : x < y
    · have h1 : x.toNat < y.toNat := h
      simp [h, h1]
    · have h1 : ¬ x.toNat < y.toNat := h
      rw [if_neg h1]
      by_cases g : y.toNat < x.toNat
      · have : x ≠ y := fun e => by rw [e] at g; exact Nat.lt_irrefl _ g
        simp [h, g, this]
      · have : x = y := UInt8.toNat_inj.1 (by omega)
        subst this
        simp
theorem exec_slss {a : Act} {o : Oper} {W : World} {x y : Operand} {l m : List UInt8} {t u : TypeId} {r : Bool} (ho : o.op = .binOp .lss t x y u) (hx : a.eval x = strV l) (hy : a.eval y = strV m) (hr : klt l m = r) : (execOp a.eval o).run Try.prog W = .ok (.value (.bool r)) W := by
  subst hr
  unfold execOp
  simp [ho, hx, hy, strV, eqGuard, binOp_string_lss, ByteArray.toList_eq, less_klt]
theorem less_or (a b : List UInt8) : (klt a b || a == b) = !klt b a := by
  by_cases h : a = b
  · subst h; simp [klt_irr]
  · cases h1 : klt a b with
    | true => simp [klt_as h1]
    | false =>
      cases h2 : klt b a with
      | true => simp [h]
      | false => exact absurd (klt_eq h1 h2) h
theorem exec_sgtr {a : Act} {o : Oper} {W : World} {x y : Operand} {l m : List UInt8} {t u : TypeId} {r : Bool} (ho : o.op = .binOp .gtr t x y u) (hx : a.eval x = strV l) (hy : a.eval y = strV m) (hr : klt m l = r) : (execOp a.eval o).run Try.prog W = .ok (.value (.bool r)) W := by
  subst hr
  unfold execOp
  simp [ho, hx, hy, strV, eqGuard, binOp, Op.stringOp, ByteArray.toList_eq, less_klt]
  have e := less_or l m
  cases h1 : klt l m <;> cases h2 : klt m l <;> simp [h1, h2] at e ⊢ <;> first | exact e | (intro h; exact absurd h e)
theorem exec_sgeq {a : Act} {o : Oper} {W : World} {x y : Operand} {l m : List UInt8} {t u : TypeId} {r : Bool} (ho : o.op = .binOp .geq t x y u) (hx : a.eval x = strV l) (hy : a.eval y = strV m) (hr : (!klt l m) = r) : (execOp a.eval o).run Try.prog W = .ok (.value (.bool r)) W := by
  subst hr
  unfold execOp
  simp [ho, hx, hy, strV, eqGuard, binOp, Op.stringOp, ByteArray.toList_eq, less_klt]
theorem exec_sleq {a : Act} {o : Oper} {W : World} {x y : Operand} {l m : List UInt8} {t u : TypeId} {r : Bool} (ho : o.op = .binOp .leq t x y u) (hx : a.eval x = strV l) (hy : a.eval y = strV m) (hr : (!klt m l) = r) : (execOp a.eval o).run Try.prog W = .ok (.value (.bool r)) W := by
  subst hr
  unfold execOp
  have e := less_or l m
  simp [ho, hx, hy, strV, eqGuard, binOp, Op.stringOp, ByteArray.toList_eq, less_klt]
  first | exact e | simpa using e
theorem isNaN_walk (l : Key) (w : World) : Calls Try.prog 58 #[strV l] w fun e w' => e = .returned (.bool false) ∧ w' = w := by
  go_enter Try.func58, Try.ntmps58
  go_upto_region 1 with fail
  refine wp_region_lit ?_
  refine wpList_run (v := strV l) rfl (exec_move rfl rfl) ?_
  simp only [Act.put, List.setIfInBounds_toArray, List.set_cons_zero, List.set_cons_succ]
  refine wpList_run (v := strV l) rfl (exec_move rfl rfl) ?_
  simp only [Act.put, List.setIfInBounds_toArray, List.set_cons_zero, List.set_cons_succ]
  refine wpList_run (v := .bool false) (w' := w) rfl ((exec_sneq (l := l) (m := l) rfl rfl rfl).trans (by simp)) ?_
  simp only [Act.put, List.setIfInBounds_toArray, List.set_cons_zero, List.set_cons_succ]
  refine wpList_run (v := .bool false) rfl (gx_assign rfl rfl) ?_
  simp only [Act.put, List.setIfInBounds_toArray, List.set_cons_zero, List.set_cons_succ]
  go_wp2_with fail
  go_ret
  exact ⟨rfl, rfl⟩
def cmpV (l m : Key) : Int := if klt l m = true then -1 else if klt m l = true then 1 else 0
theorem compare_walk (l m : Key) (w : World) : Calls Try.prog 49 #[strV l, strV m] w fun e w' => e = .returned (.int .i64 (cmpV l m)) ∧ w' = w := by
  go_enter Try.func49, Try.ntmps49
  go_upto_region 1 with fail
  refine wp_region_lit ?_
  refine wpList_run (v := strV l) rfl (exec_move rfl rfl) ?_
  simp only [Act.put, List.setIfInBounds_toArray, List.set_cons_zero, List.set_cons_succ]
  refine wpList_op rfl fun K9 HK9 => ?_
  go_wp2_with fail
  refine (isNaN_walk _ _).mono ?_
  rintro e w1 ⟨rfl, rfl⟩
  refine HK9.out _ _ ?_
  clear HK9
  try simp only [Act.put, List.setIfInBounds_toArray, List.set_cons_zero, List.set_cons_succ]
  refine wpList_run (v := .bool false) rfl (gx_assign rfl rfl) ?_
  simp only [Act.put, List.setIfInBounds_toArray, List.set_cons_zero, List.set_cons_succ]
  go_upto_region 2 with fail
  refine wp_region_lit ?_
  refine wpList_run (v := strV m) rfl (exec_move rfl rfl) ?_
  simp only [Act.put, List.setIfInBounds_toArray, List.set_cons_zero, List.set_cons_succ]
  refine wpList_op rfl fun K9 HK9 => ?_
  go_wp2_with fail
  refine (isNaN_walk _ _).mono ?_
  rintro e w1 ⟨rfl, rfl⟩
  refine HK9.out _ _ ?_
  clear HK9
  try simp only [Act.put, List.setIfInBounds_toArray, List.set_cons_zero, List.set_cons_succ]
  refine wpList_run (v := .bool false) rfl (gx_assign rfl rfl) ?_
  simp only [Act.put, List.setIfInBounds_toArray, List.set_cons_zero, List.set_cons_succ]
  go_upto_region 3 with fail
  refine wp_region_lit ?_
  refine wpList_run (v := .bool false) rfl (exec_move rfl rfl) ?_
  simp only [Act.put, List.setIfInBounds_toArray, List.set_cons_zero, List.set_cons_succ]
  go_upto_region 7 with fail
  refine wp_region_lit ?_
  refine wpList_run (v := .bool false) rfl (exec_move rfl rfl) ?_
  simp only [Act.put, List.setIfInBounds_toArray, List.set_cons_zero, List.set_cons_succ]
  go_upto_region 9 with fail
  refine wp_region_lit ?_
  refine wpList_run (v := strV l) rfl (exec_move rfl rfl) ?_
  simp only [Act.put, List.setIfInBounds_toArray, List.set_cons_zero, List.set_cons_succ]
  refine wpList_run (v := strV m) rfl (exec_move rfl rfl) ?_
  simp only [Act.put, List.setIfInBounds_toArray, List.set_cons_zero, List.set_cons_succ]
  cases h1 : klt l m with
  | true =>
    have HE := Lib.hid (show cmpV l m = -1 from by unfold cmpV; rw [if_pos h1])
    refine wpList_run (v := .bool true) rfl (exec_slss rfl rfl rfl h1) ?_
    simp only [Act.put, List.setIfInBounds_toArray, List.set_cons_zero, List.set_cons_succ]
    clear h1
    go_wp2_with fail
    go_ret
    rw [HE.out]
    exact ⟨rfl, rfl⟩
  | false =>
    refine wpList_run (v := .bool false) rfl (exec_slss rfl rfl rfl h1) ?_
    simp only [Act.put, List.setIfInBounds_toArray, List.set_cons_zero, List.set_cons_succ]
    go_upto_region 11 with fail
    refine wp_region_lit ?_
    refine wpList_run (v := strV l) rfl (exec_move rfl rfl) ?_
    simp only [Act.put, List.setIfInBounds_toArray, List.set_cons_zero, List.set_cons_succ]
    refine wpList_run (v := strV m) rfl (exec_move rfl rfl) ?_
    simp only [Act.put, List.setIfInBounds_toArray, List.set_cons_zero, List.set_cons_succ]
    cases h2 : klt m l with
    | true =>
      have HE := Lib.hid (show cmpV l m = 1 from by unfold cmpV; rw [if_neg (by rw [h1]; decide), if_pos h2])
      refine wpList_run (v := .bool true) rfl (exec_sgtr rfl rfl rfl h2) ?_
      simp only [Act.put, List.setIfInBounds_toArray, List.set_cons_zero, List.set_cons_succ]
      clear h1 h2
      go_wp2_with fail
      go_ret
      rw [HE.out]
      exact ⟨rfl, rfl⟩
    | false =>
      have HE := Lib.hid (show cmpV l m = 0 from by unfold cmpV; rw [if_neg (by rw [h1]; decide), if_neg (by rw [h2]; decide)])
      refine wpList_run (v := .bool false) rfl (exec_sgtr rfl rfl rfl h2) ?_
      simp only [Act.put, List.setIfInBounds_toArray, List.set_cons_zero, List.set_cons_succ]
      clear h1 h2
      go_wp2_with fail
      go_ret
      rw [HE.out]
      exact ⟨rfl, rfl⟩
theorem find1_walk (p : Pr) (k : Key) (w : World) : Calls Try.prog 48 #[.agg (encP p).toArray, strV k] w fun e w' => e = .returned (.int .i64 (cmpV p.1 k)) ∧ Turn nowhere w w' := by
  have hb0 := Blk.new w 65 (encP p).toArray
  have hu0 := (Turn.refl nowhere w).alloc (.cells (encP p).toArray 65)
  go_enter Try.func48, Try.ntmps48
  go_upto_region 1 with fail
  obtain ⟨g0, hg0⟩ : ∃ g, g = w.heap.size := ⟨_, rfl⟩
  rw [← hg0] at hb0 ⊢
  clear hg0
  have HB := Lib.hid hb0
  have HU := Lib.hid hu0
  clear hb0 hu0
  generalize w.alloc (.cells (encP p).toArray 65) = w1 at *
  refine wp_region_lit ?_
  refine wpList_run (v := .pointer (some ⟨g0, 0, none⟩)) rfl (exec_field (off := 0) (d := 0) rfl rfl (by kernel_rfl)) ?_
  simp only [Act.put, List.setIfInBounds_toArray, List.set_cons_zero, List.set_cons_succ]
  refine wpList_run (v := strV p.1) rfl (exec_load1 rfl rfl (by kernel_rfl) (HB.out.cell 0)) ?_
  simp only [Act.put, List.setIfInBounds_toArray, List.set_cons_zero, List.set_cons_succ]
  refine wpList_run (v := strV k) rfl (exec_move rfl rfl) ?_
  simp only [Act.put, List.setIfInBounds_toArray, List.set_cons_zero, List.set_cons_succ]
  refine wpList_op rfl fun K9 HK9 => ?_
  go_wp2_with fail
  refine (compare_walk _ _ _).mono ?_
  rintro e w2 ⟨rfl, rfl⟩
  refine HK9.out _ _ ?_
  clear HK9
  try simp only [Act.put, List.setIfInBounds_toArray, List.set_cons_zero, List.set_cons_succ]
  refine wpList_run (v := .int .i64 (cmpV p.1 k)) rfl (gx_assign rfl rfl) ?_
  simp only [Act.put, List.setIfInBounds_toArray, List.set_cons_zero, List.set_cons_succ]
  go_wp2_with fail
  go_ret
  exact ⟨rfl, HU.out⟩
theorem cmpV_lt {l m : Key} : cmpV l m < 0 ↔ klt l m = true := by
  unfold cmpV
  split
  · rename_i h; simp [h]
  · rename_i h
    split <;> simp [h]
theorem cmpV_eq {l m : Key} : cmpV l m = 0 ↔ l = m := by
  unfold cmpV
  split
  · rename_i h
    constructor
    · intro e; cases e
    · intro e; exact absurd e (klt_ne h)
  · rename_i h
    split
    · rename_i g
      constructor
      · intro e; cases e
      · intro e; exact absurd e.symm (klt_ne g)
    · rename_i g
      exact ⟨fun _ => klt_eq (by simpa using h) (by simpa using g), fun _ => rfl⟩
theorem fnd_lt {k : Key} : ∀ {l : List Pr} {m : Nat} {p : Pr}, Srt l → l[m]? = some p → (m < fnd k l ↔ klt p.1 k = true)
  | [], m, p, _, h => by cases h
  | q :: l, 0, p, hs, h => by
    obtain rfl : q = p := by simpa using h
    unfold fnd
    split
    · rename_i h; simp [h]
    · rename_i h; simp [h]
  | q :: l, m + 1, p, hs, h => by
    obtain ⟨h1, h2⟩ := List.pairwise_cons.1 hs
    have hp : l[m]? = some p := by simpa using h
    have ih := fnd_lt (k := k) h2 hp
    unfold fnd
    split
    · rw [← ih]; omega
    · rename_i hq
      have hqp := h1 p (List.mem_of_getElem? hp)
      constructor
      · intro h; omega
      · intro h; exact absurd (klt_tr hqp h) hq
theorem ix_mid {a : Act} {o : Oper} {W : World} {x : Operand} {m : Nat} (ho : o.op = .convert 3 90 x) (hx : a.eval x = .int .i64 (m : Int)) (hm : m < 9223372036854775808) : (execOp a.eval o).run Try.prog W = .ok (.value (.int .u64 (m : Int))) W := by
  unfold execOp
  simp only [ho, hx]
  go_simp
  rw [IntKind.wrap_u64]; omega
theorem ix_shr1 {a : Act} {o : Oper} {W : World} {x y : Operand} {m : Nat} (ho : o.op = .binOp .shr 90 x y 90) (hx : a.eval x = .int .u64 (m : Int)) (hy : a.eval y = .int .u64 1) (hm : m < 9223372036854775808) : (execOp a.eval o).run Try.prog W = .ok (.value (.int .u64 ((m / 2 : Nat) : Int))) W := by
  unfold execOp
  simp only [ho, hx, hy]
  go_simp
  all_goals (try omega)
theorem ix_back {a : Act} {o : Oper} {W : World} {x : Operand} {m : Nat} (ho : o.op = .convert 90 3 x) (hx : a.eval x = .int .u64 (m : Int)) (hm : m < 9223372036854775808) : (execOp a.eval o).run Try.prog W = .ok (.value (.int .i64 (m : Int))) W := by
  unfold execOp
  simp only [ho, hx]
  go_simp
  rw [IntKind.wrap_i64]; omega
end Go.Proofs.Ytmlkdkbpbleilaa

namespace Go.Proofs.Ytmlkdkbpbleilaa
open Go.RowKit
open Ix
set_option linter.unusedVariables false
set_option linter.unusedSimpArgs false
def hit (k : Key) (l : List Pr) : Bool := decide ((l[fnd k l]?).map (·.1) = some k)
def fndV : Value := .func (.func 48) #[] #[]
set_option maxRecDepth 20000 in
set_option maxHeartbeats 1000000 in
theorem search_walk {w : World} {A : Option Addr} {n c : Nat} {l : List Pr} {k : Key} (hb : Rws w 2 A n (l.map encP)) (hs : Srt l) :
    Calls Try.prog 47 #[.slice A n c, strV k, fndV] w fun e w' => e = .returned (.tuple #[.int .i64 (fnd k l : Int), .bool (hit k l)]) ∧ Turn nowhere w w' := by
  have hn : l.length = n := by have := hb.1; rwa [List.length_map] at this
  have HB := Lib.hid hb
  have HS := Lib.hid hs
  have HN := Lib.hid hn
  have HFL := Lib.hid (fnd_le k l)
  have y9 : (n : Int) ≤ 140737488355328 := by
    have := hb.2.2.1
    omega
  clear hb hs hn
  unfold fndV
  go_enter Try.func47, Try.ntmps47
  go_upto_region 1 with fail
  refine wp_region_lit ?_
  refine wpList_run (v := .slice A n c) rfl (exec_move rfl rfl) ?_
  simp only [Act.put, List.setIfInBounds_toArray, List.set_cons_zero, List.set_cons_succ]
  refine wpList_run (v := .int .i64 (n : Int)) rfl (gx_len rfl rfl Try.underlying59) ?_
  simp only [Act.put, List.setIfInBounds_toArray, List.set_cons_zero, List.set_cons_succ]
  refine wpList_run (v := .int .i64 (n : Int)) rfl (gx_assign rfl rfl) ?_
  simp only [Act.put, List.setIfInBounds_toArray, List.set_cons_zero, List.set_cons_succ]
  go_upto_region 2 with fail
  refine wp_region_lit ?_
  refine wpList_run (v := .int .i64 (n : Int)) rfl (exec_move rfl rfl) ?_
  simp only [Act.put, List.setIfInBounds_toArray, List.set_cons_zero, List.set_cons_succ]
  refine wpList_run (v := .int .i64 0) rfl (gx_assign rfl rfl) ?_
  simp only [Act.put, List.setIfInBounds_toArray, List.set_cons_zero, List.set_cons_succ]
  refine wpList_run (v := .int .i64 (n : Int)) rfl (gx_assign rfl rfl) ?_
  simp only [Act.put, List.setIfInBounds_toArray, List.set_cons_zero, List.set_cons_succ]
  go_wp2_with fail
  go_loopg [9, 10] n (fun gk iv jv wr => ∃ i j : Nat, j - i = gk ∧ iv = .int .i64 (i : Int) ∧ jv = .int .i64 (j : Int) ∧ i ≤ fnd k l ∧ fnd k l ≤ j ∧ j ≤ n ∧ Turn nowhere w wr)
  case atStart => exact ⟨0, n, by omega, rfl, rfl, Nat.zero_le _, by have := HFL.out; rw [HN.out] at this; exact this, Nat.le_refl _, Turn.refl _ _⟩
  obtain ⟨i, j, hgk, rfl, rfl, hif, hfj, hjn, htr⟩ := hrel
  have HGK := Lib.hid hgk
  have HTR := Lib.hid htr
  have HIF := Lib.hid hif
  have HFJ := Lib.hid hfj
  have HJN := Lib.hid hjn
  have z1 : (i : Int) ≤ (j : Int) := by omega
  have z2 : (j : Int) ≤ (n : Int) := by omega
  clear hgk htr hif hfj hjn
  go_upto_region 3 with fail
  refine wp_region_lit ?_
  by_cases hlt : i < j
  · have HLT := Lib.hid hlt
    have z3 : (i : Int) < (j : Int) := by omega
    obtain ⟨m, hm⟩ : ∃ m, m = (i + j) / 2 := ⟨_, rfl⟩
    have HMI := Lib.hid (show i ≤ m from by omega)
    have HMJ := Lib.hid (show m < j from by omega)
    have HM := Lib.hid hm
    obtain ⟨bF, oF, hA, hr⟩ := HB.out.2.2.2 (by have := HJN.out; omega)
    subst hA
    obtain ⟨p, hp⟩ : ∃ p, l[m]? = some p := ⟨_, List.getElem?_eq_getElem (show m < l.length from by rw [HN.out]; have := HMJ.out; have := HJN.out; omega)⟩
    have HRR := Lib.hid (show wr.rangeAt bF (oF + m * 2) (encP p) from fun q v hv => (HTR.out.cell (World.block_lt_of_cell? _ _ (hr m (encP p) (by rw [List.getElem?_map, hp]; rfl) q v hv)) (fun e => e)).trans (hr m (encP p) (by rw [List.getElem?_map, hp]; rfl) q v hv))
    have HST := Lib.hid (fnd_lt (k := k) HS.out hp)
    have HMN := Lib.hid (show m < n from by have := HMJ.out; have := HJN.out; omega)
    clear hr hp hlt hm
    refine wpList_run (v := .int .i64 (i : Int)) rfl (exec_move rfl rfl) ?_
    simp only [Act.put, List.setIfInBounds_toArray, List.set_cons_zero, List.set_cons_succ]
    refine wpList_run (v := .int .i64 (j : Int)) rfl (exec_move rfl rfl) ?_
    simp only [Act.put, List.setIfInBounds_toArray, List.set_cons_zero, List.set_cons_succ]
    refine wpList_run (v := .bool true) rfl (ix_lss rfl rfl rfl (decide_eq_true z3)) ?_
    simp only [Act.put, List.setIfInBounds_toArray, List.set_cons_zero, List.set_cons_succ]
    go_upto_region 4 with fail
    refine wp_region_lit ?_
    refine wpList_run (v := .int .i64 (i : Int)) rfl (exec_move rfl rfl) ?_
    simp only [Act.put, List.setIfInBounds_toArray, List.set_cons_zero, List.set_cons_succ]
    refine wpList_run (v := .int .i64 (j : Int)) rfl (exec_move rfl rfl) ?_
    simp only [Act.put, List.setIfInBounds_toArray, List.set_cons_zero, List.set_cons_succ]
    refine wpList_run (v := .int .i64 ((i + j : Nat) : Int)) rfl (ix_add rfl rfl rfl (by omega) (by omega)) ?_
    simp only [Act.put, List.setIfInBounds_toArray, List.set_cons_zero, List.set_cons_succ]
    refine wpList_run (v := .int .u64 ((i + j : Nat) : Int)) rfl (ix_mid rfl rfl (by omega)) ?_
    simp only [Act.put, List.setIfInBounds_toArray, List.set_cons_zero, List.set_cons_succ]
    refine wpList_run (v := .int .u64 (((i + j) / 2 : Nat) : Int)) rfl (ix_shr1 rfl rfl rfl (by omega)) ?_
    simp only [Act.put, List.setIfInBounds_toArray, List.set_cons_zero, List.set_cons_succ]
    refine wpList_run (v := .int .i64 (m : Int)) rfl (by rw [HM.out]; exact ix_back rfl rfl (by omega)) ?_
    simp only [Act.put, List.setIfInBounds_toArray, List.set_cons_zero, List.set_cons_succ]
    refine wpList_run (v := .int .i64 (m : Int)) rfl (gx_assign rfl rfl) ?_
    simp only [Act.put, List.setIfInBounds_toArray, List.set_cons_zero, List.set_cons_succ]
    go_upto_region 5 with fail
    refine wp_region_lit ?_
    refine wpList_run (v := .func (.func 48) #[] #[]) rfl (exec_move rfl rfl) ?_
    simp only [Act.put, List.setIfInBounds_toArray, List.set_cons_zero, List.set_cons_succ]
    refine wpList_run (v := .slice (some ⟨bF, oF, none⟩) n c) rfl (exec_move rfl rfl) ?_
    simp only [Act.put, List.setIfInBounds_toArray, List.set_cons_zero, List.set_cons_succ]
    refine wpList_run (v := .int .i64 (m : Int)) rfl (exec_move rfl rfl) ?_
    simp only [Act.put, List.setIfInBounds_toArray, List.set_cons_zero, List.set_cons_succ]
    refine wpList_run (v := .pointer (some ⟨bF, oF + m * 2, none⟩)) rfl (gx_iaddr (i := m) (sz := 2) rfl rfl rfl Try.underlying59 size_pair HMN.out rfl) ?_
    simp only [Act.put, List.setIfInBounds_toArray, List.set_cons_zero, List.set_cons_succ]
    refine wpList_run (v := .agg (encP p).toArray) rfl (gx_loads rfl rfl HRR.out Try.underlying65 rfl (by rw [size_pair]; rfl)) ?_
    simp only [Act.put, List.setIfInBounds_toArray, List.set_cons_zero, List.set_cons_succ]
    refine wpList_run (v := strV k) rfl (exec_move rfl rfl) ?_
    simp only [Act.put, List.setIfInBounds_toArray, List.set_cons_zero, List.set_cons_succ]
    refine wpList_op rfl fun K9 HK9 => ?_
    go_wp2_with fail
    refine (find1_walk p k _).mono ?_
    rintro e w3 ⟨rfl, ht3⟩
    refine HK9.out _ _ ?_
    clear HK9
    try simp only [Act.put, List.setIfInBounds_toArray, List.set_cons_zero, List.set_cons_succ]
    have HT3 := Lib.hid (HTR.out.trans ht3 (fun _ _ e => e))
    clear ht3
    by_cases hc : klt p.1 k = true
    · have HC := Lib.hid (HST.out.2 hc)
      refine wpList_run (v := .bool true) rfl (ix_lss rfl rfl rfl (decide_eq_true (cmpV_lt.2 hc))) ?_
      simp only [Act.put, List.setIfInBounds_toArray, List.set_cons_zero, List.set_cons_succ]
      clear hc
      go_upto_region 6 with fail
      refine wp_region_lit ?_
      refine wpList_run (v := .int .i64 (m : Int)) rfl (exec_move rfl rfl) ?_
      simp only [Act.put, List.setIfInBounds_toArray, List.set_cons_zero, List.set_cons_succ]
      refine wpList_run (v := .int .i64 ((m + 1 : Nat) : Int)) rfl (ix_add rfl rfl rfl (by omega) (by have := HMN.out; omega)) ?_
      simp only [Act.put, List.setIfInBounds_toArray, List.set_cons_zero, List.set_cons_succ]
      refine wpList_run (v := .int .i64 ((m + 1 : Nat) : Int)) rfl (gx_assign rfl rfl) ?_
      simp only [Act.put, List.setIfInBounds_toArray, List.set_cons_zero, List.set_cons_succ]
      go_wp2_with fail
      go_roundg (j - (m + 1))
      case measure => have := HGK.out; have := HMI.out; have := HMJ.out; omega
      case rel => exact ⟨m + 1, j, rfl, rfl, rfl, HC.out, HFJ.out, HJN.out, HT3.out⟩
    · have HC := Lib.hid (show fnd k l ≤ m from Nat.le_of_not_lt fun h => hc (HST.out.1 h))
      refine wpList_run (v := .bool false) rfl (ix_lss rfl rfl rfl (decide_eq_false (fun h => hc (cmpV_lt.1 h)))) ?_
      simp only [Act.put, List.setIfInBounds_toArray, List.set_cons_zero, List.set_cons_succ]
      clear hc
      go_upto_region 7 with fail
      refine wp_region_lit ?_
      refine wpList_run (v := .int .i64 (m : Int)) rfl (exec_move rfl rfl) ?_
      simp only [Act.put, List.setIfInBounds_toArray, List.set_cons_zero, List.set_cons_succ]
      refine wpList_run (v := .int .i64 (m : Int)) rfl (gx_assign rfl rfl) ?_
      simp only [Act.put, List.setIfInBounds_toArray, List.set_cons_zero, List.set_cons_succ]
      go_wp2_with fail
      go_roundg (m - i)
      case measure => have := HGK.out; have := HMI.out; have := HMJ.out; omega
      case rel => exact ⟨i, m, rfl, rfl, rfl, HIF.out, HC.out, by have := HMN.out; omega, HT3.out⟩
  · obtain rfl : i = j := by omega
    have HI := Lib.hid (show fnd k l = i from by have := HIF.out; have := HFJ.out; omega)
    clear hlt
    refine wpList_run (v := .int .i64 (i : Int)) rfl (exec_move rfl rfl) ?_
    simp only [Act.put, List.setIfInBounds_toArray, List.set_cons_zero, List.set_cons_succ]
    refine wpList_run (v := .int .i64 (i : Int)) rfl (exec_move rfl rfl) ?_
    simp only [Act.put, List.setIfInBounds_toArray, List.set_cons_zero, List.set_cons_succ]
    refine wpList_run (v := .bool false) rfl (ix_lss rfl rfl rfl (decide_eq_false (by omega))) ?_
    simp only [Act.put, List.setIfInBounds_toArray, List.set_cons_zero, List.set_cons_succ]
    go_upto_region 8 with fail
    refine wp_region_lit ?_
    refine wpList_run (v := .int .i64 (i : Int)) rfl (exec_move rfl rfl) ?_
    simp only [Act.put, List.setIfInBounds_toArray, List.set_cons_zero, List.set_cons_succ]
    refine wpList_run (v := .int .i64 (i : Int)) rfl (exec_move rfl rfl) ?_
    simp only [Act.put, List.setIfInBounds_toArray, List.set_cons_zero, List.set_cons_succ]
    refine wpList_run (v := .int .i64 (n : Int)) rfl (exec_move rfl rfl) ?_
    simp only [Act.put, List.setIfInBounds_toArray, List.set_cons_zero, List.set_cons_succ]
    by_cases hin : i < n
    · have y8 : (i : Int) < (n : Int) := by omega
      have HIN := Lib.hid hin
      obtain ⟨bF, oF, hA, hr⟩ := HB.out.2.2.2 (by omega)
      subst hA
      obtain ⟨p, hp⟩ : ∃ p, l[i]? = some p := ⟨_, List.getElem?_eq_getElem (show i < l.length from by rw [HN.out]; exact hin)⟩
      have HRR := Lib.hid (show wr.rangeAt bF (oF + i * 2) (encP p) from fun q v hv => (HTR.out.cell (World.block_lt_of_cell? _ _ (hr i (encP p) (by rw [List.getElem?_map, hp]; rfl) q v hv)) (fun e => e)).trans (hr i (encP p) (by rw [List.getElem?_map, hp]; rfl) q v hv))
      have HH := Lib.hid (show decide (cmpV p.1 k = 0) = hit k l from by
        unfold hit
        rw [HI.out, hp]
        exact decide_eq_decide.2 (cmpV_eq.trans (by simp)))
      clear hr hp hin
      refine wpList_run (v := .bool true) rfl (ix_lss rfl rfl rfl (decide_eq_true y8)) ?_
      simp only [Act.put, List.setIfInBounds_toArray, List.set_cons_zero, List.set_cons_succ]
      refine wpList_run (v := .bool true) rfl (exec_move rfl rfl) ?_
      simp only [Act.put, List.setIfInBounds_toArray, List.set_cons_zero, List.set_cons_succ]
      refine wpList_run (v := .func (.func 48) #[] #[]) rfl (exec_move rfl rfl) ?_
      simp only [Act.put, List.setIfInBounds_toArray, List.set_cons_zero, List.set_cons_succ]
      refine wpList_run (v := .slice (some ⟨bF, oF, none⟩) n c) rfl (exec_move rfl rfl) ?_
      simp only [Act.put, List.setIfInBounds_toArray, List.set_cons_zero, List.set_cons_succ]
      refine wpList_run (v := .int .i64 (i : Int)) rfl (exec_move rfl rfl) ?_
      simp only [Act.put, List.setIfInBounds_toArray, List.set_cons_zero, List.set_cons_succ]
      refine wpList_run (v := .pointer (some ⟨bF, oF + i * 2, none⟩)) rfl (gx_iaddr (i := i) (sz := 2) rfl rfl rfl Try.underlying59 size_pair HIN.out rfl) ?_
      simp only [Act.put, List.setIfInBounds_toArray, List.set_cons_zero, List.set_cons_succ]
      refine wpList_run (v := .agg (encP p).toArray) rfl (gx_loads rfl rfl HRR.out Try.underlying65 rfl (by rw [size_pair]; rfl)) ?_
      simp only [Act.put, List.setIfInBounds_toArray, List.set_cons_zero, List.set_cons_succ]
      refine wpList_run (v := strV k) rfl (exec_move rfl rfl) ?_
      simp only [Act.put, List.setIfInBounds_toArray, List.set_cons_zero, List.set_cons_succ]
      refine wpList_op rfl fun K9 HK9 => ?_
      go_wp2_with fail
      refine (find1_walk p k _).mono ?_
      rintro e w3 ⟨rfl, ht3⟩
      refine HK9.out _ _ ?_
      clear HK9
      try simp only [Act.put, List.setIfInBounds_toArray, List.set_cons_zero, List.set_cons_succ]
      have HT3 := Lib.hid (HTR.out.trans ht3 (fun _ _ e => e))
      clear ht3
      refine wpList_run (v := .bool (hit k l)) rfl (ix_eql rfl rfl rfl HH.out) ?_
      simp only [Act.put, List.setIfInBounds_toArray, List.set_cons_zero, List.set_cons_succ]
      refine wpList_run (v := .bool (hit k l)) rfl (ix_pickT rfl rfl rfl) ?_
      simp only [Act.put, List.setIfInBounds_toArray, List.set_cons_zero, List.set_cons_succ]
      refine wpList_run (v := .int .i64 (i : Int)) rfl (gx_assign rfl rfl) ?_
      simp only [Act.put, List.setIfInBounds_toArray, List.set_cons_zero, List.set_cons_succ]
      refine wpList_run (v := .bool (hit k l)) rfl (gx_assign rfl rfl) ?_
      simp only [Act.put, List.setIfInBounds_toArray, List.set_cons_zero, List.set_cons_succ]
      go_wp2_with fail
      go_ret2
      rw [HI.out]
      exact ⟨rfl, HT3.out⟩
    · have HH := Lib.hid (show false = hit k l from by
        unfold hit
        rw [HI.out, List.getElem?_eq_none (by rw [HN.out]; omega)]
        simp)
      refine wpList_run (v := .bool false) rfl (ix_lss rfl rfl rfl (decide_eq_false (by omega))) ?_
      simp only [Act.put, List.setIfInBounds_toArray, List.set_cons_zero, List.set_cons_succ]
      go_wp2_with fail
      go_ret2
      rw [HI.out, ← HH.out]
      exact ⟨rfl, HTR.out⟩
/-- a node in memory: its two rows -/
structure NodeAt (w : World) (p : Nat) (vp vk : Value) (ps : List Pr) (ks : List Nat) : Prop where
  blk : Blk w p 62 #[vp, vk]
  prs : Orw w 0 65 2 vp (ps.map encP)
  kds : Orw w 0 56 1 vk (ks.map encK)
theorem rows_of {w : World} {vp : Value} {ps : List Pr} (h : Orw w 0 65 2 vp (ps.map encP)) (hl : ps.length ≤ 100000) : ∃ A c, vp = .slice A ps.length c ∧ Rws w 2 A ps.length (ps.map encP) ∧ (A = none → c = 0) := by
  obtain ⟨A, c, rfl, _, _, hz, _⟩ := h.form
  rw [List.length_map] at h ⊢
  exact ⟨A, c, rfl, h.rws (by rw [List.length_map]; omega) (by decide), hz⟩
theorem krows_of {w : World} {vk : Value} {ks : List Nat} (h : Orw w 0 56 1 vk (ks.map encK)) : ∃ A c, vk = .slice A ks.length c ∧ (A = none → c = 0) := by
  obtain ⟨A, c, rfl, _, _, hz, _⟩ := h.form
  rw [List.length_map]
  exact ⟨A, c, rfl, hz⟩
set_option maxRecDepth 20000 in
theorem find_walk {w : World} {p : Nat} {vp vk : Value} {ps : List Pr} {ks : List Nat} {k : Key} (h : NodeAt w p vp vk ps ks) (hs : Srt ps) (hl : ps.length ≤ 100000) :
    Calls Try.prog 31 #[.pointer (some ⟨p, 0, none⟩), strV k] w fun e w' => e = .returned (.tuple #[.int .i64 (fnd k ps : Int), .bool (hit k ps)]) ∧ Turn nowhere w w' := by
  obtain ⟨A, c, rfl, hr, hz⟩ := rows_of h.prs hl
  have HB := Lib.hid h.blk
  have HR := Lib.hid hr
  have HS := Lib.hid hs
  obtain ⟨n, hn⟩ : ∃ n, n = ps.length := ⟨_, rfl⟩
  rw [← hn] at HB HR
  clear h hs hl hr hz hn
  go_enter Try.func31, Try.ntmps31
  go_upto_region 1 with fail
  refine wp_region_lit ?_
  refine wpList_run (v := .pointer (some ⟨p, 0, none⟩)) rfl (exec_move rfl rfl) ?_
  simp only [Act.put, List.setIfInBounds_toArray, List.set_cons_zero, List.set_cons_succ]
  refine wpList_run (v := .pointer (some ⟨p, 0, none⟩)) rfl (exec_nil rfl rfl) ?_
  simp only [Act.put, List.setIfInBounds_toArray, List.set_cons_zero, List.set_cons_succ]
  refine wpList_run (v := .pointer (some ⟨p, 0, none⟩)) rfl (exec_field (off := 0) (d := 0) rfl rfl (by kernel_rfl)) ?_
  simp only [Act.put, List.setIfInBounds_toArray, List.set_cons_zero, List.set_cons_succ]
  refine wpList_run (v := .slice A n c) rfl (exec_load1 rfl rfl (by kernel_rfl) (HB.out.cell 0)) ?_
  simp only [Act.put, List.setIfInBounds_toArray, List.set_cons_zero, List.set_cons_succ]
  refine wpList_run (v := strV k) rfl (exec_move rfl rfl) ?_
  simp only [Act.put, List.setIfInBounds_toArray, List.set_cons_zero, List.set_cons_succ]
  have hw := search_walk (c := c) (k := k) HR.out HS.out
  unfold fndV at hw
  have HW := Lib.hid hw
  clear hw
  refine wpList_op rfl fun K9 HK9 => ?_
  go_wp2_with fail
  refine (HW.out).mono ?_
  rintro e w1 ⟨rfl, ht⟩
  refine HK9.out _ _ ?_
  clear HK9
  try simp only [Act.put, List.setIfInBounds_toArray, List.set_cons_zero, List.set_cons_succ]
  refine wpList_run (v := .int .i64 (fnd k ps : Int)) rfl (ix_extract rfl rfl rfl) ?_
  simp only [Act.put, List.setIfInBounds_toArray, List.set_cons_zero, List.set_cons_succ]
  refine wpList_run (v := .bool (hit k ps)) rfl (ix_extract rfl rfl rfl) ?_
  simp only [Act.put, List.setIfInBounds_toArray, List.set_cons_zero, List.set_cons_succ]
  refine wpList_run (v := .int .i64 (fnd k ps : Int)) rfl (gx_assign rfl rfl) ?_
  simp only [Act.put, List.setIfInBounds_toArray, List.set_cons_zero, List.set_cons_succ]
  refine wpList_run (v := .bool (hit k ps)) rfl (gx_assign rfl rfl) ?_
  simp only [Act.put, List.setIfInBounds_toArray, List.set_cons_zero, List.set_cons_succ]
  go_wp2_with fail
  go_ret2
  exact ⟨rfl, ht⟩
theorem lowest_walk {w : World} {p : Nat} {vp vk : Value} {ps : List Pr} {ks : List Nat} (h : NodeAt w p vp vk ps ks) :
    Calls Try.prog 32 #[.pointer (some ⟨p, 0, none⟩)] w fun e w' => e = .returned (.bool (decide (ks = []))) ∧ w' = w := by
  obtain ⟨A, c, rfl, hz⟩ := krows_of h.kds
  have HB := Lib.hid h.blk
  have HE := Lib.hid (show decide ((ks.length : Int) = 0) = decide (ks = []) from decide_eq_decide.2 (by cases ks <;> simp <;> omega))
  clear h hz
  go_enter Try.func32, Try.ntmps32
  go_upto_region 1 with fail
  refine wp_region_lit ?_
  refine wpList_run (v := .pointer (some ⟨p, 0, none⟩)) rfl (exec_move rfl rfl) ?_
  simp only [Act.put, List.setIfInBounds_toArray, List.set_cons_zero, List.set_cons_succ]
  refine wpList_run (v := .pointer (some ⟨p, 0, none⟩)) rfl (exec_nil rfl rfl) ?_
  simp only [Act.put, List.setIfInBounds_toArray, List.set_cons_zero, List.set_cons_succ]
  refine wpList_run (v := .pointer (some ⟨p, 1, none⟩)) rfl (exec_field (off := 0) (d := 1) rfl rfl (by kernel_rfl)) ?_
  simp only [Act.put, List.setIfInBounds_toArray, List.set_cons_zero, List.set_cons_succ]
  refine wpList_run (v := .slice A ks.length c) rfl (exec_load1 rfl rfl (by kernel_rfl) (HB.out.cell 1)) ?_
  simp only [Act.put, List.setIfInBounds_toArray, List.set_cons_zero, List.set_cons_succ]
  refine wpList_run (v := .int .i64 (ks.length : Int)) rfl (gx_len rfl rfl Try.underlying60) ?_
  simp only [Act.put, List.setIfInBounds_toArray, List.set_cons_zero, List.set_cons_succ]
  refine wpList_run (v := .bool (decide (ks = []))) rfl (ix_eql rfl rfl rfl HE.out) ?_
  simp only [Act.put, List.setIfInBounds_toArray, List.set_cons_zero, List.set_cons_succ]
  refine wpList_run (v := .bool (decide (ks = []))) rfl (gx_assign rfl rfl) ?_
  simp only [Act.put, List.setIfInBounds_toArray, List.set_cons_zero, List.set_cons_succ]
  go_wp2_with fail
  go_ret
  exact ⟨rfl, rfl⟩
end Go.Proofs.Ytmlkdkbpbleilaa

namespace Go.Proofs.Ytmlkdkbpbleilaa
open Go.RowKit
set_option linter.unusedVariables false
set_option linter.unusedSimpArgs false
theorem exec_overK {a : Act} {o : Oper} {W : World} {x y : Operand} {u v : Value} {ts : Array TypeId} (ho : o.op = .call { callee := .value (.func 53), args := #[x, y], argTypes := ts }) (hx : a.eval x = u) (hy : a.eval y = v)
    (hr : (Extern.SlicesOverlaps.overlaps #[60, 60] #[4] #[u, v]).run Try.prog W = .ok (.bool false) W) : (execOp a.eval o).run Try.prog W = .ok (.value (.bool false)) W := by
  have h : (callFunc 53 #[u, v]).run Try.prog W = .ok (.value (.bool false)) W := by
    rw [run_callFunc_extern Try.func53 (by kernel_rfl) (by kernel_rfl) (by kernel_rfl) (e := Extern.SlicesOverlaps.overlaps #[60, 60] #[4]) (by kernel_rfl), hr]
    rfl
  unfold execOp
  simp only [ho, resolve, invoke, Sem.run_bind, Sem.run_pure, Result.andThen_ok, List.map_toArray, List.map_cons, List.map_nil, hx, hy]
  rw [show a.eval (Operand.func 53) = .func (.func 53) #[] #[] from rfl]
  simp [Deferred.ofValue, h]
set_option maxRecDepth 20000 in
set_option maxHeartbeats 2000000 in
theorem InsertK {w : World} {A : Option Addr} {n c i g : Nat} {rs : List (List Value)} {x : List Value} (hown : Orw w 0 56 1 (.slice A n c) rs) (hn : rs.length = n) (hi : i ≤ n) (hx : Blk w g 56 x.toArray) (hxk : x.length = 1) (hx1 : ∀ u ∈ x, u.oneCell' = true)
    (hg : (Value.slice A n c).ownBlock ≠ some g) (hsz : n ≤ 100000) :
    Calls Try.prog 39 #[.slice A n c, .int .i64 (i : Int), .slice (some ⟨g, 0, none⟩) 1 1] w fun e w' =>
      ∃ v', e = .returned v' ∧ Orw w' 0 56 1 v' (rs.take i ++ x :: rs.drop i) ∧ RowTo w (.slice A n c) w' v' := by
  obtain ⟨A9, c9, e9, hnc, hcm, hz, _⟩ := hown.form
  injection e9 with e1 e2 e3
  subst e1 e3
  rw [hn] at hnc
  clear e2
  have HO := Lib.hid hown
  have HN := Lib.hid hn
  have HI := Lib.hid hi
  have HX := Lib.hid hx
  have HXK := Lib.hid hxk
  have HX1 := Lib.hid hx1
  have HG := Lib.hid hg
  have HS := Lib.hid hsz
  have HNC := Lib.hid hnc
  have HCM := Lib.hid hcm
  have y1 : (n : Int) ≤ 100000 := by omega
  have y2 : (i : Int) ≤ (n : Int) := by omega
  have y3 : (c : Int) ≤ 9223372036854775807 := by unfold maxLen at hcm; omega
  clear hown hn hi hx hxk hx1 hg hsz hnc hcm hz
  go_enter Try.func39, Try.ntmps39
  go_upto_region 1 with fail
  refine wp_region_lit ?_
  refine wpList_run (v := .slice A n c) rfl (exec_move rfl rfl) ?_
  simp only [Act.put, List.setIfInBounds_toArray, List.set_cons_zero, List.set_cons_succ]
  refine wpList_run (v := .int .i64 (i : Int)) rfl (exec_move rfl rfl) ?_
  simp only [Act.put, List.setIfInBounds_toArray, List.set_cons_zero, List.set_cons_succ]
  refine wpList_run (v := .slice (fromK 1 A c i) (n - i) (c - i)) rfl (exec_slice rfl rfl rfl rfl rfl (sl_from elmK A n c i HI.out HNC.out _)) ?_
  simp only [Act.put, List.setIfInBounds_toArray, List.set_cons_zero, List.set_cons_succ]
  go_upto_region 2 with fail
  refine wp_region_lit ?_
  refine wpList_run (v := .slice (some ⟨g, 0, none⟩) 1 1) rfl (exec_move rfl rfl) ?_
  simp only [Act.put, List.setIfInBounds_toArray, List.set_cons_zero, List.set_cons_succ]
  refine wpList_run (v := .int .i64 1) rfl (gx_len rfl rfl Try.underlying60) ?_
  simp only [Act.put, List.setIfInBounds_toArray, List.set_cons_zero, List.set_cons_succ]
  refine wpList_run (v := .int .i64 1) rfl (gx_assign rfl rfl) ?_
  simp only [Act.put, List.setIfInBounds_toArray, List.set_cons_zero, List.set_cons_succ]
  go_upto_region 3 with fail
  refine wp_region_lit ?_
  refine wpList_run (v := .int .i64 1) rfl (exec_move rfl rfl) ?_
  simp only [Act.put, List.setIfInBounds_toArray, List.set_cons_zero, List.set_cons_succ]
  refine wpList_run (v := .bool false) rfl (ix_eql rfl rfl rfl (by decide)) ?_
  simp only [Act.put, List.setIfInBounds_toArray, List.set_cons_zero, List.set_cons_succ]
  go_upto_region 5 with fail
  refine wp_region_lit ?_
  refine wpList_run (v := .slice A n c) rfl (exec_move rfl rfl) ?_
  simp only [Act.put, List.setIfInBounds_toArray, List.set_cons_zero, List.set_cons_succ]
  refine wpList_run (v := .int .i64 (n : Int)) rfl (gx_len rfl rfl Try.underlying60) ?_
  simp only [Act.put, List.setIfInBounds_toArray, List.set_cons_zero, List.set_cons_succ]
  refine wpList_run (v := .int .i64 (n : Int)) rfl (gx_assign rfl rfl) ?_
  simp only [Act.put, List.setIfInBounds_toArray, List.set_cons_zero, List.set_cons_succ]
  go_upto_region 6 with fail
  refine wp_region_lit ?_
  refine wpList_run (v := .int .i64 (i : Int)) rfl (exec_move rfl rfl) ?_
  simp only [Act.put, List.setIfInBounds_toArray, List.set_cons_zero, List.set_cons_succ]
  refine wpList_run (v := .int .i64 (n : Int)) rfl (exec_move rfl rfl) ?_
  simp only [Act.put, List.setIfInBounds_toArray, List.set_cons_zero, List.set_cons_succ]
  by_cases hin : i = n
  · refine wpList_run (v := .bool true) rfl (ix_eql rfl rfl rfl (decide_eq_true (by omega))) ?_
    simp only [Act.put, List.setIfInBounds_toArray, List.set_cons_zero, List.set_cons_succ]
    subst hin
    obtain ⟨A7, c7, w7, hrun, hrow, hgr, hob⟩ := orw_grow elmK (ty := 60) (c := 1) HO.out (Nat.zero_le _) (rws_blk HX.out HXK.out) (Fit.one HXK.out HX1.out) (fun h => by cases h) (by have := HS.out; rw [HN.out]; omega)
    rw [HN.out] at hrun hrow hob
    have HR7 := Lib.hid hrow
    have HT7 := Lib.hid (show RowTo w (.slice A i c) w7 (.slice A7 (i + 1) c7) from ⟨(Turn.refl _ w).grown hgr fun g e _ => e, fun b hb => by
      rcases hob with h | h
      · exact .inl (h.symm.trans hb)
      · rw [h] at hb
        exact .inr (by have := Option.some.inj hb; omega)⟩)
    have HE := Lib.hid (show rs.take i ++ x :: rs.drop i = rs ++ [x] from by rw [List.take_of_length_le (by rw [HN.out]; exact Nat.le_refl _), List.drop_of_length_le (by rw [HN.out]; exact Nat.le_refl _)])
    clear hrow hgr hob
    go_upto_region 7 with fail
    refine wp_region_lit ?_
    refine wpList_run (v := .slice A i c) rfl (exec_move rfl rfl) ?_
    simp only [Act.put, List.setIfInBounds_toArray, List.set_cons_zero, List.set_cons_succ]
    refine wpList_run (v := .slice (some ⟨g, 0, none⟩) 1 1) rfl (exec_move rfl rfl) ?_
    simp only [Act.put, List.setIfInBounds_toArray, List.set_cons_zero, List.set_cons_succ]
    refine wpList_run (v := .slice A7 (i + 1) c7) (w' := w7) rfl (exec_append rfl rfl rfl hrun) ?_
    simp only [Act.put, List.setIfInBounds_toArray, List.set_cons_zero, List.set_cons_succ]
    refine wpList_run (v := .slice A7 (i + 1) c7) rfl (gx_assign rfl rfl) ?_
    simp only [Act.put, List.setIfInBounds_toArray, List.set_cons_zero, List.set_cons_succ]
    clear hrun
    go_wp2_with fail
    go_ret
    rw [HE.out]
    exact ⟨_, rfl, HR7.out, HT7.out⟩
  · refine wpList_run (v := .bool false) rfl (ix_eql rfl rfl rfl (decide_eq_false (by omega))) ?_
    simp only [Act.put, List.setIfInBounds_toArray, List.set_cons_zero, List.set_cons_succ]
    have hlt : i < n := by omega
    have y4 : (i : Int) < (n : Int) := by omega
    have HLT := Lib.hid hlt
    clear hin hlt
    obtain ⟨b, rfl⟩ : ∃ b, A = some ⟨b, 0, none⟩ := by
      obtain ⟨b, c0, e, _⟩ := HO.out.some_ (by have := HLT.out; have := HN.out; omega)
      injection e with e _ _
      exact ⟨b, e⟩
    have HBG := Lib.hid (show b ≠ g from fun e => HG.out (by rw [e]; rfl))
    go_upto_region 8 with fail
    refine wp_region_lit ?_
    refine wpList_run (v := .int .i64 (n : Int)) rfl (exec_move rfl rfl) ?_
    simp only [Act.put, List.setIfInBounds_toArray, List.set_cons_zero, List.set_cons_succ]
    refine wpList_run (v := .int .i64 1) rfl (exec_move rfl rfl) ?_
    simp only [Act.put, List.setIfInBounds_toArray, List.set_cons_zero, List.set_cons_succ]
    refine wpList_run (v := .int .i64 ((n + 1 : Nat) : Int)) rfl (ix_add rfl rfl rfl (by omega) (by omega)) ?_
    simp only [Act.put, List.setIfInBounds_toArray, List.set_cons_zero, List.set_cons_succ]
    refine wpList_run (v := .slice (some ⟨b, 0, none⟩) n c) rfl (exec_move rfl rfl) ?_
    simp only [Act.put, List.setIfInBounds_toArray, List.set_cons_zero, List.set_cons_succ]
    refine wpList_run (v := .int .i64 (c : Int)) rfl (gx_cap rfl rfl Try.underlying60) ?_
    simp only [Act.put, List.setIfInBounds_toArray, List.set_cons_zero, List.set_cons_succ]
    by_cases hr : c < n + 1
    · refine wpList_run (v := .bool true) rfl (ix_gtr rfl rfl rfl (decide_eq_true (by omega))) ?_
      simp only [Act.put, List.setIfInBounds_toArray, List.set_cons_zero, List.set_cons_succ]
      obtain ⟨b9, e9, g2, c2, w2, hgw, hap, hg2, hm2, w3, hc3, w4, hc4, hrow, ht4⟩ := insK_grow elmK (ty := 3) (tn := 3) Try.underlying3 HO.out HLT.out HX.out HXK.out HX1.out hr (by have := HS.out; omega)
      obtain rfl : b = b9 := by injection e9 with e9; injection e9
      clear e9
      have HAP := Lib.hid hap
      have HC3 := Lib.hid hc3
      have HC4 := Lib.hid hc4
      have HR4 := Lib.hid hrow
      have HG2 := Lib.hid hg2
      have HT4 := Lib.hid (show RowTo w (.slice (some ⟨b, 0, none⟩) n c) w4 (.slice (some ⟨g2, 0, none⟩) (n + 1) c2) from ⟨ht4.mono fun _ _ e => e.elim, fun b' hb => .inr (by have hb : some g2 = some b' := hb; have := Option.some.inj hb; omega)⟩)
      have y5 : (n : Int) + 1 ≤ (c2 : Int) := by omega
      have y6 : (c2 : Int) ≤ 9223372036854775807 := by unfold maxLen at hm2; omega
      clear hap hc3 hc4 hrow ht4 hg2 hm2 hr hgw
      go_upto_region 9 with fail
      refine wp_region_lit ?_
      refine wpList_run (v := .slice (some ⟨b, 0, none⟩) n c) rfl (exec_move rfl rfl) ?_
      simp only [Act.put, List.setIfInBounds_toArray, List.set_cons_zero, List.set_cons_succ]
      refine wpList_run (v := .int .i64 (i : Int)) rfl (exec_move rfl rfl) ?_
      simp only [Act.put, List.setIfInBounds_toArray, List.set_cons_zero, List.set_cons_succ]
      refine wpList_run (v := .slice (some ⟨b, 0, none⟩) i c) rfl (exec_slice rfl rfl rfl rfl rfl (sl_to elmK _ n c i (by have := HNC.out; omega) _)) ?_
      simp only [Act.put, List.setIfInBounds_toArray, List.set_cons_zero, List.set_cons_succ]
      refine wpList_run (v := .int .i64 (n : Int)) rfl (exec_move rfl rfl) ?_
      simp only [Act.put, List.setIfInBounds_toArray, List.set_cons_zero, List.set_cons_succ]
      refine wpList_run (v := .int .i64 1) rfl (exec_move rfl rfl) ?_
      simp only [Act.put, List.setIfInBounds_toArray, List.set_cons_zero, List.set_cons_succ]
      refine wpList_run (v := .int .i64 ((n + 1 : Nat) : Int)) rfl (ix_add rfl rfl rfl (by omega) (by omega)) ?_
      simp only [Act.put, List.setIfInBounds_toArray, List.set_cons_zero, List.set_cons_succ]
      refine wpList_run (v := .int .i64 (i : Int)) rfl (exec_move rfl rfl) ?_
      simp only [Act.put, List.setIfInBounds_toArray, List.set_cons_zero, List.set_cons_succ]
      refine wpList_run (v := .int .i64 ((n + 1 - i : Nat) : Int)) rfl (ix_sub rfl rfl rfl (by omega) (by omega)) ?_
      simp only [Act.put, List.setIfInBounds_toArray, List.set_cons_zero, List.set_cons_succ]
      refine wpList_run (v := .slice (some ⟨g2, 0, none⟩) (n + 1) c2) (w' := w2) rfl (exec_appz rfl rfl rfl HAP.out) ?_
      simp only [Act.put, List.setIfInBounds_toArray, List.set_cons_zero, List.set_cons_succ]
      refine wpList_run (v := .slice (some ⟨g2, 0, none⟩) (n + 1) c2) rfl (gx_assign rfl rfl) ?_
      simp only [Act.put, List.setIfInBounds_toArray, List.set_cons_zero, List.set_cons_succ]
      go_upto_region 10 with fail
      refine wp_region_lit ?_
      refine wpList_run (v := .slice (some ⟨g2, 0, none⟩) (n + 1) c2) rfl (exec_move rfl rfl) ?_
      simp only [Act.put, List.setIfInBounds_toArray, List.set_cons_zero, List.set_cons_succ]
      refine wpList_run (v := .int .i64 (i : Int)) rfl (exec_move rfl rfl) ?_
      simp only [Act.put, List.setIfInBounds_toArray, List.set_cons_zero, List.set_cons_succ]
      refine wpList_run (v := .slice (some ⟨g2, i * 1, none⟩) (n + 1 - i) (c2 - i)) rfl (exec_slice rfl rfl rfl rfl rfl ((sl_from elmK _ (n + 1) c2 i (by omega) HG2.out _).trans (by rw [fromK_at (by omega), Nat.zero_add]))) ?_
      simp only [Act.put, List.setIfInBounds_toArray, List.set_cons_zero, List.set_cons_succ]
      refine wpList_run (v := .slice (some ⟨g, 0, none⟩) 1 1) rfl (exec_move rfl rfl) ?_
      simp only [Act.put, List.setIfInBounds_toArray, List.set_cons_zero, List.set_cons_succ]
      refine wpList_run (v := goInt (Nat.min 1 (n + 1 - i))) (w' := w3) rfl (exec_copy rfl rfl rfl HC3.out) ?_
      simp only [Act.put, List.setIfInBounds_toArray, List.set_cons_zero, List.set_cons_succ]
      go_upto_region 11 with fail
      refine wp_region_alw (fun _ => True) (by kernel_rfl) ?_
      have hS0 : True := trivial
      refine alw_take (i := 0) (v := .slice (some ⟨g2, 0, none⟩) (n + 1) c2) rfl (by kernel_rfl) (by kernel_rfl) (fun _ _ _ h => h) (.inl ⟨by rfl, fun W hW => exec_move rfl rfl⟩) hS0 ?_
      simp only [Act.put, List.setIfInBounds_toArray, List.set_cons_zero, List.set_cons_succ]
      refine alw_take (i := 1) (v := .int .i64 (i : Int)) rfl (by kernel_rfl) (by kernel_rfl) (fun _ _ _ h => h) (.inl ⟨by rfl, fun W hW => exec_move rfl rfl⟩) hS0 ?_
      simp only [Act.put, List.setIfInBounds_toArray, List.set_cons_zero, List.set_cons_succ]
      refine alw_take (i := 2) (v := .int .i64 1) rfl (by kernel_rfl) (by kernel_rfl) (fun _ _ _ h => h) (.inl ⟨by rfl, fun W hW => exec_move rfl rfl⟩) hS0 ?_
      simp only [Act.put, List.setIfInBounds_toArray, List.set_cons_zero, List.set_cons_succ]
      refine alw_take (i := 3) (v := .int .i64 ((i + 1 : Nat) : Int)) rfl (by kernel_rfl) (by kernel_rfl) (fun _ _ _ h => h) (.inl ⟨by rfl, fun W hW => ix_add rfl rfl rfl (by omega) (by omega)⟩) hS0 ?_
      simp only [Act.put, List.setIfInBounds_toArray, List.set_cons_zero, List.set_cons_succ]
      refine alw_take (i := 4) (v := .slice (some ⟨g2, (i + 1) * 1, none⟩) (n + 1 - (i + 1)) (c2 - (i + 1))) rfl (by kernel_rfl) (by kernel_rfl) (fun _ _ _ h => h) (.inl ⟨by rfl, fun W hW => exec_slice rfl rfl rfl rfl rfl ((sl_from elmK _ (n + 1) c2 (i + 1) (by omega) HG2.out _).trans (by by_cases hq : c2 = i + 1; exact absurd hq (by omega); rw [fromK_at (by omega), Nat.zero_add]))⟩) hS0 ?_
      simp only [Act.put, List.setIfInBounds_toArray, List.set_cons_zero, List.set_cons_succ]
      refine alw_take (i := 5) (v := .slice (some ⟨b, 0, none⟩) n c) rfl (by kernel_rfl) (by kernel_rfl) (fun _ _ _ h => h) (.inl ⟨by rfl, fun W hW => exec_move rfl rfl⟩) hS0 ?_
      simp only [Act.put, List.setIfInBounds_toArray, List.set_cons_zero, List.set_cons_succ]
      refine alw_take (i := 6) (v := .int .i64 (i : Int)) rfl (by kernel_rfl) (by kernel_rfl) (fun _ _ _ h => h) (.inl ⟨by rfl, fun W hW => exec_move rfl rfl⟩) hS0 ?_
      simp only [Act.put, List.setIfInBounds_toArray, List.set_cons_zero, List.set_cons_succ]
      refine alw_take (i := 7) (v := .slice (some ⟨b, i * 1, none⟩) (n - i) (c - i)) rfl (by kernel_rfl) (by kernel_rfl) (fun _ _ _ h => h) (.inl ⟨by rfl, fun W hW => exec_slice rfl rfl rfl rfl rfl ((sl_from elmK _ n c i (by omega) HNC.out _).trans (by rw [fromK_at (by have := HNC.out; omega), Nat.zero_add]))⟩) hS0 ?_
      simp only [Act.put, List.setIfInBounds_toArray, List.set_cons_zero, List.set_cons_succ]
      refine alw_step (i := 8) (by kernel_rfl) rfl rfl ?_
      intro K1 HK1
      refine wp_run (exec_copy rfl rfl rfl HC4.out) ?_
      refine HK1.out _ _ ⟨trivial, ?_⟩
      clear HK1
      simp only [Act.put, List.setIfInBounds_toArray, List.set_cons_zero, List.set_cons_succ]
      refine alw_done rfl ?_
      clear hS0
      refine NoPanic.normal ?_
      go_upto_region 12 with fail
      refine wp_region_lit ?_
      refine wpList_run (v := .slice (some ⟨g2, 0, none⟩) (n + 1) c2) rfl (exec_move rfl rfl) ?_
      simp only [Act.put, List.setIfInBounds_toArray, List.set_cons_zero, List.set_cons_succ]
      refine wpList_run (v := .slice (some ⟨g2, 0, none⟩) (n + 1) c2) rfl (gx_assign rfl rfl) ?_
      simp only [Act.put, List.setIfInBounds_toArray, List.set_cons_zero, List.set_cons_succ]
      go_wp2_with fail
      go_ret
      exact ⟨_, rfl, HR4.out, HT4.out⟩
    · refine wpList_run (v := .bool false) rfl (ix_gtr rfl rfl rfl (decide_eq_false (by omega))) ?_
      simp only [Act.put, List.setIfInBounds_toArray, List.set_cons_zero, List.set_cons_succ]
      have hr2 : n + 1 ≤ c := by omega
      obtain ⟨hov, w3, hc3, w4, hc4, hrow, ht4⟩ := insK_room elmK (ty := 3) HO.out HLT.out HX.out HXK.out HX1.out HBG.out hr2 4
      have HOV := Lib.hid hov
      have HC3 := Lib.hid hc3
      have HC4 := Lib.hid hc4
      have HR4 := Lib.hid hrow
      have HT4 := Lib.hid (show RowTo w (.slice (some ⟨b, 0, none⟩) n c) w4 (.slice (some ⟨b, 0, none⟩) (n + 1) c) from ⟨ht4.mono fun j _ e => by
        have e : j = b := e
        rw [e]; rfl, fun b' hb => .inl hb⟩)
      have HR2 := Lib.hid hr2
      clear hov hc3 hc4 hrow ht4 hr hr2
      go_upto_region 13 with fail
      refine wp_region_lit ?_
      refine wpList_run (v := .slice (some ⟨b, 0, none⟩) n c) rfl (exec_move rfl rfl) ?_
      simp only [Act.put, List.setIfInBounds_toArray, List.set_cons_zero, List.set_cons_succ]
      refine wpList_run (v := .int .i64 (n : Int)) rfl (exec_move rfl rfl) ?_
      simp only [Act.put, List.setIfInBounds_toArray, List.set_cons_zero, List.set_cons_succ]
      refine wpList_run (v := .int .i64 1) rfl (exec_move rfl rfl) ?_
      simp only [Act.put, List.setIfInBounds_toArray, List.set_cons_zero, List.set_cons_succ]
      refine wpList_run (v := .int .i64 ((n + 1 : Nat) : Int)) rfl (ix_add rfl rfl rfl (by omega) (by omega)) ?_
      simp only [Act.put, List.setIfInBounds_toArray, List.set_cons_zero, List.set_cons_succ]
      refine wpList_run (v := .slice (some ⟨b, 0, none⟩) (n + 1) c) rfl (exec_slice rfl rfl rfl rfl rfl (sl_to elmK _ n c (n + 1) HR2.out _)) ?_
      simp only [Act.put, List.setIfInBounds_toArray, List.set_cons_zero, List.set_cons_succ]
      refine wpList_run (v := .slice (some ⟨b, 0, none⟩) (n + 1) c) rfl (gx_assign rfl rfl) ?_
      simp only [Act.put, List.setIfInBounds_toArray, List.set_cons_zero, List.set_cons_succ]
      go_upto_region 14 with fail
      refine wp_region_lit ?_
      refine wpList_run (v := .slice (some ⟨g, 0, none⟩) 1 1) rfl (exec_move rfl rfl) ?_
      simp only [Act.put, List.setIfInBounds_toArray, List.set_cons_zero, List.set_cons_succ]
      refine wpList_run (v := .slice (some ⟨b, 0, none⟩) (n + 1) c) rfl (exec_move rfl rfl) ?_
      simp only [Act.put, List.setIfInBounds_toArray, List.set_cons_zero, List.set_cons_succ]
      refine wpList_run (v := .int .i64 (i : Int)) rfl (exec_move rfl rfl) ?_
      simp only [Act.put, List.setIfInBounds_toArray, List.set_cons_zero, List.set_cons_succ]
      refine wpList_run (v := .int .i64 1) rfl (exec_move rfl rfl) ?_
      simp only [Act.put, List.setIfInBounds_toArray, List.set_cons_zero, List.set_cons_succ]
      refine wpList_run (v := .int .i64 ((i + 1 : Nat) : Int)) rfl (ix_add rfl rfl rfl (by omega) (by omega)) ?_
      simp only [Act.put, List.setIfInBounds_toArray, List.set_cons_zero, List.set_cons_succ]
      refine wpList_run (v := .slice (some ⟨b, (i + 1) * 1, none⟩) (n + 1 - (i + 1)) (c - (i + 1))) rfl (exec_slice rfl rfl rfl rfl rfl ((sl_from elmK _ (n + 1) c (i + 1) (by omega) HR2.out _).trans (by have := HR2.out; rw [fromK_at (by omega), Nat.zero_add]))) ?_
      simp only [Act.put, List.setIfInBounds_toArray, List.set_cons_zero, List.set_cons_succ]
      refine wpList_run (v := .bool false) rfl (exec_overK rfl rfl rfl (HOV.out _ _)) ?_
      simp only [Act.put, List.setIfInBounds_toArray, List.set_cons_zero, List.set_cons_succ]
      refine wpList_run (v := .bool true) rfl (ix_not (b := false) rfl rfl) ?_
      simp only [Act.put, List.setIfInBounds_toArray, List.set_cons_zero, List.set_cons_succ]
      go_upto_region 15 with fail
      refine wp_region_alw (fun _ => True) (by kernel_rfl) ?_
      have hS0 : True := trivial
      refine alw_take (i := 0) (v := .slice (some ⟨b, 0, none⟩) (n + 1) c) rfl (by kernel_rfl) (by kernel_rfl) (fun _ _ _ h => h) (.inl ⟨by rfl, fun W hW => exec_move rfl rfl⟩) hS0 ?_
      simp only [Act.put, List.setIfInBounds_toArray, List.set_cons_zero, List.set_cons_succ]
      refine alw_take (i := 1) (v := .int .i64 (i : Int)) rfl (by kernel_rfl) (by kernel_rfl) (fun _ _ _ h => h) (.inl ⟨by rfl, fun W hW => exec_move rfl rfl⟩) hS0 ?_
      simp only [Act.put, List.setIfInBounds_toArray, List.set_cons_zero, List.set_cons_succ]
      refine alw_take (i := 2) (v := .int .i64 1) rfl (by kernel_rfl) (by kernel_rfl) (fun _ _ _ h => h) (.inl ⟨by rfl, fun W hW => exec_move rfl rfl⟩) hS0 ?_
      simp only [Act.put, List.setIfInBounds_toArray, List.set_cons_zero, List.set_cons_succ]
      refine alw_take (i := 3) (v := .int .i64 ((i + 1 : Nat) : Int)) rfl (by kernel_rfl) (by kernel_rfl) (fun _ _ _ h => h) (.inl ⟨by rfl, fun W hW => ix_add rfl rfl rfl (by omega) (by omega)⟩) hS0 ?_
      simp only [Act.put, List.setIfInBounds_toArray, List.set_cons_zero, List.set_cons_succ]
      refine alw_take (i := 4) (v := .slice (some ⟨b, (i + 1) * 1, none⟩) (n + 1 - (i + 1)) (c - (i + 1))) rfl (by kernel_rfl) (by kernel_rfl) (fun _ _ _ h => h) (.inl ⟨by rfl, fun W hW => exec_slice rfl rfl rfl rfl rfl ((sl_from elmK _ (n + 1) c (i + 1) (by omega) HR2.out _).trans (by have := HR2.out; rw [fromK_at (by omega), Nat.zero_add]))⟩) hS0 ?_
      simp only [Act.put, List.setIfInBounds_toArray, List.set_cons_zero, List.set_cons_succ]
      refine alw_take (i := 5) (v := .slice (some ⟨b, 0, none⟩) (n + 1) c) rfl (by kernel_rfl) (by kernel_rfl) (fun _ _ _ h => h) (.inl ⟨by rfl, fun W hW => exec_move rfl rfl⟩) hS0 ?_
      simp only [Act.put, List.setIfInBounds_toArray, List.set_cons_zero, List.set_cons_succ]
      refine alw_take (i := 6) (v := .int .i64 (i : Int)) rfl (by kernel_rfl) (by kernel_rfl) (fun _ _ _ h => h) (.inl ⟨by rfl, fun W hW => exec_move rfl rfl⟩) hS0 ?_
      simp only [Act.put, List.setIfInBounds_toArray, List.set_cons_zero, List.set_cons_succ]
      refine alw_take (i := 7) (v := .slice (some ⟨b, i * 1, none⟩) (n + 1 - i) (c - i)) rfl (by kernel_rfl) (by kernel_rfl) (fun _ _ _ h => h) (.inl ⟨by rfl, fun W hW => exec_slice rfl rfl rfl rfl rfl ((sl_from elmK _ (n + 1) c i (by omega) HR2.out _).trans (by have := HR2.out; rw [fromK_at (by omega), Nat.zero_add]))⟩) hS0 ?_
      simp only [Act.put, List.setIfInBounds_toArray, List.set_cons_zero, List.set_cons_succ]
      refine alw_step (i := 8) (by kernel_rfl) rfl rfl ?_
      intro K1 HK1
      refine wp_run (exec_copy rfl rfl rfl HC3.out) ?_
      refine HK1.out _ _ ⟨trivial, ?_⟩
      clear HK1
      simp only [Act.put, List.setIfInBounds_toArray, List.set_cons_zero, List.set_cons_succ]
      refine alw_done rfl ?_
      clear hS0
      refine NoPanic.normal ?_
      go_upto_region 16 with fail
      refine wp_region_lit ?_
      refine wpList_run (v := .slice (some ⟨b, 0, none⟩) (n + 1) c) rfl (exec_move rfl rfl) ?_
      simp only [Act.put, List.setIfInBounds_toArray, List.set_cons_zero, List.set_cons_succ]
      refine wpList_run (v := .int .i64 (i : Int)) rfl (exec_move rfl rfl) ?_
      simp only [Act.put, List.setIfInBounds_toArray, List.set_cons_zero, List.set_cons_succ]
      refine wpList_run (v := .slice (some ⟨b, i * 1, none⟩) (n + 1 - i) (c - i)) rfl (exec_slice rfl rfl rfl rfl rfl ((sl_from elmK _ (n + 1) c i (by omega) HR2.out _).trans (by have := HR2.out; rw [fromK_at (by omega), Nat.zero_add]))) ?_
      simp only [Act.put, List.setIfInBounds_toArray, List.set_cons_zero, List.set_cons_succ]
      refine wpList_run (v := .slice (some ⟨g, 0, none⟩) 1 1) rfl (exec_move rfl rfl) ?_
      simp only [Act.put, List.setIfInBounds_toArray, List.set_cons_zero, List.set_cons_succ]
      refine wpList_run (v := goInt (Nat.min 1 (n + 1 - i))) (w' := w4) rfl (exec_copy rfl rfl rfl HC4.out) ?_
      simp only [Act.put, List.setIfInBounds_toArray, List.set_cons_zero, List.set_cons_succ]
      go_upto_region 17 with fail
      refine wp_region_lit ?_
      refine wpList_run (v := .slice (some ⟨b, 0, none⟩) (n + 1) c) rfl (exec_move rfl rfl) ?_
      simp only [Act.put, List.setIfInBounds_toArray, List.set_cons_zero, List.set_cons_succ]
      refine wpList_run (v := .slice (some ⟨b, 0, none⟩) (n + 1) c) rfl (gx_assign rfl rfl) ?_
      simp only [Act.put, List.setIfInBounds_toArray, List.set_cons_zero, List.set_cons_succ]
      go_wp2_with fail
      go_ret
      exact ⟨_, rfl, HR4.out, HT4.out⟩
set_option maxRecDepth 20000 in
set_option maxHeartbeats 2000000 in
theorem DeleteK {w : World} {A : Option Addr} {n c i j : Nat} {rs : List (List Value)} (hown : Orw w 0 56 1 (.slice A n c) rs) (hn : rs.length = n) (hij : i ≤ j) (hj : j ≤ n) (hsz : n ≤ 100000) :
    Calls Try.prog 43 #[.slice A n c, .int .i64 (i : Int), .int .i64 (j : Int)] w fun e w' =>
      ∃ v', e = .returned v' ∧ Orw w' 0 56 1 v' (rs.take i ++ rs.drop j) ∧ RowTo w (.slice A n c) w' v' := by
  obtain ⟨A9, c9, e9, hnc, hcm, hz, _⟩ := hown.form
  injection e9 with e1 e2 e3
  subst e1 e3
  rw [hn] at hnc
  clear e2
  have HO := Lib.hid hown
  have HN := Lib.hid hn
  have HIJ := Lib.hid hij
  have HJ := Lib.hid hj
  have HS := Lib.hid hsz
  have HNC := Lib.hid hnc
  have HCM := Lib.hid hcm
  have y1 : (n : Int) ≤ 100000 := by omega
  have y2 : (j : Int) ≤ (n : Int) := by omega
  have y4 : (i : Int) ≤ (j : Int) := by omega
  have y3 : (c : Int) ≤ 9223372036854775807 := by unfold maxLen at hcm; omega
  obtain ⟨v3, h3⟩ := sl_three elmK A n c i j hij hj hnc w
  have H3 := Lib.hid h3
  clear hown hn hij hj hsz hnc hcm hz h3
  go_enter Try.func43, Try.ntmps43
  go_upto_region 1 with fail
  refine wp_region_lit ?_
  refine wpList_run (v := .slice A n c) rfl (exec_move rfl rfl) ?_
  simp only [Act.put, List.setIfInBounds_toArray, List.set_cons_zero, List.set_cons_succ]
  refine wpList_run (v := .int .i64 (i : Int)) rfl (exec_move rfl rfl) ?_
  simp only [Act.put, List.setIfInBounds_toArray, List.set_cons_zero, List.set_cons_succ]
  refine wpList_run (v := .int .i64 (j : Int)) rfl (exec_move rfl rfl) ?_
  simp only [Act.put, List.setIfInBounds_toArray, List.set_cons_zero, List.set_cons_succ]
  refine wpList_run (v := .slice A n c) rfl (exec_move rfl rfl) ?_
  simp only [Act.put, List.setIfInBounds_toArray, List.set_cons_zero, List.set_cons_succ]
  refine wpList_run (v := .int .i64 (n : Int)) rfl (gx_len rfl rfl Try.underlying60) ?_
  simp only [Act.put, List.setIfInBounds_toArray, List.set_cons_zero, List.set_cons_succ]
  refine wpList_run (v := v3) rfl (exec_slice rfl rfl rfl rfl rfl H3.out) ?_
  simp only [Act.put, List.setIfInBounds_toArray, List.set_cons_zero, List.set_cons_succ]
  go_upto_region 2 with fail
  refine wp_region_lit ?_
  refine wpList_run (v := .int .i64 (i : Int)) rfl (exec_move rfl rfl) ?_
  simp only [Act.put, List.setIfInBounds_toArray, List.set_cons_zero, List.set_cons_succ]
  refine wpList_run (v := .int .i64 (j : Int)) rfl (exec_move rfl rfl) ?_
  simp only [Act.put, List.setIfInBounds_toArray, List.set_cons_zero, List.set_cons_succ]
  by_cases hin : i = j
  · refine wpList_run (v := .bool true) rfl (ix_eql rfl rfl rfl (decide_eq_true (by omega))) ?_
    simp only [Act.put, List.setIfInBounds_toArray, List.set_cons_zero, List.set_cons_succ]
    subst hin
    have HE := Lib.hid (List.take_append_drop i rs)
    go_upto_region 3 with fail
    refine wp_region_lit ?_
    refine wpList_run (v := .slice A n c) rfl (exec_move rfl rfl) ?_
    simp only [Act.put, List.setIfInBounds_toArray, List.set_cons_zero, List.set_cons_succ]
    refine wpList_run (v := .slice A n c) rfl (gx_assign rfl rfl) ?_
    simp only [Act.put, List.setIfInBounds_toArray, List.set_cons_zero, List.set_cons_succ]
    go_wp2_with fail
    go_ret
    rw [HE.out]
    exact ⟨_, rfl, HO.out, Turn.refl _ _, fun b hb => .inl hb⟩
  · refine wpList_run (v := .bool false) rfl (ix_eql rfl rfl rfl (decide_eq_false (by omega))) ?_
    simp only [Act.put, List.setIfInBounds_toArray, List.set_cons_zero, List.set_cons_succ]
    have HLT := Lib.hid (show i < j from by omega)
    have y5 : (i : Int) < (j : Int) := by omega
    clear hin
    obtain ⟨b, rfl⟩ : ∃ b, A = some ⟨b, 0, none⟩ := by
      obtain ⟨b, c0, e, _⟩ := HO.out.some_ (by have := HLT.out; have := HJ.out; have := HN.out; omega)
      injection e with e _ _
      exact ⟨b, e⟩
    go_upto_region 4 with fail
    refine wp_region_lit ?_
    refine wpList_run (v := .slice (some ⟨b, 0, none⟩) n c) rfl (exec_move rfl rfl) ?_
    simp only [Act.put, List.setIfInBounds_toArray, List.set_cons_zero, List.set_cons_succ]
    refine wpList_run (v := .int .i64 (n : Int)) rfl (gx_len rfl rfl Try.underlying60) ?_
    simp only [Act.put, List.setIfInBounds_toArray, List.set_cons_zero, List.set_cons_succ]
    refine wpList_run (v := .int .i64 (n : Int)) rfl (gx_assign rfl rfl) ?_
    simp only [Act.put, List.setIfInBounds_toArray, List.set_cons_zero, List.set_cons_succ]
    go_upto_region 5 with fail
    obtain ⟨w5, hrun, hrow, ht5⟩ := delK_app elmK (ty := 60) (w := w.drew) (HO.out.still (Turn.refl nowhere w).drew) HIJ.out HJ.out
    have HRUN := Lib.hid hrun
    have HROW := Lib.hid hrow
    have HT5 := Lib.hid (show Turn (only b) w w5 from ((Turn.refl (only b) w).drew).trans ht5 fun _ _ e => e)
    clear hrun hrow ht5
    refine wp_region_alw (fun _ => True) (by kernel_rfl) ?_
    have hS0 : True := trivial
    refine alw_take (i := 0) (v := .slice (some ⟨b, 0, none⟩) n c) rfl (by kernel_rfl) (by kernel_rfl) (fun _ _ _ h => h) (.inl ⟨by rfl, fun W hW => exec_move rfl rfl⟩) hS0 ?_
    simp only [Act.put, List.setIfInBounds_toArray, List.set_cons_zero, List.set_cons_succ]
    refine alw_take (i := 1) (v := .int .i64 (i : Int)) rfl (by kernel_rfl) (by kernel_rfl) (fun _ _ _ h => h) (.inl ⟨by rfl, fun W hW => exec_move rfl rfl⟩) hS0 ?_
    simp only [Act.put, List.setIfInBounds_toArray, List.set_cons_zero, List.set_cons_succ]
    refine alw_take (i := 2) (v := .slice (some ⟨b, 0, none⟩) i c) rfl (by kernel_rfl) (by kernel_rfl) (fun _ _ _ h => h) (.inl ⟨by rfl, fun W hW => exec_slice rfl rfl rfl rfl rfl (sl_to elmK _ n c i (by have := HNC.out; omega) _)⟩) hS0 ?_
    simp only [Act.put, List.setIfInBounds_toArray, List.set_cons_zero, List.set_cons_succ]
    refine alw_take (i := 3) (v := .slice (some ⟨b, 0, none⟩) n c) rfl (by kernel_rfl) (by kernel_rfl) (fun _ _ _ h => h) (.inl ⟨by rfl, fun W hW => exec_move rfl rfl⟩) hS0 ?_
    simp only [Act.put, List.setIfInBounds_toArray, List.set_cons_zero, List.set_cons_succ]
    refine alw_take (i := 4) (v := .int .i64 (j : Int)) rfl (by kernel_rfl) (by kernel_rfl) (fun _ _ _ h => h) (.inl ⟨by rfl, fun W hW => exec_move rfl rfl⟩) hS0 ?_
    simp only [Act.put, List.setIfInBounds_toArray, List.set_cons_zero, List.set_cons_succ]
    refine alw_take (i := 5) (v := .slice (fromK 1 (some ⟨b, 0, none⟩) c j) (n - j) (c - j)) rfl (by kernel_rfl) (by kernel_rfl) (fun _ _ _ h => h) (.inl ⟨by rfl, fun W hW => exec_slice rfl rfl rfl rfl rfl (sl_from elmK _ n c j HJ.out HNC.out _)⟩) hS0 ?_
    simp only [Act.put, List.setIfInBounds_toArray, List.set_cons_zero, List.set_cons_succ]
    refine alw_step (i := 6) (by kernel_rfl) rfl rfl ?_
    intro K1 HK1
    refine wp_run (exec_append rfl rfl rfl HRUN.out) ?_
    refine HK1.out _ _ ⟨trivial, ?_⟩
    clear HK1
    simp only [Act.put, List.setIfInBounds_toArray, List.set_cons_zero, List.set_cons_succ]
    refine alw_take (i := 7) (v := .slice (some ⟨b, 0, none⟩) (i + (n - j)) c) rfl (by kernel_rfl) (by kernel_rfl) (fun _ _ _ h => h) (.inl ⟨by rfl, fun W hW => gx_assign rfl rfl⟩) hS0 ?_
    simp only [Act.put, List.setIfInBounds_toArray, List.set_cons_zero, List.set_cons_succ]
    refine alw_done rfl ?_
    clear hS0
    refine NoPanic.normal ?_
    have HM := Lib.hid (show i + (n - j) ≤ n from by have := HIJ.out; have := HJ.out; omega)
    obtain ⟨m, hm⟩ : ∃ m, m = i + (n - j) := ⟨_, rfl⟩
    rw [← hm] at HM HROW ⊢
    clear hm
    obtain ⟨cur, hcur, hcs, htk, hrl, hmc, _, _⟩ := orw_block HROW.out
    have hfx : fromK 1 (some ⟨b, 0, none⟩) c m = some ⟨b, m * 1, none⟩ ∨ c = m := by
      by_cases h : c = m
      · exact .inr h
      · exact .inl ((fromK_at (by omega)).trans (by rw [Nat.zero_add]))
    have hcl : ∃ w6 v6, (Builtin.clear_ #[60] 0 #[.slice (fromK 1 (some ⟨b, 0, none⟩) c m) (n - m) (c - m)]).run Try.prog w5 = .ok v6 w6 ∧ Orw w6 0 56 1 (.slice (some ⟨b, 0, none⟩) m c) (rs.take i ++ rs.drop j) ∧ Turn (only b) w5 w6 := by
      rcases hfx with h | h
      · rw [h]
        obtain ⟨w6, h1, h2, cur', h3, h4, h5⟩ := run_clearK elmK (fun w => zvK w) zvK_one (ty := 0) (o := m * 1) (n := n - m) (c := c - m) hcur (by
          rw [hcs, ← Nat.add_mul]
          exact Nat.mul_le_mul_right _ (by have := HM.out; have := HNC.out; omega))
        exact ⟨w6, _, h1, HROW.out.cleared hcur h3 h4 (Nat.le_refl _) h5, h2⟩
      · have hnm : n - m = 0 := by have := HNC.out; omega
        rw [hnm, show fromK 1 (some ⟨b, 0, none⟩) c m = some ⟨b, 0, none⟩ from by unfold fromK; rw [if_pos h]]
        refine ⟨w5, .tuple #[], ?_, HROW.out, Turn.refl _ _⟩
        simp [Builtin.clear_, run_underlying (elmK).und]
    obtain ⟨w6, v6, hcl1, hcl2, hcl3⟩ := hcl
    have HC := Lib.hid hcl1
    have HR6 := Lib.hid hcl2
    have HT6 := Lib.hid (show RowTo w (.slice (some ⟨b, 0, none⟩) n c) w6 (.slice (some ⟨b, 0, none⟩) m c) from ⟨(HT5.out.trans hcl3 fun _ _ e => e).mono fun j _ e => by
      have e : j = b := e
      rw [e]; rfl, fun b' hb => .inl hb⟩)
    have y6 : (m : Int) ≤ (n : Int) := by have := HM.out; omega
    clear hcur hcs htk hrl hmc hfx hcl1 hcl2 hcl3
    go_upto_region 6 with fail
    refine wp_region_lit ?_
    refine wpList_run (v := .slice (some ⟨b, 0, none⟩) m c) rfl (exec_move rfl rfl) ?_
    simp only [Act.put, List.setIfInBounds_toArray, List.set_cons_zero, List.set_cons_succ]
    refine wpList_run (v := .slice (some ⟨b, 0, none⟩) m c) rfl (exec_move rfl rfl) ?_
    simp only [Act.put, List.setIfInBounds_toArray, List.set_cons_zero, List.set_cons_succ]
    refine wpList_run (v := .int .i64 (m : Int)) rfl (gx_len rfl rfl Try.underlying60) ?_
    simp only [Act.put, List.setIfInBounds_toArray, List.set_cons_zero, List.set_cons_succ]
    refine wpList_run (v := .int .i64 (n : Int)) rfl (exec_move rfl rfl) ?_
    simp only [Act.put, List.setIfInBounds_toArray, List.set_cons_zero, List.set_cons_succ]
    refine wpList_run (v := .slice (fromK 1 (some ⟨b, 0, none⟩) c m) (n - m) (c - m)) rfl (exec_slice rfl rfl rfl rfl rfl (sl_mid elmK _ m n c HM.out HNC.out _)) ?_
    simp only [Act.put, List.setIfInBounds_toArray, List.set_cons_zero, List.set_cons_succ]
    refine wpList_run (v := v6) (w' := w6) rfl (exec_clear rfl rfl HC.out) ?_
    simp only [Act.put, List.setIfInBounds_toArray, List.set_cons_zero, List.set_cons_succ]
    go_upto_region 7 with fail
    refine wp_region_lit ?_
    refine wpList_run (v := .slice (some ⟨b, 0, none⟩) m c) rfl (exec_move rfl rfl) ?_
    simp only [Act.put, List.setIfInBounds_toArray, List.set_cons_zero, List.set_cons_succ]
    refine wpList_run (v := .slice (some ⟨b, 0, none⟩) m c) rfl (gx_assign rfl rfl) ?_
    simp only [Act.put, List.setIfInBounds_toArray, List.set_cons_zero, List.set_cons_succ]
    go_wp2_with fail
    go_ret
    exact ⟨_, rfl, HR6.out, HT6.out⟩
set_option maxRecDepth 20000 in
set_option maxHeartbeats 2000000 in
theorem CloneK {w : World} {A : Option Addr} {n c : Nat} {rs : List (List Value)} (hb : Rws w 1 A n rs) (hf : Fit 1 rs) (hc : A = none → c = 0) (hsz : n ≤ 100000) :
    Calls Try.prog 42 #[.slice A n c] w fun e w' =>
      ∃ v', e = .returned v' ∧ Orw w' w.heap.size 56 1 v' rs ∧ Turn nowhere w w' := by
  have HB := Lib.hid hb
  have HF := Lib.hid hf
  have HC := Lib.hid hc
  have HS := Lib.hid hsz
  clear hb hf hc hsz
  go_enter Try.func42, Try.ntmps42
  go_upto_region 1 with fail
  refine wp_region_lit ?_
  refine wpList_run (v := .slice A n c) rfl (exec_move rfl rfl) ?_
  simp only [Act.put, List.setIfInBounds_toArray, List.set_cons_zero, List.set_cons_succ]
  rcases hA : A with _ | a
  · subst hA
    have h0 : n = 0 := by
      rcases Nat.eq_zero_or_pos n with h | h
      · exact h
      · obtain ⟨_, _, _, h4⟩ := HB.out
        obtain ⟨_, _, e, _⟩ := h4 h
        cases e
    subst h0
    have h1 : rs = [] := List.eq_nil_of_length_eq_zero HB.out.1
    subst h1
    obtain rfl := HC.out rfl
    refine wpList_run (v := .bool true) rfl (exec_eqnil rfl rfl rfl Try.underlying60 rfl) ?_
    simp only [Act.put, List.setIfInBounds_toArray, List.set_cons_zero, List.set_cons_succ]
    go_wp2_with fail
    go_ret
    exact ⟨_, rfl, Orw.nil _ _ _ _, Turn.refl _ _⟩
  · subst hA
    obtain ⟨A7, c7, w7, hrun, hrow, ht7⟩ := copy_rws elmK (ty := 60) (c := c) HB.out HF.out (fun h => by cases h) (by have := HS.out; omega)
    have HRUN := Lib.hid hrun
    have HR7 := Lib.hid hrow
    have HT7 := Lib.hid ht7
    clear hrun hrow ht7
    refine wpList_run (v := .bool false) rfl (exec_eqnil rfl rfl rfl Try.underlying60 rfl) ?_
    simp only [Act.put, List.setIfInBounds_toArray, List.set_cons_zero, List.set_cons_succ]
    go_upto_region 3 with fail
    refine wp_region_lit ?_
    refine wpList_run (v := .slice (some ⟨w.heap.size, 0, none⟩) 0 0) (w' := w.alloc (.cells #[] 56)) rfl (bx_slice0 rfl (build0K _)) ?_
    simp only [Act.put, List.setIfInBounds_toArray, List.set_cons_zero, List.set_cons_succ]
    refine wpList_run (v := .slice (some a) n c) rfl (exec_move rfl rfl) ?_
    simp only [Act.put, List.setIfInBounds_toArray, List.set_cons_zero, List.set_cons_succ]
    refine wpList_run (v := .slice A7 n c7) (w' := w7) rfl (exec_append rfl rfl rfl HRUN.out) ?_
    simp only [Act.put, List.setIfInBounds_toArray, List.set_cons_zero, List.set_cons_succ]
    refine wpList_run (v := .slice A7 n c7) rfl (gx_assign rfl rfl) ?_
    simp only [Act.put, List.setIfInBounds_toArray, List.set_cons_zero, List.set_cons_succ]
    go_wp2_with fail
    go_ret
    exact ⟨_, rfl, HR7.out, HT7.out⟩
end Go.Proofs.Ytmlkdkbpbleilaa

namespace Go.Proofs.Ytmlkdkbpbleilaa
open Go.RowKit
open Ix
set_option linter.unusedVariables false
set_option linter.unusedSimpArgs false
/-- a value of one cell goes into a block: the world under a name of its own -/
theorem wpList_storeU {P : Program} {ops : Array Oper} {rest : List Oper} {o : Oper} {a : Act} {w : World} {Q : Exit → Act → World → Prop} (i : Nat) (v : Value) (hgd : Region.wanted o (yielded ops a.tmps) = true) (ty : TypeId) (x y : Operand) (ho : o.op = .store ty x y) {g : Nat} {t : TypeId} {old : Array Value} (hb : Blk w g t old)
    (hx : a.eval x = .pointer (some ⟨g, i, none⟩)) (hy : a.eval y = v) (hi : i < old.size) (hv : v.cells = #[v] ∧ v.oneCell' = true) (hsz : (P.info? ty).map (·.size) = some 1)
    (h : ∀ w', Blk w' g t (old.setIfInBounds i v) → Turn (only g) w w' → wpList P ops Q rest (a.put o.dst undef) w') : wpList P ops Q (o :: rest) a w :=
  wpList_store1 hgd ty x y ho hb hx hy hi hv.1 hv.2 hsz (h _)
theorem slice_one {w : World} {B k : Nat} {et : TypeId} {v : Value} {rs : List (List Value)} (h : Orw w B et k v rs) : v.cells = #[v] ∧ v.oneCell' = true := by
  obtain ⟨A9, c9, rfl, _⟩ := h.form
  exact ⟨rfl, rfl⟩
structure Nd0 where
  ps : List Pr
  ks : List Nat
  vp : Value
  vk : Value
abbrev Hp := Nat → Option Nd0
/-- the nodes lie in memory, none on another one's rows -/
structure In (w : World) (H : Hp) : Prop where
  at_ : ∀ {p : Nat} {nd : Nd0}, H p = some nd → NodeAt w p nd.vp nd.vk nd.ps nd.ks
  sepP : ∀ {p q : Nat} {a b : Nd0} {g : Nat}, H p = some a → H q = some b → a.vp.ownBlock = some g → b.vp.ownBlock = some g → p = q
  sepK : ∀ {p q : Nat} {a b : Nd0} {g : Nat}, H p = some a → H q = some b → a.vk.ownBlock = some g → b.vk.ownBlock = some g → p = q
def foot (H : Hp) : Nat → Prop := fun b => ∃ p nd, H p = some nd ∧ (b = p ∨ nd.vp.ownBlock = some b ∨ nd.vk.ownBlock = some b)
def up (H : Hp) (p : Nat) (nd : Nd0) : Hp := fun q => if q = p then some nd else H q
theorem up_same (H : Hp) (p : Nat) (nd : Nd0) : up H p nd p = some nd := if_pos rfl
theorem up_other (H : Hp) (p : Nat) (nd : Nd0) {q : Nat} (h : q ≠ p) : up H p nd q = H q := if_neg h
/-- what a call leaves -/
structure To (w : World) (H : Hp) (w' : World) (H' : Hp) : Prop where
  in_ : In w' H'
  turn : Turn (foot H) w w'
  foot : ∀ b, foot H' b → Go.Proofs.Ytmlkdkbpbleilaa.foot H b ∨ w.heap.size ≤ b
theorem Orw.own_blk {w : World} {B k : Nat} {et : TypeId} {v : Value} {rs : List (List Value)} (h : Orw w B et k v rs) {b : Nat} (hb : v.ownBlock = some b) : ∃ cur, Blk w b et cur := by
  rcases h.2.2 with ⟨rfl, _⟩ | ⟨g, cap, cur, rfl, _, hg, _⟩
  · cases hb
  · obtain rfl : g = b := Option.some.inj hb
    exact ⟨cur, hg⟩
theorem In.foot_lt {w : World} {H : Hp} (h : In w H) {b : Nat} (hb : foot H b) : b < w.heap.size := by
  obtain ⟨p, nd, hp, hb⟩ := hb
  have hn := h.at_ hp
  rcases hb with rfl | hb | hb
  · exact hn.blk.lt
  · exact (hn.prs.lt hb).2
  · exact (hn.kds.lt hb).2
theorem To.refl {w : World} {H : Hp} (h : In w H) : To w H w H := ⟨h, Turn.refl _ _, fun b hb => .inl hb⟩
theorem To.trans {w w1 w2 : World} {H H1 H2 : Hp} (h : To w H w1 H1) (g : To w1 H1 w2 H2) : To w H w2 H2 := by
  refine ⟨g.in_, h.turn.trans g.turn fun k hk hf => ?_, fun b hb => ?_⟩
  · rcases h.foot k hf with h1 | h1
    · exact h1
    · omega
  · rcases g.foot b hb with h1 | h1
    · exact h.foot b h1
    · exact .inr (by have := h.turn.size; omega)
theorem In.turn {w w' : World} {H : Hp} {F : Nat → Prop} (h : In w H) (ht : Turn F w w') (hF : ∀ b, F b → ¬ foot H b) : In w' H :=
  ⟨fun {p nd} hp => ⟨(h.at_ hp).blk.turn ht fun e => hF p e ⟨p, nd, hp, .inl rfl⟩, (h.at_ hp).prs.turn ht fun b hb e => hF b e ⟨p, nd, hp, .inr (.inl hb)⟩, (h.at_ hp).kds.turn ht fun b hb e => hF b e ⟨p, nd, hp, .inr (.inr hb)⟩⟩, h.sepP, h.sepK⟩
theorem In.still {w w' : World} {H : Hp} (h : In w H) (ht : Turn nowhere w w') : In w' H := h.turn ht fun _ e => e.elim
theorem To.still {w w' : World} {H : Hp} (h : In w H) (ht : Turn nowhere w w') : To w H w' H := ⟨h.still ht, ht.mono fun _ _ e => e.elim, fun b hb => .inl hb⟩
/-- a node's pairs changed, its own row or a new one -/
theorem In.setP {w w1 w2 : World} {H : Hp} {p : Nat} {nd : Nd0} {v' : Value} {ps' : List Pr} (h : In w H) (hp : H p = some nd) (ht1 : Turn (fun b => nd.vp.ownBlock = some b) w w1) (hown : ∀ b, v'.ownBlock = some b → nd.vp.ownBlock = some b ∨ w.heap.size ≤ b)
    (ht2 : Turn (only p) w1 w2) (hb : Blk w2 p 62 #[v', nd.vk]) (hr : Orw w1 0 65 2 v' (ps'.map encP)) : To w H w2 (up H p ⟨ps', nd.ks, v', nd.vk⟩) := by
  have hn := h.at_ hp
  have key : ∀ {q : Nat} {b : Nd0}, H q = some b → ∀ {g : Nat}, b.vp.ownBlock = some g → v'.ownBlock = some g → q = p := by
    intro q b hq g h1 h2
    rcases hown g h2 with h3 | h3
    · exact h.sepP hq hp h1 h3
    · have := ((h.at_ hq).prs.lt h1).2
      omega
  have hpw1 : Blk w1 p 62 #[nd.vp, nd.vk] := hn.blk.turn ht1 fun e => hn.prs.ne hn.blk (by decide) _ e rfl
  refine ⟨⟨fun {q b} hq => ?_, fun {q r a b g} hq hr2 h1 h2 => ?_, fun {q r a b g} hq hr2 h1 h2 => ?_⟩, ?_, ?_⟩
  · by_cases hqp : q = p
    · subst hqp
      rw [up_same] at hq
      obtain rfl := Option.some.inj hq
      refine ⟨hb, hr.turn ht2 fun b hb2 e => ?_, (hn.kds.turn ht1 fun b hb2 e => ?_).turn ht2 fun b hb2 e => ?_⟩
      · exact hr.ne hpw1 (by decide) b hb2 e
      · obtain ⟨c1, hc1⟩ := hn.kds.own_blk hb2
        obtain ⟨c2, hc2⟩ := hn.prs.own_blk e
        exact hc1.ne_ hc2 (by decide) rfl
      · exact hn.kds.ne hn.blk (by decide) b hb2 e
    · rw [up_other _ _ _ hqp] at hq
      have hm := h.at_ hq
      refine ⟨(hm.blk.turn ht1 fun e => ?_).turn ht2 fun e => hqp e, (hm.prs.turn ht1 fun b2 hb2 e => hqp (h.sepP hq hp hb2 e)).turn ht2 fun b2 hb2 e => ?_, (hm.kds.turn ht1 fun b2 hb2 e => ?_).turn ht2 fun b2 hb2 e => ?_⟩
      · exact hn.prs.ne hm.blk (by decide) _ e rfl
      · exact hm.prs.ne hn.blk (by decide) b2 hb2 e
      · obtain ⟨c1, hc1⟩ := hm.kds.own_blk hb2
        obtain ⟨c2, hc2⟩ := hn.prs.own_blk e
        exact hc1.ne_ hc2 (by decide) rfl
      · exact hm.kds.ne hn.blk (by decide) b2 hb2 e
  · by_cases hqp : q = p
    · subst hqp
      rw [up_same] at hq
      obtain rfl := Option.some.inj hq
      by_cases hrp : r = q
      · exact hrp.symm
      · rw [up_other _ _ _ hrp] at hr2
        exact absurd (key hr2 h2 h1) hrp
    · rw [up_other _ _ _ hqp] at hq
      by_cases hrp : r = p
      · subst hrp
        rw [up_same] at hr2
        obtain rfl := Option.some.inj hr2
        exact absurd (key hq h1 h2) hqp
      · rw [up_other _ _ _ hrp] at hr2
        exact h.sepP hq hr2 h1 h2
  · by_cases hqp : q = p
    · subst hqp
      rw [up_same] at hq
      obtain rfl := Option.some.inj hq
      by_cases hrp : r = q
      · exact hrp.symm
      · rw [up_other _ _ _ hrp] at hr2
        exact h.sepK hp hr2 h1 h2
    · rw [up_other _ _ _ hqp] at hq
      by_cases hrp : r = p
      · subst hrp
        rw [up_same] at hr2
        obtain rfl := Option.some.inj hr2
        exact h.sepK hq hp h1 h2
      · rw [up_other _ _ _ hrp] at hr2
        exact h.sepK hq hr2 h1 h2
  · exact (ht1.mono (G := foot H) fun k _ e => ⟨p, nd, hp, .inr (.inl e)⟩).trans (ht2.mono (G := foot H) fun k _ e => ⟨p, nd, hp, .inl e⟩) fun _ _ e => e
  · intro b hb2
    obtain ⟨q, nd2, hq, hb2⟩ := hb2
    by_cases hqp : q = p
    · subst hqp
      rw [up_same] at hq
      obtain rfl := Option.some.inj hq
      rcases hb2 with rfl | hb2 | hb2
      · exact .inl ⟨_, nd, hp, .inl rfl⟩
      · rcases hown b hb2 with h1 | h1
        · exact .inl ⟨_, nd, hp, .inr (.inl h1)⟩
        · exact .inr h1
      · exact .inl ⟨_, nd, hp, .inr (.inr hb2)⟩
    · rw [up_other _ _ _ hqp] at hq
      exact .inl ⟨q, nd2, hq, hb2⟩
/-- a node's kids changed, its own row or a new one -/
theorem In.setK {w w1 w2 : World} {H : Hp} {p : Nat} {nd : Nd0} {v' : Value} {ks' : List Nat} (h : In w H) (hp : H p = some nd) (ht1 : Turn (fun b => nd.vk.ownBlock = some b) w w1) (hown : ∀ b, v'.ownBlock = some b → nd.vk.ownBlock = some b ∨ w.heap.size ≤ b)
    (ht2 : Turn (only p) w1 w2) (hb : Blk w2 p 62 #[nd.vp, v']) (hr : Orw w1 0 56 1 v' (ks'.map encK)) : To w H w2 (up H p ⟨nd.ps, ks', nd.vp, v'⟩) := by
  have hn := h.at_ hp
  have key : ∀ {q : Nat} {b : Nd0}, H q = some b → ∀ {g : Nat}, b.vk.ownBlock = some g → v'.ownBlock = some g → q = p := by
    intro q b hq g h1 h2
    rcases hown g h2 with h3 | h3
    · exact h.sepK hq hp h1 h3
    · have := ((h.at_ hq).kds.lt h1).2
      omega
  have hpw1 : Blk w1 p 62 #[nd.vp, nd.vk] := hn.blk.turn ht1 fun e => hn.kds.ne hn.blk (by decide) _ e rfl
  refine ⟨⟨fun {q b} hq => ?_, fun {q r a b g} hq hr2 h1 h2 => ?_, fun {q r a b g} hq hr2 h1 h2 => ?_⟩, ?_, ?_⟩
  · by_cases hqp : q = p
    · subst hqp
      rw [up_same] at hq
      obtain rfl := Option.some.inj hq
      refine ⟨hb, (hn.prs.turn ht1 fun b hb2 e => ?_).turn ht2 fun b hb2 e => ?_, hr.turn ht2 fun b hb2 e => hr.ne hpw1 (by decide) b hb2 e⟩
      · obtain ⟨c1, hc1⟩ := hn.prs.own_blk hb2
        obtain ⟨c2, hc2⟩ := hn.kds.own_blk e
        exact hc1.ne_ hc2 (by decide) rfl
      · exact hn.prs.ne hn.blk (by decide) b hb2 e
    · rw [up_other _ _ _ hqp] at hq
      have hm := h.at_ hq
      refine ⟨(hm.blk.turn ht1 fun e => ?_).turn ht2 fun e => hqp e, (hm.prs.turn ht1 fun b2 hb2 e => ?_).turn ht2 fun b2 hb2 e => ?_, (hm.kds.turn ht1 fun b2 hb2 e => hqp (h.sepK hq hp hb2 e)).turn ht2 fun b2 hb2 e => hm.kds.ne hn.blk (by decide) b2 hb2 e⟩
      · exact hn.kds.ne hm.blk (by decide) _ e rfl
      · obtain ⟨c1, hc1⟩ := hm.prs.own_blk hb2
        obtain ⟨c2, hc2⟩ := hn.kds.own_blk e
        exact hc1.ne_ hc2 (by decide) rfl
      · exact hm.prs.ne hn.blk (by decide) b2 hb2 e
  · by_cases hqp : q = p
    · subst hqp
      rw [up_same] at hq
      obtain rfl := Option.some.inj hq
      by_cases hrp : r = q
      · exact hrp.symm
      · rw [up_other _ _ _ hrp] at hr2
        exact h.sepP hp hr2 h1 h2
    · rw [up_other _ _ _ hqp] at hq
      by_cases hrp : r = p
      · subst hrp
        rw [up_same] at hr2
        obtain rfl := Option.some.inj hr2
        exact h.sepP hq hp h1 h2
      · rw [up_other _ _ _ hrp] at hr2
        exact h.sepP hq hr2 h1 h2
  · by_cases hqp : q = p
    · subst hqp
      rw [up_same] at hq
      obtain rfl := Option.some.inj hq
      by_cases hrp : r = q
      · exact hrp.symm
      · rw [up_other _ _ _ hrp] at hr2
        exact absurd (key hr2 h2 h1) hrp
    · rw [up_other _ _ _ hqp] at hq
      by_cases hrp : r = p
      · subst hrp
        rw [up_same] at hr2
        obtain rfl := Option.some.inj hr2
        exact absurd (key hq h1 h2) hqp
      · rw [up_other _ _ _ hrp] at hr2
        exact h.sepK hq hr2 h1 h2
  · exact (ht1.mono (G := foot H) fun k _ e => ⟨p, nd, hp, .inr (.inr e)⟩).trans (ht2.mono (G := foot H) fun k _ e => ⟨p, nd, hp, .inl e⟩) fun _ _ e => e
  · intro b hb2
    obtain ⟨q, nd2, hq, hb2⟩ := hb2
    by_cases hqp : q = p
    · subst hqp
      rw [up_same] at hq
      obtain rfl := Option.some.inj hq
      rcases hb2 with rfl | hb2 | hb2
      · exact .inl ⟨_, nd, hp, .inl rfl⟩
      · exact .inl ⟨_, nd, hp, .inr (.inl hb2)⟩
      · rcases hown b hb2 with h1 | h1
        · exact .inl ⟨_, nd, hp, .inr (.inr h1)⟩
        · exact .inr h1
    · rw [up_other _ _ _ hqp] at hq
      exact .inl ⟨q, nd2, hq, hb2⟩
/-- a new node -/
theorem In.new {w w' : World} {H : Hp} {p : Nat} {nd : Nd0} (h : In w H) (ht : Turn nowhere w w') (hp : w.heap.size ≤ p) (hn : NodeAt w' p nd.vp nd.vk nd.ps nd.ks) (hP : ∀ b, nd.vp.ownBlock = some b → w.heap.size ≤ b) (hK : ∀ b, nd.vk.ownBlock = some b → w.heap.size ≤ b) : To w H w' (up H p nd) := by
  refine ⟨⟨fun {q b} hq => ?_, fun {q r a b g} hq hr2 h1 h2 => ?_, fun {q r a b g} hq hr2 h1 h2 => ?_⟩, ht.mono fun _ _ e => e.elim, ?_⟩
  · by_cases hqp : q = p
    · subst hqp
      rw [up_same] at hq
      obtain rfl := Option.some.inj hq
      exact hn
    · rw [up_other _ _ _ hqp] at hq
      exact (h.still ht).at_ hq
  · by_cases hqp : q = p
    · subst hqp
      rw [up_same] at hq
      obtain rfl := Option.some.inj hq
      by_cases hrp : r = q
      · exact hrp.symm
      · rw [up_other _ _ _ hrp] at hr2
        have := ((h.at_ hr2).prs.lt h2).2
        have := hP _ h1
        omega
    · rw [up_other _ _ _ hqp] at hq
      by_cases hrp : r = p
      · subst hrp
        rw [up_same] at hr2
        obtain rfl := Option.some.inj hr2
        have := ((h.at_ hq).prs.lt h1).2
        have := hP _ h2
        omega
      · rw [up_other _ _ _ hrp] at hr2
        exact h.sepP hq hr2 h1 h2
  · by_cases hqp : q = p
    · subst hqp
      rw [up_same] at hq
      obtain rfl := Option.some.inj hq
      by_cases hrp : r = q
      · exact hrp.symm
      · rw [up_other _ _ _ hrp] at hr2
        have := ((h.at_ hr2).kds.lt h2).2
        have := hK _ h1
        omega
    · rw [up_other _ _ _ hqp] at hq
      by_cases hrp : r = p
      · subst hrp
        rw [up_same] at hr2
        obtain rfl := Option.some.inj hr2
        have := ((h.at_ hq).kds.lt h1).2
        have := hK _ h2
        omega
      · rw [up_other _ _ _ hrp] at hr2
        exact h.sepK hq hr2 h1 h2
  · intro b hb2
    obtain ⟨q, nd2, hq, hb2⟩ := hb2
    by_cases hqp : q = p
    · subst hqp
      rw [up_same] at hq
      obtain rfl := Option.some.inj hq
      rcases hb2 with rfl | hb2 | hb2
      · exact .inr hp
      · exact .inr (hP _ hb2)
      · exact .inr (hK _ hb2)
    · rw [up_other _ _ _ hqp] at hq
      exact .inl ⟨q, nd2, hq, hb2⟩
/-- a node -/
def Is (H : Hp) (p : Nat) (ps : List Pr) (ks : List Nat) : Prop := ∃ vp vk, H p = some ⟨ps, ks, vp, vk⟩
def Same (H H' : Hp) (S : Nat → Prop) : Prop := ∀ q, ¬ S q → H' q = H q
theorem Is.same {H H' : Hp} {S : Nat → Prop} {p : Nat} {ps : List Pr} {ks : List Nat} (h : Is H p ps ks) (hs : Same H H' S) (hp : ¬ S p) : Is H' p ps ks := by
  obtain ⟨vp, vk, h⟩ := h
  exact ⟨vp, vk, (hs p hp).trans h⟩
theorem Is.up_ (H : Hp) (p : Nat) (nd : Nd0) : Is (up H p nd) p nd.ps nd.ks := ⟨nd.vp, nd.vk, up_same _ _ _⟩
theorem same_up (H : Hp) (p : Nat) (nd : Nd0) : Same H (up H p nd) (fun q => q = p) := fun q hq => up_other _ _ _ hq
theorem Same.trans {H H1 H2 : Hp} {S T U : Nat → Prop} (h : Same H H1 S) (g : Same H1 H2 T) (hS : ∀ q, S q → U q) (hT : ∀ q, T q → U q) : Same H H2 U := fun q hq => (g q fun e => hq (hT q e)).trans (h q fun e => hq (hS q e))
theorem Is.lt {w : World} {H : Hp} (h : In w H) {p : Nat} {ps : List Pr} {ks : List Nat} (hp : Is H p ps ks) : p < w.heap.size := by
  obtain ⟨vp, vk, hp⟩ := hp
  exact (h.at_ hp).blk.lt
/-- an element of a row set -/
theorem orw_set {w w' : World} {B k b n c i : Nat} {et : TypeId} {rs : List (List Value)} {r : List Value} {cur cur' : Array Value} (h : Orw w B et k (.slice (some ⟨b, 0, none⟩) n c) rs) (hb : Blk w b et cur) (hb' : Blk w' b et cur') (hs : cur'.size = cur.size) (hi : i < n)
    (hr : r.length = k) (h1 : ∀ u ∈ r, u.oneCell' = true) (hc : ∀ j, cur'[j]? = if i * k ≤ j ∧ j < i * k + k then r[j - i * k]? else cur[j]?) (hk : 0 < k) : Orw w' B et k (.slice (some ⟨b, 0, none⟩) n c) (rs.set i r) := by
  obtain ⟨cur0, hcur, hcs, htake, hn, hnc, hcm, hB⟩ := orw_block h
  obtain rfl := hcur.inj hb
  have hf : Fit k (rs.set i r) := fun x hx => by
    rcases List.mem_or_eq_of_mem_set hx with hx | rfl
    · exact h.1 x hx
    · exact ⟨hr, h1⟩
  refine orw_of hb' hB hf (by rw [List.length_set]; exact hn) hnc hcm (hs.trans hcs) ?_
  apply List.ext_getElem?
  intro j
  by_cases hj : j < n * k
  · rw [List.getElem?_take, if_pos hj, Array.getElem?_toList, hc]
    have hd : j / k < n := (Nat.div_lt_iff_lt_mul hk).2 hj
    have hjj : j = j / k * k + j % k := by rw [Nat.mul_comm]; exact (Nat.div_add_mod j k).symm
    have hm := Nat.mod_lt j hk
    have old : rs.flatten[j]? = cur0[j]? := by
      rw [← htake, List.getElem?_take, if_pos hj, Array.getElem?_toList]
    by_cases hij : j / k = i
    · have e1 : i * k ≤ j ∧ j < i * k + k := by rw [← hij]; omega
      rw [if_pos e1]
      have hx : (rs.set i r)[j / k]? = some r := by rw [hij, List.getElem?_set_self (by omega)]
      have := flat_at hf hx hm
      rw [← hjj] at this
      rw [this, ← hij]
      congr 1
      omega
    · have e1 : ¬ (i * k ≤ j ∧ j < i * k + k) := by
        rintro ⟨e1, e2⟩
        apply hij
        have h1 : i ≤ j / k := (Nat.le_div_iff_mul_le hk).2 e1
        have h2 : j / k < i + 1 := (Nat.div_lt_iff_lt_mul hk).2 (by rw [Nat.succ_mul]; exact e2)
        omega
      rw [if_neg e1, ← old]
      have hx0 : rs[j / k]? = some rs[j / k] := List.getElem?_eq_getElem (by omega)
      have hx : (rs.set i r)[j / k]? = some rs[j / k] := by rw [List.getElem?_set_ne (fun e => hij e.symm)]; exact hx0
      have a1 := flat_at hf hx hm
      have a2 := flat_at h.1 hx0 hm
      rw [← hjj] at a1 a2
      rw [a1, a2]
  · rw [List.getElem?_eq_none (by rw [List.length_take]; omega), List.getElem?_eq_none (by rw [flat_len hf, List.length_set, hn]; omega)]
end Go.Proofs.Ytmlkdkbpbleilaa

namespace Go.Proofs.Ytmlkdkbpbleilaa
open Go.RowKit
open Ix
set_option linter.unusedVariables false
set_option linter.unusedSimpArgs false
theorem zero_pair (w : World) : (zeroValue 65).run Try.prog w = .ok (.agg #[.string ByteArray.empty, .int .i64 0]) w := zvP w
theorem del_map {α β : Type} (f : α → β) (l : List α) (i j : Nat) : (l.map f).take i ++ (l.map f).drop j = (l.take i ++ l.drop j).map f := by rw [List.map_append, List.map_take, List.map_drop]
theorem ins_map {α β : Type} (f : α → β) (l : List α) (i : Nat) (x : α) : (l.map f).take i ++ f x :: (l.map f).drop i = (l.take i ++ x :: l.drop i).map f := by rw [List.map_append, List.map_take, List.map_cons, List.map_drop]
/-- a load out of a row: the address as it comes -/
theorem Orw.el0 {w : World} {B b k n c : Nat} {et : TypeId} {rs : List (List Value)} (h : Orw w B et k (.slice (some ⟨b, 0, none⟩) n c) rs) {i : Nat} {r : List Value} (hr : rs[i]? = some r) : w.rangeAt b (0 + i * k) r := by
  rw [Nat.zero_add]; exact h.el hr
theorem blk_ne_foot {w : World} {H : Hp} (h : In w H) {b : Nat} (hb : w.heap.size ≤ b) : ¬ foot H b := fun e => by have := h.foot_lt e; omega
set_option maxRecDepth 20000 in
set_option maxHeartbeats 1000000 in
theorem takePair_walk {w : World} {H : Hp} {p : Nat} {ps : List Pr} {ks : List Nat} {i : Nat} {x : Pr} (hin : In w H) (hp : Is H p ps ks) (hx : ps[i]? = some x) (hl : ps.length ≤ 100000) :
    Calls Try.prog 44 #[.pointer (some ⟨p, 0, none⟩), .int .i64 (i : Int)] w fun e w' => e = .returned (.agg (encP x).toArray) ∧ ∃ H', To w H w' H' ∧ Is H' p (ps.take i ++ ps.drop (i + 1)) ks ∧ Same H H' (fun q => q = p) := by
  obtain ⟨vp, vk, hp⟩ := hp
  have hn : NodeAt w p vp vk ps ks := hin.at_ hp
  have hi : i < ps.length := (List.getElem?_eq_some_iff.1 hx).1
  obtain ⟨b, c, e, hnc, hcm⟩ := hn.prs.some_ (by rw [List.length_map]; omega)
  rw [List.length_map] at e hnc
  obtain ⟨n, hnl⟩ : ∃ n, n = ps.length := ⟨_, rfl⟩
  rw [← hnl] at e hnc hi hl
  subst e
  have hb0 := Blk.new w 65 #[.string ⟨#[]⟩, .int .i64 0]
  have hu0 := (Turn.refl nowhere w).alloc (.cells #[.string ⟨#[]⟩, .int .i64 0] 65)
  have HIN := Lib.hid hin
  have HP := Lib.hid hp
  have HX := Lib.hid hx
  have HLT := Lib.hid hi
  have HL := Lib.hid hl
  have HNL := Lib.hid hnl
  have y1 : (i : Int) < (n : Int) := by omega
  have y2 : (n : Int) ≤ 100000 := by omega
  clear hin hp hx hi hl hnl hn hnc hcm
  go_enter Try.func44, Try.ntmps44
  go_upto_region 1 with fail
  obtain ⟨b0, hg0⟩ : ∃ g, g = w.heap.size := ⟨_, rfl⟩
  rw [← hg0] at hb0 ⊢
  have HG0 := Lib.hid hg0
  clear hg0
  generalize w.alloc (.cells #[.string ⟨#[]⟩, .int .i64 0] 65) = w1 at *
  have HB0 := Lib.hid hb0
  have HT1 := Lib.hid hu0
  have HI1 := Lib.hid (HIN.out.still hu0)
  clear hb0 hu0
  have HN1 := Lib.hid (show NodeAt w1 p (.slice (some ⟨b, 0, none⟩) n c) vk ps ks from HI1.out.at_ HP.out)
  refine wp_region_lit ?_
  refine wpList_run (v := .pointer (some ⟨p, 0, none⟩)) rfl (exec_move rfl rfl) ?_
  simp only [Act.put, List.setIfInBounds_toArray, List.set_cons_zero, List.set_cons_succ]
  refine wpList_run (v := .pointer (some ⟨p, 0, none⟩)) rfl (exec_nil rfl rfl) ?_
  simp only [Act.put, List.setIfInBounds_toArray, List.set_cons_zero, List.set_cons_succ]
  refine wpList_run (v := .pointer (some ⟨p, 0, none⟩)) rfl (exec_field (off := 0) (d := 0) rfl rfl (by kernel_rfl)) ?_
  simp only [Act.put, List.setIfInBounds_toArray, List.set_cons_zero, List.set_cons_succ]
  refine wpList_run (v := .slice (some ⟨b, 0, none⟩) n c) rfl (exec_load1 rfl rfl (by kernel_rfl) (HN1.out.blk.cell 0)) ?_
  simp only [Act.put, List.setIfInBounds_toArray, List.set_cons_zero, List.set_cons_succ]
  refine wpList_run (v := .int .i64 (i : Int)) rfl (exec_move rfl rfl) ?_
  simp only [Act.put, List.setIfInBounds_toArray, List.set_cons_zero, List.set_cons_succ]
  refine wpList_run (v := .pointer (some ⟨b, 0 + i * 2, none⟩)) rfl (gx_iaddr (i := i) (sz := 2) rfl rfl rfl Try.underlying59 size_pair HLT.out rfl) ?_
  simp only [Act.put, List.setIfInBounds_toArray, List.set_cons_zero, List.set_cons_succ]
  refine wpList_run (v := .agg (encP x).toArray) rfl (gx_loads rfl rfl (HN1.out.prs.el0 (by rw [List.getElem?_map, HX.out]; rfl)) Try.underlying65 rfl (by rw [size_pair]; rfl)) ?_
  simp only [Act.put, List.setIfInBounds_toArray, List.set_cons_zero, List.set_cons_succ]
  refine wpList_new 65 (.tmp 5) (.tmp 12) (encP x).toArray rfl rfl (zero_pair _) rfl rfl rfl rfl rfl rfl (by rw [size_pair]; rfl) (fun v hv => encP_one x v (by simpa using hv)) ?_
  intro w2 g5 hge hb5 ht2
  simp only [Act.put, List.setIfInBounds_toArray, List.set_cons_zero, List.set_cons_succ]
  have HB5 := Lib.hid hb5
  have HT2 := Lib.hid ht2
  have HG5 := Lib.hid (show w.heap.size ≤ g5 from Nat.le_trans HT1.out.size hge)
  have HI2 := Lib.hid (HI1.out.still ht2)
  have HG05 := Lib.hid (show b0 ≠ g5 from by have := HB0.out.lt; omega)
  have HN2 := Lib.hid (show NodeAt w2 p (.slice (some ⟨b, 0, none⟩) n c) vk ps ks from HI2.out.at_ HP.out)
  clear hb5 ht2 hge
  go_upto_region 2 with fail
  refine wp_region_lit ?_
  refine wpList_run (v := .pointer (some ⟨p, 0, none⟩)) rfl (exec_move rfl rfl) ?_
  simp only [Act.put, List.setIfInBounds_toArray, List.set_cons_zero, List.set_cons_succ]
  refine wpList_run (v := .pointer (some ⟨p, 0, none⟩)) rfl (exec_move rfl rfl) ?_
  simp only [Act.put, List.setIfInBounds_toArray, List.set_cons_zero, List.set_cons_succ]
  refine wpList_run (v := .pointer (some ⟨p, 0, none⟩)) rfl (exec_nil rfl rfl) ?_
  simp only [Act.put, List.setIfInBounds_toArray, List.set_cons_zero, List.set_cons_succ]
  refine wpList_run (v := .pointer (some ⟨p, 0, none⟩)) rfl (exec_field (off := 0) (d := 0) rfl rfl (by kernel_rfl)) ?_
  simp only [Act.put, List.setIfInBounds_toArray, List.set_cons_zero, List.set_cons_succ]
  refine wpList_run (v := .slice (some ⟨b, 0, none⟩) n c) rfl (exec_load1 rfl rfl (by kernel_rfl) (HN2.out.blk.cell 0)) ?_
  simp only [Act.put, List.setIfInBounds_toArray, List.set_cons_zero, List.set_cons_succ]
  refine wpList_run (v := .int .i64 (i : Int)) rfl (exec_move rfl rfl) ?_
  simp only [Act.put, List.setIfInBounds_toArray, List.set_cons_zero, List.set_cons_succ]
  refine wpList_run (v := .int .i64 (i : Int)) rfl (exec_move rfl rfl) ?_
  simp only [Act.put, List.setIfInBounds_toArray, List.set_cons_zero, List.set_cons_succ]
  refine wpList_run (v := .int .i64 ((i + 1 : Nat) : Int)) rfl (ix_add rfl rfl rfl (by omega) (by omega)) ?_
  simp only [Act.put, List.setIfInBounds_toArray, List.set_cons_zero, List.set_cons_succ]
  refine wpList_op rfl fun K9 HK9 => ?_
  go_wp2_with fail
  refine (DeleteP (i := i) (j := i + 1) HN2.out.prs (by rw [List.length_map]; exact HNL.out.symm) (by omega) HLT.out HL.out).mono ?_
  rintro e w3 ⟨v', rfl, hrow, hto⟩
  refine HK9.out _ _ ?_
  clear HK9
  try simp only [Act.put, List.setIfInBounds_toArray, List.set_cons_zero, List.set_cons_succ]
  have HROW := Lib.hid hrow
  have HTO := Lib.hid hto
  have hblk3 : Blk w3 p 62 #[.slice (some ⟨b, 0, none⟩) n c, vk] := HN2.out.blk.turn hto.1 fun e => HN2.out.prs.ne HN2.out.blk (by decide) _ e rfl
  have HBK3 := Lib.hid hblk3
  clear hrow hto hblk3
  refine wpList_run (v := .pointer (some ⟨p, 0, none⟩)) rfl (exec_nil rfl rfl) ?_
  simp only [Act.put, List.setIfInBounds_toArray, List.set_cons_zero, List.set_cons_succ]
  refine wpList_run (v := .pointer (some ⟨p, 0, none⟩)) rfl (exec_field (off := 0) (d := 0) rfl rfl (by kernel_rfl)) ?_
  simp only [Act.put, List.setIfInBounds_toArray, List.set_cons_zero, List.set_cons_succ]
  refine wpList_storeU 0 v' rfl 59 _ _ rfl HBK3.out rfl rfl (by show 0 < 2; omega) (slice_one HROW.out) size_sP ?_
  intro w4 hb4 ht4
  simp only [Act.put, List.setIfInBounds_toArray, List.set_cons_zero, List.set_cons_succ]
  have hto := HI2.out.setP (ps' := ps.take i ++ ps.drop (i + 1)) HP.out HTO.out.1 HTO.out.2 ht4 hb4 (by have h := HROW.out; rw [del_map] at h; exact h)
  have HTO4 := Lib.hid hto
  have hnew : ∀ g, w.heap.size ≤ g → g < w2.heap.size → ∀ k, (k = p ∨ (Value.slice (some ⟨b, 0, none⟩) n c).ownBlock = some k) → k ≠ g := fun g hg hg2 k hk e => by
    subst e
    have h1 := HIN.out.foot_lt (b := k) ⟨p, _, HP.out, by rcases hk with rfl | hk; exact .inl rfl; exact .inr (.inl hk)⟩
    omega
  have hkeep : ∀ {g : Nat} {t : TypeId} {cs : Array Value}, w.heap.size ≤ g → Blk w2 g t cs → Blk w4 g t cs := fun hg hb => (hb.turn HTO.out.1 fun e => hnew _ hg hb.lt _ (.inr e) rfl).turn ht4 fun e => hnew _ hg hb.lt _ (.inl rfl) (show _ = _ from e.symm ▸ rfl)
  have HK0 := Lib.hid (hkeep (by rw [← HG0.out]; exact Nat.le_refl _) (HB0.out.turn HT2.out fun e => e))
  have HK5 := Lib.hid (hkeep HG5.out HB5.out)
  clear hto hnew hkeep hb4
  have HT4 := Lib.hid ht4
  clear ht4
  go_upto_region 3 with fail
  refine wp_region_lit ?_
  refine wpList_run (v := .agg (encP x).toArray) rfl (gx_loads rfl rfl (blk_range HK5.out) Try.underlying65 rfl (by rw [size_pair]; rfl)) ?_
  simp only [Act.put, List.setIfInBounds_toArray, List.set_cons_zero, List.set_cons_succ]
  refine wpList_store_row rfl 65 (.tmp 4) (.tmp 24) rfl (encP x).toArray HK0.out rfl rfl rfl (by rw [size_pair]; rfl) (fun v hv => encP_one x v (by simpa using hv)) ?_
  intro w5 hb5 ht5
  simp only [Act.put, List.setIfInBounds_toArray, List.set_cons_zero, List.set_cons_succ]
  have HE := Lib.hid hb5
  have HT5 := Lib.hid ht5
  clear hb5 ht5
  go_wp2_with fail
  refine bodyPost_ret (v := .agg (encP x).toArray) (results_cell_row rfl _ _ b0 65 _ (0, 0) _ rfl HE.out Try.underlying65 rfl size_pair) rfl ⟨rfl, _, ?_, Is.up_ H p ⟨ps.take i ++ ps.drop (i + 1), ks, v', vk⟩, same_up _ _ _⟩
  have h1 := (To.still HIN.out (HT1.out.trans HT2.out fun _ _ e => e)).trans HTO4.out
  have hnf : ∀ k, only b0 k → ¬ foot (up H p ⟨ps.take i ++ ps.drop (i + 1), ks, v', vk⟩) k := fun k e hf => by
    have e : k = b0 := e
    subst e
    rcases HTO4.out.foot _ hf with h | h
    · exact blk_ne_foot HIN.out (by rw [HG0.out]; exact Nat.le_refl _) h
    · have := HB0.out.lt
      have := HT2.out.size
      omega
  refine ⟨h1.in_.turn HT5.out hnf, h1.turn.trans HT5.out (fun k hk e => ?_), h1.foot⟩
  have e : k = b0 := e
  have := HG0.out
  omega
theorem kid_cell {w : World} {p : Nat} {vp : Value} {b n c : Nat} {ps : List Pr} {ks : List Nat} (h : NodeAt w p vp (.slice (some ⟨b, 0, none⟩) n c) ps ks) {i k : Nat} (hk : ks[i]? = some k) : w.cell? ⟨b, 0 + i * 1, none⟩ = some (.pointer (some ⟨k, 0, none⟩)) := by
  have := h.kds.el0 (i := i) (r := encK k) (by rw [List.getElem?_map, hk]; rfl) 0 (.pointer (some ⟨k, 0, none⟩)) rfl
  simpa using this
set_option maxRecDepth 20000 in
set_option maxHeartbeats 1000000 in
theorem takeKid_walk {w : World} {H : Hp} {p : Nat} {ps : List Pr} {ks : List Nat} {i x : Nat} (hin : In w H) (hp : Is H p ps ks) (hx : ks[i]? = some x) (hl : ks.length ≤ 100000) :
    Calls Try.prog 61 #[.pointer (some ⟨p, 0, none⟩), .int .i64 (i : Int)] w fun e w' => e = .returned (.pointer (some ⟨x, 0, none⟩)) ∧ ∃ H', To w H w' H' ∧ Is H' p ps (ks.take i ++ ks.drop (i + 1)) ∧ Same H H' (fun q => q = p) := by
  obtain ⟨vp, vk, hp⟩ := hp
  have hn : NodeAt w p vp vk ps ks := hin.at_ hp
  have hi : i < ks.length := (List.getElem?_eq_some_iff.1 hx).1
  obtain ⟨b, c, e, hnc, hcm⟩ := hn.kds.some_ (by rw [List.length_map]; omega)
  rw [List.length_map] at e hnc
  obtain ⟨n, hnl⟩ : ∃ n, n = ks.length := ⟨_, rfl⟩
  rw [← hnl] at e hnc hi hl
  subst e
  have HIN := Lib.hid hin
  have HP := Lib.hid hp
  have HX := Lib.hid hx
  have HLT := Lib.hid hi
  have HL := Lib.hid hl
  have HNL := Lib.hid hnl
  have HN := Lib.hid hn
  have y1 : (i : Int) < (n : Int) := by omega
  have y2 : (n : Int) ≤ 100001 := by omega
  clear hin hp hx hi hl hnl hn hnc hcm
  go_enter Try.func61, Try.ntmps61
  go_upto_region 1 with fail
  refine wp_region_lit ?_
  refine wpList_run (v := .pointer (some ⟨p, 0, none⟩)) rfl (exec_move rfl rfl) ?_
  simp only [Act.put, List.setIfInBounds_toArray, List.set_cons_zero, List.set_cons_succ]
  refine wpList_run (v := .pointer (some ⟨p, 0, none⟩)) rfl (exec_nil rfl rfl) ?_
  simp only [Act.put, List.setIfInBounds_toArray, List.set_cons_zero, List.set_cons_succ]
  refine wpList_run (v := .pointer (some ⟨p, 1, none⟩)) rfl (exec_field (off := 0) (d := 1) rfl rfl (by kernel_rfl)) ?_
  simp only [Act.put, List.setIfInBounds_toArray, List.set_cons_zero, List.set_cons_succ]
  refine wpList_run (v := .slice (some ⟨b, 0, none⟩) n c) rfl (exec_load1 rfl rfl (by kernel_rfl) (HN.out.blk.cell 1)) ?_
  simp only [Act.put, List.setIfInBounds_toArray, List.set_cons_zero, List.set_cons_succ]
  refine wpList_run (v := .int .i64 (i : Int)) rfl (exec_move rfl rfl) ?_
  simp only [Act.put, List.setIfInBounds_toArray, List.set_cons_zero, List.set_cons_succ]
  refine wpList_run (v := .pointer (some ⟨b, 0 + i * 1, none⟩)) rfl (gx_iaddr (i := i) (sz := 1) rfl rfl rfl Try.underlying60 size_ptr HLT.out rfl) ?_
  simp only [Act.put, List.setIfInBounds_toArray, List.set_cons_zero, List.set_cons_succ]
  refine wpList_run (v := .pointer (some ⟨x, 0, none⟩)) rfl (exec_load1 rfl rfl (by kernel_rfl) (kid_cell HN.out HX.out)) ?_
  simp only [Act.put, List.setIfInBounds_toArray, List.set_cons_zero, List.set_cons_succ]
  refine wpList_run (v := .pointer (some ⟨x, 0, none⟩)) rfl (gx_assign rfl rfl) ?_
  simp only [Act.put, List.setIfInBounds_toArray, List.set_cons_zero, List.set_cons_succ]
  go_upto_region 2 with fail
  refine wp_region_lit ?_
  refine wpList_run (v := .pointer (some ⟨p, 0, none⟩)) rfl (exec_move rfl rfl) ?_
  simp only [Act.put, List.setIfInBounds_toArray, List.set_cons_zero, List.set_cons_succ]
  refine wpList_run (v := .pointer (some ⟨p, 0, none⟩)) rfl (exec_move rfl rfl) ?_
  simp only [Act.put, List.setIfInBounds_toArray, List.set_cons_zero, List.set_cons_succ]
  refine wpList_run (v := .pointer (some ⟨p, 0, none⟩)) rfl (exec_nil rfl rfl) ?_
  simp only [Act.put, List.setIfInBounds_toArray, List.set_cons_zero, List.set_cons_succ]
  refine wpList_run (v := .pointer (some ⟨p, 1, none⟩)) rfl (exec_field (off := 0) (d := 1) rfl rfl (by kernel_rfl)) ?_
  simp only [Act.put, List.setIfInBounds_toArray, List.set_cons_zero, List.set_cons_succ]
  refine wpList_run (v := .slice (some ⟨b, 0, none⟩) n c) rfl (exec_load1 rfl rfl (by kernel_rfl) (HN.out.blk.cell 1)) ?_
  simp only [Act.put, List.setIfInBounds_toArray, List.set_cons_zero, List.set_cons_succ]
  refine wpList_run (v := .int .i64 (i : Int)) rfl (exec_move rfl rfl) ?_
  simp only [Act.put, List.setIfInBounds_toArray, List.set_cons_zero, List.set_cons_succ]
  refine wpList_run (v := .int .i64 (i : Int)) rfl (exec_move rfl rfl) ?_
  simp only [Act.put, List.setIfInBounds_toArray, List.set_cons_zero, List.set_cons_succ]
  refine wpList_run (v := .int .i64 ((i + 1 : Nat) : Int)) rfl (ix_add rfl rfl rfl (by omega) (by omega)) ?_
  simp only [Act.put, List.setIfInBounds_toArray, List.set_cons_zero, List.set_cons_succ]
  refine wpList_op rfl fun K9 HK9 => ?_
  go_wp2_with fail
  refine (DeleteK (i := i) (j := i + 1) HN.out.kds (by rw [List.length_map]; exact HNL.out.symm) (by omega) HLT.out HL.out).mono ?_
  rintro e w3 ⟨v', rfl, hrow, hto⟩
  refine HK9.out _ _ ?_
  clear HK9
  try simp only [Act.put, List.setIfInBounds_toArray, List.set_cons_zero, List.set_cons_succ]
  have HROW := Lib.hid hrow
  have HTO := Lib.hid hto
  have hblk3 : Blk w3 p 62 #[vp, .slice (some ⟨b, 0, none⟩) n c] := HN.out.blk.turn hto.1 fun e => HN.out.kds.ne HN.out.blk (by decide) _ e rfl
  have HBK3 := Lib.hid hblk3
  clear hrow hto hblk3
  refine wpList_run (v := .pointer (some ⟨p, 0, none⟩)) rfl (exec_nil rfl rfl) ?_
  simp only [Act.put, List.setIfInBounds_toArray, List.set_cons_zero, List.set_cons_succ]
  refine wpList_run (v := .pointer (some ⟨p, 1, none⟩)) rfl (exec_field (off := 0) (d := 1) rfl rfl (by kernel_rfl)) ?_
  simp only [Act.put, List.setIfInBounds_toArray, List.set_cons_zero, List.set_cons_succ]
  refine wpList_storeU 1 v' rfl 60 _ _ rfl HBK3.out rfl rfl (by show 1 < 2; omega) (slice_one HROW.out) size_sK ?_
  intro w4 hb4 ht4
  simp only [Act.put, List.setIfInBounds_toArray, List.set_cons_zero, List.set_cons_succ]
  have HTO4 := Lib.hid (HIN.out.setK (ks' := ks.take i ++ ks.drop (i + 1)) HP.out HTO.out.1 HTO.out.2 ht4 hb4 (by have h := HROW.out; rw [del_map] at h; exact h))
  clear hb4 ht4
  go_upto_region 3 with fail
  refine wp_region_lit ?_
  refine wpList_run (v := .pointer (some ⟨x, 0, none⟩)) rfl (exec_move rfl rfl) ?_
  simp only [Act.put, List.setIfInBounds_toArray, List.set_cons_zero, List.set_cons_succ]
  refine wpList_run (v := .pointer (some ⟨x, 0, none⟩)) rfl (gx_assign rfl rfl) ?_
  simp only [Act.put, List.setIfInBounds_toArray, List.set_cons_zero, List.set_cons_succ]
  go_wp2_with fail
  go_ret
  exact ⟨rfl, _, HTO4.out, Is.up_ H p ⟨ps, ks.take i ++ ks.drop (i + 1), vp, v'⟩, same_up _ _ _⟩
theorem only_none {w : World} {H : Hp} {p : Nat} {ps : List Pr} (hin : In w H) (hp : Is H p ps []) :
    Calls Try.prog 30 #[.pointer (some ⟨p, 0, none⟩)] w fun e w' => e = .returned (.pointer none) ∧ w' = w := by
  obtain ⟨vp, vk, hp⟩ := hp
  have HN := Lib.hid (show NodeAt w p vp vk ps [] from hin.at_ hp)
  clear hin hp
  go_enter Try.func30, Try.ntmps30
  go_upto_region 1 with fail
  refine wp_region_lit ?_
  refine wpList_run (v := .pointer (some ⟨p, 0, none⟩)) rfl (exec_move rfl rfl) ?_
  simp only [Act.put, List.setIfInBounds_toArray, List.set_cons_zero, List.set_cons_succ]
  refine wpList_op rfl fun K9 HK9 => ?_
  go_wp2_with fail
  refine (lowest_walk HN.out).mono ?_
  rintro e w1 ⟨rfl, rfl⟩
  refine HK9.out _ _ ?_
  clear HK9
  try simp only [Act.put, List.setIfInBounds_toArray, List.set_cons_zero, List.set_cons_succ]
  go_wp2_with fail
  go_ret
  exact ⟨rfl, rfl⟩
theorem only_kid {w : World} {H : Hp} {p : Nat} {ps : List Pr} {ks : List Nat} {x : Nat} (hin : In w H) (hp : Is H p ps ks) (hx : ks[0]? = some x) :
    Calls Try.prog 30 #[.pointer (some ⟨p, 0, none⟩)] w fun e w' => e = .returned (.pointer (some ⟨x, 0, none⟩)) ∧ w' = w := by
  obtain ⟨i, h0⟩ : ∃ i, i = 0 := ⟨0, rfl⟩
  rw [← h0] at hx
  obtain ⟨vp, vk, hp⟩ := hp
  have hn : NodeAt w p vp vk ps ks := hin.at_ hp
  have hi : i < ks.length := (List.getElem?_eq_some_iff.1 hx).1
  obtain ⟨b, c, e, hnc, hcm⟩ := hn.kds.some_ (by rw [List.length_map]; omega)
  rw [List.length_map] at e
  obtain ⟨n, hnl⟩ : ∃ n, n = ks.length := ⟨_, rfl⟩
  rw [← hnl] at e hi
  subst e h0
  have HX := Lib.hid hx
  have HLT := Lib.hid hi
  have HN := Lib.hid hn
  have hd : decide (ks = []) = false := by
    cases ks with
    | nil => cases hx
    | cons _ _ => rfl
  have HD := Lib.hid hd
  clear hin hp hx hi hnl hn hnc hcm hd
  go_enter Try.func30, Try.ntmps30
  go_upto_region 1 with fail
  refine wp_region_lit ?_
  refine wpList_run (v := .pointer (some ⟨p, 0, none⟩)) rfl (exec_move rfl rfl) ?_
  simp only [Act.put, List.setIfInBounds_toArray, List.set_cons_zero, List.set_cons_succ]
  have hw := lowest_walk HN.out
  rw [HD.out] at hw
  refine wpList_op rfl fun K9 HK9 => ?_
  go_wp2_with fail
  refine (hw).mono ?_
  rintro e w1 ⟨rfl, rfl⟩
  refine HK9.out _ _ ?_
  clear HK9
  try simp only [Act.put, List.setIfInBounds_toArray, List.set_cons_zero, List.set_cons_succ]
  clear hw
  go_upto_region 3 with fail
  refine wp_region_lit ?_
  refine wpList_run (v := .pointer (some ⟨p, 0, none⟩)) rfl (exec_move rfl rfl) ?_
  simp only [Act.put, List.setIfInBounds_toArray, List.set_cons_zero, List.set_cons_succ]
  refine wpList_run (v := .pointer (some ⟨p, 0, none⟩)) rfl (exec_nil rfl rfl) ?_
  simp only [Act.put, List.setIfInBounds_toArray, List.set_cons_zero, List.set_cons_succ]
  refine wpList_run (v := .pointer (some ⟨p, 1, none⟩)) rfl (exec_field (off := 0) (d := 1) rfl rfl (by kernel_rfl)) ?_
  simp only [Act.put, List.setIfInBounds_toArray, List.set_cons_zero, List.set_cons_succ]
  refine wpList_run (v := .slice (some ⟨b, 0, none⟩) n c) rfl (exec_load1 rfl rfl (by kernel_rfl) (HN.out.blk.cell 1)) ?_
  simp only [Act.put, List.setIfInBounds_toArray, List.set_cons_zero, List.set_cons_succ]
  refine wpList_run (v := .pointer (some ⟨b, 0 + 0 * 1, none⟩)) rfl (gx_iaddr (i := 0) (sz := 1) rfl rfl rfl Try.underlying60 size_ptr HLT.out rfl) ?_
  simp only [Act.put, List.setIfInBounds_toArray, List.set_cons_zero, List.set_cons_succ]
  refine wpList_run (v := .pointer (some ⟨x, 0, none⟩)) rfl (exec_load1 rfl rfl (by kernel_rfl) (kid_cell HN.out HX.out)) ?_
  simp only [Act.put, List.setIfInBounds_toArray, List.set_cons_zero, List.set_cons_succ]
  refine wpList_run (v := .pointer (some ⟨x, 0, none⟩)) rfl (gx_assign rfl rfl) ?_
  simp only [Act.put, List.setIfInBounds_toArray, List.set_cons_zero, List.set_cons_succ]
  go_wp2_with fail
  go_ret
  exact ⟨rfl, rfl⟩
end Go.Proofs.Ytmlkdkbpbleilaa

namespace Go.Proofs.Ytmlkdkbpbleilaa
open Go.RowKit
open Ix
set_option linter.unusedVariables false
set_option linter.unusedSimpArgs false
theorem ix_quo {a : Act} {o : Oper} {W : World} {x y : Operand} {n m : Nat} (ho : o.op = .binOp .quo 3 x y 3) (hx : a.eval x = .int .i64 (n : Int)) (hy : a.eval y = .int .i64 (m : Int)) (hm : 0 < m) (hn : n ≤ 9223372036854775807) : (execOp a.eval o).run Try.prog W = .ok (.value (.int .i64 ((n / m : Nat) : Int))) W := by
  have hm1 : (m : Int) ≠ 0 := by omega
  obtain ⟨q, hq⟩ : ∃ q : Nat, q = n / m := ⟨_, rfl⟩
  have hlt : q ≤ n := by rw [hq]; exact Nat.div_le_self _ _
  have e : (n : Int).tdiv (m : Int) = (q : Int) := by rw [hq]; rfl
  rw [← hq]
  have hw : IntKind.i64.wrap (q : Int) = (q : Int) := by rw [IntKind.wrap_i64]; omega
  unfold execOp
  simp only [ho, hx, hy]
  go_simp
  rw [if_neg (by omega), show IntKind.i64.wrap ((n : Int) / (m : Int)) = (n : Int) / (m : Int) from by rw [← Int.natCast_ediv, ← hq]; exact hw]
theorem gx_build1 {P : Program} {a : Act} {o : Oper} {t : TypeId} {x0 : Operand} {u0 r : Value} {W : World} (ho : o.op = .build t #[(0, x0)]) (h0 : a.eval x0 = u0)
    (h : (Instr.build t #[(0, u0)]).run P W = .ok r W) : (execOp a.eval o).run P W = .ok (.value r) W := by
  unfold execOp
  simp only [ho, List.map_toArray, List.map_cons, List.map_nil, h0, h, Sem.run_bind, Sem.run_pure, Result.andThen_ok]
theorem gx_box {P : Program} {a : Act} {o : Oper} {t : TypeId} {x : Operand} {cs : Array Value} {W W' : World} {v : Value} (ho : o.op = .box t x) (hx : a.eval x = .agg cs) (h : (Instr.box t (.agg cs)).run P W = .ok v W') : (execOp a.eval o).run P W = .ok (.value v) W' := by
  unfold execOp
  simp only [ho, hx, h, Sem.run_bind, Sem.run_pure, Result.andThen_ok]
theorem box_node (A : Option Addr) (n c : Nat) (A2 : Option Addr) (n2 c2 : Nat) (w : World) : (Instr.box 62 (.agg #[.slice A n c, .slice A2 n2 c2])).run Try.prog w = .ok (.pointer (some ⟨w.heap.size, 0, none⟩)) (w.alloc (.cells #[.slice A n c, .slice A2 n2 c2] 62)) := by
  simp [Instr.box, newVar, newRow, Result.andThen, Value.cells]
theorem build_node1 (A : Option Addr) (n c : Nat) (w : World) : (Instr.build 62 #[(0, .slice A n c)]).run Try.prog w = .ok (.agg #[.slice A n c, .slice none 0 0]) w := by kernel_rfl
theorem gx_not {a : Act} {o : Oper} {W : World} {x : Operand} {b r : Bool} {t : TypeId} (ho : o.op = .unOp .not t x) (hx : a.eval x = .bool b) (hr : (!b) = r) : (execOp a.eval o).run Try.prog W = .ok (.value (.bool r)) W := by
  subst hr
  unfold execOp
  simp only [ho, hx]
  go_simp
theorem ret_cell2 {P : Program} {fn : Func} {p u : Tmp} {ty : TypeId} (h : fn.results = #[.cell p ty, .tmp u]) (tmps : Array Value) (w : World) (g : Nat) (t : TypeId) (cs : Array Value) (d : TypeDesc) {v : Value}
    (hp : tmps.getD p undef = .pointer (some ⟨g, 0, none⟩)) (hv : tmps.getD u undef = v) (hg : Blk w g t cs) (hu : P.underlying ty = some d) (hd : (match d with | .struct _ | .array _ _ => true | _ => false) = true) (hi : (P.info? ty).map (·.size) = some cs.size) :
    (results fn tmps).run P w = .ok (.tuple #[.agg cs, v]) w := by
  subst hv
  have hp' : tmps[p]?.getD undef = .pointer (some ⟨g, 0, none⟩) := by simpa using hp
  rw [results_cell_tmp h]
  simp [hp', asAddr, run_loadVar_row w g t ty cs (0, 0) d hg hu hd hi, Result.andThen]
/-- a block that no node knows -/
def Aux (w : World) (H : Hp) (g : Nat) (t : TypeId) (cs : Array Value) : Prop := Blk w g t cs ∧ ¬ foot H g
theorem Aux.to {w w' : World} {H H' : Hp} {g : Nat} {t : TypeId} {cs : Array Value} (h : Aux w H g t cs) (ht : To w H w' H') : Aux w' H' g t cs := ⟨h.1.turn ht.turn h.2, fun e => by
  rcases ht.foot _ e with e | e
  · exact h.2 e
  · have := h.1.lt; omega⟩
theorem Aux.still {w w' : World} {H : Hp} {g : Nat} {t : TypeId} {cs : Array Value} (h : Aux w H g t cs) (ht : Turn nowhere w w') : Aux w' H g t cs := ⟨h.1.turn ht fun e => e, h.2⟩
theorem Aux.new {w0 w : World} {H : Hp} (h : In w0 H) {g : Nat} {t : TypeId} {cs : Array Value} (hg : w0.heap.size ≤ g) (hb : Blk w g t cs) : Aux w H g t cs := ⟨hb, fun e => by have := h.foot_lt e; omega⟩
/-- a store into such a block -/
theorem To.aux {w0 w w' : World} {H0 H : Hp} {g : Nat} {t : TypeId} {cs : Array Value} (h : To w0 H0 w H) (hg : w0.heap.size ≤ g) (ha : Aux w H g t cs) (ht : Turn (only g) w w') : To w0 H0 w' H :=
  ⟨h.in_.turn ht fun b e => by have e : b = g := e; rw [e]; exact ha.2, h.turn.trans ht fun k hk e => (by have e : k = g := e; omega), h.foot⟩
set_option maxRecDepth 20000 in
set_option maxHeartbeats 4000000 in
theorem split_walk {w : World} {H : Hp} {p : Nat} {ps : List Pr} {ks : List Nat} {x : Pr} (hin : In w H) (hp : Is H p ps ks) (hx : ps[ps.length / 2]? = some x) (hl : ps.length < 100000) (hk : ks = [] ∨ ks.length = ps.length + 1) :
    Calls Try.prog 27 #[.pointer (some ⟨p, 0, none⟩)] w fun e w' => ∃ r H', e = .returned (.tuple #[.agg (encP x).toArray, .pointer (some ⟨r, 0, none⟩)]) ∧ w.heap.size ≤ r ∧ To w H w' H' ∧
      Is H' p (ps.take (ps.length / 2)) (ks.take (ps.length / 2 + 1)) ∧ Is H' r (ps.drop (ps.length / 2 + 1)) (ks.drop (ps.length / 2 + 1)) ∧ Same H H' (fun q => q = p ∨ q = r) := by
  obtain ⟨vp, vk, hp⟩ := hp
  have hn : NodeAt w p vp vk ps ks := hin.at_ hp
  obtain ⟨h2, hh2⟩ : ∃ h2, h2 = ps.length / 2 := ⟨_, rfl⟩
  rw [← hh2] at hx ⊢
  have hi : h2 < ps.length := (List.getElem?_eq_some_iff.1 hx).1
  obtain ⟨b, c, e, hnc, hcm⟩ := hn.prs.some_ (by rw [List.length_map]; omega)
  rw [List.length_map] at e hnc
  obtain ⟨Ak, ck, ek, hzk⟩ := krows_of hn.kds
  obtain ⟨m, hml⟩ : ∃ m, m = ks.length := ⟨_, rfl⟩
  rw [← hml] at ek
  obtain ⟨n, hnl⟩ : ∃ n, n = ps.length := ⟨_, rfl⟩
  rw [← hnl] at e hnc hi hl hk hh2
  subst e ek
  have hb0 := Blk.new w 65 #[.string ⟨#[]⟩, .int .i64 0]
  have hu0 := (Turn.refl nowhere w).alloc (.cells #[.string ⟨#[]⟩, .int .i64 0] 65)
  have HIN := Lib.hid hin
  have HP := Lib.hid hp
  have HX := Lib.hid hx
  have HLT := Lib.hid hi
  have HL := Lib.hid hl
  have HNL := Lib.hid hnl
  have HML := Lib.hid hml
  have HK := Lib.hid hk
  have HH := Lib.hid hh2
  have HNC := Lib.hid hnc
  have HZK := Lib.hid hzk
  have y1 : (h2 : Int) < (n : Int) := by omega
  have y2 : (n : Int) ≤ 100000 := by omega
  clear hin hp hx hi hl hnl hml hk hh2 hn hnc hcm hzk
  go_enter Try.func27, Try.ntmps27
  go_upto_region 1 with fail
  obtain ⟨b0, hg0⟩ : ∃ g, g = w.heap.size := ⟨_, rfl⟩
  rw [← hg0] at hb0 ⊢
  generalize w.alloc (.cells #[.string ⟨#[]⟩, .int .i64 0] 65) = w1 at *
  have HA0 := Lib.hid (Aux.new HIN.out (show w.heap.size ≤ b0 by omega) hb0)
  have HG0 := Lib.hid (show w.heap.size ≤ b0 by omega)
  have HT1 := Lib.hid hu0
  have HI1 := Lib.hid (HIN.out.still hu0)
  clear hb0 hu0 hg0
  have HN1 := Lib.hid (show NodeAt w1 p (.slice (some ⟨b, 0, none⟩) n c) (.slice Ak m ck) ps ks from HI1.out.at_ HP.out)
  refine wp_region_lit ?_
  refine wpList_run (v := .pointer (some ⟨p, 0, none⟩)) rfl (exec_move rfl rfl) ?_
  simp only [Act.put, List.setIfInBounds_toArray, List.set_cons_zero, List.set_cons_succ]
  refine wpList_run (v := .pointer (some ⟨p, 0, none⟩)) rfl (exec_nil rfl rfl) ?_
  simp only [Act.put, List.setIfInBounds_toArray, List.set_cons_zero, List.set_cons_succ]
  refine wpList_run (v := .pointer (some ⟨p, 0, none⟩)) rfl (exec_field (off := 0) (d := 0) rfl rfl (by kernel_rfl)) ?_
  simp only [Act.put, List.setIfInBounds_toArray, List.set_cons_zero, List.set_cons_succ]
  refine wpList_run (v := .slice (some ⟨b, 0, none⟩) n c) rfl (exec_load1 rfl rfl (by kernel_rfl) (HN1.out.blk.cell 0)) ?_
  simp only [Act.put, List.setIfInBounds_toArray, List.set_cons_zero, List.set_cons_succ]
  refine wpList_run (v := .int .i64 (n : Int)) rfl (gx_len rfl rfl Try.underlying59) ?_
  simp only [Act.put, List.setIfInBounds_toArray, List.set_cons_zero, List.set_cons_succ]
  refine wpList_run (v := .int .i64 (h2 : Int)) rfl (by rw [HH.out]; exact ix_quo (n := n) (m := 2) rfl rfl rfl (by decide) (by omega)) ?_
  simp only [Act.put, List.setIfInBounds_toArray, List.set_cons_zero, List.set_cons_succ]
  refine wpList_run (v := .int .i64 (h2 : Int)) rfl (gx_assign rfl rfl) ?_
  simp only [Act.put, List.setIfInBounds_toArray, List.set_cons_zero, List.set_cons_succ]
  go_upto_region 2 with fail
  refine wp_region_lit ?_
  refine wpList_run (v := .pointer (some ⟨p, 0, none⟩)) rfl (exec_move rfl rfl) ?_
  simp only [Act.put, List.setIfInBounds_toArray, List.set_cons_zero, List.set_cons_succ]
  refine wpList_run (v := .pointer (some ⟨p, 0, none⟩)) rfl (exec_nil rfl rfl) ?_
  simp only [Act.put, List.setIfInBounds_toArray, List.set_cons_zero, List.set_cons_succ]
  refine wpList_run (v := .pointer (some ⟨p, 0, none⟩)) rfl (exec_field (off := 0) (d := 0) rfl rfl (by kernel_rfl)) ?_
  simp only [Act.put, List.setIfInBounds_toArray, List.set_cons_zero, List.set_cons_succ]
  refine wpList_run (v := .slice (some ⟨b, 0, none⟩) n c) rfl (exec_load1 rfl rfl (by kernel_rfl) (HN1.out.blk.cell 0)) ?_
  simp only [Act.put, List.setIfInBounds_toArray, List.set_cons_zero, List.set_cons_succ]
  refine wpList_run (v := .int .i64 (h2 : Int)) rfl (exec_move rfl rfl) ?_
  simp only [Act.put, List.setIfInBounds_toArray, List.set_cons_zero, List.set_cons_succ]
  refine wpList_run (v := .pointer (some ⟨b, 0 + h2 * 2, none⟩)) rfl (gx_iaddr (i := h2) (sz := 2) rfl rfl rfl Try.underlying59 size_pair HLT.out rfl) ?_
  simp only [Act.put, List.setIfInBounds_toArray, List.set_cons_zero, List.set_cons_succ]
  refine wpList_run (v := .agg (encP x).toArray) rfl (gx_loads rfl rfl (HN1.out.prs.el0 (by rw [List.getElem?_map, HX.out]; rfl)) Try.underlying65 rfl (by rw [size_pair]; rfl)) ?_
  simp only [Act.put, List.setIfInBounds_toArray, List.set_cons_zero, List.set_cons_succ]
  refine wpList_new 65 (.tmp 5) (.tmp 19) (encP x).toArray rfl rfl (zero_pair _) rfl rfl rfl rfl rfl rfl (by rw [size_pair]; rfl) (fun v hv => encP_one x v (by simpa using hv)) ?_
  intro w2 g5 hge hb5 ht2
  simp only [Act.put, List.setIfInBounds_toArray, List.set_cons_zero, List.set_cons_succ]
  have HA5 := Lib.hid (Aux.new HIN.out (Nat.le_trans HT1.out.size hge) hb5)
  have HT2 := Lib.hid (HT1.out.trans ht2 fun _ _ e => e)
  have HI2 := Lib.hid (HI1.out.still ht2)
  have HA02 := Lib.hid (HA0.out.still ht2)
  have HN2 := Lib.hid (show NodeAt w2 p (.slice (some ⟨b, 0, none⟩) n c) (.slice Ak m ck) ps ks from HI2.out.at_ HP.out)
  clear hb5 ht2 hge
  go_upto_region 3 with fail
  refine wp_region_lit ?_
  refine wpList_run (v := .pointer (some ⟨p, 0, none⟩)) rfl (exec_move rfl rfl) ?_
  simp only [Act.put, List.setIfInBounds_toArray, List.set_cons_zero, List.set_cons_succ]
  refine wpList_run (v := .pointer (some ⟨p, 0, none⟩)) rfl (exec_nil rfl rfl) ?_
  simp only [Act.put, List.setIfInBounds_toArray, List.set_cons_zero, List.set_cons_succ]
  refine wpList_run (v := .pointer (some ⟨p, 0, none⟩)) rfl (exec_field (off := 0) (d := 0) rfl rfl (by kernel_rfl)) ?_
  simp only [Act.put, List.setIfInBounds_toArray, List.set_cons_zero, List.set_cons_succ]
  refine wpList_run (v := .slice (some ⟨b, 0, none⟩) n c) rfl (exec_load1 rfl rfl (by kernel_rfl) (HN2.out.blk.cell 0)) ?_
  simp only [Act.put, List.setIfInBounds_toArray, List.set_cons_zero, List.set_cons_succ]
  refine wpList_run (v := .int .i64 (h2 : Int)) rfl (exec_move rfl rfl) ?_
  simp only [Act.put, List.setIfInBounds_toArray, List.set_cons_zero, List.set_cons_succ]
  refine wpList_run (v := .int .i64 ((h2 + 1 : Nat) : Int)) rfl (ix_add rfl rfl rfl (by omega) (by omega)) ?_
  simp only [Act.put, List.setIfInBounds_toArray, List.set_cons_zero, List.set_cons_succ]
  refine wpList_run (v := .slice (fromK 2 (some ⟨b, 0, none⟩) c (h2 + 1)) (n - (h2 + 1)) (c - (h2 + 1))) rfl (exec_slice rfl rfl rfl rfl rfl (sl_from elmP _ n c (h2 + 1) (by have := HLT.out; omega) HNC.out _)) ?_
  simp only [Act.put, List.setIfInBounds_toArray, List.set_cons_zero, List.set_cons_succ]
  have hrw : Rws w2 2 (some ⟨b, 0, none⟩) n (ps.map encP) := by
    have h := HN2.out.prs.rws (by rw [List.length_map, ← HNL.out]; have := HL.out; omega) (by decide)
    exact h
  have hrf := rws_from hrw (show h2 + 1 ≤ n from HLT.out) HNC.out
  refine wpList_op rfl fun K9 HK9 => ?_
  go_wp2_with fail
  refine (CloneP (c := c - (h2 + 1)) hrf ((fitP ps).sub fun r hr => List.mem_of_mem_drop hr) (fun h => by unfold fromK at h; split at h <;> cases h) (by have := HL.out; omega)).mono ?_
  rintro e w3 ⟨v7, rfl, hrow, hto⟩
  refine HK9.out _ _ ?_
  clear HK9
  try simp only [Act.put, List.setIfInBounds_toArray, List.set_cons_zero, List.set_cons_succ]
  clear hrw hrf
  obtain ⟨A7, c7, e7, _⟩ := hrow.form
  obtain ⟨n7, hn7⟩ : ∃ n7, n7 = (List.drop (h2 + 1) (ps.map encP)).length := ⟨_, rfl⟩
  rw [← hn7] at e7
  subst e7
  refine wpList_run (v := .agg #[.slice A7 n7 c7, .slice none 0 0]) rfl (gx_build1 rfl rfl (build_node1 _ _ _ _)) ?_
  simp only [Act.put, List.setIfInBounds_toArray, List.set_cons_zero, List.set_cons_succ]
  have hbr := Blk.new w3 62 #[.slice A7 n7 c7, .slice none 0 0]
  have htr := (Turn.refl nowhere w3).alloc (.cells #[.slice A7 n7 c7, .slice none 0 0] 62)
  refine wpList_run (v := .pointer (some ⟨w3.heap.size, 0, none⟩)) (w' := w3.alloc (.cells #[.slice A7 n7 c7, .slice none 0 0] 62)) rfl (gx_box rfl rfl (box_node _ _ _ _ _ _ _)) ?_
  simp only [Act.put, List.setIfInBounds_toArray, List.set_cons_zero, List.set_cons_succ]
  obtain ⟨r, hr⟩ : ∃ r, r = w3.heap.size := ⟨_, rfl⟩
  rw [← hr] at hbr ⊢
  generalize w3.alloc (.cells #[.slice A7 n7 c7, .slice none 0 0] 62) = w4 at *
  have ht24 := hto.trans htr fun _ _ e => e
  have HGR := Lib.hid (show w2.heap.size ≤ r by have := hto.size; omega)
  have HT4 := Lib.hid (HI2.out.new (nd := ⟨ps.drop (h2 + 1), [], .slice A7 n7 c7, .slice none 0 0⟩) ht24 (show w2.heap.size ≤ r by have := hto.size; omega)
    ⟨hbr, by
      have h := (hrow.less (Nat.zero_le _)).still htr
      rw [← List.map_drop] at h
      exact h, Orw.nil _ _ _ _⟩ (fun b hb => (hrow.lt hb).1) (fun b hb => by cases hb))
  have HR2 := Lib.hid (show w.heap.size ≤ r by have := HT2.out.size; have := hto.size; omega)
  have HPR := Lib.hid (show p ≠ r from fun e => by have := HN2.out.blk.lt; have := hto.size; omega)
  clear hrow hto hn7 hbr htr hr ht24
  have HA04 := Lib.hid (HA02.out.to HT4.out)
  have HA54 := Lib.hid (HA5.out.to HT4.out)
  have HTO4 := Lib.hid ((To.still HIN.out HT2.out).trans HT4.out)
  obtain ⟨H4, hH4⟩ : ∃ H4, H4 = up H r ⟨ps.drop (h2 + 1), [], .slice A7 n7 c7, .slice none 0 0⟩ := ⟨_, rfl⟩
  have HP4 := Lib.hid (show H4 p = some ⟨ps, ks, .slice (some ⟨b, 0, none⟩) n c, .slice Ak m ck⟩ from by rw [hH4, up_other _ _ _ HPR.out]; exact HP.out)
  have HPR4 := Lib.hid (show H4 r = some ⟨ps.drop (h2 + 1), [], .slice A7 n7 c7, .slice none 0 0⟩ from by rw [hH4]; exact up_same _ _ _)
  have HS4 := Lib.hid (show Same H H4 (fun q => q = p ∨ q = r) from by rw [hH4]; exact fun q hq => up_other _ _ _ fun e => hq (.inr e))
  rw [← hH4] at HTO4 HA04 HA54
  clear hH4 HT4
  have HI4 := Lib.hid HTO4.out.in_
  have HN4 := Lib.hid (show NodeAt w4 p (.slice (some ⟨b, 0, none⟩) n c) (.slice Ak m ck) ps ks from HI4.out.at_ HP4.out)
  refine wpList_run (v := .pointer (some ⟨r, 0, none⟩)) rfl (gx_assign rfl rfl) ?_
  simp only [Act.put, List.setIfInBounds_toArray, List.set_cons_zero, List.set_cons_succ]
  go_upto_region 4 with fail
  refine wp_region_till (fun W => Blk W p 62 #[.slice (some ⟨b, 0, none⟩) n c, .slice Ak m ck]) 12 (by kernel_rfl) ?_
  have hS0 : Blk w4.drew p 62 #[.slice (some ⟨b, 0, none⟩) n c, .slice Ak m ck] := HN4.out.blk
  refine till_take (i := 0) (v := .pointer (some ⟨p, 0, none⟩)) rfl (by kernel_rfl) (by kernel_rfl) (fun _ _ _ h => h) (.inl ⟨by rfl, fun W hW => exec_move rfl rfl⟩) hS0 ?_
  simp only [Act.put, List.setIfInBounds_toArray, List.set_cons_zero, List.set_cons_succ]
  refine till_take (i := 1) (v := .pointer (some ⟨p, 0, none⟩)) rfl (by kernel_rfl) (by kernel_rfl) (fun _ _ _ h => h) (.inl ⟨by rfl, fun W hW => exec_move rfl rfl⟩) hS0 ?_
  simp only [Act.put, List.setIfInBounds_toArray, List.set_cons_zero, List.set_cons_succ]
  refine till_take (i := 2) (v := .pointer (some ⟨p, 0, none⟩)) rfl (by kernel_rfl) (by kernel_rfl) (fun _ _ _ h => h) (.inl ⟨by rfl, fun W hW => exec_nil rfl rfl⟩) hS0 ?_
  simp only [Act.put, List.setIfInBounds_toArray, List.set_cons_zero, List.set_cons_succ]
  refine till_take (i := 3) (v := .pointer (some ⟨p, 0, none⟩)) rfl (by kernel_rfl) (by kernel_rfl) (fun _ _ _ h => h) (.inl ⟨by rfl, fun W hW => exec_field (off := 0) (d := 0) rfl rfl (by kernel_rfl)⟩) hS0 ?_
  simp only [Act.put, List.setIfInBounds_toArray, List.set_cons_zero, List.set_cons_succ]
  refine till_take (i := 4) (v := .slice (some ⟨b, 0, none⟩) n c) rfl (by kernel_rfl) (by kernel_rfl) (fun _ _ _ h => h) (.inl ⟨by rfl, fun W hW => exec_load1 rfl rfl (by kernel_rfl) (hW.cell 0)⟩) hS0 ?_
  simp only [Act.put, List.setIfInBounds_toArray, List.set_cons_zero, List.set_cons_succ]
  refine till_take (i := 5) (v := .int .i64 (h2 : Int)) rfl (by kernel_rfl) (by kernel_rfl) (fun _ _ _ h => h) (.inl ⟨by rfl, fun W hW => exec_move rfl rfl⟩) hS0 ?_
  simp only [Act.put, List.setIfInBounds_toArray, List.set_cons_zero, List.set_cons_succ]
  refine till_take (i := 6) (v := .pointer (some ⟨p, 0, none⟩)) rfl (by kernel_rfl) (by kernel_rfl) (fun _ _ _ h => h) (.inl ⟨by rfl, fun W hW => exec_move rfl rfl⟩) hS0 ?_
  simp only [Act.put, List.setIfInBounds_toArray, List.set_cons_zero, List.set_cons_succ]
  refine till_take (i := 7) (v := .pointer (some ⟨p, 0, none⟩)) rfl (by kernel_rfl) (by kernel_rfl) (fun _ _ _ h => h) (.inl ⟨by rfl, fun W hW => exec_nil rfl rfl⟩) hS0 ?_
  simp only [Act.put, List.setIfInBounds_toArray, List.set_cons_zero, List.set_cons_succ]
  refine till_take (i := 8) (v := .pointer (some ⟨p, 0, none⟩)) rfl (by kernel_rfl) (by kernel_rfl) (fun _ _ _ h => h) (.inl ⟨by rfl, fun W hW => exec_field (off := 0) (d := 0) rfl rfl (by kernel_rfl)⟩) hS0 ?_
  simp only [Act.put, List.setIfInBounds_toArray, List.set_cons_zero, List.set_cons_succ]
  refine till_take (i := 9) (v := .slice (some ⟨b, 0, none⟩) n c) rfl (by kernel_rfl) (by kernel_rfl) (fun _ _ _ h => h) (.inl ⟨by rfl, fun W hW => exec_load1 rfl rfl (by kernel_rfl) (hW.cell 0)⟩) hS0 ?_
  simp only [Act.put, List.setIfInBounds_toArray, List.set_cons_zero, List.set_cons_succ]
  refine till_take (i := 10) (v := .int .i64 (n : Int)) rfl (by kernel_rfl) (by kernel_rfl) (fun _ _ _ h => h) (.inl ⟨by rfl, fun W hW => gx_len rfl rfl Try.underlying59⟩) hS0 ?_
  simp only [Act.put, List.setIfInBounds_toArray, List.set_cons_zero, List.set_cons_succ]
  have HD4 := Lib.hid ((Turn.refl nowhere w4).drew)
  refine till_step (i := 11) (by kernel_rfl) rfl rfl ?_
  intro K1 HK1
  go_wp2_with fail
  refine (DeleteP (i := h2) (j := n) (HN4.out.prs.still HD4.out) (by rw [List.length_map]; exact HNL.out.symm) (by have := HLT.out; omega) (Nat.le_refl n) (Nat.le_of_lt HL.out)).mono ?_
  rintro e w5 ⟨v', rfl, hrow, hto⟩
  have hblk5 : Blk w5 p 62 #[.slice (some ⟨b, 0, none⟩) n c, .slice Ak m ck] := HN4.out.blk.drew.turn hto.1 fun e => HN4.out.prs.ne HN4.out.blk (by decide) _ e rfl
  refine HK1.out _ _ ⟨fun _ => hblk5, ?_⟩
  clear HK1
  try simp only [Act.put, List.setIfInBounds_toArray, List.set_cons_zero, List.set_cons_succ]
  refine till_tail 12 rfl (by kernel_rfl) ?_
  refine wpList_run (v := .pointer (some ⟨p, 0, none⟩)) rfl (exec_nil rfl rfl) ?_
  simp only [Act.put, List.setIfInBounds_toArray, List.set_cons_zero, List.set_cons_succ]
  refine wpList_run (v := .pointer (some ⟨p, 0, none⟩)) rfl (exec_field (off := 0) (d := 0) rfl rfl (by kernel_rfl)) ?_
  simp only [Act.put, List.setIfInBounds_toArray, List.set_cons_zero, List.set_cons_succ]
  refine wpList_storeU 0 v' rfl 59 _ _ rfl hblk5 rfl rfl (by show 0 < 2; omega) (slice_one hrow) size_sP ?_
  intro w6 hb6 ht6
  have h56 := (HI4.out.still HD4.out).setP (ps' := ps.take h2) HP4.out hto.1 hto.2 ht6 hb6 (by
    have h := hrow
    rw [del_map, List.drop_of_length_le (by rw [← HNL.out]; exact Nat.le_refl _), List.append_nil] at h
    exact h)
  have HT6 := Lib.hid (To.trans (To.still HI4.out HD4.out) h56)
  clear hrow hto hb6 ht6 h56 hblk5 hS0
  refine wpList_nil ?_
  refine NoPanic.normal ?_
  simp only [Act.put, List.setIfInBounds_toArray, List.set_cons_zero, List.set_cons_succ]
  have HA06 := Lib.hid (HA04.out.to HT6.out)
  have HA56 := Lib.hid (HA54.out.to HT6.out)
  have HTO6 := Lib.hid (HTO4.out.trans HT6.out)
  obtain ⟨H6, hH6⟩ : ∃ H6, H6 = up H4 p ⟨ps.take h2, ks, v', .slice Ak m ck⟩ := ⟨_, rfl⟩
  have HP6 := Lib.hid (show H6 p = some ⟨ps.take h2, ks, v', .slice Ak m ck⟩ from by rw [hH6]; exact up_same _ _ _)
  have HPR6 := Lib.hid (show H6 r = some ⟨ps.drop (h2 + 1), [], .slice A7 n7 c7, .slice none 0 0⟩ from by rw [hH6, up_other _ _ _ (Ne.symm HPR.out)]; exact HPR4.out)
  have HS6 := Lib.hid (show Same H H6 (fun q => q = p ∨ q = r) from by rw [hH6]; exact HS4.out.trans (same_up _ _ _) (fun _ e => e) fun _ e => .inl e)
  rw [← hH6] at HTO6 HA06 HA56
  clear hH6 HT6
  have HI6 := Lib.hid HTO6.out.in_
  have HN6 := Lib.hid (show NodeAt w6 p v' (.slice Ak m ck) (ps.take h2) ks from HI6.out.at_ HP6.out)
  have hw := lowest_walk HN6.out
  by_cases hks : ks = []
  · subst hks
    rw [show decide (([] : List Nat) = []) = true from rfl] at hw
    have HW := Lib.hid hw
    clear hw
    go_upto_region 5 with fail
    refine wp_region_lit ?_
    refine wpList_run (v := .pointer (some ⟨p, 0, none⟩)) rfl (exec_move rfl rfl) ?_
    simp only [Act.put, List.setIfInBounds_toArray, List.set_cons_zero, List.set_cons_succ]
    refine wpList_op rfl fun K9 HK9 => ?_
    go_wp2_with fail
    refine (HW.out).mono ?_
    rintro e w7 ⟨rfl, rfl⟩
    refine HK9.out _ _ ?_
    clear HK9
    try simp only [Act.put, List.setIfInBounds_toArray, List.set_cons_zero, List.set_cons_succ]
    refine wpList_run (v := .bool false) rfl (ix_not (b := true) rfl rfl) ?_
    simp only [Act.put, List.setIfInBounds_toArray, List.set_cons_zero, List.set_cons_succ]
    go_upto_region 8 with fail
    refine wp_region_lit ?_
    refine wpList_run (v := .agg (encP x).toArray) rfl (gx_loads rfl rfl (blk_range HA56.out.1) Try.underlying65 rfl (by rw [size_pair]; rfl)) ?_
    simp only [Act.put, List.setIfInBounds_toArray, List.set_cons_zero, List.set_cons_succ]
    refine wpList_run (v := .pointer (some ⟨r, 0, none⟩)) rfl (exec_move rfl rfl) ?_
    simp only [Act.put, List.setIfInBounds_toArray, List.set_cons_zero, List.set_cons_succ]
    refine wpList_store_row rfl 65 (.tmp 2) (.tmp 73) rfl (encP x).toArray HA06.out.1 rfl rfl rfl (by rw [size_pair]; rfl) (fun v hv => encP_one x v (by simpa using hv)) ?_
    intro w9 hb9 ht9
    simp only [Act.put, List.setIfInBounds_toArray, List.set_cons_zero, List.set_cons_succ]

    have HE := Lib.hid hb9
    have HT9 := Lib.hid ht9
    clear hb9 ht9
    refine wpList_run (v := .pointer (some ⟨r, 0, none⟩)) rfl (gx_assign rfl rfl) ?_
    simp only [Act.put, List.setIfInBounds_toArray, List.set_cons_zero, List.set_cons_succ]
    go_wp2_with fail
    refine bodyPost_ret (v := .tuple #[.agg (encP x).toArray, .pointer (some ⟨r, 0, none⟩)]) (ret_cell2 rfl _ _ b0 65 _ _ rfl rfl HE.out Try.underlying65 rfl size_pair) rfl ?_
    exact ⟨r, H6, rfl, HR2.out, HTO6.out.aux HG0.out HA06.out HT9.out, ⟨_, _, HP6.out⟩, ⟨_, _, HPR6.out⟩, HS6.out⟩
  · rw [show decide (ks = []) = false from decide_eq_false hks] at hw
    have HW := Lib.hid hw
    have HM := Lib.hid (show m = n + 1 from by rw [HML.out]; rcases HK.out with e | e; exact absurd e hks; exact e)
    clear hw
    obtain ⟨bk, ck', ek, hmc, _⟩ := HN6.out.kds.some_ (by rw [List.length_map, ← HML.out]; have := HM.out; omega)
    rw [List.length_map, ← HML.out] at ek hmc
    injection ek with ek1 _ ek2
    subst ek1 ek2
    have HMC := Lib.hid hmc
    have y3 : (m : Int) ≤ (n : Int) + 1 := by have := HM.out; omega
    have y4 : (n : Int) + 1 ≤ (m : Int) := by have := HM.out; omega
    obtain ⟨h3, hh3⟩ : ∃ h3, h3 = h2 + 1 := ⟨_, rfl⟩
    have HH3 := Lib.hid hh3
    have y5 : (h3 : Int) ≤ (h2 : Int) + 1 := by omega
    have y6 : (h2 : Int) + 1 ≤ (h3 : Int) := by omega
    clear hh3
    clear hks hmc
    go_upto_region 5 with fail
    refine wp_region_lit ?_
    refine wpList_run (v := .pointer (some ⟨p, 0, none⟩)) rfl (exec_move rfl rfl) ?_
    simp only [Act.put, List.setIfInBounds_toArray, List.set_cons_zero, List.set_cons_succ]
    refine wpList_op rfl fun K9 HK9 => ?_
    go_wp2_with fail
    refine (HW.out).mono ?_
    rintro e w7 ⟨rfl, rfl⟩
    refine HK9.out _ _ ?_
    clear HK9
    try simp only [Act.put, List.setIfInBounds_toArray, List.set_cons_zero, List.set_cons_succ]
    refine wpList_run (v := .bool true) rfl (ix_not (b := false) rfl rfl) ?_
    simp only [Act.put, List.setIfInBounds_toArray, List.set_cons_zero, List.set_cons_succ]
    go_upto_region 6 with fail
    refine wp_region_lit ?_
    refine wpList_run (v := .pointer (some ⟨r, 0, none⟩)) rfl (exec_move rfl rfl) ?_
    simp only [Act.put, List.setIfInBounds_toArray, List.set_cons_zero, List.set_cons_succ]
    refine wpList_run (v := .pointer (some ⟨p, 0, none⟩)) rfl (exec_move rfl rfl) ?_
    simp only [Act.put, List.setIfInBounds_toArray, List.set_cons_zero, List.set_cons_succ]
    refine wpList_run (v := .pointer (some ⟨p, 0, none⟩)) rfl (exec_nil rfl rfl) ?_
    simp only [Act.put, List.setIfInBounds_toArray, List.set_cons_zero, List.set_cons_succ]
    refine wpList_run (v := .pointer (some ⟨p, 1, none⟩)) rfl (exec_field (off := 0) (d := 1) rfl rfl (by kernel_rfl)) ?_
    simp only [Act.put, List.setIfInBounds_toArray, List.set_cons_zero, List.set_cons_succ]
    refine wpList_run (v := .slice (some ⟨bk, 0, none⟩) m ck) rfl (exec_load1 rfl rfl (by kernel_rfl) (HN6.out.blk.cell 1)) ?_
    simp only [Act.put, List.setIfInBounds_toArray, List.set_cons_zero, List.set_cons_succ]
    refine wpList_run (v := .int .i64 (h2 : Int)) rfl (exec_move rfl rfl) ?_
    simp only [Act.put, List.setIfInBounds_toArray, List.set_cons_zero, List.set_cons_succ]
    refine wpList_run (v := .int .i64 (h3 : Int)) rfl (ix_add rfl rfl rfl (by omega) (by omega)) ?_
    simp only [Act.put, List.setIfInBounds_toArray, List.set_cons_zero, List.set_cons_succ]
    refine wpList_run (v := .slice (fromK 1 (some ⟨bk, 0, none⟩) ck h3) (m - h3) (ck - h3)) rfl (exec_slice rfl rfl rfl rfl rfl (sl_from elmK _ m ck h3 (by have := HLT.out; have := HM.out; have := HH3.out; omega) HMC.out _)) ?_
    simp only [Act.put, List.setIfInBounds_toArray, List.set_cons_zero, List.set_cons_succ]
    have hrw := HN6.out.kds.rws (by rw [List.length_map, ← HML.out]; have := HL.out; have := HM.out; omega) (by decide)
    have hrf := rws_from hrw (show h3 ≤ m from by have := HLT.out; have := HM.out; have := HH3.out; omega) HMC.out
    refine wpList_op rfl fun K9 HK9 => ?_
    go_wp2_with fail
    refine (CloneK (c := ck - h3) hrf ((fitK ks).sub fun r hr => List.mem_of_mem_drop hr) (fun h => by unfold fromK at h; split at h <;> cases h) (by have := HL.out; have := HM.out; omega)).mono ?_
    rintro e w7 ⟨v8, rfl, hrow8, hto8⟩
    refine HK9.out _ _ ?_
    clear HK9
    try simp only [Act.put, List.setIfInBounds_toArray, List.set_cons_zero, List.set_cons_succ]
    clear hrw hrf
    have hbr7 : Blk w7 r 62 #[.slice A7 n7 c7, .slice none 0 0] := (HI6.out.at_ HPR6.out).blk.turn hto8 fun e => e
    refine wpList_run (v := .pointer (some ⟨r, 0, none⟩)) rfl (exec_nil rfl rfl) ?_
    simp only [Act.put, List.setIfInBounds_toArray, List.set_cons_zero, List.set_cons_succ]
    refine wpList_run (v := .pointer (some ⟨r, 1, none⟩)) rfl (exec_field (off := 0) (d := 1) rfl rfl (by kernel_rfl)) ?_
    simp only [Act.put, List.setIfInBounds_toArray, List.set_cons_zero, List.set_cons_succ]
    refine wpList_storeU 1 v8 rfl 60 _ _ rfl hbr7 rfl rfl (by show 1 < 2; omega) (slice_one hrow8) size_sK ?_
    intro w8 hb8 ht8
    simp only [Act.put, List.setIfInBounds_toArray, List.set_cons_zero, List.set_cons_succ]
    have HT8 := Lib.hid (HI6.out.setK (ks' := ks.drop (h2 + 1)) HPR6.out (hto8.mono fun _ _ e => e.elim) (fun b hb => .inr (hrow8.lt hb).1) ht8 hb8 (by
      have h := hrow8.less (Nat.zero_le _)
      rw [← List.map_drop, HH3.out] at h
      exact h))
    clear hrow8 hto8 hbr7 hb8 ht8
    have HA08 := Lib.hid (HA06.out.to HT8.out)
    have HA58 := Lib.hid (HA56.out.to HT8.out)
    have HTO8 := Lib.hid (HTO6.out.trans HT8.out)
    obtain ⟨H8, hH8⟩ : ∃ H8, H8 = up H6 r ⟨ps.drop (h2 + 1), ks.drop (h2 + 1), .slice A7 n7 c7, v8⟩ := ⟨_, rfl⟩
    have HP8 := Lib.hid (show H8 p = some ⟨ps.take h2, ks, v', .slice (some ⟨bk, 0, none⟩) m ck⟩ from by rw [hH8, up_other _ _ _ HPR.out]; exact HP6.out)
    have HPR8 := Lib.hid (show H8 r = some ⟨ps.drop (h2 + 1), ks.drop (h2 + 1), .slice A7 n7 c7, v8⟩ from by rw [hH8]; exact up_same _ _ _)
    have HS8 := Lib.hid (show Same H H8 (fun q => q = p ∨ q = r) from by rw [hH8]; exact HS6.out.trans (same_up _ _ _) (fun _ e => e) fun _ e => .inr e)
    rw [← hH8] at HTO8 HA08 HA58
    clear hH8 HT8
    have HI8 := Lib.hid HTO8.out.in_
    have HN8 := Lib.hid (show NodeAt w8 p v' (.slice (some ⟨bk, 0, none⟩) m ck) (ps.take h2) ks from HI8.out.at_ HP8.out)
    go_upto_region 7 with fail
    refine wp_region_till (fun W => Blk W p 62 #[v', .slice (some ⟨bk, 0, none⟩) m ck]) 13 (by kernel_rfl) ?_
    have hS0 : Blk w8.drew p 62 #[v', .slice (some ⟨bk, 0, none⟩) m ck] := HN8.out.blk
    refine till_take (i := 0) (v := .pointer (some ⟨p, 0, none⟩)) rfl (by kernel_rfl) (by kernel_rfl) (fun _ _ _ h => h) (.inl ⟨by rfl, fun W hW => exec_move rfl rfl⟩) hS0 ?_
    simp only [Act.put, List.setIfInBounds_toArray, List.set_cons_zero, List.set_cons_succ]
    refine till_take (i := 1) (v := .pointer (some ⟨p, 0, none⟩)) rfl (by kernel_rfl) (by kernel_rfl) (fun _ _ _ h => h) (.inl ⟨by rfl, fun W hW => exec_move rfl rfl⟩) hS0 ?_
    simp only [Act.put, List.setIfInBounds_toArray, List.set_cons_zero, List.set_cons_succ]
    refine till_take (i := 2) (v := .pointer (some ⟨p, 0, none⟩)) rfl (by kernel_rfl) (by kernel_rfl) (fun _ _ _ h => h) (.inl ⟨by rfl, fun W hW => exec_nil rfl rfl⟩) hS0 ?_
    simp only [Act.put, List.setIfInBounds_toArray, List.set_cons_zero, List.set_cons_succ]
    refine till_take (i := 3) (v := .pointer (some ⟨p, 1, none⟩)) rfl (by kernel_rfl) (by kernel_rfl) (fun _ _ _ h => h) (.inl ⟨by rfl, fun W hW => exec_field (off := 0) (d := 1) rfl rfl (by kernel_rfl)⟩) hS0 ?_
    simp only [Act.put, List.setIfInBounds_toArray, List.set_cons_zero, List.set_cons_succ]
    refine till_take (i := 4) (v := .slice (some ⟨bk, 0, none⟩) m ck) rfl (by kernel_rfl) (by kernel_rfl) (fun _ _ _ h => h) (.inl ⟨by rfl, fun W hW => exec_load1 rfl rfl (by kernel_rfl) (hW.cell 1)⟩) hS0 ?_
    simp only [Act.put, List.setIfInBounds_toArray, List.set_cons_zero, List.set_cons_succ]
    refine till_take (i := 5) (v := .int .i64 (h2 : Int)) rfl (by kernel_rfl) (by kernel_rfl) (fun _ _ _ h => h) (.inl ⟨by rfl, fun W hW => exec_move rfl rfl⟩) hS0 ?_
    simp only [Act.put, List.setIfInBounds_toArray, List.set_cons_zero, List.set_cons_succ]
    refine till_take (i := 6) (v := .int .i64 (h3 : Int)) rfl (by kernel_rfl) (by kernel_rfl) (fun _ _ _ h => h) (.inl ⟨by rfl, fun W hW => ix_add rfl rfl rfl (by omega) (by omega)⟩) hS0 ?_
    simp only [Act.put, List.setIfInBounds_toArray, List.set_cons_zero, List.set_cons_succ]
    refine till_take (i := 7) (v := .pointer (some ⟨p, 0, none⟩)) rfl (by kernel_rfl) (by kernel_rfl) (fun _ _ _ h => h) (.inl ⟨by rfl, fun W hW => exec_move rfl rfl⟩) hS0 ?_
    simp only [Act.put, List.setIfInBounds_toArray, List.set_cons_zero, List.set_cons_succ]
    refine till_take (i := 8) (v := .pointer (some ⟨p, 0, none⟩)) rfl (by kernel_rfl) (by kernel_rfl) (fun _ _ _ h => h) (.inl ⟨by rfl, fun W hW => exec_nil rfl rfl⟩) hS0 ?_
    simp only [Act.put, List.setIfInBounds_toArray, List.set_cons_zero, List.set_cons_succ]
    refine till_take (i := 9) (v := .pointer (some ⟨p, 1, none⟩)) rfl (by kernel_rfl) (by kernel_rfl) (fun _ _ _ h => h) (.inl ⟨by rfl, fun W hW => exec_field (off := 0) (d := 1) rfl rfl (by kernel_rfl)⟩) hS0 ?_
    simp only [Act.put, List.setIfInBounds_toArray, List.set_cons_zero, List.set_cons_succ]
    refine till_take (i := 10) (v := .slice (some ⟨bk, 0, none⟩) m ck) rfl (by kernel_rfl) (by kernel_rfl) (fun _ _ _ h => h) (.inl ⟨by rfl, fun W hW => exec_load1 rfl rfl (by kernel_rfl) (hW.cell 1)⟩) hS0 ?_
    simp only [Act.put, List.setIfInBounds_toArray, List.set_cons_zero, List.set_cons_succ]
    refine till_take (i := 11) (v := .int .i64 (m : Int)) rfl (by kernel_rfl) (by kernel_rfl) (fun _ _ _ h => h) (.inl ⟨by rfl, fun W hW => gx_len rfl rfl Try.underlying60⟩) hS0 ?_
    simp only [Act.put, List.setIfInBounds_toArray, List.set_cons_zero, List.set_cons_succ]
    have HD8 := Lib.hid ((Turn.refl nowhere w8).drew)
    refine till_step (i := 12) (by kernel_rfl) rfl rfl ?_
    intro K1 HK1
    go_wp2_with fail
    refine (DeleteK (i := h3) (j := m) (HN8.out.kds.still HD8.out) (by rw [List.length_map]; exact HML.out.symm) (by have := HLT.out; have := HM.out; have := HH3.out; omega) (Nat.le_refl m) (by have := HL.out; have := HM.out; omega)).mono ?_
    rintro e w10 ⟨v9, rfl, hrow, hto⟩
    have hblk9 : Blk w10 p 62 #[v', .slice (some ⟨bk, 0, none⟩) m ck] := HN8.out.blk.drew.turn hto.1 fun e => HN8.out.kds.ne HN8.out.blk (by decide) _ e rfl
    refine HK1.out _ _ ⟨fun _ => hblk9, ?_⟩
    clear HK1
    try simp only [Act.put, List.setIfInBounds_toArray, List.set_cons_zero, List.set_cons_succ]
    refine till_tail 13 rfl (by kernel_rfl) ?_
    refine wpList_run (v := .pointer (some ⟨p, 0, none⟩)) rfl (exec_nil rfl rfl) ?_
    simp only [Act.put, List.setIfInBounds_toArray, List.set_cons_zero, List.set_cons_succ]
    refine wpList_run (v := .pointer (some ⟨p, 1, none⟩)) rfl (exec_field (off := 0) (d := 1) rfl rfl (by kernel_rfl)) ?_
    simp only [Act.put, List.setIfInBounds_toArray, List.set_cons_zero, List.set_cons_succ]
    refine wpList_storeU 1 v9 rfl 60 _ _ rfl hblk9 rfl rfl (by show 1 < 2; omega) (slice_one hrow) size_sK ?_
    intro w11 hb11 ht11
    have h56 := (HI8.out.still HD8.out).setK (ks' := ks.take (h2 + 1)) HP8.out hto.1 hto.2 ht11 hb11 (by
      have h := hrow
      rw [del_map, HH3.out, List.drop_of_length_le (by rw [← HML.out]; exact Nat.le_refl _), List.append_nil] at h
      exact h)
    have HT11 := Lib.hid (To.trans (To.still HI8.out HD8.out) h56)
    clear hrow hto hb11 ht11 h56 hblk9 hS0
    refine wpList_nil ?_
    refine NoPanic.normal ?_
    simp only [Act.put, List.setIfInBounds_toArray, List.set_cons_zero, List.set_cons_succ]
    have HA011 := Lib.hid (HA08.out.to HT11.out)
    have HA511 := Lib.hid (HA58.out.to HT11.out)
    have HTO11 := Lib.hid (HTO8.out.trans HT11.out)
    obtain ⟨H11, hH11⟩ : ∃ H11, H11 = up H8 p ⟨ps.take h2, ks.take (h2 + 1), v', v9⟩ := ⟨_, rfl⟩
    have HP11 := Lib.hid (show H11 p = some ⟨ps.take h2, ks.take (h2 + 1), v', v9⟩ from by rw [hH11]; exact up_same _ _ _)
    have HPR11 := Lib.hid (show H11 r = some ⟨ps.drop (h2 + 1), ks.drop (h2 + 1), .slice A7 n7 c7, v8⟩ from by rw [hH11, up_other _ _ _ (Ne.symm HPR.out)]; exact HPR8.out)
    have HS11 := Lib.hid (show Same H H11 (fun q => q = p ∨ q = r) from by rw [hH11]; exact HS8.out.trans (same_up _ _ _) (fun _ e => e) fun _ e => .inl e)
    rw [← hH11] at HTO11 HA011 HA511
    clear hH11 HT11
    go_upto_region 8 with fail
    refine wp_region_lit ?_
    refine wpList_run (v := .agg (encP x).toArray) rfl (gx_loads rfl rfl (blk_range HA511.out.1) Try.underlying65 rfl (by rw [size_pair]; rfl)) ?_
    simp only [Act.put, List.setIfInBounds_toArray, List.set_cons_zero, List.set_cons_succ]
    refine wpList_run (v := .pointer (some ⟨r, 0, none⟩)) rfl (exec_move rfl rfl) ?_
    simp only [Act.put, List.setIfInBounds_toArray, List.set_cons_zero, List.set_cons_succ]
    refine wpList_store_row rfl 65 (.tmp 2) (.tmp 73) rfl (encP x).toArray HA011.out.1 rfl rfl rfl (by rw [size_pair]; rfl) (fun v hv => encP_one x v (by simpa using hv)) ?_
    intro w9 hb9 ht9
    simp only [Act.put, List.setIfInBounds_toArray, List.set_cons_zero, List.set_cons_succ]

    have HE := Lib.hid hb9
    have HT9 := Lib.hid ht9
    clear hb9 ht9
    refine wpList_run (v := .pointer (some ⟨r, 0, none⟩)) rfl (gx_assign rfl rfl) ?_
    simp only [Act.put, List.setIfInBounds_toArray, List.set_cons_zero, List.set_cons_succ]
    go_wp2_with fail
    refine bodyPost_ret (v := .tuple #[.agg (encP x).toArray, .pointer (some ⟨r, 0, none⟩)]) (ret_cell2 rfl _ _ b0 65 _ _ rfl rfl HE.out Try.underlying65 rfl size_pair) rfl ?_
    exact ⟨r, H11, rfl, HR2.out, HTO11.out.aux HG0.out HA011.out HT9.out, ⟨_, _, HP11.out⟩, ⟨_, _, HPR11.out⟩, HS11.out⟩
end Go.Proofs.Ytmlkdkbpbleilaa

namespace Go.Proofs.Ytmlkdkbpbleilaa
open Go.RowKit
open Ix
set_option linter.unusedVariables false
set_option linter.unusedSimpArgs false
theorem rows_apart {w : World} {H : Hp} (h : In w H) {p q : Nat} {a b : Nd0} (hp : H p = some a) (hq : H q = some b) (hne : p ≠ q) {g : Nat} (h1 : a.vp.ownBlock = some g) : b.vp.ownBlock ≠ some g := fun h2 => hne (h.sepP hp hq h1 h2)
theorem krows_apart {w : World} {H : Hp} (h : In w H) {p q : Nat} {a b : Nd0} (hp : H p = some a) (hq : H q = some b) (hne : p ≠ q) {g : Nat} (h1 : a.vk.ownBlock = some g) : b.vk.ownBlock ≠ some g := fun h2 => hne (h.sepK hp hq h1 h2)
/-- a node's block behind a turn of some node's row of pairs; of kids -/
theorem In.blkP {w w1 : World} {H : Hp} (h : In w H) {p q : Nat} {a b : Nd0} (hp : H p = some a) (hq : H q = some b) (ht : Turn (fun g => a.vp.ownBlock = some g) w w1) : Blk w1 q 62 #[b.vp, b.vk] := (h.at_ hq).blk.turn ht fun e => (h.at_ hp).prs.ne (h.at_ hq).blk (by decide) _ e rfl
theorem In.blkK {w w1 : World} {H : Hp} (h : In w H) {p q : Nat} {a b : Nd0} (hp : H p = some a) (hq : H q = some b) (ht : Turn (fun g => a.vk.ownBlock = some g) w w1) : Blk w1 q 62 #[b.vp, b.vk] := (h.at_ hq).blk.turn ht fun e => (h.at_ hp).kds.ne (h.at_ hq).blk (by decide) _ e rfl
theorem build_oneP (p : Pr) (W : World) : (Instr.buildSlice 59 1 #[(0, .agg (encP p).toArray)]).run Try.prog W = .ok (.slice (some ⟨W.heap.size, 0, none⟩) 1 1) (W.alloc (.cells (encP p).toArray 65)) := build_one elmP (encP p) rfl (by decide) (.agg (encP p).toArray) rfl W
theorem build_oneK (k : Nat) (W : World) : (Instr.buildSlice 60 1 #[(0, .pointer (some ⟨k, 0, none⟩))]).run Try.prog W = .ok (.slice (some ⟨W.heap.size, 0, none⟩) 1 1) (W.alloc (.cells (encK k).toArray 56)) := build_one elmK (encK k) rfl (by decide) (.pointer (some ⟨k, 0, none⟩)) rfl W
theorem last_drop {α : Type} {l : List α} {n : Nat} (h : n = l.length) {i : Nat} (hi : i + 1 = n) : l.take i ++ l.drop (i + 1) = l.take i := by
  rw [List.drop_of_length_le (by omega), List.append_nil]
/-- an element of a row set, out of a store into the middle -/
theorem orw_mid {w w' : World} {b n c i : Nat} {ps : List Pr} {x : Pr} (h : Orw w 0 65 2 (.slice (some ⟨b, 0, none⟩) n c) (ps.map encP)) {cur cur' : Array Value} (hb : Blk w b 65 cur) (hb' : Blk w' b 65 cur') (hs : cur'.size = cur.size) (hi : i < n)
    (hc : ∀ j, cur'[j]? = if 0 + i * 2 ≤ j ∧ j < 0 + i * 2 + (encP x).toArray.size then (encP x).toArray[j - (0 + i * 2)]? else cur[j]?) : Orw w' 0 65 2 (.slice (some ⟨b, 0, none⟩) n c) ((ps.set i x).map encP) := by
  rw [List.map_set]
  refine orw_set h hb hb' hs hi rfl (encP_one x) (fun j => ?_) (by decide)
  have := hc j
  rw [Nat.zero_add, show (encP x).toArray.size = 2 from rfl] at this
  rw [this]
  split
  · simp
  · rfl
set_option maxRecDepth 20000 in
set_option maxHeartbeats 4000000 in
theorem lendL_walk {w : World} {H : Hp} {n l c i j : Nat} {ps lp cp : List Pr} {ks lk ck : List Nat} {p0 q0 : Pr} (hin : In w H) (hn : Is H n ps ks) (hl : Is H l lp lk) (hc : Is H c cp ck) (hij : i = j + 1) (hkl : ks[j]? = some l) (hkc : ks[i]? = some c) (hp : ps[j]? = some p0) (hq : lp[lp.length - 1]? = some q0)
    (hnl : n ≠ l) (hnc : n ≠ c) (hlc : l ≠ c) (b1 : ps.length < 1000) (b2 : lp.length < 1000) (b3 : cp.length < 1000) (b4 : ks.length < 1000) (b5 : lk.length < 1000) (b6 : ck.length < 1000) :
    Calls Try.prog 55 #[.pointer (some ⟨n, 0, none⟩), .int .i64 (i : Int)] w fun e w' => e = .returned (.tuple #[]) ∧ ∃ H', To w H w' H' ∧ Is H' n (ps.set j q0) ks ∧ Is H' l (lp.take (lp.length - 1)) (lk.take (lk.length - 1)) ∧
      Is H' c (p0 :: cp) ((lk[lk.length - 1]?).toList ++ ck) ∧ Same H H' (fun q => q = n ∨ q = l ∨ q = c) := by
  obtain ⟨vpn, vkn, hn⟩ := hn
  obtain ⟨vpl, vkl, hl⟩ := hl
  obtain ⟨vpc, vkc, hc⟩ := hc
  have HNL := Lib.hid hnl
  have HNC := Lib.hid hnc
  have HLC := Lib.hid hlc
  have HKL := Lib.hid hkl
  have HKC := Lib.hid hkc
  have HPJ := Lib.hid hp
  have HQ := Lib.hid hq
  have B1 := Lib.hid b1
  have B2 := Lib.hid b2
  have B3 := Lib.hid b3
  have B4 := Lib.hid b4
  have B5 := Lib.hid b5
  have B6 := Lib.hid b6
  have y1 : (i : Int) ≤ (j : Int) + 1 := by omega
  have y2 : (j : Int) + 1 ≤ (i : Int) := by omega
  have HIK := Lib.hid (show i < ks.length from (List.getElem?_eq_some_iff.1 hkc).1)
  have HJK := Lib.hid (show j < ks.length from (List.getElem?_eq_some_iff.1 hkl).1)
  have HJP := Lib.hid (show j < ps.length from (List.getElem?_eq_some_iff.1 hp).1)
  have HQ0 := Lib.hid (show lp.length - 1 < lp.length from (List.getElem?_eq_some_iff.1 hq).1)
  have y3 : (i : Int) ≤ 1000 := by have := HIK.out; omega
  have HIJ := Lib.hid hij
  clear hnl hnc hlc hkl hkc hp hq b1 b2 b3 b4 b5 b6 hij
  have HTO0 := Lib.hid (To.refl hin)
  have HI0 := Lib.hid hin
  have HS0 := Lib.hid (show Same H H (fun q => q = n ∨ q = l ∨ q = c) from fun q _ => rfl)
  have HP0_n := Lib.hid hn
  have HP0_l := Lib.hid hl
  have HP0_c := Lib.hid hc
  have HIN0 := Lib.hid hin
  clear hin hn hl hc
  obtain ⟨bP, cP, e9, hc9, _⟩ := (HI0.out.at_ HP0_n.out).prs.some_ (by rw [List.length_map]; show 0 < (ps).length; have := HJP.out; omega)
  obtain ⟨nP, hl9⟩ : ∃ q, q = (ps).length := ⟨_, rfl⟩
  rw [List.length_map] at hc9 e9
  replace e9 := e9.trans (show _ = Value.slice (some ⟨bP, 0, none⟩) nP cP from by rw [hl9])
  subst e9
  have HLP := Lib.hid hl9
  have HCP := Lib.hid (show nP ≤ cP from by rw [hl9]; exact hc9)
  clear hl9 hc9
  obtain ⟨bK, cK, e9, hc9, _⟩ := (HI0.out.at_ HP0_n.out).kds.some_ (by rw [List.length_map]; show 0 < (ks).length; have := HJK.out; omega)
  obtain ⟨nK, hl9⟩ : ∃ q, q = (ks).length := ⟨_, rfl⟩
  rw [List.length_map] at hc9 e9
  replace e9 := e9.trans (show _ = Value.slice (some ⟨bK, 0, none⟩) nK cK from by rw [hl9])
  subst e9
  have HLK := Lib.hid hl9
  have HCK := Lib.hid (show nK ≤ cK from by rw [hl9]; exact hc9)
  clear hl9 hc9
  obtain ⟨bL, cL, e9, hc9, _⟩ := (HI0.out.at_ HP0_l.out).prs.some_ (by rw [List.length_map]; show 0 < (lp).length; have := HQ0.out; omega)
  obtain ⟨nL, hl9⟩ : ∃ q, q = (lp).length := ⟨_, rfl⟩
  rw [List.length_map] at hc9 e9
  replace e9 := e9.trans (show _ = Value.slice (some ⟨bL, 0, none⟩) nL cL from by rw [hl9])
  subst e9
  have HLL := Lib.hid hl9
  have HCL := Lib.hid (show nL ≤ cL from by rw [hl9]; exact hc9)
  clear hl9 hc9
  obtain ⟨AC, cC, e9, hc9, _, hz9, _⟩ := (HI0.out.at_ HP0_c.out).prs.form
  obtain ⟨nC, hl9⟩ : ∃ q, q = (cp).length := ⟨_, rfl⟩
  rw [List.length_map] at hc9 e9
  replace e9 := e9.trans (show _ = Value.slice AC nC cC from by rw [hl9])
  subst e9
  have HLCc := Lib.hid hl9
  have HCC := Lib.hid (show nC ≤ cC from by rw [hl9]; exact hc9)
  have HZC := Lib.hid hz9
  clear hl9 hc9 hz9
  have HIn := Lib.hid (show i < nK from by rw [HLK.out]; exact HIK.out)
  have HJn := Lib.hid (show j < nK from by rw [HLK.out]; exact HJK.out)
  have HJp := Lib.hid (show j < nP from by rw [HLP.out]; exact HJP.out)
  obtain ⟨m, hm⟩ : ∃ m, m + 1 = nL := ⟨nL - 1, by have := HLL.out; have := HQ0.out; omega⟩
  have HM := Lib.hid hm
  have y4 : (nL : Int) ≤ (m : Int) + 1 := by omega
  have y5 : (m : Int) + 1 ≤ (nL : Int) := by omega
  have y6 : (nL : Int) ≤ 1000 := by have := HLL.out; have := B2.out; omega
  have HQM := Lib.hid (show lp[m]? = some q0 from by have h := HQ.out; rwa [← HLL.out, ← hm, Nat.add_sub_cancel] at h)
  clear hm
  go_enter Try.func55, Try.ntmps55
  go_upto_region 0 with fail
  refine wp_region_alw (fun W => Blk W n 62 #[.slice (some ⟨bP, 0, none⟩) nP cP, .slice (some ⟨bK, 0, none⟩) nK cK] ∧ W.cell? ⟨bK, 0 + j * 1, none⟩ = some (.pointer (some ⟨l, 0, none⟩)) ∧ W.cell? ⟨bK, 0 + i * 1, none⟩ = some (.pointer (some ⟨c, 0, none⟩))) (by kernel_rfl) ?_
  have HTd := Lib.hid ((Turn.refl nowhere w).drew)
  have hS0 : Blk w.drew n 62 #[.slice (some ⟨bP, 0, none⟩) nP cP, .slice (some ⟨bK, 0, none⟩) nK cK] ∧ w.drew.cell? ⟨bK, 0 + j * 1, none⟩ = some (.pointer (some ⟨l, 0, none⟩)) ∧ w.drew.cell? ⟨bK, 0 + i * 1, none⟩ = some (.pointer (some ⟨c, 0, none⟩)) := ⟨(HI0.out.at_ HP0_n.out).blk, kid_cell (HI0.out.at_ HP0_n.out) HKL.out, kid_cell (HI0.out.at_ HP0_n.out) HKC.out⟩
  refine alw_take (i := 0) (v := .pointer (some ⟨n, 0, none⟩)) rfl (by kernel_rfl) (by kernel_rfl) (fun _ _ _ h => h) (.inl ⟨by rfl, fun W hW => exec_move rfl rfl⟩) hS0 ?_
  simp only [Act.put, List.setIfInBounds_toArray, List.set_cons_zero, List.set_cons_succ]
  refine alw_take (i := 1) (v := .pointer (some ⟨n, 0, none⟩)) rfl (by kernel_rfl) (by kernel_rfl) (fun _ _ _ h => h) (.inl ⟨by rfl, fun W hW => exec_nil rfl rfl⟩) hS0 ?_
  simp only [Act.put, List.setIfInBounds_toArray, List.set_cons_zero, List.set_cons_succ]
  refine alw_take (i := 2) (v := .pointer (some ⟨n, 1, none⟩)) rfl (by kernel_rfl) (by kernel_rfl) (fun _ _ _ h => h) (.inl ⟨by rfl, fun W hW => exec_field (off := 0) (d := 1) rfl rfl (by kernel_rfl)⟩) hS0 ?_
  simp only [Act.put, List.setIfInBounds_toArray, List.set_cons_zero, List.set_cons_succ]
  refine alw_take (i := 3) (v := .slice (some ⟨bK, 0, none⟩) nK cK) rfl (by kernel_rfl) (by kernel_rfl) (fun _ _ _ h => h) (.inl ⟨by rfl, fun W hW => exec_load1 rfl rfl (by kernel_rfl) (hW.1.cell 1)⟩) hS0 ?_
  simp only [Act.put, List.setIfInBounds_toArray, List.set_cons_zero, List.set_cons_succ]
  refine alw_take (i := 4) (v := .int .i64 (i : Int)) rfl (by kernel_rfl) (by kernel_rfl) (fun _ _ _ h => h) (.inl ⟨by rfl, fun W hW => exec_move rfl rfl⟩) hS0 ?_
  simp only [Act.put, List.setIfInBounds_toArray, List.set_cons_zero, List.set_cons_succ]
  refine alw_take (i := 5) (v := .int .i64 (j : Int)) rfl (by kernel_rfl) (by kernel_rfl) (fun _ _ _ h => h) (.inl ⟨by rfl, fun W hW => ix_sub rfl rfl rfl (by omega) (by omega)⟩) hS0 ?_
  simp only [Act.put, List.setIfInBounds_toArray, List.set_cons_zero, List.set_cons_succ]
  refine alw_take (i := 6) (v := .pointer (some ⟨bK, 0 + j * 1, none⟩)) rfl (by kernel_rfl) (by kernel_rfl) (fun _ _ _ h => h) (.inl ⟨by rfl, fun W hW => gx_iaddr (i := j) (sz := 1) rfl rfl rfl Try.underlying60 size_ptr HJn.out rfl⟩) hS0 ?_
  simp only [Act.put, List.setIfInBounds_toArray, List.set_cons_zero, List.set_cons_succ]
  refine alw_take (i := 7) (v := .pointer (some ⟨l, 0, none⟩)) rfl (by kernel_rfl) (by kernel_rfl) (fun _ _ _ h => h) (.inl ⟨by rfl, fun W hW => exec_load1 rfl rfl (by kernel_rfl) hW.2.1⟩) hS0 ?_
  simp only [Act.put, List.setIfInBounds_toArray, List.set_cons_zero, List.set_cons_succ]
  refine alw_take (i := 8) (v := .pointer (some ⟨n, 0, none⟩)) rfl (by kernel_rfl) (by kernel_rfl) (fun _ _ _ h => h) (.inl ⟨by rfl, fun W hW => exec_move rfl rfl⟩) hS0 ?_
  simp only [Act.put, List.setIfInBounds_toArray, List.set_cons_zero, List.set_cons_succ]
  refine alw_take (i := 9) (v := .pointer (some ⟨n, 0, none⟩)) rfl (by kernel_rfl) (by kernel_rfl) (fun _ _ _ h => h) (.inl ⟨by rfl, fun W hW => exec_nil rfl rfl⟩) hS0 ?_
  simp only [Act.put, List.setIfInBounds_toArray, List.set_cons_zero, List.set_cons_succ]
  refine alw_take (i := 10) (v := .pointer (some ⟨n, 1, none⟩)) rfl (by kernel_rfl) (by kernel_rfl) (fun _ _ _ h => h) (.inl ⟨by rfl, fun W hW => exec_field (off := 0) (d := 1) rfl rfl (by kernel_rfl)⟩) hS0 ?_
  simp only [Act.put, List.setIfInBounds_toArray, List.set_cons_zero, List.set_cons_succ]
  refine alw_take (i := 11) (v := .slice (some ⟨bK, 0, none⟩) nK cK) rfl (by kernel_rfl) (by kernel_rfl) (fun _ _ _ h => h) (.inl ⟨by rfl, fun W hW => exec_load1 rfl rfl (by kernel_rfl) (hW.1.cell 1)⟩) hS0 ?_
  simp only [Act.put, List.setIfInBounds_toArray, List.set_cons_zero, List.set_cons_succ]
  refine alw_take (i := 12) (v := .int .i64 (i : Int)) rfl (by kernel_rfl) (by kernel_rfl) (fun _ _ _ h => h) (.inl ⟨by rfl, fun W hW => exec_move rfl rfl⟩) hS0 ?_
  simp only [Act.put, List.setIfInBounds_toArray, List.set_cons_zero, List.set_cons_succ]
  refine alw_take (i := 13) (v := .pointer (some ⟨bK, 0 + i * 1, none⟩)) rfl (by kernel_rfl) (by kernel_rfl) (fun _ _ _ h => h) (.inl ⟨by rfl, fun W hW => gx_iaddr (i := i) (sz := 1) rfl rfl rfl Try.underlying60 size_ptr HIn.out rfl⟩) hS0 ?_
  simp only [Act.put, List.setIfInBounds_toArray, List.set_cons_zero, List.set_cons_succ]
  refine alw_take (i := 14) (v := .pointer (some ⟨c, 0, none⟩)) rfl (by kernel_rfl) (by kernel_rfl) (fun _ _ _ h => h) (.inl ⟨by rfl, fun W hW => exec_load1 rfl rfl (by kernel_rfl) hW.2.2⟩) hS0 ?_
  simp only [Act.put, List.setIfInBounds_toArray, List.set_cons_zero, List.set_cons_succ]
  refine alw_take (i := 15) (v := .pointer (some ⟨l, 0, none⟩)) rfl (by kernel_rfl) (by kernel_rfl) (fun _ _ _ h => h) (.inl ⟨by rfl, fun W hW => gx_assign rfl rfl⟩) hS0 ?_
  simp only [Act.put, List.setIfInBounds_toArray, List.set_cons_zero, List.set_cons_succ]
  refine alw_take (i := 16) (v := .pointer (some ⟨c, 0, none⟩)) rfl (by kernel_rfl) (by kernel_rfl) (fun _ _ _ h => h) (.inl ⟨by rfl, fun W hW => gx_assign rfl rfl⟩) hS0 ?_
  simp only [Act.put, List.setIfInBounds_toArray, List.set_cons_zero, List.set_cons_succ]
  refine alw_done rfl ?_
  clear hS0
  refine NoPanic.normal ?_
  try simp only [Act.put, List.setIfInBounds_toArray, List.set_cons_zero, List.set_cons_succ]
  have HTO1 := Lib.hid (HTO0.out.trans (To.still HI0.out HTd.out))
  have HP1_n := HP0_n
  have HP1_l := HP0_l
  have HP1_c := HP0_c
  have HS1 := HS0
  have HI1 := Lib.hid HTO1.out.in_
  obtain ⟨w1, hw1⟩ : ∃ q, q = w.drew := ⟨_, rfl⟩
  rw [← hw1] at HTO1 HI1 ⊢
  clear hw1 HTd
  go_upto_region 1 with fail
  refine wp_region_till (fun W => Blk W c 62 #[.slice AC nC cC, vkc] ∧ Blk W n 62 #[.slice (some ⟨bP, 0, none⟩) nP cP, .slice (some ⟨bK, 0, none⟩) nK cK]) 15 (by kernel_rfl) ?_
  have HD := Lib.hid ((Turn.refl nowhere w1).drew)
  have hS0 : Blk w1.drew c 62 #[.slice AC nC cC, vkc] ∧ Blk w1.drew n 62 #[.slice (some ⟨bP, 0, none⟩) nP cP, .slice (some ⟨bK, 0, none⟩) nK cK] := ⟨(HI1.out.at_ HP1_c.out).blk, (HI1.out.at_ HP1_n.out).blk⟩
  refine till_take (i := 0) (v := .pointer (some ⟨c, 0, none⟩)) rfl (by kernel_rfl) (by kernel_rfl) (fun _ _ _ h => h) (.inl ⟨by rfl, fun W hW => exec_move rfl rfl⟩) hS0 ?_
  simp only [Act.put, List.setIfInBounds_toArray, List.set_cons_zero, List.set_cons_succ]
  refine till_take (i := 1) (v := .pointer (some ⟨c, 0, none⟩)) rfl (by kernel_rfl) (by kernel_rfl) (fun _ _ _ h => h) (.inl ⟨by rfl, fun W hW => exec_move rfl rfl⟩) hS0 ?_
  simp only [Act.put, List.setIfInBounds_toArray, List.set_cons_zero, List.set_cons_succ]
  refine till_take (i := 2) (v := .pointer (some ⟨c, 0, none⟩)) rfl (by kernel_rfl) (by kernel_rfl) (fun _ _ _ h => h) (.inl ⟨by rfl, fun W hW => exec_nil rfl rfl⟩) hS0 ?_
  simp only [Act.put, List.setIfInBounds_toArray, List.set_cons_zero, List.set_cons_succ]
  refine till_take (i := 3) (v := .pointer (some ⟨c, 0, none⟩)) rfl (by kernel_rfl) (by kernel_rfl) (fun _ _ _ h => h) (.inl ⟨by rfl, fun W hW => exec_field (off := 0) (d := 0) rfl rfl (by kernel_rfl)⟩) hS0 ?_
  simp only [Act.put, List.setIfInBounds_toArray, List.set_cons_zero, List.set_cons_succ]
  refine till_take (i := 4) (v := .slice AC nC cC) rfl (by kernel_rfl) (by kernel_rfl) (fun _ _ _ h => h) (.inl ⟨by rfl, fun W hW => exec_load1 rfl rfl (by kernel_rfl) (hW.1.cell 0)⟩) hS0 ?_
  simp only [Act.put, List.setIfInBounds_toArray, List.set_cons_zero, List.set_cons_succ]
  refine till_take (i := 5) (v := .pointer (some ⟨n, 0, none⟩)) rfl (by kernel_rfl) (by kernel_rfl) (fun _ _ _ h => h) (.inl ⟨by rfl, fun W hW => exec_move rfl rfl⟩) hS0 ?_
  simp only [Act.put, List.setIfInBounds_toArray, List.set_cons_zero, List.set_cons_succ]
  refine till_take (i := 6) (v := .pointer (some ⟨n, 0, none⟩)) rfl (by kernel_rfl) (by kernel_rfl) (fun _ _ _ h => h) (.inl ⟨by rfl, fun W hW => exec_nil rfl rfl⟩) hS0 ?_
  simp only [Act.put, List.setIfInBounds_toArray, List.set_cons_zero, List.set_cons_succ]
  refine till_take (i := 7) (v := .pointer (some ⟨n, 0, none⟩)) rfl (by kernel_rfl) (by kernel_rfl) (fun _ _ _ h => h) (.inl ⟨by rfl, fun W hW => exec_field (off := 0) (d := 0) rfl rfl (by kernel_rfl)⟩) hS0 ?_
  simp only [Act.put, List.setIfInBounds_toArray, List.set_cons_zero, List.set_cons_succ]
  refine till_take (i := 8) (v := .slice (some ⟨bP, 0, none⟩) nP cP) rfl (by kernel_rfl) (by kernel_rfl) (fun _ _ _ h => h) (.inl ⟨by rfl, fun W hW => exec_load1 rfl rfl (by kernel_rfl) (hW.2.cell 0)⟩) hS0 ?_
  simp only [Act.put, List.setIfInBounds_toArray, List.set_cons_zero, List.set_cons_succ]
  refine till_take (i := 9) (v := .int .i64 (i : Int)) rfl (by kernel_rfl) (by kernel_rfl) (fun _ _ _ h => h) (.inl ⟨by rfl, fun W hW => exec_move rfl rfl⟩) hS0 ?_
  simp only [Act.put, List.setIfInBounds_toArray, List.set_cons_zero, List.set_cons_succ]
  refine till_take (i := 10) (v := .int .i64 (j : Int)) rfl (by kernel_rfl) (by kernel_rfl) (fun _ _ _ h => h) (.inl ⟨by rfl, fun W hW => ix_sub rfl rfl rfl (by omega) (by omega)⟩) hS0 ?_
  simp only [Act.put, List.setIfInBounds_toArray, List.set_cons_zero, List.set_cons_succ]
  refine till_take (i := 11) (v := .pointer (some ⟨bP, 0 + j * 2, none⟩)) rfl (by kernel_rfl) (by kernel_rfl) (fun _ _ _ h => h) (.inl ⟨by rfl, fun W hW => gx_iaddr (i := j) (sz := 2) rfl rfl rfl Try.underlying59 size_pair HJp.out rfl⟩) hS0 ?_
  simp only [Act.put, List.setIfInBounds_toArray, List.set_cons_zero, List.set_cons_succ]
  refine till_step (i := 12) (by kernel_rfl) rfl rfl ?_
  intro K1 HK1
  refine wp_run (v := .agg (encP p0).toArray) (gx_loads rfl rfl (((HI1.out.still HD.out).at_ HP1_n.out).prs.el0 (by rw [List.getElem?_map, HPJ.out]; rfl)) Try.underlying65 rfl (by rw [size_pair]; rfl)) ?_
  refine HK1.out _ _ ⟨fun _ => hS0, ?_⟩
  clear HK1
  simp only [Act.put, List.setIfInBounds_toArray, List.set_cons_zero, List.set_cons_succ]
  have hb2 := Blk.new w1.drew 65 (encP p0).toArray
  have ht2 := (Turn.refl nowhere w1.drew).alloc (.cells (encP p0).toArray 65)
  obtain ⟨g2, hg2⟩ : ∃ q, q = w1.drew.heap.size := ⟨_, rfl⟩
  have hS1 : Blk (w1.drew.alloc (.cells (encP p0).toArray 65)) c 62 #[.slice AC nC cC, vkc] ∧ Blk (w1.drew.alloc (.cells (encP p0).toArray 65)) n 62 #[.slice (some ⟨bP, 0, none⟩) nP cP, .slice (some ⟨bK, 0, none⟩) nK cK] := ⟨hS0.1.alloc _, hS0.2.alloc _⟩
  have hbld := build_oneP p0 w1.drew
  rw [← hg2] at hb2 hbld
  generalize w1.drew.alloc (.cells (encP p0).toArray 65) = w2 at *
  refine till_step (i := 13) (by kernel_rfl) rfl rfl ?_
  intro K1 HK1
  refine wp_run (v := .slice (some ⟨g2, 0, none⟩) 1 1) (w' := w2) (exec_buildSlice1 rfl rfl hbld) ?_
  refine HK1.out _ _ ⟨fun _ => hS1, ?_⟩
  clear HK1
  simp only [Act.put, List.setIfInBounds_toArray, List.set_cons_zero, List.set_cons_succ]
  have HBG := Lib.hid hb2
  have HT12 := Lib.hid (HD.out.trans ht2 fun _ _ e => e)
  have HG2 := Lib.hid (show w1.heap.size ≤ g2 from by rw [hg2]; exact Nat.le_refl _)
  have HI12 := Lib.hid (HI1.out.still HT12.out)
  have HGN := Lib.hid (show (Value.slice AC nC cC).ownBlock ≠ some g2 from fun e => by have := (HI1.out.at_ HP1_c.out).prs.lt e; have := HG2.out; omega)
  clear hb2 ht2 hbld hg2
  refine till_step (i := 14) (by kernel_rfl) rfl rfl ?_
  intro K1 HK1
  go_wp2_with fail
  refine (InsertP (i := 0) (HI12.out.at_ HP1_c.out).prs (by rw [List.length_map]; exact HLCc.out.symm) (Nat.zero_le _) HBG.out rfl (encP_one p0) HGN.out (by have := HLCc.out; have := B3.out; omega)).mono ?_
  rintro e w3 ⟨v', rfl, hrow, hto⟩
  have hS3 : Blk w3 c 62 #[.slice AC nC cC, vkc] ∧ Blk w3 n 62 #[.slice (some ⟨bP, 0, none⟩) nP cP, .slice (some ⟨bK, 0, none⟩) nK cK] := ⟨HI12.out.blkP HP1_c.out HP1_c.out hto.1, HI12.out.blkP HP1_c.out HP1_n.out hto.1⟩
  refine HK1.out _ _ ⟨fun _ => hS3, ?_⟩
  clear HK1
  try simp only [Act.put, List.setIfInBounds_toArray, List.set_cons_zero, List.set_cons_succ]
  refine till_tail 15 rfl (by kernel_rfl) ?_
  refine wpList_run (v := .pointer (some ⟨c, 0, none⟩)) rfl (exec_nil rfl rfl) ?_
  simp only [Act.put, List.setIfInBounds_toArray, List.set_cons_zero, List.set_cons_succ]
  refine wpList_run (v := .pointer (some ⟨c, 0, none⟩)) rfl (exec_field (off := 0) (d := 0) rfl rfl (by kernel_rfl)) ?_
  simp only [Act.put, List.setIfInBounds_toArray, List.set_cons_zero, List.set_cons_succ]
  refine wpList_storeU 0 v' rfl 59 _ _ rfl hS3.1 rfl rfl (by show 0 < 2; omega) (slice_one hrow) size_sP ?_
  intro w4 hb4 ht4
  have h24 := HI12.out.setP (ps' := p0 :: cp) HP1_c.out hto.1 hto.2 ht4 hb4 (by
    have h := hrow
    rw [ins_map] at h
    exact h)
  have HX4 := Lib.hid (To.trans (To.still HI1.out HT12.out) h24)
  clear hrow hto hb4 ht4 h24 hS3 hS1 hS0 HBG HGN
  refine wpList_nil ?_
  refine NoPanic.normal ?_
  simp only [Act.put, List.setIfInBounds_toArray, List.set_cons_zero, List.set_cons_succ]
  have HT2 := Lib.hid (HX4.out)
  obtain ⟨H2, hH2⟩ : ∃ q, q = up H c ⟨(p0 :: cp), ck, v', vkc⟩ := ⟨_, rfl⟩
  have HP2_n := Lib.hid (show H2 n = some ⟨ps, ks, .slice (some ⟨bP, 0, none⟩) nP cP, .slice (some ⟨bK, 0, none⟩) nK cK⟩ from by rw [hH2, up_other _ _ _ HNC.out]; exact HP1_n.out)
  have HP2_l := Lib.hid (show H2 l = some ⟨lp, lk, .slice (some ⟨bL, 0, none⟩) nL cL, vkl⟩ from by rw [hH2, up_other _ _ _ HLC.out]; exact HP1_l.out)
  have HP2_c := Lib.hid (show H2 c = some ⟨(p0 :: cp), ck, v', vkc⟩ from by rw [hH2]; exact up_same _ _ _)
  have HS2 := Lib.hid (show Same H H2 (fun q => q = n ∨ q = l ∨ q = c) from by rw [hH2]; exact HS1.out.trans (same_up _ _ _) (fun _ e => e) fun _ e => .inr (.inr e))
  rw [← hH2] at HT2
  have HTO2 := Lib.hid (HTO1.out.trans HT2.out)
  have HI2 := Lib.hid HTO2.out.in_
  clear hH2
  clear HX4 HT12 HI12 HD HG2
  go_upto_region 2 with fail
  refine wp_region_till (fun W => Blk W n 62 #[.slice (some ⟨bP, 0, none⟩) nP cP, .slice (some ⟨bK, 0, none⟩) nK cK]) 14 (by kernel_rfl) ?_
  have HD := Lib.hid ((Turn.refl nowhere w4).drew)
  have HI4d := Lib.hid (HI2.out.still HD.out)
  have hS0 : Blk w4.drew n 62 #[.slice (some ⟨bP, 0, none⟩) nP cP, .slice (some ⟨bK, 0, none⟩) nK cK] := (HI2.out.at_ HP2_n.out).blk
  refine till_take (i := 0) (v := .pointer (some ⟨n, 0, none⟩)) rfl (by kernel_rfl) (by kernel_rfl) (fun _ _ _ h => h) (.inl ⟨by rfl, fun W hW => exec_move rfl rfl⟩) hS0 ?_
  simp only [Act.put, List.setIfInBounds_toArray, List.set_cons_zero, List.set_cons_succ]
  refine till_take (i := 1) (v := .pointer (some ⟨n, 0, none⟩)) rfl (by kernel_rfl) (by kernel_rfl) (fun _ _ _ h => h) (.inl ⟨by rfl, fun W hW => exec_nil rfl rfl⟩) hS0 ?_
  simp only [Act.put, List.setIfInBounds_toArray, List.set_cons_zero, List.set_cons_succ]
  refine till_take (i := 2) (v := .pointer (some ⟨n, 0, none⟩)) rfl (by kernel_rfl) (by kernel_rfl) (fun _ _ _ h => h) (.inl ⟨by rfl, fun W hW => exec_field (off := 0) (d := 0) rfl rfl (by kernel_rfl)⟩) hS0 ?_
  simp only [Act.put, List.setIfInBounds_toArray, List.set_cons_zero, List.set_cons_succ]
  refine till_take (i := 3) (v := .slice (some ⟨bP, 0, none⟩) nP cP) rfl (by kernel_rfl) (by kernel_rfl) (fun _ _ _ h => h) (.inl ⟨by rfl, fun W hW => exec_load1 rfl rfl (by kernel_rfl) (hW.cell 0)⟩) hS0 ?_
  simp only [Act.put, List.setIfInBounds_toArray, List.set_cons_zero, List.set_cons_succ]
  refine till_take (i := 4) (v := .int .i64 (i : Int)) rfl (by kernel_rfl) (by kernel_rfl) (fun _ _ _ h => h) (.inl ⟨by rfl, fun W hW => exec_move rfl rfl⟩) hS0 ?_
  simp only [Act.put, List.setIfInBounds_toArray, List.set_cons_zero, List.set_cons_succ]
  refine till_take (i := 5) (v := .int .i64 (j : Int)) rfl (by kernel_rfl) (by kernel_rfl) (fun _ _ _ h => h) (.inl ⟨by rfl, fun W hW => ix_sub rfl rfl rfl (by omega) (by omega)⟩) hS0 ?_
  simp only [Act.put, List.setIfInBounds_toArray, List.set_cons_zero, List.set_cons_succ]
  refine till_take (i := 6) (v := .pointer (some ⟨l, 0, none⟩)) rfl (by kernel_rfl) (by kernel_rfl) (fun _ _ _ h => h) (.inl ⟨by rfl, fun W hW => exec_move rfl rfl⟩) hS0 ?_
  simp only [Act.put, List.setIfInBounds_toArray, List.set_cons_zero, List.set_cons_succ]
  refine till_take (i := 7) (v := .pointer (some ⟨l, 0, none⟩)) rfl (by kernel_rfl) (by kernel_rfl) (fun _ _ _ h => h) (.inl ⟨by rfl, fun W hW => exec_move rfl rfl⟩) hS0 ?_
  simp only [Act.put, List.setIfInBounds_toArray, List.set_cons_zero, List.set_cons_succ]
  refine till_take (i := 8) (v := .pointer (some ⟨l, 0, none⟩)) rfl (by kernel_rfl) (by kernel_rfl) (fun _ _ _ h => h) (.inl ⟨by rfl, fun W hW => exec_nil rfl rfl⟩) hS0 ?_
  simp only [Act.put, List.setIfInBounds_toArray, List.set_cons_zero, List.set_cons_succ]
  refine till_take (i := 9) (v := .pointer (some ⟨l, 0, none⟩)) rfl (by kernel_rfl) (by kernel_rfl) (fun _ _ _ h => h) (.inl ⟨by rfl, fun W hW => exec_field (off := 0) (d := 0) rfl rfl (by kernel_rfl)⟩) hS0 ?_
  simp only [Act.put, List.setIfInBounds_toArray, List.set_cons_zero, List.set_cons_succ]
  refine till_step (i := 10) (by kernel_rfl) rfl rfl ?_
  intro K1 HK1
  refine wp_run (v := .slice (some ⟨bL, 0, none⟩) nL cL) (exec_load1 rfl rfl (by kernel_rfl) ((HI4d.out.at_ HP2_l.out).blk.cell 0)) ?_
  refine HK1.out _ _ ⟨fun _ => hS0, ?_⟩
  clear HK1
  simp only [Act.put, List.setIfInBounds_toArray, List.set_cons_zero, List.set_cons_succ]
  refine till_take (i := 11) (v := .int .i64 (nL : Int)) rfl (by kernel_rfl) (by kernel_rfl) (fun _ _ _ h => h) (.inl ⟨by rfl, fun W hW => gx_len rfl rfl Try.underlying59⟩) hS0 ?_
  simp only [Act.put, List.setIfInBounds_toArray, List.set_cons_zero, List.set_cons_succ]
  refine till_take (i := 12) (v := .int .i64 (m : Int)) rfl (by kernel_rfl) (by kernel_rfl) (fun _ _ _ h => h) (.inl ⟨by rfl, fun W hW => ix_sub rfl rfl rfl (by omega) (by omega)⟩) hS0 ?_
  simp only [Act.put, List.setIfInBounds_toArray, List.set_cons_zero, List.set_cons_succ]
  refine till_step (i := 13) (by kernel_rfl) rfl rfl ?_
  intro K1 HK1
  go_wp2_with fail
  refine (takePair_walk HI4d.out ⟨_, _, HP2_l.out⟩ HQM.out (by have := B2.out; omega)).mono ?_
  rintro e w5 ⟨rfl, H3, hto, his, hsame⟩
  have hn5 := (hsame n HNL.out).trans HP2_n.out
  have hS5 : Blk w5 n 62 #[.slice (some ⟨bP, 0, none⟩) nP cP, .slice (some ⟨bK, 0, none⟩) nK cK] := (hto.in_.at_ hn5).blk
  refine HK1.out _ _ ⟨fun _ => hS5, ?_⟩
  clear HK1
  try simp only [Act.put, List.setIfInBounds_toArray, List.set_cons_zero, List.set_cons_succ]
  clear hn5
  have hto5 := To.trans (To.still HI2.out HD.out) hto
  rw [last_drop HLL.out HM.out] at his
  obtain ⟨vp3, vk3, hp3⟩ := his
  have HP3_l := Lib.hid hp3
  clear hp3
  have HP3_n := Lib.hid ((hsame n HNL.out).trans HP2_n.out)
  have HP3_c := Lib.hid ((hsame c (Ne.symm HLC.out)).trans HP2_c.out)
  have HS3 := Lib.hid (HS2.out.trans hsame (fun _ e => e) fun _ e => .inr (.inl e))
  have HTO3 := Lib.hid (HTO2.out.trans hto5)
  have HI3 := Lib.hid HTO3.out.in_
  clear hto5 hto hsame
  refine till_tail 14 rfl (by kernel_rfl) ?_
  refine wpList_run (v := .pointer (some ⟨bP, 0 + j * 2, none⟩)) rfl (gx_iaddr (i := j) (sz := 2) rfl rfl rfl Try.underlying59 size_pair HJp.out rfl) ?_
  simp only [Act.put, List.setIfInBounds_toArray, List.set_cons_zero, List.set_cons_succ]
  obtain ⟨cur, hcur, hcs, _, _, hnc, _, _⟩ := orw_block (HI3.out.at_ HP3_n.out).prs
  refine wpList_store_mid rfl 65 _ _ rfl (g := bP) (off := 0 + j * 2) (t := 65) (encP q0).toArray hcur rfl rfl (by rw [hcs]; show 0 + j * 2 + 2 ≤ cP * 2; have := HJp.out; omega) (by rw [size_pair]; rfl) (fun v hv => encP_one q0 v (by simpa using hv)) ?_
  intro w6 C6 hb6 hs6 hc6 ht6
  have hrow6 := orw_mid (HI3.out.at_ HP3_n.out).prs hcur hb6 hs6 HJp.out hc6
  have ht6' : Turn (fun b => (.slice (some ⟨bP, 0, none⟩) nP cP : Value).ownBlock = some b) w5 w6 := ht6.mono fun k _ e => by
    have e : k = bP := e
    rw [e]; rfl
  have HX6 := Lib.hid (HI3.out.setP (ps' := ps.set j q0) HP3_n.out ht6' (fun b hb => .inl hb) (Turn.refl _ _) (HI3.out.blkP HP3_n.out HP3_n.out ht6') hrow6)
  clear hcur hcs hnc hb6 hs6 hc6 ht6 hrow6 ht6' hS5 hS0
  refine wpList_nil ?_
  refine NoPanic.normal ?_
  simp only [Act.put, List.setIfInBounds_toArray, List.set_cons_zero, List.set_cons_succ]
  have HT4 := Lib.hid (HX6.out)
  obtain ⟨H4, hH4⟩ : ∃ q, q = up H3 n ⟨(ps.set j q0), ks, .slice (some ⟨bP, 0, none⟩) nP cP, .slice (some ⟨bK, 0, none⟩) nK cK⟩ := ⟨_, rfl⟩
  have HP4_n := Lib.hid (show H4 n = some ⟨(ps.set j q0), ks, .slice (some ⟨bP, 0, none⟩) nP cP, .slice (some ⟨bK, 0, none⟩) nK cK⟩ from by rw [hH4]; exact up_same _ _ _)
  have HP4_l := Lib.hid (show H4 l = some ⟨(lp.take m), lk, vp3, vk3⟩ from by rw [hH4, up_other _ _ _ (Ne.symm HNL.out)]; exact HP3_l.out)
  have HP4_c := Lib.hid (show H4 c = some ⟨(p0 :: cp), ck, v', vkc⟩ from by rw [hH4, up_other _ _ _ (Ne.symm HNC.out)]; exact HP3_c.out)
  have HS4 := Lib.hid (show Same H H4 (fun q => q = n ∨ q = l ∨ q = c) from by rw [hH4]; exact HS3.out.trans (same_up _ _ _) (fun _ e => e) fun _ e => .inl e)
  rw [← hH4] at HT4
  have HTO4 := Lib.hid (HTO3.out.trans HT4.out)
  have HI4 := Lib.hid HTO4.out.in_
  clear hH4
  clear HX6 HI4d HD
  have HN_l := Lib.hid (show NodeAt w6 l vp3 vk3 (lp.take m) lk from (HI4.out.at_ HP4_l.out))
  have hw := lowest_walk HN_l.out
  by_cases hks : lk = []
  · subst hks
    rw [show decide (([] : List Nat) = []) = true from rfl] at hw
    have HW := Lib.hid hw
    clear hw
    go_upto_region 3 with fail
    refine wp_region_lit ?_
    refine wpList_run (v := .pointer (some ⟨l, 0, none⟩)) rfl (exec_move rfl rfl) ?_
    simp only [Act.put, List.setIfInBounds_toArray, List.set_cons_zero, List.set_cons_succ]
    refine wpList_op rfl fun K9 HK9 => ?_
    go_wp2_with fail
    refine (HW.out).mono ?_
    rintro e w7 ⟨rfl, rfl⟩
    refine HK9.out _ _ ?_
    clear HK9
    try simp only [Act.put, List.setIfInBounds_toArray, List.set_cons_zero, List.set_cons_succ]
    refine wpList_run (v := .bool false) rfl (ix_not (b := true) rfl rfl) ?_
    simp only [Act.put, List.setIfInBounds_toArray, List.set_cons_zero, List.set_cons_succ]
    go_wp2_with fail
    go_end0
    exact ⟨rfl, H4, HTO4.out, ⟨_, _, HP4_n.out⟩, by rw [show lp.length - 1 = m from by have := HLL.out; have := HM.out; omega]; exact ⟨_, _, HP4_l.out⟩, ⟨_, _, HP4_c.out⟩, HS4.out⟩
  · rw [show decide (lk = []) = false from decide_eq_false hks] at hw
    have HW := Lib.hid hw
    have HK0 := Lib.hid (show 0 < lk.length from List.length_pos_iff.2 hks)
    clear hw hks HN_l
    go_upto_region 3 with fail
    refine wp_region_lit ?_
    refine wpList_run (v := .pointer (some ⟨l, 0, none⟩)) rfl (exec_move rfl rfl) ?_
    simp only [Act.put, List.setIfInBounds_toArray, List.set_cons_zero, List.set_cons_succ]
    refine wpList_op rfl fun K9 HK9 => ?_
    go_wp2_with fail
    refine (HW.out).mono ?_
    rintro e w7 ⟨rfl, rfl⟩
    refine HK9.out _ _ ?_
    clear HK9
    try simp only [Act.put, List.setIfInBounds_toArray, List.set_cons_zero, List.set_cons_succ]
    clear HW
    refine wpList_run (v := .bool true) rfl (ix_not (b := false) rfl rfl) ?_
    simp only [Act.put, List.setIfInBounds_toArray, List.set_cons_zero, List.set_cons_succ]
    obtain ⟨bQ, cQ, e9, hc9, _⟩ := (HI4.out.at_ HP4_l.out).kds.some_ (by rw [List.length_map]; show 0 < (lk).length; have := HK0.out; omega)
    obtain ⟨nQ, hl9⟩ : ∃ q, q = (lk).length := ⟨_, rfl⟩
    rw [List.length_map] at hc9 e9
    replace e9 := e9.trans (show _ = Value.slice (some ⟨bQ, 0, none⟩) nQ cQ from by rw [hl9])
    subst e9
    have HLQ := Lib.hid hl9
    have HCQ := Lib.hid (show nQ ≤ cQ from by rw [hl9]; exact hc9)
    clear hl9 hc9
    obtain ⟨AD, cD, e9, hc9, _, hz9, _⟩ := (HI4.out.at_ HP4_c.out).kds.form
    obtain ⟨nD, hl9⟩ : ∃ q, q = (ck).length := ⟨_, rfl⟩
    rw [List.length_map] at hc9 e9
    replace e9 := e9.trans (show _ = Value.slice AD nD cD from by rw [hl9])
    subst e9
    have HLD := Lib.hid hl9
    have HCD := Lib.hid (show nD ≤ cD from by rw [hl9]; exact hc9)
    have HZD := Lib.hid hz9
    clear hl9 hc9 hz9
    obtain ⟨z, hz⟩ : ∃ z, z + 1 = nQ := ⟨nQ - 1, by have := HLQ.out; have := HK0.out; omega⟩
    have HZ := Lib.hid hz
    have y7 : (nQ : Int) ≤ (z : Int) + 1 := by omega
    have y8 : (z : Int) + 1 ≤ (nQ : Int) := by omega
    have y9 : (nQ : Int) ≤ 1000 := by have := HLQ.out; have := B5.out; omega
    obtain ⟨x, hx⟩ : ∃ x, lk[z]? = some x := ⟨_, List.getElem?_eq_getElem (show z < lk.length from by rw [← HLQ.out]; omega)⟩
    have HX := Lib.hid hx
    clear hz hx
    go_upto_region 4 with fail
    refine wp_region_till (fun W => Blk W c 62 #[v', .slice AD nD cD]) 15 (by kernel_rfl) ?_
    have HD := Lib.hid ((Turn.refl nowhere w7).drew)
    have HI7d := Lib.hid (HI4.out.still HD.out)
    have hS0 : Blk w7.drew c 62 #[v', .slice AD nD cD] := (HI4.out.at_ HP4_c.out).blk
    refine till_take (i := 0) (v := .pointer (some ⟨c, 0, none⟩)) rfl (by kernel_rfl) (by kernel_rfl) (fun _ _ _ h => h) (.inl ⟨by rfl, fun W hW => exec_move rfl rfl⟩) hS0 ?_
    simp only [Act.put, List.setIfInBounds_toArray, List.set_cons_zero, List.set_cons_succ]
    refine till_take (i := 1) (v := .pointer (some ⟨c, 0, none⟩)) rfl (by kernel_rfl) (by kernel_rfl) (fun _ _ _ h => h) (.inl ⟨by rfl, fun W hW => exec_move rfl rfl⟩) hS0 ?_
    simp only [Act.put, List.setIfInBounds_toArray, List.set_cons_zero, List.set_cons_succ]
    refine till_take (i := 2) (v := .pointer (some ⟨c, 0, none⟩)) rfl (by kernel_rfl) (by kernel_rfl) (fun _ _ _ h => h) (.inl ⟨by rfl, fun W hW => exec_nil rfl rfl⟩) hS0 ?_
    simp only [Act.put, List.setIfInBounds_toArray, List.set_cons_zero, List.set_cons_succ]
    refine till_take (i := 3) (v := .pointer (some ⟨c, 1, none⟩)) rfl (by kernel_rfl) (by kernel_rfl) (fun _ _ _ h => h) (.inl ⟨by rfl, fun W hW => exec_field (off := 0) (d := 1) rfl rfl (by kernel_rfl)⟩) hS0 ?_
    simp only [Act.put, List.setIfInBounds_toArray, List.set_cons_zero, List.set_cons_succ]
    refine till_take (i := 4) (v := .slice AD nD cD) rfl (by kernel_rfl) (by kernel_rfl) (fun _ _ _ h => h) (.inl ⟨by rfl, fun W hW => exec_load1 rfl rfl (by kernel_rfl) (hW.cell 1)⟩) hS0 ?_
    simp only [Act.put, List.setIfInBounds_toArray, List.set_cons_zero, List.set_cons_succ]
    refine till_take (i := 5) (v := .pointer (some ⟨l, 0, none⟩)) rfl (by kernel_rfl) (by kernel_rfl) (fun _ _ _ h => h) (.inl ⟨by rfl, fun W hW => exec_move rfl rfl⟩) hS0 ?_
    simp only [Act.put, List.setIfInBounds_toArray, List.set_cons_zero, List.set_cons_succ]
    refine till_take (i := 6) (v := .pointer (some ⟨l, 0, none⟩)) rfl (by kernel_rfl) (by kernel_rfl) (fun _ _ _ h => h) (.inl ⟨by rfl, fun W hW => exec_move rfl rfl⟩) hS0 ?_
    simp only [Act.put, List.setIfInBounds_toArray, List.set_cons_zero, List.set_cons_succ]
    refine till_take (i := 7) (v := .pointer (some ⟨l, 0, none⟩)) rfl (by kernel_rfl) (by kernel_rfl) (fun _ _ _ h => h) (.inl ⟨by rfl, fun W hW => exec_nil rfl rfl⟩) hS0 ?_
    simp only [Act.put, List.setIfInBounds_toArray, List.set_cons_zero, List.set_cons_succ]
    refine till_take (i := 8) (v := .pointer (some ⟨l, 1, none⟩)) rfl (by kernel_rfl) (by kernel_rfl) (fun _ _ _ h => h) (.inl ⟨by rfl, fun W hW => exec_field (off := 0) (d := 1) rfl rfl (by kernel_rfl)⟩) hS0 ?_
    simp only [Act.put, List.setIfInBounds_toArray, List.set_cons_zero, List.set_cons_succ]
    refine till_step (i := 9) (by kernel_rfl) rfl rfl ?_
    intro K1 HK1
    refine wp_run (v := .slice (some ⟨bQ, 0, none⟩) nQ cQ) (exec_load1 rfl rfl (by kernel_rfl) ((HI7d.out.at_ HP4_l.out).blk.cell 1)) ?_
    refine HK1.out _ _ ⟨fun _ => hS0, ?_⟩
    clear HK1
    simp only [Act.put, List.setIfInBounds_toArray, List.set_cons_zero, List.set_cons_succ]
    refine till_take (i := 10) (v := .int .i64 (nQ : Int)) rfl (by kernel_rfl) (by kernel_rfl) (fun _ _ _ h => h) (.inl ⟨by rfl, fun W hW => gx_len rfl rfl Try.underlying60⟩) hS0 ?_
    simp only [Act.put, List.setIfInBounds_toArray, List.set_cons_zero, List.set_cons_succ]
    refine till_take (i := 11) (v := .int .i64 (z : Int)) rfl (by kernel_rfl) (by kernel_rfl) (fun _ _ _ h => h) (.inl ⟨by rfl, fun W hW => ix_sub rfl rfl rfl (by omega) (by omega)⟩) hS0 ?_
    simp only [Act.put, List.setIfInBounds_toArray, List.set_cons_zero, List.set_cons_succ]
    refine till_step (i := 12) (by kernel_rfl) rfl rfl ?_
    intro K1 HK1
    go_wp2_with fail
    refine (takeKid_walk HI7d.out ⟨_, _, HP4_l.out⟩ HX.out (by have := B5.out; omega)).mono ?_
    rintro e w8 ⟨rfl, H8, hto, his, hsame⟩
    have hn8 := (hsame c (Ne.symm HLC.out)).trans HP4_c.out
    have hS8 : Blk w8 c 62 #[v', .slice AD nD cD] := (hto.in_.at_ hn8).blk
    refine HK1.out _ _ ⟨fun _ => hS8, ?_⟩
    clear HK1
    try simp only [Act.put, List.setIfInBounds_toArray, List.set_cons_zero, List.set_cons_succ]
    clear hn8
    have hto8 := To.trans (To.still HI4.out HD.out) hto
    rw [last_drop HLQ.out HZ.out] at his
    obtain ⟨vp5, vk5, hp5⟩ := his
    have HP5_l := Lib.hid hp5
    clear hp5
    have HP5_n := Lib.hid ((hsame n HNL.out).trans HP4_n.out)
    have HP5_c := Lib.hid ((hsame c (Ne.symm HLC.out)).trans HP4_c.out)
    have HS5 := Lib.hid (HS4.out.trans hsame (fun _ e => e) fun _ e => .inr (.inl e))
    have HTO5 := Lib.hid (HTO4.out.trans hto8)
    have HI5 := Lib.hid HTO5.out.in_
    clear hto8 hto hsame HI7d HD
    have hb2 := Blk.new w8 56 (encK x).toArray
    have ht2 := (Turn.refl nowhere w8).alloc (.cells (encK x).toArray 56)
    obtain ⟨g2, hg2⟩ : ∃ q, q = w8.heap.size := ⟨_, rfl⟩
    have hS9 : Blk (w8.alloc (.cells (encK x).toArray 56)) c 62 #[v', .slice AD nD cD] := hS8.alloc _
    have hbld := build_oneK x w8
    rw [← hg2] at hb2 hbld
    generalize w8.alloc (.cells (encK x).toArray 56) = w9 at *
    refine till_step (i := 13) (by kernel_rfl) rfl rfl ?_
    intro K1 HK1
    refine wp_run (v := .slice (some ⟨g2, 0, none⟩) 1 1) (w' := w9) (exec_buildSlice1 rfl rfl hbld) ?_
    refine HK1.out _ _ ⟨fun _ => hS9, ?_⟩
    clear HK1
    simp only [Act.put, List.setIfInBounds_toArray, List.set_cons_zero, List.set_cons_succ]
    have HBG := Lib.hid hb2
    have HT89 := Lib.hid ht2
    have HI89 := Lib.hid (HI5.out.still ht2)
    have HGN := Lib.hid (show (.slice AD nD cD : Value).ownBlock ≠ some g2 from fun e => by have := (HI5.out.at_ HP5_c.out).kds.lt e; omega)
    clear hb2 ht2 hbld hg2
    refine till_step (i := 14) (by kernel_rfl) rfl rfl ?_
    intro K1 HK1
    go_wp2_with fail
    refine (InsertK (i := 0) (HI89.out.at_ HP5_c.out).kds (by rw [List.length_map]; exact HLD.out.symm) (Nat.zero_le _) HBG.out rfl (encK_one x) HGN.out (by have := HLD.out; have := B6.out; omega)).mono ?_
    rintro e w10 ⟨v9, rfl, hrow, hto⟩
    have hS10 : Blk w10 c 62 #[v', .slice AD nD cD] := HI89.out.blkK HP5_c.out HP5_c.out hto.1
    refine HK1.out _ _ ⟨fun _ => hS10, ?_⟩
    clear HK1
    try simp only [Act.put, List.setIfInBounds_toArray, List.set_cons_zero, List.set_cons_succ]
    refine till_tail 15 rfl (by kernel_rfl) ?_
    refine wpList_run (v := .pointer (some ⟨c, 0, none⟩)) rfl (exec_nil rfl rfl) ?_
    simp only [Act.put, List.setIfInBounds_toArray, List.set_cons_zero, List.set_cons_succ]
    refine wpList_run (v := .pointer (some ⟨c, 1, none⟩)) rfl (exec_field (off := 0) (d := 1) rfl rfl (by kernel_rfl)) ?_
    simp only [Act.put, List.setIfInBounds_toArray, List.set_cons_zero, List.set_cons_succ]
    refine wpList_storeU 1 v9 rfl 60 _ _ rfl hS10 rfl rfl (by show 1 < 2; omega) (slice_one hrow) size_sK ?_
    intro w11 hb11 ht11
    have h24 := HI89.out.setK (ks' := x :: ck) HP5_c.out hto.1 hto.2 ht11 hb11 (by
      have h := hrow
      rw [ins_map] at h
      exact h)
    have HX11 := Lib.hid (To.trans (To.still HI5.out HT89.out) h24)
    clear hrow hto hb11 ht11 h24 hS10 hS9 hS8 hS0 HBG HGN
    refine wpList_nil ?_
    refine NoPanic.normal ?_
    simp only [Act.put, List.setIfInBounds_toArray, List.set_cons_zero, List.set_cons_succ]
    have HT6 := Lib.hid (HX11.out)
    obtain ⟨H6, hH6⟩ : ∃ q, q = up H8 c ⟨(p0 :: cp), (x :: ck), v', v9⟩ := ⟨_, rfl⟩
    have HP6_n := Lib.hid (show H6 n = some ⟨(ps.set j q0), ks, .slice (some ⟨bP, 0, none⟩) nP cP, .slice (some ⟨bK, 0, none⟩) nK cK⟩ from by rw [hH6, up_other _ _ _ HNC.out]; exact HP5_n.out)
    have HP6_l := Lib.hid (show H6 l = some ⟨(lp.take m), (lk.take z), vp5, vk5⟩ from by rw [hH6, up_other _ _ _ HLC.out]; exact HP5_l.out)
    have HP6_c := Lib.hid (show H6 c = some ⟨(p0 :: cp), (x :: ck), v', v9⟩ from by rw [hH6]; exact up_same _ _ _)
    have HS6 := Lib.hid (show Same H H6 (fun q => q = n ∨ q = l ∨ q = c) from by rw [hH6]; exact HS5.out.trans (same_up _ _ _) (fun _ e => e) fun _ e => .inr (.inr e))
    rw [← hH6] at HT6
    have HTO6 := Lib.hid (HTO5.out.trans HT6.out)
    have HI6 := Lib.hid HTO6.out.in_
    clear hH6
    go_wp2_with fail
    go_end0
    have e1 : lp.length - 1 = m := by have := HLL.out; have := HM.out; omega
    have e2 : lk.length - 1 = z := by have := HLQ.out; have := HZ.out; omega
    rw [e1, e2, HX.out]
    exact ⟨rfl, H6, HTO6.out, ⟨_, _, HP6_n.out⟩, ⟨_, _, HP6_l.out⟩, ⟨_, _, HP6_c.out⟩, HS6.out⟩
end Go.Proofs.Ytmlkdkbpbleilaa
