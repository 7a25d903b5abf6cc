/-
  slices.Insert of one element, slices.Delete and slices.Clone at index's rows (K): the walks. No conditions.
-/
import Derived.Test.YtmlkdkbpbleilaaIxA
namespace Go.Proofs.Ytmlkdkbpbleilaa
open Go.RowKit
set_option linter.unusedVariables false
set_option linter.unusedSimpArgs false
theorem exec_overK {a : Act} {o : Oper} {W : World} {x y : Operand} {u v : Value} {ts : Array TypeId} (ho : o.op = .call { callee := .value (.func 53), args := #[x, y], argTypes := ts }) (hx : a.eval x = u) (hy : a.eval y = v)
    (hr : (Extern.SlicesOverlaps.overlaps #[60, 60] #[4] #[u, v]).run Try.prog W = .ok (.bool false) W) : (execOp a.eval o).run Try.prog W = .ok (.value (.bool false)) W := by
  have h : (callFunc 53 #[u, v]).run Try.prog W = .ok (.value (.bool false)) W := by
    rw [run_callFunc_extern Try.func53 (by kernel_rfl) (by kernel_rfl) (by kernel_rfl) (e := Extern.SlicesOverlaps.overlaps #[60, 60] #[4]) (by kernel_rfl), hr]
    rfl
  unfold execOp
  simp only [ho, resolve, invoke, Sem.run_bind, Sem.run_pure, Result.andThen_ok, List.map_toArray, List.map_cons, List.map_nil, hx, hy]
  rw [show a.eval (Operand.func 53) = .func (.func 53) #[] #[] from rfl]
  simp [Deferred.ofValue, h]
set_option maxRecDepth 20000 in
set_option maxHeartbeats 2000000 in
theorem InsertK {w : World} {A : Option Addr} {n c i g : Nat} {rs : List (List Value)} {x : List Value} (hown : Orw w 0 56 1 (.slice A n c) rs) (hn : rs.length = n) (hi : i ≤ n) (hx : Blk w g 56 x.toArray) (hxk : x.length = 1) (hx1 : ∀ u ∈ x, u.oneCell' = true)
    (hg : (Value.slice A n c).ownBlock ≠ some g) (hsz : n ≤ 100000) :
    Calls Try.prog 39 #[.slice A n c, .int .i64 (i : Int), .slice (some ⟨g, 0, none⟩) 1 1] w fun e w' =>
      ∃ v', e = .returned v' ∧ Orw w' 0 56 1 v' (rs.take i ++ x :: rs.drop i) ∧ RowTo w (.slice A n c) w' v' := by
  obtain ⟨A9, c9, e9, hnc, hcm, hz, _⟩ := hown.form
  injection e9 with e1 e2 e3
  subst e1 e3
  rw [hn] at hnc
  clear e2
  have HO := Lib.hid hown
  have HN := Lib.hid hn
  have HI := Lib.hid hi
  have HX := Lib.hid hx
  have HXK := Lib.hid hxk
  have HX1 := Lib.hid hx1
  have HG := Lib.hid hg
  have HS := Lib.hid hsz
  have HNC := Lib.hid hnc
  have HCM := Lib.hid hcm
  have y1 : (n : Int) ≤ 100000 := by omega
  have y2 : (i : Int) ≤ (n : Int) := by omega
  have y3 : (c : Int) ≤ 9223372036854775807 := by unfold maxLen at hcm; omega
  clear hown hn hi hx hxk hx1 hg hsz hnc hcm hz
  go_enter Try.func39, Try.ntmps39
  go_upto_region 1 with fail
  refine wp_region_lit ?_
  refine wpList_run (v := .slice A n c) rfl (exec_move rfl rfl) ?_
  simp only [Act.put, List.setIfInBounds_toArray, List.set_cons_zero, List.set_cons_succ]
  refine wpList_run (v := .int .i64 (i : Int)) rfl (exec_move rfl rfl) ?_
  simp only [Act.put, List.setIfInBounds_toArray, List.set_cons_zero, List.set_cons_succ]
  refine wpList_run (v := .slice (fromK 1 A c i) (n - i) (c - i)) rfl (exec_slice rfl rfl rfl rfl rfl (sl_from elmK A n c i HI.out HNC.out _)) ?_
  simp only [Act.put, List.setIfInBounds_toArray, List.set_cons_zero, List.set_cons_succ]
  go_upto_region 2 with fail
  refine wp_region_lit ?_
  refine wpList_run (v := .slice (some ⟨g, 0, none⟩) 1 1) rfl (exec_move rfl rfl) ?_
  simp only [Act.put, List.setIfInBounds_toArray, List.set_cons_zero, List.set_cons_succ]
  refine wpList_run (v := .int .i64 1) rfl (gx_len rfl rfl Try.underlying60) ?_
  simp only [Act.put, List.setIfInBounds_toArray, List.set_cons_zero, List.set_cons_succ]
  refine wpList_run (v := .int .i64 1) rfl (gx_assign rfl rfl) ?_
  simp only [Act.put, List.setIfInBounds_toArray, List.set_cons_zero, List.set_cons_succ]
  go_upto_region 3 with fail
  refine wp_region_lit ?_
  refine wpList_run (v := .int .i64 1) rfl (exec_move rfl rfl) ?_
  simp only [Act.put, List.setIfInBounds_toArray, List.set_cons_zero, List.set_cons_succ]
  refine wpList_run (v := .bool false) rfl (ix_eql rfl rfl rfl (by decide)) ?_
  simp only [Act.put, List.setIfInBounds_toArray, List.set_cons_zero, List.set_cons_succ]
  go_upto_region 5 with fail
  refine wp_region_lit ?_
  refine wpList_run (v := .slice A n c) rfl (exec_move rfl rfl) ?_
  simp only [Act.put, List.setIfInBounds_toArray, List.set_cons_zero, List.set_cons_succ]
  refine wpList_run (v := .int .i64 (n : Int)) rfl (gx_len rfl rfl Try.underlying60) ?_
  simp only [Act.put, List.setIfInBounds_toArray, List.set_cons_zero, List.set_cons_succ]
  refine wpList_run (v := .int .i64 (n : Int)) rfl (gx_assign rfl rfl) ?_
  simp only [Act.put, List.setIfInBounds_toArray, List.set_cons_zero, List.set_cons_succ]
  go_upto_region 6 with fail
  refine wp_region_lit ?_
  refine wpList_run (v := .int .i64 (i : Int)) rfl (exec_move rfl rfl) ?_
  simp only [Act.put, List.setIfInBounds_toArray, List.set_cons_zero, List.set_cons_succ]
  refine wpList_run (v := .int .i64 (n : Int)) rfl (exec_move rfl rfl) ?_
  simp only [Act.put, List.setIfInBounds_toArray, List.set_cons_zero, List.set_cons_succ]
  by_cases hin : i = n
  · refine wpList_run (v := .bool true) rfl (ix_eql rfl rfl rfl (decide_eq_true (by omega))) ?_
    simp only [Act.put, List.setIfInBounds_toArray, List.set_cons_zero, List.set_cons_succ]
    subst hin
    obtain ⟨A7, c7, w7, hrun, hrow, hgr, hob⟩ := orw_grow elmK (ty := 60) (c := 1) HO.out (Nat.zero_le _) (rws_blk HX.out HXK.out) (Fit.one HXK.out HX1.out) (fun h => by cases h) (by have := HS.out; rw [HN.out]; omega)
    rw [HN.out] at hrun hrow hob
    have HR7 := Lib.hid hrow
    have HT7 := Lib.hid (show RowTo w (.slice A i c) w7 (.slice A7 (i + 1) c7) from ⟨(Turn.refl _ w).grown hgr fun g e _ => e, fun b hb => by
      rcases hob with h | h
      · exact .inl (h.symm.trans hb)
      · rw [h] at hb
        exact .inr (by have := Option.some.inj hb; omega)⟩)
    have HE := Lib.hid (show rs.take i ++ x :: rs.drop i = rs ++ [x] from by rw [List.take_of_length_le (by rw [HN.out]; exact Nat.le_refl _), List.drop_of_length_le (by rw [HN.out]; exact Nat.le_refl _)])
    clear hrow hgr hob
    go_upto_region 7 with fail
    refine wp_region_lit ?_
    refine wpList_run (v := .slice A i c) rfl (exec_move rfl rfl) ?_
    simp only [Act.put, List.setIfInBounds_toArray, List.set_cons_zero, List.set_cons_succ]
    refine wpList_run (v := .slice (some ⟨g, 0, none⟩) 1 1) rfl (exec_move rfl rfl) ?_
    simp only [Act.put, List.setIfInBounds_toArray, List.set_cons_zero, List.set_cons_succ]
    refine wpList_run (v := .slice A7 (i + 1) c7) (w' := w7) rfl (exec_append rfl rfl rfl hrun) ?_
    simp only [Act.put, List.setIfInBounds_toArray, List.set_cons_zero, List.set_cons_succ]
    refine wpList_run (v := .slice A7 (i + 1) c7) rfl (gx_assign rfl rfl) ?_
    simp only [Act.put, List.setIfInBounds_toArray, List.set_cons_zero, List.set_cons_succ]
    clear hrun
    go_wp2_with fail
    go_ret
    rw [HE.out]
    exact ⟨_, rfl, HR7.out, HT7.out⟩
  · refine wpList_run (v := .bool false) rfl (ix_eql rfl rfl rfl (decide_eq_false (by omega))) ?_
    simp only [Act.put, List.setIfInBounds_toArray, List.set_cons_zero, List.set_cons_succ]
    have hlt : i < n := by omega
    have y4 : (i : Int) < (n : Int) := by omega
    have HLT := Lib.hid hlt
    clear hin hlt
    obtain ⟨b, rfl⟩ : ∃ b, A = some ⟨b, 0, none⟩ := by
      obtain ⟨b, c0, e, _⟩ := HO.out.some_ (by have := HLT.out; have := HN.out; omega)
      injection e with e _ _
      exact ⟨b, e⟩
    have HBG := Lib.hid (show b ≠ g from fun e => HG.out (by rw [e]; rfl))
    go_upto_region 8 with fail
    refine wp_region_lit ?_
    refine wpList_run (v := .int .i64 (n : Int)) rfl (exec_move rfl rfl) ?_
    simp only [Act.put, List.setIfInBounds_toArray, List.set_cons_zero, List.set_cons_succ]
    refine wpList_run (v := .int .i64 1) rfl (exec_move rfl rfl) ?_
    simp only [Act.put, List.setIfInBounds_toArray, List.set_cons_zero, List.set_cons_succ]
    refine wpList_run (v := .int .i64 ((n + 1 : Nat) : Int)) rfl (ix_add rfl rfl rfl (by omega) (by omega)) ?_
    simp only [Act.put, List.setIfInBounds_toArray, List.set_cons_zero, List.set_cons_succ]
    refine wpList_run (v := .slice (some ⟨b, 0, none⟩) n c) rfl (exec_move rfl rfl) ?_
    simp only [Act.put, List.setIfInBounds_toArray, List.set_cons_zero, List.set_cons_succ]
    refine wpList_run (v := .int .i64 (c : Int)) rfl (gx_cap rfl rfl Try.underlying60) ?_
    simp only [Act.put, List.setIfInBounds_toArray, List.set_cons_zero, List.set_cons_succ]
    by_cases hr : c < n + 1
    · refine wpList_run (v := .bool true) rfl (ix_gtr rfl rfl rfl (decide_eq_true (by omega))) ?_
      simp only [Act.put, List.setIfInBounds_toArray, List.set_cons_zero, List.set_cons_succ]
      obtain ⟨b9, e9, g2, c2, w2, hgw, hap, hg2, hm2, w3, hc3, w4, hc4, hrow, ht4⟩ := insK_grow elmK (ty := 3) (tn := 3) Try.underlying3 HO.out HLT.out HX.out HXK.out HX1.out hr (by have := HS.out; omega)
      obtain rfl : b = b9 := by injection e9 with e9; injection e9
      clear e9
      have HAP := Lib.hid hap
      have HC3 := Lib.hid hc3
      have HC4 := Lib.hid hc4
      have HR4 := Lib.hid hrow
      have HG2 := Lib.hid hg2
      have HT4 := Lib.hid (show RowTo w (.slice (some ⟨b, 0, none⟩) n c) w4 (.slice (some ⟨g2, 0, none⟩) (n + 1) c2) from ⟨ht4.mono fun _ _ e => e.elim, fun b' hb => .inr (by have hb : some g2 = some b' := hb; have := Option.some.inj hb; omega)⟩)
      have y5 : (n : Int) + 1 ≤ (c2 : Int) := by omega
      have y6 : (c2 : Int) ≤ 9223372036854775807 := by unfold maxLen at hm2; omega
      clear hap hc3 hc4 hrow ht4 hg2 hm2 hr hgw
      go_upto_region 9 with fail
      refine wp_region_lit ?_
      refine wpList_run (v := .slice (some ⟨b, 0, none⟩) n c) rfl (exec_move rfl rfl) ?_
      simp only [Act.put, List.setIfInBounds_toArray, List.set_cons_zero, List.set_cons_succ]
      refine wpList_run (v := .int .i64 (i : Int)) rfl (exec_move rfl rfl) ?_
      simp only [Act.put, List.setIfInBounds_toArray, List.set_cons_zero, List.set_cons_succ]
      refine wpList_run (v := .slice (some ⟨b, 0, none⟩) i c) rfl (exec_slice rfl rfl rfl rfl rfl (sl_to elmK _ n c i (by have := HNC.out; omega) _)) ?_
      simp only [Act.put, List.setIfInBounds_toArray, List.set_cons_zero, List.set_cons_succ]
      refine wpList_run (v := .int .i64 (n : Int)) rfl (exec_move rfl rfl) ?_
      simp only [Act.put, List.setIfInBounds_toArray, List.set_cons_zero, List.set_cons_succ]
      refine wpList_run (v := .int .i64 1) rfl (exec_move rfl rfl) ?_
      simp only [Act.put, List.setIfInBounds_toArray, List.set_cons_zero, List.set_cons_succ]
      refine wpList_run (v := .int .i64 ((n + 1 : Nat) : Int)) rfl (ix_add rfl rfl rfl (by omega) (by omega)) ?_
      simp only [Act.put, List.setIfInBounds_toArray, List.set_cons_zero, List.set_cons_succ]
      refine wpList_run (v := .int .i64 (i : Int)) rfl (exec_move rfl rfl) ?_
      simp only [Act.put, List.setIfInBounds_toArray, List.set_cons_zero, List.set_cons_succ]
      refine wpList_run (v := .int .i64 ((n + 1 - i : Nat) : Int)) rfl (ix_sub rfl rfl rfl (by omega) (by omega)) ?_
      simp only [Act.put, List.setIfInBounds_toArray, List.set_cons_zero, List.set_cons_succ]
      refine wpList_run (v := .slice (some ⟨g2, 0, none⟩) (n + 1) c2) (w' := w2) rfl (exec_appz rfl rfl rfl HAP.out) ?_
      simp only [Act.put, List.setIfInBounds_toArray, List.set_cons_zero, List.set_cons_succ]
      refine wpList_run (v := .slice (some ⟨g2, 0, none⟩) (n + 1) c2) rfl (gx_assign rfl rfl) ?_
      simp only [Act.put, List.setIfInBounds_toArray, List.set_cons_zero, List.set_cons_succ]
      go_upto_region 10 with fail
      refine wp_region_lit ?_
      refine wpList_run (v := .slice (some ⟨g2, 0, none⟩) (n + 1) c2) rfl (exec_move rfl rfl) ?_
      simp only [Act.put, List.setIfInBounds_toArray, List.set_cons_zero, List.set_cons_succ]
      refine wpList_run (v := .int .i64 (i : Int)) rfl (exec_move rfl rfl) ?_
      simp only [Act.put, List.setIfInBounds_toArray, List.set_cons_zero, List.set_cons_succ]
      refine wpList_run (v := .slice (some ⟨g2, i * 1, none⟩) (n + 1 - i) (c2 - i)) rfl (exec_slice rfl rfl rfl rfl rfl ((sl_from elmK _ (n + 1) c2 i (by omega) HG2.out _).trans (by rw [fromK_at (by omega), Nat.zero_add]))) ?_
      simp only [Act.put, List.setIfInBounds_toArray, List.set_cons_zero, List.set_cons_succ]
      refine wpList_run (v := .slice (some ⟨g, 0, none⟩) 1 1) rfl (exec_move rfl rfl) ?_
      simp only [Act.put, List.setIfInBounds_toArray, List.set_cons_zero, List.set_cons_succ]
      refine wpList_run (v := goInt (Nat.min 1 (n + 1 - i))) (w' := w3) rfl (exec_copy rfl rfl rfl HC3.out) ?_
      simp only [Act.put, List.setIfInBounds_toArray, List.set_cons_zero, List.set_cons_succ]
      go_upto_region 11 with fail
      refine wp_region_alw (fun _ => True) (by kernel_rfl) ?_
      have hS0 : True := trivial
      refine alw_take (i := 0) (v := .slice (some ⟨g2, 0, none⟩) (n + 1) c2) rfl (by kernel_rfl) (by kernel_rfl) (fun _ _ _ h => h) (.inl ⟨by rfl, fun W hW => exec_move rfl rfl⟩) hS0 ?_
      simp only [Act.put, List.setIfInBounds_toArray, List.set_cons_zero, List.set_cons_succ]
      refine alw_take (i := 1) (v := .int .i64 (i : Int)) rfl (by kernel_rfl) (by kernel_rfl) (fun _ _ _ h => h) (.inl ⟨by rfl, fun W hW => exec_move rfl rfl⟩) hS0 ?_
      simp only [Act.put, List.setIfInBounds_toArray, List.set_cons_zero, List.set_cons_succ]
      refine alw_take (i := 2) (v := .int .i64 1) rfl (by kernel_rfl) (by kernel_rfl) (fun _ _ _ h => h) (.inl ⟨by rfl, fun W hW => exec_move rfl rfl⟩) hS0 ?_
      simp only [Act.put, List.setIfInBounds_toArray, List.set_cons_zero, List.set_cons_succ]
      refine alw_take (i := 3) (v := .int .i64 ((i + 1 : Nat) : Int)) rfl (by kernel_rfl) (by kernel_rfl) (fun _ _ _ h => h) (.inl ⟨by rfl, fun W hW => ix_add rfl rfl rfl (by omega) (by omega)⟩) hS0 ?_
      simp only [Act.put, List.setIfInBounds_toArray, List.set_cons_zero, List.set_cons_succ]
      refine alw_take (i := 4) (v := .slice (some ⟨g2, (i + 1) * 1, none⟩) (n + 1 - (i + 1)) (c2 - (i + 1))) rfl (by kernel_rfl) (by kernel_rfl) (fun _ _ _ h => h) (.inl ⟨by rfl, fun W hW => exec_slice rfl rfl rfl rfl rfl ((sl_from elmK _ (n + 1) c2 (i + 1) (by omega) HG2.out _).trans (by by_cases hq : c2 = i + 1; exact absurd hq (by omega); rw [fromK_at (by omega), Nat.zero_add]))⟩) hS0 ?_
      simp only [Act.put, List.setIfInBounds_toArray, List.set_cons_zero, List.set_cons_succ]
      refine alw_take (i := 5) (v := .slice (some ⟨b, 0, none⟩) n c) rfl (by kernel_rfl) (by kernel_rfl) (fun _ _ _ h => h) (.inl ⟨by rfl, fun W hW => exec_move rfl rfl⟩) hS0 ?_
      simp only [Act.put, List.setIfInBounds_toArray, List.set_cons_zero, List.set_cons_succ]
      refine alw_take (i := 6) (v := .int .i64 (i : Int)) rfl (by kernel_rfl) (by kernel_rfl) (fun _ _ _ h => h) (.inl ⟨by rfl, fun W hW => exec_move rfl rfl⟩) hS0 ?_
      simp only [Act.put, List.setIfInBounds_toArray, List.set_cons_zero, List.set_cons_succ]
      refine alw_take (i := 7) (v := .slice (some ⟨b, i * 1, none⟩) (n - i) (c - i)) rfl (by kernel_rfl) (by kernel_rfl) (fun _ _ _ h => h) (.inl ⟨by rfl, fun W hW => exec_slice rfl rfl rfl rfl rfl ((sl_from elmK _ n c i (by omega) HNC.out _).trans (by rw [fromK_at (by have := HNC.out; omega), Nat.zero_add]))⟩) hS0 ?_
      simp only [Act.put, List.setIfInBounds_toArray, List.set_cons_zero, List.set_cons_succ]
      refine alw_step (i := 8) (by kernel_rfl) rfl rfl ?_
      intro K1 HK1
      refine wp_run (exec_copy rfl rfl rfl HC4.out) ?_
      refine HK1.out _ _ ⟨trivial, ?_⟩
      clear HK1
      simp only [Act.put, List.setIfInBounds_toArray, List.set_cons_zero, List.set_cons_succ]
      refine alw_done rfl ?_
      clear hS0
      refine NoPanic.normal ?_
      go_upto_region 12 with fail
      refine wp_region_lit ?_
      refine wpList_run (v := .slice (some ⟨g2, 0, none⟩) (n + 1) c2) rfl (exec_move rfl rfl) ?_
      simp only [Act.put, List.setIfInBounds_toArray, List.set_cons_zero, List.set_cons_succ]
      refine wpList_run (v := .slice (some ⟨g2, 0, none⟩) (n + 1) c2) rfl (gx_assign rfl rfl) ?_
      simp only [Act.put, List.setIfInBounds_toArray, List.set_cons_zero, List.set_cons_succ]
      go_wp2_with fail
      go_ret
      exact ⟨_, rfl, HR4.out, HT4.out⟩
    · refine wpList_run (v := .bool false) rfl (ix_gtr rfl rfl rfl (decide_eq_false (by omega))) ?_
      simp only [Act.put, List.setIfInBounds_toArray, List.set_cons_zero, List.set_cons_succ]
      have hr2 : n + 1 ≤ c := by omega
      obtain ⟨hov, w3, hc3, w4, hc4, hrow, ht4⟩ := insK_room elmK (ty := 3) HO.out HLT.out HX.out HXK.out HX1.out HBG.out hr2 4
      have HOV := Lib.hid hov
      have HC3 := Lib.hid hc3
      have HC4 := Lib.hid hc4
      have HR4 := Lib.hid hrow
      have HT4 := Lib.hid (show RowTo w (.slice (some ⟨b, 0, none⟩) n c) w4 (.slice (some ⟨b, 0, none⟩) (n + 1) c) from ⟨ht4.mono fun j _ e => by
        have e : j = b := e
        rw [e]; rfl, fun b' hb => .inl hb⟩)
      have HR2 := Lib.hid hr2
      clear hov hc3 hc4 hrow ht4 hr hr2
      go_upto_region 13 with fail
      refine wp_region_lit ?_
      refine wpList_run (v := .slice (some ⟨b, 0, none⟩) n c) rfl (exec_move rfl rfl) ?_
      simp only [Act.put, List.setIfInBounds_toArray, List.set_cons_zero, List.set_cons_succ]
      refine wpList_run (v := .int .i64 (n : Int)) rfl (exec_move rfl rfl) ?_
      simp only [Act.put, List.setIfInBounds_toArray, List.set_cons_zero, List.set_cons_succ]
      refine wpList_run (v := .int .i64 1) rfl (exec_move rfl rfl) ?_
      simp only [Act.put, List.setIfInBounds_toArray, List.set_cons_zero, List.set_cons_succ]
      refine wpList_run (v := .int .i64 ((n + 1 : Nat) : Int)) rfl (ix_add rfl rfl rfl (by omega) (by omega)) ?_
      simp only [Act.put, List.setIfInBounds_toArray, List.set_cons_zero, List.set_cons_succ]
      refine wpList_run (v := .slice (some ⟨b, 0, none⟩) (n + 1) c) rfl (exec_slice rfl rfl rfl rfl rfl (sl_to elmK _ n c (n + 1) HR2.out _)) ?_
      simp only [Act.put, List.setIfInBounds_toArray, List.set_cons_zero, List.set_cons_succ]
      refine wpList_run (v := .slice (some ⟨b, 0, none⟩) (n + 1) c) rfl (gx_assign rfl rfl) ?_
      simp only [Act.put, List.setIfInBounds_toArray, List.set_cons_zero, List.set_cons_succ]
      go_upto_region 14 with fail
      refine wp_region_lit ?_
      refine wpList_run (v := .slice (some ⟨g, 0, none⟩) 1 1) rfl (exec_move rfl rfl) ?_
      simp only [Act.put, List.setIfInBounds_toArray, List.set_cons_zero, List.set_cons_succ]
      refine wpList_run (v := .slice (some ⟨b, 0, none⟩) (n + 1) c) rfl (exec_move rfl rfl) ?_
      simp only [Act.put, List.setIfInBounds_toArray, List.set_cons_zero, List.set_cons_succ]
      refine wpList_run (v := .int .i64 (i : Int)) rfl (exec_move rfl rfl) ?_
      simp only [Act.put, List.setIfInBounds_toArray, List.set_cons_zero, List.set_cons_succ]
      refine wpList_run (v := .int .i64 1) rfl (exec_move rfl rfl) ?_
      simp only [Act.put, List.setIfInBounds_toArray, List.set_cons_zero, List.set_cons_succ]
      refine wpList_run (v := .int .i64 ((i + 1 : Nat) : Int)) rfl (ix_add rfl rfl rfl (by omega) (by omega)) ?_
      simp only [Act.put, List.setIfInBounds_toArray, List.set_cons_zero, List.set_cons_succ]
      refine wpList_run (v := .slice (some ⟨b, (i + 1) * 1, none⟩) (n + 1 - (i + 1)) (c - (i + 1))) rfl (exec_slice rfl rfl rfl rfl rfl ((sl_from elmK _ (n + 1) c (i + 1) (by omega) HR2.out _).trans (by have := HR2.out; rw [fromK_at (by omega), Nat.zero_add]))) ?_
      simp only [Act.put, List.setIfInBounds_toArray, List.set_cons_zero, List.set_cons_succ]
      refine wpList_run (v := .bool false) rfl (exec_overK rfl rfl rfl (HOV.out _ _)) ?_
      simp only [Act.put, List.setIfInBounds_toArray, List.set_cons_zero, List.set_cons_succ]
      refine wpList_run (v := .bool true) rfl (ix_not (b := false) rfl rfl) ?_
      simp only [Act.put, List.setIfInBounds_toArray, List.set_cons_zero, List.set_cons_succ]
      go_upto_region 15 with fail
      refine wp_region_alw (fun _ => True) (by kernel_rfl) ?_
      have hS0 : True := trivial
      refine alw_take (i := 0) (v := .slice (some ⟨b, 0, none⟩) (n + 1) c) rfl (by kernel_rfl) (by kernel_rfl) (fun _ _ _ h => h) (.inl ⟨by rfl, fun W hW => exec_move rfl rfl⟩) hS0 ?_
      simp only [Act.put, List.setIfInBounds_toArray, List.set_cons_zero, List.set_cons_succ]
      refine alw_take (i := 1) (v := .int .i64 (i : Int)) rfl (by kernel_rfl) (by kernel_rfl) (fun _ _ _ h => h) (.inl ⟨by rfl, fun W hW => exec_move rfl rfl⟩) hS0 ?_
      simp only [Act.put, List.setIfInBounds_toArray, List.set_cons_zero, List.set_cons_succ]
      refine alw_take (i := 2) (v := .int .i64 1) rfl (by kernel_rfl) (by kernel_rfl) (fun _ _ _ h => h) (.inl ⟨by rfl, fun W hW => exec_move rfl rfl⟩) hS0 ?_
      simp only [Act.put, List.setIfInBounds_toArray, List.set_cons_zero, List.set_cons_succ]
      refine alw_take (i := 3) (v := .int .i64 ((i + 1 : Nat) : Int)) rfl (by kernel_rfl) (by kernel_rfl) (fun _ _ _ h => h) (.inl ⟨by rfl, fun W hW => ix_add rfl rfl rfl (by omega) (by omega)⟩) hS0 ?_
      simp only [Act.put, List.setIfInBounds_toArray, List.set_cons_zero, List.set_cons_succ]
      refine alw_take (i := 4) (v := .slice (some ⟨b, (i + 1) * 1, none⟩) (n + 1 - (i + 1)) (c - (i + 1))) rfl (by kernel_rfl) (by kernel_rfl) (fun _ _ _ h => h) (.inl ⟨by rfl, fun W hW => exec_slice rfl rfl rfl rfl rfl ((sl_from elmK _ (n + 1) c (i + 1) (by omega) HR2.out _).trans (by have := HR2.out; rw [fromK_at (by omega), Nat.zero_add]))⟩) hS0 ?_
      simp only [Act.put, List.setIfInBounds_toArray, List.set_cons_zero, List.set_cons_succ]
      refine alw_take (i := 5) (v := .slice (some ⟨b, 0, none⟩) (n + 1) c) rfl (by kernel_rfl) (by kernel_rfl) (fun _ _ _ h => h) (.inl ⟨by rfl, fun W hW => exec_move rfl rfl⟩) hS0 ?_
      simp only [Act.put, List.setIfInBounds_toArray, List.set_cons_zero, List.set_cons_succ]
      refine alw_take (i := 6) (v := .int .i64 (i : Int)) rfl (by kernel_rfl) (by kernel_rfl) (fun _ _ _ h => h) (.inl ⟨by rfl, fun W hW => exec_move rfl rfl⟩) hS0 ?_
      simp only [Act.put, List.setIfInBounds_toArray, List.set_cons_zero, List.set_cons_succ]
      refine alw_take (i := 7) (v := .slice (some ⟨b, i * 1, none⟩) (n + 1 - i) (c - i)) rfl (by kernel_rfl) (by kernel_rfl) (fun _ _ _ h => h) (.inl ⟨by rfl, fun W hW => exec_slice rfl rfl rfl rfl rfl ((sl_from elmK _ (n + 1) c i (by omega) HR2.out _).trans (by have := HR2.out; rw [fromK_at (by omega), Nat.zero_add]))⟩) hS0 ?_
      simp only [Act.put, List.setIfInBounds_toArray, List.set_cons_zero, List.set_cons_succ]
      refine alw_step (i := 8) (by kernel_rfl) rfl rfl ?_
      intro K1 HK1
      refine wp_run (exec_copy rfl rfl rfl HC3.out) ?_
      refine HK1.out _ _ ⟨trivial, ?_⟩
      clear HK1
      simp only [Act.put, List.setIfInBounds_toArray, List.set_cons_zero, List.set_cons_succ]
      refine alw_done rfl ?_
      clear hS0
      refine NoPanic.normal ?_
      go_upto_region 16 with fail
      refine wp_region_lit ?_
      refine wpList_run (v := .slice (some ⟨b, 0, none⟩) (n + 1) c) rfl (exec_move rfl rfl) ?_
      simp only [Act.put, List.setIfInBounds_toArray, List.set_cons_zero, List.set_cons_succ]
      refine wpList_run (v := .int .i64 (i : Int)) rfl (exec_move rfl rfl) ?_
      simp only [Act.put, List.setIfInBounds_toArray, List.set_cons_zero, List.set_cons_succ]
      refine wpList_run (v := .slice (some ⟨b, i * 1, none⟩) (n + 1 - i) (c - i)) rfl (exec_slice rfl rfl rfl rfl rfl ((sl_from elmK _ (n + 1) c i (by omega) HR2.out _).trans (by have := HR2.out; rw [fromK_at (by omega), Nat.zero_add]))) ?_
      simp only [Act.put, List.setIfInBounds_toArray, List.set_cons_zero, List.set_cons_succ]
      refine wpList_run (v := .slice (some ⟨g, 0, none⟩) 1 1) rfl (exec_move rfl rfl) ?_
      simp only [Act.put, List.setIfInBounds_toArray, List.set_cons_zero, List.set_cons_succ]
      refine wpList_run (v := goInt (Nat.min 1 (n + 1 - i))) (w' := w4) rfl (exec_copy rfl rfl rfl HC4.out) ?_
      simp only [Act.put, List.setIfInBounds_toArray, List.set_cons_zero, List.set_cons_succ]
      go_upto_region 17 with fail
      refine wp_region_lit ?_
      refine wpList_run (v := .slice (some ⟨b, 0, none⟩) (n + 1) c) rfl (exec_move rfl rfl) ?_
      simp only [Act.put, List.setIfInBounds_toArray, List.set_cons_zero, List.set_cons_succ]
      refine wpList_run (v := .slice (some ⟨b, 0, none⟩) (n + 1) c) rfl (gx_assign rfl rfl) ?_
      simp only [Act.put, List.setIfInBounds_toArray, List.set_cons_zero, List.set_cons_succ]
      go_wp2_with fail
      go_ret
      exact ⟨_, rfl, HR4.out, HT4.out⟩
set_option maxRecDepth 20000 in
set_option maxHeartbeats 2000000 in
theorem DeleteK {w : World} {A : Option Addr} {n c i j : Nat} {rs : List (List Value)} (hown : Orw w 0 56 1 (.slice A n c) rs) (hn : rs.length = n) (hij : i ≤ j) (hj : j ≤ n) (hsz : n ≤ 100000) :
    Calls Try.prog 43 #[.slice A n c, .int .i64 (i : Int), .int .i64 (j : Int)] w fun e w' =>
      ∃ v', e = .returned v' ∧ Orw w' 0 56 1 v' (rs.take i ++ rs.drop j) ∧ RowTo w (.slice A n c) w' v' := by
  obtain ⟨A9, c9, e9, hnc, hcm, hz, _⟩ := hown.form
  injection e9 with e1 e2 e3
  subst e1 e3
  rw [hn] at hnc
  clear e2
  have HO := Lib.hid hown
  have HN := Lib.hid hn
  have HIJ := Lib.hid hij
  have HJ := Lib.hid hj
  have HS := Lib.hid hsz
  have HNC := Lib.hid hnc
  have HCM := Lib.hid hcm
  have y1 : (n : Int) ≤ 100000 := by omega
  have y2 : (j : Int) ≤ (n : Int) := by omega
  have y4 : (i : Int) ≤ (j : Int) := by omega
  have y3 : (c : Int) ≤ 9223372036854775807 := by unfold maxLen at hcm; omega
  obtain ⟨v3, h3⟩ := sl_three elmK A n c i j hij hj hnc w
  have H3 := Lib.hid h3
  clear hown hn hij hj hsz hnc hcm hz h3
  go_enter Try.func43, Try.ntmps43
  go_upto_region 1 with fail
  refine wp_region_lit ?_
  refine wpList_run (v := .slice A n c) rfl (exec_move rfl rfl) ?_
  simp only [Act.put, List.setIfInBounds_toArray, List.set_cons_zero, List.set_cons_succ]
  refine wpList_run (v := .int .i64 (i : Int)) rfl (exec_move rfl rfl) ?_
  simp only [Act.put, List.setIfInBounds_toArray, List.set_cons_zero, List.set_cons_succ]
  refine wpList_run (v := .int .i64 (j : Int)) rfl (exec_move rfl rfl) ?_
  simp only [Act.put, List.setIfInBounds_toArray, List.set_cons_zero, List.set_cons_succ]
  refine wpList_run (v := .slice A n c) rfl (exec_move rfl rfl) ?_
  simp only [Act.put, List.setIfInBounds_toArray, List.set_cons_zero, List.set_cons_succ]
  refine wpList_run (v := .int .i64 (n : Int)) rfl (gx_len rfl rfl Try.underlying60) ?_
  simp only [Act.put, List.setIfInBounds_toArray, List.set_cons_zero, List.set_cons_succ]
  refine wpList_run (v := v3) rfl (exec_slice rfl rfl rfl rfl rfl H3.out) ?_
  simp only [Act.put, List.setIfInBounds_toArray, List.set_cons_zero, List.set_cons_succ]
  go_upto_region 2 with fail
  refine wp_region_lit ?_
  refine wpList_run (v := .int .i64 (i : Int)) rfl (exec_move rfl rfl) ?_
  simp only [Act.put, List.setIfInBounds_toArray, List.set_cons_zero, List.set_cons_succ]
  refine wpList_run (v := .int .i64 (j : Int)) rfl (exec_move rfl rfl) ?_
  simp only [Act.put, List.setIfInBounds_toArray, List.set_cons_zero, List.set_cons_succ]
  by_cases hin : i = j
  · refine wpList_run (v := .bool true) rfl (ix_eql rfl rfl rfl (decide_eq_true (by omega))) ?_
    simp only [Act.put, List.setIfInBounds_toArray, List.set_cons_zero, List.set_cons_succ]
    subst hin
    have HE := Lib.hid (List.take_append_drop i rs)
    go_upto_region 3 with fail
    refine wp_region_lit ?_
    refine wpList_run (v := .slice A n c) rfl (exec_move rfl rfl) ?_
    simp only [Act.put, List.setIfInBounds_toArray, List.set_cons_zero, List.set_cons_succ]
    refine wpList_run (v := .slice A n c) rfl (gx_assign rfl rfl) ?_
    simp only [Act.put, List.setIfInBounds_toArray, List.set_cons_zero, List.set_cons_succ]
    go_wp2_with fail
    go_ret
    rw [HE.out]
    exact ⟨_, rfl, HO.out, Turn.refl _ _, fun b hb => .inl hb⟩
  · refine wpList_run (v := .bool false) rfl (ix_eql rfl rfl rfl (decide_eq_false (by omega))) ?_
    simp only [Act.put, List.setIfInBounds_toArray, List.set_cons_zero, List.set_cons_succ]
    have HLT := Lib.hid (show i < j from by omega)
    have y5 : (i : Int) < (j : Int) := by omega
    clear hin
    obtain ⟨b, rfl⟩ : ∃ b, A = some ⟨b, 0, none⟩ := by
      obtain ⟨b, c0, e, _⟩ := HO.out.some_ (by have := HLT.out; have := HJ.out; have := HN.out; omega)
      injection e with e _ _
      exact ⟨b, e⟩
    go_upto_region 4 with fail
    refine wp_region_lit ?_
    refine wpList_run (v := .slice (some ⟨b, 0, none⟩) n c) rfl (exec_move rfl rfl) ?_
    simp only [Act.put, List.setIfInBounds_toArray, List.set_cons_zero, List.set_cons_succ]
    refine wpList_run (v := .int .i64 (n : Int)) rfl (gx_len rfl rfl Try.underlying60) ?_
    simp only [Act.put, List.setIfInBounds_toArray, List.set_cons_zero, List.set_cons_succ]
    refine wpList_run (v := .int .i64 (n : Int)) rfl (gx_assign rfl rfl) ?_
    simp only [Act.put, List.setIfInBounds_toArray, List.set_cons_zero, List.set_cons_succ]
    go_upto_region 5 with fail
    obtain ⟨w5, hrun, hrow, ht5⟩ := delK_app elmK (ty := 60) (w := w.drew) (HO.out.still (Turn.refl nowhere w).drew) HIJ.out HJ.out
    have HRUN := Lib.hid hrun
    have HROW := Lib.hid hrow
    have HT5 := Lib.hid (show Turn (only b) w w5 from ((Turn.refl (only b) w).drew).trans ht5 fun _ _ e => e)
    clear hrun hrow ht5
    refine wp_region_alw (fun _ => True) (by kernel_rfl) ?_
    have hS0 : True := trivial
    refine alw_take (i := 0) (v := .slice (some ⟨b, 0, none⟩) n c) rfl (by kernel_rfl) (by kernel_rfl) (fun _ _ _ h => h) (.inl ⟨by rfl, fun W hW => exec_move rfl rfl⟩) hS0 ?_
    simp only [Act.put, List.setIfInBounds_toArray, List.set_cons_zero, List.set_cons_succ]
    refine alw_take (i := 1) (v := .int .i64 (i : Int)) rfl (by kernel_rfl) (by kernel_rfl) (fun _ _ _ h => h) (.inl ⟨by rfl, fun W hW => exec_move rfl rfl⟩) hS0 ?_
    simp only [Act.put, List.setIfInBounds_toArray, List.set_cons_zero, List.set_cons_succ]
    refine alw_take (i := 2) (v := .slice (some ⟨b, 0, none⟩) i c) rfl (by kernel_rfl) (by kernel_rfl) (fun _ _ _ h => h) (.inl ⟨by rfl, fun W hW => exec_slice rfl rfl rfl rfl rfl (sl_to elmK _ n c i (by have := HNC.out; omega) _)⟩) hS0 ?_
    simp only [Act.put, List.setIfInBounds_toArray, List.set_cons_zero, List.set_cons_succ]
    refine alw_take (i := 3) (v := .slice (some ⟨b, 0, none⟩) n c) rfl (by kernel_rfl) (by kernel_rfl) (fun _ _ _ h => h) (.inl ⟨by rfl, fun W hW => exec_move rfl rfl⟩) hS0 ?_
    simp only [Act.put, List.setIfInBounds_toArray, List.set_cons_zero, List.set_cons_succ]
    refine alw_take (i := 4) (v := .int .i64 (j : Int)) rfl (by kernel_rfl) (by kernel_rfl) (fun _ _ _ h => h) (.inl ⟨by rfl, fun W hW => exec_move rfl rfl⟩) hS0 ?_
    simp only [Act.put, List.setIfInBounds_toArray, List.set_cons_zero, List.set_cons_succ]
    refine alw_take (i := 5) (v := .slice (fromK 1 (some ⟨b, 0, none⟩) c j) (n - j) (c - j)) rfl (by kernel_rfl) (by kernel_rfl) (fun _ _ _ h => h) (.inl ⟨by rfl, fun W hW => exec_slice rfl rfl rfl rfl rfl (sl_from elmK _ n c j HJ.out HNC.out _)⟩) hS0 ?_
    simp only [Act.put, List.setIfInBounds_toArray, List.set_cons_zero, List.set_cons_succ]
    refine alw_step (i := 6) (by kernel_rfl) rfl rfl ?_
    intro K1 HK1
    refine wp_run (exec_append rfl rfl rfl HRUN.out) ?_
    refine HK1.out _ _ ⟨trivial, ?_⟩
    clear HK1
    simp only [Act.put, List.setIfInBounds_toArray, List.set_cons_zero, List.set_cons_succ]
    refine alw_take (i := 7) (v := .slice (some ⟨b, 0, none⟩) (i + (n - j)) c) rfl (by kernel_rfl) (by kernel_rfl) (fun _ _ _ h => h) (.inl ⟨by rfl, fun W hW => gx_assign rfl rfl⟩) hS0 ?_
    simp only [Act.put, List.setIfInBounds_toArray, List.set_cons_zero, List.set_cons_succ]
    refine alw_done rfl ?_
    clear hS0
    refine NoPanic.normal ?_
    have HM := Lib.hid (show i + (n - j) ≤ n from by have := HIJ.out; have := HJ.out; omega)
    obtain ⟨m, hm⟩ : ∃ m, m = i + (n - j) := ⟨_, rfl⟩
    rw [← hm] at HM HROW ⊢
    clear hm
    obtain ⟨cur, hcur, hcs, htk, hrl, hmc, _, _⟩ := orw_block HROW.out
    have hfx : fromK 1 (some ⟨b, 0, none⟩) c m = some ⟨b, m * 1, none⟩ ∨ c = m := by
      by_cases h : c = m
      · exact .inr h
      · exact .inl ((fromK_at (by omega)).trans (by rw [Nat.zero_add]))
    have hcl : ∃ w6 v6, (Builtin.clear_ #[60] 0 #[.slice (fromK 1 (some ⟨b, 0, none⟩) c m) (n - m) (c - m)]).run Try.prog w5 = .ok v6 w6 ∧ Orw w6 0 56 1 (.slice (some ⟨b, 0, none⟩) m c) (rs.take i ++ rs.drop j) ∧ Turn (only b) w5 w6 := by
      rcases hfx with h | h
      · rw [h]
        obtain ⟨w6, h1, h2, cur', h3, h4, h5⟩ := run_clearK elmK (fun w => zvK w) zvK_one (ty := 0) (o := m * 1) (n := n - m) (c := c - m) hcur (by
          rw [hcs, ← Nat.add_mul]
          exact Nat.mul_le_mul_right _ (by have := HM.out; have := HNC.out; omega))
        exact ⟨w6, _, h1, HROW.out.cleared hcur h3 h4 (Nat.le_refl _) h5, h2⟩
      · have hnm : n - m = 0 := by have := HNC.out; omega
        rw [hnm, show fromK 1 (some ⟨b, 0, none⟩) c m = some ⟨b, 0, none⟩ from by unfold fromK; rw [if_pos h]]
        refine ⟨w5, .tuple #[], ?_, HROW.out, Turn.refl _ _⟩
        simp [Builtin.clear_, run_underlying (elmK).und]
    obtain ⟨w6, v6, hcl1, hcl2, hcl3⟩ := hcl
    have HC := Lib.hid hcl1
    have HR6 := Lib.hid hcl2
    have HT6 := Lib.hid (show RowTo w (.slice (some ⟨b, 0, none⟩) n c) w6 (.slice (some ⟨b, 0, none⟩) m c) from ⟨(HT5.out.trans hcl3 fun _ _ e => e).mono fun j _ e => by
      have e : j = b := e
      rw [e]; rfl, fun b' hb => .inl hb⟩)
    have y6 : (m : Int) ≤ (n : Int) := by have := HM.out; omega
    clear hcur hcs htk hrl hmc hfx hcl1 hcl2 hcl3
    go_upto_region 6 with fail
    refine wp_region_lit ?_
    refine wpList_run (v := .slice (some ⟨b, 0, none⟩) m c) rfl (exec_move rfl rfl) ?_
    simp only [Act.put, List.setIfInBounds_toArray, List.set_cons_zero, List.set_cons_succ]
    refine wpList_run (v := .slice (some ⟨b, 0, none⟩) m c) rfl (exec_move rfl rfl) ?_
    simp only [Act.put, List.setIfInBounds_toArray, List.set_cons_zero, List.set_cons_succ]
    refine wpList_run (v := .int .i64 (m : Int)) rfl (gx_len rfl rfl Try.underlying60) ?_
    simp only [Act.put, List.setIfInBounds_toArray, List.set_cons_zero, List.set_cons_succ]
    refine wpList_run (v := .int .i64 (n : Int)) rfl (exec_move rfl rfl) ?_
    simp only [Act.put, List.setIfInBounds_toArray, List.set_cons_zero, List.set_cons_succ]
    refine wpList_run (v := .slice (fromK 1 (some ⟨b, 0, none⟩) c m) (n - m) (c - m)) rfl (exec_slice rfl rfl rfl rfl rfl (sl_mid elmK _ m n c HM.out HNC.out _)) ?_
    simp only [Act.put, List.setIfInBounds_toArray, List.set_cons_zero, List.set_cons_succ]
    refine wpList_run (v := v6) (w' := w6) rfl (exec_clear rfl rfl HC.out) ?_
    simp only [Act.put, List.setIfInBounds_toArray, List.set_cons_zero, List.set_cons_succ]
    go_upto_region 7 with fail
    refine wp_region_lit ?_
    refine wpList_run (v := .slice (some ⟨b, 0, none⟩) m c) rfl (exec_move rfl rfl) ?_
    simp only [Act.put, List.setIfInBounds_toArray, List.set_cons_zero, List.set_cons_succ]
    refine wpList_run (v := .slice (some ⟨b, 0, none⟩) m c) rfl (gx_assign rfl rfl) ?_
    simp only [Act.put, List.setIfInBounds_toArray, List.set_cons_zero, List.set_cons_succ]
    go_wp2_with fail
    go_ret
    exact ⟨_, rfl, HR6.out, HT6.out⟩
set_option maxRecDepth 20000 in
set_option maxHeartbeats 2000000 in
theorem CloneK {w : World} {A : Option Addr} {n c : Nat} {rs : List (List Value)} (hb : Rws w 1 A n rs) (hf : Fit 1 rs) (hc : A = none → c = 0) (hsz : n ≤ 100000) :
    Calls Try.prog 42 #[.slice A n c] w fun e w' =>
      ∃ v', e = .returned v' ∧ Orw w' w.heap.size 56 1 v' rs ∧ Turn nowhere w w' := by
  have HB := Lib.hid hb
  have HF := Lib.hid hf
  have HC := Lib.hid hc
  have HS := Lib.hid hsz
  clear hb hf hc hsz
  go_enter Try.func42, Try.ntmps42
  go_upto_region 1 with fail
  refine wp_region_lit ?_
  refine wpList_run (v := .slice A n c) rfl (exec_move rfl rfl) ?_
  simp only [Act.put, List.setIfInBounds_toArray, List.set_cons_zero, List.set_cons_succ]
  rcases hA : A with _ | a
  · subst hA
    have h0 : n = 0 := by
      rcases Nat.eq_zero_or_pos n with h | h
      · exact h
      · obtain ⟨_, _, _, h4⟩ := HB.out
        obtain ⟨_, _, e, _⟩ := h4 h
        cases e
    subst h0
    have h1 : rs = [] := List.eq_nil_of_length_eq_zero HB.out.1
    subst h1
    obtain rfl := HC.out rfl
    refine wpList_run (v := .bool true) rfl (exec_eqnil rfl rfl rfl Try.underlying60 rfl) ?_
    simp only [Act.put, List.setIfInBounds_toArray, List.set_cons_zero, List.set_cons_succ]
    go_wp2_with fail
    go_ret
    exact ⟨_, rfl, Orw.nil _ _ _ _, Turn.refl _ _⟩
  · subst hA
    obtain ⟨A7, c7, w7, hrun, hrow, ht7⟩ := copy_rws elmK (ty := 60) (c := c) HB.out HF.out (fun h => by cases h) (by have := HS.out; omega)
    have HRUN := Lib.hid hrun
    have HR7 := Lib.hid hrow
    have HT7 := Lib.hid ht7
    clear hrun hrow ht7
    refine wpList_run (v := .bool false) rfl (exec_eqnil rfl rfl rfl Try.underlying60 rfl) ?_
    simp only [Act.put, List.setIfInBounds_toArray, List.set_cons_zero, List.set_cons_succ]
    go_upto_region 3 with fail
    refine wp_region_lit ?_
    refine wpList_run (v := .slice (some ⟨w.heap.size, 0, none⟩) 0 0) (w' := w.alloc (.cells #[] 56)) rfl (bx_slice0 rfl (build0K _)) ?_
    simp only [Act.put, List.setIfInBounds_toArray, List.set_cons_zero, List.set_cons_succ]
    refine wpList_run (v := .slice (some a) n c) rfl (exec_move rfl rfl) ?_
    simp only [Act.put, List.setIfInBounds_toArray, List.set_cons_zero, List.set_cons_succ]
    refine wpList_run (v := .slice A7 n c7) (w' := w7) rfl (exec_append rfl rfl rfl HRUN.out) ?_
    simp only [Act.put, List.setIfInBounds_toArray, List.set_cons_zero, List.set_cons_succ]
    refine wpList_run (v := .slice A7 n c7) rfl (gx_assign rfl rfl) ?_
    simp only [Act.put, List.setIfInBounds_toArray, List.set_cons_zero, List.set_cons_succ]
    go_wp2_with fail
    go_ret
    exact ⟨_, rfl, HR7.out, HT7.out⟩
end Go.Proofs.Ytmlkdkbpbleilaa
