/-
  Texts in one file: MsIp MsGd MsGe MsGf MsGg MsHa MsHb FdRa FdRb MsHc FdRk FdPb FdTb FdPa MsSh MsLw MsMe MsOt MsIa MsIb MsIf. Conditions: the tables and the errors read as the program's text lays them.
-/
import Derived.Test.YtfnillibngijaaaGreatDoorJB23
import Derived.Test.YtfnillibngijaaaGreatDoorJB22
import Derived.Test.YtfnillibngijaaaGreatDoorJB17
import Derived.Test.YtfnillibngijaaaGreatDoorJB10
import Derived.Test.YtfnillibngijaaaGreatDoorJB0
import Derived.IntWalk
import Derived.Test.YtfnillibngijaaaGreatDoorJB21
import Derived.Test.YtfnillibngijaaaGreatDoorJB1
namespace Go.Proofs.YtfnillibngijaaaGreatDoor
open Go.RowKit
open Fdd
set_option linter.unusedVariables false
set_option linter.unusedSimpArgs false
theorem exec_over {a : Act} {o : Oper} {W : World} {x y : Operand} {u v : Value} {ts : Array TypeId} (ho : o.op = .call { callee := .value (.func 41), args := #[x, y], argTypes := ts }) (hx : a.eval x = u) (hy : a.eval y = v)
    (hr : (Extern.SlicesOverlaps.overlaps #[47, 47] #[4] #[u, v]).run Tryz.prog W = .ok (.bool false) W) : (execOp a.eval o).run Tryz.prog W = .ok (.value (.bool false)) W := by
  have h : (callFunc 41 #[u, v]).run Tryz.prog W = .ok (.value (.bool false)) W := by
    rw [run_callFunc_extern Tryz.func41 (by kernel_rfl) (by kernel_rfl) (by kernel_rfl) (e := Extern.SlicesOverlaps.overlaps #[47, 47] #[4]) (by kernel_rfl), hr]
    rfl
  unfold execOp
  simp only [ho, resolve, invoke, Sem.run_bind, Sem.run_pure, Result.andThen_ok, List.map_toArray, List.map_cons, List.map_nil, hx, hy]
  rw [show a.eval (Operand.func 41) = .func (.func 41) #[] #[] from rfl]
  simp [Deferred.ofValue, h]
set_option maxRecDepth 20000 in
set_option maxHeartbeats 2000000 in
theorem Insert_walk {W1 w : World} {A : Option Addr} {n c i g : Nat} {l : List Fld} {x : Fld} (hown : FRow w W1.heap.size (.slice A n c) l) (hT : Turn nowhere W1 w) (hn : l.length = n) (hi : i ≤ n) (hx : Blk w g 53 (fldA x))
    (hg : ∀ b o t, A = some ⟨b, o, t⟩ → b ≠ g) (hsz : (n + 1) * 24 ≤ 140737488355328) :
    Calls Tryz.prog 30 #[.slice A n c, .int .i64 (i : Int), .slice (some ⟨g, 0, none⟩) 1 1] w fun e w' =>
      ∃ A' c', e = .returned (.slice A' (n + 1) c') ∧ FRow w' W1.heap.size (.slice A' (n + 1) c') (l.take i ++ x :: l.drop i) ∧ Turn nowhere W1 w' := by
  obtain ⟨hfl, _, hnc, hcm, hz⟩ := hown.fl (by rw [hn]; omega)
  have HO := Lib.hid hown
  have HT := Lib.hid hT
  have HN := Lib.hid hn
  have HI := Lib.hid hi
  have HX := Lib.hid hx
  have HG := Lib.hid hg
  have HS := Lib.hid hsz
  have HNC := Lib.hid hnc
  have HCM := Lib.hid hcm
  have y1 : (n : Int) ≤ 5864062014807 := by omega
  have y2 : (i : Int) ≤ (n : Int) := by omega
  have y3 : (c : Int) ≤ 9223372036854775807 := by unfold maxLen at hcm; omega
  clear hown hT hn hi hx hg hsz hnc hcm hz hfl
  go_enter Tryz.func30, Tryz.ntmps30
  go_upto_region 1 with fail
  refine wp_region_lit ?_
  refine wpList_run (v := .slice A n c) rfl (exec_move rfl rfl) ?_
  simp only [Act.put, List.setIfInBounds_toArray, List.set_cons_zero, List.set_cons_succ]
  refine wpList_run (v := .int .i64 (i : Int)) rfl (exec_move rfl rfl) ?_
  simp only [Act.put, List.setIfInBounds_toArray, List.set_cons_zero, List.set_cons_succ]
  refine wpList_run (v := .slice (fromF A c i) (n - i) (c - i)) rfl (exec_slice rfl rfl rfl rfl rfl (sf_from A n c i HI.out HNC.out _)) ?_
  simp only [Act.put, List.setIfInBounds_toArray, List.set_cons_zero, List.set_cons_succ]
  go_upto_region 2 with fail
  refine wp_region_lit ?_
  refine wpList_run (v := .slice (some ⟨g, 0, none⟩) 1 1) rfl (exec_move rfl rfl) ?_
  simp only [Act.put, List.setIfInBounds_toArray, List.set_cons_zero, List.set_cons_succ]
  refine wpList_run (v := .int .i64 1) rfl (gx_len rfl rfl Tryz.underlying47) ?_
  simp only [Act.put, List.setIfInBounds_toArray, List.set_cons_zero, List.set_cons_succ]
  refine wpList_run (v := .int .i64 1) rfl (gx_assign rfl rfl) ?_
  simp only [Act.put, List.setIfInBounds_toArray, List.set_cons_zero, List.set_cons_succ]
  go_upto_region 3 with fail
  refine wp_region_lit ?_
  refine wpList_run (v := .int .i64 1) rfl (exec_move rfl rfl) ?_
  simp only [Act.put, List.setIfInBounds_toArray, List.set_cons_zero, List.set_cons_succ]
  refine wpList_run (v := .bool false) rfl (ix_eql rfl rfl rfl (by decide)) ?_
  simp only [Act.put, List.setIfInBounds_toArray, List.set_cons_zero, List.set_cons_succ]
  go_upto_region 5 with fail
  refine wp_region_lit ?_
  refine wpList_run (v := .slice A n c) rfl (exec_move rfl rfl) ?_
  simp only [Act.put, List.setIfInBounds_toArray, List.set_cons_zero, List.set_cons_succ]
  refine wpList_run (v := .int .i64 (n : Int)) rfl (gx_len rfl rfl Tryz.underlying47) ?_
  simp only [Act.put, List.setIfInBounds_toArray, List.set_cons_zero, List.set_cons_succ]
  refine wpList_run (v := .int .i64 (n : Int)) rfl (gx_assign rfl rfl) ?_
  simp only [Act.put, List.setIfInBounds_toArray, List.set_cons_zero, List.set_cons_succ]
  go_upto_region 6 with fail
  refine wp_region_lit ?_
  refine wpList_run (v := .int .i64 (i : Int)) rfl (exec_move rfl rfl) ?_
  simp only [Act.put, List.setIfInBounds_toArray, List.set_cons_zero, List.set_cons_succ]
  refine wpList_run (v := .int .i64 (n : Int)) rfl (exec_move rfl rfl) ?_
  simp only [Act.put, List.setIfInBounds_toArray, List.set_cons_zero, List.set_cons_succ]
  by_cases hin : i = n
  · refine wpList_run (v := .bool true) rfl (ix_eql rfl rfl rfl (decide_eq_true (by omega))) ?_
    simp only [Act.put, List.setIfInBounds_toArray, List.set_cons_zero, List.set_cons_succ]
    subst hin
    obtain ⟨A7, c7, w7, hrun, hrow, ht7⟩ := frow_more (ty := 47) (c := 1) HO.out HT.out (fl_blk HX.out) (fun h => by cases h) (by rw [HN.out]; exact HS.out)
    rw [HN.out] at hrun hrow
    have HR7 := Lib.hid hrow
    have HT7 := Lib.hid ht7
    have HE := Lib.hid (show l.take i ++ x :: l.drop i = l ++ [x] from by rw [List.take_of_length_le (by rw [HN.out]; exact Nat.le_refl _), List.drop_of_length_le (by rw [HN.out]; exact Nat.le_refl _)])
    clear hrow ht7
    go_upto_region 7 with fail
    refine wp_region_lit ?_
    refine wpList_run (v := .slice A i c) rfl (exec_move rfl rfl) ?_
    simp only [Act.put, List.setIfInBounds_toArray, List.set_cons_zero, List.set_cons_succ]
    refine wpList_run (v := .slice (some ⟨g, 0, none⟩) 1 1) rfl (exec_move rfl rfl) ?_
    simp only [Act.put, List.setIfInBounds_toArray, List.set_cons_zero, List.set_cons_succ]
    refine wpList_run (v := .slice A7 (i + 1) c7) (w' := w7) rfl (exec_append rfl rfl rfl hrun) ?_
    simp only [Act.put, List.setIfInBounds_toArray, List.set_cons_zero, List.set_cons_succ]
    refine wpList_run (v := .slice A7 (i + 1) c7) rfl (gx_assign rfl rfl) ?_
    simp only [Act.put, List.setIfInBounds_toArray, List.set_cons_zero, List.set_cons_succ]
    clear hrun
    go_wp2_with fail
    go_ret
    rw [HE.out]
    exact ⟨_, _, rfl, HR7.out, HT7.out⟩
  · refine wpList_run (v := .bool false) rfl (ix_eql rfl rfl rfl (decide_eq_false (by omega))) ?_
    simp only [Act.put, List.setIfInBounds_toArray, List.set_cons_zero, List.set_cons_succ]
    have hlt : i < n := by omega
    have y4 : (i : Int) < (n : Int) := by omega
    have HLT := Lib.hid hlt
    clear hin hlt
    obtain ⟨b, rfl⟩ : ∃ b, A = some ⟨b, 0, none⟩ := by
      rcases id HO.out.2 with ⟨e, h0⟩ | ⟨g', cap, cur, e, _⟩
      · have := HLT.out
        have := HN.out
        omega
      · injection e with e _ _
        exact ⟨g', e⟩
    go_upto_region 8 with fail
    refine wp_region_lit ?_
    refine wpList_run (v := .int .i64 (n : Int)) rfl (exec_move rfl rfl) ?_
    simp only [Act.put, List.setIfInBounds_toArray, List.set_cons_zero, List.set_cons_succ]
    refine wpList_run (v := .int .i64 1) rfl (exec_move rfl rfl) ?_
    simp only [Act.put, List.setIfInBounds_toArray, List.set_cons_zero, List.set_cons_succ]
    refine wpList_run (v := .int .i64 ((n + 1 : Nat) : Int)) rfl (ix_add rfl rfl rfl (by omega) (by omega)) ?_
    simp only [Act.put, List.setIfInBounds_toArray, List.set_cons_zero, List.set_cons_succ]
    refine wpList_run (v := .slice (some ⟨b, 0, none⟩) n c) rfl (exec_move rfl rfl) ?_
    simp only [Act.put, List.setIfInBounds_toArray, List.set_cons_zero, List.set_cons_succ]
    refine wpList_run (v := .int .i64 (c : Int)) rfl (gx_cap rfl rfl Tryz.underlying47) ?_
    simp only [Act.put, List.setIfInBounds_toArray, List.set_cons_zero, List.set_cons_succ]
    by_cases hr : c < n + 1
    · refine wpList_run (v := .bool true) rfl (ix_gtr rfl rfl rfl (decide_eq_true (by omega))) ?_
      simp only [Act.put, List.setIfInBounds_toArray, List.set_cons_zero, List.set_cons_succ]
      obtain ⟨g2, c2, w2, hap, hg2, hm2, w3, hc3, w4, hc4, hrow, ht4⟩ := ins_grow HO.out HT.out HN.out HLT.out HX.out HNC.out hr HS.out
      have HAP := Lib.hid hap
      have HC3 := Lib.hid hc3
      have HC4 := Lib.hid hc4
      have HR4 := Lib.hid hrow
      have HT4 := Lib.hid ht4
      have HG2 := Lib.hid hg2
      have y5 : (n : Int) + 1 ≤ (c2 : Int) := by omega
      have y6 : (c2 : Int) ≤ 9223372036854775807 := by unfold maxLen at hm2; omega
      clear hap hc3 hc4 hrow ht4 hg2 hm2 hr
      go_upto_region 9 with fail
      refine wp_region_lit ?_
      refine wpList_run (v := .slice (some ⟨b, 0, none⟩) n c) rfl (exec_move rfl rfl) ?_
      simp only [Act.put, List.setIfInBounds_toArray, List.set_cons_zero, List.set_cons_succ]
      refine wpList_run (v := .int .i64 (i : Int)) rfl (exec_move rfl rfl) ?_
      simp only [Act.put, List.setIfInBounds_toArray, List.set_cons_zero, List.set_cons_succ]
      refine wpList_run (v := .slice (some ⟨b, 0, none⟩) i c) rfl (exec_slice rfl rfl rfl rfl rfl (sf_to _ n c i (by have := HNC.out; omega) _)) ?_
      simp only [Act.put, List.setIfInBounds_toArray, List.set_cons_zero, List.set_cons_succ]
      refine wpList_run (v := .int .i64 (n : Int)) rfl (exec_move rfl rfl) ?_
      simp only [Act.put, List.setIfInBounds_toArray, List.set_cons_zero, List.set_cons_succ]
      refine wpList_run (v := .int .i64 1) rfl (exec_move rfl rfl) ?_
      simp only [Act.put, List.setIfInBounds_toArray, List.set_cons_zero, List.set_cons_succ]
      refine wpList_run (v := .int .i64 ((n + 1 : Nat) : Int)) rfl (ix_add rfl rfl rfl (by omega) (by omega)) ?_
      simp only [Act.put, List.setIfInBounds_toArray, List.set_cons_zero, List.set_cons_succ]
      refine wpList_run (v := .int .i64 (i : Int)) rfl (exec_move rfl rfl) ?_
      simp only [Act.put, List.setIfInBounds_toArray, List.set_cons_zero, List.set_cons_succ]
      refine wpList_run (v := .int .i64 ((n + 1 - i : Nat) : Int)) rfl (ix_sub rfl rfl rfl (by omega) (by omega)) ?_
      simp only [Act.put, List.setIfInBounds_toArray, List.set_cons_zero, List.set_cons_succ]
      refine wpList_run (v := .slice (some ⟨g2, 0, none⟩) (n + 1) c2) (w' := w2) rfl (exec_appz rfl rfl rfl HAP.out) ?_
      simp only [Act.put, List.setIfInBounds_toArray, List.set_cons_zero, List.set_cons_succ]
      refine wpList_run (v := .slice (some ⟨g2, 0, none⟩) (n + 1) c2) rfl (gx_assign rfl rfl) ?_
      simp only [Act.put, List.setIfInBounds_toArray, List.set_cons_zero, List.set_cons_succ]
      go_upto_region 10 with fail
      refine wp_region_lit ?_
      refine wpList_run (v := .slice (some ⟨g2, 0, none⟩) (n + 1) c2) rfl (exec_move rfl rfl) ?_
      simp only [Act.put, List.setIfInBounds_toArray, List.set_cons_zero, List.set_cons_succ]
      refine wpList_run (v := .int .i64 (i : Int)) rfl (exec_move rfl rfl) ?_
      simp only [Act.put, List.setIfInBounds_toArray, List.set_cons_zero, List.set_cons_succ]
      refine wpList_run (v := .slice (some ⟨g2, i * 2, none⟩) (n + 1 - i) (c2 - i)) rfl (exec_slice rfl rfl rfl rfl rfl ((sf_from _ (n + 1) c2 i (by omega) HG2.out _).trans (by rw [fromF_at (by omega), Nat.zero_add]))) ?_
      simp only [Act.put, List.setIfInBounds_toArray, List.set_cons_zero, List.set_cons_succ]
      refine wpList_run (v := .slice (some ⟨g, 0, none⟩) 1 1) rfl (exec_move rfl rfl) ?_
      simp only [Act.put, List.setIfInBounds_toArray, List.set_cons_zero, List.set_cons_succ]
      refine wpList_run (v := goInt (Nat.min 1 (n + 1 - i))) (w' := w3) rfl (exec_copy rfl rfl rfl HC3.out) ?_
      simp only [Act.put, List.setIfInBounds_toArray, List.set_cons_zero, List.set_cons_succ]
      go_upto_region 11 with fail
      refine wp_region_alw (fun _ => True) (by kernel_rfl) ?_
      have hS0 : True := trivial
      refine alw_take (i := 0) (v := .slice (some ⟨g2, 0, none⟩) (n + 1) c2) rfl (by kernel_rfl) (by kernel_rfl) (fun _ _ _ h => h) (.inl ⟨by rfl, fun W hW => exec_move rfl rfl⟩) hS0 ?_
      simp only [Act.put, List.setIfInBounds_toArray, List.set_cons_zero, List.set_cons_succ]
      refine alw_take (i := 1) (v := .int .i64 (i : Int)) rfl (by kernel_rfl) (by kernel_rfl) (fun _ _ _ h => h) (.inl ⟨by rfl, fun W hW => exec_move rfl rfl⟩) hS0 ?_
      simp only [Act.put, List.setIfInBounds_toArray, List.set_cons_zero, List.set_cons_succ]
      refine alw_take (i := 2) (v := .int .i64 1) rfl (by kernel_rfl) (by kernel_rfl) (fun _ _ _ h => h) (.inl ⟨by rfl, fun W hW => exec_move rfl rfl⟩) hS0 ?_
      simp only [Act.put, List.setIfInBounds_toArray, List.set_cons_zero, List.set_cons_succ]
      refine alw_take (i := 3) (v := .int .i64 ((i + 1 : Nat) : Int)) rfl (by kernel_rfl) (by kernel_rfl) (fun _ _ _ h => h) (.inl ⟨by rfl, fun W hW => ix_add rfl rfl rfl (by omega) (by omega)⟩) hS0 ?_
      simp only [Act.put, List.setIfInBounds_toArray, List.set_cons_zero, List.set_cons_succ]
      refine alw_take (i := 4) (v := .slice (some ⟨g2, (i + 1) * 2, none⟩) (n + 1 - (i + 1)) (c2 - (i + 1))) rfl (by kernel_rfl) (by kernel_rfl) (fun _ _ _ h => h) (.inl ⟨by rfl, fun W hW => exec_slice rfl rfl rfl rfl rfl ((sf_from _ (n + 1) c2 (i + 1) (by omega) HG2.out _).trans (by by_cases hq : c2 = i + 1; exact absurd hq (by omega); rw [fromF_at (by omega), Nat.zero_add]))⟩) hS0 ?_
      simp only [Act.put, List.setIfInBounds_toArray, List.set_cons_zero, List.set_cons_succ]
      refine alw_take (i := 5) (v := .slice (some ⟨b, 0, none⟩) n c) rfl (by kernel_rfl) (by kernel_rfl) (fun _ _ _ h => h) (.inl ⟨by rfl, fun W hW => exec_move rfl rfl⟩) hS0 ?_
      simp only [Act.put, List.setIfInBounds_toArray, List.set_cons_zero, List.set_cons_succ]
      refine alw_take (i := 6) (v := .int .i64 (i : Int)) rfl (by kernel_rfl) (by kernel_rfl) (fun _ _ _ h => h) (.inl ⟨by rfl, fun W hW => exec_move rfl rfl⟩) hS0 ?_
      simp only [Act.put, List.setIfInBounds_toArray, List.set_cons_zero, List.set_cons_succ]
      refine alw_take (i := 7) (v := .slice (some ⟨b, i * 2, none⟩) (n - i) (c - i)) rfl (by kernel_rfl) (by kernel_rfl) (fun _ _ _ h => h) (.inl ⟨by rfl, fun W hW => exec_slice rfl rfl rfl rfl rfl ((sf_from _ n c i (by omega) HNC.out _).trans (by rw [fromF_at (by have := HNC.out; omega), Nat.zero_add]))⟩) hS0 ?_
      simp only [Act.put, List.setIfInBounds_toArray, List.set_cons_zero, List.set_cons_succ]
      refine alw_step (i := 8) (by kernel_rfl) rfl rfl ?_
      intro K1 HK1
      refine wp_run (exec_copy rfl rfl rfl HC4.out) ?_
      refine HK1.out _ _ ⟨trivial, ?_⟩
      clear HK1
      simp only [Act.put, List.setIfInBounds_toArray, List.set_cons_zero, List.set_cons_succ]
      refine alw_done rfl ?_
      clear hS0
      refine NoPanic.normal ?_
      go_upto_region 12 with fail
      refine wp_region_lit ?_
      refine wpList_run (v := .slice (some ⟨g2, 0, none⟩) (n + 1) c2) rfl (exec_move rfl rfl) ?_
      simp only [Act.put, List.setIfInBounds_toArray, List.set_cons_zero, List.set_cons_succ]
      refine wpList_run (v := .slice (some ⟨g2, 0, none⟩) (n + 1) c2) rfl (gx_assign rfl rfl) ?_
      simp only [Act.put, List.setIfInBounds_toArray, List.set_cons_zero, List.set_cons_succ]
      go_wp2_with fail
      go_ret
      exact ⟨_, _, rfl, HR4.out, HT4.out⟩
    · refine wpList_run (v := .bool false) rfl (ix_gtr rfl rfl rfl (decide_eq_false (by omega))) ?_
      simp only [Act.put, List.setIfInBounds_toArray, List.set_cons_zero, List.set_cons_succ]
      have hr2 : n + 1 ≤ c := by omega
      obtain ⟨hov, w3, hc3, w4, hc4, hrow, ht4⟩ := ins_room HO.out HT.out HN.out HLT.out HX.out (HG.out b 0 none rfl) hr2 HCM.out
      have HOV := Lib.hid hov
      have HC3 := Lib.hid hc3
      have HC4 := Lib.hid hc4
      have HR4 := Lib.hid hrow
      have HT4 := Lib.hid ht4
      have HR2 := Lib.hid hr2
      clear hov hc3 hc4 hrow ht4 hr hr2
      go_upto_region 13 with fail
      refine wp_region_lit ?_
      refine wpList_run (v := .slice (some ⟨b, 0, none⟩) n c) rfl (exec_move rfl rfl) ?_
      simp only [Act.put, List.setIfInBounds_toArray, List.set_cons_zero, List.set_cons_succ]
      refine wpList_run (v := .int .i64 (n : Int)) rfl (exec_move rfl rfl) ?_
      simp only [Act.put, List.setIfInBounds_toArray, List.set_cons_zero, List.set_cons_succ]
      refine wpList_run (v := .int .i64 1) rfl (exec_move rfl rfl) ?_
      simp only [Act.put, List.setIfInBounds_toArray, List.set_cons_zero, List.set_cons_succ]
      refine wpList_run (v := .int .i64 ((n + 1 : Nat) : Int)) rfl (ix_add rfl rfl rfl (by omega) (by omega)) ?_
      simp only [Act.put, List.setIfInBounds_toArray, List.set_cons_zero, List.set_cons_succ]
      refine wpList_run (v := .slice (some ⟨b, 0, none⟩) (n + 1) c) rfl (exec_slice rfl rfl rfl rfl rfl (sf_to _ n c (n + 1) HR2.out _)) ?_
      simp only [Act.put, List.setIfInBounds_toArray, List.set_cons_zero, List.set_cons_succ]
      refine wpList_run (v := .slice (some ⟨b, 0, none⟩) (n + 1) c) rfl (gx_assign rfl rfl) ?_
      simp only [Act.put, List.setIfInBounds_toArray, List.set_cons_zero, List.set_cons_succ]
      go_upto_region 14 with fail
      refine wp_region_lit ?_
      refine wpList_run (v := .slice (some ⟨g, 0, none⟩) 1 1) rfl (exec_move rfl rfl) ?_
      simp only [Act.put, List.setIfInBounds_toArray, List.set_cons_zero, List.set_cons_succ]
      refine wpList_run (v := .slice (some ⟨b, 0, none⟩) (n + 1) c) rfl (exec_move rfl rfl) ?_
      simp only [Act.put, List.setIfInBounds_toArray, List.set_cons_zero, List.set_cons_succ]
      refine wpList_run (v := .int .i64 (i : Int)) rfl (exec_move rfl rfl) ?_
      simp only [Act.put, List.setIfInBounds_toArray, List.set_cons_zero, List.set_cons_succ]
      refine wpList_run (v := .int .i64 1) rfl (exec_move rfl rfl) ?_
      simp only [Act.put, List.setIfInBounds_toArray, List.set_cons_zero, List.set_cons_succ]
      refine wpList_run (v := .int .i64 ((i + 1 : Nat) : Int)) rfl (ix_add rfl rfl rfl (by omega) (by omega)) ?_
      simp only [Act.put, List.setIfInBounds_toArray, List.set_cons_zero, List.set_cons_succ]
      refine wpList_run (v := .slice (some ⟨b, (i + 1) * 2, none⟩) (n + 1 - (i + 1)) (c - (i + 1))) rfl (exec_slice rfl rfl rfl rfl rfl ((sf_from _ (n + 1) c (i + 1) (by omega) HR2.out _).trans (by have := HR2.out; rw [fromF_at (by omega), Nat.zero_add]))) ?_
      simp only [Act.put, List.setIfInBounds_toArray, List.set_cons_zero, List.set_cons_succ]
      refine wpList_run (v := .bool false) rfl (exec_over rfl rfl rfl (HOV.out _ _)) ?_
      simp only [Act.put, List.setIfInBounds_toArray, List.set_cons_zero, List.set_cons_succ]
      refine wpList_run (v := .bool true) rfl (ix_not (b := false) rfl rfl) ?_
      simp only [Act.put, List.setIfInBounds_toArray, List.set_cons_zero, List.set_cons_succ]
      go_upto_region 15 with fail
      refine wp_region_alw (fun _ => True) (by kernel_rfl) ?_
      have hS0 : True := trivial
      refine alw_take (i := 0) (v := .slice (some ⟨b, 0, none⟩) (n + 1) c) rfl (by kernel_rfl) (by kernel_rfl) (fun _ _ _ h => h) (.inl ⟨by rfl, fun W hW => exec_move rfl rfl⟩) hS0 ?_
      simp only [Act.put, List.setIfInBounds_toArray, List.set_cons_zero, List.set_cons_succ]
      refine alw_take (i := 1) (v := .int .i64 (i : Int)) rfl (by kernel_rfl) (by kernel_rfl) (fun _ _ _ h => h) (.inl ⟨by rfl, fun W hW => exec_move rfl rfl⟩) hS0 ?_
      simp only [Act.put, List.setIfInBounds_toArray, List.set_cons_zero, List.set_cons_succ]
      refine alw_take (i := 2) (v := .int .i64 1) rfl (by kernel_rfl) (by kernel_rfl) (fun _ _ _ h => h) (.inl ⟨by rfl, fun W hW => exec_move rfl rfl⟩) hS0 ?_
      simp only [Act.put, List.setIfInBounds_toArray, List.set_cons_zero, List.set_cons_succ]
      refine alw_take (i := 3) (v := .int .i64 ((i + 1 : Nat) : Int)) rfl (by kernel_rfl) (by kernel_rfl) (fun _ _ _ h => h) (.inl ⟨by rfl, fun W hW => ix_add rfl rfl rfl (by omega) (by omega)⟩) hS0 ?_
      simp only [Act.put, List.setIfInBounds_toArray, List.set_cons_zero, List.set_cons_succ]
      refine alw_take (i := 4) (v := .slice (some ⟨b, (i + 1) * 2, none⟩) (n + 1 - (i + 1)) (c - (i + 1))) rfl (by kernel_rfl) (by kernel_rfl) (fun _ _ _ h => h) (.inl ⟨by rfl, fun W hW => exec_slice rfl rfl rfl rfl rfl ((sf_from _ (n + 1) c (i + 1) (by omega) HR2.out _).trans (by have := HR2.out; rw [fromF_at (by omega), Nat.zero_add]))⟩) hS0 ?_
      simp only [Act.put, List.setIfInBounds_toArray, List.set_cons_zero, List.set_cons_succ]
      refine alw_take (i := 5) (v := .slice (some ⟨b, 0, none⟩) (n + 1) c) rfl (by kernel_rfl) (by kernel_rfl) (fun _ _ _ h => h) (.inl ⟨by rfl, fun W hW => exec_move rfl rfl⟩) hS0 ?_
      simp only [Act.put, List.setIfInBounds_toArray, List.set_cons_zero, List.set_cons_succ]
      refine alw_take (i := 6) (v := .int .i64 (i : Int)) rfl (by kernel_rfl) (by kernel_rfl) (fun _ _ _ h => h) (.inl ⟨by rfl, fun W hW => exec_move rfl rfl⟩) hS0 ?_
      simp only [Act.put, List.setIfInBounds_toArray, List.set_cons_zero, List.set_cons_succ]
      refine alw_take (i := 7) (v := .slice (some ⟨b, i * 2, none⟩) (n + 1 - i) (c - i)) rfl (by kernel_rfl) (by kernel_rfl) (fun _ _ _ h => h) (.inl ⟨by rfl, fun W hW => exec_slice rfl rfl rfl rfl rfl ((sf_from _ (n + 1) c i (by omega) HR2.out _).trans (by have := HR2.out; rw [fromF_at (by omega), Nat.zero_add]))⟩) hS0 ?_
      simp only [Act.put, List.setIfInBounds_toArray, List.set_cons_zero, List.set_cons_succ]
      refine alw_step (i := 8) (by kernel_rfl) rfl rfl ?_
      intro K1 HK1
      refine wp_run (exec_copy rfl rfl rfl HC3.out) ?_
      refine HK1.out _ _ ⟨trivial, ?_⟩
      clear HK1
      simp only [Act.put, List.setIfInBounds_toArray, List.set_cons_zero, List.set_cons_succ]
      refine alw_done rfl ?_
      clear hS0
      refine NoPanic.normal ?_
      go_upto_region 16 with fail
      refine wp_region_lit ?_
      refine wpList_run (v := .slice (some ⟨b, 0, none⟩) (n + 1) c) rfl (exec_move rfl rfl) ?_
      simp only [Act.put, List.setIfInBounds_toArray, List.set_cons_zero, List.set_cons_succ]
      refine wpList_run (v := .int .i64 (i : Int)) rfl (exec_move rfl rfl) ?_
      simp only [Act.put, List.setIfInBounds_toArray, List.set_cons_zero, List.set_cons_succ]
      refine wpList_run (v := .slice (some ⟨b, i * 2, none⟩) (n + 1 - i) (c - i)) rfl (exec_slice rfl rfl rfl rfl rfl ((sf_from _ (n + 1) c i (by omega) HR2.out _).trans (by have := HR2.out; rw [fromF_at (by omega), Nat.zero_add]))) ?_
      simp only [Act.put, List.setIfInBounds_toArray, List.set_cons_zero, List.set_cons_succ]
      refine wpList_run (v := .slice (some ⟨g, 0, none⟩) 1 1) rfl (exec_move rfl rfl) ?_
      simp only [Act.put, List.setIfInBounds_toArray, List.set_cons_zero, List.set_cons_succ]
      refine wpList_run (v := goInt (Nat.min 1 (n + 1 - i))) (w' := w4) rfl (exec_copy rfl rfl rfl HC4.out) ?_
      simp only [Act.put, List.setIfInBounds_toArray, List.set_cons_zero, List.set_cons_succ]
      go_upto_region 17 with fail
      refine wp_region_lit ?_
      refine wpList_run (v := .slice (some ⟨b, 0, none⟩) (n + 1) c) rfl (exec_move rfl rfl) ?_
      simp only [Act.put, List.setIfInBounds_toArray, List.set_cons_zero, List.set_cons_succ]
      refine wpList_run (v := .slice (some ⟨b, 0, none⟩) (n + 1) c) rfl (gx_assign rfl rfl) ?_
      simp only [Act.put, List.setIfInBounds_toArray, List.set_cons_zero, List.set_cons_succ]
      go_wp2_with fail
      go_ret
      exact ⟨_, _, rfl, HR4.out, HT4.out⟩
end Go.Proofs.YtfnillibngijaaaGreatDoor
namespace Go.Proofs.YtfnillibngijaaaGreatDoor
open Go.RowKit
open Fdd
set_option linter.unusedVariables false
set_option linter.unusedSimpArgs false
end Go.Proofs.YtfnillibngijaaaGreatDoor
namespace Go.Proofs.YtfnillibngijaaaGreatDoor
open Go.RowKit
open Fdd
set_option linter.unusedVariables false
set_option linter.unusedSimpArgs false
end Go.Proofs.YtfnillibngijaaaGreatDoor
namespace Go.Proofs.YtfnillibngijaaaGreatDoor
open Go.RowKit
open Fdd
set_option linter.unusedVariables false
set_option linter.unusedSimpArgs false
end Go.Proofs.YtfnillibngijaaaGreatDoor
namespace Go.Proofs.YtfnillibngijaaaGreatDoor
open Go.RowKit
open Fdd
set_option linter.unusedVariables false
set_option linter.unusedSimpArgs false
end Go.Proofs.YtfnillibngijaaaGreatDoor
namespace Go.Proofs.YtfnillibngijaaaGreatDoor
open Go.RowKit
open Fdd
set_option linter.unusedVariables false
set_option linter.unusedSimpArgs false
theorem msg0_one : ∀ v ∈ (#[.int .i64 0, .slice none 0 0] : Array Value).toList, v.oneCell' = true := fun v hv => by
  simp only [List.mem_cons, List.not_mem_nil, or_false] at hv
  rcases hv with rfl | rfl <;> rfl
theorem msgA_one (ty : Int) (A : Option Addr) (n c : Nat) : ∀ v ∈ (#[.int .i64 ty, .slice A n c] : Array Value).toList, v.oneCell' = true := fun v hv => by
  simp only [List.mem_cons, List.not_mem_nil, or_false] at hv
  rcases hv with rfl | rfl <;> rfl
end Go.Proofs.YtfnillibngijaaaGreatDoor
namespace Go.Proofs.YtfnillibngijaaaGreatDoor
open Go.RowKit
open Fdd
set_option linter.unusedVariables false
set_option linter.unusedSimpArgs false
/-- a block that is none of a row of fields turns -/
theorem fl_turn {w w' : World} {A : Option Addr} {n g : Nat} {fs : List Fld} (h : Fl w A n fs) (ht : Turn (only g) w w') (hA : ∀ b o t, A = some ⟨b, o, t⟩ → b ≠ g) : Fl w' A n fs := by
  obtain ⟨q1, q2, q3⟩ := h
  refine ⟨q1, q2, fun hp => ?_⟩
  obtain ⟨b9, o9, e9, h9⟩ := q3 hp
  refine ⟨b9, o9, e9, fun i f hf j v hv => ?_⟩
  have hc := h9 i f hf j v hv
  exact (ht.cell (World.block_lt_of_cell? _ _ hc) (fun e => hA b9 o9 none e9 e)).trans hc
end Go.Proofs.YtfnillibngijaaaGreatDoor
namespace Go.Proofs.YtfnillibngijaaaGreatDoor
open Go.RowKit
open Fdd
set_option linter.unusedVariables false
set_option linter.unusedSimpArgs false
theorem byte_of {P : UInt8 → Prop} (h : ∀ n : Nat, n < 256 → P (UInt8.ofNat n)) (b : UInt8) : P b := by
  have h2 := h b.toNat b.toNat_lt
  rwa [show UInt8.ofNat b.toNat = b by simp] at h2
end Go.Proofs.YtfnillibngijaaaGreatDoor
namespace Go.Proofs.YtfnillibngijaaaGreatDoor
open Go.RowKit
open Fdd
set_option linter.unusedVariables false
set_option linter.unusedSimpArgs false
theorem wpList_skip {P : Program} {ops : Array Oper} {rest : List Oper} {o : Oper} {a : Act} {w : World} {Q : Exit → Act → World → Prop} (hgd : Region.wanted o (yielded ops a.tmps) = false) (h : wpList P ops Q rest (a.put o.dst undef) w) : wpList P ops Q (o :: rest) a w :=
  wpList_step fun K hK => by
    rw [if_neg (by rw [hgd]; decide)]
    exact hK _ _ h
theorem only_take_len {l cs : List UInt8} {n : Nat} {st : List UInt8} : rightAll [⟨n, cs, st⟩] l = (decide (l.length = n) && onlyOf l cs) := by
  show (decide (n ≤ l.length) && (onlyOf (l.take n) cs && (l.drop n == []))) = _
  by_cases h : l.length = n
  · rw [List.take_of_length_le (by omega), List.drop_of_length_le (by omega), decide_eq_true h, decide_eq_true (by omega)]
    simp
  · rw [decide_eq_false h]
    by_cases h2 : n ≤ l.length
    · have h3 : (l.drop n == []) = false := by
        cases hd : l.drop n with
        | nil =>
          have := congrArg List.length hd
          simp at this
          omega
        | cons a r => rfl
      rw [h3]
      simp
    · rw [decide_eq_false h2]
      simp
theorem right_n {s : Nat} {c : Int} {t : List UInt8} : Fm.right ⟨1, (s : Int), c⟩ t = (decide (t.length = s) && onlyOf t dec) := only_take_len
theorem right_b {s : Nat} {c : Int} {t : List UInt8} : Fm.right ⟨4, (s : Int), c⟩ t = (decide (t.length = 2 * s) && onlyOf t hexs) := only_take_len
end Go.Proofs.YtfnillibngijaaaGreatDoor
namespace Go.Proofs.YtfnillibngijaaaGreatDoor
open Go.RowKit
open Fdd
set_option linter.unusedVariables false
set_option linter.unusedSimpArgs false
end Go.Proofs.YtfnillibngijaaaGreatDoor
namespace Go.Proofs.YtfnillibngijaaaGreatDoor
open Go.RowKit
open Fdd
set_option linter.unusedVariables false
end Go.Proofs.YtfnillibngijaaaGreatDoor
namespace Go.Proofs.YtfnillibngijaaaGreatDoor.Fdd
set_option linter.unusedVariables false
end Go.Proofs.YtfnillibngijaaaGreatDoor.Fdd
namespace Go.Proofs.YtfnillibngijaaaGreatDoor.Fdd
set_option linter.unusedVariables false
end Go.Proofs.YtfnillibngijaaaGreatDoor.Fdd
namespace Go.Proofs.YtfnillibngijaaaGreatDoor
open Go.RowKit
open Fdd
set_option linter.unusedVariables false
set_option linter.unusedSimpArgs false
end Go.Proofs.YtfnillibngijaaaGreatDoor
namespace Go.Proofs.YtfnillibngijaaaGreatDoor
open Go.RowKit
open Fdd
set_option linter.unusedVariables false
set_option linter.unusedSimpArgs false
end Go.Proofs.YtfnillibngijaaaGreatDoor
namespace Go.Proofs.YtfnillibngijaaaGreatDoor
open Go.RowKit
open Fdd
set_option linter.unusedVariables false
set_option linter.unusedSimpArgs false
theorem mencode_err {d ty : Int} {fs : List Fld} {k : Int} (h : mencode d ty fs = .error k) : k ≠ 0 := by
  unfold mencode at h
  split at h
  · split at h
    · split at h
      · injection h with h; omega
      · cases h
    · rename_i hn
      injection h with h
      rw [← h]
      exact hn
  · injection h with h; omega
theorem ix_rem {a : Act} {o : Oper} {W : World} {x y : Operand} {n m : Nat} (ho : o.op = .binOp .rem 3 x y 3) (hx : a.eval x = .int .i64 (n : Int)) (hy : a.eval y = .int .i64 (m : Int)) (hm : 0 < m) (hn : n ≤ 9223372036854775807) : (execOp a.eval o).run Tryz.prog W = .ok (.value (.int .i64 ((n % m : Nat) : Int))) W := by
  have hm1 : (m : Int) ≠ 0 := by omega
  obtain ⟨q, hq⟩ : ∃ q : Nat, q = n % m := ⟨_, rfl⟩
  have hlt : q ≤ n := by rw [hq]; exact Nat.mod_le _ _
  have e : (n : Int).tmod (m : Int) = (q : Int) := by rw [hq]; rfl
  rw [← hq]
  have hw : IntKind.i64.wrap (q : Int) = (q : Int) := by rw [IntKind.wrap_i64]; omega
  unfold execOp
  simp only [ho, hx, hy]
  go_simp
  omega
theorem bx_neb {a : Act} {o : Oper} {W : World} {x y : Operand} {p q : Bool} (ho : o.op = .binOp .neq 4 x y 4) (hx : a.eval x = .bool p) (hy : a.eval y = .bool q) : (execOp a.eval o).run Tryz.prog W = .ok (.value (.bool (!(p == q)))) W := by
  unfold execOp
  simp only [ho, hx, hy]
  cases p <;> cases q <;> go_simp
theorem menc_len {d ty : Int} {fs : List Fld} {b : List UInt8} (h : mencode d ty fs = .ok b) : b.length ≤ 500 := by
  obtain ⟨hd, hw, e⟩ := mencode_ok.1 h
  rw [e]
  exact wire_len (toNat_in hd) hw
theorem bs_cut {w : World} {A : Option Addr} {n k : Nat} {b : List UInt8} (h : Bs w A n b) (hk : k ≤ n) : Bs w A k (b.take k) := by
  obtain ⟨h1, h2, h3⟩ := h
  refine ⟨by rw [List.length_take]; omega, by omega, fun hp => ?_⟩
  obtain ⟨g, off, e, hc⟩ := h3 (by omega)
  refine ⟨g, off, e, fun i hi => ?_⟩
  rw [hc i (by omega)]
  have : (b.take k).getD i 0 = b.getD i 0 := by simp [List.getD, List.getElem?_take, hi]
  rw [this]
end Go.Proofs.YtfnillibngijaaaGreatDoor
namespace Go.Proofs.YtfnillibngijaaaGreatDoor.Fdd
set_option linter.unusedVariables false
def getM (no : Int) : List Fld → Option (List UInt8)
  | [] => none
  | f :: r => if f.1 = no then some f.2 else getM no r
def others (no : Int) (fs : List Fld) : List Fld := fs.filter fun f => f.1 != no
def insM (x : Fld) : List Fld → List Fld
  | [] => [x]
  | f :: r => if x.1 < f.1 then x :: f :: r else f :: insM x r
def setM (no : Int) (t : List UInt8) (fs : List Fld) : List Fld := insM (no, t) (others no fs)
def rsetM (no : Int) (t : List UInt8) : Bool → List Fld → List Fld
  | done, [] => if done = true then [] else [(no, t)]
  | done, f :: r => if f.1 = no then rsetM no t done r else if no < f.1 ∧ done = false then (no, t) :: f :: rsetM no t true r else f :: rsetM no t done r
theorem rset_done (no : Int) (t : List UInt8) : ∀ fs, rsetM no t true fs = others no fs
  | [] => rfl
  | f :: r => by
    unfold rsetM others
    by_cases h : f.1 = no
    · rw [if_pos h, List.filter_cons_of_neg (by simp [h]), rset_done no t r]
      rfl
    · rw [if_neg h, if_neg (by simp), List.filter_cons_of_pos (by simp [h]), rset_done no t r]
      rfl
/-- where a field goes: ahead of the first one with a greater number -/
def atM (no : Int) : List Fld → Nat
  | [] => 0
  | f :: r => if no < f.1 then 0 else atM no r + 1
theorem ins_at (no : Int) (t : List UInt8) : ∀ l : List Fld, insM (no, t) l = l.take (atM no l) ++ (no, t) :: l.drop (atM no l)
  | [] => rfl
  | f :: r => by
    unfold insM atM
    split
    · rfl
    · rw [ins_at no t r]
      rfl
theorem at_le (no : Int) : ∀ l : List Fld, atM no l ≤ l.length
  | [] => Nat.le_refl _
  | f :: r => by
    unfold atM
    have := at_le no r
    split
    · exact Nat.zero_le _
    · rw [List.length_cons]
      omega
end Go.Proofs.YtfnillibngijaaaGreatDoor.Fdd
namespace Go.Proofs.YtfnillibngijaaaGreatDoor.Fdd
set_option linter.unusedVariables false
theorem oth_cons (no : Int) (f : Fld) (r : List Fld) : others no (f :: r) = if f.1 = no then others no r else f :: others no r := by
  unfold others
  by_cases h : f.1 = no
  · rw [if_pos h, List.filter_cons_of_neg (by simp [h])]
  · rw [if_neg h, List.filter_cons_of_pos (by simp [h])]
theorem oth_ins (no : Int) (t : List UInt8) : ∀ l : List Fld, others no (insM (no, t) l) = others no l
  | [] => by
    unfold insM
    rw [oth_cons, if_pos rfl]
  | f :: r => by
    unfold insM
    split
    · rw [oth_cons, if_pos rfl]
    · rw [oth_cons, oth_cons, oth_ins no t r]
theorem oth_take {no : Int} {l : List Fld} {i : Nat} {f : Fld} (hf : l[i]? = some f) : others no (l.take (i + 1)) = if f.1 = no then others no (l.take i) else others no (l.take i) ++ [f] := by
  rw [List.take_add_one, hf]
  unfold others
  rw [List.filter_append]
  by_cases h : f.1 = no
  · rw [if_pos h, show List.filter (fun f => f.1 != no) (some f).toList = [] from by simp [h], List.append_nil]
  · rw [if_neg h, show List.filter (fun f => f.1 != no) (some f).toList = [f] from by simp [h]]
theorem ins_len (x : Fld) : ∀ l : List Fld, (insM x l).length = l.length + 1
  | [] => rfl
  | f :: r => by
    unfold insM
    split
    · rfl
    · rw [List.length_cons, ins_len x r, List.length_cons]
theorem set_len (no : Int) (t : List UInt8) (fs : List Fld) : (setM no t fs).length = (others no fs).length + 1 := ins_len _ _
/-- no field up to here has a greater number -/
theorem at_step {no : Int} {l : List Fld} {i : Nat} {f : Fld} (hf : l[i]? = some f) : atM no (l.drop i) = if no < f.1 then 0 else atM no (l.drop (i + 1)) + 1 := by
  obtain ⟨hj, e⟩ := List.getElem?_eq_some_iff.1 hf
  rw [List.drop_eq_getElem_cons hj, e]
  rfl
theorem at_end {no : Int} {l : List Fld} {i : Nat} (h : l.length ≤ i) : atM no (l.drop i) = 0 := by
  rw [List.drop_eq_nil_of_le h]
  rfl
end Go.Proofs.YtfnillibngijaaaGreatDoor.Fdd
namespace Go.Proofs.YtfnillibngijaaaGreatDoor
open Go.RowKit
open Fdd
set_option linter.unusedVariables false
set_option linter.unusedSimpArgs false
end Go.Proofs.YtfnillibngijaaaGreatDoor
namespace Go.Proofs.YtfnillibngijaaaGreatDoor
open Go.RowKit
open Fdd
set_option linter.unusedVariables false
set_option linter.unusedSimpArgs false
end Go.Proofs.YtfnillibngijaaaGreatDoor
namespace Go.Proofs.YtfnillibngijaaaGreatDoor
open Go.RowKit
open Fdd
set_option linter.unusedVariables false
set_option linter.unusedSimpArgs false
theorem ret_cell1 {P : Program} {fn : Func} {p : Tmp} {ty : TypeId} (h : fn.results = #[.cell p ty]) (tmps : Array Value) (w : World) (g : Nat) (t : TypeId) (cs : Array Value) (d : TypeDesc)
    (hp : tmps.getD p undef = .pointer (some ⟨g, 0, none⟩)) (hg : Blk w g t cs) (hu : P.underlying ty = some d) (hd : (match d with | .struct _ | .array _ _ => true | _ => false) = true) (hi : (P.info? ty).map (·.size) = some cs.size) :
    (results fn tmps).run P w = .ok (.agg cs) w := by
  have hp' : tmps[p]?.getD undef = .pointer (some ⟨g, 0, none⟩) := by simpa using hp
  simp only [results, h]
  simp [Sem.run_bind, Result.andThen, hp', asAddr, run_loadVar_row w g t ty cs (0, 0) d hg hu hd hi]
def Txts (fs : List Fld) : Prop := ∀ f ∈ fs, f.2.length ≤ 9223372036854775807
end Go.Proofs.YtfnillibngijaaaGreatDoor
