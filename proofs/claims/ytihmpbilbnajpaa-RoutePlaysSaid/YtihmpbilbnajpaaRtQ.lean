/-
  Routes: the table's small calls (slices.Clone, strings.Clone, maps.Clone, slices.Contains, the sorted keys of a map; isPrefix, has, mayIssue). No conditions.
-/
import Derived.Test.YtihmpbilbnajpaaRtD
import Derived.Test.YtihmpbilbnajpaaScl
import Derived.Test.YtihmpbilbnajpaaMpg
import Derived.Test.YtihmpbilbnajpaaLaysR
import Derived.Shelf.SlMaps.Clone
import Derived.WalkSpells
import Derived.Lib.SliceRun
namespace Go.Proofs.Ytihmpbilbnajpaa
open Go.RowKit Go.Maps Go.Sort Go.Shelf
open Ix
open Rt (R)
set_option linter.unusedVariables false
set_option linter.unusedSimpArgs false
theorem exec_eqnilI {a : Act} {o : Oper} {W : World} {x : Operand} {A : Option Addr} {n c : Nat} (ho : o.op = .binOp .eql 36 x (.const (.slice none 0 0)) 36) (hx : a.eval x = .slice A n c) {r : Bool} (hr : A.isNone = r) : (execOp a.eval o).run Try.prog W = .ok (.value (.bool r)) W := by
  subst hr
  have h := Lib.run_eql_slice_nil (P := Try.prog) W 36 _ A n c 0 0 Try.underlying36
  have hy : a.eval (.const (.slice none 0 0)) = .slice none 0 0 := rfl
  unfold execOp
  simp [ho, hx, hy, eqGuard, h]
/-- the members of a route, its own -/
def ICl (w : World) (r : RtV) (e : Ending) (w' : World) : Prop := ∃ A c, e = .returned (.slice A r.n c) ∧ Orw w' w.heap.size 3 1 (.slice A r.n c) (r.to_.map one1) ∧ Turn nowhere w w' ∧ (RtV.mk r.pre A r.n c r.to_).ok w'
set_option maxRecDepth 20000 in
set_option maxHeartbeats 4000000 in
theorem iclone_walk {w : World} {r : RtV} (h : r.ok w) : Calls Try.prog 27 #[.slice r.A r.n r.c] w (ICl w r) := by
  have HR := Lib.hid h
  cases hA : r.A with
  | none =>
    have hn : r.n = 0 := by
      rcases Nat.eq_zero_or_pos r.n with e | e
      · exact e
      · obtain ⟨b, off, e1, _⟩ := h.ia.at_ e
        rw [hA] at e1
        cases e1
    have hz : r.to_ = [] := List.eq_nil_of_length_eq_zero (by rw [← h.ia.len]; exact hn)
    have HF := Lib.hid (show ICl w r (.returned (.slice none 0 0)) w from ⟨none, 0, by rw [hn], by rw [hn, hz]; exact Orw.nil _ _ _ _, Turn.refl _ _, by rw [hn, hz]; exact ⟨rws_nil _ _ _, Nat.le_refl _, fun _ => rfl, (by show 0 * 8 ≤ 140737488355328; decide), fun z hz => (by cases hz), h.pl⟩⟩)
    generalize r.n = n at *
    generalize r.c = c at *
    clear h hn hz hA HR
    go_enter Try.func27, Try.ntmps27
    go_upto_region 0 with fail
    refine wp_region_lit ?_
    refine wpList_run (v := .slice none 0 0) (wanted_none rfl) (gx_assign rfl rfl) ?_
    simp only [Act.put, List.setIfInBounds_toArray, List.set_cons_zero, List.set_cons_succ]
    go_upto_region 1 with fail
    refine wp_region_lit ?_
    refine wpList_run (v := .slice none n c) (wanted_none rfl) (exec_move rfl rfl) ?_
    simp only [Act.put, List.setIfInBounds_toArray, List.set_cons_zero, List.set_cons_succ]
    refine wpList_run (v := .bool true) (wanted_none rfl) (exec_eqnilI rfl rfl rfl) ?_
    simp only [Act.put, List.setIfInBounds_toArray, List.set_cons_zero, List.set_cons_succ]
    go_upto_region 2 with fail
    refine wp_region_lit ?_
    refine wpList_run (v := .slice none 0 0) (wanted_none rfl) (gx_assign rfl rfl) ?_
    simp only [Act.put, List.setIfInBounds_toArray, List.set_cons_zero, List.set_cons_succ]
    go_wp2_with fail
    go_ret
    exact HF.out
  | some a =>
    obtain ⟨A', c', w', hrun, how, ht, hok⟩ := copyI h
    rw [hA] at hrun
    have HF := Lib.hid (show ICl w r (.returned (.slice A' r.n c')) w' from ⟨A', c', rfl, how, ht, hok⟩)
    have HRUN := Lib.hid hrun
    generalize hn : r.n = n at *
    generalize r.c = c at *
    clear h hA HR hrun how ht hok hn
    go_enter Try.func27, Try.ntmps27
    go_upto_region 0 with fail
    refine wp_region_lit ?_
    refine wpList_run (v := .slice none 0 0) (wanted_none rfl) (gx_assign rfl rfl) ?_
    simp only [Act.put, List.setIfInBounds_toArray, List.set_cons_zero, List.set_cons_succ]
    go_upto_region 1 with fail
    refine wp_region_lit ?_
    refine wpList_run (v := .slice (some a) n c) (wanted_none rfl) (exec_move rfl rfl) ?_
    simp only [Act.put, List.setIfInBounds_toArray, List.set_cons_zero, List.set_cons_succ]
    refine wpList_run (v := .bool false) (wanted_none rfl) (exec_eqnilI rfl rfl rfl) ?_
    simp only [Act.put, List.setIfInBounds_toArray, List.set_cons_zero, List.set_cons_succ]
    go_upto_region 3 with fail
    refine wp_region_lit ?_
    refine wpList_run (v := .slice (some ⟨w.heap.size, 0, none⟩) 0 0) (w' := w.alloc (.cells #[] 3)) (wanted_none rfl) (bx_slice0 rfl (build0I _)) ?_
    simp only [Act.put, List.setIfInBounds_toArray, List.set_cons_zero, List.set_cons_succ]
    refine wpList_run (v := .slice (some a) n c) (wanted_none rfl) (exec_move rfl rfl) ?_
    simp only [Act.put, List.setIfInBounds_toArray, List.set_cons_zero, List.set_cons_succ]
    refine wpList_run (v := (.slice A' n c')) (w' := w') (wanted_none rfl) (exec_append rfl rfl rfl HRUN.out) ?_
    simp only [Act.put, List.setIfInBounds_toArray, List.set_cons_zero, List.set_cons_succ]
    refine wpList_run (v := (.slice A' n c')) (wanted_none rfl) (gx_assign rfl rfl) ?_
    simp only [Act.put, List.setIfInBounds_toArray, List.set_cons_zero, List.set_cons_succ]
    go_wp2_with fail
    go_ret
    exact HF.out
set_option maxRecDepth 20000 in
set_option maxHeartbeats 1000000 in
theorem mclone_walk (b : Nat) (es : Array MapEntry) (clock : Nat) (w : World) (hb : w.heap[b]? = some (.map es clock)) :
    Calls Try.prog 23 #[.map (some b)] w fun e w' => e = .returned (.map (some w.heap.size)) ∧ w' = w.alloc (.map es clock) := by
  have hq := fun w => run_eql_map_nil_sl (P := Try.prog) w 55 _ _ (some b) Try.underlying55
  go_enter Try.func23, Try.ntmps23
  go_wp2
  rw [run_callFunc_extern Try.func33 (by kernel_rfl) (by kernel_rfl) (by kernel_rfl) (e := Extern.MapsClone.clone) (by kernel_rfl), run_maps_clone_sl w 55 hb]
  simp only [Result.andThen]
  rw [Oper.upon_value]
  go_wp2
  rw [run_typeAssert_map_sl _ 55 20 _ _ _ Try.underlying55]
  simp only [Result.andThen]
  rw [Oper.upon_value]
  go_wp2
  go_ret
  exact ⟨rfl, rfl⟩
theorem contains_walk {w : World} {b off n c : Nat} {zs : List Int} {x : Int} (hn : n ≤ zs.length) (hbig : n ≤ 9223372036854775807) (hc : ∀ i z, zs[i]? = some z → w.cell? ⟨b, off + i * 1, none⟩ = some (.int .i64 z)) :
    Calls Try.prog 34 #[.slice (some ⟨b, off, none⟩) n c, .int .i64 x] w fun e w' => e = .returned (.bool ((zs.take n).contains x)) ∧ w' = w :=
  Any.slices_Contains_int Try.lays107 b off n c zs x w hn hbig fun j hj => by
    have := hc j zs[j] (List.getElem?_eq_getElem hj)
    rw [Nat.mul_one] at this
    rw [this, List.getD_eq_getElem?_getD, List.getElem?_eq_getElem hj]
    rfl
/-- the table's keys -/
noncomputable def tK : KK Try.prog 9 Key := strKK Try.underlying9
theorem zero_ints (w : World) : (zeroValue 36).run Try.prog w = .ok (.slice none 0 0) w := by kernel_rfl
set_option maxRecDepth 20000 in
set_option maxHeartbeats 4000000 in
theorem isPrefix_walk {w : World} {p : Key} (hp : p.length ≤ 9223372036854775807) :
    Calls Try.prog 24 #[strV p] w fun e w' => e = .returned (.bool (Rt.prefOk p)) ∧ w' = w := by
  obtain ⟨n, hn⟩ : ∃ n, n = p.length := ⟨_, rfl⟩
  have HN := Lib.hid hn
  have yn : (n : Int) ≤ 9223372036854775807 := by omega
  clear hp hn
  go_enter Try.func24, Try.ntmps24
  go_upto_region 0 with fail
  refine wp_region_lit ?_
  refine wpList_run (v := .bool false) (wanted_none rfl) (gx_assign rfl rfl) ?_
  simp only [Act.put, List.setIfInBounds_toArray, List.set_cons_zero, List.set_cons_succ]
  rcases (by omega : n = 0 ∨ 8 < n ∨ (1 ≤ n ∧ n ≤ 8)) with h8 | h8 | h8
  · have HF := Lib.hid (show Rt.prefOk p = false from by unfold Rt.prefOk; rw [show decide (1 ≤ p.length ∧ p.length ≤ 8) = false from decide_eq_false (by have := HN.out; omega), Bool.and_false])
    have y4 : (n : Int) < 1 := by omega
    clear h8
    go_upto_region 1 with fail
    first
    | (rename_i K9 hK9; have HKC := Lib.hid hK9; clear hK9)
    | (rename_i K9 hK9 K8; have HKC := Lib.hid hK9; clear hK9)
    refine wp_region_lit ?_
    refine wpList_run (v := strV p) (wanted_none rfl) (exec_move rfl rfl) ?_
    simp only [Act.put, List.setIfInBounds_toArray, List.set_cons_zero, List.set_cons_succ]
    refine wpList_run (v := .int .i64 (n : Int)) (wanted_none rfl) (by rw [HN.out]; exact exec_slen rfl rfl) ?_
    simp only [Act.put, List.setIfInBounds_toArray, List.set_cons_zero, List.set_cons_succ]
    refine wpList_run (v := .bool true) (wanted_none rfl) (ix_lss rfl rfl rfl (decide_eq_true (by omega))) ?_
    simp only [Act.put, List.setIfInBounds_toArray, List.set_cons_zero, List.set_cons_succ]
    refine wpList_run (v := .bool true) (wanted_none rfl) (exec_move rfl rfl) ?_
    simp only [Act.put, List.setIfInBounds_toArray, List.set_cons_zero, List.set_cons_succ]
    go_wp2_with fail
    refine HKC.out _ _ ?_
    clear HKC
    go_upto_region 2 with fail
    refine wp_region_lit ?_
    refine wpList_run (v := .bool false) (wanted_none rfl) (gx_assign rfl rfl) ?_
    simp only [Act.put, List.setIfInBounds_toArray, List.set_cons_zero, List.set_cons_succ]
    go_wp2_with fail
    go_ret
    rw [HF.out]
    exact ⟨rfl, rfl⟩
  · have HF := Lib.hid (show Rt.prefOk p = false from by unfold Rt.prefOk; rw [show decide (1 ≤ p.length ∧ p.length ≤ 8) = false from decide_eq_false (by have := HN.out; omega), Bool.and_false])
    have y4 : 8 < (n : Int) := by omega
    clear h8
    go_upto_region 1 with fail
    refine wp_region_lit ?_
    refine wpList_run (v := strV p) (wanted_none rfl) (exec_move rfl rfl) ?_
    simp only [Act.put, List.setIfInBounds_toArray, List.set_cons_zero, List.set_cons_succ]
    refine wpList_run (v := .int .i64 (n : Int)) (wanted_none rfl) (by rw [HN.out]; exact exec_slen rfl rfl) ?_
    simp only [Act.put, List.setIfInBounds_toArray, List.set_cons_zero, List.set_cons_succ]
    refine wpList_run (v := .bool false) (wanted_none rfl) (ix_lss rfl rfl rfl (decide_eq_false (by omega))) ?_
    simp only [Act.put, List.setIfInBounds_toArray, List.set_cons_zero, List.set_cons_succ]
    refine wpList_run (v := .bool false) (wanted_none rfl) (exec_move rfl rfl) ?_
    simp only [Act.put, List.setIfInBounds_toArray, List.set_cons_zero, List.set_cons_succ]
    refine wpList_run (v := strV p) rfl (exec_move rfl rfl) ?_
    simp only [Act.put, List.setIfInBounds_toArray, List.set_cons_zero, List.set_cons_succ]
    refine wpList_run (v := .int .i64 (n : Int)) rfl (by rw [HN.out]; exact exec_slen rfl rfl) ?_
    simp only [Act.put, List.setIfInBounds_toArray, List.set_cons_zero, List.set_cons_succ]
    refine wpList_run (v := .bool true) rfl (ix_gtr rfl rfl rfl (decide_eq_true (by omega))) ?_
    simp only [Act.put, List.setIfInBounds_toArray, List.set_cons_zero, List.set_cons_succ]
    refine wpList_run (v := .bool true) (wanted_none rfl) (ix_pickF rfl rfl rfl) ?_
    simp only [Act.put, List.setIfInBounds_toArray, List.set_cons_zero, List.set_cons_succ]
    go_upto_region 2 with fail
    refine wp_region_lit ?_
    refine wpList_run (v := .bool false) (wanted_none rfl) (gx_assign rfl rfl) ?_
    simp only [Act.put, List.setIfInBounds_toArray, List.set_cons_zero, List.set_cons_succ]
    go_wp2_with fail
    go_ret
    rw [HF.out]
    exact ⟨rfl, rfl⟩
  · have H8 := Lib.hid h8
    have y4 : 1 ≤ (n : Int) := by omega
    have y5 : (n : Int) ≤ 8 := by omega
    clear h8
    go_upto_region 1 with fail
    refine wp_region_lit ?_
    refine wpList_run (v := strV p) (wanted_none rfl) (exec_move rfl rfl) ?_
    simp only [Act.put, List.setIfInBounds_toArray, List.set_cons_zero, List.set_cons_succ]
    refine wpList_run (v := .int .i64 (n : Int)) (wanted_none rfl) (by rw [HN.out]; exact exec_slen rfl rfl) ?_
    simp only [Act.put, List.setIfInBounds_toArray, List.set_cons_zero, List.set_cons_succ]
    refine wpList_run (v := .bool false) (wanted_none rfl) (ix_lss rfl rfl rfl (decide_eq_false (by omega))) ?_
    simp only [Act.put, List.setIfInBounds_toArray, List.set_cons_zero, List.set_cons_succ]
    refine wpList_run (v := .bool false) (wanted_none rfl) (exec_move rfl rfl) ?_
    simp only [Act.put, List.setIfInBounds_toArray, List.set_cons_zero, List.set_cons_succ]
    refine wpList_run (v := strV p) rfl (exec_move rfl rfl) ?_
    simp only [Act.put, List.setIfInBounds_toArray, List.set_cons_zero, List.set_cons_succ]
    refine wpList_run (v := .int .i64 (n : Int)) rfl (by rw [HN.out]; exact exec_slen rfl rfl) ?_
    simp only [Act.put, List.setIfInBounds_toArray, List.set_cons_zero, List.set_cons_succ]
    refine wpList_run (v := .bool false) rfl (ix_gtr rfl rfl rfl (decide_eq_false (by omega))) ?_
    simp only [Act.put, List.setIfInBounds_toArray, List.set_cons_zero, List.set_cons_succ]
    refine wpList_run (v := .bool false) (wanted_none rfl) (ix_pickF rfl rfl rfl) ?_
    simp only [Act.put, List.setIfInBounds_toArray, List.set_cons_zero, List.set_cons_succ]
    go_upto_region 3 with fail
    refine wp_region_lit ?_
    refine wpList_run (v := strV p) (wanted_none rfl) (exec_move rfl rfl) ?_
    simp only [Act.put, List.setIfInBounds_toArray, List.set_cons_zero, List.set_cons_succ]
    refine wpList_run (v := .int .i64 (n : Int)) (wanted_none rfl) (by rw [HN.out]; exact exec_slen rfl rfl) ?_
    simp only [Act.put, List.setIfInBounds_toArray, List.set_cons_zero, List.set_cons_succ]
    refine wpList_run (v := .int .i64 0) (wanted_none rfl) (exec_move rfl rfl) ?_
    simp only [Act.put, List.setIfInBounds_toArray, List.set_cons_zero, List.set_cons_succ]
    go_wp2_with fail
    go_loopg [3, 14] n (fun gk ov iv wr => ∃ i : Nat, iv = .int .i64 (i : Int) ∧ i + gk = n ∧ (p.take i).all Rt.digit = true ∧ wr = w)
    case atStart => exact ⟨0, rfl, by omega, rfl, rfl⟩
    obtain ⟨i, rfl, hgk, hall, hw⟩ := hrel
    subst hw
    have HGK := Lib.hid hgk
    have HALL := Lib.hid hall
    have yi : (i : Int) ≤ (n : Int) := by omega
    clear hgk hall
    by_cases hlt : i < n
    · have HLT := Lib.hid hlt
      have y3 : (i : Int) < (n : Int) := by omega
      have HIL := Lib.hid (show i < p.length from by have := HN.out; omega)
      obtain ⟨c, hc⟩ : ∃ c, c = p.getD i 0 := ⟨_, rfl⟩
      have HC := Lib.hid hc
      clear hc hlt
      go_upto_region 4 with fail
      refine wp_region_lit ?_
      refine wpList_run (v := .bool true) (wanted_none rfl) (ix_lss rfl rfl rfl (decide_eq_true y3)) ?_
      simp only [Act.put, List.setIfInBounds_toArray, List.set_cons_zero, List.set_cons_succ]
      go_upto_region 5 with fail
      refine wp_region_lit ?_
      refine wpList_run (v := .int .i64 (i : Int)) (wanted_none rfl) (exec_move rfl rfl) ?_
      simp only [Act.put, List.setIfInBounds_toArray, List.set_cons_zero, List.set_cons_succ]
      refine wpList_run (v := .int .i64 (i : Int)) (wanted_none rfl) (gx_assign rfl rfl) ?_
      simp only [Act.put, List.setIfInBounds_toArray, List.set_cons_zero, List.set_cons_succ]
      rcases (by omega : c.toNat < 48 ∨ 57 < c.toNat ∨ (48 ≤ c.toNat ∧ c.toNat ≤ 57)) with hc | hc | hc
      · have HCD := Lib.hid (show Rt.digit (p.getD i 0) = false from by rw [← HC.out]; exact decide_eq_false (by omega))
        have y4 : (c.toNat : Int) < 48 := by omega
        clear hc
        go_upto_region 6 with fail
        first
        | (rename_i K9 hK9; have HKC := Lib.hid hK9; clear hK9)
        | (rename_i K9 hK9 K8; have HKC := Lib.hid hK9; clear hK9)
        refine wp_region_lit ?_
        refine wpList_run (v := strV p) (wanted_none rfl) (exec_move rfl rfl) ?_
        simp only [Act.put, List.setIfInBounds_toArray, List.set_cons_zero, List.set_cons_succ]
        refine wpList_run (v := .int .i64 (i : Int)) (wanted_none rfl) (exec_move rfl rfl) ?_
        simp only [Act.put, List.setIfInBounds_toArray, List.set_cons_zero, List.set_cons_succ]
        refine wpList_run (v := .int .u8 (c.toNat : Int)) (wanted_none rfl) (by rw [HC.out]; exact exec_sidx rfl rfl rfl HIL.out) ?_
        simp only [Act.put, List.setIfInBounds_toArray, List.set_cons_zero, List.set_cons_succ]
        refine wpList_run (v := .bool true) (wanted_none rfl) (u8_lss (m := 48) rfl rfl rfl (decide_eq_true y4)) ?_
        simp only [Act.put, List.setIfInBounds_toArray, List.set_cons_zero, List.set_cons_succ]
        refine wpList_run (v := .bool true) (wanted_none rfl) (exec_move rfl rfl) ?_
        simp only [Act.put, List.setIfInBounds_toArray, List.set_cons_zero, List.set_cons_succ]
        go_wp2_with fail
        refine HKC.out _ _ ?_
        clear HKC
        go_upto_region 7 with fail
        refine wp_region_lit ?_
        refine wpList_run (v := .bool false) (wanted_none rfl) (gx_assign rfl rfl) ?_
        simp only [Act.put, List.setIfInBounds_toArray, List.set_cons_zero, List.set_cons_succ]
        go_wp2_with fail
        go_ret
        rw [pref_no HIL.out HCD.out]
        exact ⟨rfl, rfl⟩
      · have HCD := Lib.hid (show Rt.digit (p.getD i 0) = false from by rw [← HC.out]; exact decide_eq_false (by omega))
        have y4 : 57 < (c.toNat : Int) := by omega
        clear hc
        go_upto_region 6 with fail
        refine wp_region_lit ?_
        refine wpList_run (v := strV p) (wanted_none rfl) (exec_move rfl rfl) ?_
        simp only [Act.put, List.setIfInBounds_toArray, List.set_cons_zero, List.set_cons_succ]
        refine wpList_run (v := .int .i64 (i : Int)) (wanted_none rfl) (exec_move rfl rfl) ?_
        simp only [Act.put, List.setIfInBounds_toArray, List.set_cons_zero, List.set_cons_succ]
        refine wpList_run (v := .int .u8 (c.toNat : Int)) (wanted_none rfl) (by rw [HC.out]; exact exec_sidx rfl rfl rfl HIL.out) ?_
        simp only [Act.put, List.setIfInBounds_toArray, List.set_cons_zero, List.set_cons_succ]
        refine wpList_run (v := .bool false) (wanted_none rfl) (u8_lss (m := 48) rfl rfl rfl (decide_eq_false (by omega))) ?_
        simp only [Act.put, List.setIfInBounds_toArray, List.set_cons_zero, List.set_cons_succ]
        refine wpList_run (v := .bool false) (wanted_none rfl) (exec_move rfl rfl) ?_
        simp only [Act.put, List.setIfInBounds_toArray, List.set_cons_zero, List.set_cons_succ]
        refine wpList_run (v := strV p) rfl (exec_move rfl rfl) ?_
        simp only [Act.put, List.setIfInBounds_toArray, List.set_cons_zero, List.set_cons_succ]
        refine wpList_run (v := .int .i64 (i : Int)) rfl (exec_move rfl rfl) ?_
        simp only [Act.put, List.setIfInBounds_toArray, List.set_cons_zero, List.set_cons_succ]
        refine wpList_run (v := .int .u8 (c.toNat : Int)) rfl (by rw [HC.out]; exact exec_sidx rfl rfl rfl HIL.out) ?_
        simp only [Act.put, List.setIfInBounds_toArray, List.set_cons_zero, List.set_cons_succ]
        refine wpList_run (v := .bool true) rfl (u8_gtr (m := 57) rfl rfl rfl (decide_eq_true (by omega))) ?_
        simp only [Act.put, List.setIfInBounds_toArray, List.set_cons_zero, List.set_cons_succ]
        refine wpList_run (v := .bool true) (wanted_none rfl) (ix_pickF rfl rfl rfl) ?_
        simp only [Act.put, List.setIfInBounds_toArray, List.set_cons_zero, List.set_cons_succ]
        go_upto_region 7 with fail
        refine wp_region_lit ?_
        refine wpList_run (v := .bool false) (wanted_none rfl) (gx_assign rfl rfl) ?_
        simp only [Act.put, List.setIfInBounds_toArray, List.set_cons_zero, List.set_cons_succ]
        go_wp2_with fail
        go_ret
        rw [pref_no HIL.out HCD.out]
        exact ⟨rfl, rfl⟩
      · have HCD := Lib.hid (show Rt.digit (p.getD i 0) = true from by rw [← HC.out]; exact decide_eq_true hc)
        have y4 : 48 ≤ (c.toNat : Int) := by omega
        have y5 : (c.toNat : Int) ≤ 57 := by omega
        clear hc
        go_upto_region 6 with fail
        refine wp_region_lit ?_
        refine wpList_run (v := strV p) (wanted_none rfl) (exec_move rfl rfl) ?_
        simp only [Act.put, List.setIfInBounds_toArray, List.set_cons_zero, List.set_cons_succ]
        refine wpList_run (v := .int .i64 (i : Int)) (wanted_none rfl) (exec_move rfl rfl) ?_
        simp only [Act.put, List.setIfInBounds_toArray, List.set_cons_zero, List.set_cons_succ]
        refine wpList_run (v := .int .u8 (c.toNat : Int)) (wanted_none rfl) (by rw [HC.out]; exact exec_sidx rfl rfl rfl HIL.out) ?_
        simp only [Act.put, List.setIfInBounds_toArray, List.set_cons_zero, List.set_cons_succ]
        refine wpList_run (v := .bool false) (wanted_none rfl) (u8_lss (m := 48) rfl rfl rfl (decide_eq_false (by omega))) ?_
        simp only [Act.put, List.setIfInBounds_toArray, List.set_cons_zero, List.set_cons_succ]
        refine wpList_run (v := .bool false) (wanted_none rfl) (exec_move rfl rfl) ?_
        simp only [Act.put, List.setIfInBounds_toArray, List.set_cons_zero, List.set_cons_succ]
        refine wpList_run (v := strV p) rfl (exec_move rfl rfl) ?_
        simp only [Act.put, List.setIfInBounds_toArray, List.set_cons_zero, List.set_cons_succ]
        refine wpList_run (v := .int .i64 (i : Int)) rfl (exec_move rfl rfl) ?_
        simp only [Act.put, List.setIfInBounds_toArray, List.set_cons_zero, List.set_cons_succ]
        refine wpList_run (v := .int .u8 (c.toNat : Int)) rfl (by rw [HC.out]; exact exec_sidx rfl rfl rfl HIL.out) ?_
        simp only [Act.put, List.setIfInBounds_toArray, List.set_cons_zero, List.set_cons_succ]
        refine wpList_run (v := .bool false) rfl (u8_gtr (m := 57) rfl rfl rfl (decide_eq_false (by omega))) ?_
        simp only [Act.put, List.setIfInBounds_toArray, List.set_cons_zero, List.set_cons_succ]
        refine wpList_run (v := .bool false) (wanted_none rfl) (ix_pickF rfl rfl rfl) ?_
        simp only [Act.put, List.setIfInBounds_toArray, List.set_cons_zero, List.set_cons_succ]
        go_upto_region 8 with fail
        refine wp_region_lit ?_
        refine wpList_run (v := .int .i64 ((i + 1 : Nat) : Int)) (wanted_none rfl) (ix_add rfl rfl rfl (by omega) (by omega)) ?_
        simp only [Act.put, List.setIfInBounds_toArray, List.set_cons_zero, List.set_cons_succ]
        refine wpList_run (v := .int .i64 ((i + 1 : Nat) : Int)) (wanted_none rfl) (exec_move rfl rfl) ?_
        simp only [Act.put, List.setIfInBounds_toArray, List.set_cons_zero, List.set_cons_succ]
        go_wp2_with fail
        go_roundg (n - (i + 1))
        case measure => have := HGK.out; have := HLT.out; omega
        case rel => exact ⟨i + 1, rfl, by have := HLT.out; omega, by
          have h := HCD.out
          rw [List.getD_eq_getElem?_getD, List.getElem?_eq_getElem HIL.out] at h
          have h : Rt.digit p[i] = true := h
          rw [List.take_add_one, List.getElem?_eq_getElem HIL.out, List.all_append, HALL.out]
          simp; exact h, rfl⟩
    · obtain rfl : n = i := by have := HGK.out; omega
      have HF := Lib.hid (show Rt.prefOk p = true from (pref_of (p := p) (by have h := HALL.out; rw [List.take_of_length_le (by have := HN.out; omega)] at h; exact h)).trans (decide_eq_true (by have := HN.out; have := H8.out; omega)))
      clear hlt
      go_upto_region 4 with fail
      refine wp_region_lit ?_
      refine wpList_run (v := .bool false) (wanted_none rfl) (ix_lss rfl rfl rfl (decide_eq_false (by omega))) ?_
      simp only [Act.put, List.setIfInBounds_toArray, List.set_cons_zero, List.set_cons_succ]
      go_upto_region 9 with fail
      refine wp_region_lit ?_
      refine wpList_run (v := .bool true) (wanted_none rfl) (gx_assign rfl rfl) ?_
      simp only [Act.put, List.setIfInBounds_toArray, List.set_cons_zero, List.set_cons_succ]
      go_wp2_with fail
      go_ret
      rw [HF.out]
      exact ⟨rfl, rfl⟩
set_option maxRecDepth 20000 in
set_option maxHeartbeats 4000000 in
theorem mayIssue_walk {w : World} {t : Nat} {m : Int} {v : Value} {A : Option Addr} {n c : Nat} {zs : List Int} (hb : Blk w t 57 #[.int .i64 m, v]) (ha : IA w A n zs) (hle : n ≤ c) :
    Calls Try.prog 25 #[.pointer (some ⟨t, 0, none⟩), .slice A n c] w fun e w' => e = .returned (.bool (decide (Rt.toOk m zs))) ∧ Turn nowhere w w' := by
  have HB := Lib.hid hb
  have HA := Lib.hid ha
  have HLE := Lib.hid hle
  have yn : (n : Int) ≤ 140737488355328 := by have := ha.2.2.1; omega
  clear hb ha hle
  go_enter Try.func25, Try.ntmps25
  go_upto_region 0 with fail
  refine wp_region_lit ?_
  refine wpList_run (v := .bool false) (wanted_none rfl) (gx_assign rfl rfl) ?_
  simp only [Act.put, List.setIfInBounds_toArray, List.set_cons_zero, List.set_cons_succ]
  rcases (by omega : n < 1 ∨ 6 < n ∨ (1 ≤ n ∧ n ≤ 6)) with h6 | h6 | h6
  · have HNO := Lib.hid (to_no1 (m := m) (zs := zs) (by have := HA.out.len; omega))
    have y4 : (n : Int) < 1 := by omega
    clear h6
    go_upto_region 1 with fail
    first
    | (rename_i K9 hK9; have HKC := Lib.hid hK9; clear hK9)
    | (rename_i K9 hK9 K8; have HKC := Lib.hid hK9; clear hK9)
    refine wp_region_lit ?_
    refine wpList_run (v := .slice A n c) (wanted_none rfl) (exec_move rfl rfl) ?_
    simp only [Act.put, List.setIfInBounds_toArray, List.set_cons_zero, List.set_cons_succ]
    refine wpList_run (v := .int .i64 (n : Int)) (wanted_none rfl) (gx_len rfl rfl Try.underlying36) ?_
    simp only [Act.put, List.setIfInBounds_toArray, List.set_cons_zero, List.set_cons_succ]
    refine wpList_run (v := .bool true) (wanted_none rfl) (ix_lss rfl rfl rfl (decide_eq_true (by omega))) ?_
    simp only [Act.put, List.setIfInBounds_toArray, List.set_cons_zero, List.set_cons_succ]
    refine wpList_run (v := .bool true) (wanted_none rfl) (exec_move rfl rfl) ?_
    simp only [Act.put, List.setIfInBounds_toArray, List.set_cons_zero, List.set_cons_succ]
    go_wp2_with fail
    refine HKC.out _ _ ?_
    clear HKC
    go_upto_region 2 with fail
    refine wp_region_lit ?_
    refine wpList_run (v := .bool false) (wanted_none rfl) (gx_assign rfl rfl) ?_
    simp only [Act.put, List.setIfInBounds_toArray, List.set_cons_zero, List.set_cons_succ]
    go_wp2_with fail
    go_ret
    rw [decide_eq_false (show ¬ Rt.toOk m zs from HNO.out)]
    exact ⟨rfl, Turn.refl _ _⟩
  · have HNO := Lib.hid (to_no1 (m := m) (zs := zs) (by have := HA.out.len; omega))
    have y4 : 6 < (n : Int) := by omega
    clear h6
    go_upto_region 1 with fail
    refine wp_region_lit ?_
    refine wpList_run (v := .slice A n c) (wanted_none rfl) (exec_move rfl rfl) ?_
    simp only [Act.put, List.setIfInBounds_toArray, List.set_cons_zero, List.set_cons_succ]
    refine wpList_run (v := .int .i64 (n : Int)) (wanted_none rfl) (gx_len rfl rfl Try.underlying36) ?_
    simp only [Act.put, List.setIfInBounds_toArray, List.set_cons_zero, List.set_cons_succ]
    refine wpList_run (v := .bool false) (wanted_none rfl) (ix_lss rfl rfl rfl (decide_eq_false (by omega))) ?_
    simp only [Act.put, List.setIfInBounds_toArray, List.set_cons_zero, List.set_cons_succ]
    refine wpList_run (v := .bool false) (wanted_none rfl) (exec_move rfl rfl) ?_
    simp only [Act.put, List.setIfInBounds_toArray, List.set_cons_zero, List.set_cons_succ]
    refine wpList_run (v := .slice A n c) rfl (exec_move rfl rfl) ?_
    simp only [Act.put, List.setIfInBounds_toArray, List.set_cons_zero, List.set_cons_succ]
    refine wpList_run (v := .int .i64 (n : Int)) rfl (gx_len rfl rfl Try.underlying36) ?_
    simp only [Act.put, List.setIfInBounds_toArray, List.set_cons_zero, List.set_cons_succ]
    refine wpList_run (v := .bool true) rfl (ix_gtr rfl rfl rfl (decide_eq_true (by omega))) ?_
    simp only [Act.put, List.setIfInBounds_toArray, List.set_cons_zero, List.set_cons_succ]
    refine wpList_run (v := .bool true) (wanted_none rfl) (ix_pickF rfl rfl rfl) ?_
    simp only [Act.put, List.setIfInBounds_toArray, List.set_cons_zero, List.set_cons_succ]
    go_upto_region 2 with fail
    refine wp_region_lit ?_
    refine wpList_run (v := .bool false) (wanted_none rfl) (gx_assign rfl rfl) ?_
    simp only [Act.put, List.setIfInBounds_toArray, List.set_cons_zero, List.set_cons_succ]
    go_wp2_with fail
    go_ret
    rw [decide_eq_false (show ¬ Rt.toOk m zs from HNO.out)]
    exact ⟨rfl, Turn.refl _ _⟩
  · have HN6 := Lib.hid h6
    have y4 : 1 ≤ (n : Int) := by omega
    have y5 : (n : Int) ≤ 6 := by omega
    obtain ⟨b1, o1, e1, h1⟩ := HA.out.at_ (by omega)
    subst e1
    have HCE := Lib.hid h1
    clear h6 h1
    go_upto_region 1 with fail
    refine wp_region_lit ?_
    refine wpList_run (v := .slice (some ⟨b1, o1, none⟩) n c) (wanted_none rfl) (exec_move rfl rfl) ?_
    simp only [Act.put, List.setIfInBounds_toArray, List.set_cons_zero, List.set_cons_succ]
    refine wpList_run (v := .int .i64 (n : Int)) (wanted_none rfl) (gx_len rfl rfl Try.underlying36) ?_
    simp only [Act.put, List.setIfInBounds_toArray, List.set_cons_zero, List.set_cons_succ]
    refine wpList_run (v := .bool false) (wanted_none rfl) (ix_lss rfl rfl rfl (decide_eq_false (by omega))) ?_
    simp only [Act.put, List.setIfInBounds_toArray, List.set_cons_zero, List.set_cons_succ]
    refine wpList_run (v := .bool false) (wanted_none rfl) (exec_move rfl rfl) ?_
    simp only [Act.put, List.setIfInBounds_toArray, List.set_cons_zero, List.set_cons_succ]
    refine wpList_run (v := .slice (some ⟨b1, o1, none⟩) n c) rfl (exec_move rfl rfl) ?_
    simp only [Act.put, List.setIfInBounds_toArray, List.set_cons_zero, List.set_cons_succ]
    refine wpList_run (v := .int .i64 (n : Int)) rfl (gx_len rfl rfl Try.underlying36) ?_
    simp only [Act.put, List.setIfInBounds_toArray, List.set_cons_zero, List.set_cons_succ]
    refine wpList_run (v := .bool false) rfl (ix_gtr rfl rfl rfl (decide_eq_false (by omega))) ?_
    simp only [Act.put, List.setIfInBounds_toArray, List.set_cons_zero, List.set_cons_succ]
    refine wpList_run (v := .bool false) (wanted_none rfl) (ix_pickF rfl rfl rfl) ?_
    simp only [Act.put, List.setIfInBounds_toArray, List.set_cons_zero, List.set_cons_succ]
    go_upto_region 3 with fail
    refine wp_region_lit ?_
    refine wpList_run (v := .slice (some ⟨b1, o1, none⟩) n c) (wanted_none rfl) (exec_move rfl rfl) ?_
    simp only [Act.put, List.setIfInBounds_toArray, List.set_cons_zero, List.set_cons_succ]
    refine wpList_run (v := .int .i64 (n : Int)) (wanted_none rfl) (gx_len rfl rfl Try.underlying36) ?_
    simp only [Act.put, List.setIfInBounds_toArray, List.set_cons_zero, List.set_cons_succ]
    refine wpList_run (v := .int .i64 0) (wanted_none rfl) (exec_move rfl rfl) ?_
    simp only [Act.put, List.setIfInBounds_toArray, List.set_cons_zero, List.set_cons_succ]
    go_wp2_with fail
    go_loopg [5, 6, 17] n (fun gk iv0 kv0 iv wr => ∃ i : Nat, iv = .int .i64 (i : Int) ∧ i + gk = n ∧ toPre m zs i ∧ Turn nowhere w wr)
    case atStart => exact ⟨0, rfl, by omega, ⟨fun x hx => by simp at hx, by simp⟩, Turn.refl _ _⟩
    obtain ⟨i, rfl, hgk, hto, htr⟩ := hrel
    have HGK := Lib.hid hgk
    have HTO := Lib.hid hto
    have HTR := Lib.hid htr
    have yi : (i : Int) ≤ (n : Int) := by omega
    clear hgk hto htr
    by_cases hlt : i < n
    · have HLT := Lib.hid hlt
      have y3 : (i : Int) < (n : Int) := by omega
      obtain ⟨z, hz⟩ := getQ (l := zs) (i := i) (by have := HA.out.len; omega)
      have HZ := Lib.hid hz
      have hc0 := HCE.out i z hz
      have HC := Lib.hid ((HTR.out.cell (World.block_lt_of_cell? _ _ hc0) fun e => e).trans hc0)
      have HBW := Lib.hid (HB.out.turn HTR.out fun e => e)
      have HCT := Lib.hid (contains_walk (w := wr) (b := b1) (off := o1) (n := i) (c := c) (zs := zs) (x := z) (by have := HA.out.len; omega) (by omega) fun j x hx => by
        have hc1 := HCE.out j x hx
        exact (HTR.out.cell (World.block_lt_of_cell? _ _ hc1) fun e => e).trans hc1)
      clear hz hc0 hlt
      go_upto_region 4 with fail
      refine wp_region_lit ?_
      refine wpList_run (v := .bool true) (wanted_none rfl) (ix_lss rfl rfl rfl (decide_eq_true y3)) ?_
      simp only [Act.put, List.setIfInBounds_toArray, List.set_cons_zero, List.set_cons_succ]
      go_upto_region 5 with fail
      refine wp_region_lit ?_
      refine wpList_run (v := .int .i64 (i : Int)) (wanted_none rfl) (exec_move rfl rfl) ?_
      simp only [Act.put, List.setIfInBounds_toArray, List.set_cons_zero, List.set_cons_succ]
      refine wpList_run (v := .pointer (some ⟨b1, o1 + i * 1, none⟩)) (wanted_none rfl) (gx_iaddr (i := i) (sz := 1) rfl rfl rfl Try.underlying36 size_int HLT.out rfl) ?_
      simp only [Act.put, List.setIfInBounds_toArray, List.set_cons_zero, List.set_cons_succ]
      refine wpList_run (v := .int .i64 z) (wanted_none rfl) (exec_load1 rfl rfl (by kernel_rfl) HC.out) ?_
      simp only [Act.put, List.setIfInBounds_toArray, List.set_cons_zero, List.set_cons_succ]
      refine wpList_run (v := .int .i64 (i : Int)) (wanted_none rfl) (gx_assign rfl rfl) ?_
      simp only [Act.put, List.setIfInBounds_toArray, List.set_cons_zero, List.set_cons_succ]
      refine wpList_run (v := .int .i64 z) (wanted_none rfl) (gx_assign rfl rfl) ?_
      simp only [Act.put, List.setIfInBounds_toArray, List.set_cons_zero, List.set_cons_succ]
      rcases (by omega : z < 0 ∨ (0 ≤ z ∧ m ≤ z) ∨ (0 ≤ z ∧ z < m)) with hz | hz | hz
      · have HNO := Lib.hid (to_no2 (m := m) HZ.out (.inl hz))
        have y6 : z < 0 := hz
        clear hz
        go_upto_region 6 with fail
        first
        | (rename_i K9 hK9; have HKC := Lib.hid hK9; clear hK9)
        | (rename_i K9 hK9 K8; have HKC := Lib.hid hK9; clear hK9)
        refine wp_region_lit ?_
        refine wpList_run (v := .int .i64 z) (wanted_none rfl) (exec_move rfl rfl) ?_
        simp only [Act.put, List.setIfInBounds_toArray, List.set_cons_zero, List.set_cons_succ]
        refine wpList_run (v := .bool true) (wanted_none rfl) (ix_lss rfl rfl rfl (decide_eq_true y6)) ?_
        simp only [Act.put, List.setIfInBounds_toArray, List.set_cons_zero, List.set_cons_succ]
        refine wpList_run (v := .bool true) (wanted_none rfl) (exec_move rfl rfl) ?_
        simp only [Act.put, List.setIfInBounds_toArray, List.set_cons_zero, List.set_cons_succ]
        go_wp2_with fail
        refine HKC.out _ _ ?_
        clear HKC
        go_upto_region 7 with fail
        refine wp_region_lit ?_
        refine wpList_run (v := .bool false) (wanted_none rfl) (gx_assign rfl rfl) ?_
        simp only [Act.put, List.setIfInBounds_toArray, List.set_cons_zero, List.set_cons_succ]
        go_wp2_with fail
        go_ret
        rw [decide_eq_false (show ¬ Rt.toOk m zs from HNO.out)]
        exact ⟨rfl, HTR.out⟩
      · have HNO := Lib.hid (to_no2 (m := m) HZ.out (.inr hz.2))
        have y6 : 0 ≤ z := hz.1
        have y7 : m ≤ z := hz.2
        clear hz
        go_upto_region 6 with fail
        first
        | (rename_i K9 hK9; have HKC := Lib.hid hK9; clear hK9)
        | (rename_i K9 hK9 K8; have HKC := Lib.hid hK9; clear hK9)
        refine wp_region_lit ?_
        refine wpList_run (v := .int .i64 z) (wanted_none rfl) (exec_move rfl rfl) ?_
        simp only [Act.put, List.setIfInBounds_toArray, List.set_cons_zero, List.set_cons_succ]
        refine wpList_run (v := .bool false) (wanted_none rfl) (ix_lss rfl rfl rfl (decide_eq_false (by omega))) ?_
        simp only [Act.put, List.setIfInBounds_toArray, List.set_cons_zero, List.set_cons_succ]
        refine wpList_run (v := .bool false) (wanted_none rfl) (exec_move rfl rfl) ?_
        simp only [Act.put, List.setIfInBounds_toArray, List.set_cons_zero, List.set_cons_succ]
        refine wpList_run (v := .int .i64 z) rfl (exec_move rfl rfl) ?_
        simp only [Act.put, List.setIfInBounds_toArray, List.set_cons_zero, List.set_cons_succ]
        refine wpList_run (v := .pointer (some ⟨t, 0, none⟩)) rfl (exec_move rfl rfl) ?_
        simp only [Act.put, List.setIfInBounds_toArray, List.set_cons_zero, List.set_cons_succ]
        refine wpList_run (v := .pointer (some ⟨t, 0, none⟩)) rfl (exec_nil rfl rfl) ?_
        simp only [Act.put, List.setIfInBounds_toArray, List.set_cons_zero, List.set_cons_succ]
        refine wpList_run (v := .pointer (some ⟨t, 0, none⟩)) rfl (exec_field (off := 0) (d := 0) rfl rfl (by kernel_rfl)) ?_
        simp only [Act.put, List.setIfInBounds_toArray, List.set_cons_zero, List.set_cons_succ]
        refine wpList_run (v := .int .i64 m) rfl (exec_load1 rfl rfl (by kernel_rfl) (HBW.out.cell 0)) ?_
        simp only [Act.put, List.setIfInBounds_toArray, List.set_cons_zero, List.set_cons_succ]
        refine wpList_run (v := .bool true) rfl (ix_geq rfl rfl rfl (decide_eq_true (by omega))) ?_
        simp only [Act.put, List.setIfInBounds_toArray, List.set_cons_zero, List.set_cons_succ]
        refine wpList_run (v := .bool true) (wanted_none rfl) (ix_pickF rfl rfl rfl) ?_
        simp only [Act.put, List.setIfInBounds_toArray, List.set_cons_zero, List.set_cons_succ]
        refine wpList_run (v := .bool true) (wanted_none rfl) (exec_move rfl rfl) ?_
        simp only [Act.put, List.setIfInBounds_toArray, List.set_cons_zero, List.set_cons_succ]
        go_wp2_with fail
        refine HKC.out _ _ ?_
        clear HKC
        go_upto_region 7 with fail
        refine wp_region_lit ?_
        refine wpList_run (v := .bool false) (wanted_none rfl) (gx_assign rfl rfl) ?_
        simp only [Act.put, List.setIfInBounds_toArray, List.set_cons_zero, List.set_cons_succ]
        go_wp2_with fail
        go_ret
        rw [decide_eq_false (show ¬ Rt.toOk m zs from HNO.out)]
        exact ⟨rfl, HTR.out⟩
      · have HZM := Lib.hid hz
        have y6 : 0 ≤ z := hz.1
        have y7 : z < m := hz.2
        clear hz
        by_cases hin : (zs.take i).contains z = true
        · have HNO := Lib.hid (show ¬ Rt.toOk m zs from by
            obtain ⟨k, hk⟩ := List.mem_iff_getElem?.1 (List.contains_iff_mem.1 hin)
            rw [List.getElem?_take] at hk
            split at hk
            · exact to_no3 (m := m) HZ.out hk (by assumption)
            · cases hk)
          rw [hin] at HCT
          clear hin
          go_upto_region 6 with fail
          refine wp_region_lit ?_
          refine wpList_run (v := .int .i64 z) (wanted_none rfl) (exec_move rfl rfl) ?_
          simp only [Act.put, List.setIfInBounds_toArray, List.set_cons_zero, List.set_cons_succ]
          refine wpList_run (v := .bool false) (wanted_none rfl) (ix_lss rfl rfl rfl (decide_eq_false (by omega))) ?_
          simp only [Act.put, List.setIfInBounds_toArray, List.set_cons_zero, List.set_cons_succ]
          refine wpList_run (v := .bool false) (wanted_none rfl) (exec_move rfl rfl) ?_
          simp only [Act.put, List.setIfInBounds_toArray, List.set_cons_zero, List.set_cons_succ]
          refine wpList_run (v := .int .i64 z) rfl (exec_move rfl rfl) ?_
          simp only [Act.put, List.setIfInBounds_toArray, List.set_cons_zero, List.set_cons_succ]
          refine wpList_run (v := .pointer (some ⟨t, 0, none⟩)) rfl (exec_move rfl rfl) ?_
          simp only [Act.put, List.setIfInBounds_toArray, List.set_cons_zero, List.set_cons_succ]
          refine wpList_run (v := .pointer (some ⟨t, 0, none⟩)) rfl (exec_nil rfl rfl) ?_
          simp only [Act.put, List.setIfInBounds_toArray, List.set_cons_zero, List.set_cons_succ]
          refine wpList_run (v := .pointer (some ⟨t, 0, none⟩)) rfl (exec_field (off := 0) (d := 0) rfl rfl (by kernel_rfl)) ?_
          simp only [Act.put, List.setIfInBounds_toArray, List.set_cons_zero, List.set_cons_succ]
          refine wpList_run (v := .int .i64 m) rfl (exec_load1 rfl rfl (by kernel_rfl) (HBW.out.cell 0)) ?_
          simp only [Act.put, List.setIfInBounds_toArray, List.set_cons_zero, List.set_cons_succ]
          refine wpList_run (v := .bool false) rfl (ix_geq rfl rfl rfl (decide_eq_false (by omega))) ?_
          simp only [Act.put, List.setIfInBounds_toArray, List.set_cons_zero, List.set_cons_succ]
          refine wpList_run (v := .bool false) (wanted_none rfl) (ix_pickF rfl rfl rfl) ?_
          simp only [Act.put, List.setIfInBounds_toArray, List.set_cons_zero, List.set_cons_succ]
          refine wpList_run (v := .bool false) (wanted_none rfl) (exec_move rfl rfl) ?_
          simp only [Act.put, List.setIfInBounds_toArray, List.set_cons_zero, List.set_cons_succ]
          refine wpList_run (v := .slice (some ⟨b1, o1, none⟩) n c) rfl (exec_move rfl rfl) ?_
          simp only [Act.put, List.setIfInBounds_toArray, List.set_cons_zero, List.set_cons_succ]
          refine wpList_run (v := .int .i64 (i : Int)) rfl (exec_move rfl rfl) ?_
          simp only [Act.put, List.setIfInBounds_toArray, List.set_cons_zero, List.set_cons_succ]
          refine wpList_run (v := .slice (some ⟨b1, o1, none⟩) i c) rfl (exec_slice rfl rfl rfl rfl rfl (sl_to elmI (some ⟨b1, o1, none⟩) n c i (by have := HLT.out; have := HLE.out; omega) _)) ?_
          simp only [Act.put, List.setIfInBounds_toArray, List.set_cons_zero, List.set_cons_succ]
          refine wpList_run (v := .int .i64 z) rfl (exec_move rfl rfl) ?_
          simp only [Act.put, List.setIfInBounds_toArray, List.set_cons_zero, List.set_cons_succ]
          refine wpList_op (by go_simp) fun K9 HK9 => ?_
          go_wp2_with fail
          refine (HCT.out).mono ?_
          rintro e w3 ⟨rfl, rfl⟩
          refine HK9.out _ _ ?_
          clear HK9
          try simp only [Act.put, List.setIfInBounds_toArray, List.set_cons_zero, List.set_cons_succ]
          refine wpList_run (v := .bool true) (wanted_none rfl) (ix_pickF rfl rfl rfl) ?_
          simp only [Act.put, List.setIfInBounds_toArray, List.set_cons_zero, List.set_cons_succ]
          go_upto_region 7 with fail
          refine wp_region_lit ?_
          refine wpList_run (v := .bool false) (wanted_none rfl) (gx_assign rfl rfl) ?_
          simp only [Act.put, List.setIfInBounds_toArray, List.set_cons_zero, List.set_cons_succ]
          go_wp2_with fail
          go_ret
          rw [decide_eq_false (show ¬ Rt.toOk m zs from HNO.out)]
          exact ⟨rfl, HTR.out⟩
        · have hin : (zs.take i).contains z = false := by simpa using hin
          have HNE := Lib.hid (show ∀ k x, k < i → zs[k]? = some x → x ≠ z from fun k x hk hx e => by
            subst e
            have : x ∈ zs.take i := List.mem_iff_getElem?.2 ⟨k, by rw [List.getElem?_take, if_pos hk]; exact hx⟩
            rw [List.contains_iff_mem.2 this] at hin
            cases hin)
          rw [hin] at HCT
          clear hin
          go_upto_region 6 with fail
          refine wp_region_lit ?_
          refine wpList_run (v := .int .i64 z) (wanted_none rfl) (exec_move rfl rfl) ?_
          simp only [Act.put, List.setIfInBounds_toArray, List.set_cons_zero, List.set_cons_succ]
          refine wpList_run (v := .bool false) (wanted_none rfl) (ix_lss rfl rfl rfl (decide_eq_false (by omega))) ?_
          simp only [Act.put, List.setIfInBounds_toArray, List.set_cons_zero, List.set_cons_succ]
          refine wpList_run (v := .bool false) (wanted_none rfl) (exec_move rfl rfl) ?_
          simp only [Act.put, List.setIfInBounds_toArray, List.set_cons_zero, List.set_cons_succ]
          refine wpList_run (v := .int .i64 z) rfl (exec_move rfl rfl) ?_
          simp only [Act.put, List.setIfInBounds_toArray, List.set_cons_zero, List.set_cons_succ]
          refine wpList_run (v := .pointer (some ⟨t, 0, none⟩)) rfl (exec_move rfl rfl) ?_
          simp only [Act.put, List.setIfInBounds_toArray, List.set_cons_zero, List.set_cons_succ]
          refine wpList_run (v := .pointer (some ⟨t, 0, none⟩)) rfl (exec_nil rfl rfl) ?_
          simp only [Act.put, List.setIfInBounds_toArray, List.set_cons_zero, List.set_cons_succ]
          refine wpList_run (v := .pointer (some ⟨t, 0, none⟩)) rfl (exec_field (off := 0) (d := 0) rfl rfl (by kernel_rfl)) ?_
          simp only [Act.put, List.setIfInBounds_toArray, List.set_cons_zero, List.set_cons_succ]
          refine wpList_run (v := .int .i64 m) rfl (exec_load1 rfl rfl (by kernel_rfl) (HBW.out.cell 0)) ?_
          simp only [Act.put, List.setIfInBounds_toArray, List.set_cons_zero, List.set_cons_succ]
          refine wpList_run (v := .bool false) rfl (ix_geq rfl rfl rfl (decide_eq_false (by omega))) ?_
          simp only [Act.put, List.setIfInBounds_toArray, List.set_cons_zero, List.set_cons_succ]
          refine wpList_run (v := .bool false) (wanted_none rfl) (ix_pickF rfl rfl rfl) ?_
          simp only [Act.put, List.setIfInBounds_toArray, List.set_cons_zero, List.set_cons_succ]
          refine wpList_run (v := .bool false) (wanted_none rfl) (exec_move rfl rfl) ?_
          simp only [Act.put, List.setIfInBounds_toArray, List.set_cons_zero, List.set_cons_succ]
          refine wpList_run (v := .slice (some ⟨b1, o1, none⟩) n c) rfl (exec_move rfl rfl) ?_
          simp only [Act.put, List.setIfInBounds_toArray, List.set_cons_zero, List.set_cons_succ]
          refine wpList_run (v := .int .i64 (i : Int)) rfl (exec_move rfl rfl) ?_
          simp only [Act.put, List.setIfInBounds_toArray, List.set_cons_zero, List.set_cons_succ]
          refine wpList_run (v := .slice (some ⟨b1, o1, none⟩) i c) rfl (exec_slice rfl rfl rfl rfl rfl (sl_to elmI (some ⟨b1, o1, none⟩) n c i (by have := HLT.out; have := HLE.out; omega) _)) ?_
          simp only [Act.put, List.setIfInBounds_toArray, List.set_cons_zero, List.set_cons_succ]
          refine wpList_run (v := .int .i64 z) rfl (exec_move rfl rfl) ?_
          simp only [Act.put, List.setIfInBounds_toArray, List.set_cons_zero, List.set_cons_succ]
          refine wpList_op (by go_simp) fun K9 HK9 => ?_
          go_wp2_with fail
          refine (HCT.out).mono ?_
          rintro e w3 ⟨rfl, rfl⟩
          refine HK9.out _ _ ?_
          clear HK9
          try simp only [Act.put, List.setIfInBounds_toArray, List.set_cons_zero, List.set_cons_succ]
          refine wpList_run (v := .bool false) (wanted_none rfl) (ix_pickF rfl rfl rfl) ?_
          simp only [Act.put, List.setIfInBounds_toArray, List.set_cons_zero, List.set_cons_succ]
          go_upto_region 8 with fail
          refine wp_region_lit ?_
          refine wpList_run (v := .int .i64 ((i + 1 : Nat) : Int)) (wanted_none rfl) (ix_add rfl rfl rfl (by omega) (by omega)) ?_
          simp only [Act.put, List.setIfInBounds_toArray, List.set_cons_zero, List.set_cons_succ]
          refine wpList_run (v := .int .i64 ((i + 1 : Nat) : Int)) (wanted_none rfl) (exec_move rfl rfl) ?_
          simp only [Act.put, List.setIfInBounds_toArray, List.set_cons_zero, List.set_cons_succ]
          go_wp2_with fail
          go_roundg (n - (i + 1))
          case measure => have := HGK.out; have := HLT.out; omega
          case rel => exact ⟨i + 1, rfl, by have := HLT.out; omega, to_next HTO.out HZ.out HZM.out HNE.out, HTR.out⟩
    · obtain rfl : n = i := by have := HGK.out; omega
      have HYES := Lib.hid (show Rt.toOk m zs from to_of (by have := HA.out.len; have := HN6.out; omega) (by rw [← HA.out.len]; exact HTO.out))
      clear hlt
      go_upto_region 4 with fail
      refine wp_region_lit ?_
      refine wpList_run (v := .bool false) (wanted_none rfl) (ix_lss rfl rfl rfl (decide_eq_false (by omega))) ?_
      simp only [Act.put, List.setIfInBounds_toArray, List.set_cons_zero, List.set_cons_succ]
      go_upto_region 9 with fail
      refine wp_region_lit ?_
      refine wpList_run (v := .bool true) (wanted_none rfl) (gx_assign rfl rfl) ?_
      simp only [Act.put, List.setIfInBounds_toArray, List.set_cons_zero, List.set_cons_succ]
      go_wp2_with fail
      go_ret
      rw [decide_eq_true HYES.out]
      exact ⟨rfl, HTR.out⟩
end Go.Proofs.Ytihmpbilbnajpaa
