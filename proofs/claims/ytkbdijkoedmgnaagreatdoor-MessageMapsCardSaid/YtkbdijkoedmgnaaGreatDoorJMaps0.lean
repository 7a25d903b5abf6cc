/-
  Several texts in one file, in their order:
  - Messages in plain data: a field looked up, and set. No conditions; nothing of the program.
  - message's Get, and the reference's. No conditions.
  - The map of dialect 2, bit by bit. Nothing of the program.
  - groatlaw05's MessageMaps: the walk. Conditions: the tables and the errors read as the program's text lays them.
  - PROOF: groatlaw05: for every input the law MessageMaps returns true, and each argument reads as it did. Its conditions are the row's own cells (the listed variables read as the program's text lays them: the card ties them).
-/
import Derived.Test.YtkbdijkoedmgnaaGreatDoorJa0
import Derived.Test.YtkbdijkoedmgnaaGreatDoorJa3
import Derived.Test.YtkbdijkoedmgnaaGreatDoorJa2
import Derived.Test.YtkbdijkoedmgnaaGreatDoorCards
import Derived.Test.YtkbdijkoedmgnaaGreatDoorTie
import Derived.Test.YtkbdijkoedmgnaaGreatDoorJa4
import Derived.WalkKit
import Derived.ProofKit
import Derived.OpenShut
import Derived.ShutString
import Derived.ChangeOld
import Derived.Below
import Derived.SizedLaws
import Derived.LaidMore
import Derived.Deep.DeepHandedRow
import Derived.Deep.DeepWitnessRowRef
import Derived.Lib.LaidTab
import Derived.Lib.SmallJoins
namespace Go.Proofs.YtkbdijkoedmgnaaGreatDoor.Fdd
set_option linter.unusedVariables false
def getM (no : Int) : List Fld → Option (List UInt8)
  | [] => none
  | f :: r => if f.1 = no then some f.2 else getM no r
def others (no : Int) (fs : List Fld) : List Fld := fs.filter fun f => f.1 != no
def insM (x : Fld) : List Fld → List Fld
  | [] => [x]
  | f :: r => if x.1 < f.1 then x :: f :: r else f :: insM x r
def setM (no : Int) (t : List UInt8) (fs : List Fld) : List Fld := insM (no, t) (others no fs)
def rsetM (no : Int) (t : List UInt8) : Bool → List Fld → List Fld
  | done, [] => if done = true then [] else [(no, t)]
  | done, f :: r => if f.1 = no then rsetM no t done r else if no < f.1 ∧ done = false then (no, t) :: f :: rsetM no t true r else f :: rsetM no t done r
theorem rset_done (no : Int) (t : List UInt8) : ∀ fs, rsetM no t true fs = others no fs
  | [] => rfl
  | f :: r => by
    unfold rsetM others
    by_cases h : f.1 = no
    · rw [if_pos h, List.filter_cons_of_neg (by simp [h]), rset_done no t r]
      rfl
    · rw [if_neg h, if_neg (by simp), List.filter_cons_of_pos (by simp [h]), rset_done no t r]
      rfl
theorem rset_set (no : Int) (t : List UInt8) : ∀ fs, rsetM no t false fs = setM no t fs
  | [] => rfl
  | f :: r => by
    unfold rsetM setM others
    by_cases h : f.1 = no
    · rw [if_pos h, List.filter_cons_of_neg (by simp [h]), rset_set no t r]
      rfl
    · rw [if_neg h, List.filter_cons_of_pos (by simp [h])]
      unfold insM
      by_cases h2 : no < f.1
      · rw [if_pos ⟨h2, rfl⟩, if_pos h2, rset_done]
        rfl
      · rw [if_neg (fun h => h2 h.1), if_neg h2, rset_set no t r]
        rfl
theorem get_ins (no : Int) (t : List UInt8) : ∀ l : List Fld, (∀ f ∈ l, f.1 ≠ no) → getM no (insM (no, t) l) = some t
  | [], _ => by simp [insM, getM]
  | f :: r, h => by
    unfold insM
    split
    · unfold getM
      rw [if_pos rfl]
    · unfold getM
      rw [if_neg (h f (List.mem_cons_self ..)), get_ins no t r fun x hx => h x (List.mem_cons_of_mem _ hx)]
theorem get_set (no : Int) (t : List UInt8) (fs : List Fld) : getM no (setM no t fs) = some t := get_ins no t _ fun f hf => by
  have := (List.mem_filter.1 hf).2
  simpa using this
/-- where a field goes: ahead of the first one with a greater number -/
def atM (no : Int) : List Fld → Nat
  | [] => 0
  | f :: r => if no < f.1 then 0 else atM no r + 1
theorem ins_at (no : Int) (t : List UInt8) : ∀ l : List Fld, insM (no, t) l = l.take (atM no l) ++ (no, t) :: l.drop (atM no l)
  | [] => rfl
  | f :: r => by
    unfold insM atM
    split
    · rfl
    · rw [ins_at no t r]
      rfl
theorem at_le (no : Int) : ∀ l : List Fld, atM no l ≤ l.length
  | [] => Nat.le_refl _
  | f :: r => by
    unfold atM
    have := at_le no r
    split
    · exact Nat.zero_le _
    · rw [List.length_cons]
      omega
end Go.Proofs.YtkbdijkoedmgnaaGreatDoor.Fdd

namespace Go.Proofs.YtkbdijkoedmgnaaGreatDoor
open Go.RowKit
open Fdd
set_option linter.unusedVariables false
set_option linter.unusedSimpArgs false
def gotV (o : Option (List UInt8)) : Value := match o with
  | some t => .tuple #[strV t, .bool true]
  | none => .tuple #[strV [], .bool false]
theorem get_at {fs : List Fld} {no : Int} {j : Nat} {f : Fld} (hf : fs[j]? = some f) : getM no (fs.drop j) = if f.1 = no then some f.2 else getM no (fs.drop (j + 1)) := by
  obtain ⟨hj, e⟩ := List.getElem?_eq_some_iff.1 hf
  rw [List.drop_eq_getElem_cons hj, e]
  rfl
set_option maxRecDepth 20000 in
set_option maxHeartbeats 1000000 in
theorem Get_walk {w : World} {ty no : Int} {A : Option Addr} {n c : Nat} {fs : List Fld} (hf : Fl w A n fs) :
    Calls Tryz.prog 23 #[msgV ty A n c, .int .i64 no] w fun e w' => e = .returned (gotV (getM no fs)) ∧ Turn nowhere w w' := by
  have HF := Lib.hid hf
  have HNL := Lib.hid hf.1
  have y9 : (n : Int) ≤ 140737488355328 := by
    have := hf.2.1
    omega
  clear hf
  unfold msgV
  go_enter Tryz.func23, Tryz.ntmps23
  go_upto_region 1 with fail
  have hb0 := Blk.new w 31 #[.int .i64 ty, .slice A n c]
  have hu0 := (Turn.refl nowhere w).alloc (.cells #[.int .i64 ty, .slice A n c] 31)
  obtain ⟨gm, hg0⟩ : ∃ g, g = w.heap.size := ⟨_, rfl⟩
  rw [← hg0] at hb0 ⊢
  clear hg0
  generalize w.alloc (.cells #[.int .i64 ty, .slice A n c] 31) = w1 at *
  have HBgm := Lib.hid hb0
  have HT0 := Lib.hid hu0
  clear hb0 hu0
  refine wp_region_lit ?_
  refine wpList_run (v := .pointer (some ⟨gm, 1, none⟩)) rfl (exec_field (off := 0) (d := 1) rfl rfl (by kernel_rfl)) ?_
  simp only [Act.put, List.setIfInBounds_toArray, List.set_cons_zero, List.set_cons_succ]
  refine wpList_run (v := .slice A n c) rfl (exec_load1 rfl rfl (by kernel_rfl) (HBgm.out.cell 1)) ?_
  simp only [Act.put, List.setIfInBounds_toArray, List.set_cons_zero, List.set_cons_succ]
  refine wpList_run (v := .int .i64 (n : Int)) rfl (gx_len rfl rfl Tryz.underlying29) ?_
  simp only [Act.put, List.setIfInBounds_toArray, List.set_cons_zero, List.set_cons_succ]
  refine wpList_run (v := .int .i64 0) rfl (exec_move rfl rfl) ?_
  simp only [Act.put, List.setIfInBounds_toArray, List.set_cons_zero, List.set_cons_succ]
  go_wp2_with fail
  go_loopg [11] n (fun gk jv wr => ∃ j : Nat, j + gk = n ∧ jv = .int .i64 (j : Int) ∧ Turn nowhere w1 wr ∧ getM no (fs.drop j) = getM no fs)
  case atStart => exact ⟨0, by omega, rfl, Turn.refl _ _, rfl⟩
  obtain ⟨j, hjl, rfl, htr, hgm⟩ := hrel
  have HJL := Lib.hid hjl
  have HTR := Lib.hid htr
  have HGM := Lib.hid hgm
  clear hjl htr hgm
  go_upto_region 2 with fail
  refine wp_region_lit ?_
  by_cases hlt : j < n
  · have HLT := Lib.hid hlt
    have y1 : (j : Int) < (n : Int) := by omega
    obtain ⟨bF, oF, rfl, hr⟩ := HF.out.2.2 (by omega)
    obtain ⟨f, hf⟩ : ∃ f, fs[j]? = some f := ⟨_, List.getElem?_eq_getElem (show j < fs.length from by rw [HNL.out]; exact hlt)⟩
    have HRR := Lib.hid (show wr.rangeAt bF (oF + j * 2) (fldA f).toList from fun i v hv => ((HT0.out.trans HTR.out (fun _ _ e => e)).cell (World.block_lt_of_cell? _ _ (hr j f hf i v hv)) (fun e => e)).trans (hr j f hf i v hv))
    have HGA := Lib.hid (get_at (no := no) hf)
    clear hr hf hlt
    refine wpList_run (v := .bool true) rfl (ix_lss rfl rfl rfl (decide_eq_true y1)) ?_
    simp only [Act.put, List.setIfInBounds_toArray, List.set_cons_zero, List.set_cons_succ]
    go_upto_region 3 with fail
    refine wp_region_lit ?_
    refine wpList_run (v := .pointer (some ⟨bF, oF + j * 2, none⟩)) rfl (gx_iaddr (i := j) (sz := 2) rfl rfl rfl Tryz.underlying29 size_field HLT.out (by omega)) ?_
    simp only [Act.put, List.setIfInBounds_toArray, List.set_cons_zero, List.set_cons_succ]
    refine wpList_run (v := .agg (fldA f)) rfl (gx_loads rfl rfl HRR.out Tryz.underlying46 rfl (by rw [size_field]; rfl)) ?_
    simp only [Act.put, List.setIfInBounds_toArray, List.set_cons_zero, List.set_cons_succ]
    refine wpList_new 46 (.tmp 7) (.tmp 14) (fldA f) rfl rfl (zero_field _) rfl rfl rfl rfl rfl rfl (by rw [size_field]; rfl) (fldA_one f) ?_
    intro w3 g7 _ hbx hux
    simp only [Act.put, List.setIfInBounds_toArray, List.set_cons_zero, List.set_cons_succ]
    have HB7 := Lib.hid hbx
    have HT7 := Lib.hid hux
    clear hbx hux HRR
    go_upto_region 4 with fail
    refine wp_region_lit ?_
    refine wpList_run (v := .pointer (some ⟨g7, 0, none⟩)) rfl (exec_field (off := 0) (d := 0) rfl rfl (by kernel_rfl)) ?_
    simp only [Act.put, List.setIfInBounds_toArray, List.set_cons_zero, List.set_cons_succ]
    refine wpList_run (v := .int .i64 f.1) rfl (exec_load1 rfl rfl (by kernel_rfl) (HB7.out.cell 0)) ?_
    simp only [Act.put, List.setIfInBounds_toArray, List.set_cons_zero, List.set_cons_succ]
    refine wpList_run (v := .int .i64 no) rfl (exec_move rfl rfl) ?_
    simp only [Act.put, List.setIfInBounds_toArray, List.set_cons_zero, List.set_cons_succ]
    by_cases heq : f.1 = no
    · refine wpList_run (v := .bool true) rfl (ix_eql rfl rfl rfl (decide_eq_true heq)) ?_
      simp only [Act.put, List.setIfInBounds_toArray, List.set_cons_zero, List.set_cons_succ]
      go_upto_region 5 with fail
      refine wp_region_lit ?_
      refine wpList_run (v := .pointer (some ⟨g7, 1, none⟩)) rfl (exec_field (off := 0) (d := 1) rfl rfl (by kernel_rfl)) ?_
      simp only [Act.put, List.setIfInBounds_toArray, List.set_cons_zero, List.set_cons_succ]
      refine wpList_run (v := strV f.2) rfl (exec_load1 rfl rfl (by kernel_rfl) (HB7.out.cell 1)) ?_
      simp only [Act.put, List.setIfInBounds_toArray, List.set_cons_zero, List.set_cons_succ]
      refine wpList_run (v := strV f.2) rfl (gx_assign rfl rfl) ?_
      simp only [Act.put, List.setIfInBounds_toArray, List.set_cons_zero, List.set_cons_succ]
      refine wpList_run (v := .bool true) rfl (gx_assign rfl rfl) ?_
      simp only [Act.put, List.setIfInBounds_toArray, List.set_cons_zero, List.set_cons_succ]
      have HG2 := Lib.hid (show getM no fs = some f.2 from by rw [← HGM.out, HGA.out, if_pos heq])
      clear heq
      go_wp2_with fail
      go_ret2
      rw [HG2.out]
      exact ⟨rfl, (HT0.out.trans HTR.out (fun _ _ e => e)).trans HT7.out (fun _ _ e => e)⟩
    · refine wpList_run (v := .bool false) rfl (ix_eql rfl rfl rfl (decide_eq_false heq)) ?_
      simp only [Act.put, List.setIfInBounds_toArray, List.set_cons_zero, List.set_cons_succ]
      have HG2 := Lib.hid (show getM no (fs.drop (j + 1)) = getM no fs from by rw [← HGM.out, HGA.out, if_neg heq])
      clear heq
      go_wp2_with fail
      go_roundg (gk - 1)
      case measure => have := HJL.out; have := HLT.out; omega
      case rel => exact ⟨j + 1, by have := HJL.out; have := HLT.out; omega, by go_num, HTR.out.trans HT7.out (fun _ _ e => e), HG2.out⟩
  · refine wpList_run (v := .bool false) rfl (ix_lss rfl rfl rfl (decide_eq_false (by omega))) ?_
    simp only [Act.put, List.setIfInBounds_toArray, List.set_cons_zero, List.set_cons_succ]
    have HGN := Lib.hid (show getM no fs = none from by
      rw [← HGM.out, List.drop_eq_nil_of_le (by rw [HNL.out]; omega)]
      rfl)
    clear hlt
    go_wp2_with fail
    go_ret2
    rw [HGN.out]
    exact ⟨rfl, HT0.out.trans HTR.out (fun _ _ e => e)⟩
set_option maxRecDepth 20000 in
set_option maxHeartbeats 1000000 in
theorem rGet_walk {w : World} {ty no : Int} {A : Option Addr} {n c : Nat} {fs : List Fld} (hf : Fl w A n fs) :
    Calls Tryz.prog 24 #[msgV ty A n c, .int .i64 no] w fun e w' => e = .returned (gotV (getM no fs)) ∧ Turn nowhere w w' := by
  have HF := Lib.hid hf
  have HNL := Lib.hid hf.1
  have y9 : (n : Int) ≤ 140737488355328 := by
    have := hf.2.1
    omega
  clear hf
  unfold msgV
  go_enter Tryz.func24, Tryz.ntmps24
  go_upto_region 1 with fail
  have hb0 := Blk.new w 31 #[.int .i64 ty, .slice A n c]
  have hu0 := (Turn.refl nowhere w).alloc (.cells #[.int .i64 ty, .slice A n c] 31)
  obtain ⟨gm, hg0⟩ : ∃ g, g = w.heap.size := ⟨_, rfl⟩
  rw [← hg0] at hb0 ⊢
  clear hg0
  generalize w.alloc (.cells #[.int .i64 ty, .slice A n c] 31) = w1 at *
  have HBgm := Lib.hid hb0
  have HT0 := Lib.hid hu0
  clear hb0 hu0
  refine wp_region_lit ?_
  refine wpList_run (v := .int .i64 0) rfl (gx_assign rfl rfl) ?_
  simp only [Act.put, List.setIfInBounds_toArray, List.set_cons_zero, List.set_cons_succ]
  go_wp2_with fail
  go_loopg [6] n (fun gk jv wr => ∃ j : Nat, j + gk = n ∧ jv = .int .i64 (j : Int) ∧ Turn nowhere w1 wr ∧ getM no (fs.drop j) = getM no fs)
  case atStart => exact ⟨0, by omega, rfl, Turn.refl _ _, rfl⟩
  obtain ⟨j, hjl, rfl, htr, hgm⟩ := hrel
  have HJL := Lib.hid hjl
  have HTR := Lib.hid htr
  have HGM := Lib.hid hgm
  clear hjl htr hgm
  have HB2 := Lib.hid (HBgm.out.turn HTR.out (fun e => e))
  go_upto_region 2 with fail
  refine wp_region_lit ?_
  refine wpList_run (v := .int .i64 (j : Int)) rfl (exec_move rfl rfl) ?_
  simp only [Act.put, List.setIfInBounds_toArray, List.set_cons_zero, List.set_cons_succ]
  refine wpList_run (v := .pointer (some ⟨gm, 1, none⟩)) rfl (exec_field (off := 0) (d := 1) rfl rfl (by kernel_rfl)) ?_
  simp only [Act.put, List.setIfInBounds_toArray, List.set_cons_zero, List.set_cons_succ]
  refine wpList_run (v := .slice A n c) rfl (exec_load1 rfl rfl (by kernel_rfl) (HB2.out.cell 1)) ?_
  simp only [Act.put, List.setIfInBounds_toArray, List.set_cons_zero, List.set_cons_succ]
  refine wpList_run (v := .int .i64 (n : Int)) rfl (gx_len rfl rfl Tryz.underlying29) ?_
  simp only [Act.put, List.setIfInBounds_toArray, List.set_cons_zero, List.set_cons_succ]
  by_cases hlt : j < n
  · have HLT := Lib.hid hlt
    have y1 : (j : Int) < (n : Int) := by omega
    obtain ⟨bF, oF, rfl, hr⟩ := HF.out.2.2 (by omega)
    obtain ⟨f, hf⟩ : ∃ f, fs[j]? = some f := ⟨_, List.getElem?_eq_getElem (show j < fs.length from by rw [HNL.out]; exact hlt)⟩
    have HRR := Lib.hid (show wr.rangeAt bF (oF + j * 2) (fldA f).toList from fun i v hv => ((HT0.out.trans HTR.out (fun _ _ e => e)).cell (World.block_lt_of_cell? _ _ (hr j f hf i v hv)) (fun e => e)).trans (hr j f hf i v hv))
    have HGA := Lib.hid (get_at (no := no) hf)
    clear hr hf hlt
    refine wpList_run (v := .bool true) rfl (ix_lss rfl rfl rfl (decide_eq_true y1)) ?_
    simp only [Act.put, List.setIfInBounds_toArray, List.set_cons_zero, List.set_cons_succ]
    go_upto_region 4 with fail
    refine wp_region_lit ?_
    refine wpList_run (v := .pointer (some ⟨gm, 1, none⟩)) rfl (exec_field (off := 0) (d := 1) rfl rfl (by kernel_rfl)) ?_
    simp only [Act.put, List.setIfInBounds_toArray, List.set_cons_zero, List.set_cons_succ]
    refine wpList_run (v := .slice (some ⟨bF, oF, none⟩) n c) rfl (exec_load1 rfl rfl (by kernel_rfl) (HB2.out.cell 1)) ?_
    simp only [Act.put, List.setIfInBounds_toArray, List.set_cons_zero, List.set_cons_succ]
    refine wpList_run (v := .int .i64 (j : Int)) rfl (exec_move rfl rfl) ?_
    simp only [Act.put, List.setIfInBounds_toArray, List.set_cons_zero, List.set_cons_succ]
    refine wpList_run (v := .pointer (some ⟨bF, oF + j * 2, none⟩)) rfl (gx_iaddr (i := j) (sz := 2) rfl rfl rfl Tryz.underlying29 size_field HLT.out (by omega)) ?_
    simp only [Act.put, List.setIfInBounds_toArray, List.set_cons_zero, List.set_cons_succ]
    refine wpList_run (v := .pointer (some ⟨bF, oF + j * 2, none⟩)) rfl (exec_field (off := oF + j * 2) (d := 0) rfl rfl (by kernel_rfl)) ?_
    simp only [Act.put, List.setIfInBounds_toArray, List.set_cons_zero, List.set_cons_succ]
    refine wpList_run (v := .int .i64 f.1) rfl (exec_load1 rfl rfl (by kernel_rfl) (HRR.out 0 _ rfl)) ?_
    simp only [Act.put, List.setIfInBounds_toArray, List.set_cons_zero, List.set_cons_succ]
    refine wpList_run (v := .int .i64 no) rfl (exec_move rfl rfl) ?_
    simp only [Act.put, List.setIfInBounds_toArray, List.set_cons_zero, List.set_cons_succ]
    by_cases heq : f.1 = no
    · refine wpList_run (v := .bool true) rfl (ix_eql rfl rfl rfl (decide_eq_true heq)) ?_
      simp only [Act.put, List.setIfInBounds_toArray, List.set_cons_zero, List.set_cons_succ]
      go_upto_region 5 with fail
      refine wp_region_lit ?_
      refine wpList_run (v := .pointer (some ⟨gm, 1, none⟩)) rfl (exec_field (off := 0) (d := 1) rfl rfl (by kernel_rfl)) ?_
      simp only [Act.put, List.setIfInBounds_toArray, List.set_cons_zero, List.set_cons_succ]
      refine wpList_run (v := .slice (some ⟨bF, oF, none⟩) n c) rfl (exec_load1 rfl rfl (by kernel_rfl) (HB2.out.cell 1)) ?_
      simp only [Act.put, List.setIfInBounds_toArray, List.set_cons_zero, List.set_cons_succ]
      refine wpList_run (v := .int .i64 (j : Int)) rfl (exec_move rfl rfl) ?_
      simp only [Act.put, List.setIfInBounds_toArray, List.set_cons_zero, List.set_cons_succ]
      refine wpList_run (v := .pointer (some ⟨bF, oF + j * 2, none⟩)) rfl (gx_iaddr (i := j) (sz := 2) rfl rfl rfl Tryz.underlying29 size_field HLT.out (by omega)) ?_
      simp only [Act.put, List.setIfInBounds_toArray, List.set_cons_zero, List.set_cons_succ]
      refine wpList_run (v := .pointer (some ⟨bF, oF + j * 2 + 1, none⟩)) rfl (exec_field (off := oF + j * 2) (d := 1) rfl rfl (by kernel_rfl)) ?_
      simp only [Act.put, List.setIfInBounds_toArray, List.set_cons_zero, List.set_cons_succ]
      refine wpList_run (v := strV f.2) rfl (exec_load1 rfl rfl (by kernel_rfl) (HRR.out 1 _ rfl)) ?_
      simp only [Act.put, List.setIfInBounds_toArray, List.set_cons_zero, List.set_cons_succ]
      refine wpList_run (v := strV f.2) rfl (gx_assign rfl rfl) ?_
      simp only [Act.put, List.setIfInBounds_toArray, List.set_cons_zero, List.set_cons_succ]
      refine wpList_run (v := .bool true) rfl (gx_assign rfl rfl) ?_
      simp only [Act.put, List.setIfInBounds_toArray, List.set_cons_zero, List.set_cons_succ]
      have HG2 := Lib.hid (show getM no fs = some f.2 from by rw [← HGM.out, HGA.out, if_pos heq])
      clear heq
      go_wp2_with fail
      go_ret2
      rw [HG2.out]
      exact ⟨rfl, HT0.out.trans HTR.out (fun _ _ e => e)⟩
    · refine wpList_run (v := .bool false) rfl (ix_eql rfl rfl rfl (decide_eq_false heq)) ?_
      simp only [Act.put, List.setIfInBounds_toArray, List.set_cons_zero, List.set_cons_succ]
      have HG2 := Lib.hid (show getM no (fs.drop (j + 1)) = getM no fs from by rw [← HGM.out, HGA.out, if_neg heq])
      clear heq
      go_wp2_with fail
      go_roundg (gk - 1)
      case measure => have := HJL.out; have := HLT.out; omega
      case rel => exact ⟨j + 1, by have := HJL.out; have := HLT.out; omega, by go_num, HTR.out, HG2.out⟩
  · refine wpList_run (v := .bool false) rfl (ix_lss rfl rfl rfl (decide_eq_false (by omega))) ?_
    simp only [Act.put, List.setIfInBounds_toArray, List.set_cons_zero, List.set_cons_succ]
    have HGN := Lib.hid (show getM no fs = none from by
      rw [← HGM.out, List.drop_eq_nil_of_le (by rw [HNL.out]; omega)]
      rfl)
    clear hlt
    go_wp2_with fail
    go_ret2
    rw [HGN.out]
    exact ⟨rfl, HT0.out.trans HTR.out (fun _ _ e => e)⟩
end Go.Proofs.YtkbdijkoedmgnaaGreatDoor

namespace Go.Proofs.YtkbdijkoedmgnaaGreatDoor.Fdd
set_option linter.unusedVariables false
theorem gd_left {a b : List UInt8} {i : Nat} (h : i < a.length) : (a ++ b).getD i 0 = a.getD i 0 := by simp [List.getD, List.getElem?_append_left h]
theorem gd_right {a b : List UInt8} {i : Nat} (h : a.length ≤ i) : (a ++ b).getD i 0 = b.getD (i - a.length) 0 := by simp [List.getD, List.getElem?_append_right h]
theorem mapPut_t (t : List UInt8) : (mapFm 2).put t = pack hexs (padded (t.take 16)) ++ [] := rfl
/-- a number's lowest k bytes, the highest first -/
def be : Nat → Nat → List UInt8
  | 0, _ => []
  | k + 1, n => be k (n / 256) ++ [UInt8.ofNat (n % 256)]
theorem be_len : ∀ (k n : Nat), (be k n).length = k
  | 0, _ => rfl
  | k + 1, n => by rw [be, List.length_append, be_len k]; rfl
theorem be_at : ∀ (k n i : Nat), i < k → ((be k n).getD i 0).toNat = n / 256 ^ (k - 1 - i) % 256
  | 0, _, _, h => absurd h (Nat.not_lt_zero _)
  | k + 1, n, i, h => by
    rw [be]
    by_cases hi : i < k
    · rw [gd_left (by rw [be_len]; exact hi), be_at k _ i hi, Nat.div_div_eq_div_mul]
      congr 2
      rw [show k + 1 - 1 - i = (k - 1 - i) + 1 from by omega, Nat.pow_succ, Nat.mul_comm]
    · obtain rfl : i = k := by omega
      rw [gd_right (by rw [be_len]; exact Nat.le_refl _), be_len, Nat.sub_self, Nat.add_sub_cancel, Nat.sub_self]
      show (UInt8.ofNat (n % 256)).toNat = _
      rw [UInt8.toNat_ofNat']
      simp
theorem pack_snoc (cs : List UInt8) (a b : UInt8) : ∀ l : List UInt8, l.length % 2 = 0 → pack cs (l ++ [a, b]) = pack cs l ++ [UInt8.ofNat (16 * cs.idxOf a + cs.idxOf b)]
  | [], _ => rfl
  | [_], h => by simp at h
  | x :: y :: l, h => by
    show UInt8.ofNat _ :: pack cs (l ++ [a, b]) = _
    rw [pack_snoc cs a b l (by simp only [List.length_cons] at h; omega)]
    rfl
theorem pack_hexk : ∀ (k n : Nat), pack hexs (hexk (2 * k) n) = be k n
  | 0, _ => rfl
  | k + 1, n => by
    rw [show 2 * (k + 1) = (2 * k + 1) + 1 from by omega, hexk, hexk, List.append_assoc]
    show pack hexs (hexk (2 * k) (n / 16 / 16) ++ [hexs.getD (n / 16 % 16) 0, hexs.getD (n % 16) 0]) = _
    rw [pack_snoc _ _ _ _ (by rw [hexk_len]; omega), pack_hexk k, (hex_idx (Nat.mod_lt (n / 16) (by decide))).1, (hex_idx (Nat.mod_lt n (by decide))).1, be, Nat.div_div_eq_div_mul]
    congr 2
    rw [show 16 * (n / 16 % 16) + n % 16 = n % 256 from by omega]
theorem mapPut2 (h : Nat) : (mapFm 2).put (hexk 16 h) = be 8 h := by
  have hl : (hexk 16 h).take 16 = hexk 16 h := List.take_of_length_le (by rw [hexk_len]; exact Nat.le_refl _)
  rw [mapPut_t, List.append_nil, hl]
  unfold padded
  rw [if_neg (by rw [hexk_len]; decide)]
  exact pack_hexk 8 h
theorem type2_len {ty : Int} (h : mtypes.contains ty = true) : ((typeFm 2).put (ver 2 ++ dig3 ty.toNat)).length = 2 := by
  have : ∀ t ∈ mtypes, ((typeFm 2).put (ver 2 ++ dig3 t.toNat)).length = 2 := by decide +kernel
  exact this ty (by simpa using h)
/-- a bit of a byte of the map -/
theorem be_bit (h i r : Nat) (hi : i < 8) (hr : r < 8) : ((be 8 h).getD i 0).toNat / 2 ^ (7 - r) % 2 = 1 ↔ h.testBit (63 - (8 * i + r)) = true := by
  rw [be_at 8 h i hi]
  have e : (h / 256 ^ (8 - 1 - i) % 256).testBit (7 - r) = h.testBit (63 - (8 * i + r)) := by
    rw [show (256 : Nat) = 2 ^ 8 from rfl, Nat.testBit_mod_two_pow, ← Nat.pow_mul, Nat.testBit_div_two_pow, decide_eq_true (show 7 - r < 8 by omega), Bool.true_and]
    congr 1
    omega
  rw [← e, Nat.testBit_eq_decide_div_mod_eq]
  simp
theorem get_some {no : Int} : ∀ {fs : List Fld}, (getM no fs).isSome = true ↔ ∃ f ∈ fs, f.1 = no
  | [] => by simp [getM]
  | f :: r => by
    unfold getM
    by_cases h : f.1 = no
    · rw [if_pos h]
      simp [h]
    · rw [if_neg h, get_some (fs := r)]
      simp [h]
/-- the bit of a number in a message's bytes, in dialect 2 -/
def bit2 (b : List UInt8) (no : Nat) : Bool := (b.getD (2 + (no - 1) / 8) 0).toNat / 2 ^ (7 - (no - 1) % 8) % 2 == 1
theorem maps2 {ty : Int} {fs : List Fld} {b : List UInt8} (h : mencode 2 ty fs = .ok b) :
    ∃ bits, (bits = 64 ∨ bits = 128) ∧ (bits = 128 ↔ 128 ≤ (b.getD 2 0).toNat) ∧ 10 ≤ b.length ∧ 2 + bits / 8 ≤ b.length ∧ (∀ no, 2 ≤ no → no ≤ bits → bit2 b no = (getM (no : Int) fs).isSome) ∧ (bits = 128 → ∃ no, 64 < no ∧ no ≤ 128 ∧ bit2 b no = true) := by
  obtain ⟨_, ⟨hty, _, hgood, _⟩, rfl⟩ := mencode_ok.1 h
  have hn := (good_nos hgood).2
  have hw : wire (2 : Int).toNat ty fs = (typeFm 2).put (ver 2 ++ dig3 ty.toNat) ++ (mapPut 2 fs ++ body 2 fs) := rfl
  rw [hw]
  have hT := type2_len hty
  generalize (typeFm 2).put (ver 2 ++ dig3 ty.toNat) = T at *
  have key : ∀ (B : List UInt8) (j : Nat), (T ++ (B ++ body 2 fs)).getD (2 + j) 0 = (B ++ body 2 fs).getD j 0 := fun B j => by
    rw [gd_right (by omega), hT, Nat.add_sub_cancel_left]
  have h1lt := half1_lt hn
  have h2lt := half2_lt hn
  have b1 : ∀ no : Nat, 2 ≤ no → no ≤ 64 → ((half1 fs).testBit (64 - no) = true ↔ (getM (no : Int) fs).isSome = true) := fun no q1 q2 => by
    rw [bit_half1, get_some]
    constructor
    · rintro ⟨f, hf, hf1, hf2⟩
      have := hn f hf
      exact ⟨f, hf, by omega⟩
    · rintro ⟨f, hf, e⟩
      exact ⟨f, hf, by omega, by omega⟩
  have b2 : ∀ no : Nat, 64 < no → no ≤ 128 → ((half2 fs).testBit (128 - no) = true ↔ (getM (no : Int) fs).isSome = true) := fun no q1 q2 => by
    rw [bit_half2, get_some]
    constructor
    · rintro ⟨f, hf, hf1, hf2⟩
      have := hn f hf
      exact ⟨f, hf, by omega⟩
    · rintro ⟨f, hf, e⟩
      exact ⟨f, hf, by omega, by omega⟩
  have bb : ∀ {p q : Bool}, (p = true ↔ q = true) → p = q := fun {p q} h => by cases p <;> cases q <;> simp_all
  by_cases h0 : half2 fs = 0
  · have hm : mapPut 2 fs = be 8 (half1 fs) := by
      unfold mapPut halves
      rw [if_pos h0]
      show (mapFm 2).put (hexk 16 (half1 fs)) ++ [] = _
      rw [List.append_nil, mapPut2]
    rw [hm]
    have g1 : ∀ j, j < 8 → (T ++ (be 8 (half1 fs) ++ body 2 fs)).getD (2 + j) 0 = (be 8 (half1 fs)).getD j 0 := fun j hj => by
      rw [key, gd_left (by rw [be_len]; exact hj)]
    refine ⟨64, .inl rfl, ?_, ?_, ?_, fun no q1 q2 => ?_, fun h => by omega⟩
    · constructor
      · intro h; omega
      · intro h
        have e := g1 0 (by decide)
        rw [Nat.add_zero] at e
        rw [e] at h
        have h3 := be_bit (half1 fs) 0 0 (by decide) (by decide)
        have hx : ((be 8 (half1 fs)).getD 0 0).toNat < 256 := UInt8.toNat_lt _
        have h4 := h3.1 (by
          rw [show 2 ^ (7 - 0) = 128 from rfl]
          omega)
        have h5 := Nat.testBit_lt_two_pow h1lt
        rw [show 63 - (8 * 0 + 0) = 63 from rfl] at h4
        rw [h5] at h4
        cases h4
    · rw [List.length_append, List.length_append, be_len, hT]; omega
    · rw [List.length_append, List.length_append, be_len, hT]; omega
    · refine bb ?_
      unfold bit2
      rw [g1 _ (by omega)]
      simp only [beq_iff_eq]
      rw [be_bit _ _ _ (by omega) (Nat.mod_lt _ (by decide)), show 63 - (8 * ((no - 1) / 8) + (no - 1) % 8) = 64 - no from by omega]
      exact b1 no q1 q2
  · have hm : mapPut 2 fs = be 8 (half1 fs ||| 2 ^ 63) ++ be 8 (half2 fs) := by
      unfold mapPut halves
      rw [if_neg h0]
      show (mapFm 2).put (hexk 16 (half1 fs ||| 2 ^ 63)) ++ ((mapFm 2).put (hexk 16 (half2 fs)) ++ []) = _
      rw [List.append_nil, mapPut2, mapPut2]
    rw [hm, List.append_assoc]
    have g1 : ∀ j, j < 8 → (T ++ (be 8 (half1 fs ||| 2 ^ 63) ++ (be 8 (half2 fs) ++ body 2 fs))).getD (2 + j) 0 = (be 8 (half1 fs ||| 2 ^ 63)).getD j 0 := fun j hj => by
      rw [gd_right (by omega), hT, Nat.add_sub_cancel_left, gd_left (by rw [be_len]; exact hj)]
    have g2 : ∀ j, j < 8 → (T ++ (be 8 (half1 fs ||| 2 ^ 63) ++ (be 8 (half2 fs) ++ body 2 fs))).getD (2 + (8 + j)) 0 = (be 8 (half2 fs)).getD j 0 := fun j hj => by
      rw [gd_right (by omega), hT, Nat.add_sub_cancel_left, gd_right (by rw [be_len]; omega), be_len, Nat.add_sub_cancel_left, gd_left (by rw [be_len]; exact hj)]
    have s2 : ∀ no : Nat, 64 < no → no ≤ 128 → (bit2 (T ++ (be 8 (half1 fs ||| 2 ^ 63) ++ (be 8 (half2 fs) ++ body 2 fs))) no = true ↔ (half2 fs).testBit (128 - no) = true) := fun no q1 q2 => by
      unfold bit2
      obtain ⟨j, hj⟩ : ∃ j, (no - 1) / 8 = 8 + j := ⟨(no - 1) / 8 - 8, by omega⟩
      rw [hj, g2 j (by omega)]
      simp only [beq_iff_eq]
      rw [be_bit _ _ _ (by omega) (Nat.mod_lt _ (by decide)), show 63 - (8 * j + (no - 1) % 8) = 128 - no from by omega]
    refine ⟨128, .inr rfl, ?_, ?_, ?_, fun no q1 q2 => ?_, fun _ => ?_⟩
    · constructor
      · intro _
        have e := g1 0 (by decide)
        rw [Nat.add_zero] at e
        rw [e]
        have h3 := (be_bit (half1 fs ||| 2 ^ 63) 0 0 (by decide) (by decide)).2 (or_top h1lt).2.1
        rw [show 2 ^ (7 - 0) = 128 from rfl] at h3
        omega
      · intro _; rfl
    · simp only [List.length_append, be_len, hT]; omega
    · simp only [List.length_append, be_len, hT]; omega
    · refine bb ?_
      by_cases h64 : no ≤ 64
      · unfold bit2
        rw [g1 _ (by omega)]
        simp only [beq_iff_eq]
        rw [be_bit _ _ _ (by omega) (Nat.mod_lt _ (by decide)), show 63 - (8 * ((no - 1) / 8) + (no - 1) % 8) = 64 - no from by omega, Nat.testBit_or, Nat.testBit_two_pow_of_ne (by omega), Bool.or_false]
        exact b1 no q1 h64
      · exact (s2 no (by omega) q2).trans (b2 no (by omega) q2)
    · obtain ⟨i, hi⟩ := Nat.exists_testBit_of_ne_zero h0
      obtain ⟨f, hf, hf1, hf2⟩ := (bit_half2 fs i).1 hi
      have := hn f hf
      refine ⟨f.1.toNat, by omega, by omega, (s2 _ (by omega) (by omega)).2 ?_⟩
      rw [hf2]
      exact hi
end Go.Proofs.YtkbdijkoedmgnaaGreatDoor.Fdd

namespace Go.Proofs.YtkbdijkoedmgnaaGreatDoor
open Go.RowKit
open Fdd
set_option linter.unusedVariables false
set_option linter.unusedSimpArgs false
theorem u8_geq {a : Act} {o : Oper} {W : World} {x y : Operand} {i j : Int} {r : Bool} (ho : o.op = .binOp .geq 5 x y 5) (hx : a.eval x = .int .u8 i) (hy : a.eval y = .int .u8 j) (h : decide (j ≤ i) = r) : (execOp a.eval o).run Tryz.prog W = .ok (.value (.bool r)) W := by
  subst h
  unfold execOp
  simp only [ho, hx, hy]
  go_simp
theorem u8_eql {a : Act} {o : Oper} {W : World} {x y : Operand} {t u : TypeId} {i j : Int} {r : Bool} (ho : o.op = .binOp .eql t x y u) (hx : a.eval x = .int .u8 i) (hy : a.eval y = .int .u8 j) (h : decide (i = j) = r) : (execOp a.eval o).run Tryz.prog W = .ok (.value (.bool r)) W := by
  subst h
  unfold execOp
  simp [ho, hx, hy, eqGuard]
  go_simp
  by_cases hij : i = j <;> simp [hij]
theorem u8_rem2 {a : Act} {o : Oper} {W : World} {x : Operand} {n : Nat} (ho : o.op = .binOp .rem 5 x (.const (.int .u8 2)) 5) (hx : a.eval x = .int .u8 (n : Int)) : (execOp a.eval o).run Tryz.prog W = .ok (.value (.int .u8 ((n % 2 : Nat) : Int))) W := by
  unfold execOp
  simp only [ho, hx]
  go_simp
  exact Int.tmod_eq_emod_of_nonneg (by omega)
theorem u8_shr {a : Act} {o : Oper} {W : World} {x y : Operand} {u : TypeId} {n k : Nat} (ho : o.op = .binOp .shr 5 x y u) (hx : a.eval x = .int .u8 (n : Int)) (hy : a.eval y = .int .i64 (k : Int)) (hn : n < 256) (hk : k < 8) : (execOp a.eval o).run Tryz.prog W = .ok (.value (.int .u8 ((n / 2 ^ k : Nat) : Int))) W := by
  unfold execOp
  simp only [ho, hx, hy]
  have hc : k = 0 ∨ k = 1 ∨ k = 2 ∨ k = 3 ∨ k = 4 ∨ k = 5 ∨ k = 6 ∨ k = 7 := by omega
  rcases hc with rfl | rfl | rfl | rfl | rfl | rfl | rfl | rfl <;> go_simp
theorem bs_cell {w : World} {g o n : Nat} {l : List UInt8} (h : Bs w (some ⟨g, o, none⟩) n l) {i : Nat} (hi : i < n) : w.cell? ⟨g, o + i, none⟩ = some (.int .u8 ((l.getD i 0).toNat : Int)) := by
  obtain ⟨g', o', e, hc⟩ := h.2.2 (by omega)
  injection e with e
  injection e with e1 e2
  subst e1 e2
  exact hc i hi
theorem size_u8 : (Tryz.prog.info? 5).map (·.size) = some 1 := by kernel_rfl
def farU (b : List UInt8) (k : Nat) : Bool := (List.range k).any fun i => decide (64 < i) && bit2 b i
theorem farU_next (b : List UInt8) (k : Nat) : farU b (k + 1) = (farU b k || (decide (64 < k) && bit2 b k)) := by
  unfold farU
  rw [List.range_succ, List.any_append]
  simp
theorem farU_two (b : List UInt8) : farU b 2 = false := by
  unfold farU
  simp [List.range_succ]
theorem farU_64 (b : List UInt8) : farU b 65 = false := by
  unfold farU
  rw [List.any_eq_false]
  intro x hx
  have := List.mem_range.1 hx
  rw [decide_eq_false (by omega)]
  simp
theorem farU_128 {b : List UInt8} {no : Nat} (h1 : 64 < no) (h2 : no ≤ 128) (h : bit2 b no = true) : farU b 129 = true := by
  unfold farU
  rw [List.any_eq_true]
  exact ⟨no, List.mem_range.2 (by omega), by rw [decide_eq_true h1, h]; rfl⟩
theorem bit2_eq (b : List UInt8) (k : Nat) : decide ((((b.getD (2 + (k - 1) / 8) 0).toNat / 2 ^ (7 - (k - 1) % 8) % 2 : Nat) : Int) = 1) = bit2 b k := by
  unfold bit2
  rw [Bool.eq_iff_iff]
  simp only [decide_eq_true_eq, beq_iff_eq]
  omega
set_option maxRecDepth 20000 in
set_option maxHeartbeats 4000000 in
theorem messageMaps_walk {s : Sents} {ty : Int} {A : Option Addr} {n c : Nat} {fs : List Fld} (W : World) (he0 : Env s W) (hf0 : Fl W A n fs) :
    Calls Tryz.prog 11 #[msgV ty A n c] W fun e W' => e = .returned (.bool true) ∧ Below W.heap.size W W' := by
  have HE := Lib.hid he0
  have HF := Lib.hid hf0
  clear he0 hf0
  unfold msgV
  go_enter Tryz.func11, Tryz.ntmps11
  go_upto_region 1 with fail
  have hb0 := Blk.new (W) 31 #[.int .i64 ty, .slice A n c]
  have hu0 := (Turn.refl nowhere (W)).alloc (.cells #[.int .i64 ty, .slice A n c] 31)
  have hbz := hb0
  have huz := hu0
  clear hb0 hu0
  obtain ⟨gm, hg0⟩ : ∃ g, g = W.heap.size := ⟨_, rfl⟩
  rw [← hg0] at hbz ⊢
  clear hg0
  generalize W.alloc (.cells #[.int .i64 ty, .slice A n c] 31) = w0 at *
  have HBgm := Lib.hid hbz
  have HT0 := Lib.hid huz
  clear hbz huz
  refine wp_region_lit ?_
  have hS := shown_walk (s := s) w0 (HE.out.turn HT0.out)
  refine wpList_op rfl fun K9 HK9 => ?_
  go_wp2_with fail
  refine (hS).mono ?_
  rintro e w1 ⟨rfl, htx⟩
  refine HK9.out _ _ ?_
  clear HK9
  try simp only [Act.put, List.setIfInBounds_toArray, List.set_cons_zero, List.set_cons_succ]
  have HT1 := Lib.hid htx
  clear htx hS
  refine wpList_run (v := .bool true) rfl (gx_assign rfl rfl) ?_
  simp only [Act.put, List.setIfInBounds_toArray, List.set_cons_zero, List.set_cons_succ]
  go_upto_region 2 with fail
  refine wp_region_lit ?_
  refine wpList_run (v := msgV ty A n c) rfl (gx_loads rfl rfl (blk_range (HBgm.out.turn HT1.out (fun e => e))) Tryz.underlying31 rfl (by rw [size_msg]; rfl)) ?_
  simp only [Act.put, List.setIfInBounds_toArray, List.set_cons_zero, List.set_cons_succ]
  cases he : mencode 2 ty fs with
  | error k =>
    have hE := enc_bad (s := s) (c := c) he (HE.out.turn (HT0.out.trans HT1.out (fun _ _ e => e))) (HF.out.still (HT0.out.trans HT1.out (fun _ _ e => e)))
    refine wpList_op rfl fun K9 HK9 => ?_
    go_wp2_with fail
    refine (hE).mono ?_
    rintro e w2 ⟨A2, n2, c2, rfl, hox, htx⟩
    refine HK9.out _ _ ?_
    clear HK9
    try simp only [Act.put, List.setIfInBounds_toArray, List.set_cons_zero, List.set_cons_succ]
    clear hE
    have HT2 := Lib.hid htx
    clear htx
    clear hox
    refine wpList_run (v := .tuple #[.slice A2 n2 c2, .int .i64 k]) rfl (exec_move rfl rfl) ?_
    simp only [Act.put, List.setIfInBounds_toArray, List.set_cons_zero, List.set_cons_succ]
    refine wpList_run (v := .slice A2 n2 c2) rfl (ix_extract rfl rfl rfl) ?_
    simp only [Act.put, List.setIfInBounds_toArray, List.set_cons_zero, List.set_cons_succ]
    refine wpList_run (v := .int .i64 k) rfl (ix_extract rfl rfl rfl) ?_
    simp only [Act.put, List.setIfInBounds_toArray, List.set_cons_zero, List.set_cons_succ]
    refine wpList_run (v := .slice A2 n2 c2) rfl (gx_assign rfl rfl) ?_
    simp only [Act.put, List.setIfInBounds_toArray, List.set_cons_zero, List.set_cons_succ]
    refine wpList_run (v := .int .i64 k) rfl (gx_assign rfl rfl) ?_
    simp only [Act.put, List.setIfInBounds_toArray, List.set_cons_zero, List.set_cons_succ]
    go_upto_region 3 with fail
    refine wp_region_lit ?_
    refine wpList_run (v := .bool true) rfl (exec_move rfl rfl) ?_
    simp only [Act.put, List.setIfInBounds_toArray, List.set_cons_zero, List.set_cons_succ]
    refine wpList_run (v := .bool false) rfl (ix_not (b := true) rfl rfl) ?_
    simp only [Act.put, List.setIfInBounds_toArray, List.set_cons_zero, List.set_cons_succ]
    refine wpList_run (v := .bool false) rfl (exec_move rfl rfl) ?_
    simp only [Act.put, List.setIfInBounds_toArray, List.set_cons_zero, List.set_cons_succ]
    refine wpList_run (v := .int .i64 k) rfl (exec_move rfl rfl) ?_
    simp only [Act.put, List.setIfInBounds_toArray, List.set_cons_zero, List.set_cons_succ]
    refine wpList_run (v := .bool true) rfl (ix_neq rfl rfl rfl (decide_eq_true (mencode_err he))) ?_
    simp only [Act.put, List.setIfInBounds_toArray, List.set_cons_zero, List.set_cons_succ]
    refine wpList_run (v := .bool true) rfl (ix_pickF rfl rfl rfl) ?_
    simp only [Act.put, List.setIfInBounds_toArray, List.set_cons_zero, List.set_cons_succ]
    clear he
    go_wp2_with fail
    go_ret
    exact ⟨rfl, (((HT0.out.trans HT1.out (fun _ _ e => e)).trans HT2.out (fun _ _ e => e))).below (Nat.le_refl _) (fun _ _ e => e)⟩
  | ok b =>
    have hE := enc_at (s := s) (c := c) he (HE.out.turn (HT0.out.trans HT1.out (fun _ _ e => e))) (HF.out.still (HT0.out.trans HT1.out (fun _ _ e => e)))
    refine wpList_op rfl fun K9 HK9 => ?_
    go_wp2_with fail
    refine (hE).mono ?_
    rintro e w2 ⟨A2, n2, c2, rfl, hox, htx⟩
    refine HK9.out _ _ ?_
    clear HK9
    try simp only [Act.put, List.setIfInBounds_toArray, List.set_cons_zero, List.set_cons_succ]
    clear hE
    have HT2 := Lib.hid htx
    clear htx
    obtain ⟨A9, n9, c9, hf9, hb9, hnc9, hz9⟩ := hox.form
    injection hf9 with g1 g2 g3
    subst g1 g2 g3
    have HS2 := Lib.hid hb9
    have HN2 := Lib.hid hnc9
    clear hox hb9 hnc9 hz9
    obtain ⟨bits, hb64, hb128, h10, hlen, hbit, hfar⟩ := maps2 he
    clear he
    have HNB := Lib.hid HS2.out.1
    have HNL := Lib.hid (show 10 ≤ n2 from by rw [← HS2.out.1]; exact h10)
    have HLB := Lib.hid (show 2 + bits / 8 ≤ n2 from by rw [← HS2.out.1]; exact hlen)
    have HBIT := Lib.hid hbit
    have HFAR := Lib.hid hfar
    have H64 := Lib.hid hb64
    have H128 := Lib.hid hb128
    have y2 : (10 : Int) ≤ (n2 : Int) := by have := HNL.out; omega
    obtain ⟨g2, o2, rfl, _⟩ := HS2.out.2.2 (by have := HNL.out; omega)
    clear hb64 hb128 h10 hlen hbit hfar
    refine wpList_run (v := .tuple #[.slice (some ⟨g2, o2, none⟩) n2 c2, .int .i64 0]) rfl (exec_move rfl rfl) ?_
    simp only [Act.put, List.setIfInBounds_toArray, List.set_cons_zero, List.set_cons_succ]
    refine wpList_run (v := .slice (some ⟨g2, o2, none⟩) n2 c2) rfl (ix_extract rfl rfl rfl) ?_
    simp only [Act.put, List.setIfInBounds_toArray, List.set_cons_zero, List.set_cons_succ]
    refine wpList_run (v := .int .i64 0) rfl (ix_extract rfl rfl rfl) ?_
    simp only [Act.put, List.setIfInBounds_toArray, List.set_cons_zero, List.set_cons_succ]
    refine wpList_run (v := .slice (some ⟨g2, o2, none⟩) n2 c2) rfl (gx_assign rfl rfl) ?_
    simp only [Act.put, List.setIfInBounds_toArray, List.set_cons_zero, List.set_cons_succ]
    refine wpList_run (v := .int .i64 0) rfl (gx_assign rfl rfl) ?_
    simp only [Act.put, List.setIfInBounds_toArray, List.set_cons_zero, List.set_cons_succ]
    go_upto_region 3 with fail
    refine wp_region_lit ?_
    refine wpList_run (v := .bool true) rfl (exec_move rfl rfl) ?_
    simp only [Act.put, List.setIfInBounds_toArray, List.set_cons_zero, List.set_cons_succ]
    refine wpList_run (v := .bool false) rfl (ix_not (b := true) rfl rfl) ?_
    simp only [Act.put, List.setIfInBounds_toArray, List.set_cons_zero, List.set_cons_succ]
    refine wpList_run (v := .bool false) rfl (exec_move rfl rfl) ?_
    simp only [Act.put, List.setIfInBounds_toArray, List.set_cons_zero, List.set_cons_succ]
    refine wpList_run (v := .int .i64 0) rfl (exec_move rfl rfl) ?_
    simp only [Act.put, List.setIfInBounds_toArray, List.set_cons_zero, List.set_cons_succ]
    refine wpList_run (v := .bool false) rfl (ix_neq rfl rfl rfl (by decide)) ?_
    simp only [Act.put, List.setIfInBounds_toArray, List.set_cons_zero, List.set_cons_succ]
    refine wpList_run (v := .bool false) rfl (ix_pickF rfl rfl rfl) ?_
    simp only [Act.put, List.setIfInBounds_toArray, List.set_cons_zero, List.set_cons_succ]
    go_upto_region 5 with fail
    refine wp_region_lit ?_
    refine wpList_run (v := .slice (some ⟨g2, o2, none⟩) n2 c2) rfl (exec_move rfl rfl) ?_
    simp only [Act.put, List.setIfInBounds_toArray, List.set_cons_zero, List.set_cons_succ]
    refine wpList_run (v := .int .i64 (n2 : Int)) rfl (gx_len rfl rfl Tryz.underlying32) ?_
    simp only [Act.put, List.setIfInBounds_toArray, List.set_cons_zero, List.set_cons_succ]
    refine wpList_run (v := .bool false) rfl (ix_lss rfl rfl rfl (decide_eq_false (by omega))) ?_
    simp only [Act.put, List.setIfInBounds_toArray, List.set_cons_zero, List.set_cons_succ]
    go_upto_region 7 with fail
    refine wp_region_lit ?_
    refine wpList_run (v := .int .i64 64) rfl (gx_assign rfl rfl) ?_
    simp only [Act.put, List.setIfInBounds_toArray, List.set_cons_zero, List.set_cons_succ]
    go_upto_region 8 with fail
    refine wp_region_lit ?_
    refine wpList_run (v := .slice (some ⟨g2, o2, none⟩) n2 c2) rfl (exec_move rfl rfl) ?_
    simp only [Act.put, List.setIfInBounds_toArray, List.set_cons_zero, List.set_cons_succ]
    refine wpList_run (v := .pointer (some ⟨g2, o2 + 2, none⟩)) rfl (gx_iaddr (i := 2) (sz := 1) rfl rfl rfl Tryz.underlying32 size_u8 (by have := HNL.out; omega) (by omega)) ?_
    simp only [Act.put, List.setIfInBounds_toArray, List.set_cons_zero, List.set_cons_succ]
    refine wpList_run (v := .int .u8 ((b.getD 2 0).toNat : Int)) rfl (exec_load1 rfl rfl (by kernel_rfl) (bs_cell HS2.out (by have := HNL.out; omega))) ?_
    simp only [Act.put, List.setIfInBounds_toArray, List.set_cons_zero, List.set_cons_succ]
    by_cases h128 : 128 ≤ (b.getD 2 0).toNat
    · have HB9 := Lib.hid (H128.out.2 h128)
      refine wpList_run (v := .bool true) rfl (u8_geq rfl rfl rfl (decide_eq_true (by omega))) ?_
      simp only [Act.put, List.setIfInBounds_toArray, List.set_cons_zero, List.set_cons_succ]
      clear h128
      go_upto_region 9 with fail
      refine wp_region_lit ?_
      refine wpList_run (v := .int .i64 128) rfl (gx_assign rfl rfl) ?_
      simp only [Act.put, List.setIfInBounds_toArray, List.set_cons_zero, List.set_cons_succ]
      have HBITS := Lib.hid (show ∀ no, 2 ≤ no → no ≤ 128 → bit2 b no = (getM (no : Int) fs).isSome from fun no q1 q2 => HBIT.out no q1 (by rw [HB9.out]; exact q2))
      have HLEN := Lib.hid (show 18 ≤ n2 from by have h1 := HLB.out; rw [HB9.out] at h1; exact h1)
      have y3 : (18 : Int) ≤ (n2 : Int) := by have := HLEN.out; omega
      go_upto_region 10 with fail
      refine wp_region_lit ?_
      refine wpList_run (v := .slice (some ⟨g2, o2, none⟩) n2 c2) rfl (exec_move rfl rfl) ?_
      simp only [Act.put, List.setIfInBounds_toArray, List.set_cons_zero, List.set_cons_succ]
      refine wpList_run (v := .int .i64 (n2 : Int)) rfl (gx_len rfl rfl Tryz.underlying32) ?_
      simp only [Act.put, List.setIfInBounds_toArray, List.set_cons_zero, List.set_cons_succ]
      refine wpList_run (v := .int .i64 128) rfl (exec_move rfl rfl) ?_
      simp only [Act.put, List.setIfInBounds_toArray, List.set_cons_zero, List.set_cons_succ]
      refine wpList_run (v := .int .i64 16) rfl (ix_quo (n := 128) (m := 8) rfl rfl rfl (by decide) (by decide)) ?_
      simp only [Act.put, List.setIfInBounds_toArray, List.set_cons_zero, List.set_cons_succ]
      refine wpList_run (v := .int .i64 18) rfl (ix_add rfl rfl rfl rfl (by decide)) ?_
      simp only [Act.put, List.setIfInBounds_toArray, List.set_cons_zero, List.set_cons_succ]
      refine wpList_run (v := .bool false) rfl (ix_lss rfl rfl rfl (decide_eq_false (by omega))) ?_
      simp only [Act.put, List.setIfInBounds_toArray, List.set_cons_zero, List.set_cons_succ]
      go_upto_region 12 with fail
      refine wp_region_lit ?_
      refine wpList_run (v := .bool false) rfl (gx_assign rfl rfl) ?_
      simp only [Act.put, List.setIfInBounds_toArray, List.set_cons_zero, List.set_cons_succ]
      go_upto_region 13 with fail
      refine wp_region_lit ?_
      refine wpList_run (v := .int .i64 2) rfl (gx_assign rfl rfl) ?_
      simp only [Act.put, List.setIfInBounds_toArray, List.set_cons_zero, List.set_cons_succ]
      go_wp2_with fail
      go_loopg [7, 8] 127 (fun gk fv jv wr => ∃ k : Nat, 2 ≤ k ∧ k + gk = 129 ∧ jv = .int .i64 (k : Int) ∧ fv = .bool (farU b k) ∧ Turn nowhere w2 wr)
      case atStart => exact ⟨2, by omega, by omega, rfl, by rw [farU_two], Turn.refl _ _⟩
      obtain ⟨k, hk2, hkg, rfl, rfl, htr⟩ := hrel
      have HK2 := Lib.hid hk2
      have HKG := Lib.hid hkg
      have HTR := Lib.hid htr
      clear hkg htr
      go_upto_region 14 with fail
      refine wp_region_lit ?_
      refine wpList_run (v := .int .i64 (k : Int)) rfl (exec_move rfl rfl) ?_
      simp only [Act.put, List.setIfInBounds_toArray, List.set_cons_zero, List.set_cons_succ]
      refine wpList_run (v := .int .i64 128) rfl (exec_move rfl rfl) ?_
      simp only [Act.put, List.setIfInBounds_toArray, List.set_cons_zero, List.set_cons_succ]
      by_cases hlt : k ≤ 128
      · refine wpList_run (v := .bool true) rfl (ix_leq rfl rfl rfl (decide_eq_true (by omega))) ?_
        simp only [Act.put, List.setIfInBounds_toArray, List.set_cons_zero, List.set_cons_succ]
        have HLT := Lib.hid hlt
        clear hlt
        obtain ⟨p, hp⟩ : ∃ p, p = k - 1 := ⟨_, rfl⟩
        have HP := Lib.hid hp
        have y4 : (k : Int) - 1 = (p : Int) := by omega
        have y5 : (p : Int) < 128 := by have := HLT.out; omega
        clear hp
        go_upto_region 16 with fail
        refine wp_region_lit ?_
        refine wpList_run (v := .slice (some ⟨g2, o2, none⟩) n2 c2) rfl (exec_move rfl rfl) ?_
        simp only [Act.put, List.setIfInBounds_toArray, List.set_cons_zero, List.set_cons_succ]
        refine wpList_run (v := .int .i64 (k : Int)) rfl (exec_move rfl rfl) ?_
        simp only [Act.put, List.setIfInBounds_toArray, List.set_cons_zero, List.set_cons_succ]
        refine wpList_run (v := .int .i64 (p : Int)) rfl (ix_sub rfl rfl rfl y4 (by omega)) ?_
        simp only [Act.put, List.setIfInBounds_toArray, List.set_cons_zero, List.set_cons_succ]
        refine wpList_run (v := .int .i64 ((p / 8 : Nat) : Int)) rfl (ix_quo (n := p) (m := 8) rfl rfl rfl (by decide) (by omega)) ?_
        simp only [Act.put, List.setIfInBounds_toArray, List.set_cons_zero, List.set_cons_succ]
        refine wpList_run (v := .int .i64 ((2 + p / 8 : Nat) : Int)) rfl (ix_add rfl rfl rfl (by omega) (by omega)) ?_
        simp only [Act.put, List.setIfInBounds_toArray, List.set_cons_zero, List.set_cons_succ]
        refine wpList_run (v := .pointer (some ⟨g2, o2 + (2 + p / 8), none⟩)) rfl (gx_iaddr (i := 2 + p / 8) (sz := 1) rfl rfl rfl Tryz.underlying32 size_u8 (by have := HLEN.out; have := HLT.out; have := HP.out; omega) (by omega)) ?_
        simp only [Act.put, List.setIfInBounds_toArray, List.set_cons_zero, List.set_cons_succ]
        refine wpList_run (v := .int .u8 ((b.getD (2 + p / 8) 0).toNat : Int)) rfl (exec_load1 rfl rfl (by kernel_rfl) (bs_cell (bs_still HS2.out HTR.out) (by have := HLEN.out; have := HLT.out; have := HP.out; omega))) ?_
        simp only [Act.put, List.setIfInBounds_toArray, List.set_cons_zero, List.set_cons_succ]
        refine wpList_run (v := .int .i64 (k : Int)) rfl (exec_move rfl rfl) ?_
        simp only [Act.put, List.setIfInBounds_toArray, List.set_cons_zero, List.set_cons_succ]
        refine wpList_run (v := .int .i64 (p : Int)) rfl (ix_sub rfl rfl rfl y4 (by omega)) ?_
        simp only [Act.put, List.setIfInBounds_toArray, List.set_cons_zero, List.set_cons_succ]
        refine wpList_run (v := .int .i64 ((p % 8 : Nat) : Int)) rfl (ix_rem (n := p) (m := 8) rfl rfl rfl (by decide) (by omega)) ?_
        simp only [Act.put, List.setIfInBounds_toArray, List.set_cons_zero, List.set_cons_succ]
        refine wpList_run (v := .int .i64 ((7 - p % 8 : Nat) : Int)) rfl (ix_sub rfl rfl rfl (by omega) (by omega)) ?_
        simp only [Act.put, List.setIfInBounds_toArray, List.set_cons_zero, List.set_cons_succ]
        refine wpList_run (v := .int .u8 (((b.getD (2 + p / 8) 0).toNat / 2 ^ (7 - p % 8) : Nat) : Int)) rfl (u8_shr rfl rfl rfl (UInt8.toNat_lt _) (by omega)) ?_
        simp only [Act.put, List.setIfInBounds_toArray, List.set_cons_zero, List.set_cons_succ]
        refine wpList_run (v := .int .u8 (((b.getD (2 + p / 8) 0).toNat / 2 ^ (7 - p % 8) % 2 : Nat) : Int)) rfl (u8_rem2 rfl rfl) ?_
        simp only [Act.put, List.setIfInBounds_toArray, List.set_cons_zero, List.set_cons_succ]
        refine wpList_run (v := .bool (bit2 b k)) rfl (u8_eql rfl rfl rfl (by rw [HP.out]; exact bit2_eq b k)) ?_
        simp only [Act.put, List.setIfInBounds_toArray, List.set_cons_zero, List.set_cons_succ]
        refine wpList_run (v := .bool (bit2 b k)) rfl (gx_assign rfl rfl) ?_
        simp only [Act.put, List.setIfInBounds_toArray, List.set_cons_zero, List.set_cons_succ]
        go_upto_region 17 with fail
        refine wp_region_lit ?_
        refine wpList_run (v := msgV ty A n c) rfl (gx_loads rfl rfl (blk_range (HBgm.out.turn ((HT1.out.trans HT2.out (fun _ _ e => e)).trans HTR.out (fun _ _ e => e)) (fun e => e))) Tryz.underlying31 rfl (by rw [size_msg]; rfl)) ?_
        simp only [Act.put, List.setIfInBounds_toArray, List.set_cons_zero, List.set_cons_succ]
        refine wpList_run (v := .int .i64 (k : Int)) rfl (exec_move rfl rfl) ?_
        simp only [Act.put, List.setIfInBounds_toArray, List.set_cons_zero, List.set_cons_succ]
        have HBK := Lib.hid (HBITS.out k HK2.out HLT.out)
        have hG := Get_walk (w := wr) (ty := ty) (no := (k : Int)) (c := c) (HF.out.still (((HT0.out.trans HT1.out (fun _ _ e => e)).trans HT2.out (fun _ _ e => e)).trans HTR.out (fun _ _ e => e)))
        cases hgm : getM (k : Int) fs with
        | none =>
          rw [hgm] at hG
          have HBV := Lib.hid (show bit2 b k = false from by rw [HBK.out, hgm]; rfl)
          have hbv := HBV.out
          rw [hbv]
          clear hbv hgm
          refine wpList_op rfl fun K9 HK9 => ?_
          go_wp2_with fail
          refine (hG).mono ?_
          rintro e w3 ⟨rfl, htx⟩
          refine HK9.out _ _ ?_
          clear HK9
          try simp only [Act.put, List.setIfInBounds_toArray, List.set_cons_zero, List.set_cons_succ]
          clear hG
          have HT3 := Lib.hid htx
          clear htx
          refine wpList_run (v := .tuple #[strV [], .bool false]) rfl (exec_move rfl rfl) ?_
          simp only [Act.put, List.setIfInBounds_toArray, List.set_cons_zero, List.set_cons_succ]
          refine wpList_run (v := strV []) rfl (ix_extract rfl rfl rfl) ?_
          simp only [Act.put, List.setIfInBounds_toArray, List.set_cons_zero, List.set_cons_succ]
          refine wpList_run (v := .bool false) rfl (ix_extract rfl rfl rfl) ?_
          simp only [Act.put, List.setIfInBounds_toArray, List.set_cons_zero, List.set_cons_succ]
          refine wpList_run (v := strV []) rfl (gx_assign rfl rfl) ?_
          simp only [Act.put, List.setIfInBounds_toArray, List.set_cons_zero, List.set_cons_succ]
          refine wpList_run (v := .bool false) rfl (gx_assign rfl rfl) ?_
          simp only [Act.put, List.setIfInBounds_toArray, List.set_cons_zero, List.set_cons_succ]
          go_upto_region 18 with fail
          refine wp_region_lit ?_
          refine wpList_run (v := .bool false) rfl (exec_move rfl rfl) ?_
          simp only [Act.put, List.setIfInBounds_toArray, List.set_cons_zero, List.set_cons_succ]
          refine wpList_run (v := .bool false) rfl (exec_move rfl rfl) ?_
          simp only [Act.put, List.setIfInBounds_toArray, List.set_cons_zero, List.set_cons_succ]
          refine wpList_run (v := .bool false) rfl (bx_neb (p := false) (q := false) rfl rfl rfl) ?_
          simp only [Act.put, List.setIfInBounds_toArray, List.set_cons_zero, List.set_cons_succ]
          cases hfa : farU b k with
          | true =>
            go_upto_region 20 with fail
            refine wp_region_lit ?_
            refine wpList_run (v := .bool true) rfl (exec_move rfl rfl) ?_
            simp only [Act.put, List.setIfInBounds_toArray, List.set_cons_zero, List.set_cons_succ]
            refine wpList_run (v := .bool true) rfl (exec_move rfl rfl) ?_
            simp only [Act.put, List.setIfInBounds_toArray, List.set_cons_zero, List.set_cons_succ]
            refine wpList_skip (by go_simp) ?_
            simp only [Act.put, List.setIfInBounds_toArray, List.set_cons_zero, List.set_cons_succ]
            refine wpList_skip (by go_simp) ?_
            simp only [Act.put, List.setIfInBounds_toArray, List.set_cons_zero, List.set_cons_succ]
            refine wpList_skip (by go_simp; intro h; cases h) ?_
            simp only [Act.put, List.setIfInBounds_toArray, List.set_cons_zero, List.set_cons_succ]
            refine wpList_skip (by go_simp; intro h; cases h) ?_
            simp only [Act.put, List.setIfInBounds_toArray, List.set_cons_zero, List.set_cons_succ]
            refine wpList_skip (by go_simp) ?_
            simp only [Act.put, List.setIfInBounds_toArray, List.set_cons_zero, List.set_cons_succ]
            refine wpList_run (v := .bool true) rfl (ix_pickT rfl rfl rfl) ?_
            simp only [Act.put, List.setIfInBounds_toArray, List.set_cons_zero, List.set_cons_succ]
            refine wpList_run (v := .bool true) rfl (gx_assign rfl rfl) ?_
            simp only [Act.put, List.setIfInBounds_toArray, List.set_cons_zero, List.set_cons_succ]
            have HFN := Lib.hid (show farU b (k + 1) = true from by rw [farU_next, hfa, Bool.true_or])
            clear hfa
            go_upto_region 15 with fail
            refine wp_region_lit ?_
            refine wpList_run (v := .int .i64 (k : Int)) rfl (exec_move rfl rfl) ?_
            simp only [Act.put, List.setIfInBounds_toArray, List.set_cons_zero, List.set_cons_succ]
            refine wpList_run (v := .int .i64 ((k + 1 : Nat) : Int)) rfl (ix_add rfl rfl rfl (by omega) (by omega)) ?_
            simp only [Act.put, List.setIfInBounds_toArray, List.set_cons_zero, List.set_cons_succ]
            refine wpList_run (v := .int .i64 ((k + 1 : Nat) : Int)) rfl (gx_assign rfl rfl) ?_
            simp only [Act.put, List.setIfInBounds_toArray, List.set_cons_zero, List.set_cons_succ]
            go_wp2_with fail
            go_roundg (gk - 1)
            case measure => have := HKG.out; have := HLT.out; omega
            case rel => exact ⟨k + 1, by omega, by have := HKG.out; have := HLT.out; omega, by go_num, by rw [HFN.out], HTR.out.trans HT3.out (fun _ _ e => e)⟩
          | false =>
            go_upto_region 20 with fail
            refine wp_region_lit ?_
            refine wpList_run (v := .bool false) rfl (exec_move rfl rfl) ?_
            simp only [Act.put, List.setIfInBounds_toArray, List.set_cons_zero, List.set_cons_succ]
            refine wpList_run (v := .bool false) rfl (exec_move rfl rfl) ?_
            simp only [Act.put, List.setIfInBounds_toArray, List.set_cons_zero, List.set_cons_succ]
            refine wpList_run (v := .bool false) rfl (exec_move rfl rfl) ?_
            simp only [Act.put, List.setIfInBounds_toArray, List.set_cons_zero, List.set_cons_succ]
            refine wpList_run (v := .bool false) rfl (exec_move rfl rfl) ?_
            simp only [Act.put, List.setIfInBounds_toArray, List.set_cons_zero, List.set_cons_succ]
            refine wpList_skip (by go_simp) ?_
            simp only [Act.put, List.setIfInBounds_toArray, List.set_cons_zero, List.set_cons_succ]
            refine wpList_skip (by go_simp) ?_
            simp only [Act.put, List.setIfInBounds_toArray, List.set_cons_zero, List.set_cons_succ]
            refine wpList_run (v := .bool false) rfl (ix_pickF rfl rfl rfl) ?_
            simp only [Act.put, List.setIfInBounds_toArray, List.set_cons_zero, List.set_cons_succ]
            refine wpList_run (v := .bool false) rfl (ix_pickF rfl rfl rfl) ?_
            simp only [Act.put, List.setIfInBounds_toArray, List.set_cons_zero, List.set_cons_succ]
            refine wpList_run (v := .bool false) rfl (gx_assign rfl rfl) ?_
            simp only [Act.put, List.setIfInBounds_toArray, List.set_cons_zero, List.set_cons_succ]
            have HFN := Lib.hid (show farU b (k + 1) = false from by rw [farU_next, hfa, HBV.out, Bool.and_false, Bool.false_or])
            clear hfa
            go_upto_region 15 with fail
            refine wp_region_lit ?_
            refine wpList_run (v := .int .i64 (k : Int)) rfl (exec_move rfl rfl) ?_
            simp only [Act.put, List.setIfInBounds_toArray, List.set_cons_zero, List.set_cons_succ]
            refine wpList_run (v := .int .i64 ((k + 1 : Nat) : Int)) rfl (ix_add rfl rfl rfl (by omega) (by omega)) ?_
            simp only [Act.put, List.setIfInBounds_toArray, List.set_cons_zero, List.set_cons_succ]
            refine wpList_run (v := .int .i64 ((k + 1 : Nat) : Int)) rfl (gx_assign rfl rfl) ?_
            simp only [Act.put, List.setIfInBounds_toArray, List.set_cons_zero, List.set_cons_succ]
            go_wp2_with fail
            go_roundg (gk - 1)
            case measure => have := HKG.out; have := HLT.out; omega
            case rel => exact ⟨k + 1, by omega, by have := HKG.out; have := HLT.out; omega, by go_num, by rw [HFN.out], HTR.out.trans HT3.out (fun _ _ e => e)⟩
        | some t =>
          rw [hgm] at hG
          have HBV := Lib.hid (show bit2 b k = true from by rw [HBK.out, hgm]; rfl)
          have hbv := HBV.out
          rw [hbv]
          clear hbv hgm
          refine wpList_op rfl fun K9 HK9 => ?_
          go_wp2_with fail
          refine (hG).mono ?_
          rintro e w3 ⟨rfl, htx⟩
          refine HK9.out _ _ ?_
          clear HK9
          try simp only [Act.put, List.setIfInBounds_toArray, List.set_cons_zero, List.set_cons_succ]
          clear hG
          have HT3 := Lib.hid htx
          clear htx
          refine wpList_run (v := .tuple #[strV t, .bool true]) rfl (exec_move rfl rfl) ?_
          simp only [Act.put, List.setIfInBounds_toArray, List.set_cons_zero, List.set_cons_succ]
          refine wpList_run (v := strV t) rfl (ix_extract rfl rfl rfl) ?_
          simp only [Act.put, List.setIfInBounds_toArray, List.set_cons_zero, List.set_cons_succ]
          refine wpList_run (v := .bool true) rfl (ix_extract rfl rfl rfl) ?_
          simp only [Act.put, List.setIfInBounds_toArray, List.set_cons_zero, List.set_cons_succ]
          refine wpList_run (v := strV t) rfl (gx_assign rfl rfl) ?_
          simp only [Act.put, List.setIfInBounds_toArray, List.set_cons_zero, List.set_cons_succ]
          refine wpList_run (v := .bool true) rfl (gx_assign rfl rfl) ?_
          simp only [Act.put, List.setIfInBounds_toArray, List.set_cons_zero, List.set_cons_succ]
          go_upto_region 18 with fail
          refine wp_region_lit ?_
          refine wpList_run (v := .bool true) rfl (exec_move rfl rfl) ?_
          simp only [Act.put, List.setIfInBounds_toArray, List.set_cons_zero, List.set_cons_succ]
          refine wpList_run (v := .bool true) rfl (exec_move rfl rfl) ?_
          simp only [Act.put, List.setIfInBounds_toArray, List.set_cons_zero, List.set_cons_succ]
          refine wpList_run (v := .bool false) rfl (bx_neb (p := true) (q := true) rfl rfl rfl) ?_
          simp only [Act.put, List.setIfInBounds_toArray, List.set_cons_zero, List.set_cons_succ]
          cases hfa : farU b k with
          | true =>
            go_upto_region 20 with fail
            refine wp_region_lit ?_
            refine wpList_run (v := .bool true) rfl (exec_move rfl rfl) ?_
            simp only [Act.put, List.setIfInBounds_toArray, List.set_cons_zero, List.set_cons_succ]
            refine wpList_run (v := .bool true) rfl (exec_move rfl rfl) ?_
            simp only [Act.put, List.setIfInBounds_toArray, List.set_cons_zero, List.set_cons_succ]
            refine wpList_skip (by go_simp) ?_
            simp only [Act.put, List.setIfInBounds_toArray, List.set_cons_zero, List.set_cons_succ]
            refine wpList_skip (by go_simp) ?_
            simp only [Act.put, List.setIfInBounds_toArray, List.set_cons_zero, List.set_cons_succ]
            refine wpList_skip (by go_simp; intro h; cases h) ?_
            simp only [Act.put, List.setIfInBounds_toArray, List.set_cons_zero, List.set_cons_succ]
            refine wpList_skip (by go_simp; intro h; cases h) ?_
            simp only [Act.put, List.setIfInBounds_toArray, List.set_cons_zero, List.set_cons_succ]
            refine wpList_skip (by go_simp) ?_
            simp only [Act.put, List.setIfInBounds_toArray, List.set_cons_zero, List.set_cons_succ]
            refine wpList_run (v := .bool true) rfl (ix_pickT rfl rfl rfl) ?_
            simp only [Act.put, List.setIfInBounds_toArray, List.set_cons_zero, List.set_cons_succ]
            refine wpList_run (v := .bool true) rfl (gx_assign rfl rfl) ?_
            simp only [Act.put, List.setIfInBounds_toArray, List.set_cons_zero, List.set_cons_succ]
            have HFN := Lib.hid (show farU b (k + 1) = true from by rw [farU_next, hfa, Bool.true_or])
            clear hfa
            go_upto_region 15 with fail
            refine wp_region_lit ?_
            refine wpList_run (v := .int .i64 (k : Int)) rfl (exec_move rfl rfl) ?_
            simp only [Act.put, List.setIfInBounds_toArray, List.set_cons_zero, List.set_cons_succ]
            refine wpList_run (v := .int .i64 ((k + 1 : Nat) : Int)) rfl (ix_add rfl rfl rfl (by omega) (by omega)) ?_
            simp only [Act.put, List.setIfInBounds_toArray, List.set_cons_zero, List.set_cons_succ]
            refine wpList_run (v := .int .i64 ((k + 1 : Nat) : Int)) rfl (gx_assign rfl rfl) ?_
            simp only [Act.put, List.setIfInBounds_toArray, List.set_cons_zero, List.set_cons_succ]
            go_wp2_with fail
            go_roundg (gk - 1)
            case measure => have := HKG.out; have := HLT.out; omega
            case rel => exact ⟨k + 1, by omega, by have := HKG.out; have := HLT.out; omega, by go_num, by rw [HFN.out], HTR.out.trans HT3.out (fun _ _ e => e)⟩
          | false =>
            go_upto_region 20 with fail
            refine wp_region_lit ?_
            refine wpList_run (v := .bool false) rfl (exec_move rfl rfl) ?_
            simp only [Act.put, List.setIfInBounds_toArray, List.set_cons_zero, List.set_cons_succ]
            refine wpList_run (v := .bool false) rfl (exec_move rfl rfl) ?_
            simp only [Act.put, List.setIfInBounds_toArray, List.set_cons_zero, List.set_cons_succ]
            refine wpList_run (v := .bool true) rfl (exec_move rfl rfl) ?_
            simp only [Act.put, List.setIfInBounds_toArray, List.set_cons_zero, List.set_cons_succ]
            refine wpList_run (v := .bool true) rfl (exec_move rfl rfl) ?_
            simp only [Act.put, List.setIfInBounds_toArray, List.set_cons_zero, List.set_cons_succ]
            refine wpList_run (v := .int .i64 (k : Int)) rfl (exec_move rfl rfl) ?_
            simp only [Act.put, List.setIfInBounds_toArray, List.set_cons_zero, List.set_cons_succ]
            by_cases h64 : 64 < k
            · refine wpList_run (v := .bool true) rfl (ix_gtr rfl rfl rfl (decide_eq_true (by omega))) ?_
              simp only [Act.put, List.setIfInBounds_toArray, List.set_cons_zero, List.set_cons_succ]
              refine wpList_run (v := .bool true) rfl (ix_pickT rfl rfl rfl) ?_
              simp only [Act.put, List.setIfInBounds_toArray, List.set_cons_zero, List.set_cons_succ]
              refine wpList_run (v := .bool true) rfl (ix_pickF rfl rfl rfl) ?_
              simp only [Act.put, List.setIfInBounds_toArray, List.set_cons_zero, List.set_cons_succ]
              refine wpList_run (v := .bool true) rfl (gx_assign rfl rfl) ?_
              simp only [Act.put, List.setIfInBounds_toArray, List.set_cons_zero, List.set_cons_succ]
              have HFN := Lib.hid (show farU b (k + 1) = true from by rw [farU_next, hfa, HBV.out, decide_eq_true h64, Bool.and_true, Bool.false_or])
              clear hfa
              go_upto_region 15 with fail
              refine wp_region_lit ?_
              refine wpList_run (v := .int .i64 (k : Int)) rfl (exec_move rfl rfl) ?_
              simp only [Act.put, List.setIfInBounds_toArray, List.set_cons_zero, List.set_cons_succ]
              refine wpList_run (v := .int .i64 ((k + 1 : Nat) : Int)) rfl (ix_add rfl rfl rfl (by omega) (by omega)) ?_
              simp only [Act.put, List.setIfInBounds_toArray, List.set_cons_zero, List.set_cons_succ]
              refine wpList_run (v := .int .i64 ((k + 1 : Nat) : Int)) rfl (gx_assign rfl rfl) ?_
              simp only [Act.put, List.setIfInBounds_toArray, List.set_cons_zero, List.set_cons_succ]
              go_wp2_with fail
              go_roundg (gk - 1)
              case measure => have := HKG.out; have := HLT.out; omega
              case rel => exact ⟨k + 1, by omega, by have := HKG.out; have := HLT.out; omega, by go_num, by rw [HFN.out], HTR.out.trans HT3.out (fun _ _ e => e)⟩
            · refine wpList_run (v := .bool false) rfl (ix_gtr rfl rfl rfl (decide_eq_false (by omega))) ?_
              simp only [Act.put, List.setIfInBounds_toArray, List.set_cons_zero, List.set_cons_succ]
              refine wpList_run (v := .bool false) rfl (ix_pickT rfl rfl rfl) ?_
              simp only [Act.put, List.setIfInBounds_toArray, List.set_cons_zero, List.set_cons_succ]
              refine wpList_run (v := .bool false) rfl (ix_pickF rfl rfl rfl) ?_
              simp only [Act.put, List.setIfInBounds_toArray, List.set_cons_zero, List.set_cons_succ]
              refine wpList_run (v := .bool false) rfl (gx_assign rfl rfl) ?_
              simp only [Act.put, List.setIfInBounds_toArray, List.set_cons_zero, List.set_cons_succ]
              have HFN := Lib.hid (show farU b (k + 1) = false from by rw [farU_next, hfa, HBV.out, decide_eq_false h64, Bool.and_true, Bool.false_or])
              clear hfa
              go_upto_region 15 with fail
              refine wp_region_lit ?_
              refine wpList_run (v := .int .i64 (k : Int)) rfl (exec_move rfl rfl) ?_
              simp only [Act.put, List.setIfInBounds_toArray, List.set_cons_zero, List.set_cons_succ]
              refine wpList_run (v := .int .i64 ((k + 1 : Nat) : Int)) rfl (ix_add rfl rfl rfl (by omega) (by omega)) ?_
              simp only [Act.put, List.setIfInBounds_toArray, List.set_cons_zero, List.set_cons_succ]
              refine wpList_run (v := .int .i64 ((k + 1 : Nat) : Int)) rfl (gx_assign rfl rfl) ?_
              simp only [Act.put, List.setIfInBounds_toArray, List.set_cons_zero, List.set_cons_succ]
              go_wp2_with fail
              go_roundg (gk - 1)
              case measure => have := HKG.out; have := HLT.out; omega
              case rel => exact ⟨k + 1, by omega, by have := HKG.out; have := HLT.out; omega, by go_num, by rw [HFN.out], HTR.out.trans HT3.out (fun _ _ e => e)⟩
      · refine wpList_run (v := .bool false) rfl (ix_leq rfl rfl rfl (decide_eq_false (by omega))) ?_
        simp only [Act.put, List.setIfInBounds_toArray, List.set_cons_zero, List.set_cons_succ]
        obtain rfl : k = 129 := by have := HKG.out; omega
        have hfa : farU b 129 = true := by
          obtain ⟨no, q1, q2, q3⟩ := HFAR.out HB9.out
          exact farU_128 q1 q2 q3
        rw [hfa]
        clear hfa hlt
        go_upto_region 21 with fail
        refine wp_region_lit ?_
        refine wpList_run (v := .bool true) rfl (exec_move rfl rfl) ?_
        simp only [Act.put, List.setIfInBounds_toArray, List.set_cons_zero, List.set_cons_succ]
        refine wpList_run (v := .int .i64 128) rfl (exec_move rfl rfl) ?_
        simp only [Act.put, List.setIfInBounds_toArray, List.set_cons_zero, List.set_cons_succ]
        refine wpList_run (v := .bool true) rfl (ix_eql rfl rfl rfl (by decide)) ?_
        simp only [Act.put, List.setIfInBounds_toArray, List.set_cons_zero, List.set_cons_succ]
        refine wpList_run (v := .bool true) rfl (bx_eqb (p := true) (q := true) rfl rfl rfl) ?_
        simp only [Act.put, List.setIfInBounds_toArray, List.set_cons_zero, List.set_cons_succ]
        refine wpList_run (v := .bool true) rfl (gx_assign rfl rfl) ?_
        simp only [Act.put, List.setIfInBounds_toArray, List.set_cons_zero, List.set_cons_succ]
        go_wp2_with fail
        go_ret
        exact ⟨rfl, ((((HT0.out.trans HT1.out (fun _ _ e => e)).trans HT2.out (fun _ _ e => e)).trans HTR.out (fun _ _ e => e))).below (Nat.le_refl _) (fun _ _ e => e)⟩
    · have HB9 := Lib.hid (show bits = 64 from by
        have h1 := H64.out
        rcases h1 with h1 | h1
        · exact h1
        · exact absurd (H128.out.1 h1) h128)
      refine wpList_run (v := .bool false) rfl (u8_geq rfl rfl rfl (decide_eq_false (by omega))) ?_
      simp only [Act.put, List.setIfInBounds_toArray, List.set_cons_zero, List.set_cons_succ]
      clear h128
      have HBITS := Lib.hid (show ∀ no, 2 ≤ no → no ≤ 64 → bit2 b no = (getM (no : Int) fs).isSome from fun no q1 q2 => HBIT.out no q1 (by rw [HB9.out]; exact q2))
      have HLEN := Lib.hid (show 10 ≤ n2 from by have h1 := HLB.out; rw [HB9.out] at h1; exact h1)
      have y3 : (10 : Int) ≤ (n2 : Int) := by have := HLEN.out; omega
      go_upto_region 10 with fail
      refine wp_region_lit ?_
      refine wpList_run (v := .slice (some ⟨g2, o2, none⟩) n2 c2) rfl (exec_move rfl rfl) ?_
      simp only [Act.put, List.setIfInBounds_toArray, List.set_cons_zero, List.set_cons_succ]
      refine wpList_run (v := .int .i64 (n2 : Int)) rfl (gx_len rfl rfl Tryz.underlying32) ?_
      simp only [Act.put, List.setIfInBounds_toArray, List.set_cons_zero, List.set_cons_succ]
      refine wpList_run (v := .int .i64 64) rfl (exec_move rfl rfl) ?_
      simp only [Act.put, List.setIfInBounds_toArray, List.set_cons_zero, List.set_cons_succ]
      refine wpList_run (v := .int .i64 8) rfl (ix_quo (n := 64) (m := 8) rfl rfl rfl (by decide) (by decide)) ?_
      simp only [Act.put, List.setIfInBounds_toArray, List.set_cons_zero, List.set_cons_succ]
      refine wpList_run (v := .int .i64 10) rfl (ix_add rfl rfl rfl rfl (by decide)) ?_
      simp only [Act.put, List.setIfInBounds_toArray, List.set_cons_zero, List.set_cons_succ]
      refine wpList_run (v := .bool false) rfl (ix_lss rfl rfl rfl (decide_eq_false (by omega))) ?_
      simp only [Act.put, List.setIfInBounds_toArray, List.set_cons_zero, List.set_cons_succ]
      go_upto_region 12 with fail
      refine wp_region_lit ?_
      refine wpList_run (v := .bool false) rfl (gx_assign rfl rfl) ?_
      simp only [Act.put, List.setIfInBounds_toArray, List.set_cons_zero, List.set_cons_succ]
      go_upto_region 13 with fail
      refine wp_region_lit ?_
      refine wpList_run (v := .int .i64 2) rfl (gx_assign rfl rfl) ?_
      simp only [Act.put, List.setIfInBounds_toArray, List.set_cons_zero, List.set_cons_succ]
      go_wp2_with fail
      go_loopg [7, 8] 63 (fun gk fv jv wr => ∃ k : Nat, 2 ≤ k ∧ k + gk = 65 ∧ jv = .int .i64 (k : Int) ∧ fv = .bool (farU b k) ∧ Turn nowhere w2 wr)
      case atStart => exact ⟨2, by omega, by omega, rfl, by rw [farU_two], Turn.refl _ _⟩
      obtain ⟨k, hk2, hkg, rfl, rfl, htr⟩ := hrel
      have HK2 := Lib.hid hk2
      have HKG := Lib.hid hkg
      have HTR := Lib.hid htr
      clear hkg htr
      go_upto_region 14 with fail
      refine wp_region_lit ?_
      refine wpList_run (v := .int .i64 (k : Int)) rfl (exec_move rfl rfl) ?_
      simp only [Act.put, List.setIfInBounds_toArray, List.set_cons_zero, List.set_cons_succ]
      refine wpList_run (v := .int .i64 64) rfl (exec_move rfl rfl) ?_
      simp only [Act.put, List.setIfInBounds_toArray, List.set_cons_zero, List.set_cons_succ]
      by_cases hlt : k ≤ 64
      · refine wpList_run (v := .bool true) rfl (ix_leq rfl rfl rfl (decide_eq_true (by omega))) ?_
        simp only [Act.put, List.setIfInBounds_toArray, List.set_cons_zero, List.set_cons_succ]
        have HLT := Lib.hid hlt
        clear hlt
        obtain ⟨p, hp⟩ : ∃ p, p = k - 1 := ⟨_, rfl⟩
        have HP := Lib.hid hp
        have y4 : (k : Int) - 1 = (p : Int) := by omega
        have y5 : (p : Int) < 128 := by have := HLT.out; omega
        clear hp
        go_upto_region 16 with fail
        refine wp_region_lit ?_
        refine wpList_run (v := .slice (some ⟨g2, o2, none⟩) n2 c2) rfl (exec_move rfl rfl) ?_
        simp only [Act.put, List.setIfInBounds_toArray, List.set_cons_zero, List.set_cons_succ]
        refine wpList_run (v := .int .i64 (k : Int)) rfl (exec_move rfl rfl) ?_
        simp only [Act.put, List.setIfInBounds_toArray, List.set_cons_zero, List.set_cons_succ]
        refine wpList_run (v := .int .i64 (p : Int)) rfl (ix_sub rfl rfl rfl y4 (by omega)) ?_
        simp only [Act.put, List.setIfInBounds_toArray, List.set_cons_zero, List.set_cons_succ]
        refine wpList_run (v := .int .i64 ((p / 8 : Nat) : Int)) rfl (ix_quo (n := p) (m := 8) rfl rfl rfl (by decide) (by omega)) ?_
        simp only [Act.put, List.setIfInBounds_toArray, List.set_cons_zero, List.set_cons_succ]
        refine wpList_run (v := .int .i64 ((2 + p / 8 : Nat) : Int)) rfl (ix_add rfl rfl rfl (by omega) (by omega)) ?_
        simp only [Act.put, List.setIfInBounds_toArray, List.set_cons_zero, List.set_cons_succ]
        refine wpList_run (v := .pointer (some ⟨g2, o2 + (2 + p / 8), none⟩)) rfl (gx_iaddr (i := 2 + p / 8) (sz := 1) rfl rfl rfl Tryz.underlying32 size_u8 (by have := HLEN.out; have := HLT.out; have := HP.out; omega) (by omega)) ?_
        simp only [Act.put, List.setIfInBounds_toArray, List.set_cons_zero, List.set_cons_succ]
        refine wpList_run (v := .int .u8 ((b.getD (2 + p / 8) 0).toNat : Int)) rfl (exec_load1 rfl rfl (by kernel_rfl) (bs_cell (bs_still HS2.out HTR.out) (by have := HLEN.out; have := HLT.out; have := HP.out; omega))) ?_
        simp only [Act.put, List.setIfInBounds_toArray, List.set_cons_zero, List.set_cons_succ]
        refine wpList_run (v := .int .i64 (k : Int)) rfl (exec_move rfl rfl) ?_
        simp only [Act.put, List.setIfInBounds_toArray, List.set_cons_zero, List.set_cons_succ]
        refine wpList_run (v := .int .i64 (p : Int)) rfl (ix_sub rfl rfl rfl y4 (by omega)) ?_
        simp only [Act.put, List.setIfInBounds_toArray, List.set_cons_zero, List.set_cons_succ]
        refine wpList_run (v := .int .i64 ((p % 8 : Nat) : Int)) rfl (ix_rem (n := p) (m := 8) rfl rfl rfl (by decide) (by omega)) ?_
        simp only [Act.put, List.setIfInBounds_toArray, List.set_cons_zero, List.set_cons_succ]
        refine wpList_run (v := .int .i64 ((7 - p % 8 : Nat) : Int)) rfl (ix_sub rfl rfl rfl (by omega) (by omega)) ?_
        simp only [Act.put, List.setIfInBounds_toArray, List.set_cons_zero, List.set_cons_succ]
        refine wpList_run (v := .int .u8 (((b.getD (2 + p / 8) 0).toNat / 2 ^ (7 - p % 8) : Nat) : Int)) rfl (u8_shr rfl rfl rfl (UInt8.toNat_lt _) (by omega)) ?_
        simp only [Act.put, List.setIfInBounds_toArray, List.set_cons_zero, List.set_cons_succ]
        refine wpList_run (v := .int .u8 (((b.getD (2 + p / 8) 0).toNat / 2 ^ (7 - p % 8) % 2 : Nat) : Int)) rfl (u8_rem2 rfl rfl) ?_
        simp only [Act.put, List.setIfInBounds_toArray, List.set_cons_zero, List.set_cons_succ]
        refine wpList_run (v := .bool (bit2 b k)) rfl (u8_eql rfl rfl rfl (by rw [HP.out]; exact bit2_eq b k)) ?_
        simp only [Act.put, List.setIfInBounds_toArray, List.set_cons_zero, List.set_cons_succ]
        refine wpList_run (v := .bool (bit2 b k)) rfl (gx_assign rfl rfl) ?_
        simp only [Act.put, List.setIfInBounds_toArray, List.set_cons_zero, List.set_cons_succ]
        go_upto_region 17 with fail
        refine wp_region_lit ?_
        refine wpList_run (v := msgV ty A n c) rfl (gx_loads rfl rfl (blk_range (HBgm.out.turn ((HT1.out.trans HT2.out (fun _ _ e => e)).trans HTR.out (fun _ _ e => e)) (fun e => e))) Tryz.underlying31 rfl (by rw [size_msg]; rfl)) ?_
        simp only [Act.put, List.setIfInBounds_toArray, List.set_cons_zero, List.set_cons_succ]
        refine wpList_run (v := .int .i64 (k : Int)) rfl (exec_move rfl rfl) ?_
        simp only [Act.put, List.setIfInBounds_toArray, List.set_cons_zero, List.set_cons_succ]
        have HBK := Lib.hid (HBITS.out k HK2.out HLT.out)
        have hG := Get_walk (w := wr) (ty := ty) (no := (k : Int)) (c := c) (HF.out.still (((HT0.out.trans HT1.out (fun _ _ e => e)).trans HT2.out (fun _ _ e => e)).trans HTR.out (fun _ _ e => e)))
        cases hgm : getM (k : Int) fs with
        | none =>
          rw [hgm] at hG
          have HBV := Lib.hid (show bit2 b k = false from by rw [HBK.out, hgm]; rfl)
          have hbv := HBV.out
          rw [hbv]
          clear hbv hgm
          refine wpList_op rfl fun K9 HK9 => ?_
          go_wp2_with fail
          refine (hG).mono ?_
          rintro e w3 ⟨rfl, htx⟩
          refine HK9.out _ _ ?_
          clear HK9
          try simp only [Act.put, List.setIfInBounds_toArray, List.set_cons_zero, List.set_cons_succ]
          clear hG
          have HT3 := Lib.hid htx
          clear htx
          refine wpList_run (v := .tuple #[strV [], .bool false]) rfl (exec_move rfl rfl) ?_
          simp only [Act.put, List.setIfInBounds_toArray, List.set_cons_zero, List.set_cons_succ]
          refine wpList_run (v := strV []) rfl (ix_extract rfl rfl rfl) ?_
          simp only [Act.put, List.setIfInBounds_toArray, List.set_cons_zero, List.set_cons_succ]
          refine wpList_run (v := .bool false) rfl (ix_extract rfl rfl rfl) ?_
          simp only [Act.put, List.setIfInBounds_toArray, List.set_cons_zero, List.set_cons_succ]
          refine wpList_run (v := strV []) rfl (gx_assign rfl rfl) ?_
          simp only [Act.put, List.setIfInBounds_toArray, List.set_cons_zero, List.set_cons_succ]
          refine wpList_run (v := .bool false) rfl (gx_assign rfl rfl) ?_
          simp only [Act.put, List.setIfInBounds_toArray, List.set_cons_zero, List.set_cons_succ]
          go_upto_region 18 with fail
          refine wp_region_lit ?_
          refine wpList_run (v := .bool false) rfl (exec_move rfl rfl) ?_
          simp only [Act.put, List.setIfInBounds_toArray, List.set_cons_zero, List.set_cons_succ]
          refine wpList_run (v := .bool false) rfl (exec_move rfl rfl) ?_
          simp only [Act.put, List.setIfInBounds_toArray, List.set_cons_zero, List.set_cons_succ]
          refine wpList_run (v := .bool false) rfl (bx_neb (p := false) (q := false) rfl rfl rfl) ?_
          simp only [Act.put, List.setIfInBounds_toArray, List.set_cons_zero, List.set_cons_succ]
          cases hfa : farU b k with
          | true =>
            go_upto_region 20 with fail
            refine wp_region_lit ?_
            refine wpList_run (v := .bool true) rfl (exec_move rfl rfl) ?_
            simp only [Act.put, List.setIfInBounds_toArray, List.set_cons_zero, List.set_cons_succ]
            refine wpList_run (v := .bool true) rfl (exec_move rfl rfl) ?_
            simp only [Act.put, List.setIfInBounds_toArray, List.set_cons_zero, List.set_cons_succ]
            refine wpList_skip (by go_simp) ?_
            simp only [Act.put, List.setIfInBounds_toArray, List.set_cons_zero, List.set_cons_succ]
            refine wpList_skip (by go_simp) ?_
            simp only [Act.put, List.setIfInBounds_toArray, List.set_cons_zero, List.set_cons_succ]
            refine wpList_skip (by go_simp; intro h; cases h) ?_
            simp only [Act.put, List.setIfInBounds_toArray, List.set_cons_zero, List.set_cons_succ]
            refine wpList_skip (by go_simp; intro h; cases h) ?_
            simp only [Act.put, List.setIfInBounds_toArray, List.set_cons_zero, List.set_cons_succ]
            refine wpList_skip (by go_simp) ?_
            simp only [Act.put, List.setIfInBounds_toArray, List.set_cons_zero, List.set_cons_succ]
            refine wpList_run (v := .bool true) rfl (ix_pickT rfl rfl rfl) ?_
            simp only [Act.put, List.setIfInBounds_toArray, List.set_cons_zero, List.set_cons_succ]
            refine wpList_run (v := .bool true) rfl (gx_assign rfl rfl) ?_
            simp only [Act.put, List.setIfInBounds_toArray, List.set_cons_zero, List.set_cons_succ]
            have HFN := Lib.hid (show farU b (k + 1) = true from by rw [farU_next, hfa, Bool.true_or])
            clear hfa
            go_upto_region 15 with fail
            refine wp_region_lit ?_
            refine wpList_run (v := .int .i64 (k : Int)) rfl (exec_move rfl rfl) ?_
            simp only [Act.put, List.setIfInBounds_toArray, List.set_cons_zero, List.set_cons_succ]
            refine wpList_run (v := .int .i64 ((k + 1 : Nat) : Int)) rfl (ix_add rfl rfl rfl (by omega) (by omega)) ?_
            simp only [Act.put, List.setIfInBounds_toArray, List.set_cons_zero, List.set_cons_succ]
            refine wpList_run (v := .int .i64 ((k + 1 : Nat) : Int)) rfl (gx_assign rfl rfl) ?_
            simp only [Act.put, List.setIfInBounds_toArray, List.set_cons_zero, List.set_cons_succ]
            go_wp2_with fail
            go_roundg (gk - 1)
            case measure => have := HKG.out; have := HLT.out; omega
            case rel => exact ⟨k + 1, by omega, by have := HKG.out; have := HLT.out; omega, by go_num, by rw [HFN.out], HTR.out.trans HT3.out (fun _ _ e => e)⟩
          | false =>
            go_upto_region 20 with fail
            refine wp_region_lit ?_
            refine wpList_run (v := .bool false) rfl (exec_move rfl rfl) ?_
            simp only [Act.put, List.setIfInBounds_toArray, List.set_cons_zero, List.set_cons_succ]
            refine wpList_run (v := .bool false) rfl (exec_move rfl rfl) ?_
            simp only [Act.put, List.setIfInBounds_toArray, List.set_cons_zero, List.set_cons_succ]
            refine wpList_run (v := .bool false) rfl (exec_move rfl rfl) ?_
            simp only [Act.put, List.setIfInBounds_toArray, List.set_cons_zero, List.set_cons_succ]
            refine wpList_run (v := .bool false) rfl (exec_move rfl rfl) ?_
            simp only [Act.put, List.setIfInBounds_toArray, List.set_cons_zero, List.set_cons_succ]
            refine wpList_skip (by go_simp) ?_
            simp only [Act.put, List.setIfInBounds_toArray, List.set_cons_zero, List.set_cons_succ]
            refine wpList_skip (by go_simp) ?_
            simp only [Act.put, List.setIfInBounds_toArray, List.set_cons_zero, List.set_cons_succ]
            refine wpList_run (v := .bool false) rfl (ix_pickF rfl rfl rfl) ?_
            simp only [Act.put, List.setIfInBounds_toArray, List.set_cons_zero, List.set_cons_succ]
            refine wpList_run (v := .bool false) rfl (ix_pickF rfl rfl rfl) ?_
            simp only [Act.put, List.setIfInBounds_toArray, List.set_cons_zero, List.set_cons_succ]
            refine wpList_run (v := .bool false) rfl (gx_assign rfl rfl) ?_
            simp only [Act.put, List.setIfInBounds_toArray, List.set_cons_zero, List.set_cons_succ]
            have HFN := Lib.hid (show farU b (k + 1) = false from by rw [farU_next, hfa, HBV.out, Bool.and_false, Bool.false_or])
            clear hfa
            go_upto_region 15 with fail
            refine wp_region_lit ?_
            refine wpList_run (v := .int .i64 (k : Int)) rfl (exec_move rfl rfl) ?_
            simp only [Act.put, List.setIfInBounds_toArray, List.set_cons_zero, List.set_cons_succ]
            refine wpList_run (v := .int .i64 ((k + 1 : Nat) : Int)) rfl (ix_add rfl rfl rfl (by omega) (by omega)) ?_
            simp only [Act.put, List.setIfInBounds_toArray, List.set_cons_zero, List.set_cons_succ]
            refine wpList_run (v := .int .i64 ((k + 1 : Nat) : Int)) rfl (gx_assign rfl rfl) ?_
            simp only [Act.put, List.setIfInBounds_toArray, List.set_cons_zero, List.set_cons_succ]
            go_wp2_with fail
            go_roundg (gk - 1)
            case measure => have := HKG.out; have := HLT.out; omega
            case rel => exact ⟨k + 1, by omega, by have := HKG.out; have := HLT.out; omega, by go_num, by rw [HFN.out], HTR.out.trans HT3.out (fun _ _ e => e)⟩
        | some t =>
          rw [hgm] at hG
          have HBV := Lib.hid (show bit2 b k = true from by rw [HBK.out, hgm]; rfl)
          have hbv := HBV.out
          rw [hbv]
          clear hbv hgm
          refine wpList_op rfl fun K9 HK9 => ?_
          go_wp2_with fail
          refine (hG).mono ?_
          rintro e w3 ⟨rfl, htx⟩
          refine HK9.out _ _ ?_
          clear HK9
          try simp only [Act.put, List.setIfInBounds_toArray, List.set_cons_zero, List.set_cons_succ]
          clear hG
          have HT3 := Lib.hid htx
          clear htx
          refine wpList_run (v := .tuple #[strV t, .bool true]) rfl (exec_move rfl rfl) ?_
          simp only [Act.put, List.setIfInBounds_toArray, List.set_cons_zero, List.set_cons_succ]
          refine wpList_run (v := strV t) rfl (ix_extract rfl rfl rfl) ?_
          simp only [Act.put, List.setIfInBounds_toArray, List.set_cons_zero, List.set_cons_succ]
          refine wpList_run (v := .bool true) rfl (ix_extract rfl rfl rfl) ?_
          simp only [Act.put, List.setIfInBounds_toArray, List.set_cons_zero, List.set_cons_succ]
          refine wpList_run (v := strV t) rfl (gx_assign rfl rfl) ?_
          simp only [Act.put, List.setIfInBounds_toArray, List.set_cons_zero, List.set_cons_succ]
          refine wpList_run (v := .bool true) rfl (gx_assign rfl rfl) ?_
          simp only [Act.put, List.setIfInBounds_toArray, List.set_cons_zero, List.set_cons_succ]
          go_upto_region 18 with fail
          refine wp_region_lit ?_
          refine wpList_run (v := .bool true) rfl (exec_move rfl rfl) ?_
          simp only [Act.put, List.setIfInBounds_toArray, List.set_cons_zero, List.set_cons_succ]
          refine wpList_run (v := .bool true) rfl (exec_move rfl rfl) ?_
          simp only [Act.put, List.setIfInBounds_toArray, List.set_cons_zero, List.set_cons_succ]
          refine wpList_run (v := .bool false) rfl (bx_neb (p := true) (q := true) rfl rfl rfl) ?_
          simp only [Act.put, List.setIfInBounds_toArray, List.set_cons_zero, List.set_cons_succ]
          cases hfa : farU b k with
          | true =>
            go_upto_region 20 with fail
            refine wp_region_lit ?_
            refine wpList_run (v := .bool true) rfl (exec_move rfl rfl) ?_
            simp only [Act.put, List.setIfInBounds_toArray, List.set_cons_zero, List.set_cons_succ]
            refine wpList_run (v := .bool true) rfl (exec_move rfl rfl) ?_
            simp only [Act.put, List.setIfInBounds_toArray, List.set_cons_zero, List.set_cons_succ]
            refine wpList_skip (by go_simp) ?_
            simp only [Act.put, List.setIfInBounds_toArray, List.set_cons_zero, List.set_cons_succ]
            refine wpList_skip (by go_simp) ?_
            simp only [Act.put, List.setIfInBounds_toArray, List.set_cons_zero, List.set_cons_succ]
            refine wpList_skip (by go_simp; intro h; cases h) ?_
            simp only [Act.put, List.setIfInBounds_toArray, List.set_cons_zero, List.set_cons_succ]
            refine wpList_skip (by go_simp; intro h; cases h) ?_
            simp only [Act.put, List.setIfInBounds_toArray, List.set_cons_zero, List.set_cons_succ]
            refine wpList_skip (by go_simp) ?_
            simp only [Act.put, List.setIfInBounds_toArray, List.set_cons_zero, List.set_cons_succ]
            refine wpList_run (v := .bool true) rfl (ix_pickT rfl rfl rfl) ?_
            simp only [Act.put, List.setIfInBounds_toArray, List.set_cons_zero, List.set_cons_succ]
            refine wpList_run (v := .bool true) rfl (gx_assign rfl rfl) ?_
            simp only [Act.put, List.setIfInBounds_toArray, List.set_cons_zero, List.set_cons_succ]
            have HFN := Lib.hid (show farU b (k + 1) = true from by rw [farU_next, hfa, Bool.true_or])
            clear hfa
            go_upto_region 15 with fail
            refine wp_region_lit ?_
            refine wpList_run (v := .int .i64 (k : Int)) rfl (exec_move rfl rfl) ?_
            simp only [Act.put, List.setIfInBounds_toArray, List.set_cons_zero, List.set_cons_succ]
            refine wpList_run (v := .int .i64 ((k + 1 : Nat) : Int)) rfl (ix_add rfl rfl rfl (by omega) (by omega)) ?_
            simp only [Act.put, List.setIfInBounds_toArray, List.set_cons_zero, List.set_cons_succ]
            refine wpList_run (v := .int .i64 ((k + 1 : Nat) : Int)) rfl (gx_assign rfl rfl) ?_
            simp only [Act.put, List.setIfInBounds_toArray, List.set_cons_zero, List.set_cons_succ]
            go_wp2_with fail
            go_roundg (gk - 1)
            case measure => have := HKG.out; have := HLT.out; omega
            case rel => exact ⟨k + 1, by omega, by have := HKG.out; have := HLT.out; omega, by go_num, by rw [HFN.out], HTR.out.trans HT3.out (fun _ _ e => e)⟩
          | false =>
            go_upto_region 20 with fail
            refine wp_region_lit ?_
            refine wpList_run (v := .bool false) rfl (exec_move rfl rfl) ?_
            simp only [Act.put, List.setIfInBounds_toArray, List.set_cons_zero, List.set_cons_succ]
            refine wpList_run (v := .bool false) rfl (exec_move rfl rfl) ?_
            simp only [Act.put, List.setIfInBounds_toArray, List.set_cons_zero, List.set_cons_succ]
            refine wpList_run (v := .bool true) rfl (exec_move rfl rfl) ?_
            simp only [Act.put, List.setIfInBounds_toArray, List.set_cons_zero, List.set_cons_succ]
            refine wpList_run (v := .bool true) rfl (exec_move rfl rfl) ?_
            simp only [Act.put, List.setIfInBounds_toArray, List.set_cons_zero, List.set_cons_succ]
            refine wpList_run (v := .int .i64 (k : Int)) rfl (exec_move rfl rfl) ?_
            simp only [Act.put, List.setIfInBounds_toArray, List.set_cons_zero, List.set_cons_succ]
            by_cases h64 : 64 < k
            · refine wpList_run (v := .bool true) rfl (ix_gtr rfl rfl rfl (decide_eq_true (by omega))) ?_
              simp only [Act.put, List.setIfInBounds_toArray, List.set_cons_zero, List.set_cons_succ]
              refine wpList_run (v := .bool true) rfl (ix_pickT rfl rfl rfl) ?_
              simp only [Act.put, List.setIfInBounds_toArray, List.set_cons_zero, List.set_cons_succ]
              refine wpList_run (v := .bool true) rfl (ix_pickF rfl rfl rfl) ?_
              simp only [Act.put, List.setIfInBounds_toArray, List.set_cons_zero, List.set_cons_succ]
              refine wpList_run (v := .bool true) rfl (gx_assign rfl rfl) ?_
              simp only [Act.put, List.setIfInBounds_toArray, List.set_cons_zero, List.set_cons_succ]
              have HFN := Lib.hid (show farU b (k + 1) = true from by rw [farU_next, hfa, HBV.out, decide_eq_true h64, Bool.and_true, Bool.false_or])
              clear hfa
              go_upto_region 15 with fail
              refine wp_region_lit ?_
              refine wpList_run (v := .int .i64 (k : Int)) rfl (exec_move rfl rfl) ?_
              simp only [Act.put, List.setIfInBounds_toArray, List.set_cons_zero, List.set_cons_succ]
              refine wpList_run (v := .int .i64 ((k + 1 : Nat) : Int)) rfl (ix_add rfl rfl rfl (by omega) (by omega)) ?_
              simp only [Act.put, List.setIfInBounds_toArray, List.set_cons_zero, List.set_cons_succ]
              refine wpList_run (v := .int .i64 ((k + 1 : Nat) : Int)) rfl (gx_assign rfl rfl) ?_
              simp only [Act.put, List.setIfInBounds_toArray, List.set_cons_zero, List.set_cons_succ]
              go_wp2_with fail
              go_roundg (gk - 1)
              case measure => have := HKG.out; have := HLT.out; omega
              case rel => exact ⟨k + 1, by omega, by have := HKG.out; have := HLT.out; omega, by go_num, by rw [HFN.out], HTR.out.trans HT3.out (fun _ _ e => e)⟩
            · refine wpList_run (v := .bool false) rfl (ix_gtr rfl rfl rfl (decide_eq_false (by omega))) ?_
              simp only [Act.put, List.setIfInBounds_toArray, List.set_cons_zero, List.set_cons_succ]
              refine wpList_run (v := .bool false) rfl (ix_pickT rfl rfl rfl) ?_
              simp only [Act.put, List.setIfInBounds_toArray, List.set_cons_zero, List.set_cons_succ]
              refine wpList_run (v := .bool false) rfl (ix_pickF rfl rfl rfl) ?_
              simp only [Act.put, List.setIfInBounds_toArray, List.set_cons_zero, List.set_cons_succ]
              refine wpList_run (v := .bool false) rfl (gx_assign rfl rfl) ?_
              simp only [Act.put, List.setIfInBounds_toArray, List.set_cons_zero, List.set_cons_succ]
              have HFN := Lib.hid (show farU b (k + 1) = false from by rw [farU_next, hfa, HBV.out, decide_eq_false h64, Bool.and_true, Bool.false_or])
              clear hfa
              go_upto_region 15 with fail
              refine wp_region_lit ?_
              refine wpList_run (v := .int .i64 (k : Int)) rfl (exec_move rfl rfl) ?_
              simp only [Act.put, List.setIfInBounds_toArray, List.set_cons_zero, List.set_cons_succ]
              refine wpList_run (v := .int .i64 ((k + 1 : Nat) : Int)) rfl (ix_add rfl rfl rfl (by omega) (by omega)) ?_
              simp only [Act.put, List.setIfInBounds_toArray, List.set_cons_zero, List.set_cons_succ]
              refine wpList_run (v := .int .i64 ((k + 1 : Nat) : Int)) rfl (gx_assign rfl rfl) ?_
              simp only [Act.put, List.setIfInBounds_toArray, List.set_cons_zero, List.set_cons_succ]
              go_wp2_with fail
              go_roundg (gk - 1)
              case measure => have := HKG.out; have := HLT.out; omega
              case rel => exact ⟨k + 1, by omega, by have := HKG.out; have := HLT.out; omega, by go_num, by rw [HFN.out], HTR.out.trans HT3.out (fun _ _ e => e)⟩
      · refine wpList_run (v := .bool false) rfl (ix_leq rfl rfl rfl (decide_eq_false (by omega))) ?_
        simp only [Act.put, List.setIfInBounds_toArray, List.set_cons_zero, List.set_cons_succ]
        obtain rfl : k = 65 := by have := HKG.out; omega
        have hfa : farU b 65 = false := farU_64 b
        rw [hfa]
        clear hfa hlt
        go_upto_region 21 with fail
        refine wp_region_lit ?_
        refine wpList_run (v := .bool false) rfl (exec_move rfl rfl) ?_
        simp only [Act.put, List.setIfInBounds_toArray, List.set_cons_zero, List.set_cons_succ]
        refine wpList_run (v := .int .i64 64) rfl (exec_move rfl rfl) ?_
        simp only [Act.put, List.setIfInBounds_toArray, List.set_cons_zero, List.set_cons_succ]
        refine wpList_run (v := .bool false) rfl (ix_eql rfl rfl rfl (by decide)) ?_
        simp only [Act.put, List.setIfInBounds_toArray, List.set_cons_zero, List.set_cons_succ]
        refine wpList_run (v := .bool true) rfl (bx_eqb (p := false) (q := false) rfl rfl rfl) ?_
        simp only [Act.put, List.setIfInBounds_toArray, List.set_cons_zero, List.set_cons_succ]
        refine wpList_run (v := .bool true) rfl (gx_assign rfl rfl) ?_
        simp only [Act.put, List.setIfInBounds_toArray, List.set_cons_zero, List.set_cons_succ]
        go_wp2_with fail
        go_ret
        exact ⟨rfl, ((((HT0.out.trans HT1.out (fun _ _ e => e)).trans HT2.out (fun _ _ e => e)).trans HTR.out (fun _ _ e => e))).below (Nat.le_refl _) (fun _ _ e => e)⟩
end Go.Proofs.YtkbdijkoedmgnaaGreatDoor

namespace Go.Proofs.YtkbdijkoedmgnaaGreatDoor.messageMaps
open Go.ChangeShapes Go.WideShapes Go.ChangeAt Go.RowKit
open Go.ChangeMaps (open_string shut_string)
set_option linter.unusedVariables false

theorem own : ownKnob Tryz.prog.godebug = none := by kernel_rfl
theorem laidOut : laidOutB Tryz.prog = true := by kernel_rfl

set_option maxRecDepth 100000 in
/-- WHAT THE WALK GIVES, FOR EVERY ARGUMENT AND EVERY WORLD: the same for both forms. -/
theorem contract (H : Type) (enc : TypeId × Value → H) (W : World) (base : Nat) (args : Array Value) (ds gs : List (DataW H)) (before : List MemPlace)
    (hval : ∀ (j : Nat) t v, Tryz.f11.params[j]? = some t → args[j]? = some v → Value.okWide Tryz.prog W .any base t v)
    (hW : DataW.Whole enc Tryz.prog Tryz.f11.params.toList Rows.messageMapsSpec.vars false W args.toList ds gs before) (hsz0 : (DataW.weightsEach Tryz.prog (Tryz.f11.params.toList ++ Rows.messageMapsSpec.plain.varTypes Tryz.prog) (ds ++ gs)).all (· ≤ reachBytes) = true) (hL : laidMetH Tryz.prog Rows.messageMapsRow.laid W) (hsh : W.ShapedOpen Tryz.prog) :
    Calls Tryz.prog 11 args W fun e W' => ∃ v, e = .returned v ∧ Rows.messageMapsSpec.post enc Tryz.prog Tryz.f11 false true false false W args v W' := by
  have hW' := hW
  obtain ⟨p, q, hA0, hV, rfl, hfz, hnd⟩ := hW
  have hA : DataW.TrodAll enc Tryz.prog W 0 (fun _ => true) true Tryz.f11.params.toList args.toList ds p := hA0
  have hsz : (DataW.weightsEach Tryz.prog (Tryz.f11.params.toList ++ Rows.messageMapsSpec.plain.varTypes Tryz.prog) (ds ++ gs)).all (· ≤ reachBytes) = true := hsz0
  rw [Tryz.params11] at hA hval hsz
  obtain ⟨v0, vs0, d0, ds0, p0, q0, hargs, rfl, rfl, h0, r0⟩ := trodAll_cons hA
  obtain ⟨rfl, rfl, rfl⟩ := trodAll_nil r0
  obtain rfl : args = #[v0] := by cases args; simp_all
  obtain ⟨rfl, rfl⟩ := trodVars_none hV
  have k0 := h0
  have lt0 : ∀ x ∈ p0, x.block < W.heap.size := by obtain ⟨m, hm⟩ := k0; exact DataW.trod_lt m _ _ _ hm
  obtain ⟨ty0, a0, len0, cap0, z0, rfl, w0, tyw0, lc0, nn0, fw0⟩ := msg_of (hval 0 31 v0 rfl rfl) h0 (fun x hx => by simpa using List.all_eq_true.1 hsz _ (DataW.weights_mem_each (j := 0) (t := 31) rfl rfl x hx))
  obtain ⟨s, henv⟩ := env_of_laid (l := Rows.messageMapsRow.laid) rfl hL
  clear hA0
  refine (messageMaps_walk  W henv w0).mono fun e W' ⟨he, bel⟩ => ?_
  subst he
  exact ⟨_, rfl, _, _, _, [], _, [], hW', trodAll_mk1 (shut_bool Tryz.underlying4 _), (trodAll_cons_mk (Below.trod laidOut (by kernel_rfl) (of_decide_eq_true (by kernel_rfl)) k0 bel lt0) trodAll_mk0), rfl, bel.frame _, fun h => by cases h⟩

theorem laid_met (os : Os) : laidMetH Tryz.prog Rows.messageMapsRow.laid ((hworld os Rows.messageMapsRow.laid).forCall (fun _ _ => 0) ⟨#[], #[.agg #[.int .i64 0, .slice none 0 0]], []⟩).memory :=
  laidH_hworld _ (by kernel_rfl) (by kernel_rfl) (by kernel_rfl)
theorem reads (os : Os) {H : Type} (enc : TypeId × Value → H) : ∃ places, DataW.whole enc Tryz.prog ((hworld os Rows.messageMapsRow.laid).forCall (fun _ _ => 0) ⟨#[], #[.agg #[.int .i64 0, .slice none 0 0]], []⟩).memory Tryz.f11.params.toList Rows.messageMapsSpec.vars false [.agg #[.int .i64 0, .slice none 0 0]] 8 = some ([.agg [.lit (.int .i64 0), .nil]], [], places) :=
  ⟨[], by kernel_rfl⟩

set_option maxRecDepth 100000 in
theorem lifted (os : Os) (started : os.Started) (H : Type) (enc : TypeId × Value → H) (F : Stop.Interp) :
    ReturnsInHanded {} Tryz.checked os 11 .any ((OpenSpec.ofChange Rows.messageMapsSpec).preRow enc Tryz.prog Tryz.f11 Rows.messageMapsRow.domain false Rows.messageMapsRow.laid) (((OpenSpec.ofChange Rows.messageMapsSpec).at F).post enc Tryz.prog Tryz.f11 false true false false) := by
  obtain ⟨places, hx⟩ := reads os enc
  refine returnsInHanded_of_row (C := Tryz.checked) (s := OpenSpec.ofChange Rows.messageMapsSpec) own started (by kernel_rfl) Tryz.func11
    (witness_zip (enc := enc) (C := Tryz.checked) false (hworld os Rows.messageMapsRow.laid) #[.agg #[.int .i64 0, .slice none 0 0]] (hworld_os _ _) (World.shaped_of_ZipB (by kernel_rfl) (by kernel_rfl)) (by kernel_rfl)
      (OpenSpec.preRow_of_cond 8 hx (by kernel_rfl) (fun k hk => by cases hk) (by kernel_rfl) (laid_met os))) ?_
  intro W base args ds gs before hval hW _ hcond hsz hL hsh _
  exact contract H enc W base args ds gs before hval hW hsz hL hsh

theorem said : Rows.MessageMapsSaid :=
  OpenClaim.holds_of_cond 11 Tryz.f11 rfl rfl rfl rfl rfl rfl rfl ⟨rfl, rfl, rfl, rfl, rfl⟩ rfl rfl rfl rfl rfl (by kernel_rfl) Tryz.func11 (by kernel_rfl)
    (of_decide_eq_true (by kernel_rfl)) (by unfold Func.isWrapper; first | (rw [if_pos (by decide +kernel)]; kernel_rfl) | (rw [if_neg (by decide +kernel)]; exact ⟨rfl, rfl⟩))
    (fun os started H enc _ F => by rw [OpenClaim.pre_eq_preRow]; exact lifted os started H enc F)

theorem plain (f : FuncId) (fn : Func) (hf : Tryz.pinned.checked.prog.funcNamed "groat/groatlaw05.MessageMaps" = some f) (hfn : Tryz.pinned.checked.prog.funcs[f]? = some fn) :
    true = Tryz.pinned.checked.prog.looks [] ∧ ∀ (j : Nat) t, fn.params[j]? = some t → Tryz.pinned.checked.prog.wantsStandIn t = false := by
  obtain rfl : f = 11 := Option.some.inj ((show Tryz.prog.funcNamed "groat/groatlaw05.MessageMaps" = some 11 by kernel_rfl).symm.trans hf) |>.symm
  obtain rfl : fn = Tryz.f11 := (Option.some.inj (Tryz.func11.symm.trans hfn)).symm
  refine ⟨by kernel_rfl, fun j t ht => ?_⟩
  rw [Tryz.params11] at ht
  have hm : t ∈ [31] := by simpa using Array.mem_of_getElem? ht
  have hall : ([31].all fun u => !Tryz.prog.wantsStandIn u) = true := by kernel_rfl
  exact (show Tryz.prog.wantsStandIn t = false by simpa using List.all_eq_true.1 hall t hm)

/-- THE CARD -/
theorem card : Rows.MessageMapsCardSaid :=
  Claim7.holds_tied_plain_at .later [] _ _ _ _ said (fun _ h => by cases h) (by kernel_rfl) (fun _ h => by cases h) messageMaps_row_tie rfl ⟨rfl, rfl⟩ (by kernel_rfl) rfl plain (by kernel_rfl)
#print axioms card
end Go.Proofs.YtkbdijkoedmgnaaGreatDoor.messageMaps
