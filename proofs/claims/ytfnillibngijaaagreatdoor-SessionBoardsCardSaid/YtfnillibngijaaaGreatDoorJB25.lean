/-
  Texts in one file: MsIq MsIr. Conditions: the tables and the errors read as the program's text lays them.
-/
import Derived.Test.YtfnillibngijaaaGreatDoorJB24
import Derived.Laws.EntriesVeiled
namespace Go.Proofs.YtfnillibngijaaaGreatDoor
open Go.RowKit
open Fdd
set_option linter.unusedVariables false
set_option linter.unusedSimpArgs false
def moreV (q : Nat) : Value := .func (.func 29) #[] #[.pointer (some ⟨q, 0, none⟩)]
theorem exec_mf {P : Program} {a : Act} {o : Oper} {W : World} {fn : Fn} {x : Operand} {u : Value} (ho : o.op = .makeFunc fn #[] #[x]) (hx : a.eval x = u) : (execOp a.eval o).run P W = .ok (.value (.func fn #[] #[u])) W := by
  unfold execOp
  simp only [ho, List.map_toArray, List.map_cons, List.map_nil, hx]
  rfl
theorem build_fldM (no : Int) (t : List UInt8) (W : World) : (Instr.build 53 #[(0, .int .i64 no), (1, strV t)]).run Tryz.prog W = .ok (.agg (fldA (no, t))) W := by kernel_rfl
theorem build_msg2 (ty : Int) (A : Option Addr) (n c : Nat) (W : World) : (Instr.build 49 #[(0, .int .i64 ty), (1, .slice A n c)]).run Tryz.prog W = .ok (.agg #[.int .i64 ty, .slice A n c]) W := by kernel_rfl
theorem bx_slice1 {P : Program} {a : Act} {o : Oper} {t : TypeId} {x : Operand} {u q : Value} {W W' : World} (ho : o.op = .buildSlice t 1 #[(0, x)]) (hx : a.eval x = u)
    (h : (Instr.buildSlice t 1 #[(0, u)]).run P W = .ok q W') : (execOp a.eval o).run P W = .ok (.value q) W' := by
  unfold execOp
  simp only [ho, List.map_toArray, List.map_cons, List.map_nil, hx, h, Sem.run_bind, Sem.run_pure, Result.andThen_ok]
/-- where the first field with a greater number stands, or -1 -/
def idxV (no : Int) (l : List Fld) : Int := if atM no l < l.length then ((atM no l : Nat) : Int) else -1
theorem more_walk {w : World} {f : Fld} {q : Nat} {no : Int} (hq : Blk w q 3 #[.int .i64 no]) :
    Calls Tryz.prog 29 #[.agg (fldA f), .pointer (some ⟨q, 0, none⟩)] w fun e w' => e = .returned (.bool (decide (no < f.1))) ∧ Turn nowhere w w' := by
  have hb0 := Blk.new w 53 (fldA f)
  have hu0 := (Turn.refl nowhere w).alloc (.cells (fldA f) 53)
  have HQ := Lib.hid (hq.turn hu0 (fun e => e))
  clear hq
  go_enter Tryz.func29, Tryz.ntmps29
  go_upto_region 1 with fail
  obtain ⟨g0, hg0⟩ : ∃ g, g = w.heap.size := ⟨_, rfl⟩
  rw [← hg0] at hb0 ⊢
  clear hg0
  have HB := Lib.hid hb0
  have HU := Lib.hid hu0
  clear hb0 hu0
  generalize w.alloc (.cells (fldA f) 53) = w1 at *
  refine wp_region_lit ?_
  refine wpList_run (v := .pointer (some ⟨g0, 0, none⟩)) rfl (exec_field (off := 0) (d := 0) rfl rfl (by kernel_rfl)) ?_
  simp only [Act.put, List.setIfInBounds_toArray, List.set_cons_zero, List.set_cons_succ]
  refine wpList_run (v := .int .i64 f.1) rfl (exec_load1 rfl rfl (by kernel_rfl) (HB.out.cell 0)) ?_
  simp only [Act.put, List.setIfInBounds_toArray, List.set_cons_zero, List.set_cons_succ]
  refine wpList_run (v := .int .i64 no) rfl (exec_load1 rfl rfl (by kernel_rfl) (HQ.out.cell 0)) ?_
  simp only [Act.put, List.setIfInBounds_toArray, List.set_cons_zero, List.set_cons_succ]
  refine wpList_run (v := .bool (decide (no < f.1))) rfl (ix_gtr rfl rfl rfl rfl) ?_
  simp only [Act.put, List.setIfInBounds_toArray, List.set_cons_zero, List.set_cons_succ]
  refine wpList_run (v := .bool (decide (no < f.1))) rfl (gx_assign rfl rfl) ?_
  simp only [Act.put, List.setIfInBounds_toArray, List.set_cons_zero, List.set_cons_succ]
  go_wp2_with fail
  go_ret
  exact ⟨rfl, HU.out⟩
set_option maxRecDepth 20000 in
theorem indexF_walk {w : World} {A : Option Addr} {n c q : Nat} {l : List Fld} {no : Int} (hf : Fl w A n l) (hq : Blk w q 3 #[.int .i64 no]) :
    Calls Tryz.prog 28 #[.slice A n c, moreV q] w fun e w' => e = .returned (.int .i64 (idxV no l)) ∧ Turn nowhere w w' := by
  have HF := Lib.hid hf
  have HN := Lib.hid hf.1
  have HQ := Lib.hid hq
  have y9 : (n : Int) ≤ 140737488355328 := by
    have := hf.2.1
    omega
  clear hf hq
  unfold moreV
  go_enter Tryz.func28, Tryz.ntmps28
  go_upto_region 1 with fail
  refine wp_region_lit ?_
  refine wpList_run (v := .slice A n c) rfl (exec_move rfl rfl) ?_
  simp only [Act.put, List.setIfInBounds_toArray, List.set_cons_zero, List.set_cons_succ]
  refine wpList_run (v := .int .i64 (n : Int)) rfl (gx_len rfl rfl Tryz.underlying47) ?_
  simp only [Act.put, List.setIfInBounds_toArray, List.set_cons_zero, List.set_cons_succ]
  refine wpList_run (v := .int .i64 0) rfl (exec_move rfl rfl) ?_
  simp only [Act.put, List.setIfInBounds_toArray, List.set_cons_zero, List.set_cons_succ]
  go_wp2_with fail
  go_loopg [8] n (fun gk jv wr => ∃ j : Nat, j + gk = n ∧ jv = .int .i64 (j : Int) ∧ Turn nowhere w wr ∧ atM no l = j + atM no (l.drop j))
  case atStart => exact ⟨0, by omega, rfl, Turn.refl _ _, by rw [Nat.zero_add, List.drop_zero]⟩
  obtain ⟨j, hjl, rfl, htr, hat⟩ := hrel
  have HJL := Lib.hid hjl
  have HTR := Lib.hid htr
  have HAT := Lib.hid hat
  clear hjl htr hat
  go_upto_region 2 with fail
  refine wp_region_lit ?_
  by_cases hlt : j < n
  · have HLT := Lib.hid hlt
    have y1 : (j : Int) < (n : Int) := by omega
    obtain ⟨bF, oF, rfl, hr⟩ := HF.out.2.2 (by omega)
    obtain ⟨f, hf⟩ : ∃ f, l[j]? = some f := ⟨_, List.getElem?_eq_getElem (show j < l.length from by rw [HN.out]; exact hlt)⟩
    have HRR := Lib.hid (show wr.rangeAt bF (oF + j * 2) (fldA f).toList from fun i v hv => (HTR.out.cell (World.block_lt_of_cell? _ _ (hr j f hf i v hv)) (fun e => e)).trans (hr j f hf i v hv))
    have HST := Lib.hid (at_step (no := no) hf)
    clear hr hf hlt
    refine wpList_run (v := .bool true) rfl (ix_lss rfl rfl rfl (decide_eq_true y1)) ?_
    simp only [Act.put, List.setIfInBounds_toArray, List.set_cons_zero, List.set_cons_succ]
    go_upto_region 3 with fail
    refine wp_region_lit ?_
    refine wpList_run (v := .int .i64 (j : Int)) rfl (exec_move rfl rfl) ?_
    simp only [Act.put, List.setIfInBounds_toArray, List.set_cons_zero, List.set_cons_succ]
    refine wpList_run (v := .int .i64 (j : Int)) rfl (gx_assign rfl rfl) ?_
    simp only [Act.put, List.setIfInBounds_toArray, List.set_cons_zero, List.set_cons_succ]
    go_upto_region 4 with fail
    refine wp_region_lit ?_
    refine wpList_run (v := .func (.func 29) #[] #[.pointer (some ⟨q, 0, none⟩)]) rfl (exec_move rfl rfl) ?_
    simp only [Act.put, List.setIfInBounds_toArray, List.set_cons_zero, List.set_cons_succ]
    refine wpList_run (v := .slice (some ⟨bF, oF, none⟩) n c) rfl (exec_move rfl rfl) ?_
    simp only [Act.put, List.setIfInBounds_toArray, List.set_cons_zero, List.set_cons_succ]
    refine wpList_run (v := .int .i64 (j : Int)) rfl (exec_move rfl rfl) ?_
    simp only [Act.put, List.setIfInBounds_toArray, List.set_cons_zero, List.set_cons_succ]
    refine wpList_run (v := .pointer (some ⟨bF, oF + j * 2, none⟩)) rfl (gx_iaddr (i := j) (sz := 2) rfl rfl rfl Tryz.underlying47 size_field HLT.out (by omega)) ?_
    simp only [Act.put, List.setIfInBounds_toArray, List.set_cons_zero, List.set_cons_succ]
    refine wpList_run (v := .agg (fldA f)) rfl (gx_loads rfl rfl HRR.out Tryz.underlying53 rfl (by rw [size_field]; rfl)) ?_
    simp only [Act.put, List.setIfInBounds_toArray, List.set_cons_zero, List.set_cons_succ]
    refine wpList_op rfl fun K9 HK9 => ?_
    go_wp2_with fail
    refine (more_walk (HQ.out.turn HTR.out (fun e => e))).mono ?_
    rintro e w3 ⟨rfl, ht3⟩
    refine HK9.out _ _ ?_
    clear HK9
    try simp only [Act.put, List.setIfInBounds_toArray, List.set_cons_zero, List.set_cons_succ]
    have HT3 := Lib.hid (HTR.out.trans ht3 (fun _ _ e => e))
    clear ht3
    by_cases hlt : no < f.1
    · have HE := Lib.hid (show idxV no l = (j : Int) from by
        unfold idxV
        have h := HAT.out
        rw [HST.out, if_pos hlt] at h
        rw [if_pos (by have := HLT.out; have := HN.out; omega)]
        omega)
      rw [decide_eq_true hlt]
      clear hlt
      go_wp2_with fail
      go_ret
      rw [HE.out]
      exact ⟨rfl, HT3.out⟩
    · have HA2 := Lib.hid (show atM no l = (j + 1) + atM no (l.drop (j + 1)) from by
        have h := HAT.out
        rw [HST.out, if_neg hlt] at h
        omega)
      rw [decide_eq_false hlt]
      clear hlt
      go_wp2_with fail
      go_roundg (gk - 1)
      case measure => have := HJL.out; have := HLT.out; omega
      case rel => exact ⟨j + 1, by have := HJL.out; have := HLT.out; omega, by go_num, HT3.out, HA2.out⟩
  · refine wpList_run (v := .bool false) rfl (ix_lss rfl rfl rfl (decide_eq_false (by omega))) ?_
    simp only [Act.put, List.setIfInBounds_toArray, List.set_cons_zero, List.set_cons_succ]
    have HE := Lib.hid (show idxV no l = -1 from by
      unfold idxV
      have h := HAT.out
      have := HN.out
      rw [at_end (by omega)] at h
      rw [if_neg (by omega)])
    clear hlt
    go_wp2_with fail
    go_ret
    rw [HE.out]
    exact ⟨rfl, HTR.out⟩
end Go.Proofs.YtfnillibngijaaaGreatDoor
namespace Go.Proofs.YtfnillibngijaaaGreatDoor
open Go.RowKit
open Fdd
set_option linter.unusedVariables false
set_option linter.unusedSimpArgs false
/-- what Set answers -/
def SetP (ty no : Int) (t : List UInt8) (fs : List Fld) (w : World) (e : Ending) (w' : World) : Prop :=
  ∃ A n c, e = .returned (msgV ty A n c) ∧ (setM no t fs).length = n ∧ FRow w' w.heap.size (.slice A n c) (setM no t fs) ∧ Turn nowhere w w'
set_option maxRecDepth 20000 in
set_option maxHeartbeats 4000000 in
theorem Set_walk {w : World} {ty no : Int} {t : List UInt8} {A : Option Addr} {n c : Nat} {fs : List Fld} (hf : Fl w A n fs) (hr : n * 24 ≤ 140737488351232) :
    Calls Tryz.prog 22 #[msgV ty A n c, .int .i64 no, strV t] w (SetP ty no t fs w) := by
  have HF := Lib.hid hf
  have HNL := Lib.hid hf.1
  have HRM := Lib.hid hr
  have y9 : (n : Int) ≤ 140737488355328 := by
    have := hf.2.1
    omega
  clear hf hr
  unfold msgV
  have hb0 := ((Blk.new w 49 #[.int .i64 ty, .slice A n c]).alloc (.cells #[.int .i64 no] 3)).alloc (.cells #[.int .i64 0, .slice none 0 0] 49)
  have hb1 := (Blk.new (w.alloc (.cells #[.int .i64 ty, .slice A n c] 49)) 3 #[.int .i64 no]).alloc (.cells #[.int .i64 0, .slice none 0 0] 49)
  have hb2 := Blk.new ((w.alloc (.cells #[.int .i64 ty, .slice A n c] 49)).alloc (.cells #[.int .i64 no] 3)) 49 #[.int .i64 0, .slice none 0 0]
  have hu := (((Turn.refl nowhere w).alloc (.cells #[.int .i64 ty, .slice A n c] 49)).alloc (.cells #[.int .i64 no] 3)).alloc (.cells #[.int .i64 0, .slice none 0 0] 49)
  rw [show (w.alloc (.cells #[.int .i64 ty, .slice A n c] 49)).heap.size = w.heap.size + 1 from by simp] at hb1
  rw [show ((w.alloc (.cells #[.int .i64 ty, .slice A n c] 49)).alloc (.cells #[.int .i64 no] 3)).heap.size = w.heap.size + 1 + 1 from by simp] at hb2
  go_enter Tryz.func22, Tryz.ntmps22
  go_upto_region 1 with fail
  obtain ⟨g6, hg6⟩ : ∃ g, g = w.heap.size + 1 + 1 := ⟨_, rfl⟩
  obtain ⟨gq, hgq⟩ : ∃ g, g = w.heap.size + 1 := ⟨_, rfl⟩
  obtain ⟨gm, hgm⟩ : ∃ g, g = w.heap.size := ⟨_, rfl⟩
  rw [← hg6] at hb2 ⊢
  rw [← hgq] at hb1 ⊢
  rw [← hgm] at hb0 ⊢
  have HG6 := Lib.hid (show w.heap.size ≤ g6 from by omega)
  have HGN := Lib.hid (show gm ≠ g6 ∧ gq ≠ g6 from ⟨by omega, by omega⟩)
  clear hg6 hgq hgm
  generalize ((w.alloc (.cells #[.int .i64 ty, .slice A n c] 49)).alloc (.cells #[.int .i64 no] 3)).alloc (.cells #[.int .i64 0, .slice none 0 0] 49) = w1 at *
  have HBM := Lib.hid hb0
  have HBQ := Lib.hid hb1
  have HB6 := Lib.hid hb2
  have HT0 := Lib.hid hu
  have HF1 := Lib.hid (HF.out.still hu)
  clear hb0 hb1 hb2 hu
  refine wp_region_lit ?_
  refine wpList_run (v := .slice none 0 0) rfl (gx_assign rfl rfl) ?_
  simp only [Act.put, List.setIfInBounds_toArray, List.set_cons_zero, List.set_cons_succ]
  go_upto_region 2 with fail
  refine wp_region_lit ?_
  refine wpList_run (v := .pointer (some ⟨gm, 1, none⟩)) rfl (exec_field (off := 0) (d := 1) rfl rfl (by kernel_rfl)) ?_
  simp only [Act.put, List.setIfInBounds_toArray, List.set_cons_zero, List.set_cons_succ]
  refine wpList_run (v := .slice A n c) rfl (exec_load1 rfl rfl (by kernel_rfl) (HBM.out.cell 1)) ?_
  simp only [Act.put, List.setIfInBounds_toArray, List.set_cons_zero, List.set_cons_succ]
  refine wpList_run (v := .int .i64 (n : Int)) rfl (gx_len rfl rfl Tryz.underlying47) ?_
  simp only [Act.put, List.setIfInBounds_toArray, List.set_cons_zero, List.set_cons_succ]
  refine wpList_run (v := .int .i64 0) rfl (exec_move rfl rfl) ?_
  simp only [Act.put, List.setIfInBounds_toArray, List.set_cons_zero, List.set_cons_succ]
  go_wp2_with fail
  go_loopg [7, 14] n (fun gk lv jv wr => ∃ (j : Nat) (l : List Fld) (B : Option Addr) (k d : Nat), j + gk = n ∧ jv = .int .i64 (j : Int) ∧ lv = .slice B k d ∧ l.length = k ∧ k ≤ j ∧ others no (fs.take j) = l ∧ FRow wr w1.heap.size (.slice B k d) l ∧ Turn nowhere w1 wr)
  case atStart => exact ⟨0, [], none, 0, 0, by omega, rfl, rfl, rfl, by omega, by rw [List.take_zero]; rfl, FRow.nil _ _, Turn.refl _ _⟩
  obtain ⟨j, l, B, k, d, hjl, rfl, rfl, hlk, hkj, hol, hrow, htr⟩ := hrel
  have HJL := Lib.hid hjl
  have HLK := Lib.hid hlk
  have HKJ := Lib.hid hkj
  have HOL := Lib.hid hol
  have HRW := Lib.hid hrow
  have HTR := Lib.hid htr
  clear hjl hlk hkj hol hrow htr
  go_upto_region 3 with fail
  refine wp_region_lit ?_
  by_cases hlt : j < n
  · have HLT := Lib.hid hlt
    have y1 : (j : Int) < (n : Int) := by omega
    obtain ⟨bF, oF, rfl, hr⟩ := HF1.out.2.2 (by omega)
    obtain ⟨f, hf⟩ : ∃ f, fs[j]? = some f := ⟨_, List.getElem?_eq_getElem (show j < fs.length from by rw [HNL.out]; exact hlt)⟩
    have HRR := Lib.hid (show wr.rangeAt bF (oF + j * 2) (fldA f).toList from fun i v hv => (HTR.out.cell (World.block_lt_of_cell? _ _ (hr j f hf i v hv)) (fun e => e)).trans (hr j f hf i v hv))
    have HST := Lib.hid (oth_take (no := no) hf)
    clear hr hf hlt
    refine wpList_run (v := .bool true) rfl (ix_lss rfl rfl rfl (decide_eq_true y1)) ?_
    simp only [Act.put, List.setIfInBounds_toArray, List.set_cons_zero, List.set_cons_succ]
    go_upto_region 4 with fail
    refine wp_region_lit ?_
    refine wpList_run (v := .pointer (some ⟨bF, oF + j * 2, none⟩)) rfl (gx_iaddr (i := j) (sz := 2) rfl rfl rfl Tryz.underlying47 size_field HLT.out (by omega)) ?_
    simp only [Act.put, List.setIfInBounds_toArray, List.set_cons_zero, List.set_cons_succ]
    refine wpList_run (v := .agg (fldA f)) rfl (gx_loads rfl rfl HRR.out Tryz.underlying53 rfl (by rw [size_field]; rfl)) ?_
    simp only [Act.put, List.setIfInBounds_toArray, List.set_cons_zero, List.set_cons_succ]
    refine wpList_new 53 (.tmp 9) (.tmp 17) (fldA f) rfl rfl (zero_field _) rfl rfl rfl rfl rfl rfl (by rw [size_field]; rfl) (fldA_one f) ?_
    intro w3 g9 _ hbx hux
    simp only [Act.put, List.setIfInBounds_toArray, List.set_cons_zero, List.set_cons_succ]
    have HB9 := Lib.hid hbx
    have HT3 := Lib.hid (HTR.out.trans hux (fun _ _ e => e))
    have HR3 := Lib.hid (HRW.out.still hux)
    clear hbx hux HRR
    have HQ3 := Lib.hid (HBQ.out.turn HT3.out (fun e => e))
    go_upto_region 5 with fail
    refine wp_region_lit ?_
    refine wpList_run (v := .pointer (some ⟨g9, 0, none⟩)) rfl (exec_field (off := 0) (d := 0) rfl rfl (by kernel_rfl)) ?_
    simp only [Act.put, List.setIfInBounds_toArray, List.set_cons_zero, List.set_cons_succ]
    refine wpList_run (v := .int .i64 f.1) rfl (exec_load1 rfl rfl (by kernel_rfl) (HB9.out.cell 0)) ?_
    simp only [Act.put, List.setIfInBounds_toArray, List.set_cons_zero, List.set_cons_succ]
    refine wpList_run (v := .int .i64 no) rfl (exec_load1 rfl rfl (by kernel_rfl) (HQ3.out.cell 0)) ?_
    simp only [Act.put, List.setIfInBounds_toArray, List.set_cons_zero, List.set_cons_succ]
    by_cases heq : f.1 = no
    · refine wpList_run (v := .bool false) rfl (ix_neq rfl rfl rfl (decide_eq_false (fun h => h heq))) ?_
      simp only [Act.put, List.setIfInBounds_toArray, List.set_cons_zero, List.set_cons_succ]
      have HO2 := Lib.hid (show others no (fs.take (j + 1)) = l from by rw [HST.out, if_pos heq, HOL.out])
      clear heq
      go_wp2_with fail
      go_roundg (gk - 1)
      case measure => have := HJL.out; have := HLT.out; omega
      case rel => exact ⟨j + 1, l, B, k, d, by have := HJL.out; have := HLT.out; omega, by go_num, rfl, HLK.out, by have := HKJ.out; omega, HO2.out, HR3.out, HT3.out⟩
    · refine wpList_run (v := .bool true) rfl (ix_neq rfl rfl rfl (decide_eq_true heq)) ?_
      simp only [Act.put, List.setIfInBounds_toArray, List.set_cons_zero, List.set_cons_succ]
      obtain ⟨B4, d4, w4, hrun, hrow4, ht4⟩ := frow_add (ty := 47) HR3.out HT3.out f (by have := HLK.out; have := HKJ.out; have := HRM.out; have := HLT.out; omega)
      rw [HLK.out] at hrun hrow4
      have HRN := Lib.hid hrun
      have HR4 := Lib.hid hrow4
      have HT4 := Lib.hid ht4
      have HO2 := Lib.hid (show others no (fs.take (j + 1)) = l ++ [f] from by rw [HST.out, if_neg heq, HOL.out])
      clear heq hrun hrow4 ht4
      go_upto_region 6 with fail
      refine wp_region_lit ?_
      refine wpList_run (v := .slice B k d) rfl (exec_move rfl rfl) ?_
      simp only [Act.put, List.setIfInBounds_toArray, List.set_cons_zero, List.set_cons_succ]
      refine wpList_run (v := .agg (fldA f)) rfl (gx_loads rfl rfl (blk_range HB9.out) Tryz.underlying53 rfl (by rw [size_field]; rfl)) ?_
      simp only [Act.put, List.setIfInBounds_toArray, List.set_cons_zero, List.set_cons_succ]
      refine wpList_run (v := .slice (some ⟨w3.heap.size, 0, none⟩) 1 1) (w' := w3.alloc (.cells (fldA f) 53)) rfl (bx_slice1 rfl rfl (build_f1 f _)) ?_
      simp only [Act.put, List.setIfInBounds_toArray, List.set_cons_zero, List.set_cons_succ]
      refine wpList_run (v := .slice B4 (k + 1) d4) (w' := w4) rfl (exec_append rfl rfl rfl HRN.out) ?_
      simp only [Act.put, List.setIfInBounds_toArray, List.set_cons_zero, List.set_cons_succ]
      refine wpList_run (v := .slice B4 (k + 1) d4) rfl (gx_assign rfl rfl) ?_
      simp only [Act.put, List.setIfInBounds_toArray, List.set_cons_zero, List.set_cons_succ]
      clear HRN
      go_wp2_with fail
      go_roundg (gk - 1)
      case measure => have := HJL.out; have := HLT.out; omega
      case rel => exact ⟨j + 1, l ++ [f], B4, k + 1, d4, by have := HJL.out; have := HLT.out; omega, by go_num, rfl, by rw [List.length_append, HLK.out]; rfl, by have := HKJ.out; omega, HO2.out, HR4.out, HT4.out⟩
  · refine wpList_run (v := .bool false) rfl (ix_lss rfl rfl rfl (decide_eq_false (by omega))) ?_
    simp only [Act.put, List.setIfInBounds_toArray, List.set_cons_zero, List.set_cons_succ]
    have HLL := Lib.hid (show others no fs = l from by
      have h := HOL.out
      rwa [List.take_of_length_le (by rw [HNL.out]; omega)] at h)
    have HKN := Lib.hid (show k ≤ n from by have := HJL.out; have := HKJ.out; omega)
    clear hlt
    go_upto_region 8 with fail
    refine wp_region_lit ?_
    refine wpList_run (v := .slice B k d) rfl (exec_move rfl rfl) ?_
    simp only [Act.put, List.setIfInBounds_toArray, List.set_cons_zero, List.set_cons_succ]
    refine wpList_run (v := moreV gq) rfl (exec_mf rfl rfl) ?_
    simp only [Act.put, List.setIfInBounds_toArray, List.set_cons_zero, List.set_cons_succ]
    have HFL := Lib.hid (HRW.out.fl (by have := HLK.out; have := HKN.out; have := HRM.out; omega))
    have hI := indexF_walk (c := d) HFL.out.1 (HBQ.out.turn HTR.out (fun e => e))
    unfold idxV at hI
    rw [HLK.out] at hI
    have y5 : (k : Int) ≤ (n : Int) := by have := HKN.out; omega
    obtain ⟨at0, hat0⟩ : ∃ i, i = atM no l := ⟨_, rfl⟩
    have HAE := Lib.hid hat0
    have HAL := Lib.hid (show at0 ≤ k from by rw [hat0, ← HLK.out]; exact at_le no l)
    have HSET := Lib.hid (show setM no t fs = l.take at0 ++ (no, t) :: l.drop at0 from by
      unfold setM
      rw [HLL.out, ins_at, ← hat0])
    rw [← hat0] at hI
    clear hat0
    by_cases hia : at0 < k
    · rw [if_pos hia] at hI
      have y6 : (at0 : Int) < (k : Int) := by omega
      refine wpList_op rfl fun K9 HK9 => ?_
      go_wp2_with fail
      refine hI.mono ?_
      rintro e w5 ⟨rfl, ht5⟩
      refine HK9.out _ _ ?_
      clear HK9
      try simp only [Act.put, List.setIfInBounds_toArray, List.set_cons_zero, List.set_cons_succ]
      have HT5 := Lib.hid (HTR.out.trans ht5 (fun _ _ e => e))
      have HR5 := Lib.hid (HRW.out.still ht5)
      clear ht5
      clear hI hia
      refine wpList_run (v := .int .i64 (at0 : Int)) rfl (gx_assign rfl rfl) ?_
      simp only [Act.put, List.setIfInBounds_toArray, List.set_cons_zero, List.set_cons_succ]
      go_upto_region 9 with fail
      refine wp_region_lit ?_
      refine wpList_run (v := .int .i64 (at0 : Int)) rfl (exec_move rfl rfl) ?_
      simp only [Act.put, List.setIfInBounds_toArray, List.set_cons_zero, List.set_cons_succ]
      refine wpList_run (v := .bool false) rfl (ix_lss rfl rfl rfl (decide_eq_false (by omega))) ?_
      simp only [Act.put, List.setIfInBounds_toArray, List.set_cons_zero, List.set_cons_succ]
      have HB62 := Lib.hid (HB6.out.turn HT5.out (fun e => e))
      have hS0 : Blk w5 gm 49 #[.int .i64 ty, .slice A n c] ∧ Blk w5 gq 3 #[.int .i64 no] := ⟨HBM.out.turn HT5.out (fun e => e), HBQ.out.turn HT5.out (fun e => e)⟩
      go_upto_region 11 with fail
      refine wp_region_alw (fun W => Blk W gm 49 #[.int .i64 ty, .slice A n c] ∧ Blk W gq 3 #[.int .i64 no]) (by kernel_rfl) ?_
      have HT6 := Lib.hid HT5.out.drew
      have HR6 := Lib.hid (HR5.out.still ((Turn.refl nowhere w5).drew))
      have HB6d := Lib.hid (HB62.out.drew)
      replace hS0 := And.intro hS0.1.drew hS0.2.drew
      generalize w5.drew = w6 at *
      refine alw_take (i := 0) (v := .pointer (some ⟨gm, 0, none⟩)) rfl (by kernel_rfl) (by kernel_rfl) (fun _ _ _ h => h) (.inl ⟨by rfl, fun W hW => exec_field (off := 0) (d := 0) rfl rfl (by kernel_rfl)⟩) hS0 ?_
      simp only [Act.put, List.setIfInBounds_toArray, List.set_cons_zero, List.set_cons_succ]
      refine alw_take (i := 1) (v := .int .i64 ty) rfl (by kernel_rfl) (by kernel_rfl) (fun _ _ _ h => h) (.inl ⟨by rfl, fun W hW => exec_load1 rfl rfl (by kernel_rfl) (hW.1.cell 0)⟩) hS0 ?_
      simp only [Act.put, List.setIfInBounds_toArray, List.set_cons_zero, List.set_cons_succ]
      refine alw_take (i := 2) (v := .slice B k d) rfl (by kernel_rfl) (by kernel_rfl) (fun _ _ _ h => h) (.inl ⟨by rfl, fun W hW => exec_move rfl rfl⟩) hS0 ?_
      simp only [Act.put, List.setIfInBounds_toArray, List.set_cons_zero, List.set_cons_succ]
      refine alw_take (i := 3) (v := .int .i64 (at0 : Int)) rfl (by kernel_rfl) (by kernel_rfl) (fun _ _ _ h => h) (.inl ⟨by rfl, fun W hW => exec_move rfl rfl⟩) hS0 ?_
      simp only [Act.put, List.setIfInBounds_toArray, List.set_cons_zero, List.set_cons_succ]
      refine alw_take (i := 4) (v := .int .i64 no) rfl (by kernel_rfl) (by kernel_rfl) (fun _ _ _ h => h) (.inl ⟨by rfl, fun W hW => exec_load1 rfl rfl (by kernel_rfl) (hW.2.cell 0)⟩) hS0 ?_
      simp only [Act.put, List.setIfInBounds_toArray, List.set_cons_zero, List.set_cons_succ]
      refine alw_take (i := 5) (v := strV t) rfl (by kernel_rfl) (by kernel_rfl) (fun _ _ _ h => h) (.inl ⟨by rfl, fun W hW => exec_move rfl rfl⟩) hS0 ?_
      simp only [Act.put, List.setIfInBounds_toArray, List.set_cons_zero, List.set_cons_succ]
      refine alw_take (i := 6) (v := .agg (fldA (no, t))) rfl (by kernel_rfl) (by kernel_rfl) (fun _ _ _ h => h) (.inl ⟨by rfl, fun W hW => gx_build2 rfl rfl rfl (build_fldM no t W)⟩) hS0 ?_
      simp only [Act.put, List.setIfInBounds_toArray, List.set_cons_zero, List.set_cons_succ]
      refine alw_step (i := 7) (by kernel_rfl) rfl rfl ?_
      intro K1 HK1
      refine wp_run (bx_slice1 rfl rfl (build_f1 (no, t) _)) ?_
      have hx7 := Blk.new w6 53 (fldA (no, t))
      have ht7 := HT6.out.alloc (.cells (fldA (no, t)) 53)
      have HR7 := Lib.hid (HR6.out.still ((Turn.refl nowhere w6).alloc (.cells (fldA (no, t)) 53)))
      have HB7 := Lib.hid (HB6d.out.alloc (.cells (fldA (no, t)) 53))
      have hS1 := And.intro (hS0.1.alloc (.cells (fldA (no, t)) 53)) (hS0.2.alloc (.cells (fldA (no, t)) 53))
      have hgl := fun qq (hk : (Value.slice B k d).ownBlock = some qq) => (HR6.out.lt qq hk).2
      refine HK1.out _ _ ⟨hS1, ?_⟩
      obtain ⟨g7, hg7⟩ : ∃ g, g = w6.heap.size := ⟨_, rfl⟩
      rw [← hg7] at hx7 hgl ⊢
      have HX7 := Lib.hid hx7
      have HT7 := Lib.hid ht7
      have HGL := Lib.hid hgl
      clear HK1 hg7 hgl hx7 ht7 hS0
      generalize w6.alloc (.cells (fldA (no, t)) 53) = w7 at *
      try simp only [Act.put, List.setIfInBounds_toArray, List.set_cons_zero, List.set_cons_succ]
      refine alw_step (i := 8) (by kernel_rfl) rfl rfl ?_
      intro K1 HK1
      go_wp2_with fail
      refine (Insert_walk HR7.out HT7.out HLK.out HAL.out HX7.out (fun b o s e => by
        have := HGL.out b (by rw [e]; rfl)
        omega) (by have := HKN.out; have := HRM.out; omega)).mono ?_
      rintro e w8 ⟨A8, c8, rfl, hrow8, ht8⟩
      have HT8 := Lib.hid ht8
      have HR8 := Lib.hid hrow8
      have hS2 : Blk w8 gm 49 #[.int .i64 ty, .slice A n c] ∧ Blk w8 gq 3 #[.int .i64 no] := ⟨HBM.out.turn ht8 (fun e => e), HBQ.out.turn ht8 (fun e => e)⟩
      have HB8 := Lib.hid (HB6.out.turn ht8 (fun e => e))
      refine HK1.out _ _ ⟨hS2, ?_⟩
      clear HK1 hS1 hrow8 ht8
      try simp only [Act.put, List.setIfInBounds_toArray, List.set_cons_zero, List.set_cons_succ]
      refine alw_take (i := 9) (v := .agg #[.int .i64 ty, .slice A8 (k + 1) c8]) rfl (by kernel_rfl) (by kernel_rfl) (fun _ _ _ h => h) (.inl ⟨by rfl, fun W hW => gx_build2 rfl rfl rfl (build_msg2 ty A8 (k + 1) c8 W)⟩) hS2 ?_
      simp only [Act.put, List.setIfInBounds_toArray, List.set_cons_zero, List.set_cons_succ]
      refine alw_step (i := 10) (by kernel_rfl) rfl rfl ?_
      intro K1 HK1
      refine wp_store_rowU 49 (.tmp 6) (.tmp 43) rfl #[.int .i64 ty, .slice A8 (k + 1) c8] HB8.out rfl rfl rfl (by rw [size_msg]; rfl) (msgA_one _ _ _ _) ?_
      intro wz hbz huz
      have hS3 : Blk wz gm 49 #[.int .i64 ty, .slice A n c] ∧ Blk wz gq 3 #[.int .i64 no] := ⟨hS2.1.turn huz (fun e => HGN.out.1 e), hS2.2.turn huz (fun e => HGN.out.2 e)⟩
      have HBZ := Lib.hid hbz
      have HUZ := Lib.hid (above (HT0.out.trans HT8.out (fun _ _ e => e)) HG6.out huz)
      have HRZ := Lib.hid ((HR8.out.turn huz (fun q hq e => by
        have e : q = g6 := e
        have h1 := (HR8.out.lt q hq).1
        have := HB6.out.lt
        omega)).less HT0.out.size)
      refine HK1.out _ _ ⟨hS3, ?_⟩
      clear hbz huz HK1 hS2
      try simp only [Act.put, List.setIfInBounds_toArray, List.set_cons_zero, List.set_cons_succ]
      refine alw_done rfl ?_
      clear hS3
      refine NoPanic.normal ?_
      go_wp2_with fail
      refine bodyPost_ret (v := .agg #[.int .i64 ty, .slice A8 (k + 1) c8]) (ret_cell1 rfl _ _ g6 _ _ _ rfl HBZ.out Tryz.underlying49 rfl (by rw [size_msg]; rfl)) rfl ?_
      refine ⟨A8, k + 1, c8, rfl, ?_, ?_, HUZ.out⟩
      · rw [set_len, HLL.out, HLK.out]
      · rw [HSET.out]
        exact HRZ.out
    · rw [if_neg hia] at hI
      obtain rfl : at0 = k := by have := HAL.out; omega
      refine wpList_op rfl fun K9 HK9 => ?_
      go_wp2_with fail
      refine hI.mono ?_
      rintro e w5 ⟨rfl, ht5⟩
      refine HK9.out _ _ ?_
      clear HK9
      try simp only [Act.put, List.setIfInBounds_toArray, List.set_cons_zero, List.set_cons_succ]
      have HT5 := Lib.hid (HTR.out.trans ht5 (fun _ _ e => e))
      have HR5 := Lib.hid (HRW.out.still ht5)
      clear ht5
      clear hI hia
      refine wpList_run (v := .int .i64 (-1)) rfl (gx_assign rfl rfl) ?_
      simp only [Act.put, List.setIfInBounds_toArray, List.set_cons_zero, List.set_cons_succ]
      go_upto_region 9 with fail
      refine wp_region_lit ?_
      refine wpList_run (v := .int .i64 (-1)) rfl (exec_move rfl rfl) ?_
      simp only [Act.put, List.setIfInBounds_toArray, List.set_cons_zero, List.set_cons_succ]
      refine wpList_run (v := .bool true) rfl (ix_lss rfl rfl rfl (by decide)) ?_
      simp only [Act.put, List.setIfInBounds_toArray, List.set_cons_zero, List.set_cons_succ]
      go_upto_region 10 with fail
      refine wp_region_lit ?_
      refine wpList_run (v := .slice B at0 d) rfl (exec_move rfl rfl) ?_
      simp only [Act.put, List.setIfInBounds_toArray, List.set_cons_zero, List.set_cons_succ]
      refine wpList_run (v := .int .i64 (at0 : Int)) rfl (gx_len rfl rfl Tryz.underlying47) ?_
      simp only [Act.put, List.setIfInBounds_toArray, List.set_cons_zero, List.set_cons_succ]
      refine wpList_run (v := .int .i64 (at0 : Int)) rfl (gx_assign rfl rfl) ?_
      simp only [Act.put, List.setIfInBounds_toArray, List.set_cons_zero, List.set_cons_succ]
      have HB62 := Lib.hid (HB6.out.turn HT5.out (fun e => e))
      have hS0 : Blk w5 gm 49 #[.int .i64 ty, .slice A n c] ∧ Blk w5 gq 3 #[.int .i64 no] := ⟨HBM.out.turn HT5.out (fun e => e), HBQ.out.turn HT5.out (fun e => e)⟩
      go_upto_region 11 with fail
      refine wp_region_alw (fun W => Blk W gm 49 #[.int .i64 ty, .slice A n c] ∧ Blk W gq 3 #[.int .i64 no]) (by kernel_rfl) ?_
      have HT6 := Lib.hid HT5.out.drew
      have HR6 := Lib.hid (HR5.out.still ((Turn.refl nowhere w5).drew))
      have HB6d := Lib.hid (HB62.out.drew)
      replace hS0 := And.intro hS0.1.drew hS0.2.drew
      generalize w5.drew = w6 at *
      refine alw_take (i := 0) (v := .pointer (some ⟨gm, 0, none⟩)) rfl (by kernel_rfl) (by kernel_rfl) (fun _ _ _ h => h) (.inl ⟨by rfl, fun W hW => exec_field (off := 0) (d := 0) rfl rfl (by kernel_rfl)⟩) hS0 ?_
      simp only [Act.put, List.setIfInBounds_toArray, List.set_cons_zero, List.set_cons_succ]
      refine alw_take (i := 1) (v := .int .i64 ty) rfl (by kernel_rfl) (by kernel_rfl) (fun _ _ _ h => h) (.inl ⟨by rfl, fun W hW => exec_load1 rfl rfl (by kernel_rfl) (hW.1.cell 0)⟩) hS0 ?_
      simp only [Act.put, List.setIfInBounds_toArray, List.set_cons_zero, List.set_cons_succ]
      refine alw_take (i := 2) (v := .slice B at0 d) rfl (by kernel_rfl) (by kernel_rfl) (fun _ _ _ h => h) (.inl ⟨by rfl, fun W hW => exec_move rfl rfl⟩) hS0 ?_
      simp only [Act.put, List.setIfInBounds_toArray, List.set_cons_zero, List.set_cons_succ]
      refine alw_take (i := 3) (v := .int .i64 (at0 : Int)) rfl (by kernel_rfl) (by kernel_rfl) (fun _ _ _ h => h) (.inl ⟨by rfl, fun W hW => exec_move rfl rfl⟩) hS0 ?_
      simp only [Act.put, List.setIfInBounds_toArray, List.set_cons_zero, List.set_cons_succ]
      refine alw_take (i := 4) (v := .int .i64 no) rfl (by kernel_rfl) (by kernel_rfl) (fun _ _ _ h => h) (.inl ⟨by rfl, fun W hW => exec_load1 rfl rfl (by kernel_rfl) (hW.2.cell 0)⟩) hS0 ?_
      simp only [Act.put, List.setIfInBounds_toArray, List.set_cons_zero, List.set_cons_succ]
      refine alw_take (i := 5) (v := strV t) rfl (by kernel_rfl) (by kernel_rfl) (fun _ _ _ h => h) (.inl ⟨by rfl, fun W hW => exec_move rfl rfl⟩) hS0 ?_
      simp only [Act.put, List.setIfInBounds_toArray, List.set_cons_zero, List.set_cons_succ]
      refine alw_take (i := 6) (v := .agg (fldA (no, t))) rfl (by kernel_rfl) (by kernel_rfl) (fun _ _ _ h => h) (.inl ⟨by rfl, fun W hW => gx_build2 rfl rfl rfl (build_fldM no t W)⟩) hS0 ?_
      simp only [Act.put, List.setIfInBounds_toArray, List.set_cons_zero, List.set_cons_succ]
      refine alw_step (i := 7) (by kernel_rfl) rfl rfl ?_
      intro K1 HK1
      refine wp_run (bx_slice1 rfl rfl (build_f1 (no, t) _)) ?_
      have hx7 := Blk.new w6 53 (fldA (no, t))
      have ht7 := HT6.out.alloc (.cells (fldA (no, t)) 53)
      have HR7 := Lib.hid (HR6.out.still ((Turn.refl nowhere w6).alloc (.cells (fldA (no, t)) 53)))
      have HB7 := Lib.hid (HB6d.out.alloc (.cells (fldA (no, t)) 53))
      have hS1 := And.intro (hS0.1.alloc (.cells (fldA (no, t)) 53)) (hS0.2.alloc (.cells (fldA (no, t)) 53))
      have hgl := fun qq (hk : (Value.slice B at0 d).ownBlock = some qq) => (HR6.out.lt qq hk).2
      refine HK1.out _ _ ⟨hS1, ?_⟩
      obtain ⟨g7, hg7⟩ : ∃ g, g = w6.heap.size := ⟨_, rfl⟩
      rw [← hg7] at hx7 hgl ⊢
      have HX7 := Lib.hid hx7
      have HT7 := Lib.hid ht7
      have HGL := Lib.hid hgl
      clear HK1 hg7 hgl hx7 ht7 hS0
      generalize w6.alloc (.cells (fldA (no, t)) 53) = w7 at *
      try simp only [Act.put, List.setIfInBounds_toArray, List.set_cons_zero, List.set_cons_succ]
      refine alw_step (i := 8) (by kernel_rfl) rfl rfl ?_
      intro K1 HK1
      go_wp2_with fail
      refine (Insert_walk HR7.out HT7.out HLK.out HAL.out HX7.out (fun b o s e => by
        have := HGL.out b (by rw [e]; rfl)
        omega) (by have := HKN.out; have := HRM.out; omega)).mono ?_
      rintro e w8 ⟨A8, c8, rfl, hrow8, ht8⟩
      have HT8 := Lib.hid ht8
      have HR8 := Lib.hid hrow8
      have hS2 : Blk w8 gm 49 #[.int .i64 ty, .slice A n c] ∧ Blk w8 gq 3 #[.int .i64 no] := ⟨HBM.out.turn ht8 (fun e => e), HBQ.out.turn ht8 (fun e => e)⟩
      have HB8 := Lib.hid (HB6.out.turn ht8 (fun e => e))
      refine HK1.out _ _ ⟨hS2, ?_⟩
      clear HK1 hS1 hrow8 ht8
      try simp only [Act.put, List.setIfInBounds_toArray, List.set_cons_zero, List.set_cons_succ]
      refine alw_take (i := 9) (v := .agg #[.int .i64 ty, .slice A8 (at0 + 1) c8]) rfl (by kernel_rfl) (by kernel_rfl) (fun _ _ _ h => h) (.inl ⟨by rfl, fun W hW => gx_build2 rfl rfl rfl (build_msg2 ty A8 (at0 + 1) c8 W)⟩) hS2 ?_
      simp only [Act.put, List.setIfInBounds_toArray, List.set_cons_zero, List.set_cons_succ]
      refine alw_step (i := 10) (by kernel_rfl) rfl rfl ?_
      intro K1 HK1
      refine wp_store_rowU 49 (.tmp 6) (.tmp 43) rfl #[.int .i64 ty, .slice A8 (at0 + 1) c8] HB8.out rfl rfl rfl (by rw [size_msg]; rfl) (msgA_one _ _ _ _) ?_
      intro wz hbz huz
      have hS3 : Blk wz gm 49 #[.int .i64 ty, .slice A n c] ∧ Blk wz gq 3 #[.int .i64 no] := ⟨hS2.1.turn huz (fun e => HGN.out.1 e), hS2.2.turn huz (fun e => HGN.out.2 e)⟩
      have HBZ := Lib.hid hbz
      have HUZ := Lib.hid (above (HT0.out.trans HT8.out (fun _ _ e => e)) HG6.out huz)
      have HRZ := Lib.hid ((HR8.out.turn huz (fun q hq e => by
        have e : q = g6 := e
        have h1 := (HR8.out.lt q hq).1
        have := HB6.out.lt
        omega)).less HT0.out.size)
      refine HK1.out _ _ ⟨hS3, ?_⟩
      clear hbz huz HK1 hS2
      try simp only [Act.put, List.setIfInBounds_toArray, List.set_cons_zero, List.set_cons_succ]
      refine alw_done rfl ?_
      clear hS3
      refine NoPanic.normal ?_
      go_wp2_with fail
      refine bodyPost_ret (v := .agg #[.int .i64 ty, .slice A8 (at0 + 1) c8]) (ret_cell1 rfl _ _ g6 _ _ _ rfl HBZ.out Tryz.underlying49 rfl (by rw [size_msg]; rfl)) rfl ?_
      refine ⟨A8, at0 + 1, c8, rfl, ?_, ?_, HUZ.out⟩
      · rw [set_len, HLL.out, HLK.out]
      · rw [HSET.out]
        exact HRZ.out
end Go.Proofs.YtfnillibngijaaaGreatDoor
