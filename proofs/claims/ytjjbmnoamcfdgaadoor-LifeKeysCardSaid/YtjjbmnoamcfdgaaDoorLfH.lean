/-
  life's Alike; the reference's Get, Key, Original and Alike. No conditions.
-/
import Derived.Test.YtjjbmnoamcfdgaaDoorLfD
import Derived.OwnWalk
namespace Go.Proofs.YtjjbmnoamcfdgaaDoor
open Go.RowKit
set_option linter.unusedVariables false
set_option linter.unusedSimpArgs false
set_option maxRecDepth 20000
theorem bx_eqb {a : Act} {o : Oper} {W : World} {x y : Operand} {t u : TypeId} {p q r : Bool} (ho : o.op = .binOp .eql t x y u) (hx : a.eval x = .bool p) (hy : a.eval y = .bool q) (hr : (p == q) = r) (ht : t = 4) : (execOp a.eval o).run Tryd.prog W = .ok (.value (.bool r)) W := by
  subst ht
  unfold execOp
  simp only [ho, hx, hy]
  go_simp
  try exact hr
theorem bx_neb {a : Act} {o : Oper} {W : World} {x y : Operand} {t u : TypeId} {p q r : Bool} (ho : o.op = .binOp .neq t x y u) (hx : a.eval x = .bool p) (hy : a.eval y = .bool q) (hr : (!(p == q)) = r) (ht : t = 4) : (execOp a.eval o).run Tryd.prog W = .ok (.value (.bool r)) W := by
  subst ht
  unfold execOp
  simp only [ho, hx, hy]
  go_simp
  try exact hr
theorem ix_quo10 {a : Act} {o : Oper} {W : World} {x y : Operand} {n : Int} (ho : o.op = .binOp .quo 3 x y 3) (hx : a.eval x = .int .i64 n) (hy : a.eval y = .int .i64 10) (hn : -9223372036854775808 ≤ n ∧ n ≤ 9223372036854775807) : (execOp a.eval o).run Tryd.prog W = .ok (.value (.int .i64 (n.tdiv 10))) W := by
  obtain ⟨q, hq⟩ : ∃ q : Int, q = n.tdiv 10 := ⟨_, rfl⟩
  have hb : -9223372036854775808 ≤ q ∧ q ≤ 9223372036854775807   := by
    rw [hq]
    rcases Int.le_total 0 n with h | h
    · rw [Int.tdiv_eq_ediv_of_nonneg h]
      omega
    · have e : n.tdiv 10 = -((-n).tdiv 10) := by rw [Int.neg_tdiv, Int.neg_neg]
      rw [e, Int.tdiv_eq_ediv_of_nonneg (by omega)]
      omega
  rw [← hq]
  have hw : IntKind.i64.wrap q = q := by rw [IntKind.wrap_i64]; omega
  unfold execOp
  simp only [ho, hx, hy]
  go_simp
  rw [← hq]
  exact hw
theorem size_int : (Tryd.prog.info? 3).map (·.size) = some 1 := by kernel_rfl
set_option maxRecDepth 20000 in
set_option maxHeartbeats 1000000 in
theorem rGet_walk {w : World} {ty no : Int} {A : Option Addr} {n c : Nat} {fs : List Fld} (hf : Fl w A n fs) :
    Calls Tryd.prog 15 #[msgV ty A n c, .int .i64 no] w fun e w' => e = .returned (gotV (getM no fs)) ∧ Turn nowhere w w' := by
  have HF := Lib.hid hf
  have HNL := Lib.hid hf.1
  have y9 : (n : Int) ≤ 140737488355328 := by
    have := hf.2.1
    omega
  clear hf
  unfold msgV
  go_enter Tryd.func15, Tryd.ntmps15
  go_upto_region 1 with fail
  have hb0 := Blk.new w 24 #[.int .i64 ty, .slice A n c]
  have hu0 := (Turn.refl nowhere w).alloc (.cells #[.int .i64 ty, .slice A n c] 24)
  obtain ⟨gm, hg0⟩ : ∃ g, g = w.heap.size := ⟨_, rfl⟩
  rw [← hg0] at hb0 ⊢
  clear hg0
  generalize w.alloc (.cells #[.int .i64 ty, .slice A n c] 24) = w1 at *
  have HBgm := Lib.hid hb0
  have HT0 := Lib.hid hu0
  clear hb0 hu0
  refine wp_region_lit ?_
  refine wpList_run (v := .int .i64 0) rfl (gx_assign rfl rfl) ?_
  simp only [Act.put, List.setIfInBounds_toArray, List.set_cons_zero, List.set_cons_succ]
  go_wp2_with fail
  go_loopg [6] n (fun gk jv wr => ∃ j : Nat, j + gk = n ∧ jv = .int .i64 (j : Int) ∧ Turn nowhere w1 wr ∧ getM no (fs.drop j) = getM no fs)
  case atStart => exact ⟨0, by omega, rfl, Turn.refl _ _, rfl⟩
  obtain ⟨j, hjl, rfl, htr, hgm⟩ := hrel
  have HJL := Lib.hid hjl
  have HTR := Lib.hid htr
  have HGM := Lib.hid hgm
  clear hjl htr hgm
  have HB2 := Lib.hid (HBgm.out.turn HTR.out (fun e => e))
  go_upto_region 2 with fail
  refine wp_region_lit ?_
  refine wpList_run (v := .int .i64 (j : Int)) rfl (exec_move rfl rfl) ?_
  simp only [Act.put, List.setIfInBounds_toArray, List.set_cons_zero, List.set_cons_succ]
  refine wpList_run (v := .pointer (some ⟨gm, 1, none⟩)) rfl (exec_field (off := 0) (d := 1) rfl rfl (by kernel_rfl)) ?_
  simp only [Act.put, List.setIfInBounds_toArray, List.set_cons_zero, List.set_cons_succ]
  refine wpList_run (v := .slice A n c) rfl (exec_load1 rfl rfl (by kernel_rfl) (HB2.out.cell 1)) ?_
  simp only [Act.put, List.setIfInBounds_toArray, List.set_cons_zero, List.set_cons_succ]
  refine wpList_run (v := .int .i64 (n : Int)) rfl (gx_len rfl rfl Tryd.underlying22) ?_
  simp only [Act.put, List.setIfInBounds_toArray, List.set_cons_zero, List.set_cons_succ]
  by_cases hlt : j < n
  · have HLT := Lib.hid hlt
    have y1 : (j : Int) < (n : Int) := by omega
    obtain ⟨bF, oF, rfl, hr⟩ := HF.out.2.2 (by omega)
    obtain ⟨f, hf⟩ : ∃ f, fs[j]? = some f := ⟨_, List.getElem?_eq_getElem (show j < fs.length from by rw [HNL.out]; exact hlt)⟩
    have HRR := Lib.hid (show wr.rangeAt bF (oF + j * 2) (fldA f).toList from fun i v hv => ((HT0.out.trans HTR.out (fun _ _ e => e)).cell (World.block_lt_of_cell? _ _ (hr j f hf i v hv)) (fun e => e)).trans (hr j f hf i v hv))
    have HGA := Lib.hid (get_at (no := no) hf)
    clear hr hf hlt
    refine wpList_run (v := .bool true) rfl (ix_lss rfl rfl rfl (decide_eq_true y1)) ?_
    simp only [Act.put, List.setIfInBounds_toArray, List.set_cons_zero, List.set_cons_succ]
    go_upto_region 4 with fail
    refine wp_region_lit ?_
    refine wpList_run (v := .pointer (some ⟨gm, 1, none⟩)) rfl (exec_field (off := 0) (d := 1) rfl rfl (by kernel_rfl)) ?_
    simp only [Act.put, List.setIfInBounds_toArray, List.set_cons_zero, List.set_cons_succ]
    refine wpList_run (v := .slice (some ⟨bF, oF, none⟩) n c) rfl (exec_load1 rfl rfl (by kernel_rfl) (HB2.out.cell 1)) ?_
    simp only [Act.put, List.setIfInBounds_toArray, List.set_cons_zero, List.set_cons_succ]
    refine wpList_run (v := .int .i64 (j : Int)) rfl (exec_move rfl rfl) ?_
    simp only [Act.put, List.setIfInBounds_toArray, List.set_cons_zero, List.set_cons_succ]
    refine wpList_run (v := .pointer (some ⟨bF, oF + j * 2, none⟩)) rfl (gx_iaddr (i := j) (sz := 2) rfl rfl rfl Tryd.underlying22 size_field HLT.out (by omega)) ?_
    simp only [Act.put, List.setIfInBounds_toArray, List.set_cons_zero, List.set_cons_succ]
    refine wpList_run (v := .pointer (some ⟨bF, oF + j * 2, none⟩)) rfl (exec_field (off := oF + j * 2) (d := 0) rfl rfl (by kernel_rfl)) ?_
    simp only [Act.put, List.setIfInBounds_toArray, List.set_cons_zero, List.set_cons_succ]
    refine wpList_run (v := .int .i64 f.1) rfl (exec_load1 rfl rfl (by kernel_rfl) (HRR.out 0 _ rfl)) ?_
    simp only [Act.put, List.setIfInBounds_toArray, List.set_cons_zero, List.set_cons_succ]
    refine wpList_run (v := .int .i64 no) rfl (exec_move rfl rfl) ?_
    simp only [Act.put, List.setIfInBounds_toArray, List.set_cons_zero, List.set_cons_succ]
    by_cases heq : f.1 = no
    · refine wpList_run (v := .bool true) rfl (ix_eql rfl rfl rfl (decide_eq_true heq)) ?_
      simp only [Act.put, List.setIfInBounds_toArray, List.set_cons_zero, List.set_cons_succ]
      go_upto_region 5 with fail
      refine wp_region_lit ?_
      refine wpList_run (v := .pointer (some ⟨gm, 1, none⟩)) rfl (exec_field (off := 0) (d := 1) rfl rfl (by kernel_rfl)) ?_
      simp only [Act.put, List.setIfInBounds_toArray, List.set_cons_zero, List.set_cons_succ]
      refine wpList_run (v := .slice (some ⟨bF, oF, none⟩) n c) rfl (exec_load1 rfl rfl (by kernel_rfl) (HB2.out.cell 1)) ?_
      simp only [Act.put, List.setIfInBounds_toArray, List.set_cons_zero, List.set_cons_succ]
      refine wpList_run (v := .int .i64 (j : Int)) rfl (exec_move rfl rfl) ?_
      simp only [Act.put, List.setIfInBounds_toArray, List.set_cons_zero, List.set_cons_succ]
      refine wpList_run (v := .pointer (some ⟨bF, oF + j * 2, none⟩)) rfl (gx_iaddr (i := j) (sz := 2) rfl rfl rfl Tryd.underlying22 size_field HLT.out (by omega)) ?_
      simp only [Act.put, List.setIfInBounds_toArray, List.set_cons_zero, List.set_cons_succ]
      refine wpList_run (v := .pointer (some ⟨bF, oF + j * 2 + 1, none⟩)) rfl (exec_field (off := oF + j * 2) (d := 1) rfl rfl (by kernel_rfl)) ?_
      simp only [Act.put, List.setIfInBounds_toArray, List.set_cons_zero, List.set_cons_succ]
      refine wpList_run (v := strV f.2) rfl (exec_load1 rfl rfl (by kernel_rfl) (HRR.out 1 _ rfl)) ?_
      simp only [Act.put, List.setIfInBounds_toArray, List.set_cons_zero, List.set_cons_succ]
      refine wpList_run (v := strV f.2) rfl (gx_assign rfl rfl) ?_
      simp only [Act.put, List.setIfInBounds_toArray, List.set_cons_zero, List.set_cons_succ]
      refine wpList_run (v := .bool true) rfl (gx_assign rfl rfl) ?_
      simp only [Act.put, List.setIfInBounds_toArray, List.set_cons_zero, List.set_cons_succ]
      have HG2 := Lib.hid (show getM no fs = some f.2 from by rw [← HGM.out, HGA.out, if_pos heq])
      clear heq
      go_wp2_with fail
      go_ret2
      rw [HG2.out]
      exact ⟨rfl, HT0.out.trans HTR.out (fun _ _ e => e)⟩
    · refine wpList_run (v := .bool false) rfl (ix_eql rfl rfl rfl (decide_eq_false heq)) ?_
      simp only [Act.put, List.setIfInBounds_toArray, List.set_cons_zero, List.set_cons_succ]
      have HG2 := Lib.hid (show getM no (fs.drop (j + 1)) = getM no fs from by rw [← HGM.out, HGA.out, if_neg heq])
      clear heq
      go_wp2_with fail
      go_roundg (gk - 1)
      case measure => have := HJL.out; have := HLT.out; omega
      case rel => exact ⟨j + 1, by have := HJL.out; have := HLT.out; omega, by go_num, HTR.out, HG2.out⟩
  · refine wpList_run (v := .bool false) rfl (ix_lss rfl rfl rfl (decide_eq_false (by omega))) ?_
    simp only [Act.put, List.setIfInBounds_toArray, List.set_cons_zero, List.set_cons_succ]
    have HGN := Lib.hid (show getM no fs = none from by
      rw [← HGM.out, List.drop_eq_nil_of_le (by rw [HNL.out]; omega)]
      rfl)
    clear hlt
    go_wp2_with fail
    go_ret2
    rw [HGN.out]
    exact ⟨rfl, HT0.out.trans HTR.out (fun _ _ e => e)⟩
theorem rGet_walk2 {w : World} {ty no : Int} {A : Option Addr} {n c : Nat} {fs : List Fld} (hf : Fl w A n fs) :
    Calls Tryd.prog 15 #[msgV ty A n c, .int .i64 no] w fun e w' => e = .returned (.tuple #[strV ((getM no fs).getD []), .bool (getM no fs).isSome]) ∧ Turn nowhere w w' := by
  rw [← gotV_eq]
  exact rGet_walk hf
set_option maxRecDepth 20000 in
set_option maxHeartbeats 4000000 in
theorem rKey_walk {w : World} {ty : Int} {A : Option Addr} {n c : Nat} {fs : List Fld} (hf : Fl w A n fs) (hs : Shorts fs) : Calls Tryd.prog 7 #[msgV ty A n c] w fun e w' => e = .returned (keyV (keyM fs)) ∧ Turn nowhere w w' := by
  have HF := Lib.hid hf
  have HS := Lib.hid hs
  clear hf hs
  unfold msgV
  go_enter Tryd.func7, Tryd.ntmps7
  go_upto_region 1 with fail
  have hb0 := Blk.new w 24 #[.int .i64 ty, .slice A n c]
  have hu0 := (Turn.refl nowhere w).alloc (.cells #[.int .i64 ty, .slice A n c] 24)
  obtain ⟨gm, hg0⟩ : ∃ g, g = w.heap.size := ⟨_, rfl⟩
  rw [← hg0] at hb0 ⊢
  clear hg0
  generalize w.alloc (.cells #[.int .i64 ty, .slice A n c] 24) = w1 at *
  have HBgm := Lib.hid hb0
  have HT0 := Lib.hid hu0
  clear hb0 hu0
  refine wp_region_lit ?_
  refine wpList_run (v := msgV ty A n c) (wanted_none rfl) (gx_loads rfl rfl (blk_range HBgm.out) Tryd.underlying24 rfl (by rw [size_msg]; rfl)) ?_
  simp only [Act.put, List.setIfInBounds_toArray, List.set_cons_zero, List.set_cons_succ]
  refine wpList_op rfl fun K9 HK9 => ?_
  go_wp2_with fail
  refine (rGet_walk2 (ty := ty) (no := 32) (c := c) (HF.out.still HT0.out)).mono ?_
  rintro e w2 ⟨rfl, ht⟩
  refine HK9.out _ _ ?_
  clear HK9
  try simp only [Act.put, List.setIfInBounds_toArray, List.set_cons_zero, List.set_cons_succ]
  have HT1 := Lib.hid ht
  clear ht
  refine wpList_run (v := .tuple #[strV ((getM 32 fs).getD []), .bool (getM 32 fs).isSome]) (wanted_none rfl) (exec_move rfl rfl) ?_
  simp only [Act.put, List.setIfInBounds_toArray, List.set_cons_zero, List.set_cons_succ]
  refine wpList_run (v := strV ((getM 32 fs).getD [])) (wanted_none rfl) (ix_extract rfl rfl rfl) ?_
  simp only [Act.put, List.setIfInBounds_toArray, List.set_cons_zero, List.set_cons_succ]
  refine wpList_run (v := .bool (getM 32 fs).isSome) (wanted_none rfl) (ix_extract rfl rfl rfl) ?_
  simp only [Act.put, List.setIfInBounds_toArray, List.set_cons_zero, List.set_cons_succ]
  refine wpList_run (v := strV ((getM 32 fs).getD [])) (wanted_none rfl) (gx_assign rfl rfl) ?_
  simp only [Act.put, List.setIfInBounds_toArray, List.set_cons_zero, List.set_cons_succ]
  refine wpList_run (v := .bool (getM 32 fs).isSome) (wanted_none rfl) (gx_assign rfl rfl) ?_
  simp only [Act.put, List.setIfInBounds_toArray, List.set_cons_zero, List.set_cons_succ]
  go_upto_region 2 with fail
  refine wp_region_lit ?_
  refine wpList_run (v := msgV ty A n c) (wanted_none rfl) (gx_loads rfl rfl (blk_range (HBgm.out.turn HT1.out (fun e => e))) Tryd.underlying24 rfl (by rw [size_msg]; rfl)) ?_
  simp only [Act.put, List.setIfInBounds_toArray, List.set_cons_zero, List.set_cons_succ]
  refine wpList_op rfl fun K9 HK9 => ?_
  go_wp2_with fail
  refine (rGet_walk2 (ty := ty) (no := 11) (c := c) (HF.out.still (HT0.out.trans HT1.out fun _ _ e => e))).mono ?_
  rintro e w3 ⟨rfl, ht⟩
  refine HK9.out _ _ ?_
  clear HK9
  try simp only [Act.put, List.setIfInBounds_toArray, List.set_cons_zero, List.set_cons_succ]
  have HT2 := Lib.hid (HT1.out.trans ht fun _ _ e => e)
  clear ht HT1
  refine wpList_run (v := .tuple #[strV ((getM 11 fs).getD []), .bool (getM 11 fs).isSome]) (wanted_none rfl) (exec_move rfl rfl) ?_
  simp only [Act.put, List.setIfInBounds_toArray, List.set_cons_zero, List.set_cons_succ]
  refine wpList_run (v := strV ((getM 11 fs).getD [])) (wanted_none rfl) (ix_extract rfl rfl rfl) ?_
  simp only [Act.put, List.setIfInBounds_toArray, List.set_cons_zero, List.set_cons_succ]
  refine wpList_run (v := .bool (getM 11 fs).isSome) (wanted_none rfl) (ix_extract rfl rfl rfl) ?_
  simp only [Act.put, List.setIfInBounds_toArray, List.set_cons_zero, List.set_cons_succ]
  refine wpList_run (v := strV ((getM 11 fs).getD [])) (wanted_none rfl) (gx_assign rfl rfl) ?_
  simp only [Act.put, List.setIfInBounds_toArray, List.set_cons_zero, List.set_cons_succ]
  refine wpList_run (v := .bool (getM 11 fs).isSome) (wanted_none rfl) (gx_assign rfl rfl) ?_
  simp only [Act.put, List.setIfInBounds_toArray, List.set_cons_zero, List.set_cons_succ]
  go_upto_region 3 with fail
  refine wp_region_lit ?_
  refine wpList_run (v := msgV ty A n c) (wanted_none rfl) (gx_loads rfl rfl (blk_range (HBgm.out.turn HT2.out (fun e => e))) Tryd.underlying24 rfl (by rw [size_msg]; rfl)) ?_
  simp only [Act.put, List.setIfInBounds_toArray, List.set_cons_zero, List.set_cons_succ]
  refine wpList_op rfl fun K9 HK9 => ?_
  go_wp2_with fail
  refine (rGet_walk2 (ty := ty) (no := 7) (c := c) (HF.out.still (HT0.out.trans HT2.out fun _ _ e => e))).mono ?_
  rintro e w4 ⟨rfl, ht⟩
  refine HK9.out _ _ ?_
  clear HK9
  try simp only [Act.put, List.setIfInBounds_toArray, List.set_cons_zero, List.set_cons_succ]
  have HT3 := Lib.hid (HT2.out.trans ht fun _ _ e => e)
  clear ht HT2
  refine wpList_run (v := .tuple #[strV ((getM 7 fs).getD []), .bool (getM 7 fs).isSome]) (wanted_none rfl) (exec_move rfl rfl) ?_
  simp only [Act.put, List.setIfInBounds_toArray, List.set_cons_zero, List.set_cons_succ]
  refine wpList_run (v := strV ((getM 7 fs).getD [])) (wanted_none rfl) (ix_extract rfl rfl rfl) ?_
  simp only [Act.put, List.setIfInBounds_toArray, List.set_cons_zero, List.set_cons_succ]
  refine wpList_run (v := .bool (getM 7 fs).isSome) (wanted_none rfl) (ix_extract rfl rfl rfl) ?_
  simp only [Act.put, List.setIfInBounds_toArray, List.set_cons_zero, List.set_cons_succ]
  refine wpList_run (v := strV ((getM 7 fs).getD [])) (wanted_none rfl) (gx_assign rfl rfl) ?_
  simp only [Act.put, List.setIfInBounds_toArray, List.set_cons_zero, List.set_cons_succ]
  refine wpList_run (v := .bool (getM 7 fs).isSome) (wanted_none rfl) (gx_assign rfl rfl) ?_
  simp only [Act.put, List.setIfInBounds_toArray, List.set_cons_zero, List.set_cons_succ]
  have HA := Lib.hid (HS.out.get 32)
  have HB := Lib.hid (HS.out.get 11)
  have HC := Lib.hid (HS.out.get 7)
  have HK := Lib.hid (show keyM fs = if (getM 32 fs).isSome && (getM 11 fs).isSome && (getM 7 fs).isSome then some (keyT ((getM 32 fs).getD []) ((getM 11 fs).getD []) ((getM 7 fs).getD [])) else none from rfl)
  generalize (getM 32 fs).isSome = p at *
  generalize (getM 11 fs).isSome = q at *
  generalize (getM 7 fs).isSome = r at *
  generalize (getM 32 fs).getD [] = x at *
  generalize (getM 11 fs).getD [] = y at *
  generalize (getM 7 fs).getD [] = z at *
  cases p
  · go_upto_region 4 with fail
    refine wp_region_lit ?_
    refine wpList_run (v := .bool false) (wanted_none rfl) (exec_move rfl rfl) ?_
    simp only [Act.put, List.setIfInBounds_toArray, List.set_cons_zero, List.set_cons_succ]
    refine wpList_run (v := .bool true) (wanted_none rfl) (ix_not (b := false) rfl rfl) ?_
    simp only [Act.put, List.setIfInBounds_toArray, List.set_cons_zero, List.set_cons_succ]
    refine wpList_run (v := .bool true) (wanted_none rfl) (exec_move rfl rfl) ?_
    simp only [Act.put, List.setIfInBounds_toArray, List.set_cons_zero, List.set_cons_succ]
    refine wpList_skip (by go_simp) ?_
    simp only [Act.put, List.setIfInBounds_toArray, List.set_cons_zero, List.set_cons_succ]
    refine wpList_skip (by go_simp) ?_
    simp only [Act.put, List.setIfInBounds_toArray, List.set_cons_zero, List.set_cons_succ]
    refine wpList_run (v := .bool true) (wanted_none rfl) (ix_pickT rfl rfl rfl) ?_
    simp only [Act.put, List.setIfInBounds_toArray, List.set_cons_zero, List.set_cons_succ]
    refine wpList_run (v := .bool true) (wanted_none rfl) (exec_move rfl rfl) ?_
    simp only [Act.put, List.setIfInBounds_toArray, List.set_cons_zero, List.set_cons_succ]
    refine wpList_skip (by go_simp) ?_
    simp only [Act.put, List.setIfInBounds_toArray, List.set_cons_zero, List.set_cons_succ]
    refine wpList_skip (by go_simp) ?_
    simp only [Act.put, List.setIfInBounds_toArray, List.set_cons_zero, List.set_cons_succ]
    refine wpList_run (v := .bool true) (wanted_none rfl) (ix_pickT rfl rfl rfl) ?_
    simp only [Act.put, List.setIfInBounds_toArray, List.set_cons_zero, List.set_cons_succ]
    go_upto_region 5 with fail
    refine wp_region_lit ?_
    refine wpList_run (v := strV []) (wanted_none rfl) (gx_assign rfl rfl) ?_
    simp only [Act.put, List.setIfInBounds_toArray, List.set_cons_zero, List.set_cons_succ]
    refine wpList_run (v := .int .i64 160) (wanted_none rfl) (gx_assign rfl rfl) ?_
    simp only [Act.put, List.setIfInBounds_toArray, List.set_cons_zero, List.set_cons_succ]
    go_wp2_with fail
    go_ret2
    rw [show keyM fs = none from HK.out]
    exact ⟨rfl, HT0.out.trans HT3.out fun _ _ e => e⟩
  · cases q
    · go_upto_region 4 with fail
      refine wp_region_lit ?_
      refine wpList_run (v := .bool true) (wanted_none rfl) (exec_move rfl rfl) ?_
      simp only [Act.put, List.setIfInBounds_toArray, List.set_cons_zero, List.set_cons_succ]
      refine wpList_run (v := .bool false) (wanted_none rfl) (ix_not (b := true) rfl rfl) ?_
      simp only [Act.put, List.setIfInBounds_toArray, List.set_cons_zero, List.set_cons_succ]
      refine wpList_run (v := .bool false) (wanted_none rfl) (exec_move rfl rfl) ?_
      simp only [Act.put, List.setIfInBounds_toArray, List.set_cons_zero, List.set_cons_succ]
      refine wpList_run (v := .bool false) rfl (exec_move rfl rfl) ?_
      simp only [Act.put, List.setIfInBounds_toArray, List.set_cons_zero, List.set_cons_succ]
      refine wpList_run (v := .bool true) rfl (ix_not (b := false) rfl rfl) ?_
      simp only [Act.put, List.setIfInBounds_toArray, List.set_cons_zero, List.set_cons_succ]
      refine wpList_run (v := .bool true) (wanted_none rfl) (ix_pickF rfl rfl rfl) ?_
      simp only [Act.put, List.setIfInBounds_toArray, List.set_cons_zero, List.set_cons_succ]
      refine wpList_run (v := .bool true) (wanted_none rfl) (exec_move rfl rfl) ?_
      simp only [Act.put, List.setIfInBounds_toArray, List.set_cons_zero, List.set_cons_succ]
      refine wpList_skip (by go_simp) ?_
      simp only [Act.put, List.setIfInBounds_toArray, List.set_cons_zero, List.set_cons_succ]
      refine wpList_skip (by go_simp) ?_
      simp only [Act.put, List.setIfInBounds_toArray, List.set_cons_zero, List.set_cons_succ]
      refine wpList_run (v := .bool true) (wanted_none rfl) (ix_pickT rfl rfl rfl) ?_
      simp only [Act.put, List.setIfInBounds_toArray, List.set_cons_zero, List.set_cons_succ]
      go_upto_region 5 with fail
      refine wp_region_lit ?_
      refine wpList_run (v := strV []) (wanted_none rfl) (gx_assign rfl rfl) ?_
      simp only [Act.put, List.setIfInBounds_toArray, List.set_cons_zero, List.set_cons_succ]
      refine wpList_run (v := .int .i64 160) (wanted_none rfl) (gx_assign rfl rfl) ?_
      simp only [Act.put, List.setIfInBounds_toArray, List.set_cons_zero, List.set_cons_succ]
      go_wp2_with fail
      go_ret2
      rw [show keyM fs = none from HK.out]
      exact ⟨rfl, HT0.out.trans HT3.out fun _ _ e => e⟩
    · cases r
      · go_upto_region 4 with fail
        refine wp_region_lit ?_
        refine wpList_run (v := .bool true) (wanted_none rfl) (exec_move rfl rfl) ?_
        simp only [Act.put, List.setIfInBounds_toArray, List.set_cons_zero, List.set_cons_succ]
        refine wpList_run (v := .bool false) (wanted_none rfl) (ix_not (b := true) rfl rfl) ?_
        simp only [Act.put, List.setIfInBounds_toArray, List.set_cons_zero, List.set_cons_succ]
        refine wpList_run (v := .bool false) (wanted_none rfl) (exec_move rfl rfl) ?_
        simp only [Act.put, List.setIfInBounds_toArray, List.set_cons_zero, List.set_cons_succ]
        refine wpList_run (v := .bool true) rfl (exec_move rfl rfl) ?_
        simp only [Act.put, List.setIfInBounds_toArray, List.set_cons_zero, List.set_cons_succ]
        refine wpList_run (v := .bool false) rfl (ix_not (b := true) rfl rfl) ?_
        simp only [Act.put, List.setIfInBounds_toArray, List.set_cons_zero, List.set_cons_succ]
        refine wpList_run (v := .bool false) (wanted_none rfl) (ix_pickF rfl rfl rfl) ?_
        simp only [Act.put, List.setIfInBounds_toArray, List.set_cons_zero, List.set_cons_succ]
        refine wpList_run (v := .bool false) (wanted_none rfl) (exec_move rfl rfl) ?_
        simp only [Act.put, List.setIfInBounds_toArray, List.set_cons_zero, List.set_cons_succ]
        refine wpList_run (v := .bool false) rfl (exec_move rfl rfl) ?_
        simp only [Act.put, List.setIfInBounds_toArray, List.set_cons_zero, List.set_cons_succ]
        refine wpList_run (v := .bool true) rfl (ix_not (b := false) rfl rfl) ?_
        simp only [Act.put, List.setIfInBounds_toArray, List.set_cons_zero, List.set_cons_succ]
        refine wpList_run (v := .bool true) (wanted_none rfl) (ix_pickF rfl rfl rfl) ?_
        simp only [Act.put, List.setIfInBounds_toArray, List.set_cons_zero, List.set_cons_succ]
        go_upto_region 5 with fail
        refine wp_region_lit ?_
        refine wpList_run (v := strV []) (wanted_none rfl) (gx_assign rfl rfl) ?_
        simp only [Act.put, List.setIfInBounds_toArray, List.set_cons_zero, List.set_cons_succ]
        refine wpList_run (v := .int .i64 160) (wanted_none rfl) (gx_assign rfl rfl) ?_
        simp only [Act.put, List.setIfInBounds_toArray, List.set_cons_zero, List.set_cons_succ]
        go_wp2_with fail
        go_ret2
        rw [show keyM fs = none from HK.out]
        exact ⟨rfl, HT0.out.trans HT3.out fun _ _ e => e⟩
      · go_upto_region 4 with fail
        refine wp_region_lit ?_
        refine wpList_run (v := .bool true) (wanted_none rfl) (exec_move rfl rfl) ?_
        simp only [Act.put, List.setIfInBounds_toArray, List.set_cons_zero, List.set_cons_succ]
        refine wpList_run (v := .bool false) (wanted_none rfl) (ix_not (b := true) rfl rfl) ?_
        simp only [Act.put, List.setIfInBounds_toArray, List.set_cons_zero, List.set_cons_succ]
        refine wpList_run (v := .bool false) (wanted_none rfl) (exec_move rfl rfl) ?_
        simp only [Act.put, List.setIfInBounds_toArray, List.set_cons_zero, List.set_cons_succ]
        refine wpList_run (v := .bool true) rfl (exec_move rfl rfl) ?_
        simp only [Act.put, List.setIfInBounds_toArray, List.set_cons_zero, List.set_cons_succ]
        refine wpList_run (v := .bool false) rfl (ix_not (b := true) rfl rfl) ?_
        simp only [Act.put, List.setIfInBounds_toArray, List.set_cons_zero, List.set_cons_succ]
        refine wpList_run (v := .bool false) (wanted_none rfl) (ix_pickF rfl rfl rfl) ?_
        simp only [Act.put, List.setIfInBounds_toArray, List.set_cons_zero, List.set_cons_succ]
        refine wpList_run (v := .bool false) (wanted_none rfl) (exec_move rfl rfl) ?_
        simp only [Act.put, List.setIfInBounds_toArray, List.set_cons_zero, List.set_cons_succ]
        refine wpList_run (v := .bool true) rfl (exec_move rfl rfl) ?_
        simp only [Act.put, List.setIfInBounds_toArray, List.set_cons_zero, List.set_cons_succ]
        refine wpList_run (v := .bool false) rfl (ix_not (b := true) rfl rfl) ?_
        simp only [Act.put, List.setIfInBounds_toArray, List.set_cons_zero, List.set_cons_succ]
        refine wpList_run (v := .bool false) (wanted_none rfl) (ix_pickF rfl rfl rfl) ?_
        simp only [Act.put, List.setIfInBounds_toArray, List.set_cons_zero, List.set_cons_succ]
        go_upto_region 6 with fail
        refine wp_region_lit ?_
        refine wpList_run (v := strV x) (wanted_none rfl) (exec_move rfl rfl) ?_
        simp only [Act.put, List.setIfInBounds_toArray, List.set_cons_zero, List.set_cons_succ]
        refine wpList_run (v := strV (x ++ [46])) (wanted_none rfl) (exec_saddB rfl rfl rfl (by have := HA.out; have := HB.out; have := HC.out; simp only [List.length_append, List.length_cons, List.length_nil]; omega)) ?_
        simp only [Act.put, List.setIfInBounds_toArray, List.set_cons_zero, List.set_cons_succ]
        refine wpList_run (v := strV y) (wanted_none rfl) (exec_move rfl rfl) ?_
        simp only [Act.put, List.setIfInBounds_toArray, List.set_cons_zero, List.set_cons_succ]
        refine wpList_run (v := strV (x ++ [46] ++ y)) (wanted_none rfl) (exec_saddB rfl rfl rfl (by have := HA.out; have := HB.out; have := HC.out; simp only [List.length_append, List.length_cons, List.length_nil]; omega)) ?_
        simp only [Act.put, List.setIfInBounds_toArray, List.set_cons_zero, List.set_cons_succ]
        refine wpList_run (v := strV (x ++ [46] ++ y ++ [46])) (wanted_none rfl) (exec_saddB rfl rfl rfl (by have := HA.out; have := HB.out; have := HC.out; simp only [List.length_append, List.length_cons, List.length_nil]; omega)) ?_
        simp only [Act.put, List.setIfInBounds_toArray, List.set_cons_zero, List.set_cons_succ]
        refine wpList_run (v := strV z) (wanted_none rfl) (exec_move rfl rfl) ?_
        simp only [Act.put, List.setIfInBounds_toArray, List.set_cons_zero, List.set_cons_succ]
        refine wpList_run (v := strV (x ++ [46] ++ y ++ [46] ++ z)) (wanted_none rfl) (exec_saddB rfl rfl rfl (by have := HA.out; have := HB.out; have := HC.out; simp only [List.length_append, List.length_cons, List.length_nil]; omega)) ?_
        simp only [Act.put, List.setIfInBounds_toArray, List.set_cons_zero, List.set_cons_succ]
        refine wpList_run (v := strV (x ++ [46] ++ y ++ [46] ++ z)) (wanted_none rfl) (gx_assign rfl rfl) ?_
        simp only [Act.put, List.setIfInBounds_toArray, List.set_cons_zero, List.set_cons_succ]
        refine wpList_run (v := .int .i64 0) (wanted_none rfl) (gx_assign rfl rfl) ?_
        simp only [Act.put, List.setIfInBounds_toArray, List.set_cons_zero, List.set_cons_succ]
        go_wp2_with fail
        go_ret2
        rw [show keyM fs = some (keyT x y z) from HK.out]
        exact ⟨rfl, HT0.out.trans HT3.out fun _ _ e => e⟩
set_option maxRecDepth 20000 in
set_option maxHeartbeats 4000000 in
theorem rOriginal_walk {w : World} {ty : Int} {A : Option Addr} {n c : Nat} {fs : List Fld} (hf : Fl w A n fs) (hs : Shorts fs) : Calls Tryd.prog 9 #[msgV ty A n c] w fun e w' => e = .returned (keyV (origM fs)) ∧ Turn nowhere w w' := by
  have HF := Lib.hid hf
  have HS := Lib.hid hs
  clear hf hs
  unfold msgV
  go_enter Tryd.func9, Tryd.ntmps9
  go_upto_region 1 with fail
  have hb0 := Blk.new w 24 #[.int .i64 ty, .slice A n c]
  have hu0 := (Turn.refl nowhere w).alloc (.cells #[.int .i64 ty, .slice A n c] 24)
  obtain ⟨gm, hg0⟩ : ∃ g, g = w.heap.size := ⟨_, rfl⟩
  rw [← hg0] at hb0 ⊢
  clear hg0
  generalize w.alloc (.cells #[.int .i64 ty, .slice A n c] 24) = w1 at *
  have HBgm := Lib.hid hb0
  have HT0 := Lib.hid hu0
  clear hb0 hu0
  refine wp_region_lit ?_
  refine wpList_run (v := msgV ty A n c) (wanted_none rfl) (gx_loads rfl rfl (blk_range HBgm.out) Tryd.underlying24 rfl (by rw [size_msg]; rfl)) ?_
  simp only [Act.put, List.setIfInBounds_toArray, List.set_cons_zero, List.set_cons_succ]
  refine wpList_op rfl fun K9 HK9 => ?_
  go_wp2_with fail
  refine (rGet_walk2 (ty := ty) (no := 32) (c := c) (HF.out.still HT0.out)).mono ?_
  rintro e w2 ⟨rfl, ht⟩
  refine HK9.out _ _ ?_
  clear HK9
  try simp only [Act.put, List.setIfInBounds_toArray, List.set_cons_zero, List.set_cons_succ]
  have HT1 := Lib.hid ht
  clear ht
  refine wpList_run (v := .tuple #[strV ((getM 32 fs).getD []), .bool (getM 32 fs).isSome]) (wanted_none rfl) (exec_move rfl rfl) ?_
  simp only [Act.put, List.setIfInBounds_toArray, List.set_cons_zero, List.set_cons_succ]
  refine wpList_run (v := strV ((getM 32 fs).getD [])) (wanted_none rfl) (ix_extract rfl rfl rfl) ?_
  simp only [Act.put, List.setIfInBounds_toArray, List.set_cons_zero, List.set_cons_succ]
  refine wpList_run (v := .bool (getM 32 fs).isSome) (wanted_none rfl) (ix_extract rfl rfl rfl) ?_
  simp only [Act.put, List.setIfInBounds_toArray, List.set_cons_zero, List.set_cons_succ]
  refine wpList_run (v := strV ((getM 32 fs).getD [])) (wanted_none rfl) (gx_assign rfl rfl) ?_
  simp only [Act.put, List.setIfInBounds_toArray, List.set_cons_zero, List.set_cons_succ]
  refine wpList_run (v := .bool (getM 32 fs).isSome) (wanted_none rfl) (gx_assign rfl rfl) ?_
  simp only [Act.put, List.setIfInBounds_toArray, List.set_cons_zero, List.set_cons_succ]
  go_upto_region 2 with fail
  refine wp_region_lit ?_
  refine wpList_run (v := msgV ty A n c) (wanted_none rfl) (gx_loads rfl rfl (blk_range (HBgm.out.turn HT1.out (fun e => e))) Tryd.underlying24 rfl (by rw [size_msg]; rfl)) ?_
  simp only [Act.put, List.setIfInBounds_toArray, List.set_cons_zero, List.set_cons_succ]
  refine wpList_op rfl fun K9 HK9 => ?_
  go_wp2_with fail
  refine (rGet_walk2 (ty := ty) (no := 90) (c := c) (HF.out.still (HT0.out.trans HT1.out fun _ _ e => e))).mono ?_
  rintro e w3 ⟨rfl, ht⟩
  refine HK9.out _ _ ?_
  clear HK9
  try simp only [Act.put, List.setIfInBounds_toArray, List.set_cons_zero, List.set_cons_succ]
  have HT2 := Lib.hid (HT1.out.trans ht fun _ _ e => e)
  clear ht HT1
  refine wpList_run (v := .tuple #[strV ((getM 90 fs).getD []), .bool (getM 90 fs).isSome]) (wanted_none rfl) (exec_move rfl rfl) ?_
  simp only [Act.put, List.setIfInBounds_toArray, List.set_cons_zero, List.set_cons_succ]
  refine wpList_run (v := strV ((getM 90 fs).getD [])) (wanted_none rfl) (ix_extract rfl rfl rfl) ?_
  simp only [Act.put, List.setIfInBounds_toArray, List.set_cons_zero, List.set_cons_succ]
  refine wpList_run (v := .bool (getM 90 fs).isSome) (wanted_none rfl) (ix_extract rfl rfl rfl) ?_
  simp only [Act.put, List.setIfInBounds_toArray, List.set_cons_zero, List.set_cons_succ]
  refine wpList_run (v := strV ((getM 90 fs).getD [])) (wanted_none rfl) (gx_assign rfl rfl) ?_
  simp only [Act.put, List.setIfInBounds_toArray, List.set_cons_zero, List.set_cons_succ]
  refine wpList_run (v := .bool (getM 90 fs).isSome) (wanted_none rfl) (gx_assign rfl rfl) ?_
  simp only [Act.put, List.setIfInBounds_toArray, List.set_cons_zero, List.set_cons_succ]
  have HA := Lib.hid (HS.out.get 32)
  have HB := Lib.hid (HS.out.get 90)
  have HK := Lib.hid (show origM fs = if (getM 32 fs).isSome && (getM 90 fs).isSome && decide (((getM 90 fs).getD []).length = 20) then some (keyT ((getM 32 fs).getD []) ((((getM 90 fs).getD []).take 10).drop 4) (((getM 90 fs).getD []).drop 10)) else none from rfl)
  generalize (getM 32 fs).isSome = p at *
  generalize (getM 90 fs).isSome = q at *
  generalize (getM 32 fs).getD [] = x at *
  generalize (getM 90 fs).getD [] = y at *
  cases p
  · go_upto_region 3 with fail
    refine wp_region_lit ?_
    refine wpList_run (v := .bool false) (wanted_none rfl) (exec_move rfl rfl) ?_
    simp only [Act.put, List.setIfInBounds_toArray, List.set_cons_zero, List.set_cons_succ]
    refine wpList_run (v := .bool true) (wanted_none rfl) (ix_not (b := false) rfl rfl) ?_
    simp only [Act.put, List.setIfInBounds_toArray, List.set_cons_zero, List.set_cons_succ]
    refine wpList_run (v := .bool true) (wanted_none rfl) (exec_move rfl rfl) ?_
    simp only [Act.put, List.setIfInBounds_toArray, List.set_cons_zero, List.set_cons_succ]
    refine wpList_skip (by go_simp) ?_
    simp only [Act.put, List.setIfInBounds_toArray, List.set_cons_zero, List.set_cons_succ]
    refine wpList_skip (by go_simp) ?_
    simp only [Act.put, List.setIfInBounds_toArray, List.set_cons_zero, List.set_cons_succ]
    refine wpList_run (v := .bool true) (wanted_none rfl) (ix_pickT rfl rfl rfl) ?_
    simp only [Act.put, List.setIfInBounds_toArray, List.set_cons_zero, List.set_cons_succ]
    refine wpList_run (v := .bool true) (wanted_none rfl) (exec_move rfl rfl) ?_
    simp only [Act.put, List.setIfInBounds_toArray, List.set_cons_zero, List.set_cons_succ]
    refine wpList_skip (by go_simp) ?_
    simp only [Act.put, List.setIfInBounds_toArray, List.set_cons_zero, List.set_cons_succ]
    refine wpList_skip (by go_simp) ?_
    simp only [Act.put, List.setIfInBounds_toArray, List.set_cons_zero, List.set_cons_succ]
    refine wpList_skip (by go_simp) ?_
    simp only [Act.put, List.setIfInBounds_toArray, List.set_cons_zero, List.set_cons_succ]
    refine wpList_run (v := .bool true) (wanted_none rfl) (ix_pickT rfl rfl rfl) ?_
    simp only [Act.put, List.setIfInBounds_toArray, List.set_cons_zero, List.set_cons_succ]
    go_upto_region 4 with fail
    refine wp_region_lit ?_
    refine wpList_run (v := strV []) (wanted_none rfl) (gx_assign rfl rfl) ?_
    simp only [Act.put, List.setIfInBounds_toArray, List.set_cons_zero, List.set_cons_succ]
    refine wpList_run (v := .int .i64 160) (wanted_none rfl) (gx_assign rfl rfl) ?_
    simp only [Act.put, List.setIfInBounds_toArray, List.set_cons_zero, List.set_cons_succ]
    go_wp2_with fail
    go_ret2
    rw [show origM fs = none from HK.out]
    exact ⟨rfl, HT0.out.trans HT2.out fun _ _ e => e⟩
  · cases q
    · go_upto_region 3 with fail
      refine wp_region_lit ?_
      refine wpList_run (v := .bool true) (wanted_none rfl) (exec_move rfl rfl) ?_
      simp only [Act.put, List.setIfInBounds_toArray, List.set_cons_zero, List.set_cons_succ]
      refine wpList_run (v := .bool false) (wanted_none rfl) (ix_not (b := true) rfl rfl) ?_
      simp only [Act.put, List.setIfInBounds_toArray, List.set_cons_zero, List.set_cons_succ]
      refine wpList_run (v := .bool false) (wanted_none rfl) (exec_move rfl rfl) ?_
      simp only [Act.put, List.setIfInBounds_toArray, List.set_cons_zero, List.set_cons_succ]
      refine wpList_run (v := .bool false) rfl (exec_move rfl rfl) ?_
      simp only [Act.put, List.setIfInBounds_toArray, List.set_cons_zero, List.set_cons_succ]
      refine wpList_run (v := .bool true) rfl (ix_not (b := false) rfl rfl) ?_
      simp only [Act.put, List.setIfInBounds_toArray, List.set_cons_zero, List.set_cons_succ]
      refine wpList_run (v := .bool true) (wanted_none rfl) (ix_pickF rfl rfl rfl) ?_
      simp only [Act.put, List.setIfInBounds_toArray, List.set_cons_zero, List.set_cons_succ]
      refine wpList_run (v := .bool true) (wanted_none rfl) (exec_move rfl rfl) ?_
      simp only [Act.put, List.setIfInBounds_toArray, List.set_cons_zero, List.set_cons_succ]
      refine wpList_skip (by go_simp) ?_
      simp only [Act.put, List.setIfInBounds_toArray, List.set_cons_zero, List.set_cons_succ]
      refine wpList_skip (by go_simp) ?_
      simp only [Act.put, List.setIfInBounds_toArray, List.set_cons_zero, List.set_cons_succ]
      refine wpList_skip (by go_simp) ?_
      simp only [Act.put, List.setIfInBounds_toArray, List.set_cons_zero, List.set_cons_succ]
      refine wpList_run (v := .bool true) (wanted_none rfl) (ix_pickT rfl rfl rfl) ?_
      simp only [Act.put, List.setIfInBounds_toArray, List.set_cons_zero, List.set_cons_succ]
      go_upto_region 4 with fail
      refine wp_region_lit ?_
      refine wpList_run (v := strV []) (wanted_none rfl) (gx_assign rfl rfl) ?_
      simp only [Act.put, List.setIfInBounds_toArray, List.set_cons_zero, List.set_cons_succ]
      refine wpList_run (v := .int .i64 160) (wanted_none rfl) (gx_assign rfl rfl) ?_
      simp only [Act.put, List.setIfInBounds_toArray, List.set_cons_zero, List.set_cons_succ]
      go_wp2_with fail
      go_ret2
      rw [show origM fs = none from HK.out]
      exact ⟨rfl, HT0.out.trans HT2.out fun _ _ e => e⟩
    · by_cases hl : y.length = 20
      · have HL := Lib.hid hl
        have HLI := Lib.hid (show ((y.length : Nat) : Int) = 20 from by rw [hl]; rfl)
        have HK2 := Lib.hid (show origM fs = some (keyT x ((y.take 10).drop 4) (y.drop 10)) from HK.out.trans (by simp [hl]))
        have HDT := Lib.hid (show (y.take 20).drop 10 = y.drop 10 from by rw [List.take_of_length_le (by omega)])
        clear hl HK
        go_upto_region 3 with fail
        refine wp_region_lit ?_
        refine wpList_run (v := .bool true) (wanted_none rfl) (exec_move rfl rfl) ?_
        simp only [Act.put, List.setIfInBounds_toArray, List.set_cons_zero, List.set_cons_succ]
        refine wpList_run (v := .bool false) (wanted_none rfl) (ix_not (b := true) rfl rfl) ?_
        simp only [Act.put, List.setIfInBounds_toArray, List.set_cons_zero, List.set_cons_succ]
        refine wpList_run (v := .bool false) (wanted_none rfl) (exec_move rfl rfl) ?_
        simp only [Act.put, List.setIfInBounds_toArray, List.set_cons_zero, List.set_cons_succ]
        refine wpList_run (v := .bool true) rfl (exec_move rfl rfl) ?_
        simp only [Act.put, List.setIfInBounds_toArray, List.set_cons_zero, List.set_cons_succ]
        refine wpList_run (v := .bool false) rfl (ix_not (b := true) rfl rfl) ?_
        simp only [Act.put, List.setIfInBounds_toArray, List.set_cons_zero, List.set_cons_succ]
        refine wpList_run (v := .bool false) (wanted_none rfl) (ix_pickF rfl rfl rfl) ?_
        simp only [Act.put, List.setIfInBounds_toArray, List.set_cons_zero, List.set_cons_succ]
        refine wpList_run (v := .bool false) (wanted_none rfl) (exec_move rfl rfl) ?_
        simp only [Act.put, List.setIfInBounds_toArray, List.set_cons_zero, List.set_cons_succ]
        refine wpList_run (v := strV y) rfl (exec_move rfl rfl) ?_
        simp only [Act.put, List.setIfInBounds_toArray, List.set_cons_zero, List.set_cons_succ]
        refine wpList_run (v := .int .i64 ((y).length : Int)) rfl (exec_slen rfl rfl) ?_
        simp only [Act.put, List.setIfInBounds_toArray, List.set_cons_zero, List.set_cons_succ]
        refine wpList_run (v := .bool false) rfl (ix_neq rfl rfl rfl (decide_eq_false (not_not_intro HLI.out))) ?_
        simp only [Act.put, List.setIfInBounds_toArray, List.set_cons_zero, List.set_cons_succ]
        refine wpList_run (v := .bool false) (wanted_none rfl) (ix_pickF rfl rfl rfl) ?_
        simp only [Act.put, List.setIfInBounds_toArray, List.set_cons_zero, List.set_cons_succ]
        go_upto_region 5 with fail
        refine wp_region_alw (fun W => Turn nowhere w1 W) (by kernel_rfl) ?_
        have hS0 := HT2.out.drew
        have HS2 := Lib.hid hS0
        generalize w3.drew = wd at *
        refine alw_take (i := 0) (v := strV x) rfl (by kernel_rfl) (by kernel_rfl) (fun _ _ _ h => h) (.inl ⟨by rfl, fun W hW => exec_move rfl rfl⟩) hS0 ?_
        simp only [Act.put, List.setIfInBounds_toArray, List.set_cons_zero, List.set_cons_succ]
        refine alw_take (i := 1) (v := strV (x ++ [46])) rfl (by kernel_rfl) (by kernel_rfl) (fun _ _ _ h => h) (.inl ⟨by rfl, fun W hW => exec_saddB rfl rfl rfl (by have := HA.out; have := HB.out; simp only [List.length_append, List.length_cons, List.length_nil, List.length_drop, List.length_take]; omega)⟩) hS0 ?_
        simp only [Act.put, List.setIfInBounds_toArray, List.set_cons_zero, List.set_cons_succ]
        refine alw_take (i := 2) (v := strV y) rfl (by kernel_rfl) (by kernel_rfl) (fun _ _ _ h => h) (.inl ⟨by rfl, fun W hW => exec_move rfl rfl⟩) hS0 ?_
        simp only [Act.put, List.setIfInBounds_toArray, List.set_cons_zero, List.set_cons_succ]
        refine alw_take (i := 3) (v := strV ((y.take 10).drop 4)) rfl (by kernel_rfl) (by kernel_rfl) (fun _ _ _ h => h) (.inl ⟨by rfl, fun W hW => exec_smid rfl rfl rfl rfl (by decide) (by have := HL.out; omega)⟩) hS0 ?_
        simp only [Act.put, List.setIfInBounds_toArray, List.set_cons_zero, List.set_cons_succ]
        refine alw_take (i := 4) (v := strV (x ++ [46] ++ ((y.take 10).drop 4))) rfl (by kernel_rfl) (by kernel_rfl) (fun _ _ _ h => h) (.inl ⟨by rfl, fun W hW => exec_saddB rfl rfl rfl (by have := HA.out; have := HB.out; simp only [List.length_append, List.length_cons, List.length_nil, List.length_drop, List.length_take]; omega)⟩) hS0 ?_
        simp only [Act.put, List.setIfInBounds_toArray, List.set_cons_zero, List.set_cons_succ]
        refine alw_take (i := 5) (v := strV (x ++ [46] ++ ((y.take 10).drop 4) ++ [46])) rfl (by kernel_rfl) (by kernel_rfl) (fun _ _ _ h => h) (.inl ⟨by rfl, fun W hW => exec_saddB rfl rfl rfl (by have := HA.out; have := HB.out; simp only [List.length_append, List.length_cons, List.length_nil, List.length_drop, List.length_take]; omega)⟩) hS0 ?_
        simp only [Act.put, List.setIfInBounds_toArray, List.set_cons_zero, List.set_cons_succ]
        refine alw_take (i := 6) (v := strV y) rfl (by kernel_rfl) (by kernel_rfl) (fun _ _ _ h => h) (.inl ⟨by rfl, fun W hW => exec_move rfl rfl⟩) hS0 ?_
        simp only [Act.put, List.setIfInBounds_toArray, List.set_cons_zero, List.set_cons_succ]
        refine alw_take (i := 7) (v := strV ((y.take 20).drop 10)) rfl (by kernel_rfl) (by kernel_rfl) (fun _ _ _ h => h) (.inl ⟨by rfl, fun W hW => exec_smid rfl rfl rfl rfl (by decide) (by have := HL.out; omega)⟩) hS0 ?_
        simp only [Act.put, List.setIfInBounds_toArray, List.set_cons_zero, List.set_cons_succ]
        refine alw_take (i := 8) (v := strV (x ++ [46] ++ ((y.take 10).drop 4) ++ [46] ++ ((y.take 20).drop 10))) rfl (by kernel_rfl) (by kernel_rfl) (fun _ _ _ h => h) (.inl ⟨by rfl, fun W hW => exec_saddB rfl rfl rfl (by have := HA.out; have := HB.out; simp only [List.length_append, List.length_cons, List.length_nil, List.length_drop, List.length_take]; omega)⟩) hS0 ?_
        simp only [Act.put, List.setIfInBounds_toArray, List.set_cons_zero, List.set_cons_succ]
        refine alw_take (i := 9) (v := strV (x ++ [46] ++ ((y.take 10).drop 4) ++ [46] ++ ((y.take 20).drop 10))) rfl (by kernel_rfl) (by kernel_rfl) (fun _ _ _ h => h) (.inl ⟨by rfl, fun W hW => gx_assign rfl rfl⟩) hS0 ?_
        simp only [Act.put, List.setIfInBounds_toArray, List.set_cons_zero, List.set_cons_succ]
        refine alw_take (i := 10) (v := .int .i64 0) rfl (by kernel_rfl) (by kernel_rfl) (fun _ _ _ h => h) (.inl ⟨by rfl, fun W hW => gx_assign rfl rfl⟩) hS0 ?_
        simp only [Act.put, List.setIfInBounds_toArray, List.set_cons_zero, List.set_cons_succ]
        refine alw_done rfl ?_
        refine NoPanic.normal ?_
        go_wp2_with fail
        go_ret2
        rw [HK2.out, ← HDT.out]
        exact ⟨rfl, HT0.out.trans HS2.out fun _ _ e => e⟩
      · have HLI := Lib.hid (show ¬ ((y.length : Nat) : Int) = 20 from by omega)
        have HK2 := Lib.hid (show origM fs = none from HK.out.trans (by simp [hl]))
        clear hl HK
        go_upto_region 3 with fail
        refine wp_region_lit ?_
        refine wpList_run (v := .bool true) (wanted_none rfl) (exec_move rfl rfl) ?_
        simp only [Act.put, List.setIfInBounds_toArray, List.set_cons_zero, List.set_cons_succ]
        refine wpList_run (v := .bool false) (wanted_none rfl) (ix_not (b := true) rfl rfl) ?_
        simp only [Act.put, List.setIfInBounds_toArray, List.set_cons_zero, List.set_cons_succ]
        refine wpList_run (v := .bool false) (wanted_none rfl) (exec_move rfl rfl) ?_
        simp only [Act.put, List.setIfInBounds_toArray, List.set_cons_zero, List.set_cons_succ]
        refine wpList_run (v := .bool true) rfl (exec_move rfl rfl) ?_
        simp only [Act.put, List.setIfInBounds_toArray, List.set_cons_zero, List.set_cons_succ]
        refine wpList_run (v := .bool false) rfl (ix_not (b := true) rfl rfl) ?_
        simp only [Act.put, List.setIfInBounds_toArray, List.set_cons_zero, List.set_cons_succ]
        refine wpList_run (v := .bool false) (wanted_none rfl) (ix_pickF rfl rfl rfl) ?_
        simp only [Act.put, List.setIfInBounds_toArray, List.set_cons_zero, List.set_cons_succ]
        refine wpList_run (v := .bool false) (wanted_none rfl) (exec_move rfl rfl) ?_
        simp only [Act.put, List.setIfInBounds_toArray, List.set_cons_zero, List.set_cons_succ]
        refine wpList_run (v := strV y) rfl (exec_move rfl rfl) ?_
        simp only [Act.put, List.setIfInBounds_toArray, List.set_cons_zero, List.set_cons_succ]
        refine wpList_run (v := .int .i64 ((y).length : Int)) rfl (exec_slen rfl rfl) ?_
        simp only [Act.put, List.setIfInBounds_toArray, List.set_cons_zero, List.set_cons_succ]
        refine wpList_run (v := .bool true) rfl (ix_neq rfl rfl rfl (decide_eq_true HLI.out)) ?_
        simp only [Act.put, List.setIfInBounds_toArray, List.set_cons_zero, List.set_cons_succ]
        refine wpList_run (v := .bool true) (wanted_none rfl) (ix_pickF rfl rfl rfl) ?_
        simp only [Act.put, List.setIfInBounds_toArray, List.set_cons_zero, List.set_cons_succ]
        go_upto_region 4 with fail
        refine wp_region_lit ?_
        refine wpList_run (v := strV []) (wanted_none rfl) (gx_assign rfl rfl) ?_
        simp only [Act.put, List.setIfInBounds_toArray, List.set_cons_zero, List.set_cons_succ]
        refine wpList_run (v := .int .i64 160) (wanted_none rfl) (gx_assign rfl rfl) ?_
        simp only [Act.put, List.setIfInBounds_toArray, List.set_cons_zero, List.set_cons_succ]
        go_wp2_with fail
        go_ret2
        rw [show origM fs = none from HK2.out]
        exact ⟨rfl, HT0.out.trans HT2.out fun _ _ e => e⟩
def nosL : List Int := [2, 3, 4, 7, 11, 32, 49]
def nosV : List Value := nosL.map fun k => .int .i64 k
/-- the table of the fields that are compared -/
def CT (w : World) : Prop := ∀ i v, nosV[i]? = some v → w.cell? ⟨0, i, none⟩ = some v
theorem CT.still {w w' : World} (h : CT w) (ht : Turn nowhere w w') : CT w' := fun i v hv => (ht.cell (World.block_lt_of_cell? _ _ (h i v hv)) (fun e => e)).trans (h i v hv)
theorem CT.range {w : World} (h : CT w) : w.rangeAt 0 0 nosV := fun j v hv => by
  rw [Nat.zero_add]
  exact h j v hv
def alikeF (fa fb : List Fld) (l : List Int) : Bool := l.all fun k => decide (getM k fa = getM k fb)
/-- P14.3 -/
def alikeM (ta : Int) (fa : List Fld) (tb : Int) (fb : List Fld) : Bool := decide (ta.tdiv 10 = tb.tdiv 10) && alikeF fa fb nosL
theorem alike_at {fa fb : List Fld} {no : Int} {j : Nat} (h : nosL[j]? = some no) : alikeF fa fb (nosL.drop j) = (decide (getM no fa = getM no fb) && alikeF fa fb (nosL.drop (j + 1))) := by
  obtain ⟨hj, e⟩ := List.getElem?_eq_some_iff.1 h
  rw [List.drop_eq_getElem_cons hj, e]
  rfl
theorem nos_at {j : Nat} (h : j < 7) : ∃ no, nosL[j]? = some no ∧ nosV[j]? = some (.int .i64 no) := by
  have hj : nosL[j]? = some nosL[j] := List.getElem?_eq_getElem (show j < nosL.length from h)
  exact ⟨nosL[j], hj, by unfold nosV; rw [List.getElem?_map, hj]; rfl⟩
theorem exec_sneT {a : Act} {o : Oper} {W : World} {x y : Operand} {l m : List UInt8} {t u : TypeId} (ho : o.op = .binOp .neq t x y u) (hx : a.eval x = strV l) (hy : a.eval y = strV m) (h : l ≠ m) : (execOp a.eval o).run Tryd.prog W = .ok (.value (.bool true)) W := by
  have := exec_sneq (W := W) ho hx hy
  rwa [show (!(l == m)) = true from by simpa using h] at this
theorem exec_sneF {a : Act} {o : Oper} {W : World} {x y : Operand} {l m : List UInt8} {t u : TypeId} (ho : o.op = .binOp .neq t x y u) (hx : a.eval x = strV l) (hy : a.eval y = strV m) (h : l = m) : (execOp a.eval o).run Tryd.prog W = .ok (.value (.bool false)) W := by
  have := exec_sneq (W := W) ho hx hy
  rwa [show (!(l == m)) = false from by simpa using h] at this
set_option maxRecDepth 20000 in
set_option maxHeartbeats 4000000 in
theorem Alike_walk {w : World} {t1 t2 : Int} {A1 A2 : Option Addr} {n1 c1 n2 c2 : Nat} {fa fb : List Fld} (hf1 : Fl w A1 n1 fa) (hf2 : Fl w A2 n2 fb) (h1 : -9223372036854775808 ≤ t1 ∧ t1 ≤ 9223372036854775807) (h2 : -9223372036854775808 ≤ t2 ∧ t2 ≤ 9223372036854775807) (hc : CT w) : Calls Tryd.prog 10 #[msgV t1 A1 n1 c1, msgV t2 A2 n2 c2] w fun e w' => e = .returned (.bool (alikeM t1 fa t2 fb)) ∧ Turn nowhere w w' := by
  have HF1 := Lib.hid hf1
  have HF2 := Lib.hid hf2
  have HI1 := Lib.hid h1
  have HI2 := Lib.hid h2
  have HC := Lib.hid hc
  clear hf1 hf2 h1 h2 hc
  unfold msgV
  go_enter Tryd.func10, Tryd.ntmps10
  go_upto_region 1 with fail
  have hb0 := Blk.new w 24 #[.int .i64 t1, .slice A1 n1 c1]
  have hu0 := (Turn.refl nowhere w).alloc (.cells #[.int .i64 t1, .slice A1 n1 c1] 24)
  have hb1 := Blk.new (w.alloc (.cells #[.int .i64 t1, .slice A1 n1 c1] 24)) 24 #[.int .i64 t2, .slice A2 n2 c2]
  have hu1 := (Turn.refl nowhere (w.alloc (.cells #[.int .i64 t1, .slice A1 n1 c1] 24))).alloc (.cells #[.int .i64 t2, .slice A2 n2 c2] 24)
  rw [show (w.alloc (.cells #[.int .i64 t1, .slice A1 n1 c1] 24)).heap.size = w.heap.size + 1 from by simp] at hb1
  have hbz := hb0.alloc (.cells #[.int .i64 t2, .slice A2 n2 c2] 24)
  have huz := hu0.trans hu1 (fun _ _ e => e)
  clear hb0 hu0 hu1
  obtain ⟨gb, hg1⟩ : ∃ g, g = w.heap.size + 1 := ⟨_, rfl⟩
  rw [← hg1] at hb1 ⊢
  clear hg1
  obtain ⟨ga, hg0⟩ : ∃ g, g = w.heap.size := ⟨_, rfl⟩
  rw [← hg0] at hbz ⊢
  clear hg0
  generalize (w.alloc (.cells #[.int .i64 t1, .slice A1 n1 c1] 24)).alloc (.cells #[.int .i64 t2, .slice A2 n2 c2] 24) = w1 at *
  have HBga := Lib.hid hbz
  have HT0 := Lib.hid huz
  have HBgb := Lib.hid hb1
  clear hbz huz hb1
  refine wp_region_lit ?_
  by_cases ht : t1.tdiv 10 = t2.tdiv 10
  · have HTE := Lib.hid ht
    clear ht
    refine wpList_run (v := .pointer (some ⟨ga, 0, none⟩)) (wanted_none rfl) (exec_field (off := 0) (d := 0) rfl rfl (by kernel_rfl)) ?_
    simp only [Act.put, List.setIfInBounds_toArray, List.set_cons_zero, List.set_cons_succ]
    refine wpList_run (v := .int .i64 t1) (wanted_none rfl) (exec_load1 rfl rfl (by kernel_rfl) (HBga.out.cell 0)) ?_
    simp only [Act.put, List.setIfInBounds_toArray, List.set_cons_zero, List.set_cons_succ]
    refine wpList_run (v := .int .i64 (t1.tdiv 10)) (wanted_none rfl) (ix_quo10 rfl rfl rfl HI1.out) ?_
    simp only [Act.put, List.setIfInBounds_toArray, List.set_cons_zero, List.set_cons_succ]
    refine wpList_run (v := .pointer (some ⟨gb, 0, none⟩)) (wanted_none rfl) (exec_field (off := 0) (d := 0) rfl rfl (by kernel_rfl)) ?_
    simp only [Act.put, List.setIfInBounds_toArray, List.set_cons_zero, List.set_cons_succ]
    refine wpList_run (v := .int .i64 t2) (wanted_none rfl) (exec_load1 rfl rfl (by kernel_rfl) (HBgb.out.cell 0)) ?_
    simp only [Act.put, List.setIfInBounds_toArray, List.set_cons_zero, List.set_cons_succ]
    refine wpList_run (v := .int .i64 (t2.tdiv 10)) (wanted_none rfl) (ix_quo10 rfl rfl rfl HI2.out) ?_
    simp only [Act.put, List.setIfInBounds_toArray, List.set_cons_zero, List.set_cons_succ]
    refine wpList_run (v := .bool false) (wanted_none rfl) (ix_neq rfl rfl rfl (decide_eq_false (not_not_intro HTE.out))) ?_
    simp only [Act.put, List.setIfInBounds_toArray, List.set_cons_zero, List.set_cons_succ]
    have HAM := Lib.hid (show alikeM t1 fa t2 fb = alikeF fa fb nosL from by unfold alikeM; rw [decide_eq_true HTE.out]; rfl)
    go_upto_region 3 with fail
    refine wp_region_lit ?_
    refine wpList_run (v := .agg nosV.toArray) (wanted_none rfl) (gx_loads rfl rfl (HC.out.still HT0.out).range Tryd.underlying38 rfl (by kernel_rfl)) ?_
    simp only [Act.put, List.setIfInBounds_toArray, List.set_cons_zero, List.set_cons_succ]
    refine wpList_run (v := .int .i64 0) (wanted_none rfl) (exec_move rfl rfl) ?_
    simp only [Act.put, List.setIfInBounds_toArray, List.set_cons_zero, List.set_cons_succ]
    go_wp2_with fail
    go_loopg [19] 7 (fun gk iv wr => ∃ j : Nat, j + gk = 7 ∧ iv = .int .i64 (j : Int) ∧ Turn nowhere w1 wr ∧ alikeF fa fb (nosL.drop j) = alikeF fa fb nosL)
    case atStart => exact ⟨0, by omega, rfl, Turn.refl _ _, rfl⟩
    obtain ⟨j, hj, rfl, htr, hal⟩ := hrel
    have HJ := Lib.hid hj
    have HTR := Lib.hid htr
    have HAL := Lib.hid hal
    clear hj htr hal
    by_cases hlt : j < 7
    · have HLT := Lib.hid hlt
      have y1 : (j : Int) < 7 := by omega
      obtain ⟨no, hn1, hn2⟩ := nos_at hlt
      have HN := Lib.hid (alike_at (fa := fa) (fb := fb) hn1)
      have HNV := Lib.hid hn2
      clear hlt hn1 hn2
      go_upto_region 4 with fail
      refine wp_region_lit ?_
      refine wpList_run (v := .bool true) (wanted_none rfl) (ix_lss rfl rfl rfl (decide_eq_true y1)) ?_
      simp only [Act.put, List.setIfInBounds_toArray, List.set_cons_zero, List.set_cons_succ]
      go_upto_region 5 with fail
      refine wp_region_lit ?_
      refine wpList_run (v := .int .i64 no) (wanted_none rfl) (exec_index1 rfl rfl rfl Tryd.underlying38 HLT.out size_int (by kernel_rfl) (by simpa using HNV.out)) ?_
      simp only [Act.put, List.setIfInBounds_toArray, List.set_cons_zero, List.set_cons_succ]
      refine wpList_run (v := .int .i64 no) (wanted_none rfl) (gx_assign rfl rfl) ?_
      simp only [Act.put, List.setIfInBounds_toArray, List.set_cons_zero, List.set_cons_succ]
      go_upto_region 6 with fail
      refine wp_region_lit ?_
      refine wpList_run (v := msgV t1 A1 n1 c1) (wanted_none rfl) (gx_loads rfl rfl (blk_range (HBga.out.turn HTR.out (fun e => e))) Tryd.underlying24 rfl (by rw [size_msg]; rfl)) ?_
      simp only [Act.put, List.setIfInBounds_toArray, List.set_cons_zero, List.set_cons_succ]
      refine wpList_run (v := .int .i64 no) (wanted_none rfl) (exec_move rfl rfl) ?_
      simp only [Act.put, List.setIfInBounds_toArray, List.set_cons_zero, List.set_cons_succ]
      refine wpList_op rfl fun K9 HK9 => ?_
      go_wp2_with fail
      refine (Get_walk2 (ty := t1) (no := no) (c := c1) (HF1.out.still (HT0.out.trans HTR.out fun _ _ e => e))).mono ?_
      rintro e w2 ⟨rfl, ht⟩
      refine HK9.out _ _ ?_
      clear HK9
      try simp only [Act.put, List.setIfInBounds_toArray, List.set_cons_zero, List.set_cons_succ]
      have HT2 := Lib.hid (HTR.out.trans ht fun _ _ e => e)
      clear ht
      refine wpList_run (v := .tuple #[strV ((getM no fa).getD []), .bool (getM no fa).isSome]) (wanted_none rfl) (exec_move rfl rfl) ?_
      simp only [Act.put, List.setIfInBounds_toArray, List.set_cons_zero, List.set_cons_succ]
      refine wpList_run (v := strV ((getM no fa).getD [])) (wanted_none rfl) (ix_extract rfl rfl rfl) ?_
      simp only [Act.put, List.setIfInBounds_toArray, List.set_cons_zero, List.set_cons_succ]
      refine wpList_run (v := .bool (getM no fa).isSome) (wanted_none rfl) (ix_extract rfl rfl rfl) ?_
      simp only [Act.put, List.setIfInBounds_toArray, List.set_cons_zero, List.set_cons_succ]
      refine wpList_run (v := strV ((getM no fa).getD [])) (wanted_none rfl) (gx_assign rfl rfl) ?_
      simp only [Act.put, List.setIfInBounds_toArray, List.set_cons_zero, List.set_cons_succ]
      refine wpList_run (v := .bool (getM no fa).isSome) (wanted_none rfl) (gx_assign rfl rfl) ?_
      simp only [Act.put, List.setIfInBounds_toArray, List.set_cons_zero, List.set_cons_succ]
      go_upto_region 7 with fail
      refine wp_region_lit ?_
      refine wpList_run (v := msgV t2 A2 n2 c2) (wanted_none rfl) (gx_loads rfl rfl (blk_range (HBgb.out.turn HT2.out (fun e => e))) Tryd.underlying24 rfl (by rw [size_msg]; rfl)) ?_
      simp only [Act.put, List.setIfInBounds_toArray, List.set_cons_zero, List.set_cons_succ]
      refine wpList_run (v := .int .i64 no) (wanted_none rfl) (exec_move rfl rfl) ?_
      simp only [Act.put, List.setIfInBounds_toArray, List.set_cons_zero, List.set_cons_succ]
      refine wpList_op rfl fun K9 HK9 => ?_
      go_wp2_with fail
      refine (Get_walk2 (ty := t2) (no := no) (c := c2) (HF2.out.still (HT0.out.trans HT2.out fun _ _ e => e))).mono ?_
      rintro e w3 ⟨rfl, ht⟩
      refine HK9.out _ _ ?_
      clear HK9
      try simp only [Act.put, List.setIfInBounds_toArray, List.set_cons_zero, List.set_cons_succ]
      have HT3 := Lib.hid (HT2.out.trans ht fun _ _ e => e)
      clear ht HT2
      refine wpList_run (v := .tuple #[strV ((getM no fb).getD []), .bool (getM no fb).isSome]) (wanted_none rfl) (exec_move rfl rfl) ?_
      simp only [Act.put, List.setIfInBounds_toArray, List.set_cons_zero, List.set_cons_succ]
      refine wpList_run (v := strV ((getM no fb).getD [])) (wanted_none rfl) (ix_extract rfl rfl rfl) ?_
      simp only [Act.put, List.setIfInBounds_toArray, List.set_cons_zero, List.set_cons_succ]
      refine wpList_run (v := .bool (getM no fb).isSome) (wanted_none rfl) (ix_extract rfl rfl rfl) ?_
      simp only [Act.put, List.setIfInBounds_toArray, List.set_cons_zero, List.set_cons_succ]
      refine wpList_run (v := strV ((getM no fb).getD [])) (wanted_none rfl) (gx_assign rfl rfl) ?_
      simp only [Act.put, List.setIfInBounds_toArray, List.set_cons_zero, List.set_cons_succ]
      refine wpList_run (v := .bool (getM no fb).isSome) (wanted_none rfl) (gx_assign rfl rfl) ?_
      simp only [Act.put, List.setIfInBounds_toArray, List.set_cons_zero, List.set_cons_succ]
      generalize getM no fa = o1 at *
      generalize getM no fb = o2 at *
      rcases o1 with _ | x1
      · rcases o2 with _ | x2
        · go_upto_region 8 with fail
          refine wp_region_lit ?_
          refine wpList_run (v := .bool false) (wanted_none rfl) (exec_move rfl rfl) ?_
          simp only [Act.put, List.setIfInBounds_toArray, List.set_cons_zero, List.set_cons_succ]
          refine wpList_run (v := .bool false) (wanted_none rfl) (exec_move rfl rfl) ?_
          simp only [Act.put, List.setIfInBounds_toArray, List.set_cons_zero, List.set_cons_succ]
          refine wpList_run (v := .bool false) (wanted_none rfl) (bx_neb rfl rfl rfl (by rfl) rfl) ?_
          simp only [Act.put, List.setIfInBounds_toArray, List.set_cons_zero, List.set_cons_succ]
          refine wpList_run (v := .bool false) (wanted_none rfl) (exec_move rfl rfl) ?_
          simp only [Act.put, List.setIfInBounds_toArray, List.set_cons_zero, List.set_cons_succ]
          refine wpList_run (v := strV []) rfl (exec_move rfl rfl) ?_
          simp only [Act.put, List.setIfInBounds_toArray, List.set_cons_zero, List.set_cons_succ]
          refine wpList_run (v := strV []) rfl (exec_move rfl rfl) ?_
          simp only [Act.put, List.setIfInBounds_toArray, List.set_cons_zero, List.set_cons_succ]
          refine wpList_run (v := .bool false) rfl (exec_sneF rfl rfl rfl (rfl)) ?_
          simp only [Act.put, List.setIfInBounds_toArray, List.set_cons_zero, List.set_cons_succ]
          refine wpList_run (v := .bool false) (wanted_none rfl) (ix_pickF rfl rfl rfl) ?_
          simp only [Act.put, List.setIfInBounds_toArray, List.set_cons_zero, List.set_cons_succ]
          have HZ := Lib.hid (show alikeF fa fb (nosL.drop (j + 1)) = alikeF fa fb nosL from by rw [← HAL.out, HN.out, decide_eq_true (rfl)]; rfl)
          go_upto_region 10 with fail
          refine wp_region_lit ?_
          refine wpList_run (v := .int .i64 ((j + 1 : Nat) : Int)) (wanted_none rfl) (ix_add rfl rfl rfl (by omega) (by omega)) ?_
          simp only [Act.put, List.setIfInBounds_toArray, List.set_cons_zero, List.set_cons_succ]
          refine wpList_run (v := .int .i64 ((j + 1 : Nat) : Int)) (wanted_none rfl) (exec_move rfl rfl) ?_
          simp only [Act.put, List.setIfInBounds_toArray, List.set_cons_zero, List.set_cons_succ]
          go_wp2_with fail
          go_roundg (gk - 1)
          case measure => have := HJ.out; have := HLT.out; omega
          case rel => exact ⟨j + 1, by have := HJ.out; have := HLT.out; omega, by go_num, HT3.out, HZ.out⟩
        · go_upto_region 8 with fail
          refine wp_region_lit ?_
          refine wpList_run (v := .bool false) (wanted_none rfl) (exec_move rfl rfl) ?_
          simp only [Act.put, List.setIfInBounds_toArray, List.set_cons_zero, List.set_cons_succ]
          refine wpList_run (v := .bool true) (wanted_none rfl) (exec_move rfl rfl) ?_
          simp only [Act.put, List.setIfInBounds_toArray, List.set_cons_zero, List.set_cons_succ]
          refine wpList_run (v := .bool true) (wanted_none rfl) (bx_neb rfl rfl rfl (by rfl) rfl) ?_
          simp only [Act.put, List.setIfInBounds_toArray, List.set_cons_zero, List.set_cons_succ]
          refine wpList_run (v := .bool true) (wanted_none rfl) (exec_move rfl rfl) ?_
          simp only [Act.put, List.setIfInBounds_toArray, List.set_cons_zero, List.set_cons_succ]
          refine wpList_skip (by go_simp) ?_
          simp only [Act.put, List.setIfInBounds_toArray, List.set_cons_zero, List.set_cons_succ]
          refine wpList_skip (by go_simp) ?_
          simp only [Act.put, List.setIfInBounds_toArray, List.set_cons_zero, List.set_cons_succ]
          refine wpList_skip (by go_simp) ?_
          simp only [Act.put, List.setIfInBounds_toArray, List.set_cons_zero, List.set_cons_succ]
          refine wpList_run (v := .bool true) (wanted_none rfl) (ix_pickT rfl rfl rfl) ?_
          simp only [Act.put, List.setIfInBounds_toArray, List.set_cons_zero, List.set_cons_succ]
          go_upto_region 9 with fail
          refine wp_region_lit ?_
          refine wpList_run (v := .bool false) (wanted_none rfl) (gx_assign rfl rfl) ?_
          simp only [Act.put, List.setIfInBounds_toArray, List.set_cons_zero, List.set_cons_succ]
          have HZ := Lib.hid (show alikeM t1 fa t2 fb = false from by rw [HAM.out, ← HAL.out, HN.out, decide_eq_false (fun h => nomatch h)]; rfl)
          go_wp2_with fail
          go_ret
          rw [HZ.out]
          exact ⟨rfl, HT0.out.trans HT3.out fun _ _ e => e⟩
      · rcases o2 with _ | x2
        · go_upto_region 8 with fail
          refine wp_region_lit ?_
          refine wpList_run (v := .bool true) (wanted_none rfl) (exec_move rfl rfl) ?_
          simp only [Act.put, List.setIfInBounds_toArray, List.set_cons_zero, List.set_cons_succ]
          refine wpList_run (v := .bool false) (wanted_none rfl) (exec_move rfl rfl) ?_
          simp only [Act.put, List.setIfInBounds_toArray, List.set_cons_zero, List.set_cons_succ]
          refine wpList_run (v := .bool true) (wanted_none rfl) (bx_neb rfl rfl rfl (by rfl) rfl) ?_
          simp only [Act.put, List.setIfInBounds_toArray, List.set_cons_zero, List.set_cons_succ]
          refine wpList_run (v := .bool true) (wanted_none rfl) (exec_move rfl rfl) ?_
          simp only [Act.put, List.setIfInBounds_toArray, List.set_cons_zero, List.set_cons_succ]
          refine wpList_skip (by go_simp) ?_
          simp only [Act.put, List.setIfInBounds_toArray, List.set_cons_zero, List.set_cons_succ]
          refine wpList_skip (by go_simp) ?_
          simp only [Act.put, List.setIfInBounds_toArray, List.set_cons_zero, List.set_cons_succ]
          refine wpList_skip (by go_simp) ?_
          simp only [Act.put, List.setIfInBounds_toArray, List.set_cons_zero, List.set_cons_succ]
          refine wpList_run (v := .bool true) (wanted_none rfl) (ix_pickT rfl rfl rfl) ?_
          simp only [Act.put, List.setIfInBounds_toArray, List.set_cons_zero, List.set_cons_succ]
          go_upto_region 9 with fail
          refine wp_region_lit ?_
          refine wpList_run (v := .bool false) (wanted_none rfl) (gx_assign rfl rfl) ?_
          simp only [Act.put, List.setIfInBounds_toArray, List.set_cons_zero, List.set_cons_succ]
          have HZ := Lib.hid (show alikeM t1 fa t2 fb = false from by rw [HAM.out, ← HAL.out, HN.out, decide_eq_false (fun h => nomatch h)]; rfl)
          go_wp2_with fail
          go_ret
          rw [HZ.out]
          exact ⟨rfl, HT0.out.trans HT3.out fun _ _ e => e⟩
        · by_cases hx : x1 = x2
          · have HX := Lib.hid hx
            clear hx
            go_upto_region 8 with fail
            refine wp_region_lit ?_
            refine wpList_run (v := .bool true) (wanted_none rfl) (exec_move rfl rfl) ?_
            simp only [Act.put, List.setIfInBounds_toArray, List.set_cons_zero, List.set_cons_succ]
            refine wpList_run (v := .bool true) (wanted_none rfl) (exec_move rfl rfl) ?_
            simp only [Act.put, List.setIfInBounds_toArray, List.set_cons_zero, List.set_cons_succ]
            refine wpList_run (v := .bool false) (wanted_none rfl) (bx_neb rfl rfl rfl (by rfl) rfl) ?_
            simp only [Act.put, List.setIfInBounds_toArray, List.set_cons_zero, List.set_cons_succ]
            refine wpList_run (v := .bool false) (wanted_none rfl) (exec_move rfl rfl) ?_
            simp only [Act.put, List.setIfInBounds_toArray, List.set_cons_zero, List.set_cons_succ]
            refine wpList_run (v := strV x1) rfl (exec_move rfl rfl) ?_
            simp only [Act.put, List.setIfInBounds_toArray, List.set_cons_zero, List.set_cons_succ]
            refine wpList_run (v := strV x2) rfl (exec_move rfl rfl) ?_
            simp only [Act.put, List.setIfInBounds_toArray, List.set_cons_zero, List.set_cons_succ]
            refine wpList_run (v := .bool false) rfl (exec_sneF rfl rfl rfl (HX.out)) ?_
            simp only [Act.put, List.setIfInBounds_toArray, List.set_cons_zero, List.set_cons_succ]
            refine wpList_run (v := .bool false) (wanted_none rfl) (ix_pickF rfl rfl rfl) ?_
            simp only [Act.put, List.setIfInBounds_toArray, List.set_cons_zero, List.set_cons_succ]
            have HZ := Lib.hid (show alikeF fa fb (nosL.drop (j + 1)) = alikeF fa fb nosL from by rw [← HAL.out, HN.out, decide_eq_true (congrArg some HX.out)]; rfl)
            go_upto_region 10 with fail
            refine wp_region_lit ?_
            refine wpList_run (v := .int .i64 ((j + 1 : Nat) : Int)) (wanted_none rfl) (ix_add rfl rfl rfl (by omega) (by omega)) ?_
            simp only [Act.put, List.setIfInBounds_toArray, List.set_cons_zero, List.set_cons_succ]
            refine wpList_run (v := .int .i64 ((j + 1 : Nat) : Int)) (wanted_none rfl) (exec_move rfl rfl) ?_
            simp only [Act.put, List.setIfInBounds_toArray, List.set_cons_zero, List.set_cons_succ]
            go_wp2_with fail
            go_roundg (gk - 1)
            case measure => have := HJ.out; have := HLT.out; omega
            case rel => exact ⟨j + 1, by have := HJ.out; have := HLT.out; omega, by go_num, HT3.out, HZ.out⟩
          · have HX := Lib.hid hx
            clear hx
            go_upto_region 8 with fail
            refine wp_region_lit ?_
            refine wpList_run (v := .bool true) (wanted_none rfl) (exec_move rfl rfl) ?_
            simp only [Act.put, List.setIfInBounds_toArray, List.set_cons_zero, List.set_cons_succ]
            refine wpList_run (v := .bool true) (wanted_none rfl) (exec_move rfl rfl) ?_
            simp only [Act.put, List.setIfInBounds_toArray, List.set_cons_zero, List.set_cons_succ]
            refine wpList_run (v := .bool false) (wanted_none rfl) (bx_neb rfl rfl rfl (by rfl) rfl) ?_
            simp only [Act.put, List.setIfInBounds_toArray, List.set_cons_zero, List.set_cons_succ]
            refine wpList_run (v := .bool false) (wanted_none rfl) (exec_move rfl rfl) ?_
            simp only [Act.put, List.setIfInBounds_toArray, List.set_cons_zero, List.set_cons_succ]
            refine wpList_run (v := strV x1) rfl (exec_move rfl rfl) ?_
            simp only [Act.put, List.setIfInBounds_toArray, List.set_cons_zero, List.set_cons_succ]
            refine wpList_run (v := strV x2) rfl (exec_move rfl rfl) ?_
            simp only [Act.put, List.setIfInBounds_toArray, List.set_cons_zero, List.set_cons_succ]
            refine wpList_run (v := .bool true) rfl (exec_sneT rfl rfl rfl (HX.out)) ?_
            simp only [Act.put, List.setIfInBounds_toArray, List.set_cons_zero, List.set_cons_succ]
            refine wpList_run (v := .bool true) (wanted_none rfl) (ix_pickF rfl rfl rfl) ?_
            simp only [Act.put, List.setIfInBounds_toArray, List.set_cons_zero, List.set_cons_succ]
            go_upto_region 9 with fail
            refine wp_region_lit ?_
            refine wpList_run (v := .bool false) (wanted_none rfl) (gx_assign rfl rfl) ?_
            simp only [Act.put, List.setIfInBounds_toArray, List.set_cons_zero, List.set_cons_succ]
            have HZ := Lib.hid (show alikeM t1 fa t2 fb = false from by rw [HAM.out, ← HAL.out, HN.out, decide_eq_false (fun h => HX.out (Option.some.inj h))]; rfl)
            go_wp2_with fail
            go_ret
            rw [HZ.out]
            exact ⟨rfl, HT0.out.trans HT3.out fun _ _ e => e⟩
    · have y1 : ¬ (j : Int) < 7 := by omega
      have HZ := Lib.hid (show alikeM t1 fa t2 fb = true from by rw [HAM.out, ← HAL.out, List.drop_eq_nil_of_le (by show 7 ≤ j; omega)]; rfl)
      clear hlt
      go_upto_region 4 with fail
      refine wp_region_lit ?_
      refine wpList_run (v := .bool false) (wanted_none rfl) (ix_lss rfl rfl rfl (decide_eq_false y1)) ?_
      simp only [Act.put, List.setIfInBounds_toArray, List.set_cons_zero, List.set_cons_succ]
      go_upto_region 11 with fail
      refine wp_region_lit ?_
      refine wpList_run (v := .bool true) (wanted_none rfl) (gx_assign rfl rfl) ?_
      simp only [Act.put, List.setIfInBounds_toArray, List.set_cons_zero, List.set_cons_succ]
      go_wp2_with fail
      go_ret
      rw [HZ.out]
      exact ⟨rfl, HT0.out.trans HTR.out fun _ _ e => e⟩
  · have HTE := Lib.hid ht
    clear ht
    refine wpList_run (v := .pointer (some ⟨ga, 0, none⟩)) (wanted_none rfl) (exec_field (off := 0) (d := 0) rfl rfl (by kernel_rfl)) ?_
    simp only [Act.put, List.setIfInBounds_toArray, List.set_cons_zero, List.set_cons_succ]
    refine wpList_run (v := .int .i64 t1) (wanted_none rfl) (exec_load1 rfl rfl (by kernel_rfl) (HBga.out.cell 0)) ?_
    simp only [Act.put, List.setIfInBounds_toArray, List.set_cons_zero, List.set_cons_succ]
    refine wpList_run (v := .int .i64 (t1.tdiv 10)) (wanted_none rfl) (ix_quo10 rfl rfl rfl HI1.out) ?_
    simp only [Act.put, List.setIfInBounds_toArray, List.set_cons_zero, List.set_cons_succ]
    refine wpList_run (v := .pointer (some ⟨gb, 0, none⟩)) (wanted_none rfl) (exec_field (off := 0) (d := 0) rfl rfl (by kernel_rfl)) ?_
    simp only [Act.put, List.setIfInBounds_toArray, List.set_cons_zero, List.set_cons_succ]
    refine wpList_run (v := .int .i64 t2) (wanted_none rfl) (exec_load1 rfl rfl (by kernel_rfl) (HBgb.out.cell 0)) ?_
    simp only [Act.put, List.setIfInBounds_toArray, List.set_cons_zero, List.set_cons_succ]
    refine wpList_run (v := .int .i64 (t2.tdiv 10)) (wanted_none rfl) (ix_quo10 rfl rfl rfl HI2.out) ?_
    simp only [Act.put, List.setIfInBounds_toArray, List.set_cons_zero, List.set_cons_succ]
    refine wpList_run (v := .bool true) (wanted_none rfl) (ix_neq rfl rfl rfl (decide_eq_true HTE.out)) ?_
    simp only [Act.put, List.setIfInBounds_toArray, List.set_cons_zero, List.set_cons_succ]
    go_upto_region 2 with fail
    refine wp_region_lit ?_
    refine wpList_run (v := .bool false) (wanted_none rfl) (gx_assign rfl rfl) ?_
    simp only [Act.put, List.setIfInBounds_toArray, List.set_cons_zero, List.set_cons_succ]
    have HAM := Lib.hid (show alikeM t1 fa t2 fb = false from by unfold alikeM; rw [decide_eq_false HTE.out]; rfl)
    go_wp2_with fail
    go_ret
    rw [HAM.out]
    exact ⟨rfl, HT0.out⟩
theorem build_i7 (W : World) : (Instr.buildSlice 39 7 #[(0, .int .i64 2), (1, .int .i64 3), (2, .int .i64 4), (3, .int .i64 7), (4, .int .i64 11), (5, .int .i64 32), (6, .int .i64 49)]).run Tryd.prog W = .ok (.slice (some ⟨W.heap.size, 0, none⟩) 7 7) (W.alloc (.cells nosV.toArray 3)) := by kernel_rfl
theorem bx_slice7 {a : Act} {o : Oper} {q : Value} {W W' : World} (ho : o.op = .buildSlice 39 7 #[(0, .const (.int .i64 2)), (1, .const (.int .i64 3)), (2, .const (.int .i64 4)), (3, .const (.int .i64 7)), (4, .const (.int .i64 11)), (5, .const (.int .i64 32)), (6, .const (.int .i64 49))])
    (h : (Instr.buildSlice 39 7 #[(0, .int .i64 2), (1, .int .i64 3), (2, .int .i64 4), (3, .int .i64 7), (4, .int .i64 11), (5, .int .i64 32), (6, .int .i64 49)]).run Tryd.prog W = .ok q W') : (execOp a.eval o).run Tryd.prog W = .ok (.value q) W' := by
  unfold execOp
  simp [ho, Act.eval, h]
set_option maxRecDepth 20000 in
set_option maxHeartbeats 4000000 in
theorem rAlike_walk {w : World} {t1 t2 : Int} {A1 A2 : Option Addr} {n1 c1 n2 c2 : Nat} {fa fb : List Fld} (hf1 : Fl w A1 n1 fa) (hf2 : Fl w A2 n2 fb) (h1 : -9223372036854775808 ≤ t1 ∧ t1 ≤ 9223372036854775807) (h2 : -9223372036854775808 ≤ t2 ∧ t2 ≤ 9223372036854775807) : Calls Tryd.prog 11 #[msgV t1 A1 n1 c1, msgV t2 A2 n2 c2] w fun e w' => e = .returned (.bool (alikeM t1 fa t2 fb)) ∧ Turn nowhere w w' := by
  have HF1 := Lib.hid hf1
  have HF2 := Lib.hid hf2
  have HI1 := Lib.hid h1
  have HI2 := Lib.hid h2
  clear hf1 hf2 h1 h2
  unfold msgV
  go_enter Tryd.func11, Tryd.ntmps11
  go_upto_region 1 with fail
  have hb0 := Blk.new w 24 #[.int .i64 t1, .slice A1 n1 c1]
  have hu0 := (Turn.refl nowhere w).alloc (.cells #[.int .i64 t1, .slice A1 n1 c1] 24)
  have hb1 := Blk.new (w.alloc (.cells #[.int .i64 t1, .slice A1 n1 c1] 24)) 24 #[.int .i64 t2, .slice A2 n2 c2]
  have hu1 := (Turn.refl nowhere (w.alloc (.cells #[.int .i64 t1, .slice A1 n1 c1] 24))).alloc (.cells #[.int .i64 t2, .slice A2 n2 c2] 24)
  rw [show (w.alloc (.cells #[.int .i64 t1, .slice A1 n1 c1] 24)).heap.size = w.heap.size + 1 from by simp] at hb1
  have hbz := hb0.alloc (.cells #[.int .i64 t2, .slice A2 n2 c2] 24)
  have huz := hu0.trans hu1 (fun _ _ e => e)
  clear hb0 hu0 hu1
  obtain ⟨gb, hg1⟩ : ∃ g, g = w.heap.size + 1 := ⟨_, rfl⟩
  rw [← hg1] at hb1 ⊢
  clear hg1
  obtain ⟨ga, hg0⟩ : ∃ g, g = w.heap.size := ⟨_, rfl⟩
  rw [← hg0] at hbz ⊢
  clear hg0
  generalize (w.alloc (.cells #[.int .i64 t1, .slice A1 n1 c1] 24)).alloc (.cells #[.int .i64 t2, .slice A2 n2 c2] 24) = w1 at *
  have HBga := Lib.hid hbz
  have HT0 := Lib.hid huz
  have HBgb := Lib.hid hb1
  clear hbz huz hb1
  refine wp_region_lit ?_
  by_cases ht : t1.tdiv 10 = t2.tdiv 10
  · have HTE := Lib.hid ht
    clear ht
    refine wpList_run (v := .pointer (some ⟨ga, 0, none⟩)) (wanted_none rfl) (exec_field (off := 0) (d := 0) rfl rfl (by kernel_rfl)) ?_
    simp only [Act.put, List.setIfInBounds_toArray, List.set_cons_zero, List.set_cons_succ]
    refine wpList_run (v := .int .i64 t1) (wanted_none rfl) (exec_load1 rfl rfl (by kernel_rfl) (HBga.out.cell 0)) ?_
    simp only [Act.put, List.setIfInBounds_toArray, List.set_cons_zero, List.set_cons_succ]
    refine wpList_run (v := .int .i64 (t1.tdiv 10)) (wanted_none rfl) (ix_quo10 rfl rfl rfl HI1.out) ?_
    simp only [Act.put, List.setIfInBounds_toArray, List.set_cons_zero, List.set_cons_succ]
    refine wpList_run (v := .pointer (some ⟨gb, 0, none⟩)) (wanted_none rfl) (exec_field (off := 0) (d := 0) rfl rfl (by kernel_rfl)) ?_
    simp only [Act.put, List.setIfInBounds_toArray, List.set_cons_zero, List.set_cons_succ]
    refine wpList_run (v := .int .i64 t2) (wanted_none rfl) (exec_load1 rfl rfl (by kernel_rfl) (HBgb.out.cell 0)) ?_
    simp only [Act.put, List.setIfInBounds_toArray, List.set_cons_zero, List.set_cons_succ]
    refine wpList_run (v := .int .i64 (t2.tdiv 10)) (wanted_none rfl) (ix_quo10 rfl rfl rfl HI2.out) ?_
    simp only [Act.put, List.setIfInBounds_toArray, List.set_cons_zero, List.set_cons_succ]
    refine wpList_run (v := .bool false) (wanted_none rfl) (ix_neq rfl rfl rfl (decide_eq_false (not_not_intro HTE.out))) ?_
    simp only [Act.put, List.setIfInBounds_toArray, List.set_cons_zero, List.set_cons_succ]
    have HAM := Lib.hid (show alikeM t1 fa t2 fb = alikeF fa fb nosL from by unfold alikeM; rw [decide_eq_true HTE.out]; rfl)
    go_upto_region 3 with fail
    refine wp_region_lit ?_
    refine wpList_run (v := .slice (some ⟨w1.heap.size, 0, none⟩) 7 7) (w' := w1.alloc (.cells nosV.toArray 3)) (wanted_none rfl) (bx_slice7 rfl (build_i7 w1)) ?_
    simp only [Act.put, List.setIfInBounds_toArray, List.set_cons_zero, List.set_cons_succ]
    have hb := Blk.new w1 3 nosV.toArray
    have hu := (Turn.refl nowhere w1).alloc (.cells nosV.toArray 3)
    obtain ⟨g, hg0⟩ : ∃ g, g = w1.heap.size := ⟨_, rfl⟩
    rw [← hg0] at hb ⊢
    clear hg0
    generalize w1.alloc (.cells nosV.toArray 3) = w5 at *
    have HB := Lib.hid hb
    have HT5 := Lib.hid hu
    clear hb hu
    refine wpList_run (v := .slice (some ⟨g, 0, none⟩) 7 7) (wanted_none rfl) (gx_assign rfl rfl) ?_
    simp only [Act.put, List.setIfInBounds_toArray, List.set_cons_zero, List.set_cons_succ]
    go_upto_region 4 with fail
    refine wp_region_lit ?_
    refine wpList_run (v := .int .i64 0) (wanted_none rfl) (gx_assign rfl rfl) ?_
    simp only [Act.put, List.setIfInBounds_toArray, List.set_cons_zero, List.set_cons_succ]
    go_wp2_with fail
    go_loopg [6] 7 (fun gk iv wr => ∃ j : Nat, j + gk = 7 ∧ iv = .int .i64 (j : Int) ∧ Turn nowhere w1 wr ∧ Blk wr g 3 nosV.toArray ∧ alikeF fa fb (nosL.drop j) = alikeF fa fb nosL)
    case atStart => exact ⟨0, by omega, rfl, HT5.out, HB.out, rfl⟩
    obtain ⟨j, hj, rfl, htr, hb, hal⟩ := hrel
    have HJ := Lib.hid hj
    have HTR := Lib.hid htr
    have HAL := Lib.hid hal
    have HBr := Lib.hid hb
    clear hb
    clear hj htr hal
    by_cases hlt : j < 7
    · have HLT := Lib.hid hlt
      have y1 : (j : Int) < 7 := by omega
      obtain ⟨no, hn1, hn2⟩ := nos_at hlt
      have HN := Lib.hid (alike_at (fa := fa) (fb := fb) hn1)
      have HNV := Lib.hid hn2
      clear hlt hn1 hn2
      go_upto_region 5 with fail
      refine wp_region_lit ?_
      refine wpList_run (v := .int .i64 (j : Int)) (wanted_none rfl) (exec_move rfl rfl) ?_
      simp only [Act.put, List.setIfInBounds_toArray, List.set_cons_zero, List.set_cons_succ]
      refine wpList_run (v := .slice (some ⟨g, 0, none⟩) 7 7) (wanted_none rfl) (exec_move rfl rfl) ?_
      simp only [Act.put, List.setIfInBounds_toArray, List.set_cons_zero, List.set_cons_succ]
      refine wpList_run (v := .int .i64 (7 : Int)) (wanted_none rfl) (gx_len rfl rfl Tryd.underlying39) ?_
      simp only [Act.put, List.setIfInBounds_toArray, List.set_cons_zero, List.set_cons_succ]
      refine wpList_run (v := .bool true) (wanted_none rfl) (ix_lss rfl rfl rfl (decide_eq_true y1)) ?_
      simp only [Act.put, List.setIfInBounds_toArray, List.set_cons_zero, List.set_cons_succ]
      go_upto_region 7 with fail
      refine wp_region_alw (fun W => Turn nowhere w1 W ∧ Blk W g 3 nosV.toArray) (by kernel_rfl) ?_
      have HD7 := Lib.hid (HTR.out.drew)
      have HBd7 := Lib.hid (HBr.out.drew)
      have hS0 := And.intro HD7.out HBd7.out
      generalize wr.drew = wd7 at *
      refine alw_take (i := 0) (v := msgV t1 A1 n1 c1) rfl (by kernel_rfl) (by kernel_rfl) (fun _ _ _ h => h) (.inl ⟨by rfl, fun W hW => gx_loads rfl rfl (blk_range (HBga.out.turn hW.1 (fun e => e))) Tryd.underlying24 rfl (by rw [size_msg]; rfl)⟩) hS0 ?_
      simp only [Act.put, List.setIfInBounds_toArray, List.set_cons_zero, List.set_cons_succ]
      refine alw_take (i := 1) (v := .slice (some ⟨g, 0, none⟩) 7 7) rfl (by kernel_rfl) (by kernel_rfl) (fun _ _ _ h => h) (.inl ⟨by rfl, fun W hW => exec_move rfl rfl⟩) hS0 ?_
      simp only [Act.put, List.setIfInBounds_toArray, List.set_cons_zero, List.set_cons_succ]
      refine alw_take (i := 2) (v := .int .i64 (j : Int)) rfl (by kernel_rfl) (by kernel_rfl) (fun _ _ _ h => h) (.inl ⟨by rfl, fun W hW => exec_move rfl rfl⟩) hS0 ?_
      simp only [Act.put, List.setIfInBounds_toArray, List.set_cons_zero, List.set_cons_succ]
      refine alw_take (i := 3) (v := .pointer (some ⟨g, j, none⟩)) rfl (by kernel_rfl) (by kernel_rfl) (fun _ _ _ h => h) (.inl ⟨by rfl, fun W hW => gx_iaddr (i := j) (sz := 1) rfl rfl rfl Tryd.underlying39 size_int HLT.out (by omega)⟩) hS0 ?_
      simp only [Act.put, List.setIfInBounds_toArray, List.set_cons_zero, List.set_cons_succ]
      refine alw_take (i := 4) (v := .int .i64 no) rfl (by kernel_rfl) (by kernel_rfl) (fun _ _ _ h => h) (.inl ⟨by rfl, fun W hW => exec_load1 rfl rfl (by kernel_rfl) ((hW.2.cell j).trans (by simpa using HNV.out))⟩) hS0 ?_
      simp only [Act.put, List.setIfInBounds_toArray, List.set_cons_zero, List.set_cons_succ]
      clear hS0
      refine alw_step (i := 5) (by kernel_rfl) rfl rfl ?_
      intro K1 HK1
      go_wp2_with fail
      refine (rGet_walk2 (ty := t1) (no := no) (c := c1) (HF1.out.still (HT0.out.trans HD7.out fun _ _ e => e))).mono ?_
      rintro e w2 ⟨rfl, ht⟩
      have HT2 := Lib.hid (HD7.out.trans ht fun _ _ e => e)
      have HBr2 := Lib.hid (HBd7.out.turn ht (fun e => e))
      clear ht
      refine HK1.out _ _ ⟨⟨HT2.out, HBr2.out⟩, ?_⟩
      clear HK1
      try simp only [Act.put, List.setIfInBounds_toArray, List.set_cons_zero, List.set_cons_succ]
      have hS0 := And.intro HT2.out HBr2.out
      refine alw_take (i := 6) (v := .tuple #[strV ((getM no fa).getD []), .bool (getM no fa).isSome]) rfl (by kernel_rfl) (by kernel_rfl) (fun _ _ _ h => h) (.inl ⟨by rfl, fun W hW => exec_move rfl rfl⟩) hS0 ?_
      simp only [Act.put, List.setIfInBounds_toArray, List.set_cons_zero, List.set_cons_succ]
      refine alw_take (i := 7) (v := strV ((getM no fa).getD [])) rfl (by kernel_rfl) (by kernel_rfl) (fun _ _ _ h => h) (.inl ⟨by rfl, fun W hW => ix_extract rfl rfl rfl⟩) hS0 ?_
      simp only [Act.put, List.setIfInBounds_toArray, List.set_cons_zero, List.set_cons_succ]
      refine alw_take (i := 8) (v := .bool (getM no fa).isSome) rfl (by kernel_rfl) (by kernel_rfl) (fun _ _ _ h => h) (.inl ⟨by rfl, fun W hW => ix_extract rfl rfl rfl⟩) hS0 ?_
      simp only [Act.put, List.setIfInBounds_toArray, List.set_cons_zero, List.set_cons_succ]
      refine alw_take (i := 9) (v := strV ((getM no fa).getD [])) rfl (by kernel_rfl) (by kernel_rfl) (fun _ _ _ h => h) (.inl ⟨by rfl, fun W hW => gx_assign rfl rfl⟩) hS0 ?_
      simp only [Act.put, List.setIfInBounds_toArray, List.set_cons_zero, List.set_cons_succ]
      refine alw_take (i := 10) (v := .bool (getM no fa).isSome) rfl (by kernel_rfl) (by kernel_rfl) (fun _ _ _ h => h) (.inl ⟨by rfl, fun W hW => gx_assign rfl rfl⟩) hS0 ?_
      simp only [Act.put, List.setIfInBounds_toArray, List.set_cons_zero, List.set_cons_succ]
      refine alw_done rfl ?_
      refine NoPanic.normal ?_
      clear hS0
      try simp only [Act.put, List.setIfInBounds_toArray, List.set_cons_zero, List.set_cons_succ]
      go_upto_region 8 with fail
      refine wp_region_alw (fun W => Turn nowhere w1 W ∧ Blk W g 3 nosV.toArray) (by kernel_rfl) ?_
      have HD8 := Lib.hid (HT2.out.drew)
      have HBd8 := Lib.hid (HBr2.out.drew)
      have hS0 := And.intro HD8.out HBd8.out
      generalize w2.drew = wd8 at *
      refine alw_take (i := 0) (v := msgV t2 A2 n2 c2) rfl (by kernel_rfl) (by kernel_rfl) (fun _ _ _ h => h) (.inl ⟨by rfl, fun W hW => gx_loads rfl rfl (blk_range (HBgb.out.turn hW.1 (fun e => e))) Tryd.underlying24 rfl (by rw [size_msg]; rfl)⟩) hS0 ?_
      simp only [Act.put, List.setIfInBounds_toArray, List.set_cons_zero, List.set_cons_succ]
      refine alw_take (i := 1) (v := .slice (some ⟨g, 0, none⟩) 7 7) rfl (by kernel_rfl) (by kernel_rfl) (fun _ _ _ h => h) (.inl ⟨by rfl, fun W hW => exec_move rfl rfl⟩) hS0 ?_
      simp only [Act.put, List.setIfInBounds_toArray, List.set_cons_zero, List.set_cons_succ]
      refine alw_take (i := 2) (v := .int .i64 (j : Int)) rfl (by kernel_rfl) (by kernel_rfl) (fun _ _ _ h => h) (.inl ⟨by rfl, fun W hW => exec_move rfl rfl⟩) hS0 ?_
      simp only [Act.put, List.setIfInBounds_toArray, List.set_cons_zero, List.set_cons_succ]
      refine alw_take (i := 3) (v := .pointer (some ⟨g, j, none⟩)) rfl (by kernel_rfl) (by kernel_rfl) (fun _ _ _ h => h) (.inl ⟨by rfl, fun W hW => gx_iaddr (i := j) (sz := 1) rfl rfl rfl Tryd.underlying39 size_int HLT.out (by omega)⟩) hS0 ?_
      simp only [Act.put, List.setIfInBounds_toArray, List.set_cons_zero, List.set_cons_succ]
      refine alw_take (i := 4) (v := .int .i64 no) rfl (by kernel_rfl) (by kernel_rfl) (fun _ _ _ h => h) (.inl ⟨by rfl, fun W hW => exec_load1 rfl rfl (by kernel_rfl) ((hW.2.cell j).trans (by simpa using HNV.out))⟩) hS0 ?_
      simp only [Act.put, List.setIfInBounds_toArray, List.set_cons_zero, List.set_cons_succ]
      clear hS0
      refine alw_step (i := 5) (by kernel_rfl) rfl rfl ?_
      intro K1 HK1
      go_wp2_with fail
      refine (rGet_walk2 (ty := t2) (no := no) (c := c2) (HF2.out.still (HT0.out.trans HD8.out fun _ _ e => e))).mono ?_
      rintro e w3 ⟨rfl, ht⟩
      have HT3 := Lib.hid (HD8.out.trans ht fun _ _ e => e)
      have HBr3 := Lib.hid (HBd8.out.turn ht (fun e => e))
      clear ht
      refine HK1.out _ _ ⟨⟨HT3.out, HBr3.out⟩, ?_⟩
      clear HK1
      try simp only [Act.put, List.setIfInBounds_toArray, List.set_cons_zero, List.set_cons_succ]
      have hS0 := And.intro HT3.out HBr3.out
      refine alw_take (i := 6) (v := .tuple #[strV ((getM no fb).getD []), .bool (getM no fb).isSome]) rfl (by kernel_rfl) (by kernel_rfl) (fun _ _ _ h => h) (.inl ⟨by rfl, fun W hW => exec_move rfl rfl⟩) hS0 ?_
      simp only [Act.put, List.setIfInBounds_toArray, List.set_cons_zero, List.set_cons_succ]
      refine alw_take (i := 7) (v := strV ((getM no fb).getD [])) rfl (by kernel_rfl) (by kernel_rfl) (fun _ _ _ h => h) (.inl ⟨by rfl, fun W hW => ix_extract rfl rfl rfl⟩) hS0 ?_
      simp only [Act.put, List.setIfInBounds_toArray, List.set_cons_zero, List.set_cons_succ]
      refine alw_take (i := 8) (v := .bool (getM no fb).isSome) rfl (by kernel_rfl) (by kernel_rfl) (fun _ _ _ h => h) (.inl ⟨by rfl, fun W hW => ix_extract rfl rfl rfl⟩) hS0 ?_
      simp only [Act.put, List.setIfInBounds_toArray, List.set_cons_zero, List.set_cons_succ]
      refine alw_take (i := 9) (v := strV ((getM no fb).getD [])) rfl (by kernel_rfl) (by kernel_rfl) (fun _ _ _ h => h) (.inl ⟨by rfl, fun W hW => gx_assign rfl rfl⟩) hS0 ?_
      simp only [Act.put, List.setIfInBounds_toArray, List.set_cons_zero, List.set_cons_succ]
      refine alw_take (i := 10) (v := .bool (getM no fb).isSome) rfl (by kernel_rfl) (by kernel_rfl) (fun _ _ _ h => h) (.inl ⟨by rfl, fun W hW => gx_assign rfl rfl⟩) hS0 ?_
      simp only [Act.put, List.setIfInBounds_toArray, List.set_cons_zero, List.set_cons_succ]
      refine alw_done rfl ?_
      refine NoPanic.normal ?_
      clear hS0
      try simp only [Act.put, List.setIfInBounds_toArray, List.set_cons_zero, List.set_cons_succ]
      generalize getM no fa = o1 at *
      generalize getM no fb = o2 at *
      rcases o1 with _ | x1
      · rcases o2 with _ | x2
        · go_upto_region 9 with fail
          refine wp_region_lit ?_
          refine wpList_run (v := strV []) (wanted_none rfl) (exec_move rfl rfl) ?_
          simp only [Act.put, List.setIfInBounds_toArray, List.set_cons_zero, List.set_cons_succ]
          refine wpList_run (v := strV []) (wanted_none rfl) (exec_move rfl rfl) ?_
          simp only [Act.put, List.setIfInBounds_toArray, List.set_cons_zero, List.set_cons_succ]
          refine wpList_run (v := .bool false) (wanted_none rfl) (exec_sneF rfl rfl rfl (rfl)) ?_
          simp only [Act.put, List.setIfInBounds_toArray, List.set_cons_zero, List.set_cons_succ]
          refine wpList_run (v := .bool false) (wanted_none rfl) (exec_move rfl rfl) ?_
          simp only [Act.put, List.setIfInBounds_toArray, List.set_cons_zero, List.set_cons_succ]
          refine wpList_run (v := .bool false) rfl (exec_move rfl rfl) ?_
          simp only [Act.put, List.setIfInBounds_toArray, List.set_cons_zero, List.set_cons_succ]
          refine wpList_run (v := .bool false) rfl (exec_move rfl rfl) ?_
          simp only [Act.put, List.setIfInBounds_toArray, List.set_cons_zero, List.set_cons_succ]
          refine wpList_run (v := .bool false) rfl (bx_neb rfl rfl rfl (by rfl) rfl) ?_
          simp only [Act.put, List.setIfInBounds_toArray, List.set_cons_zero, List.set_cons_succ]
          refine wpList_run (v := .bool false) (wanted_none rfl) (ix_pickF rfl rfl rfl) ?_
          simp only [Act.put, List.setIfInBounds_toArray, List.set_cons_zero, List.set_cons_succ]
          have HZ := Lib.hid (show alikeF fa fb (nosL.drop (j + 1)) = alikeF fa fb nosL from by rw [← HAL.out, HN.out, decide_eq_true (rfl)]; rfl)
          go_upto_region 6 with fail
          refine wp_region_lit ?_
          refine wpList_run (v := .int .i64 (j : Int)) (wanted_none rfl) (exec_move rfl rfl) ?_
          simp only [Act.put, List.setIfInBounds_toArray, List.set_cons_zero, List.set_cons_succ]
          refine wpList_run (v := .int .i64 ((j + 1 : Nat) : Int)) (wanted_none rfl) (ix_add rfl rfl rfl (by omega) (by omega)) ?_
          simp only [Act.put, List.setIfInBounds_toArray, List.set_cons_zero, List.set_cons_succ]
          refine wpList_run (v := .int .i64 ((j + 1 : Nat) : Int)) (wanted_none rfl) (gx_assign rfl rfl) ?_
          simp only [Act.put, List.setIfInBounds_toArray, List.set_cons_zero, List.set_cons_succ]
          go_wp2_with fail
          go_roundg (gk - 1)
          case measure => have := HJ.out; have := HLT.out; omega
          case rel => exact ⟨j + 1, by have := HJ.out; have := HLT.out; omega, by go_num, HT3.out, HBr3.out, HZ.out⟩
        · by_cases hx : [] = x2
          · go_upto_region 9 with fail
            refine wp_region_lit ?_
            refine wpList_run (v := strV []) (wanted_none rfl) (exec_move rfl rfl) ?_
            simp only [Act.put, List.setIfInBounds_toArray, List.set_cons_zero, List.set_cons_succ]
            refine wpList_run (v := strV x2) (wanted_none rfl) (exec_move rfl rfl) ?_
            simp only [Act.put, List.setIfInBounds_toArray, List.set_cons_zero, List.set_cons_succ]
            refine wpList_run (v := .bool false) (wanted_none rfl) (exec_sneF rfl rfl rfl (hx)) ?_
            simp only [Act.put, List.setIfInBounds_toArray, List.set_cons_zero, List.set_cons_succ]
            refine wpList_run (v := .bool false) (wanted_none rfl) (exec_move rfl rfl) ?_
            simp only [Act.put, List.setIfInBounds_toArray, List.set_cons_zero, List.set_cons_succ]
            refine wpList_run (v := .bool false) rfl (exec_move rfl rfl) ?_
            simp only [Act.put, List.setIfInBounds_toArray, List.set_cons_zero, List.set_cons_succ]
            refine wpList_run (v := .bool true) rfl (exec_move rfl rfl) ?_
            simp only [Act.put, List.setIfInBounds_toArray, List.set_cons_zero, List.set_cons_succ]
            refine wpList_run (v := .bool true) rfl (bx_neb rfl rfl rfl (by rfl) rfl) ?_
            simp only [Act.put, List.setIfInBounds_toArray, List.set_cons_zero, List.set_cons_succ]
            refine wpList_run (v := .bool true) (wanted_none rfl) (ix_pickF rfl rfl rfl) ?_
            simp only [Act.put, List.setIfInBounds_toArray, List.set_cons_zero, List.set_cons_succ]
            go_upto_region 10 with fail
            refine wp_region_lit ?_
            refine wpList_run (v := .bool false) (wanted_none rfl) (gx_assign rfl rfl) ?_
            simp only [Act.put, List.setIfInBounds_toArray, List.set_cons_zero, List.set_cons_succ]
            have HZ := Lib.hid (show alikeM t1 fa t2 fb = false from by rw [HAM.out, ← HAL.out, HN.out, decide_eq_false (fun h => nomatch h)]; rfl)
            go_wp2_with fail
            go_ret
            rw [HZ.out]
            exact ⟨rfl, HT0.out.trans HT3.out fun _ _ e => e⟩
          · go_upto_region 9 with fail
            refine wp_region_lit ?_
            refine wpList_run (v := strV []) (wanted_none rfl) (exec_move rfl rfl) ?_
            simp only [Act.put, List.setIfInBounds_toArray, List.set_cons_zero, List.set_cons_succ]
            refine wpList_run (v := strV x2) (wanted_none rfl) (exec_move rfl rfl) ?_
            simp only [Act.put, List.setIfInBounds_toArray, List.set_cons_zero, List.set_cons_succ]
            refine wpList_run (v := .bool true) (wanted_none rfl) (exec_sneT rfl rfl rfl (hx)) ?_
            simp only [Act.put, List.setIfInBounds_toArray, List.set_cons_zero, List.set_cons_succ]
            refine wpList_run (v := .bool true) (wanted_none rfl) (exec_move rfl rfl) ?_
            simp only [Act.put, List.setIfInBounds_toArray, List.set_cons_zero, List.set_cons_succ]
            refine wpList_skip (by go_simp) ?_
            simp only [Act.put, List.setIfInBounds_toArray, List.set_cons_zero, List.set_cons_succ]
            refine wpList_skip (by go_simp) ?_
            simp only [Act.put, List.setIfInBounds_toArray, List.set_cons_zero, List.set_cons_succ]
            refine wpList_skip (by go_simp) ?_
            simp only [Act.put, List.setIfInBounds_toArray, List.set_cons_zero, List.set_cons_succ]
            refine wpList_run (v := .bool true) (wanted_none rfl) (ix_pickT rfl rfl rfl) ?_
            simp only [Act.put, List.setIfInBounds_toArray, List.set_cons_zero, List.set_cons_succ]
            go_upto_region 10 with fail
            refine wp_region_lit ?_
            refine wpList_run (v := .bool false) (wanted_none rfl) (gx_assign rfl rfl) ?_
            simp only [Act.put, List.setIfInBounds_toArray, List.set_cons_zero, List.set_cons_succ]
            have HZ := Lib.hid (show alikeM t1 fa t2 fb = false from by rw [HAM.out, ← HAL.out, HN.out, decide_eq_false (fun h => nomatch h)]; rfl)
            go_wp2_with fail
            go_ret
            rw [HZ.out]
            exact ⟨rfl, HT0.out.trans HT3.out fun _ _ e => e⟩
      · rcases o2 with _ | x2
        · by_cases hx : x1 = []
          · go_upto_region 9 with fail
            refine wp_region_lit ?_
            refine wpList_run (v := strV x1) (wanted_none rfl) (exec_move rfl rfl) ?_
            simp only [Act.put, List.setIfInBounds_toArray, List.set_cons_zero, List.set_cons_succ]
            refine wpList_run (v := strV []) (wanted_none rfl) (exec_move rfl rfl) ?_
            simp only [Act.put, List.setIfInBounds_toArray, List.set_cons_zero, List.set_cons_succ]
            refine wpList_run (v := .bool false) (wanted_none rfl) (exec_sneF rfl rfl rfl (hx)) ?_
            simp only [Act.put, List.setIfInBounds_toArray, List.set_cons_zero, List.set_cons_succ]
            refine wpList_run (v := .bool false) (wanted_none rfl) (exec_move rfl rfl) ?_
            simp only [Act.put, List.setIfInBounds_toArray, List.set_cons_zero, List.set_cons_succ]
            refine wpList_run (v := .bool true) rfl (exec_move rfl rfl) ?_
            simp only [Act.put, List.setIfInBounds_toArray, List.set_cons_zero, List.set_cons_succ]
            refine wpList_run (v := .bool false) rfl (exec_move rfl rfl) ?_
            simp only [Act.put, List.setIfInBounds_toArray, List.set_cons_zero, List.set_cons_succ]
            refine wpList_run (v := .bool true) rfl (bx_neb rfl rfl rfl (by rfl) rfl) ?_
            simp only [Act.put, List.setIfInBounds_toArray, List.set_cons_zero, List.set_cons_succ]
            refine wpList_run (v := .bool true) (wanted_none rfl) (ix_pickF rfl rfl rfl) ?_
            simp only [Act.put, List.setIfInBounds_toArray, List.set_cons_zero, List.set_cons_succ]
            go_upto_region 10 with fail
            refine wp_region_lit ?_
            refine wpList_run (v := .bool false) (wanted_none rfl) (gx_assign rfl rfl) ?_
            simp only [Act.put, List.setIfInBounds_toArray, List.set_cons_zero, List.set_cons_succ]
            have HZ := Lib.hid (show alikeM t1 fa t2 fb = false from by rw [HAM.out, ← HAL.out, HN.out, decide_eq_false (fun h => nomatch h)]; rfl)
            go_wp2_with fail
            go_ret
            rw [HZ.out]
            exact ⟨rfl, HT0.out.trans HT3.out fun _ _ e => e⟩
          · go_upto_region 9 with fail
            refine wp_region_lit ?_
            refine wpList_run (v := strV x1) (wanted_none rfl) (exec_move rfl rfl) ?_
            simp only [Act.put, List.setIfInBounds_toArray, List.set_cons_zero, List.set_cons_succ]
            refine wpList_run (v := strV []) (wanted_none rfl) (exec_move rfl rfl) ?_
            simp only [Act.put, List.setIfInBounds_toArray, List.set_cons_zero, List.set_cons_succ]
            refine wpList_run (v := .bool true) (wanted_none rfl) (exec_sneT rfl rfl rfl (hx)) ?_
            simp only [Act.put, List.setIfInBounds_toArray, List.set_cons_zero, List.set_cons_succ]
            refine wpList_run (v := .bool true) (wanted_none rfl) (exec_move rfl rfl) ?_
            simp only [Act.put, List.setIfInBounds_toArray, List.set_cons_zero, List.set_cons_succ]
            refine wpList_skip (by go_simp) ?_
            simp only [Act.put, List.setIfInBounds_toArray, List.set_cons_zero, List.set_cons_succ]
            refine wpList_skip (by go_simp) ?_
            simp only [Act.put, List.setIfInBounds_toArray, List.set_cons_zero, List.set_cons_succ]
            refine wpList_skip (by go_simp) ?_
            simp only [Act.put, List.setIfInBounds_toArray, List.set_cons_zero, List.set_cons_succ]
            refine wpList_run (v := .bool true) (wanted_none rfl) (ix_pickT rfl rfl rfl) ?_
            simp only [Act.put, List.setIfInBounds_toArray, List.set_cons_zero, List.set_cons_succ]
            go_upto_region 10 with fail
            refine wp_region_lit ?_
            refine wpList_run (v := .bool false) (wanted_none rfl) (gx_assign rfl rfl) ?_
            simp only [Act.put, List.setIfInBounds_toArray, List.set_cons_zero, List.set_cons_succ]
            have HZ := Lib.hid (show alikeM t1 fa t2 fb = false from by rw [HAM.out, ← HAL.out, HN.out, decide_eq_false (fun h => nomatch h)]; rfl)
            go_wp2_with fail
            go_ret
            rw [HZ.out]
            exact ⟨rfl, HT0.out.trans HT3.out fun _ _ e => e⟩
        · by_cases hx : x1 = x2
          · have HX := Lib.hid hx
            clear hx
            go_upto_region 9 with fail
            refine wp_region_lit ?_
            refine wpList_run (v := strV x1) (wanted_none rfl) (exec_move rfl rfl) ?_
            simp only [Act.put, List.setIfInBounds_toArray, List.set_cons_zero, List.set_cons_succ]
            refine wpList_run (v := strV x2) (wanted_none rfl) (exec_move rfl rfl) ?_
            simp only [Act.put, List.setIfInBounds_toArray, List.set_cons_zero, List.set_cons_succ]
            refine wpList_run (v := .bool false) (wanted_none rfl) (exec_sneF rfl rfl rfl (HX.out)) ?_
            simp only [Act.put, List.setIfInBounds_toArray, List.set_cons_zero, List.set_cons_succ]
            refine wpList_run (v := .bool false) (wanted_none rfl) (exec_move rfl rfl) ?_
            simp only [Act.put, List.setIfInBounds_toArray, List.set_cons_zero, List.set_cons_succ]
            refine wpList_run (v := .bool true) rfl (exec_move rfl rfl) ?_
            simp only [Act.put, List.setIfInBounds_toArray, List.set_cons_zero, List.set_cons_succ]
            refine wpList_run (v := .bool true) rfl (exec_move rfl rfl) ?_
            simp only [Act.put, List.setIfInBounds_toArray, List.set_cons_zero, List.set_cons_succ]
            refine wpList_run (v := .bool false) rfl (bx_neb rfl rfl rfl (by rfl) rfl) ?_
            simp only [Act.put, List.setIfInBounds_toArray, List.set_cons_zero, List.set_cons_succ]
            refine wpList_run (v := .bool false) (wanted_none rfl) (ix_pickF rfl rfl rfl) ?_
            simp only [Act.put, List.setIfInBounds_toArray, List.set_cons_zero, List.set_cons_succ]
            have HZ := Lib.hid (show alikeF fa fb (nosL.drop (j + 1)) = alikeF fa fb nosL from by rw [← HAL.out, HN.out, decide_eq_true (congrArg some HX.out)]; rfl)
            go_upto_region 6 with fail
            refine wp_region_lit ?_
            refine wpList_run (v := .int .i64 (j : Int)) (wanted_none rfl) (exec_move rfl rfl) ?_
            simp only [Act.put, List.setIfInBounds_toArray, List.set_cons_zero, List.set_cons_succ]
            refine wpList_run (v := .int .i64 ((j + 1 : Nat) : Int)) (wanted_none rfl) (ix_add rfl rfl rfl (by omega) (by omega)) ?_
            simp only [Act.put, List.setIfInBounds_toArray, List.set_cons_zero, List.set_cons_succ]
            refine wpList_run (v := .int .i64 ((j + 1 : Nat) : Int)) (wanted_none rfl) (gx_assign rfl rfl) ?_
            simp only [Act.put, List.setIfInBounds_toArray, List.set_cons_zero, List.set_cons_succ]
            go_wp2_with fail
            go_roundg (gk - 1)
            case measure => have := HJ.out; have := HLT.out; omega
            case rel => exact ⟨j + 1, by have := HJ.out; have := HLT.out; omega, by go_num, HT3.out, HBr3.out, HZ.out⟩
          · have HX := Lib.hid hx
            clear hx
            go_upto_region 9 with fail
            refine wp_region_lit ?_
            refine wpList_run (v := strV x1) (wanted_none rfl) (exec_move rfl rfl) ?_
            simp only [Act.put, List.setIfInBounds_toArray, List.set_cons_zero, List.set_cons_succ]
            refine wpList_run (v := strV x2) (wanted_none rfl) (exec_move rfl rfl) ?_
            simp only [Act.put, List.setIfInBounds_toArray, List.set_cons_zero, List.set_cons_succ]
            refine wpList_run (v := .bool true) (wanted_none rfl) (exec_sneT rfl rfl rfl (HX.out)) ?_
            simp only [Act.put, List.setIfInBounds_toArray, List.set_cons_zero, List.set_cons_succ]
            refine wpList_run (v := .bool true) (wanted_none rfl) (exec_move rfl rfl) ?_
            simp only [Act.put, List.setIfInBounds_toArray, List.set_cons_zero, List.set_cons_succ]
            refine wpList_skip (by go_simp) ?_
            simp only [Act.put, List.setIfInBounds_toArray, List.set_cons_zero, List.set_cons_succ]
            refine wpList_skip (by go_simp) ?_
            simp only [Act.put, List.setIfInBounds_toArray, List.set_cons_zero, List.set_cons_succ]
            refine wpList_skip (by go_simp) ?_
            simp only [Act.put, List.setIfInBounds_toArray, List.set_cons_zero, List.set_cons_succ]
            refine wpList_run (v := .bool true) (wanted_none rfl) (ix_pickT rfl rfl rfl) ?_
            simp only [Act.put, List.setIfInBounds_toArray, List.set_cons_zero, List.set_cons_succ]
            go_upto_region 10 with fail
            refine wp_region_lit ?_
            refine wpList_run (v := .bool false) (wanted_none rfl) (gx_assign rfl rfl) ?_
            simp only [Act.put, List.setIfInBounds_toArray, List.set_cons_zero, List.set_cons_succ]
            have HZ := Lib.hid (show alikeM t1 fa t2 fb = false from by rw [HAM.out, ← HAL.out, HN.out, decide_eq_false (fun h => HX.out (Option.some.inj h))]; rfl)
            go_wp2_with fail
            go_ret
            rw [HZ.out]
            exact ⟨rfl, HT0.out.trans HT3.out fun _ _ e => e⟩
    · have y1 : ¬ (j : Int) < 7 := by omega
      have HZ := Lib.hid (show alikeM t1 fa t2 fb = true from by rw [HAM.out, ← HAL.out, List.drop_eq_nil_of_le (by show 7 ≤ j; omega)]; rfl)
      clear hlt
      go_upto_region 5 with fail
      refine wp_region_lit ?_
      refine wpList_run (v := .int .i64 (j : Int)) (wanted_none rfl) (exec_move rfl rfl) ?_
      simp only [Act.put, List.setIfInBounds_toArray, List.set_cons_zero, List.set_cons_succ]
      refine wpList_run (v := .slice (some ⟨g, 0, none⟩) 7 7) (wanted_none rfl) (exec_move rfl rfl) ?_
      simp only [Act.put, List.setIfInBounds_toArray, List.set_cons_zero, List.set_cons_succ]
      refine wpList_run (v := .int .i64 (7 : Int)) (wanted_none rfl) (gx_len rfl rfl Tryd.underlying39) ?_
      simp only [Act.put, List.setIfInBounds_toArray, List.set_cons_zero, List.set_cons_succ]
      refine wpList_run (v := .bool false) (wanted_none rfl) (ix_lss rfl rfl rfl (decide_eq_false y1)) ?_
      simp only [Act.put, List.setIfInBounds_toArray, List.set_cons_zero, List.set_cons_succ]
      go_upto_region 11 with fail
      refine wp_region_lit ?_
      refine wpList_run (v := .bool true) (wanted_none rfl) (gx_assign rfl rfl) ?_
      simp only [Act.put, List.setIfInBounds_toArray, List.set_cons_zero, List.set_cons_succ]
      go_wp2_with fail
      go_ret
      rw [HZ.out]
      exact ⟨rfl, HT0.out.trans HTR.out fun _ _ e => e⟩
  · have HTE := Lib.hid ht
    clear ht
    refine wpList_run (v := .pointer (some ⟨ga, 0, none⟩)) (wanted_none rfl) (exec_field (off := 0) (d := 0) rfl rfl (by kernel_rfl)) ?_
    simp only [Act.put, List.setIfInBounds_toArray, List.set_cons_zero, List.set_cons_succ]
    refine wpList_run (v := .int .i64 t1) (wanted_none rfl) (exec_load1 rfl rfl (by kernel_rfl) (HBga.out.cell 0)) ?_
    simp only [Act.put, List.setIfInBounds_toArray, List.set_cons_zero, List.set_cons_succ]
    refine wpList_run (v := .int .i64 (t1.tdiv 10)) (wanted_none rfl) (ix_quo10 rfl rfl rfl HI1.out) ?_
    simp only [Act.put, List.setIfInBounds_toArray, List.set_cons_zero, List.set_cons_succ]
    refine wpList_run (v := .pointer (some ⟨gb, 0, none⟩)) (wanted_none rfl) (exec_field (off := 0) (d := 0) rfl rfl (by kernel_rfl)) ?_
    simp only [Act.put, List.setIfInBounds_toArray, List.set_cons_zero, List.set_cons_succ]
    refine wpList_run (v := .int .i64 t2) (wanted_none rfl) (exec_load1 rfl rfl (by kernel_rfl) (HBgb.out.cell 0)) ?_
    simp only [Act.put, List.setIfInBounds_toArray, List.set_cons_zero, List.set_cons_succ]
    refine wpList_run (v := .int .i64 (t2.tdiv 10)) (wanted_none rfl) (ix_quo10 rfl rfl rfl HI2.out) ?_
    simp only [Act.put, List.setIfInBounds_toArray, List.set_cons_zero, List.set_cons_succ]
    refine wpList_run (v := .bool true) (wanted_none rfl) (ix_neq rfl rfl rfl (decide_eq_true HTE.out)) ?_
    simp only [Act.put, List.setIfInBounds_toArray, List.set_cons_zero, List.set_cons_succ]
    go_upto_region 2 with fail
    refine wp_region_lit ?_
    refine wpList_run (v := .bool false) (wanted_none rfl) (gx_assign rfl rfl) ?_
    simp only [Act.put, List.setIfInBounds_toArray, List.set_cons_zero, List.set_cons_succ]
    have HAM := Lib.hid (show alikeM t1 fa t2 fb = false from by unfold alikeM; rw [decide_eq_false HTE.out]; rfl)
    go_wp2_with fail
    go_ret
    rw [HAM.out]
    exact ⟨rfl, HT0.out⟩
end Go.Proofs.YtjjbmnoamcfdgaaDoor
