/-
  standin's small calls: the walks. No conditions.
-/
import Derived.Test.YtenflpbmjahbgaaSiC
import Derived.Shelf.SlMaps.Clone
import Derived.WalkSpells
import Derived.Lib.SliceRun
namespace Go.Proofs.Ytenflpbmjahbgaa
open Go.RowKit Go.Maps
open Si (Card Lims)
set_option linter.unusedVariables false
set_option linter.unusedSimpArgs false
set_option maxRecDepth 20000
theorem elmS : Elm Try.prog 22 30 2 16 (.agg #[.int .i64 0, .int .i64 0]) := ⟨Try.underlying22, by kernel_rfl, rfl, by decide, by decide⟩
theorem size_st : (Try.prog.info? 30).map (·.size) = some 2 := by kernel_rfl
theorem zero_st (w : World) : (zeroValue 30).run Try.prog w = .ok (.agg #[.int .i64 0, .int .i64 0]) w := by kernel_rfl
theorem build0S (W : World) : (Instr.buildSlice 22 0 #[]).run Try.prog W = .ok (.slice (some ⟨W.heap.size, 0, none⟩) 0 0) (W.alloc (.cells #[] 30)) := by kernel_rfl
theorem zero_intS (w : World) : (zeroValue 3).run Try.prog w = .ok (.int .i64 0) w := by kernel_rfl
theorem limC_fit (l : Lims) : Fit 2 (l.map limC) := fun r hr => by
  obtain ⟨s, _, rfl⟩ := List.mem_map.1 hr
  refine ⟨rfl, fun u hu => ?_⟩
  simp only [limC, List.mem_cons, List.not_mem_nil, or_false] at hu
  rcases hu with rfl | rfl <;> rfl
theorem bx_neb {a : Act} {o : Oper} {W : World} {x y : Operand} {p q : Bool} (ho : o.op = .binOp .neq 4 x y 4) (hx : a.eval x = .bool p) (hy : a.eval y = .bool q) : (execOp a.eval o).run Try.prog W = .ok (.value (.bool (!(p == q)))) W := by
  unfold execOp
  simp only [ho, hx, hy]
  cases p <;> cases q <;> go_simp
theorem Desk.open_ {w : World} {a b n : Nat} {l : Lims} {h : Card → Int} (d : Desk w a b l n h) : ∃ g c, Blk w a 49 #[.slice (some ⟨g, 0, none⟩) l.length c, .map (some b)] ∧ Orw w 0 30 2 (.slice (some ⟨g, 0, none⟩) l.length c) (l.map limC) := by
  obtain ⟨A, c, h1, h2⟩ := d.blk
  have h3 := d.len.1
  obtain ⟨g, c', e, _⟩ := h2.some_ (by rw [List.length_map]; omega)
  injection e with e1 e2 e3
  subst e1
  exact ⟨g, c, h1, h2⟩
def Si.isA (x : Int) : Bool := decide (Si.okA x)
set_option maxRecDepth 20000 in
set_option maxHeartbeats 4000000 in
theorem isAmount_walk (x : Int) (w : World) : Calls Try.prog 18 #[.int .i64 x] w fun e w' => e = .returned (.bool (Si.isA x)) ∧ w' = w := by
  go_enter Try.func18, Try.ntmps18
  go_upto_region 0 with fail
  refine wp_region_lit ?_
  refine wpList_run (v := .bool false) (wanted_none rfl) (gx_assign rfl rfl) ?_
  simp only [Act.put, List.setIfInBounds_toArray, List.set_cons_zero, List.set_cons_succ]
  by_cases h0 : x < 0
  · have HF := Lib.hid (show Si.isA x = false from decide_eq_false fun e => by have := e.1; omega)
    go_upto_region 1 with fail
    refine wp_region_lit ?_
    refine wpList_run (v := .int .i64 x) (wanted_none rfl) (exec_move rfl rfl) ?_
    simp only [Act.put, List.setIfInBounds_toArray, List.set_cons_zero, List.set_cons_succ]
    refine wpList_run (v := .bool false) (wanted_none rfl) (ix_geq rfl rfl rfl (decide_eq_false (by omega))) ?_
    simp only [Act.put, List.setIfInBounds_toArray, List.set_cons_zero, List.set_cons_succ]
    refine wpList_run (v := .bool false) (wanted_none rfl) (exec_move rfl rfl) ?_
    simp only [Act.put, List.setIfInBounds_toArray, List.set_cons_zero, List.set_cons_succ]
    refine wpList_skip (by go_simp) ?_
    simp only [Act.put, List.setIfInBounds_toArray, List.set_cons_zero, List.set_cons_succ]
    refine wpList_skip (by go_simp) ?_
    simp only [Act.put, List.setIfInBounds_toArray, List.set_cons_zero, List.set_cons_succ]
    refine wpList_run (v := .bool false) (wanted_none rfl) (ix_pickF rfl rfl rfl) ?_
    simp only [Act.put, List.setIfInBounds_toArray, List.set_cons_zero, List.set_cons_succ]
    refine wpList_run (v := .bool false) (wanted_none rfl) (gx_assign rfl rfl) ?_
    simp only [Act.put, List.setIfInBounds_toArray, List.set_cons_zero, List.set_cons_succ]
    go_wp2_with fail
    go_ret
    rw [HF.out]
    exact ⟨rfl, rfl⟩
  · by_cases h1 : x ≤ 999999999999
    · have HF := Lib.hid (show Si.isA x = true from decide_eq_true ⟨by omega, h1⟩)
      go_upto_region 1 with fail
      refine wp_region_lit ?_
      refine wpList_run (v := .int .i64 x) (wanted_none rfl) (exec_move rfl rfl) ?_
      simp only [Act.put, List.setIfInBounds_toArray, List.set_cons_zero, List.set_cons_succ]
      refine wpList_run (v := .bool true) (wanted_none rfl) (ix_geq rfl rfl rfl (decide_eq_true (by omega))) ?_
      simp only [Act.put, List.setIfInBounds_toArray, List.set_cons_zero, List.set_cons_succ]
      refine wpList_run (v := .bool true) (wanted_none rfl) (exec_move rfl rfl) ?_
      simp only [Act.put, List.setIfInBounds_toArray, List.set_cons_zero, List.set_cons_succ]
      refine wpList_run (v := .int .i64 x) rfl (exec_move rfl rfl) ?_
      simp only [Act.put, List.setIfInBounds_toArray, List.set_cons_zero, List.set_cons_succ]
      refine wpList_run (v := .bool true) rfl (ix_leq rfl rfl rfl (decide_eq_true h1)) ?_
      simp only [Act.put, List.setIfInBounds_toArray, List.set_cons_zero, List.set_cons_succ]
      refine wpList_run (v := .bool true) (wanted_none rfl) (ix_pickT rfl rfl rfl) ?_
      simp only [Act.put, List.setIfInBounds_toArray, List.set_cons_zero, List.set_cons_succ]
      refine wpList_run (v := .bool true) (wanted_none rfl) (gx_assign rfl rfl) ?_
      simp only [Act.put, List.setIfInBounds_toArray, List.set_cons_zero, List.set_cons_succ]
      go_wp2_with fail
      go_ret
      rw [HF.out]
      exact ⟨rfl, rfl⟩
    · have HF := Lib.hid (show Si.isA x = false from decide_eq_false fun e => h1 e.2)
      go_upto_region 1 with fail
      refine wp_region_lit ?_
      refine wpList_run (v := .int .i64 x) (wanted_none rfl) (exec_move rfl rfl) ?_
      simp only [Act.put, List.setIfInBounds_toArray, List.set_cons_zero, List.set_cons_succ]
      refine wpList_run (v := .bool true) (wanted_none rfl) (ix_geq rfl rfl rfl (decide_eq_true (by omega))) ?_
      simp only [Act.put, List.setIfInBounds_toArray, List.set_cons_zero, List.set_cons_succ]
      refine wpList_run (v := .bool true) (wanted_none rfl) (exec_move rfl rfl) ?_
      simp only [Act.put, List.setIfInBounds_toArray, List.set_cons_zero, List.set_cons_succ]
      refine wpList_run (v := .int .i64 x) rfl (exec_move rfl rfl) ?_
      simp only [Act.put, List.setIfInBounds_toArray, List.set_cons_zero, List.set_cons_succ]
      refine wpList_run (v := .bool false) rfl (ix_leq rfl rfl rfl (decide_eq_false h1)) ?_
      simp only [Act.put, List.setIfInBounds_toArray, List.set_cons_zero, List.set_cons_succ]
      refine wpList_run (v := .bool false) (wanted_none rfl) (ix_pickT rfl rfl rfl) ?_
      simp only [Act.put, List.setIfInBounds_toArray, List.set_cons_zero, List.set_cons_succ]
      refine wpList_run (v := .bool false) (wanted_none rfl) (gx_assign rfl rfl) ?_
      simp only [Act.put, List.setIfInBounds_toArray, List.set_cons_zero, List.set_cons_succ]
      go_wp2_with fail
      go_ret
      rw [HF.out]
      exact ⟨rfl, rfl⟩
set_option maxRecDepth 20000 in
set_option maxHeartbeats 4000000 in
theorem madd_walk {x y : Int} (w : World) (hx : Si.okA x) (hy : Si.okA y) : Calls Try.prog 21 #[.int .i64 x, .int .i64 y] w fun e w' => e = .returned (.tuple #[.int .i64 (x + y), .int .i64 0]) ∧ w' = w := by
  have x0 : 0 ≤ x := hx.1
  have x1 : x ≤ 999999999999 := hx.2
  have y0 : 0 ≤ y := hy.1
  have y1 : y ≤ 999999999999 := hy.2
  clear hx hy
  go_enter Try.func21, Try.ntmps21
  go_upto_region 0 with fail
  refine wp_region_lit ?_
  refine wpList_run (v := .int .i64 0) (wanted_none rfl) (gx_assign rfl rfl) ?_
  simp only [Act.put, List.setIfInBounds_toArray, List.set_cons_zero, List.set_cons_succ]
  refine wpList_run (v := .int .i64 0) (wanted_none rfl) (gx_assign rfl rfl) ?_
  simp only [Act.put, List.setIfInBounds_toArray, List.set_cons_zero, List.set_cons_succ]
  go_upto_region 1 with fail
  refine wp_region_lit ?_
  refine wpList_run (v := .int .i64 x) (wanted_none rfl) (exec_move rfl rfl) ?_
  simp only [Act.put, List.setIfInBounds_toArray, List.set_cons_zero, List.set_cons_succ]
  refine wpList_run (v := .int .i64 y) (wanted_none rfl) (exec_move rfl rfl) ?_
  simp only [Act.put, List.setIfInBounds_toArray, List.set_cons_zero, List.set_cons_succ]
  refine wpList_run (v := .int .i64 (x + y)) (wanted_none rfl) (ix_add rfl rfl rfl rfl ⟨by omega, by omega⟩) ?_
  simp only [Act.put, List.setIfInBounds_toArray, List.set_cons_zero, List.set_cons_succ]
  refine wpList_run (v := .int .i64 (x + y)) (wanted_none rfl) (gx_assign rfl rfl) ?_
  simp only [Act.put, List.setIfInBounds_toArray, List.set_cons_zero, List.set_cons_succ]
  go_upto_region 2 with fail
  refine wp_region_lit ?_
  refine wpList_run (v := .int .i64 (x + y)) (wanted_none rfl) (exec_move rfl rfl) ?_
  simp only [Act.put, List.setIfInBounds_toArray, List.set_cons_zero, List.set_cons_succ]
  refine wpList_run (v := .int .i64 x) (wanted_none rfl) (exec_move rfl rfl) ?_
  simp only [Act.put, List.setIfInBounds_toArray, List.set_cons_zero, List.set_cons_succ]
  refine wpList_run (v := .bool false) (wanted_none rfl) (ix_lss rfl rfl rfl (decide_eq_false (by omega))) ?_
  simp only [Act.put, List.setIfInBounds_toArray, List.set_cons_zero, List.set_cons_succ]
  refine wpList_run (v := .int .i64 y) (wanted_none rfl) (exec_move rfl rfl) ?_
  simp only [Act.put, List.setIfInBounds_toArray, List.set_cons_zero, List.set_cons_succ]
  refine wpList_run (v := .bool false) (wanted_none rfl) (ix_lss rfl rfl rfl (decide_eq_false (by omega))) ?_
  simp only [Act.put, List.setIfInBounds_toArray, List.set_cons_zero, List.set_cons_succ]
  refine wpList_run (v := .bool false) (wanted_none rfl) (bx_neb (p := false) (q := false) rfl rfl rfl) ?_
  simp only [Act.put, List.setIfInBounds_toArray, List.set_cons_zero, List.set_cons_succ]
  go_upto_region 4 with fail
  refine wp_region_lit ?_
  refine wpList_run (v := .int .i64 (x + y)) (wanted_none rfl) (exec_move rfl rfl) ?_
  simp only [Act.put, List.setIfInBounds_toArray, List.set_cons_zero, List.set_cons_succ]
  refine wpList_run (v := .int .i64 (x + y)) (wanted_none rfl) (gx_assign rfl rfl) ?_
  simp only [Act.put, List.setIfInBounds_toArray, List.set_cons_zero, List.set_cons_succ]
  refine wpList_run (v := .int .i64 0) (wanted_none rfl) (gx_assign rfl rfl) ?_
  simp only [Act.put, List.setIfInBounds_toArray, List.set_cons_zero, List.set_cons_succ]
  go_wp2_with fail
  go_ret2
  exact ⟨rfl, rfl⟩
set_option maxRecDepth 20000 in
set_option maxHeartbeats 4000000 in
theorem lclone_walk {w : World} {g off n c : Nat} {l : Lims} (h : Rws w 2 (some ⟨g, off, none⟩) n (l.map limC)) (hn : n ≤ 6) :
    Calls Try.prog 19 #[.slice (some ⟨g, off, none⟩) n c] w fun e w' => ∃ A c', e = .returned (.slice A n c') ∧ Orw w' w.heap.size 30 2 (.slice A n c') (l.map limC) ∧ Turn nowhere w w' := by
  obtain ⟨A', c', w', hrun, how, ht⟩ := copy_rws elmS (ty := 22) (c := c) h (limC_fit l) (fun h => by cases h) (by omega)
  have HRUN := Lib.hid hrun
  have HF := Lib.hid (show ∃ A c'', Ending.returned (.slice A' n c') = .returned (.slice A n c'') ∧ Orw w' w.heap.size 30 2 (.slice A n c'') (l.map limC) ∧ Turn nowhere w w' from ⟨A', c', rfl, how, ht⟩)
  clear hrun how ht h hn
  go_enter Try.func19, Try.ntmps19
  go_upto_region 0 with fail
  refine wp_region_lit ?_
  refine wpList_run (v := .slice none 0 0) (wanted_none rfl) (gx_assign rfl rfl) ?_
  simp only [Act.put, List.setIfInBounds_toArray, List.set_cons_zero, List.set_cons_succ]
  go_upto_region 1 with fail
  refine wp_region_lit ?_
  refine wpList_run (v := .slice (some ⟨g, off, none⟩) n c) (wanted_none rfl) (exec_move rfl rfl) ?_
  simp only [Act.put, List.setIfInBounds_toArray, List.set_cons_zero, List.set_cons_succ]
  refine wpList_run (v := .bool false) (wanted_none rfl) (exec_eqnil rfl rfl rfl Try.underlying22 rfl) ?_
  simp only [Act.put, List.setIfInBounds_toArray, List.set_cons_zero, List.set_cons_succ]
  go_upto_region 3 with fail
  refine wp_region_lit ?_
  refine wpList_run (v := .slice (some ⟨w.heap.size, 0, none⟩) 0 0) (w' := w.alloc (.cells #[] 30)) (wanted_none rfl) (bx_slice0 rfl (build0S _)) ?_
  simp only [Act.put, List.setIfInBounds_toArray, List.set_cons_zero, List.set_cons_succ]
  refine wpList_run (v := .slice (some ⟨g, off, none⟩) n c) (wanted_none rfl) (exec_move rfl rfl) ?_
  simp only [Act.put, List.setIfInBounds_toArray, List.set_cons_zero, List.set_cons_succ]
  refine wpList_run (v := (.slice A' n c')) (w' := w') (wanted_none rfl) (exec_append rfl rfl rfl HRUN.out) ?_
  simp only [Act.put, List.setIfInBounds_toArray, List.set_cons_zero, List.set_cons_succ]
  refine wpList_run (v := (.slice A' n c')) (wanted_none rfl) (gx_assign rfl rfl) ?_
  simp only [Act.put, List.setIfInBounds_toArray, List.set_cons_zero, List.set_cons_succ]
  go_wp2_with fail
  go_ret
  exact HF.out
set_option maxHeartbeats 1000000 in
theorem mclone_walk (b : Nat) (es : Array MapEntry) (clock : Nat) (w : World) (hb : w.heap[b]? = some (.map es clock)) :
    Calls Try.prog 20 #[.map (some b)] w fun e w' => e = .returned (.map (some w.heap.size)) ∧ w' = w.alloc (.map es clock) := by
  have hq := fun w => run_eql_map_nil_sl (P := Try.prog) w 47 _ _ (some b) Try.underlying47
  go_enter Try.func20, Try.ntmps20
  go_wp2
  rw [run_callFunc_extern Try.func23 (by kernel_rfl) (by kernel_rfl) (by kernel_rfl) (e := Extern.MapsClone.clone) (by kernel_rfl), run_maps_clone_sl w 47 hb]
  simp only [Result.andThen]
  rw [Oper.upon_value]
  go_wp2
  rw [run_typeAssert_map_sl _ 47 20 _ _ _ Try.underlying47]
  simp only [Result.andThen]
  rw [Oper.upon_value]
  go_wp2
  go_ret
  exact ⟨rfl, rfl⟩
theorem build_card (c : Card) (W : World) : (Instr.build 55 #[(0, .int .i64 c.1), (1, strV c.2)]).run Try.prog W = .ok (cardV c) W := by kernel_rfl
theorem Desk.look {w : World} {a b n : Nat} {l : Lims} {h : Card → Int} (d : Desk w a b l n h) (c : Crd) : (Instr.lookup 47 (.map (some b)) (cardV c.1) false).run Try.prog w = .ok (.int .i64 (h c.1)) w := by
  obtain ⟨f, h1, h2⟩ := d.map
  have := h1.lookup (z0 := 0) Try.underlying47 (zero_intS w) (x := c) trivial
  rw [← h2 c]
  exact this
set_option maxRecDepth 20000 in
set_option maxHeartbeats 4000000 in
theorem Had_walk {w : World} {a b n : Nat} {l : Lims} {h : Card → Int} (d : Desk w a b l n h) (c : Crd) :
    Calls Try.prog 16 #[.pointer (some ⟨a, 0, none⟩), .int .i64 c.1.1, strV c.1.2] w fun e w' => e = .returned (.int .i64 (h c.1)) ∧ w' = w := by
  have HL := Lib.hid (d.look c)
  obtain ⟨g, q, hb, _⟩ := d.open_
  have HB := Lib.hid hb
  have HBU := Lib.hid (fun W => build_card c.1 W)
  clear d hb
  generalize cardV c.1 = cv at *
  generalize h c.1 = hc at *
  go_enter Try.func16, Try.ntmps16
  go_upto_region 0 with fail
  refine wp_region_lit ?_
  refine wpList_run (v := .int .i64 0) (wanted_none rfl) (gx_assign rfl rfl) ?_
  simp only [Act.put, List.setIfInBounds_toArray, List.set_cons_zero, List.set_cons_succ]
  go_upto_region 1 with fail
  refine wp_region_lit ?_
  refine wpList_run (v := .pointer (some ⟨a, 0, none⟩)) (wanted_none rfl) (exec_move rfl rfl) ?_
  simp only [Act.put, List.setIfInBounds_toArray, List.set_cons_zero, List.set_cons_succ]
  refine wpList_run (v := .pointer (some ⟨a, 0, none⟩)) (wanted_none rfl) (exec_nil rfl rfl) ?_
  simp only [Act.put, List.setIfInBounds_toArray, List.set_cons_zero, List.set_cons_succ]
  refine wpList_run (v := .pointer (some ⟨a, 1, none⟩)) (wanted_none rfl) (exec_field (off := 0) (d := 1) rfl rfl (by kernel_rfl)) ?_
  simp only [Act.put, List.setIfInBounds_toArray, List.set_cons_zero, List.set_cons_succ]
  refine wpList_run (v := .map (some b)) (wanted_none rfl) (exec_load1 rfl rfl (by kernel_rfl) (HB.out.cell 1)) ?_
  simp only [Act.put, List.setIfInBounds_toArray, List.set_cons_zero, List.set_cons_succ]
  refine wpList_run (v := .int .i64 c.1.1) (wanted_none rfl) (exec_move rfl rfl) ?_
  simp only [Act.put, List.setIfInBounds_toArray, List.set_cons_zero, List.set_cons_succ]
  refine wpList_run (v := strV c.1.2) (wanted_none rfl) (exec_move rfl rfl) ?_
  simp only [Act.put, List.setIfInBounds_toArray, List.set_cons_zero, List.set_cons_succ]
  refine wpList_run (v := cv) (wanted_none rfl) (gx_build2 rfl rfl rfl (HBU.out _)) ?_
  simp only [Act.put, List.setIfInBounds_toArray, List.set_cons_zero, List.set_cons_succ]
  refine wpList_run (v := .int .i64 hc) (wanted_none rfl) (exec_lookup rfl rfl rfl HL.out) ?_
  simp only [Act.put, List.setIfInBounds_toArray, List.set_cons_zero, List.set_cons_succ]
  refine wpList_run (v := .int .i64 hc) (wanted_none rfl) (gx_assign rfl rfl) ?_
  simp only [Act.put, List.setIfInBounds_toArray, List.set_cons_zero, List.set_cons_succ]
  go_wp2_with fail
  go_ret
  exact ⟨rfl, rfl⟩
set_option maxRecDepth 20000 in
set_option maxHeartbeats 4000000 in
theorem Reset_walk {w : World} {a b n : Nat} {l : Lims} {h : Card → Int} (d : Desk w a b l n h) :
    Calls Try.prog 12 #[.pointer (some ⟨a, 0, none⟩)] w fun e w' => e = .returned (.tuple #[]) ∧ Desk w' a b l 0 (fun _ => 0) ∧ Turn (only b) w w' := by
  obtain ⟨g, q, hb, hr⟩ := d.open_
  obtain ⟨f, h1, h2⟩ := d.map
  obtain ⟨w2, hrun, hm, ht⟩ := h1.clear (ty := 0) Try.underlying47
  have HD := Lib.hid (show Desk w2 a b l 0 (fun _ => 0) from ⟨by
    obtain ⟨A, c, g1, g2⟩ := d.blk
    have hS : ∀ k, k < w.heap.size → only b k → Siw w k := fun k _ e => by rw [show k = b from e]; exact d.siw
    exact ⟨A, c, g1.turn ht (fun e => siw_blk g1 (by decide) (hS _ g1.lt e)), g2.turn ht fun x hx e => siw_orw g2 (by decide) x hx (hS _ (g2.lt hx).2 e)⟩, ⟨_, hm, fun _ => rfl⟩, d.okl, d.len, fun _ => ⟨by decide, by decide⟩⟩)
  have HB := Lib.hid hb
  have HT := Lib.hid ht
  have HRUN := Lib.hid hrun
  clear d hb hr h1 h2 hrun hm ht
  go_enter Try.func12, Try.ntmps12
  go_upto_region 0 with fail
  refine wp_region_lit ?_
  refine wpList_run (v := .pointer (some ⟨a, 0, none⟩)) (wanted_none rfl) (exec_move rfl rfl) ?_
  simp only [Act.put, List.setIfInBounds_toArray, List.set_cons_zero, List.set_cons_succ]
  refine wpList_run (v := .pointer (some ⟨a, 0, none⟩)) (wanted_none rfl) (exec_nil rfl rfl) ?_
  simp only [Act.put, List.setIfInBounds_toArray, List.set_cons_zero, List.set_cons_succ]
  refine wpList_run (v := .pointer (some ⟨a, 1, none⟩)) (wanted_none rfl) (exec_field (off := 0) (d := 1) rfl rfl (by kernel_rfl)) ?_
  simp only [Act.put, List.setIfInBounds_toArray, List.set_cons_zero, List.set_cons_succ]
  refine wpList_run (v := .map (some b)) (wanted_none rfl) (exec_load1 rfl rfl (by kernel_rfl) (HB.out.cell 1)) ?_
  simp only [Act.put, List.setIfInBounds_toArray, List.set_cons_zero, List.set_cons_succ]
  refine wpList_run (v := .tuple #[]) (w' := w2) (wanted_none rfl) (exec_clear rfl rfl HRUN.out) ?_
  simp only [Act.put, List.setIfInBounds_toArray, List.set_cons_zero, List.set_cons_succ]
  go_wp2_with fail
  go_end0
  exact ⟨rfl, HD.out, HT.out⟩
theorem buildDk (A : Option Addr) (n c b : Nat) (W : World) : (Instr.build 49 #[(0, .slice A n c), (1, .map (some b))]).run Try.prog W = .ok (.agg #[.slice A n c, .map (some b)]) W := by kernel_rfl
theorem boxDk (A : Option Addr) (n c b : Nat) (w : World) : (Instr.box 49 (.agg #[.slice A n c, .map (some b)])).run Try.prog w = .ok (.pointer (some ⟨w.heap.size, 0, none⟩)) (w.alloc (.cells #[.slice A n c, .map (some b)] 49)) := by kernel_rfl
/-- a desk that a call made -/
def MadeD (w : World) (l : Lims) (n : Nat) (h : Card → Int) (p : Value) (w' : World) : Prop := ∃ a b, p = .pointer (some ⟨a, 0, none⟩) ∧ Desk w' a b l n h ∧ w.heap.size ≤ a ∧ w.heap.size ≤ b ∧ Turn nowhere w w'
set_option maxRecDepth 20000 in
set_option maxHeartbeats 4000000 in
theorem Clone_walk {w : World} {a b n : Nat} {l : Lims} {h : Card → Int} (d : Desk w a b l n h) :
    Calls Try.prog 9 #[.pointer (some ⟨a, 0, none⟩)] w fun e w' => ∃ p, e = .returned p ∧ MadeD w l n h p w' := by
  obtain ⟨g, q, hb, hr⟩ := d.open_
  obtain ⟨f, h1, h2⟩ := d.map
  obtain ⟨es, cl, hm, hen⟩ := h1.entries
  have HBA := Lib.hid hb
  have hmm : w.drew.heap[b]? = some (.map es cl) := hm
  have HMC := Lib.hid (mclone_walk b es cl w.drew hmm)
  have hlb := d.lt
  have hmp := hen (w.drew.alloc (.map es cl)) w.drew.heap.size (heap_alloc_new w.drew _)
  have ht1 := ((Turn.refl nowhere w).drew).alloc (.map es cl)
  obtain ⟨b2, hb2⟩ : ∃ x, x = w.drew.heap.size := ⟨_, rfl⟩
  have hb3 : w.heap.size ≤ b2 := by rw [hb2]; exact Nat.le_refl _
  rw [← hb2] at hmp HMC
  obtain ⟨w1, hw1⟩ : ∃ v, v = w.drew.alloc (.map es cl) := ⟨_, rfl⟩
  rw [← hw1] at hmp ht1 HMC
  obtain ⟨n2, hn2⟩ : ∃ x, x = l.length := ⟨_, rfl⟩
  rw [← hn2] at hb hr HBA
  have hbn := Blk.new w1 49 #[.slice (some ⟨g, 0, none⟩) n2 q, .map (some b2)]
  have hbx := boxDk (some ⟨g, 0, none⟩) n2 q b2 w1
  have ht2 := (Turn.refl nowhere w1).alloc (.cells #[.slice (some ⟨g, 0, none⟩) n2 q, .map (some b2)] 49)
  have hsz := ht1.size
  obtain ⟨a2, ha2⟩ : ∃ y, y = w1.heap.size := ⟨_, rfl⟩
  rw [← ha2] at hbn hbx
  generalize w1.alloc (.cells #[.slice (some ⟨g, 0, none⟩) n2 q, .map (some b2)] 49) = w2 at *
  have ht := ht1.trans ht2 fun _ _ e => e
  have HF := Lib.hid (show MadeD w l n h (.pointer (some ⟨a2, 0, none⟩)) w2 from ⟨a2, b2, rfl, ⟨⟨some ⟨g, 0, none⟩, q, by rw [← hn2]; exact hbn, by rw [← hn2]; exact hr.still ht⟩, ⟨f, hmp.turn ht2 (fun e => e), h2⟩, d.okl, d.len, d.okh⟩, by omega, hb3, ht⟩)
  have HBX := Lib.hid hbx
  have HB1 := Lib.hid (hb.turn ht1 fun e => e)
  have HB2 := Lib.hid (hb.turn ht fun e => e)
  have HB0 := Lib.hid (show Blk w.drew a 49 #[.slice (some ⟨g, 0, none⟩) n2 q, .map (some b)] from hb)
  clear d hb hr h1 h2 hm hen hmm hmp ht1 hb2 hb3 hw1 hn2 hbn hbx ht2 hsz ha2 ht hlb HBA
  go_enter Try.func9, Try.ntmps9
  go_upto_region 0 with fail
  refine wp_region_lit ?_
  refine wpList_run (v := .pointer none) (wanted_none rfl) (gx_assign rfl rfl) ?_
  simp only [Act.put, List.setIfInBounds_toArray, List.set_cons_zero, List.set_cons_succ]
  go_upto_region 1 with fail
  refine wp_region_alw (fun W => Blk W a 49 #[.slice (some ⟨g, 0, none⟩) n2 q, .map (some b)]) (by kernel_rfl) ?_
  have hS0 := HB0.out
  refine alw_take (i := 0) (v := .pointer (some ⟨a, 0, none⟩)) rfl (by kernel_rfl) (by kernel_rfl) (fun _ _ _ h => h) (.inl ⟨by rfl, fun W hW => exec_move rfl rfl⟩) hS0 ?_
  simp only [Act.put, List.setIfInBounds_toArray, List.set_cons_zero, List.set_cons_succ]
  refine alw_take (i := 1) (v := .pointer (some ⟨a, 0, none⟩)) rfl (by kernel_rfl) (by kernel_rfl) (fun _ _ _ h => h) (.inl ⟨by rfl, fun W hW => exec_nil rfl rfl⟩) hS0 ?_
  simp only [Act.put, List.setIfInBounds_toArray, List.set_cons_zero, List.set_cons_succ]
  refine alw_take (i := 2) (v := .pointer (some ⟨a, 0, none⟩)) rfl (by kernel_rfl) (by kernel_rfl) (fun _ _ _ h => h) (.inl ⟨by rfl, fun W hW => exec_field (off := 0) (d := 0) rfl rfl (by kernel_rfl)⟩) hS0 ?_
  simp only [Act.put, List.setIfInBounds_toArray, List.set_cons_zero, List.set_cons_succ]
  refine alw_take (i := 3) (v := .slice (some ⟨g, 0, none⟩) n2 q) rfl (by kernel_rfl) (by kernel_rfl) (fun _ _ _ h => h) (.inl ⟨by rfl, fun W hW => exec_load1 rfl rfl (by kernel_rfl) (hW.cell 0)⟩) hS0 ?_
  simp only [Act.put, List.setIfInBounds_toArray, List.set_cons_zero, List.set_cons_succ]
  refine alw_take (i := 4) (v := .pointer (some ⟨a, 0, none⟩)) rfl (by kernel_rfl) (by kernel_rfl) (fun _ _ _ h => h) (.inl ⟨by rfl, fun W hW => exec_move rfl rfl⟩) hS0 ?_
  simp only [Act.put, List.setIfInBounds_toArray, List.set_cons_zero, List.set_cons_succ]
  refine alw_take (i := 5) (v := .pointer (some ⟨a, 0, none⟩)) rfl (by kernel_rfl) (by kernel_rfl) (fun _ _ _ h => h) (.inl ⟨by rfl, fun W hW => exec_nil rfl rfl⟩) hS0 ?_
  simp only [Act.put, List.setIfInBounds_toArray, List.set_cons_zero, List.set_cons_succ]
  refine alw_take (i := 6) (v := .pointer (some ⟨a, 1, none⟩)) rfl (by kernel_rfl) (by kernel_rfl) (fun _ _ _ h => h) (.inl ⟨by rfl, fun W hW => exec_field (off := 0) (d := 1) rfl rfl (by kernel_rfl)⟩) hS0 ?_
  simp only [Act.put, List.setIfInBounds_toArray, List.set_cons_zero, List.set_cons_succ]
  refine alw_take (i := 7) (v := .map (some b)) rfl (by kernel_rfl) (by kernel_rfl) (fun _ _ _ h => h) (.inl ⟨by rfl, fun W hW => exec_load1 rfl rfl (by kernel_rfl) (hW.cell 1)⟩) hS0 ?_
  simp only [Act.put, List.setIfInBounds_toArray, List.set_cons_zero, List.set_cons_succ]
  clear hS0
  refine alw_step (i := 8) (by kernel_rfl) rfl rfl ?_
  intro K1 HK1
  go_wp2_with fail
  refine (HMC.out).mono ?_
  rintro e w9 ⟨rfl, rfl⟩

  refine HK1.out _ _ ⟨HB1.out, ?_⟩
  clear HK1
  try simp only [Act.put, List.setIfInBounds_toArray, List.set_cons_zero, List.set_cons_succ]
  have hS0 := HB1.out
  refine alw_take (i := 9) (v := .agg #[.slice (some ⟨g, 0, none⟩) n2 q, .map (some b2)]) rfl (by kernel_rfl) (by kernel_rfl) (fun _ _ _ h => h) (.inl ⟨by rfl, fun W hW => gx_build2 rfl rfl rfl (buildDk _ n2 q b2 _)⟩) hS0 ?_
  simp only [Act.put, List.setIfInBounds_toArray, List.set_cons_zero, List.set_cons_succ]
  clear hS0
  refine alw_step (i := 10) (by kernel_rfl) rfl rfl ?_
  intro K1 HK1
  refine wp_run (v := .pointer (some ⟨a2, 0, none⟩)) (w' := w2) (gx_box rfl rfl HBX.out) ?_
  refine HK1.out _ _ ⟨HB2.out, ?_⟩
  clear HK1
  try simp only [Act.put, List.setIfInBounds_toArray, List.set_cons_zero, List.set_cons_succ]
  have hS0 := HB2.out
  refine alw_take (i := 11) (v := .pointer (some ⟨a2, 0, none⟩)) rfl (by kernel_rfl) (by kernel_rfl) (fun _ _ _ h => h) (.inl ⟨by rfl, fun W hW => gx_assign rfl rfl⟩) hS0 ?_
  simp only [Act.put, List.setIfInBounds_toArray, List.set_cons_zero, List.set_cons_succ]
  refine alw_done rfl ?_
  refine NoPanic.normal ?_
  clear hS0
  try simp only [Act.put, List.setIfInBounds_toArray, List.set_cons_zero, List.set_cons_succ]
  go_wp2_with fail
  go_ret
  exact ⟨_, rfl, HF.out⟩
end Go.Proofs.Ytenflpbmjahbgaa
