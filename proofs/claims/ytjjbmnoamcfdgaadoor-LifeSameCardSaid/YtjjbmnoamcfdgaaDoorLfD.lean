/-
  What stands at the head of life's laws. No conditions.
-/
import Derived.Test.YtjjbmnoamcfdgaaDoorLfC
import Derived.Test.YtjjbmnoamcfdgaaDoorLfB
namespace Go.Proofs.YtjjbmnoamcfdgaaDoor
open Go.RowKit
set_option linter.unusedVariables false
set_option linter.unusedSimpArgs false
set_option maxRecDepth 20000
theorem gx_build1i {P : Program} {a : Act} {o : Oper} {t : TypeId} {x0 : Operand} {u0 r : Value} {W : World} {i : Nat} (ho : o.op = .build t #[(i, x0)]) (h0 : a.eval x0 = u0)
    (h : (Instr.build t #[(i, u0)]).run P W = .ok r W) : (execOp a.eval o).run P W = .ok (.value r) W := by
  unfold execOp
  simp only [ho, List.map_toArray, List.map_cons, List.map_nil, h0, h, Sem.run_bind, Sem.run_pure, Result.andThen_ok]
theorem bx_slice2 {P : Program} {a : Act} {o : Oper} {t : TypeId} {x y : Operand} {u v q : Value} {W W' : World} (ho : o.op = .buildSlice t 2 #[(0, x), (1, y)]) (hx : a.eval x = u) (hy : a.eval y = v)
    (h : (Instr.buildSlice t 2 #[(0, u), (1, v)]).run P W = .ok q W') : (execOp a.eval o).run P W = .ok (.value q) W' := by
  unfold execOp
  simp [ho, hx, hy, h]
theorem build_fld (no : Int) (t : List UInt8) (W : World) : (Instr.build 34 #[(0, .int .i64 no), (1, strV t)]).run Tryd.prog W = .ok (.agg (fldA (no, t))) W := by kernel_rfl
theorem build_fs3 (f g h : Fld) (W : World) : (Instr.buildSlice 22 3 #[(0, .agg (fldA f)), (1, .agg (fldA g)), (2, .agg (fldA h))]).run Tryd.prog W = .ok (.slice (some ⟨W.heap.size, 0, none⟩) 3 3) (W.alloc (.cells (([f, g, h].flatMap fun f => (fldA f).toList).toArray) 34)) := by kernel_rfl
theorem build_fs2 (f g : Fld) (W : World) : (Instr.buildSlice 22 2 #[(0, .agg (fldA f)), (1, .agg (fldA g))]).run Tryd.prog W = .ok (.slice (some ⟨W.heap.size, 0, none⟩) 2 2) (W.alloc (.cells (([f, g].flatMap fun f => (fldA f).toList).toArray) 34)) := by kernel_rfl
theorem build_m1 (A : Option Addr) (n c : Nat) (W : World) : (Instr.build 24 #[(1, .slice A n c)]).run Tryd.prog W = .ok (msgV 0 A n c) W := by kernel_rfl
theorem exec_seqT {a : Act} {o : Oper} {W : World} {x y : Operand} {l m : List UInt8} {t u : TypeId} (ho : o.op = .binOp .eql t x y u) (hx : a.eval x = strV l) (hy : a.eval y = strV m) (h : l = m) : (execOp a.eval o).run Tryd.prog W = .ok (.value (.bool true)) W := by
  subst h
  have := exec_seql (W := W) ho hx hy
  rwa [beq_self_eq_true] at this
theorem fld_get {f : Fld} {v : Value} {j : Nat} : ∀ {fs : List Fld} {i : Nat}, fs[i]? = some f → (fldA f).toList[j]? = some v → (fs.flatMap fun f => (fldA f).toList)[i * 2 + j]? = some v
  | [], _, h, _ => by cases h
  | g :: r, 0, h, hj => by
    have e : g = f := by injection h
    subst e
    have hl : j < 2 := (List.getElem?_eq_some_iff.1 hj).1
    rw [List.flatMap_cons, List.getElem?_append_left (by simp [fldA]; omega)]
    simpa using hj
  | g :: r, i + 1, h, hj => by
    have hr := fld_get (fs := r) (i := i) h hj
    rw [List.flatMap_cons, List.getElem?_append_right (by simp [fldA]; omega)]
    rw [show (i + 1) * 2 + j - (fldA g).toList.length = i * 2 + j from by simp [fldA]; omega]
    exact hr
theorem fl_blk {W : World} {g : Nat} {t : TypeId} {fs : List Fld} (hb : Blk W g t (fs.flatMap fun f => (fldA f).toList).toArray) (hn : fs.length ≤ 140737488355328) : Fl W (some ⟨g, 0, none⟩) fs.length fs :=
  ⟨rfl, hn, fun _ => ⟨g, 0, rfl, fun i f hf j v hv => by
    rw [Nat.zero_add, hb.cell]
    simpa using fld_get hf hv⟩⟩
set_option maxRecDepth 20000 in
set_option maxHeartbeats 4000000 in
theorem shown_walk (w : World) : Calls Tryd.prog 5 #[] w fun e w' => e = .returned (.bool true) ∧ Turn nowhere w w' := by
  go_enter Tryd.func5, Tryd.ntmps5
  go_upto_region 0 with fail
  refine wp_region_lit ?_
  refine wpList_run (v := .bool false) (wanted_none rfl) (gx_assign rfl rfl) ?_
  simp only [Act.put, List.setIfInBounds_toArray, List.set_cons_zero, List.set_cons_succ]
  go_upto_region 1 with fail
  refine wp_region_lit ?_
  refine wpList_op rfl fun K9 HK9 => ?_
  go_wp2_with fail
  refine (Next_walk 2 6 w).mono ?_
  rintro e w1 ⟨rfl, hw1⟩
  refine HK9.out _ _ ?_
  clear HK9
  try simp only [Act.put, List.setIfInBounds_toArray, List.set_cons_zero, List.set_cons_succ]
  obtain rfl := hw1.symm
  refine wpList_run (v := .tuple #[.int .i64 5, .int .i64 (-1), .int .i64 0]) (wanted_none rfl) (exec_move rfl rfl) ?_
  simp only [Act.put, List.setIfInBounds_toArray, List.set_cons_zero, List.set_cons_succ]
  refine wpList_run (v := .int .i64 5) (wanted_none rfl) (ix_extract rfl rfl rfl) ?_
  simp only [Act.put, List.setIfInBounds_toArray, List.set_cons_zero, List.set_cons_succ]
  refine wpList_run (v := .int .i64 (-1)) (wanted_none rfl) (ix_extract rfl rfl rfl) ?_
  simp only [Act.put, List.setIfInBounds_toArray, List.set_cons_zero, List.set_cons_succ]
  refine wpList_run (v := .int .i64 0) (wanted_none rfl) (ix_extract rfl rfl rfl) ?_
  simp only [Act.put, List.setIfInBounds_toArray, List.set_cons_zero, List.set_cons_succ]
  refine wpList_run (v := .int .i64 5) (wanted_none rfl) (gx_assign rfl rfl) ?_
  simp only [Act.put, List.setIfInBounds_toArray, List.set_cons_zero, List.set_cons_succ]
  refine wpList_run (v := .int .i64 (-1)) (wanted_none rfl) (gx_assign rfl rfl) ?_
  simp only [Act.put, List.setIfInBounds_toArray, List.set_cons_zero, List.set_cons_succ]
  refine wpList_run (v := .int .i64 0) (wanted_none rfl) (gx_assign rfl rfl) ?_
  simp only [Act.put, List.setIfInBounds_toArray, List.set_cons_zero, List.set_cons_succ]
  go_upto_region 2 with fail
  refine wp_region_lit ?_
  refine wpList_op rfl fun K9 HK9 => ?_
  go_wp2_with fail
  refine (Next_walk 5 1 w).mono ?_
  rintro e w1 ⟨rfl, hw1⟩
  refine HK9.out _ _ ?_
  clear HK9
  try simp only [Act.put, List.setIfInBounds_toArray, List.set_cons_zero, List.set_cons_succ]
  obtain rfl := hw1.symm
  refine wpList_run (v := .tuple #[.int .i64 0, .int .i64 0, .int .i64 160]) (wanted_none rfl) (exec_move rfl rfl) ?_
  simp only [Act.put, List.setIfInBounds_toArray, List.set_cons_zero, List.set_cons_succ]
  refine wpList_run (v := .int .i64 0) (wanted_none rfl) (ix_extract rfl rfl rfl) ?_
  simp only [Act.put, List.setIfInBounds_toArray, List.set_cons_zero, List.set_cons_succ]
  refine wpList_run (v := .int .i64 0) (wanted_none rfl) (ix_extract rfl rfl rfl) ?_
  simp only [Act.put, List.setIfInBounds_toArray, List.set_cons_zero, List.set_cons_succ]
  refine wpList_run (v := .int .i64 160) (wanted_none rfl) (ix_extract rfl rfl rfl) ?_
  simp only [Act.put, List.setIfInBounds_toArray, List.set_cons_zero, List.set_cons_succ]
  refine wpList_run (v := .int .i64 0) (wanted_none rfl) (gx_assign rfl rfl) ?_
  simp only [Act.put, List.setIfInBounds_toArray, List.set_cons_zero, List.set_cons_succ]
  refine wpList_run (v := .int .i64 0) (wanted_none rfl) (gx_assign rfl rfl) ?_
  simp only [Act.put, List.setIfInBounds_toArray, List.set_cons_zero, List.set_cons_succ]
  refine wpList_run (v := .int .i64 160) (wanted_none rfl) (gx_assign rfl rfl) ?_
  simp only [Act.put, List.setIfInBounds_toArray, List.set_cons_zero, List.set_cons_succ]
  go_upto_region 3 with fail
  refine wp_region_lit ?_
  refine wpList_run (v := .agg (fldA (7, [48, 49, 48, 49, 49, 50, 48, 48, 48, 48]))) (wanted_none rfl) (gx_build2 rfl rfl rfl (build_fld _ _ _)) ?_
  simp only [Act.put, List.setIfInBounds_toArray, List.set_cons_zero, List.set_cons_succ]
  refine wpList_run (v := .agg (fldA (11, [48, 48, 48, 48, 48, 49]))) (wanted_none rfl) (gx_build2 rfl rfl rfl (build_fld _ _ _)) ?_
  simp only [Act.put, List.setIfInBounds_toArray, List.set_cons_zero, List.set_cons_succ]
  refine wpList_run (v := .agg (fldA (32, [49, 49]))) (wanted_none rfl) (gx_build2 rfl rfl rfl (build_fld _ _ _)) ?_
  simp only [Act.put, List.setIfInBounds_toArray, List.set_cons_zero, List.set_cons_succ]
  refine wpList_run (v := .slice (some ⟨w.heap.size, 0, none⟩) 3 3) (w' := w.alloc (.cells (([((7, [48, 49, 48, 49, 49, 50, 48, 48, 48, 48]) : Fld), ((11, [48, 48, 48, 48, 48, 49]) : Fld), ((32, [49, 49]) : Fld)].flatMap fun f => (fldA f).toList).toArray) 34)) (wanted_none rfl) (bx_slice3 rfl rfl rfl rfl (build_fs3 _ _ _ w)) ?_
  simp only [Act.put, List.setIfInBounds_toArray, List.set_cons_zero, List.set_cons_succ]
  have hb := Blk.new w 34 (([((7, [48, 49, 48, 49, 49, 50, 48, 48, 48, 48]) : Fld), ((11, [48, 48, 48, 48, 48, 49]) : Fld), ((32, [49, 49]) : Fld)].flatMap fun f => (fldA f).toList).toArray)
  have hu := (Turn.refl nowhere w).alloc (.cells (([((7, [48, 49, 48, 49, 49, 50, 48, 48, 48, 48]) : Fld), ((11, [48, 48, 48, 48, 48, 49]) : Fld), ((32, [49, 49]) : Fld)].flatMap fun f => (fldA f).toList).toArray) 34)
  obtain ⟨ga, hg0⟩ : ∃ g, g = w.heap.size := ⟨_, rfl⟩
  rw [← hg0] at hb ⊢
  clear hg0
  generalize w.alloc (.cells (([((7, [48, 49, 48, 49, 49, 50, 48, 48, 48, 48]) : Fld), ((11, [48, 48, 48, 48, 48, 49]) : Fld), ((32, [49, 49]) : Fld)].flatMap fun f => (fldA f).toList).toArray) 34) = w1 at *
  have HFGA := Lib.hid (fl_blk hb (by decide))
  have HGA := Lib.hid (hu)
  clear hb hu
  refine wpList_run (v := msgV 0 (some ⟨ga, 0, none⟩) 3 3) (wanted_none rfl) (gx_build1i rfl rfl (build_m1 _ _ _ _)) ?_
  simp only [Act.put, List.setIfInBounds_toArray, List.set_cons_zero, List.set_cons_succ]
  refine wpList_op rfl fun K9 HK9 => ?_
  go_wp2_with fail
  refine (Key_walk (ty := 0) (c := 3) HFGA.out (by intro f hf; simp only [List.mem_cons, List.not_mem_nil, or_false] at hf; rcases hf with rfl | rfl | rfl <;> decide)).mono ?_
  rintro e w2 ⟨rfl, ht⟩
  refine HK9.out _ _ ?_
  clear HK9
  try simp only [Act.put, List.setIfInBounds_toArray, List.set_cons_zero, List.set_cons_succ]
  have HT1 := Lib.hid (HGA.out.trans ht fun _ _ e => e)
  clear ht
  refine wpList_run (v := .tuple #[strV [49, 49, 46, 48, 48, 48, 48, 48, 49, 46, 48, 49, 48, 49, 49, 50, 48, 48, 48, 48], .int .i64 0]) (wanted_none rfl) (exec_move rfl rfl) ?_
  simp only [Act.put, List.setIfInBounds_toArray, List.set_cons_zero, List.set_cons_succ]
  refine wpList_run (v := strV [49, 49, 46, 48, 48, 48, 48, 48, 49, 46, 48, 49, 48, 49, 49, 50, 48, 48, 48, 48]) (wanted_none rfl) (ix_extract rfl rfl rfl) ?_
  simp only [Act.put, List.setIfInBounds_toArray, List.set_cons_zero, List.set_cons_succ]
  refine wpList_run (v := .int .i64 0) (wanted_none rfl) (ix_extract rfl rfl rfl) ?_
  simp only [Act.put, List.setIfInBounds_toArray, List.set_cons_zero, List.set_cons_succ]
  refine wpList_run (v := strV [49, 49, 46, 48, 48, 48, 48, 48, 49, 46, 48, 49, 48, 49, 49, 50, 48, 48, 48, 48]) (wanted_none rfl) (gx_assign rfl rfl) ?_
  simp only [Act.put, List.setIfInBounds_toArray, List.set_cons_zero, List.set_cons_succ]
  refine wpList_run (v := .int .i64 0) (wanted_none rfl) (gx_assign rfl rfl) ?_
  simp only [Act.put, List.setIfInBounds_toArray, List.set_cons_zero, List.set_cons_succ]
  go_upto_region 4 with fail
  refine wp_region_lit ?_
  refine wpList_run (v := .agg (fldA (32, [49, 49]))) (wanted_none rfl) (gx_build2 rfl rfl rfl (build_fld _ _ _)) ?_
  simp only [Act.put, List.setIfInBounds_toArray, List.set_cons_zero, List.set_cons_succ]
  refine wpList_run (v := .agg (fldA (90, [48, 50, 48, 48, 48, 48, 48, 48, 48, 49, 48, 49, 48, 49, 49, 50, 48, 48, 48, 48]))) (wanted_none rfl) (gx_build2 rfl rfl rfl (build_fld _ _ _)) ?_
  simp only [Act.put, List.setIfInBounds_toArray, List.set_cons_zero, List.set_cons_succ]
  refine wpList_run (v := .slice (some ⟨w2.heap.size, 0, none⟩) 2 2) (w' := w2.alloc (.cells (([((32, [49, 49]) : Fld), ((90, [48, 50, 48, 48, 48, 48, 48, 48, 48, 49, 48, 49, 48, 49, 49, 50, 48, 48, 48, 48]) : Fld)].flatMap fun f => (fldA f).toList).toArray) 34)) (wanted_none rfl) (bx_slice2 rfl rfl rfl (build_fs2 _ _ w2)) ?_
  simp only [Act.put, List.setIfInBounds_toArray, List.set_cons_zero, List.set_cons_succ]
  have hb := Blk.new w2 34 (([((32, [49, 49]) : Fld), ((90, [48, 50, 48, 48, 48, 48, 48, 48, 48, 49, 48, 49, 48, 49, 49, 50, 48, 48, 48, 48]) : Fld)].flatMap fun f => (fldA f).toList).toArray)
  have hu := (Turn.refl nowhere w2).alloc (.cells (([((32, [49, 49]) : Fld), ((90, [48, 50, 48, 48, 48, 48, 48, 48, 48, 49, 48, 49, 48, 49, 49, 50, 48, 48, 48, 48]) : Fld)].flatMap fun f => (fldA f).toList).toArray) 34)
  obtain ⟨gb, hg0⟩ : ∃ g, g = w2.heap.size := ⟨_, rfl⟩
  rw [← hg0] at hb ⊢
  clear hg0
  generalize w2.alloc (.cells (([((32, [49, 49]) : Fld), ((90, [48, 50, 48, 48, 48, 48, 48, 48, 48, 49, 48, 49, 48, 49, 49, 50, 48, 48, 48, 48]) : Fld)].flatMap fun f => (fldA f).toList).toArray) 34) = w3 at *
  have HFGB := Lib.hid (fl_blk hb (by decide))
  have HGB := Lib.hid (HT1.out.trans hu fun _ _ e => e)
  clear hb hu
  refine wpList_run (v := msgV 0 (some ⟨gb, 0, none⟩) 2 2) (wanted_none rfl) (gx_build1i rfl rfl (build_m1 _ _ _ _)) ?_
  simp only [Act.put, List.setIfInBounds_toArray, List.set_cons_zero, List.set_cons_succ]
  refine wpList_op rfl fun K9 HK9 => ?_
  go_wp2_with fail
  refine (Original_walk (ty := 0) (c := 2) HFGB.out (by intro f hf; simp only [List.mem_cons, List.not_mem_nil, or_false] at hf; rcases hf with rfl | rfl <;> decide)).mono ?_
  rintro e w4 ⟨rfl, ht⟩
  refine HK9.out _ _ ?_
  clear HK9
  try simp only [Act.put, List.setIfInBounds_toArray, List.set_cons_zero, List.set_cons_succ]
  have HT2 := Lib.hid (HGB.out.trans ht fun _ _ e => e)
  clear ht
  refine wpList_run (v := .tuple #[strV [49, 49, 46, 48, 48, 48, 48, 48, 49, 46, 48, 49, 48, 49, 49, 50, 48, 48, 48, 48], .int .i64 0]) (wanted_none rfl) (exec_move rfl rfl) ?_
  simp only [Act.put, List.setIfInBounds_toArray, List.set_cons_zero, List.set_cons_succ]
  refine wpList_run (v := strV [49, 49, 46, 48, 48, 48, 48, 48, 49, 46, 48, 49, 48, 49, 49, 50, 48, 48, 48, 48]) (wanted_none rfl) (ix_extract rfl rfl rfl) ?_
  simp only [Act.put, List.setIfInBounds_toArray, List.set_cons_zero, List.set_cons_succ]
  refine wpList_run (v := .int .i64 0) (wanted_none rfl) (ix_extract rfl rfl rfl) ?_
  simp only [Act.put, List.setIfInBounds_toArray, List.set_cons_zero, List.set_cons_succ]
  refine wpList_run (v := strV [49, 49, 46, 48, 48, 48, 48, 48, 49, 46, 48, 49, 48, 49, 49, 50, 48, 48, 48, 48]) (wanted_none rfl) (gx_assign rfl rfl) ?_
  simp only [Act.put, List.setIfInBounds_toArray, List.set_cons_zero, List.set_cons_succ]
  refine wpList_run (v := .int .i64 0) (wanted_none rfl) (gx_assign rfl rfl) ?_
  simp only [Act.put, List.setIfInBounds_toArray, List.set_cons_zero, List.set_cons_succ]
  go_upto_region 5 with fail
  refine wp_region_lit ?_
  refine wpList_run (v := .int .i64 5) (wanted_none rfl) (exec_move rfl rfl) ?_
  simp only [Act.put, List.setIfInBounds_toArray, List.set_cons_zero, List.set_cons_succ]
  refine wpList_run (v := .bool true) (wanted_none rfl) (ix_eql rfl rfl rfl (by decide)) ?_
  simp only [Act.put, List.setIfInBounds_toArray, List.set_cons_zero, List.set_cons_succ]
  refine wpList_run (v := .bool true) (wanted_none rfl) (exec_move rfl rfl) ?_
  simp only [Act.put, List.setIfInBounds_toArray, List.set_cons_zero, List.set_cons_succ]
  refine wpList_run (v := .int .i64 (-1)) rfl (exec_move rfl rfl) ?_
  simp only [Act.put, List.setIfInBounds_toArray, List.set_cons_zero, List.set_cons_succ]
  refine wpList_run (v := .bool true) rfl (ix_eql rfl rfl rfl (by decide)) ?_
  simp only [Act.put, List.setIfInBounds_toArray, List.set_cons_zero, List.set_cons_succ]
  refine wpList_run (v := .bool true) (wanted_none rfl) (ix_pickT rfl rfl rfl) ?_
  simp only [Act.put, List.setIfInBounds_toArray, List.set_cons_zero, List.set_cons_succ]
  refine wpList_run (v := .bool true) (wanted_none rfl) (exec_move rfl rfl) ?_
  simp only [Act.put, List.setIfInBounds_toArray, List.set_cons_zero, List.set_cons_succ]
  refine wpList_run (v := .int .i64 0) rfl (exec_move rfl rfl) ?_
  simp only [Act.put, List.setIfInBounds_toArray, List.set_cons_zero, List.set_cons_succ]
  refine wpList_run (v := .bool true) rfl (ix_eql rfl rfl rfl (by decide)) ?_
  simp only [Act.put, List.setIfInBounds_toArray, List.set_cons_zero, List.set_cons_succ]
  refine wpList_run (v := .bool true) (wanted_none rfl) (ix_pickT rfl rfl rfl) ?_
  simp only [Act.put, List.setIfInBounds_toArray, List.set_cons_zero, List.set_cons_succ]
  refine wpList_run (v := .bool true) (wanted_none rfl) (exec_move rfl rfl) ?_
  simp only [Act.put, List.setIfInBounds_toArray, List.set_cons_zero, List.set_cons_succ]
  refine wpList_run (v := .int .i64 160) rfl (exec_move rfl rfl) ?_
  simp only [Act.put, List.setIfInBounds_toArray, List.set_cons_zero, List.set_cons_succ]
  refine wpList_run (v := .bool true) rfl (ix_eql rfl rfl rfl (by decide)) ?_
  simp only [Act.put, List.setIfInBounds_toArray, List.set_cons_zero, List.set_cons_succ]
  refine wpList_run (v := .bool true) (wanted_none rfl) (ix_pickT rfl rfl rfl) ?_
  simp only [Act.put, List.setIfInBounds_toArray, List.set_cons_zero, List.set_cons_succ]
  refine wpList_run (v := .bool true) (wanted_none rfl) (exec_move rfl rfl) ?_
  simp only [Act.put, List.setIfInBounds_toArray, List.set_cons_zero, List.set_cons_succ]
  refine wpList_run (v := strV [49, 49, 46, 48, 48, 48, 48, 48, 49, 46, 48, 49, 48, 49, 49, 50, 48, 48, 48, 48]) rfl (exec_move rfl rfl) ?_
  simp only [Act.put, List.setIfInBounds_toArray, List.set_cons_zero, List.set_cons_succ]
  refine wpList_run (v := .bool true) rfl (exec_seqT rfl rfl rfl rfl) ?_
  simp only [Act.put, List.setIfInBounds_toArray, List.set_cons_zero, List.set_cons_succ]
  refine wpList_run (v := .bool true) (wanted_none rfl) (ix_pickT rfl rfl rfl) ?_
  simp only [Act.put, List.setIfInBounds_toArray, List.set_cons_zero, List.set_cons_succ]
  refine wpList_run (v := .bool true) (wanted_none rfl) (exec_move rfl rfl) ?_
  simp only [Act.put, List.setIfInBounds_toArray, List.set_cons_zero, List.set_cons_succ]
  refine wpList_run (v := .int .i64 0) rfl (exec_move rfl rfl) ?_
  simp only [Act.put, List.setIfInBounds_toArray, List.set_cons_zero, List.set_cons_succ]
  refine wpList_run (v := .bool true) rfl (ix_eql rfl rfl rfl (by decide)) ?_
  simp only [Act.put, List.setIfInBounds_toArray, List.set_cons_zero, List.set_cons_succ]
  refine wpList_run (v := .bool true) (wanted_none rfl) (ix_pickT rfl rfl rfl) ?_
  simp only [Act.put, List.setIfInBounds_toArray, List.set_cons_zero, List.set_cons_succ]
  refine wpList_run (v := .bool true) (wanted_none rfl) (exec_move rfl rfl) ?_
  simp only [Act.put, List.setIfInBounds_toArray, List.set_cons_zero, List.set_cons_succ]
  refine wpList_run (v := strV [49, 49, 46, 48, 48, 48, 48, 48, 49, 46, 48, 49, 48, 49, 49, 50, 48, 48, 48, 48]) rfl (exec_move rfl rfl) ?_
  simp only [Act.put, List.setIfInBounds_toArray, List.set_cons_zero, List.set_cons_succ]
  refine wpList_run (v := strV [49, 49, 46, 48, 48, 48, 48, 48, 49, 46, 48, 49, 48, 49, 49, 50, 48, 48, 48, 48]) rfl (exec_move rfl rfl) ?_
  simp only [Act.put, List.setIfInBounds_toArray, List.set_cons_zero, List.set_cons_succ]
  refine wpList_run (v := .bool true) rfl (exec_seqT rfl rfl rfl rfl) ?_
  simp only [Act.put, List.setIfInBounds_toArray, List.set_cons_zero, List.set_cons_succ]
  refine wpList_run (v := .bool true) (wanted_none rfl) (ix_pickT rfl rfl rfl) ?_
  simp only [Act.put, List.setIfInBounds_toArray, List.set_cons_zero, List.set_cons_succ]
  refine wpList_run (v := .bool true) (wanted_none rfl) (exec_move rfl rfl) ?_
  simp only [Act.put, List.setIfInBounds_toArray, List.set_cons_zero, List.set_cons_succ]
  refine wpList_run (v := .int .i64 0) rfl (exec_move rfl rfl) ?_
  simp only [Act.put, List.setIfInBounds_toArray, List.set_cons_zero, List.set_cons_succ]
  refine wpList_run (v := .bool true) rfl (ix_eql rfl rfl rfl (by decide)) ?_
  simp only [Act.put, List.setIfInBounds_toArray, List.set_cons_zero, List.set_cons_succ]
  refine wpList_run (v := .bool true) (wanted_none rfl) (ix_pickT rfl rfl rfl) ?_
  simp only [Act.put, List.setIfInBounds_toArray, List.set_cons_zero, List.set_cons_succ]
  refine wpList_run (v := .bool true) (wanted_none rfl) (gx_assign rfl rfl) ?_
  simp only [Act.put, List.setIfInBounds_toArray, List.set_cons_zero, List.set_cons_succ]
  go_wp2_with fail
  go_ret
  exact ⟨rfl, HT2.out⟩
end Go.Proofs.YtjjbmnoamcfdgaaDoor
