/-
  Texts in one file: ShB. Conditions: the tables and the errors read as the program's text lays them.
-/
import Derived.Test.YtfnillibngijaaaGreatDoorJB2
namespace Go.Proofs.YtfnillibngijaaaGreatDoor
open Go.RowKit
open Sh (Wd B8 H8)
set_option linter.unusedVariables false
set_option linter.unusedSimpArgs false
set_option maxRecDepth 20000
def wds (l : List Wd) : Array Value := (l.map fun x => Value.int .u32 (x.toNat : Int)).toArray
theorem wds_size (l : List Wd) : (wds l).size = l.length := by simp [wds]
theorem wds_one (l : List Wd) : ∀ v ∈ (wds l).toList, v.oneCell' = true := fun v hv => by
  simp only [wds, List.mem_map] at hv
  obtain ⟨x, -, rfl⟩ := hv
  rfl
theorem wds_at (l : List Wd) {j : Nat} (hj : j < l.length) : (wds l)[j]? = some (.int .u32 ((l.getD j 0).toNat : Int)) := by
  simp only [wds, List.getElem?_toArray, List.getElem?_map]
  rw [List.getD_eq_getElem?_getD, List.getElem?_eq_getElem hj]
  rfl
theorem wds_set (l : List Wd) (i : Nat) (x : Wd) : (wds l).setIfInBounds i (.int .u32 (x.toNat : Int)) = wds (l.set i x) := by
  simp only [wds, List.setIfInBounds_toArray, List.map_set]
theorem bc_size (t : B8) : (byteCells t).size = t.length := by simp [byteCells]
theorem bc_one (t : B8) : ∀ v ∈ (byteCells t).toList, v.oneCell' = true := fun v hv => by
  simp only [byteCells, List.mem_map] at hv
  obtain ⟨x, -, rfl⟩ := hv
  rfl
theorem bc_at (l : B8) {j : Nat} (hj : j < l.length) : (byteCells l)[j]? = some (.int .u8 ((l.getD j 0).toNat : Int)) := by
  simp only [byteCells, List.getElem?_toArray, List.getElem?_map]
  rw [List.getD_eq_getElem?_getD, List.getElem?_eq_getElem hj]
  rfl
theorem bc_set (l : B8) (i : Nat) (x : UInt8) : (byteCells l).setIfInBounds i (.int .u8 (x.toNat : Int)) = byteCells (l.set i x) := by
  simp only [byteCells, List.setIfInBounds_toArray, List.map_set]
theorem ld_w {w : World} {g : Nat} {t : TypeId} {l : List Wd} (h : Blk w g t (wds l)) {i : Nat} (hi : i < l.length) : w.cell? ⟨g, 0 + i * 1, none⟩ = some (.int .u32 ((l.getD i 0).toNat : Int)) := by
  rw [h.cell, Nat.zero_add, Nat.mul_one, wds_at l hi]
theorem ld_b {w : World} {g : Nat} {t : TypeId} {l : B8} (h : Blk w g t (byteCells l)) {i : Nat} (hi : i < l.length) : w.cell? ⟨g, 0 + i * 1, none⟩ = some (.int .u8 ((l.getD i 0).toNat : Int)) := by
  rw [h.cell, Nat.zero_add, Nat.mul_one, bc_at l hi]
theorem set_mid {α : Type} {A B : List α} {i : Nat} (hA : A.length = i) (v : α) (hB : B ≠ []) : (A ++ B).set i v = (A ++ [v]) ++ B.tail := by
  subst hA
  rw [List.set_append_right _ _ (Nat.le_refl _), Nat.sub_self]
  cases B with
  | nil => exact absurd rfl hB
  | cons b B => simp
theorem size_u32 : (Tryz.prog.info? 88).map (·.size) = some 1 := by kernel_rfl
theorem size_u8 : (Tryz.prog.info? 5).map (·.size) = some 1 := by kernel_rfl
theorem size_wds : (Tryz.prog.info? 90).map (·.size) = some 8 := by kernel_rfl
theorem size_pc : (Tryz.prog.info? 85).map (·.size) = some 64 := by kernel_rfl
theorem size_u64 : (Tryz.prog.info? 119).map (·.size) = some 64 := by kernel_rfl
theorem size_hs : (Tryz.prog.info? 71).map (·.size) = some 32 := by kernel_rfl
theorem zero_wds (w : World) : (zeroValue 90).run Tryz.prog w = .ok (.agg (wds (List.replicate 8 0))) w := by kernel_rfl
theorem zero_u64 (w : World) : (zeroValue 119).run Tryz.prog w = .ok (.agg (wds (List.replicate 64 0))) w := by kernel_rfl
theorem zero_pc (w : World) : (zeroValue 85).run Tryz.prog w = .ok (.agg (byteCells (Sh.zs 64))) w := by kernel_rfl
theorem zero_hs (w : World) : (zeroValue 71).run Tryz.prog w = .ok (.agg (byteCells (Sh.zs 32))) w := by kernel_rfl
theorem box_wds (l : List Wd) (w : World) : (Instr.box 90 (.agg (wds l))).run Tryz.prog w = .ok (.pointer (some ⟨w.heap.size, 0, none⟩)) (w.alloc (.cells (wds l) 90)) := by
  simp [Instr.box, newVar, newRow, Result.andThen, Value.cells]
theorem box_pc (l : B8) (w : World) : (Instr.box 85 (.agg (byteCells l))).run Tryz.prog w = .ok (.pointer (some ⟨w.heap.size, 0, none⟩)) (w.alloc (.cells (byteCells l) 85)) := by
  simp [Instr.box, newVar, newRow, Result.andThen, Value.cells]
theorem h8_len (s : H8) : s.l.length = 8 := rfl
theorem build_h8 (s : H8) (W : World) : (Instr.build 90 #[(0, .int .u32 (s.a.toNat : Int)), (1, .int .u32 (s.b.toNat : Int)), (2, .int .u32 (s.c.toNat : Int)), (3, .int .u32 (s.d.toNat : Int)), (4, .int .u32 (s.e.toNat : Int)), (5, .int .u32 (s.f.toNat : Int)), (6, .int .u32 (s.g.toNat : Int)), (7, .int .u32 (s.h.toNat : Int))]).run Tryz.prog W = .ok (.agg (wds s.l)) W := by kernel_rfl
theorem gx_build8 {P : Program} {a : Act} {o : Oper} {t : TypeId} {x0 x1 x2 x3 x4 x5 x6 x7 : Operand} {u0 u1 u2 u3 u4 u5 u6 u7 r : Value} {W : World} (ho : o.op = .build t #[(0, x0), (1, x1), (2, x2), (3, x3), (4, x4), (5, x5), (6, x6), (7, x7)]) (h0 : a.eval x0 = u0) (h1 : a.eval x1 = u1) (h2 : a.eval x2 = u2) (h3 : a.eval x3 = u3) (h4 : a.eval x4 = u4) (h5 : a.eval x5 = u5) (h6 : a.eval x6 = u6) (h7 : a.eval x7 = u7)
    (h : (Instr.build t #[(0, u0), (1, u1), (2, u2), (3, u3), (4, u4), (5, u5), (6, u6), (7, u7)]).run P W = .ok r W) : (execOp a.eval o).run P W = .ok (.value r) W := by
  simp [execOp, ho, h0, h1, h2, h3, h4, h5, h6, h7, h, Result.andThen]
theorem b8_xor {a : Act} {o : Oper} {W : World} {x y : Operand} {t u : TypeId} {n m : UInt8} (ho : o.op = .binOp .xor t x y u) (hx : a.eval x = .int .u8 (n.toNat : Int)) (hy : a.eval y = .int .u8 (m.toNat : Int)) : (execOp a.eval o).run Tryz.prog W = .ok (.value (.int .u8 ((n ^^^ m).toNat : Int))) W := by
  obtain ⟨r, hr⟩ : ∃ r : Nat, (n ^^^ m).toNat = r := ⟨_, rfl⟩
  rw [hr]
  unfold execOp
  simp only [ho, hx, hy]
  go_simp
  rw [u8_xor_nat _ _ n.toNat_lt m.toNat_lt, ← hr, UInt8.toNat_xor]
theorem wpList_put {P : Program} {ops : Array Oper} {rest : List Oper} {o : Oper} {a : Act} {w : World} {Q : Exit → Act → World → Prop} (hgd : Region.wanted o (yielded ops a.tmps) = true) (ty : TypeId) (x y : Operand) (ho : o.op = .store ty x y) (v : Value) (new : Array Value) {g i : Nat} {t : TypeId} {old : Array Value} (hb : Blk w g t old)
    (hx : a.eval x = .pointer (some ⟨g, i, none⟩)) (hy : a.eval y = v) (hi : i < old.size) (hv : v.cells = #[v]) (h1 : v.oneCell' = true) (hsz : (P.info? ty).map (·.size) = some 1) (hn : old.setIfInBounds i v = new)
    (h : ∀ w', Blk w' g t new → Turn (only g) w w' → wpList P ops Q rest (a.put o.dst undef) w') : wpList P ops Q (o :: rest) a w :=
  wpList_store1 hgd ty x y ho hb hx hy hi hv h1 hsz fun hb' ht' => h _ (hn ▸ hb') ht'
theorem wp_putU {P : Program} {o : Oper} {a : Act} {w : World} {K : Act → World → Prop} {Q : Exit → Act → World → Prop} (ty : TypeId) (x y : Operand) (ho : o.op = .store ty x y) (v : Value) (new : Array Value) {g i : Nat} {t : TypeId} {old : Array Value} (hb : Blk w g t old)
    (hx : a.eval x = .pointer (some ⟨g, i, none⟩)) (hy : a.eval y = v) (hi : i < old.size) (hv : v.cells = #[v]) (h1 : v.oneCell' = true) (hsz : (P.info? ty).map (·.size) = some 1) (hn : old.setIfInBounds i v = new)
    (h : ∀ w', Blk w' g t new → Turn (only g) w w' → K (a.put o.dst undef) w') : o.wp P a w K Q :=
  wp_store1U ty x y ho hb hx hy hi hv h1 hsz fun w' hb' ht' => h _ (hn ▸ hb') ht'
theorem build_pc0 (W : World) : (Instr.build 85 #[]).run Tryz.prog W = .ok (.agg (byteCells (Sh.zs 64))) W := by kernel_rfl
theorem start_walk (w : World) : Calls Tryz.prog 39 #[] w fun e w' => e = .returned (.agg (wds Sh.H0.l)) ∧ Turn nowhere w w' := by
  go_enter Tryz.func39, Tryz.ntmps39
  go_upto_region 0 with fail
  refine wp_region_lit ?_
  refine wpList_run (v := .pointer (some ⟨(w).heap.size, 0, none⟩)) (w' := (w).alloc (.cells (wds (List.replicate 8 0)) 90)) (wanted_none rfl) (gx_alloc rfl (zero_wds _)) ?_
  simp only [Act.put, List.setIfInBounds_toArray, List.set_cons_zero, List.set_cons_succ]
  have hb_r := Blk.new (w) 90 (wds (List.replicate 8 0))
  have ht_ := (Turn.refl nowhere (w)).alloc (.cells (wds (List.replicate 8 0)) 90)
  obtain ⟨n0_, hn0_⟩ : ∃ n, n = (w).heap.size := ⟨_, rfl⟩
  have hz_r : (w).heap.size = n0_ + 0 := by rw [hn0_]; simp
  obtain ⟨r, hg_⟩ : ∃ g, g = (w).heap.size := ⟨_, rfl⟩
  rw [← hg_] at hb_r hz_r ⊢
  clear hg_
  generalize (w).alloc (.cells (wds (List.replicate 8 0)) 90) = w1 at *
  have HT1 := Lib.hid ht_
  clear ht_
  have HBr := Lib.hid hb_r
  have HLr := Lib.hid (show (w).heap.size ≤ r from by omega)
  clear hb_r
  clear hn0_ hz_r
  clear n0_
  go_upto_region 1 with fail
  refine wp_region_lit ?_
  refine wpList_run (v := .agg (wds Sh.H0.l)) (wanted_none rfl) (gx_build8 rfl rfl rfl rfl rfl rfl rfl rfl rfl (build_h8 Sh.H0 _)) ?_
  simp only [Act.put, List.setIfInBounds_toArray, List.set_cons_zero, List.set_cons_succ]
  refine wpList_store_row (wanted_none rfl) 90 (.tmp 0) (.tmp 1) rfl (wds Sh.H0.l) HBr.out rfl rfl (rfl) (by rw [size_wds] <;> rfl) (wds_one _) ?_
  intro w2 hb_ ht_
  have HB2 := Lib.hid hb_
  have HT2 := Lib.hid ht_
  clear hb_ ht_
  simp only [Act.put, List.setIfInBounds_toArray, List.set_cons_zero, List.set_cons_succ]
  have HTZ := Lib.hid (HT1.out.trans HT2.out fun k hk e => by have := HLr.out; have e : k = r := e; omega)
  go_wp2_with fail
  refine bodyPost_ret (v := .agg (wds Sh.H0.l)) (ret_cell1_g rfl _ _ r _ _ _ rfl HB2.out Tryz.underlying90 rfl (by rw [size_wds] <;> rfl)) rfl ?_
  exact ⟨rfl, HTZ.out⟩
set_option maxRecDepth 20000 in
set_option maxHeartbeats 4000000 in
theorem masked_walk (p : B8) (x : UInt8) (w : World) (hp : p.length = 64) : Calls Tryz.prog 40 #[.agg (byteCells p), .int .u8 (x.toNat : Int)] w fun e w' => e = .returned (.agg (byteCells (Sh.mask p x))) ∧ Turn nowhere w w' := by
  have HP := Lib.hid hp
  have HM := Lib.hid (show (byteCells (Sh.mask p x)).size = 64 from by rw [bc_size, Sh.mask_len, hp])
  clear hp
  go_enter Tryz.func40, Tryz.ntmps40
  go_upto_region 0 with fail
  refine wp_region_lit ?_
  refine wpList_run (v := .pointer (some ⟨(w).heap.size, 0, none⟩)) (w' := (w).alloc (.cells (byteCells p) 85)) (wanted_none rfl) (gx_box rfl rfl (box_pc p _)) ?_
  simp only [Act.put, List.setIfInBounds_toArray, List.set_cons_zero, List.set_cons_succ]
  refine wpList_run (v := .pointer (some ⟨((w).alloc (.cells (byteCells p) 85)).heap.size, 0, none⟩)) (w' := ((w).alloc (.cells (byteCells p) 85)).alloc (.cells (byteCells (Sh.zs 64)) 85)) (wanted_none rfl) (gx_alloc rfl (zero_pc _)) ?_
  simp only [Act.put, List.setIfInBounds_toArray, List.set_cons_zero, List.set_cons_succ]
  have hb_q := (Blk.new (w) 85 (byteCells p)).alloc (.cells (byteCells (Sh.zs 64)) 85)
  have hb_r := Blk.new ((w).alloc (.cells (byteCells p) 85)) 85 (byteCells (Sh.zs 64))
  have ht_ := ((Turn.refl nowhere (w)).alloc (.cells (byteCells p) 85)).alloc (.cells (byteCells (Sh.zs 64)) 85)
  obtain ⟨n0_, hn0_⟩ : ∃ n, n = (w).heap.size := ⟨_, rfl⟩
  have hz_q : (w).heap.size = n0_ + 0 := by rw [hn0_]; simp
  have hz_r : ((w).alloc (.cells (byteCells p) 85)).heap.size = n0_ + 1 := by rw [hn0_]; simp
  obtain ⟨r, hg_⟩ : ∃ g, g = ((w).alloc (.cells (byteCells p) 85)).heap.size := ⟨_, rfl⟩
  rw [← hg_] at hb_r hz_r ⊢
  clear hg_
  obtain ⟨q, hg_⟩ : ∃ g, g = (w).heap.size := ⟨_, rfl⟩
  rw [← hg_] at hb_q hz_q ⊢
  clear hg_
  generalize ((w).alloc (.cells (byteCells p) 85)).alloc (.cells (byteCells (Sh.zs 64)) 85) = w1 at *
  have HT1 := Lib.hid ht_
  clear ht_
  have HBq := Lib.hid hb_q
  have HLq := Lib.hid (show (w).heap.size ≤ q from by omega)
  clear hb_q
  have HBr := Lib.hid hb_r
  have HLr := Lib.hid (show (w).heap.size ≤ r from by omega)
  clear hb_r
  have HNqr := Lib.hid (show q ≠ r from by omega)
  clear hn0_ hz_q hz_r
  clear n0_
  go_upto_region 1 with fail
  refine wp_region_lit ?_
  refine wpList_run (v := .int .i64 0) (wanted_none rfl) (exec_move rfl rfl) ?_
  simp only [Act.put, List.setIfInBounds_toArray, List.set_cons_zero, List.set_cons_succ]
  go_wp2_with fail
  go_loopg [6] 64 (fun gk iv wr => ∃ i : Nat, iv = .int .i64 (i : Int) ∧ i + gk = 64 ∧ Blk wr q 85 (byteCells (Sh.mask (p.take i) x ++ p.drop i)) ∧ Blk wr r 85 (byteCells (Sh.zs 64)) ∧ Turn nowhere w wr)
  case atStart => exact ⟨0, rfl, rfl, HBq.out, HBr.out, HT1.out⟩
  obtain ⟨i, rfl, hgk, hbq, hbr, htr⟩ := hrel
  have HGK := Lib.hid hgk
  have HBQ := Lib.hid hbq
  have HBR := Lib.hid hbr
  have HTR := Lib.hid htr
  have yi : (i : Int) ≤ 64 := by omega
  clear hgk hbq hbr htr
  by_cases hlt : i < 64
  · have HLT := Lib.hid hlt
    have y3 : (i : Int) < 64 := by omega
    have HLE := Lib.hid (show (Sh.mask (p.take i) x).length = i from by rw [Sh.mask_len, List.length_take, HP.out]; omega)
    have HLL := Lib.hid (show i < (Sh.mask (p.take i) x ++ p.drop i).length from by rw [List.length_append, HLE.out, List.length_drop, HP.out]; omega)
    have HGD := Lib.hid (show (Sh.mask (p.take i) x ++ p.drop i).getD i 0 = p.getD i 0 from by rw [List.getD_eq_getElem?_getD, List.getElem?_append_right (by rw [HLE.out]; omega), HLE.out, Nat.sub_self, List.getElem?_drop, Nat.add_zero, ← List.getD_eq_getElem?_getD])
    clear hlt
    go_upto_region 2 with fail
    refine wp_region_lit ?_
    refine wpList_run (v := .bool true) (wanted_none rfl) (ix_lss rfl rfl rfl (decide_eq_true y3)) ?_
    simp only [Act.put, List.setIfInBounds_toArray, List.set_cons_zero, List.set_cons_succ]
    go_upto_region 3 with fail
    refine wp_region_lit ?_
    refine wpList_run (v := .int .i64 (i : Int)) (wanted_none rfl) (exec_move rfl rfl) ?_
    simp only [Act.put, List.setIfInBounds_toArray, List.set_cons_zero, List.set_cons_succ]
    refine wpList_run (v := .int .i64 (i : Int)) (wanted_none rfl) (gx_assign rfl rfl) ?_
    simp only [Act.put, List.setIfInBounds_toArray, List.set_cons_zero, List.set_cons_succ]
    go_upto_region 4 with fail
    refine wp_region_lit ?_
    refine wpList_run (v := .int .i64 (i : Int)) (wanted_none rfl) (exec_move rfl rfl) ?_
    simp only [Act.put, List.setIfInBounds_toArray, List.set_cons_zero, List.set_cons_succ]
    refine wpList_run (v := .pointer (some ⟨q, 0 + i * 1, none⟩)) (wanted_none rfl) (gx_aaddr_g (i := i) (sz := 1) rfl rfl rfl Tryz.underlying85 size_u8 HLT.out rfl) ?_
    simp only [Act.put, List.setIfInBounds_toArray, List.set_cons_zero, List.set_cons_succ]
    refine wpList_run (v := .int .u8 ((p.getD i 0).toNat : Int)) (wanted_none rfl) (exec_load1 rfl rfl (by kernel_rfl) (by rw [ld_b HBQ.out HLL.out, HGD.out])) ?_
    simp only [Act.put, List.setIfInBounds_toArray, List.set_cons_zero, List.set_cons_succ]
    refine wpList_run (v := .int .u8 (x.toNat : Int)) (wanted_none rfl) (exec_move rfl rfl) ?_
    simp only [Act.put, List.setIfInBounds_toArray, List.set_cons_zero, List.set_cons_succ]
    refine wpList_run (v := .int .u8 ((p.getD i 0 ^^^ x).toNat : Int)) (wanted_none rfl) (b8_xor rfl rfl rfl) ?_
    simp only [Act.put, List.setIfInBounds_toArray, List.set_cons_zero, List.set_cons_succ]
    refine wpList_run (v := .pointer (some ⟨q, 0 + i * 1, none⟩)) (wanted_none rfl) (gx_aaddr_g (i := i) (sz := 1) rfl rfl rfl Tryz.underlying85 size_u8 HLT.out rfl) ?_
    simp only [Act.put, List.setIfInBounds_toArray, List.set_cons_zero, List.set_cons_succ]
    refine wpList_put (wanted_none rfl) 5 (.tmp 14) (.tmp 13) rfl (.int .u8 ((p.getD i 0 ^^^ x).toNat : Int)) (byteCells (Sh.mask (p.take (i + 1)) x ++ p.drop (i + 1))) HBQ.out rfl rfl (by rw [bc_size]; have := HLL.out; omega) rfl rfl size_u8 (by
      rw [Nat.zero_add, Nat.mul_one, bc_set, set_mid HLE.out _ (by intro e; have e1 := congrArg List.length e; have := HLT.out; rw [List.length_drop, HP.out] at e1; simp at e1; omega), List.tail_drop]
      congr 2
      rw [List.take_succ_eq_append_getElem (by rw [HP.out]; exact HLT.out), Sh.mask, Sh.mask, List.map_append, List.getD_eq_getElem?_getD, List.getElem?_eq_getElem (by rw [HP.out]; exact HLT.out)]
      rfl) ?_
    intro w4 hb4 ht4
    have HBQ4 := Lib.hid hb4
    have HNqr := Lib.hid (show r ≠ q from fun e => HNqr.out e.symm)
    have HBR4 := Lib.hid (HBR.out.turn (F := only q) ht4 fun e => HNqr.out e)
    have HTR4 := Lib.hid (HTR.out.trans ht4 fun k hk e => by have := HLq.out; have e : k = q := e; omega)
    clear hb4 ht4
    simp only [Act.put, List.setIfInBounds_toArray, List.set_cons_zero, List.set_cons_succ]
    go_upto_region 5 with fail
    refine wp_region_lit ?_
    refine wpList_run (v := .int .i64 ((i + 1 : Nat) : Int)) (wanted_none rfl) (ix_add rfl rfl rfl (by omega) (by omega)) ?_
    simp only [Act.put, List.setIfInBounds_toArray, List.set_cons_zero, List.set_cons_succ]
    refine wpList_run (v := .int .i64 ((i + 1 : Nat) : Int)) (wanted_none rfl) (exec_move rfl rfl) ?_
    simp only [Act.put, List.setIfInBounds_toArray, List.set_cons_zero, List.set_cons_succ]
    go_wp2_with fail
    go_roundg (64 - (i + 1))
    case measure => have := HGK.out; have := HLT.out; omega
    case rel => exact ⟨i + 1, rfl, by have := HLT.out; omega, HBQ4.out, HBR4.out, HTR4.out⟩
  · obtain rfl : i = 64 := by omega
    clear hlt
    have HBQZ := Lib.hid (show Blk wr q 85 (byteCells (Sh.mask p x)) from by have h := HBQ.out; rw [List.take_of_length_le (by rw [HP.out]; omega), List.drop_eq_nil_of_le (by rw [HP.out]; omega), List.append_nil] at h; exact h)
    clear HBQ
    go_upto_region 2 with fail
    refine wp_region_lit ?_
    refine wpList_run (v := .bool false) (wanted_none rfl) (ix_lss rfl rfl rfl (by decide)) ?_
    simp only [Act.put, List.setIfInBounds_toArray, List.set_cons_zero, List.set_cons_succ]
    go_upto_region 6 with fail
    refine wp_region_lit ?_
    refine wpList_run (v := .agg (byteCells (Sh.mask p x))) (wanted_none rfl) (gx_loads_g rfl rfl (blk_range_g HBQZ.out) Tryz.underlying85 rfl (size_pc.trans (congrArg some HM.out.symm))) ?_
    simp only [Act.put, List.setIfInBounds_toArray, List.set_cons_zero, List.set_cons_succ]
    refine wpList_store_row (wanted_none rfl) 85 (.tmp 4) (.tmp 16) rfl (byteCells (Sh.mask p x)) HBR.out rfl rfl (by rw [HM.out]; rfl) (by rw [size_pc, HM.out]) (bc_one _) ?_
    intro w4 hb_ ht_
    have HBZ := Lib.hid hb_
    have HT4 := Lib.hid ht_
    clear hb_ ht_
    simp only [Act.put, List.setIfInBounds_toArray, List.set_cons_zero, List.set_cons_succ]
    have HTZ := Lib.hid (HTR.out.trans HT4.out fun k hk e => by have := HLr.out; have e : k = r := e; omega)
    go_wp2_with fail
    refine bodyPost_ret (v := .agg (byteCells (Sh.mask p x))) (ret_cell1_g rfl _ _ r _ _ _ rfl HBZ.out Tryz.underlying85 rfl (by rw [size_pc, HM.out] <;> rfl)) rfl ?_
    exact ⟨rfl, HTZ.out⟩
end Go.Proofs.YtfnillibngijaaaGreatDoor
