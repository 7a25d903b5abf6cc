/-
  Ledgers, the reference: sums by two halves: the walks. No conditions.
-/
import Derived.Test.YthoefjaapjaeeaaLgJ
namespace Go.Proofs.Ythoefjaapjaeeaa
open Go.RowKit
open Lg (Ent)
set_option linter.unusedVariables false
set_option linter.unusedSimpArgs false
section
variable {a : Act} {o : Oper} {W : World} {x y : Operand} {i j : Int}
theorem ix_and32 (ho : o.op = .binOp .and 3 x (.const (.int .i64 4294967295)) 3) (hx : a.eval x = .int .i64 i) : (execOp a.eval o).run Try.prog W = .ok (.value (.int .i64 (i % 4294967296))) W := by
  unfold execOp
  simp only [ho, hx]
  go_simp
  simp only [bits]
  rw [BitVec.toNat_and, BitVec.toNat_ofInt, BitVec.toNat_ofInt]
  have e1 : ((4294967295 : Int) % ((2 ^ IntKind.i64.bits : Nat) : Int)).toNat = 2 ^ 32 - 1 := by decide
  rw [e1, Nat.and_two_pow_sub_one_eq_mod]
  have e2 : ((2 ^ IntKind.i64.bits : Nat) : Int) = 18446744073709551616 := by decide
  rw [e2, IntKind.wrap_i64]
  omega
theorem ix_shr32 {tu : TypeId} (ho : o.op = .binOp .shr 3 x (.const (.int .u64 32)) tu) (hx : a.eval x = .int .i64 i) : (execOp a.eval o).run Try.prog W = .ok (.value (.int .i64 (i / 4294967296))) W := by
  unfold execOp
  simp only [ho, hx]
  go_simp
theorem ix_shl32 {tu : TypeId} {r : Int} (ho : o.op = .binOp .shl 3 x (.const (.int .u64 32)) tu) (hx : a.eval x = .int .i64 i) (hr : i * 4294967296 = r) (hb : Mn.in64 r) : (execOp a.eval o).run Try.prog W = .ok (.value (.int .i64 r)) W := by
  subst hr
  have hw : IntKind.i64.wrap (i * 4294967296) = i * 4294967296 := by unfold Mn.in64 at hb; rw [IntKind.wrap_i64]; omega
  unfold execOp
  simp only [ho, hx]
  go_simp
  try exact hw
end
def hlA (h l : Int) : Array Value := #[.int .i64 h, .int .i64 l]
def wiA (z : Int) : Array Value := hlA (Lg.wiH z) (Lg.wiL z)
theorem hlA_one (h l : Int) : ∀ v ∈ (hlA h l).toList, v.oneCell' = true := fun v hv => by
  simp only [hlA, List.mem_cons, List.not_mem_nil, or_false] at hv
  rcases hv with rfl | rfl <;> rfl
theorem size_wi : (Try.prog.info? 71).map (·.size) = some 2 := by kernel_rfl
theorem zero_wi (w : World) : (zeroValue 71).run Try.prog w = .ok (.agg (hlA 0 0)) w := by kernel_rfl
theorem build_wi0 (W : World) : (Instr.build 71 #[]).run Try.prog W = .ok (.agg (wiA 0)) W := by kernel_rfl
theorem build_wi (h l : Int) (W : World) : (Instr.build 71 #[(0, .int .i64 h), (1, .int .i64 l)]).run Try.prog W = .ok (.agg (hlA h l)) W := by kernel_rfl
theorem box_wi (h l : Int) (w : World) : (Instr.box 71 (.agg (hlA h l))).run Try.prog w = .ok (.pointer (some ⟨w.heap.size, 0, none⟩)) (w.alloc (.cells (hlA h l) 71)) := by
  simp [Instr.box, newVar, newRow, Result.andThen, Value.cells]
theorem mid_h {z : Int} (h : Lg.Mid z) : -4611686018427387905 ≤ Lg.wiH z ∧ Lg.wiH z ≤ 4611686018427387904 ∧ 0 ≤ Lg.wiL z ∧ Lg.wiL z < 4294967296 := by
  unfold Lg.Mid Lg.wiH Lg.wiL at *; omega
theorem n_h {n : Int} (h : Mn.in64 n) : -2147483648 ≤ n / 4294967296 ∧ n / 4294967296 ≤ 2147483647 ∧ 0 ≤ n % 4294967296 ∧ n % 4294967296 < 4294967296 := by
  unfold Mn.in64 at *; omega
theorem even_wi (z n : Int) : hlA (Lg.wiH z + n / 4294967296 + (Lg.wiL z + n % 4294967296) / 4294967296) ((Lg.wiL z + n % 4294967296) % 4294967296) = wiA (z + n) := by
  unfold wiA Lg.wiH Lg.wiL
  congr 1 <;> omega
theorem even_same (z : Int) : hlA (Lg.wiH z + Lg.wiL z / 4294967296) (Lg.wiL z % 4294967296) = wiA z := by
  unfold wiA Lg.wiH Lg.wiL
  congr 1 <;> omega
theorem zero_add_wi (n : Int) : hlA (Lg.wiH 0 + n / 4294967296) (Lg.wiL 0 + n % 4294967296) = wiA n := by
  unfold wiA Lg.wiH Lg.wiL
  congr 1 <;> omega
set_option maxRecDepth 20000 in
theorem wadd_walk {h l n : Int} (w : World) (hh : -4611686018427387905 ≤ h ∧ h ≤ 4611686018427387904) (hl : 0 ≤ l ∧ l < 4294967296) (hn : Mn.in64 n) : Calls Try.prog 26 #[.agg (hlA h l), .int .i64 n] w fun e w' => e = .returned (.agg (hlA (h + n / 4294967296) (l + n % 4294967296))) ∧ Turn nowhere w w' := by
  have HH := Lib.hid hh
  have HL := Lib.hid hl
  have HN := Lib.hid (n_h hn)
  clear hh hl hn
  go_enter Try.func26, Try.ntmps26
  go_upto_region 0 with fail
  refine wp_region_lit ?_
  refine wpList_run (v := .pointer (some ⟨(w).heap.size, 0, none⟩)) (w' := (w).alloc (.cells (hlA h l) 71)) (wanted_none rfl) (gx_box rfl rfl (box_wi h l _)) ?_
  simp only [Act.put, List.setIfInBounds_toArray, List.set_cons_zero, List.set_cons_succ]
  refine wpList_run (v := .pointer (some ⟨((w).alloc (.cells (hlA h l) 71)).heap.size, 0, none⟩)) (w' := ((w).alloc (.cells (hlA h l) 71)).alloc (.cells (hlA 0 0) 71)) (wanted_none rfl) (gx_alloc rfl (zero_wi _)) ?_
  simp only [Act.put, List.setIfInBounds_toArray, List.set_cons_zero, List.set_cons_succ]
  have hb_b := (Blk.new (w) 71 (hlA h l)).alloc (.cells (hlA 0 0) 71)
  have hb_r := Blk.new ((w).alloc (.cells (hlA h l) 71)) 71 (hlA 0 0)
  have ht_ := ((Turn.refl nowhere (w)).alloc (.cells (hlA h l) 71)).alloc (.cells (hlA 0 0) 71)
  obtain ⟨n0_, hn0_⟩ : ∃ n, n = (w).heap.size := ⟨_, rfl⟩
  have hz_b : (w).heap.size = n0_ + 0 := by rw [hn0_]; simp
  have hz_r : ((w).alloc (.cells (hlA h l) 71)).heap.size = n0_ + 1 := by rw [hn0_]; simp
  obtain ⟨r, hg_⟩ : ∃ g, g = ((w).alloc (.cells (hlA h l) 71)).heap.size := ⟨_, rfl⟩
  rw [← hg_] at hb_r hz_r ⊢
  clear hg_
  obtain ⟨b, hg_⟩ : ∃ g, g = (w).heap.size := ⟨_, rfl⟩
  rw [← hg_] at hb_b hz_b ⊢
  clear hg_
  generalize ((w).alloc (.cells (hlA h l) 71)).alloc (.cells (hlA 0 0) 71) = w1 at *
  have HT1 := Lib.hid ht_
  clear ht_
  have HBb := Lib.hid hb_b
  have HLb := Lib.hid (show (w).heap.size ≤ b from by omega)
  clear hb_b
  have HBr := Lib.hid hb_r
  have HLr := Lib.hid (show (w).heap.size ≤ r from by omega)
  clear hb_r
  have HNbr := Lib.hid (show b ≠ r from by omega)
  clear hn0_ hz_b hz_r
  clear n0_
  go_upto_region 1 with fail
  refine wp_region_lit ?_
  refine wpList_run (v := .pointer (some ⟨b, 0, none⟩)) (wanted_none rfl) (exec_field (off := 0) (d := 0) rfl rfl (by kernel_rfl)) ?_
  simp only [Act.put, List.setIfInBounds_toArray, List.set_cons_zero, List.set_cons_succ]
  refine wpList_run (v := .int .i64 h) (wanted_none rfl) (exec_load1 rfl rfl (by kernel_rfl) (HBb.out.cell 0)) ?_
  simp only [Act.put, List.setIfInBounds_toArray, List.set_cons_zero, List.set_cons_succ]
  refine wpList_run (v := .int .i64 n) (wanted_none rfl) (exec_move rfl rfl) ?_
  simp only [Act.put, List.setIfInBounds_toArray, List.set_cons_zero, List.set_cons_succ]
  refine wpList_run (v := .int .i64 (n / 4294967296)) (wanted_none rfl) (ix_shr32 rfl rfl) ?_
  simp only [Act.put, List.setIfInBounds_toArray, List.set_cons_zero, List.set_cons_succ]
  refine wpList_run (v := .int .i64 (h + n / 4294967296)) (wanted_none rfl) (ix_add rfl rfl rfl rfl (by have := HH.out; have := HN.out; omega)) ?_
  simp only [Act.put, List.setIfInBounds_toArray, List.set_cons_zero, List.set_cons_succ]
  refine wpList_run (v := .pointer (some ⟨b, 1, none⟩)) (wanted_none rfl) (exec_field (off := 0) (d := 1) rfl rfl (by kernel_rfl)) ?_
  simp only [Act.put, List.setIfInBounds_toArray, List.set_cons_zero, List.set_cons_succ]
  refine wpList_run (v := .int .i64 l) (wanted_none rfl) (exec_load1 rfl rfl (by kernel_rfl) (HBb.out.cell 1)) ?_
  simp only [Act.put, List.setIfInBounds_toArray, List.set_cons_zero, List.set_cons_succ]
  refine wpList_run (v := .int .i64 n) (wanted_none rfl) (exec_move rfl rfl) ?_
  simp only [Act.put, List.setIfInBounds_toArray, List.set_cons_zero, List.set_cons_succ]
  refine wpList_run (v := .int .i64 (n % 4294967296)) (wanted_none rfl) (ix_and32 rfl rfl) ?_
  simp only [Act.put, List.setIfInBounds_toArray, List.set_cons_zero, List.set_cons_succ]
  refine wpList_run (v := .int .i64 (l + n % 4294967296)) (wanted_none rfl) (ix_add rfl rfl rfl rfl (by have := HL.out; have := HN.out; omega)) ?_
  simp only [Act.put, List.setIfInBounds_toArray, List.set_cons_zero, List.set_cons_succ]
  refine wpList_run (v := .agg (hlA (h + n / 4294967296) (l + n % 4294967296))) (wanted_none rfl) (gx_build2 rfl rfl rfl (build_wi _ _ _)) ?_
  simp only [Act.put, List.setIfInBounds_toArray, List.set_cons_zero, List.set_cons_succ]
  refine wpList_store_row (wanted_none rfl) 71 (.tmp 4) (.tmp 15) rfl (hlA (h + n / 4294967296) (l + n % 4294967296)) HBr.out rfl rfl (rfl) (by rw [size_wi] <;> rfl) (hlA_one _ _) ?_
  intro w2 hb_ ht_
  have HB2 := Lib.hid hb_
  have HT2 := Lib.hid ht_
  clear hb_ ht_
  simp only [Act.put, List.setIfInBounds_toArray, List.set_cons_zero, List.set_cons_succ]
  go_wp2_with fail
  refine bodyPost_ret (v := .agg (hlA (h + n / 4294967296) (l + n % 4294967296))) (ret_cell1 rfl _ _ r _ _ _ rfl HB2.out Try.underlying71 rfl (by rw [size_wi] <;> rfl)) rfl ?_
  exact ⟨rfl, HT1.out.trans HT2.out fun k hk e => by have := HLr.out; have e : k = r := e; omega⟩
set_option maxRecDepth 20000 in
theorem weven_walk {h l : Int} (w : World) (hh : -4611686020574871553 ≤ h ∧ h ≤ 4611686020574871552) (hl : 0 ≤ l ∧ l < 8589934592) : Calls Try.prog 27 #[.agg (hlA h l)] w fun e w' => e = .returned (.agg (hlA (h + l / 4294967296) (l % 4294967296))) ∧ Turn nowhere w w' := by
  have HH := Lib.hid hh
  have HL := Lib.hid hl
  clear hh hl
  go_enter Try.func27, Try.ntmps27
  go_upto_region 0 with fail
  refine wp_region_lit ?_
  refine wpList_run (v := .pointer (some ⟨(w).heap.size, 0, none⟩)) (w' := (w).alloc (.cells (hlA h l) 71)) (wanted_none rfl) (gx_box rfl rfl (box_wi h l _)) ?_
  simp only [Act.put, List.setIfInBounds_toArray, List.set_cons_zero, List.set_cons_succ]
  refine wpList_run (v := .pointer (some ⟨((w).alloc (.cells (hlA h l) 71)).heap.size, 0, none⟩)) (w' := ((w).alloc (.cells (hlA h l) 71)).alloc (.cells (hlA 0 0) 71)) (wanted_none rfl) (gx_alloc rfl (zero_wi _)) ?_
  simp only [Act.put, List.setIfInBounds_toArray, List.set_cons_zero, List.set_cons_succ]
  have hb_b := (Blk.new (w) 71 (hlA h l)).alloc (.cells (hlA 0 0) 71)
  have hb_r := Blk.new ((w).alloc (.cells (hlA h l) 71)) 71 (hlA 0 0)
  have ht_ := ((Turn.refl nowhere (w)).alloc (.cells (hlA h l) 71)).alloc (.cells (hlA 0 0) 71)
  obtain ⟨n0_, hn0_⟩ : ∃ n, n = (w).heap.size := ⟨_, rfl⟩
  have hz_b : (w).heap.size = n0_ + 0 := by rw [hn0_]; simp
  have hz_r : ((w).alloc (.cells (hlA h l) 71)).heap.size = n0_ + 1 := by rw [hn0_]; simp
  obtain ⟨r, hg_⟩ : ∃ g, g = ((w).alloc (.cells (hlA h l) 71)).heap.size := ⟨_, rfl⟩
  rw [← hg_] at hb_r hz_r ⊢
  clear hg_
  obtain ⟨b, hg_⟩ : ∃ g, g = (w).heap.size := ⟨_, rfl⟩
  rw [← hg_] at hb_b hz_b ⊢
  clear hg_
  generalize ((w).alloc (.cells (hlA h l) 71)).alloc (.cells (hlA 0 0) 71) = w1 at *
  have HT1 := Lib.hid ht_
  clear ht_
  have HBb := Lib.hid hb_b
  have HLb := Lib.hid (show (w).heap.size ≤ b from by omega)
  clear hb_b
  have HBr := Lib.hid hb_r
  have HLr := Lib.hid (show (w).heap.size ≤ r from by omega)
  clear hb_r
  have HNbr := Lib.hid (show b ≠ r from by omega)
  clear hn0_ hz_b hz_r
  clear n0_
  go_upto_region 1 with fail
  refine wp_region_lit ?_
  refine wpList_run (v := .pointer (some ⟨b, 0, none⟩)) (wanted_none rfl) (exec_field (off := 0) (d := 0) rfl rfl (by kernel_rfl)) ?_
  simp only [Act.put, List.setIfInBounds_toArray, List.set_cons_zero, List.set_cons_succ]
  refine wpList_run (v := .int .i64 h) (wanted_none rfl) (exec_load1 rfl rfl (by kernel_rfl) (HBb.out.cell 0)) ?_
  simp only [Act.put, List.setIfInBounds_toArray, List.set_cons_zero, List.set_cons_succ]
  refine wpList_run (v := .pointer (some ⟨b, 1, none⟩)) (wanted_none rfl) (exec_field (off := 0) (d := 1) rfl rfl (by kernel_rfl)) ?_
  simp only [Act.put, List.setIfInBounds_toArray, List.set_cons_zero, List.set_cons_succ]
  refine wpList_run (v := .int .i64 l) (wanted_none rfl) (exec_load1 rfl rfl (by kernel_rfl) (HBb.out.cell 1)) ?_
  simp only [Act.put, List.setIfInBounds_toArray, List.set_cons_zero, List.set_cons_succ]
  refine wpList_run (v := .int .i64 (l / 4294967296)) (wanted_none rfl) (ix_shr32 rfl rfl) ?_
  simp only [Act.put, List.setIfInBounds_toArray, List.set_cons_zero, List.set_cons_succ]
  refine wpList_run (v := .int .i64 (h + l / 4294967296)) (wanted_none rfl) (ix_add rfl rfl rfl rfl (by have := HH.out; have := HL.out; omega)) ?_
  simp only [Act.put, List.setIfInBounds_toArray, List.set_cons_zero, List.set_cons_succ]
  refine wpList_run (v := .pointer (some ⟨b, 1, none⟩)) (wanted_none rfl) (exec_field (off := 0) (d := 1) rfl rfl (by kernel_rfl)) ?_
  simp only [Act.put, List.setIfInBounds_toArray, List.set_cons_zero, List.set_cons_succ]
  refine wpList_run (v := .int .i64 l) (wanted_none rfl) (exec_load1 rfl rfl (by kernel_rfl) (HBb.out.cell 1)) ?_
  simp only [Act.put, List.setIfInBounds_toArray, List.set_cons_zero, List.set_cons_succ]
  refine wpList_run (v := .int .i64 (l % 4294967296)) (wanted_none rfl) (ix_and32 rfl rfl) ?_
  simp only [Act.put, List.setIfInBounds_toArray, List.set_cons_zero, List.set_cons_succ]
  refine wpList_run (v := .agg (hlA (h + l / 4294967296) (l % 4294967296))) (wanted_none rfl) (gx_build2 rfl rfl rfl (build_wi _ _ _)) ?_
  simp only [Act.put, List.setIfInBounds_toArray, List.set_cons_zero, List.set_cons_succ]
  refine wpList_store_row (wanted_none rfl) 71 (.tmp 2) (.tmp 12) rfl (hlA (h + l / 4294967296) (l % 4294967296)) HBr.out rfl rfl (rfl) (by rw [size_wi] <;> rfl) (hlA_one _ _) ?_
  intro w2 hb_ ht_
  have HB2 := Lib.hid hb_
  have HT2 := Lib.hid ht_
  clear hb_ ht_
  simp only [Act.put, List.setIfInBounds_toArray, List.set_cons_zero, List.set_cons_succ]
  go_wp2_with fail
  refine bodyPost_ret (v := .agg (hlA (h + l / 4294967296) (l % 4294967296))) (ret_cell1 rfl _ _ r _ _ _ rfl HB2.out Try.underlying71 rfl (by rw [size_wi] <;> rfl)) rfl ?_
  exact ⟨rfl, HT1.out.trans HT2.out fun k hk e => by have := HLr.out; have e : k = r := e; omega⟩
def fitV (z : Int) : Int := if Mn.in64 z then z else 0
theorem wfit_iff {z : Int} (h : Lg.Mid z) : Mn.in64 z ↔ (-2147483648 ≤ Lg.wiH z ∧ Lg.wiH z ≤ 2147483647) := by
  unfold Lg.Mid Lg.wiH Mn.in64 at *; omega
theorem wfit_val (z : Int) : Lg.wiH z * 4294967296 + Lg.wiL z = z := by unfold Lg.wiH Lg.wiL; omega
set_option maxRecDepth 20000 in
set_option maxHeartbeats 4000000 in
theorem wfits_walk {z : Int} (w : World) (hz : Lg.Mid z) : Calls Try.prog 28 #[.agg (wiA z)] w fun e w' => e = .returned (.tuple #[.int .i64 (fitV z), .bool (decide (Mn.in64 z))]) ∧ Turn nowhere w w' := by
  have HM := Lib.hid (mid_h hz)
  have HI := Lib.hid (wfit_iff hz)
  clear hz
  go_enter Try.func28, Try.ntmps28
  go_upto_region 0 with fail
  refine wp_region_lit ?_
  refine wpList_run (v := .pointer (some ⟨(w).heap.size, 0, none⟩)) (w' := (w).alloc (.cells (wiA z) 71)) (wanted_none rfl) (gx_box rfl rfl (box_wi (Lg.wiH z) (Lg.wiL z) _)) ?_
  simp only [Act.put, List.setIfInBounds_toArray, List.set_cons_zero, List.set_cons_succ]
  refine wpList_run (v := .int .i64 0) (wanted_none rfl) (gx_assign rfl rfl) ?_
  simp only [Act.put, List.setIfInBounds_toArray, List.set_cons_zero, List.set_cons_succ]
  refine wpList_run (v := .bool false) (wanted_none rfl) (gx_assign rfl rfl) ?_
  simp only [Act.put, List.setIfInBounds_toArray, List.set_cons_zero, List.set_cons_succ]
  have hb_b := Blk.new (w) 71 (wiA z)
  have ht_ := (Turn.refl nowhere (w)).alloc (.cells (wiA z) 71)
  obtain ⟨n0_, hn0_⟩ : ∃ n, n = (w).heap.size := ⟨_, rfl⟩
  have hz_b : (w).heap.size = n0_ + 0 := by rw [hn0_]; simp
  obtain ⟨b, hg_⟩ : ∃ g, g = (w).heap.size := ⟨_, rfl⟩
  rw [← hg_] at hb_b hz_b ⊢
  clear hg_
  generalize (w).alloc (.cells (wiA z) 71) = w1 at *
  have HT1 := Lib.hid ht_
  clear ht_
  have HBb := Lib.hid hb_b
  have HLb := Lib.hid (show (w).heap.size ≤ b from by omega)
  clear hb_b
  clear hn0_ hz_b
  clear n0_
  go_upto_region 1 with fail
  refine wp_region_lit ?_
  refine wpList_run (v := .agg (wiA z)) (wanted_none rfl) (gx_loads rfl rfl (blk_range HBb.out) Try.underlying71 rfl (by rw [size_wi]; rfl)) ?_
  simp only [Act.put, List.setIfInBounds_toArray, List.set_cons_zero, List.set_cons_succ]
  refine wpList_op rfl fun K9 HK9 => ?_
  go_wp2_with fail
  refine (weven_walk (h := Lg.wiH z) (l := Lg.wiL z) w1 (by have := HM.out; omega) (by have := HM.out; omega)).mono ?_
  rintro e w2 ⟨rfl, ht⟩
  refine HK9.out _ _ ?_
  clear HK9
  try simp only [Act.put, List.setIfInBounds_toArray, List.set_cons_zero, List.set_cons_succ]
  rw [even_same]
  have HBb2 := Lib.hid (HBb.out.turn ht fun e => e)
  have HT2 := Lib.hid (HT1.out.trans ht fun _ _ e => e)
  clear ht
  refine wpList_store_row (wanted_none rfl) 71 (.tmp 1) (.tmp 5) rfl (wiA z) HBb2.out rfl rfl (rfl) (by rw [size_wi] <;> rfl) (hlA_one _ _) ?_
  intro w3 hb_ ht_
  have HBb3 := Lib.hid hb_
  have HT3 := Lib.hid ht_
  clear hb_ ht_
  simp only [Act.put, List.setIfInBounds_toArray, List.set_cons_zero, List.set_cons_succ]
  have HT3w := Lib.hid (HT2.out.trans HT3.out fun k hk e => by have := HLb.out; have e : k = b := e; omega)
  clear HT3 HBb HBb2
  obtain ⟨h, hh⟩ : ∃ h, h = Lg.wiH z := ⟨_, rfl⟩
  have HH := Lib.hid hh
  have HI := Lib.hid (show Mn.in64 z ↔ (-2147483648 ≤ h ∧ h ≤ 2147483647) from by rw [hh]; exact HI.out)
  have HC0 := Lib.hid (show w3.cell? ⟨b, 0, none⟩ = some (.int .i64 h) from by rw [hh]; exact HBb3.out.cell 0)
  have HC1 := Lib.hid (show w3.cell? ⟨b, 1, none⟩ = some (.int .i64 (Lg.wiL z)) from HBb3.out.cell 1)
  clear hh
  rcases (by omega : h < -2147483648 ∨ 2147483647 < h ∨ (-2147483648 ≤ h ∧ h ≤ 2147483647)) with h1 | h1 | h1
  · have HNO := Lib.hid (show ¬ Mn.in64 z from fun e => by have := HI.out.1 e; omega)
    have H1 := Lib.hid h1
    clear h1
    go_upto_region 2 with fail
    first
    | (rename_i K9 hK9; have HKC := Lib.hid hK9; clear hK9)
    | (rename_i K9 hK9 K8; have HKC := Lib.hid hK9; clear hK9)
    refine wp_region_lit ?_
    refine wpList_run (v := .pointer (some ⟨b, 0, none⟩)) (wanted_none rfl) (exec_field (off := 0) (d := 0) rfl rfl (by kernel_rfl)) ?_
    simp only [Act.put, List.setIfInBounds_toArray, List.set_cons_zero, List.set_cons_succ]
    refine wpList_run (v := .int .i64 h) (wanted_none rfl) (exec_load1 rfl rfl (by kernel_rfl) HC0.out) ?_
    simp only [Act.put, List.setIfInBounds_toArray, List.set_cons_zero, List.set_cons_succ]
    refine wpList_run (v := .bool true) (wanted_none rfl) (ix_lss rfl rfl rfl (decide_eq_true H1.out)) ?_
    simp only [Act.put, List.setIfInBounds_toArray, List.set_cons_zero, List.set_cons_succ]
    refine wpList_run (v := .bool true) (wanted_none rfl) (exec_move rfl rfl) ?_
    simp only [Act.put, List.setIfInBounds_toArray, List.set_cons_zero, List.set_cons_succ]
    go_wp2_with fail
    refine HKC.out _ _ ?_
    clear HKC
    go_upto_region 3 with fail
    refine wp_region_lit ?_
    refine wpList_run (v := .int .i64 0) (wanted_none rfl) (gx_assign rfl rfl) ?_
    simp only [Act.put, List.setIfInBounds_toArray, List.set_cons_zero, List.set_cons_succ]
    refine wpList_run (v := .bool false) (wanted_none rfl) (gx_assign rfl rfl) ?_
    simp only [Act.put, List.setIfInBounds_toArray, List.set_cons_zero, List.set_cons_succ]
    go_wp2_with fail
    go_ret2
    rw [show fitV z = 0 from if_neg HNO.out, decide_eq_false HNO.out]
    exact ⟨rfl, HT3w.out⟩
  · have HNO := Lib.hid (show ¬ Mn.in64 z from fun e => by have := HI.out.1 e; omega)
    have H1 := Lib.hid h1
    clear h1
    go_upto_region 2 with fail
    refine wp_region_lit ?_
    refine wpList_run (v := .pointer (some ⟨b, 0, none⟩)) (wanted_none rfl) (exec_field (off := 0) (d := 0) rfl rfl (by kernel_rfl)) ?_
    simp only [Act.put, List.setIfInBounds_toArray, List.set_cons_zero, List.set_cons_succ]
    refine wpList_run (v := .int .i64 h) (wanted_none rfl) (exec_load1 rfl rfl (by kernel_rfl) HC0.out) ?_
    simp only [Act.put, List.setIfInBounds_toArray, List.set_cons_zero, List.set_cons_succ]
    refine wpList_run (v := .bool false) (wanted_none rfl) (ix_lss rfl rfl rfl (decide_eq_false (by have := H1.out; omega))) ?_
    simp only [Act.put, List.setIfInBounds_toArray, List.set_cons_zero, List.set_cons_succ]
    refine wpList_run (v := .bool false) (wanted_none rfl) (exec_move rfl rfl) ?_
    simp only [Act.put, List.setIfInBounds_toArray, List.set_cons_zero, List.set_cons_succ]
    refine wpList_run (v := .pointer (some ⟨b, 0, none⟩)) rfl (exec_field (off := 0) (d := 0) rfl rfl (by kernel_rfl)) ?_
    simp only [Act.put, List.setIfInBounds_toArray, List.set_cons_zero, List.set_cons_succ]
    refine wpList_run (v := .int .i64 h) rfl (exec_load1 rfl rfl (by kernel_rfl) HC0.out) ?_
    simp only [Act.put, List.setIfInBounds_toArray, List.set_cons_zero, List.set_cons_succ]
    refine wpList_run (v := .bool true) rfl (ix_gtr rfl rfl rfl (decide_eq_true H1.out)) ?_
    simp only [Act.put, List.setIfInBounds_toArray, List.set_cons_zero, List.set_cons_succ]
    refine wpList_run (v := .bool true) (wanted_none rfl) (ix_pickF rfl rfl rfl) ?_
    simp only [Act.put, List.setIfInBounds_toArray, List.set_cons_zero, List.set_cons_succ]
    go_upto_region 3 with fail
    refine wp_region_lit ?_
    refine wpList_run (v := .int .i64 0) (wanted_none rfl) (gx_assign rfl rfl) ?_
    simp only [Act.put, List.setIfInBounds_toArray, List.set_cons_zero, List.set_cons_succ]
    refine wpList_run (v := .bool false) (wanted_none rfl) (gx_assign rfl rfl) ?_
    simp only [Act.put, List.setIfInBounds_toArray, List.set_cons_zero, List.set_cons_succ]
    go_wp2_with fail
    go_ret2
    rw [show fitV z = 0 from if_neg HNO.out, decide_eq_false HNO.out]
    exact ⟨rfl, HT3w.out⟩
  · have HY := Lib.hid (HI.out.2 h1)
    have H1 := Lib.hid h1
    clear h1
    go_upto_region 2 with fail
    refine wp_region_lit ?_
    refine wpList_run (v := .pointer (some ⟨b, 0, none⟩)) (wanted_none rfl) (exec_field (off := 0) (d := 0) rfl rfl (by kernel_rfl)) ?_
    simp only [Act.put, List.setIfInBounds_toArray, List.set_cons_zero, List.set_cons_succ]
    refine wpList_run (v := .int .i64 h) (wanted_none rfl) (exec_load1 rfl rfl (by kernel_rfl) HC0.out) ?_
    simp only [Act.put, List.setIfInBounds_toArray, List.set_cons_zero, List.set_cons_succ]
    refine wpList_run (v := .bool false) (wanted_none rfl) (ix_lss rfl rfl rfl (decide_eq_false (by have := H1.out; omega))) ?_
    simp only [Act.put, List.setIfInBounds_toArray, List.set_cons_zero, List.set_cons_succ]
    refine wpList_run (v := .bool false) (wanted_none rfl) (exec_move rfl rfl) ?_
    simp only [Act.put, List.setIfInBounds_toArray, List.set_cons_zero, List.set_cons_succ]
    refine wpList_run (v := .pointer (some ⟨b, 0, none⟩)) rfl (exec_field (off := 0) (d := 0) rfl rfl (by kernel_rfl)) ?_
    simp only [Act.put, List.setIfInBounds_toArray, List.set_cons_zero, List.set_cons_succ]
    refine wpList_run (v := .int .i64 h) rfl (exec_load1 rfl rfl (by kernel_rfl) HC0.out) ?_
    simp only [Act.put, List.setIfInBounds_toArray, List.set_cons_zero, List.set_cons_succ]
    refine wpList_run (v := .bool false) rfl (ix_gtr rfl rfl rfl (decide_eq_false (by have := H1.out; omega))) ?_
    simp only [Act.put, List.setIfInBounds_toArray, List.set_cons_zero, List.set_cons_succ]
    refine wpList_run (v := .bool false) (wanted_none rfl) (ix_pickF rfl rfl rfl) ?_
    simp only [Act.put, List.setIfInBounds_toArray, List.set_cons_zero, List.set_cons_succ]
    go_upto_region 4 with fail
    refine wp_region_lit ?_
    refine wpList_run (v := .pointer (some ⟨b, 0, none⟩)) (wanted_none rfl) (exec_field (off := 0) (d := 0) rfl rfl (by kernel_rfl)) ?_
    simp only [Act.put, List.setIfInBounds_toArray, List.set_cons_zero, List.set_cons_succ]
    refine wpList_run (v := .int .i64 h) (wanted_none rfl) (exec_load1 rfl rfl (by kernel_rfl) HC0.out) ?_
    simp only [Act.put, List.setIfInBounds_toArray, List.set_cons_zero, List.set_cons_succ]
    refine wpList_run (v := .int .i64 (h * 4294967296)) (wanted_none rfl) (ix_shl32 rfl rfl rfl (by have := H1.out; unfold Mn.in64; omega)) ?_
    simp only [Act.put, List.setIfInBounds_toArray, List.set_cons_zero, List.set_cons_succ]
    refine wpList_run (v := .pointer (some ⟨b, 1, none⟩)) (wanted_none rfl) (exec_field (off := 0) (d := 1) rfl rfl (by kernel_rfl)) ?_
    simp only [Act.put, List.setIfInBounds_toArray, List.set_cons_zero, List.set_cons_succ]
    refine wpList_run (v := .int .i64 (Lg.wiL z)) (wanted_none rfl) (exec_load1 rfl rfl (by kernel_rfl) HC1.out) ?_
    simp only [Act.put, List.setIfInBounds_toArray, List.set_cons_zero, List.set_cons_succ]
    refine wpList_run (v := .int .i64 z) (wanted_none rfl) (ix_add rfl rfl rfl (by rw [HH.out]; exact wfit_val z) HY.out) ?_
    simp only [Act.put, List.setIfInBounds_toArray, List.set_cons_zero, List.set_cons_succ]
    refine wpList_run (v := .int .i64 z) (wanted_none rfl) (gx_assign rfl rfl) ?_
    simp only [Act.put, List.setIfInBounds_toArray, List.set_cons_zero, List.set_cons_succ]
    refine wpList_run (v := .bool true) (wanted_none rfl) (gx_assign rfl rfl) ?_
    simp only [Act.put, List.setIfInBounds_toArray, List.set_cons_zero, List.set_cons_succ]
    go_wp2_with fail
    go_ret2
    rw [show fitV z = z from if_pos HY.out, decide_eq_true HY.out]
    exact ⟨rfl, HT3w.out⟩
end Go.Proofs.Ythoefjaapjaeeaa
