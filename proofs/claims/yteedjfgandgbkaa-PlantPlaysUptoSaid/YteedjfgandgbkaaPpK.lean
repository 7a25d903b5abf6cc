/-
  PlantPlays: sector: the walk. No conditions.
-/
import Derived.Test.YteedjfgandgbkaaPpJ
import Derived.Test.YteedjfgandgbkaaJa0
namespace Go.Proofs.Yteedjfgandgbkaa
open Go.RowKit Go.Maps
set_option linter.unusedVariables false
set_option linter.unusedSimpArgs false
/-- a number as a byte -/
def u8z (z : Int) : UInt8 := UInt8.ofNat (z % 256).toNat
theorem ix_z2b {a : Act} {o : Oper} {W : World} {x : Operand} {z : Int} (ho : o.op = .convert 3 5 x) (hx : a.eval x = .int .i64 z) : (execOp a.eval o).run Try.prog W = .ok (.value (.int .u8 ((u8z z).toNat : Int))) W := by
  unfold execOp u8z
  simp only [ho, hx]
  go_simp
  simp [IntKind.wrap, IntKind.bits, IntKind.signed]
  omega
theorem bcs_setJ (l : List UInt8) (i : Nat) (c : UInt8) : (bcs l).toArray.setIfInBounds i (.int .u8 (c.toNat : Int)) = (bcs (l.set i c)).toArray := by
  unfold bcs
  apply Array.ext'
  simp [List.map_set]
/-- what sector makes -/
def secO (c : UInt8) (place n : Int) : Sec := ⟨((fullS c).1.set 0 (u8z place)).set 40 (u8z n), by rw [List.length_set, List.length_set]; exact (fullS c).2⟩
/-- a call, in memory -/
def opC (kind dev place n : Int) (c : UInt8) (A : Option Addr) (m cp : Nat) : Array Value := #[.int .i64 kind, .int .i64 dev, .int .i64 place, .int .i64 n, .int .u8 (c.toNat : Int), .slice A m cp]
theorem boxO (kind dev place n : Int) (c : UInt8) (A : Option Addr) (m cp : Nat) (w : World) : (Instr.box 35 (.agg (opC kind dev place n c A m cp))).run Try.prog w = .ok (.pointer (some ⟨w.heap.size, 0, none⟩)) (w.alloc (.cells (opC kind dev place n c A m cp) 35)) := by
  simp [opC, Instr.box, newVar, newRow, Result.andThen, Value.cells]
set_option maxRecDepth 20000 in
set_option maxHeartbeats 4000000 in
theorem sector_walk (kind dev place n : Int) (c : UInt8) (A : Option Addr) (m cp : Nat) (w : World) :
    Calls Try.prog 9 #[.agg (opC kind dev place n c A m cp)] w fun e w' => ∃ g, e = .returned (.slice (some ⟨g, 0, none⟩) 64 64) ∧ w.heap.size ≤ g ∧ Blk w' g 5 (bcs (secO c place n).1).toArray ∧ Turn nowhere w w' := by
  go_enter Try.func9, Try.ntmps9
  have hb := Blk.new w 35 (opC kind dev place n c A m cp)
  have ht := (Turn.refl nowhere w).alloc (.cells (opC kind dev place n c A m cp) 35)
  have hbx := boxO kind dev place n c A m cp w
  obtain ⟨q, hq⟩ : ∃ y, y = w.heap.size := ⟨_, rfl⟩
  rw [← hq] at hb hbx
  generalize w.alloc (.cells (opC kind dev place n c A m cp) 35) = w1 at *
  go_upto_region 0 with fail
  refine wp_region_lit ?_
  refine wpList_run (v := .pointer (some ⟨q, 0, none⟩)) (w' := w1) (wanted_none rfl) (gx_box rfl rfl hbx) ?_
  simp only [Act.put, List.setIfInBounds_toArray, List.set_cons_zero, List.set_cons_succ]
  have HB := Lib.hid hb
  have HT := Lib.hid ht
  have HF := Lib.hid (full_walk c w1)
  clear hb ht hbx
  refine wpList_run (v := .slice none 0 0) (wanted_none rfl) (gx_assign rfl rfl) ?_
  simp only [Act.put, List.setIfInBounds_toArray, List.set_cons_zero, List.set_cons_succ]
  go_upto_region 1 with fail
  refine wp_region_lit ?_
  refine wpList_run (v := .pointer (some ⟨q, 4, none⟩)) (wanted_none rfl) (exec_field (off := 0) (d := 4) rfl rfl (by kernel_rfl)) ?_
  simp only [Act.put, List.setIfInBounds_toArray, List.set_cons_zero, List.set_cons_succ]
  refine wpList_run (v := .int .u8 (c.toNat : Int)) (wanted_none rfl) (exec_load1 rfl rfl (by kernel_rfl) (HB.out.cell 4)) ?_
  simp only [Act.put, List.setIfInBounds_toArray, List.set_cons_zero, List.set_cons_succ]
  refine wpList_op rfl fun K9 HK9 => ?_
  go_wp2_with fail
  refine (HF.out).mono ?_
  rintro e w2 ⟨g, rfl, hge, hbg, ht⟩
  refine HK9.out _ _ ?_
  clear HK9
  try simp only [Act.put, List.setIfInBounds_toArray, List.set_cons_zero, List.set_cons_succ]
  have HBG := Lib.hid hbg
  have HB2 := Lib.hid (HB.out.turn ht fun e => e)
  have HT2 := Lib.hid (HT.out.trans ht fun _ _ e => e)
  have HGE := Lib.hid (show w.heap.size ≤ g from Nat.le_trans HT.out.size hge)
  have HGQ := Lib.hid (show g ≠ q from by have := HB.out.lt; omega)
  clear hbg ht hge HF
  refine wpList_run (v := .slice (some ⟨g, 0, none⟩) 64 64) (wanted_none rfl) (gx_assign rfl rfl) ?_
  simp only [Act.put, List.setIfInBounds_toArray, List.set_cons_zero, List.set_cons_succ]
  go_upto_region 2 with fail
  refine wp_region_lit ?_
  refine wpList_run (v := .slice (some ⟨g, 0, none⟩) 64 64) (wanted_none rfl) (exec_move rfl rfl) ?_
  simp only [Act.put, List.setIfInBounds_toArray, List.set_cons_zero, List.set_cons_succ]
  refine wpList_run (v := .pointer (some ⟨q, 2, none⟩)) (wanted_none rfl) (exec_field (off := 0) (d := 2) rfl rfl (by kernel_rfl)) ?_
  simp only [Act.put, List.setIfInBounds_toArray, List.set_cons_zero, List.set_cons_succ]
  refine wpList_run (v := .int .i64 place) (wanted_none rfl) (exec_load1 rfl rfl (by kernel_rfl) (HB2.out.cell 2)) ?_
  simp only [Act.put, List.setIfInBounds_toArray, List.set_cons_zero, List.set_cons_succ]
  refine wpList_run (v := .int .u8 ((u8z place).toNat : Int)) (wanted_none rfl) (ix_z2b rfl rfl) ?_
  simp only [Act.put, List.setIfInBounds_toArray, List.set_cons_zero, List.set_cons_succ]
  refine wpList_run (v := .pointer (some ⟨g, 0, none⟩)) (wanted_none rfl) (gx_iaddr (i := 0) (sz := 1) rfl rfl rfl Try.underlying36 (by kernel_rfl) (by decide) rfl) ?_
  simp only [Act.put, List.setIfInBounds_toArray, List.set_cons_zero, List.set_cons_succ]
  refine wpList_storeU 0 (.int .u8 ((u8z place).toNat : Int)) (wanted_none rfl) 5 _ _ rfl HBG.out rfl rfl (by rw [List.size_toArray, bcs_length]; rw [(fullS c).2]; decide) ⟨rfl, rfl⟩ (by kernel_rfl) ?_
  intro w3 hb ht
  simp only [Act.put, List.setIfInBounds_toArray, List.set_cons_zero, List.set_cons_succ]
  rw [bcs_setJ] at hb
  have HBG3 := Lib.hid hb
  have HQ3 := Lib.hid (HB2.out.turn ht fun e => HGQ.out (show q = g from e).symm)
  have HT3 := Lib.hid (HT2.out.trans ht fun b hb e => by have h1 : b = g := e; have := HGE.out; omega)
  clear hb ht
  go_upto_region 3 with fail
  refine wp_region_lit ?_
  refine wpList_run (v := .slice (some ⟨g, 0, none⟩) 64 64) (wanted_none rfl) (exec_move rfl rfl) ?_
  simp only [Act.put, List.setIfInBounds_toArray, List.set_cons_zero, List.set_cons_succ]
  refine wpList_run (v := .pointer (some ⟨q, 3, none⟩)) (wanted_none rfl) (exec_field (off := 0) (d := 3) rfl rfl (by kernel_rfl)) ?_
  simp only [Act.put, List.setIfInBounds_toArray, List.set_cons_zero, List.set_cons_succ]
  refine wpList_run (v := .int .i64 n) (wanted_none rfl) (exec_load1 rfl rfl (by kernel_rfl) (HQ3.out.cell 3)) ?_
  simp only [Act.put, List.setIfInBounds_toArray, List.set_cons_zero, List.set_cons_succ]
  refine wpList_run (v := .int .u8 ((u8z n).toNat : Int)) (wanted_none rfl) (ix_z2b rfl rfl) ?_
  simp only [Act.put, List.setIfInBounds_toArray, List.set_cons_zero, List.set_cons_succ]
  refine wpList_run (v := .pointer (some ⟨g, 40, none⟩)) (wanted_none rfl) (gx_iaddr (i := 40) (sz := 1) rfl rfl rfl Try.underlying36 (by kernel_rfl) (by decide) rfl) ?_
  simp only [Act.put, List.setIfInBounds_toArray, List.set_cons_zero, List.set_cons_succ]
  refine wpList_storeU 40 (.int .u8 ((u8z n).toNat : Int)) (wanted_none rfl) 5 _ _ rfl HBG3.out rfl rfl (by rw [List.size_toArray, bcs_length]; rw [List.length_set, (fullS c).2]; decide) ⟨rfl, rfl⟩ (by kernel_rfl) ?_
  intro w4 hb ht
  simp only [Act.put, List.setIfInBounds_toArray, List.set_cons_zero, List.set_cons_succ]
  rw [bcs_setJ] at hb
  have HBG4 := Lib.hid hb
  have HQ4 := Lib.hid (HQ3.out.turn ht fun e => HGQ.out (show q = g from e).symm)
  have HT4 := Lib.hid (HT3.out.trans ht fun b hb e => by have h1 : b = g := e; have := HGE.out; omega)
  clear hb ht
  go_upto_region 4 with fail
  refine wp_region_lit ?_
  refine wpList_run (v := .slice (some ⟨g, 0, none⟩) 64 64) (wanted_none rfl) (exec_move rfl rfl) ?_
  simp only [Act.put, List.setIfInBounds_toArray, List.set_cons_zero, List.set_cons_succ]
  refine wpList_run (v := .slice (some ⟨g, 0, none⟩) 64 64) (wanted_none rfl) (gx_assign rfl rfl) ?_
  simp only [Act.put, List.setIfInBounds_toArray, List.set_cons_zero, List.set_cons_succ]
  go_wp2_with fail
  go_ret
  exact ⟨g, rfl, HGE.out, HBG4.out, HT4.out⟩
end Go.Proofs.Yteedjfgandgbkaa
