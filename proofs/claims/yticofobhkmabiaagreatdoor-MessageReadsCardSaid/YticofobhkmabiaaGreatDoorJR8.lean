/-
  Texts of MessageReads in one file, shortened: MsHc Awk MsSh MsLw MsU8 MsIa MsIb MsIf MsIg MsIh MsRe MsDm MsRow MsIn MsIo MsIp MsOt MsIq MsIr MsIt FdTy. Conditions: the tables and the errors read as the program's text lays them.
-/
import Derived.Test.YticofobhkmabiaaGreatDoorJR7
import Derived.Test.YticofobhkmabiaaGreatDoorJR3
import Derived.Test.YticofobhkmabiaaGreatDoorJR0
import Derived.Test.YticofobhkmabiaaGreatDoorJR1
import Derived.Test.YticofobhkmabiaaGreatDoorJR2
import Derived.Laws.CopyRow
import Derived.Lib.AppendZerosOnto
import Derived.Lib.Overlaps
import Derived.Laws.Externs
import Derived.Laws.EntriesVeiled
import Derived.Test.YticofobhkmabiaaGreatDoorJR4
import Derived.Test.YticofobhkmabiaaGreatDoorJR5
set_option linter.unusedVariables false
set_option linter.unusedSimpArgs false
set_option maxRecDepth 40000
set_option maxHeartbeats 20000000
namespace Go.Proofs.YticofobhkmabiaaGreatDoor
open Go.RowKit
open Fdd
theorem fld_neq {a : Act} {o : Oper} {W : World} {x y : Operand} {u : TypeId} {f g : Fld} (ho : o.op = .binOp .neq 40 x y u) (hx : a.eval x = .agg (fldA f)) (hy : a.eval y = .agg (fldA g)) : (execOp a.eval o).run Tryz.prog W = .ok (.value (.bool (!(decide (f = g))))) W := by
 unfold execOp
 simp only [ho, hx, hy, fldA, strV]
 go_simp
 obtain ⟨a1, a2⟩ := f
 obtain ⟨b1, b2⟩ := g
 by_cases h : a1 = b1 <;> by_cases h2 : a2 = b2 <;> simp [h, h2]
theorem fsame_step {fs gs : List Fld} {k : Nat} {f g : Fld} (h : fs.take k = gs.take k) (hf : fs[k]? = some f) (hg : gs[k]? = some g) (e : f = g) : fs.take (k + 1) = gs.take (k + 1) := by
 rw [List.take_add_one, List.take_add_one, h, hf, hg, e]
theorem fsame_not {fs gs : List Fld} {k : Nat} {f g : Fld} (hf : fs[k]? = some f) (hg : gs[k]? = some g) (e : ¬ f = g) : ¬ fs = gs := by
 rintro rfl
 rw [hf] at hg
 injection hg with hg
 exact e hg
theorem Same_walk {w : World} {ty1 ty2 : Int} {A1 A2 : Option Addr} {n1 c1 n2 c2 : Nat} {fs1 fs2 : List Fld} (h1 : Fl w A1 n1 fs1) (h2 : Fl w A2 n2 fs2) :
 Calls Tryz.prog 12 #[msgV ty1 A1 n1 c1, msgV ty2 A2 n2 c2] w fun e w' => e = .returned (.bool (decide (ty1 = ty2 ∧ fs1 = fs2))) ∧ Turn nowhere w w' := by
 unfold msgV
 have hb1 := (Blk.new w 24 #[.int .i64 ty1, .slice A1 n1 c1]).alloc (.cells #[.int .i64 ty2, .slice A2 n2 c2] 24)
 have hb2 := Blk.new (w.alloc (.cells #[.int .i64 ty1, .slice A1 n1 c1] 24)) 24 #[.int .i64 ty2, .slice A2 n2 c2]
 have hu := ((Turn.refl nowhere w).alloc (.cells #[.int .i64 ty1, .slice A1 n1 c1] 24)).alloc (.cells #[.int .i64 ty2, .slice A2 n2 c2] 24)
 rw [show (w.alloc (.cells #[.int .i64 ty1, .slice A1 n1 c1] 24)).heap.size = w.heap.size + 1 from by simp] at hb2
 have HF1 := zH (h1.still hu)
 have HF2 := zH (h2.still hu)
 have HN1 := zH h1.1
 have HN2 := zH h2.1
 have HNM := zH h1.2.1
 have y9 : (n1 : Int) ≤ 140737488355328 := by
  have := h1.2.1
  omega
 have HU := zH hu
 have HB1 := zH hb1
 have HB2 := zH hb2
 clear h1 h2 hb1 hb2 hu
 go_enter Tryz.func12, Tryz.ntmps12
 go_upto_region 1 with fail
 generalize (w.alloc (.cells #[.int .i64 ty1, .slice A1 n1 c1] 24)).alloc (.cells #[.int .i64 ty2, .slice A2 n2 c2] 24) = w1 at *
 obtain ⟨p2, hp2⟩ : ∃ p, p = w.heap.size + 1 := ⟨_, rfl⟩
 obtain ⟨p1, hp1⟩ : ∃ p, p = w.heap.size := ⟨_, rfl⟩
 rw [← hp2] at HB2 ⊢
 rw [← hp1] at HB1 ⊢
 clear hp1 hp2
 refine wp_region_lit ?_
 refine wR (v := .pointer (some ⟨p1, 0, none⟩)) rfl (exec_field (off := 0) (d := 0) rfl rfl (by kernel_rfl)) ?_
 simp only [zz]
 refine wR (v := .int .i64 ty1) rfl (exec_load1 rfl rfl (by kernel_rfl) (HB1.out.cell 0)) ?_
 simp only [zz]
 refine wR (v := .pointer (some ⟨p2, 0, none⟩)) rfl (exec_field (off := 0) (d := 0) rfl rfl (by kernel_rfl)) ?_
 simp only [zz]
 refine wR (v := .int .i64 ty2) rfl (exec_load1 rfl rfl (by kernel_rfl) (HB2.out.cell 0)) ?_
 simp only [zz]
 by_cases ht : ty1 = ty2
 case neg =>
  have HR := zH (show decide (ty1 = ty2 ∧ fs1 = fs2) = false from decide_eq_false (fun h => ht h.1))
  refine wR (v := .bool true) rfl (ix_neq rfl rfl rfl (decide_eq_true ht)) ?_
  simp only [zz]
  refine wM (.bool true) ?_
  simp only [zz]
  refine wpList_skip rfl ?_
  simp only [zz]
  refine wpList_skip rfl ?_
  simp only [zz]
  refine wpList_skip rfl ?_
  simp only [zz]
  refine wpList_skip rfl ?_
  simp only [zz]
  refine wpList_skip rfl ?_
  simp only [zz]
  refine wpList_skip rfl ?_
  simp only [zz]
  refine wpList_skip rfl ?_
  simp only [zz]
  refine wR (v := .bool true) rfl (ix_pickT rfl rfl rfl) ?_
  simp only [zz]
  clear ht
  go_wp2_with fail
  go_ret
  rw [HR.out]
  exact ⟨rfl, HU.out⟩
 refine wR (v := .bool false) rfl (ix_neq rfl rfl rfl (decide_eq_false (fun h => h ht))) ?_
 simp only [zz]
 refine wM (.bool false) ?_
 simp only [zz]
 refine wR (v := .pointer (some ⟨p1, 1, none⟩)) rfl (exec_field (off := 0) (d := 1) rfl rfl (by kernel_rfl)) ?_
 simp only [zz]
 refine wR (v := .slice A1 n1 c1) rfl (exec_load1 rfl rfl (by kernel_rfl) (HB1.out.cell 1)) ?_
 simp only [zz]
 refine wR (v := .int .i64 (n1 : Int)) rfl (gx_len rfl rfl Tryz.underlying22) ?_
 simp only [zz]
 refine wR (v := .pointer (some ⟨p2, 1, none⟩)) rfl (exec_field (off := 0) (d := 1) rfl rfl (by kernel_rfl)) ?_
 simp only [zz]
 refine wR (v := .slice A2 n2 c2) rfl (exec_load1 rfl rfl (by kernel_rfl) (HB2.out.cell 1)) ?_
 simp only [zz]
 refine wR (v := .int .i64 (n2 : Int)) rfl (gx_len rfl rfl Tryz.underlying22) ?_
 simp only [zz]
 by_cases hn : n1 = n2
 case neg =>
  have HR := zH (show decide (ty1 = ty2 ∧ fs1 = fs2) = false from decide_eq_false (fun h => hn (by rw [← HN1.out, ← HN2.out, h.2])))
  refine wR (v := .bool true) rfl (ix_neq rfl rfl rfl (decide_eq_true (by omega))) ?_
  simp only [zz]
  refine wR (v := .bool true) rfl (ix_pickF rfl rfl rfl) ?_
  simp only [zz]
  clear ht hn
  go_wp2_with fail
  go_ret
  rw [HR.out]
  exact ⟨rfl, HU.out⟩
 subst hn
 subst ht
 refine wR (v := .bool false) rfl (ix_neq rfl rfl rfl (by simp)) ?_
 simp only [zz]
 refine wR (v := .bool false) rfl (ix_pickF rfl rfl rfl) ?_
 simp only [zz]
 go_wp2_with fail
 go_loopg [5] n1 (fun gk i wr => ∃ k : Nat, k + gk = n1 ∧ i = .int .i64 (k : Int) ∧ Turn nowhere w1 wr ∧ fs1.take k = fs2.take k)
 case atStart => exact ⟨0, by omega, rfl, Turn.refl _ _, rfl⟩
 obtain ⟨k, hkl, rfl, htr, htk⟩ := hrel
 have HKL := zH hkl
 have HTR := zH htr
 have HTK := zH htk
 have HB3 := zH (HB1.out.turn htr (fun e => e))
 have HB4 := zH (HB2.out.turn htr (fun e => e))
 clear hkl htr htk
 go_upto_region 4 with fail
 refine wp_region_lit ?_
 refine wM (.int .i64 (k : Int)) ?_
 simp only [zz]
 refine wR (v := .pointer (some ⟨p1, 1, none⟩)) rfl (exec_field (off := 0) (d := 1) rfl rfl (by kernel_rfl)) ?_
 simp only [zz]
 refine wR (v := .slice A1 n1 c1) rfl (exec_load1 rfl rfl (by kernel_rfl) (HB3.out.cell 1)) ?_
 simp only [zz]
 refine wR (v := .int .i64 (n1 : Int)) rfl (gx_len rfl rfl Tryz.underlying22) ?_
 simp only [zz]
 by_cases hlt : k < n1
 ·have HLT := zH hlt
  have y1 : (k : Int) < (n1 : Int) := by omega
  obtain ⟨B1, O1, rfl, hr1⟩ := HF1.out.2.2 (by omega)
  obtain ⟨B2, O2, rfl, hr2⟩ := HF2.out.2.2 (by omega)
  obtain ⟨f1, hf1⟩ : ∃ f, fs1[k]? = some f := ⟨_, List.getElem?_eq_getElem (show k < fs1.length from by rw [HN1.out]; exact hlt)⟩
  obtain ⟨f2, hf2⟩ : ∃ f, fs2[k]? = some f := ⟨_, List.getElem?_eq_getElem (show k < fs2.length from by rw [HN2.out]; exact hlt)⟩
  have hq1 : wr.rangeAt B1 (O1 + k * 2) (fldA f1).toList := fun j v hv => (HTR.out.cell (World.block_lt_of_cell? _ _ (hr1 k f1 hf1 j v hv)) (fun e => e)).trans (hr1 k f1 hf1 j v hv)
  have hq2 : wr.rangeAt B2 (O2 + k * 2) (fldA f2).toList := fun j v hv => (HTR.out.cell (World.block_lt_of_cell? _ _ (hr2 k f2 hf2 j v hv)) (fun e => e)).trans (hr2 k f2 hf2 j v hv)
  have HF3 := zH hf1
  have HF4 := zH hf2
  refine wR (v := .bool true) rfl (ix_lss rfl rfl rfl (decide_eq_true (by omega))) ?_
  simp only [zz]
  have hS0 : (fun W : World => Blk W p1 24 #[.int .i64 ty1, .slice (some ⟨B1, O1, none⟩) n1 c1] ∧ Blk W p2 24 #[.int .i64 ty1, .slice (some ⟨B2, O2, none⟩) n1 c2] ∧ W.rangeAt B1 (O1 + k * 2) (fldA f1).toList ∧ W.rangeAt B2 (O2 + k * 2) (fldA f2).toList) wr.drew := ⟨HB3.out.drew, HB4.out.drew, hq1, hq2⟩
  have HTD := zH (HTR.out.next (Turn.drew (Turn.refl nowhere wr)))
  clear hr1 hr2 hf1 hf2 hq1 hq2 hlt HB3 HB4 HTR
  go_upto_region 6 with fail
  refine wp_region_alw (fun W => Blk W p1 24 #[.int .i64 ty1, .slice (some ⟨B1, O1, none⟩) n1 c1] ∧ Blk W p2 24 #[.int .i64 ty1, .slice (some ⟨B2, O2, none⟩) n1 c2] ∧ W.rangeAt B1 (O1 + k * 2) (fldA f1).toList ∧ W.rangeAt B2 (O2 + k * 2) (fldA f2).toList) (by kernel_rfl) ?_
  generalize wr.drew = w3 at *
  refine aT (i := 0) (v := .pointer (some ⟨p1, 1, none⟩)) rfl (by kernel_rfl) (by kernel_rfl) (fun W hW => exec_field (off := 0) (d := 1) rfl rfl (by kernel_rfl)) hS0 ?_
  simp only [zz]
  refine aT (i := 1) (v := .slice (some ⟨B1, O1, none⟩) n1 c1) rfl (by kernel_rfl) (by kernel_rfl) (fun W hW => exec_load1 rfl rfl (by kernel_rfl) (hW.1.cell 1)) hS0 ?_
  simp only [zz]
  refine aT (i := 2) (v := .int .i64 (k : Int)) rfl (by kernel_rfl) (by kernel_rfl) (fun W hW => exec_move rfl rfl) hS0 ?_
  simp only [zz]
  refine aT (i := 3) (v := .pointer (some ⟨B1, O1 + k * 2, none⟩)) rfl (by kernel_rfl) (by kernel_rfl) (fun W hW => gx_iaddr (i := k) (sz := 2) rfl rfl rfl Tryz.underlying22 size_field HLT.out (by omega)) hS0 ?_
  simp only [zz]
  refine aT (i := 4) (v := .agg (fldA f1)) rfl (by kernel_rfl) (by kernel_rfl) (fun W hW => gx_loads rfl rfl hW.2.2.1 Tryz.underlying40 rfl (by rw [size_field]; rfl)) hS0 ?_
  simp only [zz]
  refine aT (i := 5) (v := .pointer (some ⟨p2, 1, none⟩)) rfl (by kernel_rfl) (by kernel_rfl) (fun W hW => exec_field (off := 0) (d := 1) rfl rfl (by kernel_rfl)) hS0 ?_
  simp only [zz]
  refine aT (i := 6) (v := .slice (some ⟨B2, O2, none⟩) n1 c2) rfl (by kernel_rfl) (by kernel_rfl) (fun W hW => exec_load1 rfl rfl (by kernel_rfl) (hW.2.1.cell 1)) hS0 ?_
  simp only [zz]
  refine aT (i := 7) (v := .int .i64 (k : Int)) rfl (by kernel_rfl) (by kernel_rfl) (fun W hW => exec_move rfl rfl) hS0 ?_
  simp only [zz]
  refine aT (i := 8) (v := .pointer (some ⟨B2, O2 + k * 2, none⟩)) rfl (by kernel_rfl) (by kernel_rfl) (fun W hW => gx_iaddr (i := k) (sz := 2) rfl rfl rfl Tryz.underlying22 size_field HLT.out (by omega)) hS0 ?_
  simp only [zz]
  refine aT (i := 9) (v := .agg (fldA f2)) rfl (by kernel_rfl) (by kernel_rfl) (fun W hW => gx_loads rfl rfl hW.2.2.2 Tryz.underlying40 rfl (by rw [size_field]; rfl)) hS0 ?_
  simp only [zz]
  refine aT (i := 10) (v := .bool (!(decide (f1 = f2)))) rfl (by kernel_rfl) (by kernel_rfl) (fun W hW => fld_neq rfl rfl rfl) hS0 ?_
  simp only [zz]
  refine alw_done rfl ?_
  clear hS0
  refine NoPanic.normal ?_
  by_cases heq : f1 = f2
  ·have HTK2 := zH (fsame_step HTK.out HF3.out HF4.out heq)
   rw [decide_eq_true heq]
   clear heq
   go_wp2_with fail
   go_roundg (gk - 1)
   case measure => have := HKL.out; have := HLT.out; omega
   case rel => exact ⟨k + 1, by have := HKL.out; have := HLT.out; omega, by go_num, HTD.out, HTK2.out⟩
  ·have HR := zH (show decide (fs1 = fs2) = false from decide_eq_false (fun h => fsame_not HF3.out HF4.out heq h))
   rw [decide_eq_false heq]
   clear heq
   go_wp2_with fail
   go_ret
   rw [HR.out]
   exact ⟨rfl, HU.out.next HTD.out⟩
 ·have HR := zH (show decide (fs1 = fs2) = true from by
   have h1 := HTK.out
   rw [List.take_of_length_le (by rw [HN1.out]; omega), List.take_of_length_le (by rw [HN2.out]; omega)] at h1
   exact decide_eq_true h1)
  refine wR (v := .bool false) rfl (ix_lss rfl rfl rfl (decide_eq_false (by omega))) ?_
  simp only [zz]
  clear hlt
  go_wp2_with fail
  go_ret
  rw [HR.out]
  exact ⟨rfl, HU.out.next HTR.out⟩
theorem wpList_new {P : Program} {ops : Array Oper} {rest : List Oper} {o1 o2 : Oper} {a : Act} {w : World} {Q : Exit → Act → World → Prop} {zs : Array Value} (ty : TypeId) (x y : Operand) (cells : Array Value)
 (hg1 : Region.wanted o1 (yielded ops a.tmps) = true) (ho1 : o1.op = .alloc ty) (hz : (zeroValue ty).run P w = .ok (.agg zs) w) (hzs : (Value.agg zs).cells = zs)
 (hg2 : Region.wanted o2 (yielded ops (a.put o1.dst (.pointer (some ⟨w.heap.size, 0, none⟩))).tmps) = true) (ho2 : o2.op = .store ty x y)
 (hx : (a.put o1.dst (.pointer (some ⟨w.heap.size, 0, none⟩))).eval x = .pointer (some ⟨w.heap.size, 0, none⟩)) (hy : (a.put o1.dst (.pointer (some ⟨w.heap.size, 0, none⟩))).eval y = .agg cells)
 (hs : zs.size = cells.size) (hi : (P.info? ty).map (·.size) = some cells.size) (h1 : ∀ v ∈ cells.toList, v.oneCell' = true)
 (h : ∀ w' g, w.heap.size ≤ g → Blk w' g ty cells → Turn nowhere w w' → wpList P ops Q rest ((a.put o1.dst (.pointer (some ⟨g, 0, none⟩))).put o2.dst undef) w') : wpList P ops Q (o1 :: o2 :: rest) a w := by
 have hb := Blk.new w ty (Value.agg zs).cells
 have hu := (Turn.refl nowhere w).alloc (.cells (Value.agg zs).cells ty)
 refine wpList_run hg1 (gx_alloc ho1 hz) ?_
 refine wpList_store_row hg2 ty x y ho2 cells hb hx hy (by rw [hzs]; exact hs) hi h1 fun w' hb' hu' => ?_
 refine h w' _ (Nat.le_refl _) hb' (hu.trans hu' fun k hk e => ?_)
 have e : k = w.heap.size := e
 omega
theorem bx_slice3 {P : Program} {a : Act} {o : Oper} {t : TypeId} {x y z : Operand} {u v r q : Value} {W W' : World} (ho : o.op = .buildSlice t 3 #[(0, x), (1, y), (2, z)]) (hx : a.eval x = u) (hy : a.eval y = v) (hz : a.eval z = r)
 (h : (Instr.buildSlice t 3 #[(0, u), (1, v), (2, r)]).run P W = .ok q W') : (execOp a.eval o).run P W = .ok (.value q) W' := by
 unfold execOp
 simp only [ho, List.map_toArray, List.map_cons, List.map_nil, hx, hy, hz, h, Sem.run_bind, Sem.run_pure, Result.andThen_ok]
theorem bx_slice0 {P : Program} {a : Act} {o : Oper} {t : TypeId} {q : Value} {W W' : World} (ho : o.op = .buildSlice t 0 #[])
 (h : (Instr.buildSlice t 0 #[]).run P W = .ok q W') : (execOp a.eval o).run P W = .ok (.value q) W' := by
 unfold execOp
 simp only [ho, List.map_toArray, List.map_nil, h, Sem.run_bind, Sem.run_pure, Result.andThen_ok]
def shF : List Fld := [(7, [48, 49, 48, 49, 48, 48, 48, 48, 48, 48]), (11, [48, 48, 48, 48, 48, 49]), (70, [48, 48, 49])]
def sh1 : List UInt8 := [48, 56, 48, 48, 56, 50, 50, 48, 48, 48, 48, 48, 48, 48, 48, 48, 48, 48, 48, 48, 48, 52, 48, 48, 48, 48, 48, 48, 48, 48, 48, 48, 48, 48, 48, 48, 48, 49, 48, 49, 48, 48, 48, 48, 48, 48, 48, 48, 48, 48, 48, 49, 48, 48, 49]
def sh2 : List UInt8 := [24, 0, 130, 32, 0, 0, 0, 0, 0, 0, 4, 0, 0, 0, 0, 0, 0, 0, 1, 1, 0, 0, 0, 0, 0, 1, 0, 1]
theorem sh_e1 : mencode 1 800 shF = .ok sh1 := by kernel_rfl
theorem sh_e2 : mencode 2 800 shF = .ok sh2 := by kernel_rfl
theorem sh_d2 : mdecode 2 sh2 = .ok (800, shF) := mdecode_back sh_e2
theorem sh_d3 : mdecode 2 (sh2 ++ [0]) = .error 54 := by
 obtain ⟨hd, hw, e⟩ := mencode_ok.1 sh_e2
 have h := mdecode_wire hd hw [0] (.inl (by rw [← e]; decide))
 rw [← e] at h
 rw [h, if_neg (by decide)]
def shC : Array Value := #[.int .i64 7, strV [48, 49, 48, 49, 48, 48, 48, 48, 48, 48], .int .i64 11, strV [48, 48, 48, 48, 48, 49], .int .i64 70, strV [48, 48, 49]]
theorem build_sh (W : World) : (Instr.buildSlice 22 3 #[(0, .agg (fldA (7, [48, 49, 48, 49, 48, 48, 48, 48, 48, 48]))), (1, .agg (fldA (11, [48, 48, 48, 48, 48, 49]))), (2, .agg (fldA (70, [48, 48, 49])))]).run Tryz.prog W = .ok (.slice (some ⟨W.heap.size, 0, none⟩) 3 3) (W.alloc (.cells shC 40)) := by kernel_rfl
theorem build_f (i : Int) (l : List UInt8) (W : World) : (Instr.build 40 #[(0, .int .i64 i), (1, strV l)]).run Tryz.prog W = .ok (.agg (fldA (i, l))) W := by kernel_rfl
theorem build_m (ty : Int) (A : Option Addr) (n c : Nat) (W : World) : (Instr.build 24 #[(0, .int .i64 ty), (1, .slice A n c)]).run Tryz.prog W = .ok (msgV ty A n c) W := by kernel_rfl
theorem make_none (W : World) : (Instr.buildSlice 26 0 #[]).run Tryz.prog W = .ok (.slice (some ⟨W.heap.size, 0, none⟩) 0 0) (W.alloc (.cells #[] 5)) := by kernel_rfl
theorem fl_sh {W : World} {g : Nat} (h : Blk W g 40 shC) : Fl W (some ⟨g, 0, none⟩) 3 shF := by
 refine ⟨rfl, by decide, fun _ => ⟨g, 0, rfl, fun i f hf j v hv => ?_⟩⟩
 have hi : i < 3 := by
  have := (List.getElem?_eq_some_iff.1 hf).1
  exact this
 have hc := h.cell (0 + i * 2 + j)
 have hj : j < 2 := by
  have := (List.getElem?_eq_some_iff.1 hv).1
  simpa [fldA] using this
 rw [show World.cell? W ⟨g, 0 + i * 2 + j, none⟩ = shC[0 + i * 2 + j]? from hc]
 have h3 : i = 0 ∨ i = 1 ∨ i = 2 := by omega
 have h2 : j = 0 ∨ j = 1 := by omega
 rcases h3 with rfl | rfl | rfl <;> (injection hf with hf; subst hf) <;> rcases h2 with rfl | rfl <;> exact hv
theorem enc_at {s : Sents} {w : World} {dd ty : Int} {A : Option Addr} {n c : Nat} {fs : List Fld} {b : List UInt8} (h : mencode dd ty fs = .ok b) (he : Env s w) (hf : Fl w A n fs) :
 Calls Tryz.prog 8 #[.int .i64 dd, msgV ty A n c] w fun e w' => ∃ A n c, e = .returned (.tuple #[.slice A n c, .int .i64 0]) ∧ Own w' w.heap.size 5 (.slice A n c) b ∧ Turn nowhere w w' := by
 have := Encode_walk (dd := dd) (ty := ty) (c := c) he hf
 rw [h] at this
 exact this
theorem dec_at {s : Sents} {w : World} {dd ty : Int} {A : Option Addr} {n c : Nat} {fs : List Fld} {b : List UInt8} (h : mdecode dd b = .ok (ty, fs)) (he : Env s w) (hb : Bs w A n b) (hnc : n ≤ c) (hnm : n ≤ 140737488355328) :
 Calls Tryz.prog 13 #[.int .i64 dd, .slice A n c] w fun e w' => ∃ A n c, e = .returned (.tuple #[msgV ty A n c, .int .i64 0]) ∧ Fl w' A n fs ∧ (∀ b o t, A = some ⟨b, o, t⟩ → w.heap.size ≤ b) ∧ Turn nowhere w w' := by
 have := Decode_walk (dd := dd) (c := c) he hb hnc hnm
 rw [h] at this
 exact this
theorem dec_bad {s : Sents} {w : World} {dd k : Int} {A : Option Addr} {n c : Nat} {b : List UInt8} (h : mdecode dd b = .error k) (he : Env s w) (hb : Bs w A n b) (hnc : n ≤ c) (hnm : n ≤ 140737488355328) :
 Calls Tryz.prog 13 #[.int .i64 dd, .slice A n c] w fun e w' => ∃ A n c, e = .returned (.tuple #[msgV 0 A n c, .int .i64 k]) ∧ Fl w' A n [] ∧ (∀ b o t, A = some ⟨b, o, t⟩ → w.heap.size ≤ b) ∧ Turn nowhere w w' := by
 have := Decode_walk (dd := dd) (c := c) he hb hnc hnm
 rw [h] at this
 exact this
theorem seql_same {a : Act} {o : Oper} {W : World} {x y : Operand} {l : List UInt8} {t u : TypeId} (ho : o.op = .binOp .eql t x y u) (hx : a.eval x = strV l) (hy : a.eval y = strV l) : (execOp a.eval o).run Tryz.prog W = .ok (.value (.bool true)) W := by
 have h := exec_seql (W := W) ho hx hy
 rw [h]
 simp
theorem wpList_copied {ops : Array Oper} {rest : List Oper} {o1 o2 o3 : Oper} {a : Act} {w : World} {Q : Exit → Act → World → Prop} {A : Option Addr} {n c : Nat} {b : List UInt8} {y s x : Operand}
 (hg1 : Region.wanted o1 (yielded ops a.tmps) = true) (ho1 : o1.op = .buildSlice 26 0 #[])
 (hg2 : Region.wanted o2 (yielded ops (a.put o1.dst (.slice (some ⟨w.heap.size, 0, none⟩) 0 0)).tmps) = true) (ho2 : o2.op = .move y) (hy : (a.put o1.dst (.slice (some ⟨w.heap.size, 0, none⟩) 0 0)).eval y = .slice A n c)
 (hg3 : Region.wanted o3 (yielded ops ((a.put o1.dst (.slice (some ⟨w.heap.size, 0, none⟩) 0 0)).put o2.dst (.slice A n c)).tmps) = true) (ho3 : o3.op = .call { callee := .builtin .append, args := #[s, x], argTypes := #[26, 26] })
 (hs : ((a.put o1.dst (.slice (some ⟨w.heap.size, 0, none⟩) 0 0)).put o2.dst (.slice A n c)).eval s = .slice (some ⟨w.heap.size, 0, none⟩) 0 0)
 (hx : ((a.put o1.dst (.slice (some ⟨w.heap.size, 0, none⟩) 0 0)).put o2.dst (.slice A n c)).eval x = .slice A n c)
 (hb : Bs w A n b) (hc : A = none → c = 0) (hsum : n ≤ 140737488355328)
 (h : ∀ k v' w', w.heap.size ≤ k → Own w' w.heap.size 5 v' b → Turn nowhere w w' → wpList Tryz.prog ops Q rest (((a.put o1.dst (.slice (some ⟨k, 0, none⟩) 0 0)).put o2.dst (.slice A n c)).put o3.dst v') w') : wpList Tryz.prog ops Q (o1 :: o2 :: o3 :: rest) a w := by
 have hu := (Turn.refl nowhere w).alloc (.cells #[] 5)
 refine wpList_run hg1 (bx_slice0 ho1 (make_none w)) ?_
 refine wpList_run hg2 (exec_move ho2 hy) ?_
 refine wpList_append_bytes _ hg3 s x _ ho3 w.heap.size 5 byteInfo Tryz.underlying26 _ [] hs (Own.empty w w.heap.size 5 (Nat.le_refl _)) A n c b hx (bs_still hb hu) hc (by simpa using hsum) hu.size ?_
 intro v' w' ho hbw
 rw [List.nil_append] at ho
 exact h _ v' w' (Nat.le_refl _) ho (Turn.of_below ((hu.below (Nat.le_refl _) (fun _ _ e=>e)).trans hbw) (Nat.le_refl _))
theorem shown_walk {s : Sents} (w : World) (he : Env s w) :
 Calls Tryz.prog 7 #[] w fun e w' => e = .returned (.bool true) ∧ Turn nowhere w w' := by
 have HE := zH he
 clear he
 go_enter Tryz.func7, Tryz.ntmps7
 go_upto_region 1 with fail
 refine wp_region_lit ?_
 refine wR (v := .agg (fldA (7, [48, 49, 48, 49, 48, 48, 48, 48, 48, 48]))) rfl (gx_build2 rfl rfl rfl (build_f _ _ _)) ?_
 simp only [zz]
 refine wR (v := .agg (fldA (11, [48, 48, 48, 48, 48, 49]))) rfl (gx_build2 rfl rfl rfl (build_f _ _ _)) ?_
 simp only [zz]
 refine wR (v := .agg (fldA (70, [48, 48, 49]))) rfl (gx_build2 rfl rfl rfl (build_f _ _ _)) ?_
 simp only [zz]
 refine wR (v := .slice (some ⟨w.heap.size, 0, none⟩) 3 3) (w' := w.alloc (.cells shC 40)) rfl (bx_slice3 rfl rfl rfl rfl (build_sh w)) ?_
 simp only [zz]
 have hb1 := Blk.new w 40 shC
 have hu1 := (Turn.refl nowhere w).alloc (.cells shC 40)
 obtain ⟨g, hg⟩ : ∃ g, g = w.heap.size := ⟨_, rfl⟩
 rw [← hg] at hb1 ⊢
 clear hg
 generalize w.alloc (.cells shC 40) = w1 at *
 have HF := zH (fl_sh hb1)
 have HT1 := zH hu1
 clear hb1 hu1
 refine wR (v := msgV 800 (some ⟨g, 0, none⟩) 3 3) rfl (gx_build2 rfl rfl rfl (build_m _ _ _ _ _)) ?_
 simp only [zz]
 refine wpList_new 24 (.tmp 1) (.tmp 14) #[.int .i64 800, .slice (some ⟨g, 0, none⟩) 3 3] rfl rfl (zero_msg _) rfl rfl rfl rfl rfl rfl (by rw [size_msg]; rfl) (msgA_one _ _ _ _) ?_
 intro w2 gm _ hbx hux
 simp only [zz]
 have HBgm := zH hbx
 have HT2 := zH hux
 clear hbx hux
 go_upto_region 2 with fail
 refine wp_region_lit ?_
 refine wR (v := msgV 800 (some ⟨g, 0, none⟩) 3 3) rfl (gx_loads rfl rfl (blk_range HBgm.out) Tryz.underlying24 rfl (by rw [size_msg]; rfl)) ?_
 simp only [zz]
 have hE := enc_at (s := s) (dd := 1) (c := 3) sh_e1 (HE.out.turn (HT1.out.next HT2.out)) (HF.out.still HT2.out)
 refine wpList_op rfl fun K9 HK9 => ?_
 go_wp2_with fail
 refine hE.mono ?_
 rintro e w3 ⟨A3, n3, c3, rfl, hox, htx⟩
 refine HK9.out _ _ ?_
 clear HK9 hE
 try simp only [zz]
 have HO3 := zH hox
 have HT3 := zH htx
 obtain ⟨A9, n9, c9, hf9, hb9, hnc9, hz9⟩ := hox.form
 injection hf9 with g1 g2 g3
 subst g1 g2 g3
 have HS3 := zH hb9
 have HN3 := zH hnc9
 have HZ3 := zH hz9
 have hl9 : n3 = 55 := hb9.1.symm
 subst hl9
 clear hox htx hb9 hnc9 hz9
 refine wM (.tuple #[.slice A3 55 c3, .int .i64 0]) ?_
 simp only [zz]
 refine wE (.slice A3 55 c3) ?_
 simp only [zz]
 refine wE (.int .i64 0) ?_
 simp only [zz]
 refine wA (.slice A3 55 c3) ?_
 simp only [zz]
 refine wA (.int .i64 0) ?_
 simp only [zz]
 go_upto_region 3 with fail
 refine wp_region_lit ?_
 refine wR (v := msgV 800 (some ⟨g, 0, none⟩) 3 3) rfl (gx_loads rfl rfl (blk_range (HBgm.out.turn HT3.out (fun e => e))) Tryz.underlying24 rfl (by rw [size_msg]; rfl)) ?_
 simp only [zz]
 have hE := enc_at (s := s) (dd := 2) (c := 3) sh_e2 (HE.out.turn ((HT1.out.next HT2.out).next HT3.out)) (HF.out.still (HT2.out.next HT3.out))
 refine wpList_op rfl fun K9 HK9 => ?_
 go_wp2_with fail
 refine hE.mono ?_
 rintro e w4 ⟨A4, n4, c4, rfl, hox, htx⟩
 refine HK9.out _ _ ?_
 clear HK9 hE
 try simp only [zz]
 have HO4 := zH hox
 have HT4 := zH htx
 obtain ⟨A9, n9, c9, hf9, hb9, hnc9, hz9⟩ := hox.form
 injection hf9 with g1 g2 g3
 subst g1 g2 g3
 have HS4 := zH hb9
 have HN4 := zH hnc9
 have HZ4 := zH hz9
 have hl9 : n4 = 28 := hb9.1.symm
 subst hl9
 clear hox htx hb9 hnc9 hz9
 refine wM (.tuple #[.slice A4 28 c4, .int .i64 0]) ?_
 simp only [zz]
 refine wE (.slice A4 28 c4) ?_
 simp only [zz]
 refine wE (.int .i64 0) ?_
 simp only [zz]
 refine wA (.slice A4 28 c4) ?_
 simp only [zz]
 refine wA (.int .i64 0) ?_
 simp only [zz]
 go_upto_region 4 with fail
 refine wp_region_lit ?_
 refine wM (.slice A4 28 c4) ?_
 simp only [zz]
 have hD := dec_at (s := s) sh_d2 (HE.out.turn (((HT1.out.next HT2.out).next HT3.out).next HT4.out)) HS4.out HN4.out (by decide)
 refine wpList_op rfl fun K9 HK9 => ?_
 go_wp2_with fail
 refine hD.mono ?_
 rintro e w5 ⟨A5, n5, c5, rfl, hfx, hgx, htx⟩
 refine HK9.out _ _ ?_
 clear HK9 hD
 try simp only [zz]
 have HF5 := zH hfx
 have HT5 := zH htx
 clear hfx hgx htx
 refine wM (.tuple #[msgV 800 A5 n5 c5, .int .i64 0]) ?_
 simp only [zz]
 refine wE (msgV 800 A5 n5 c5) ?_
 simp only [zz]
 refine wE (.int .i64 0) ?_
 simp only [zz]
 refine wpList_new 24 (.tmp 6) (.tmp 28) #[.int .i64 800, .slice A5 n5 c5] rfl rfl (zero_msg _) rfl rfl rfl rfl rfl rfl (by rw [size_msg]; rfl) (msgA_one _ _ _ _) ?_
 intro w6 gc _ hbx hux
 simp only [zz]
 have HBgc := zH hbx
 have HT6 := zH hux
 clear hbx hux
 refine wA (.int .i64 0) ?_
 simp only [zz]
 go_upto_region 5 with fail
 refine wp_region_lit ?_
 refine wpList_copied (A := A4) (n := 28) (c := c4) rfl rfl rfl rfl rfl rfl rfl rfl rfl (bs_still HS4.out (HT5.out.next HT6.out)) HZ4.out (by decide) ?_
 intro g7 v7 w7 hg7 ho7 ht7
 simp only [zz]
 obtain ⟨A7, n7, c7, rfl, hb7, hnc7, hz7⟩ := ho7.form
 have hl7 : n7 = 28 := hb7.1.symm
 subst hl7
 have HO7 := zH ho7
 have HG7 := zH ht7.size
 have HT7 := zH ht7
 clear ho7 ht7 hb7 hnc7 hz7 hg7
 refine wR (v := .slice (some ⟨w7.heap.size, 0, none⟩) 1 1) (w' := w7.alloc (.cells (bcs [0]).toArray 5)) rfl (exec_one (z := 0) rfl rfl) ?_
 simp only [zz]
 have ht8 := (Turn.refl nowhere w7).alloc (.cells (bcs [0]).toArray 5)
 have hone := bs_blk (Blk.new w7 5 (bcs [0]).toArray) (n := 1) rfl (by unfold maxLen; omega)
 have ho8 := own_still HO7.out ht8
 have hg8 := Nat.le_trans HG7.out ht8.size
 have HT8 := zH ht8
 clear ht8
 obtain ⟨g8, hg9⟩ : ∃ g8, g8 = w7.heap.size := ⟨_, rfl⟩
 rw [← hg9] at hone ⊢
 clear hg9
 generalize w7.alloc (.cells (bcs [0]).toArray 5) = w8 at *
 refine wpList_append_bytes w8 rfl _ _ _ rfl w6.heap.size 5 byteInfo Tryz.underlying26 _ sh2 rfl ho8 _ 1 1 [0] rfl hone (fun h => by cases h) (by decide) hg8 ?_
 intro v9 w9 ho9 hb9
 obtain ⟨A9, n9, c9, rfl, hs9, hnc9, _⟩ := ho9.form
 simp only [zz]
 have HS9 := zH hs9
 have HN9 := zH hnc9
 have HT9 := zH (show Turn nowhere w6 w9 from Turn.of_below (((HT7.out.next HT8.out).below (Nat.le_refl _) (fun _ _ e=>e)).trans hb9) (Nat.le_refl _))
 clear ho9 hb9 hs9 hnc9 hone ho8 hg8
 have hD := dec_bad (s := s) sh_d3 (HE.out.turn ((((((HT1.out.next HT2.out).next HT3.out).next HT4.out).next HT5.out).next HT6.out).next HT9.out)) HS9.out HN9.out (by rw [← HS9.out.1]; decide)
 refine wpList_op rfl fun K9 HK9 => ?_
 go_wp2_with fail
 refine hD.mono ?_
 rintro e w10 ⟨A10, n10, c10, rfl, hfx, hgx, htx⟩
 refine HK9.out _ _ ?_
 clear HK9 hD
 try simp only [zz]
 have HT10 := zH htx
 clear hfx hgx htx
 refine wM (.tuple #[msgV 0 A10 n10 c10, .int .i64 54]) ?_
 simp only [zz]
 refine wE (msgV 0 A10 n10 c10) ?_
 simp only [zz]
 refine wE (.int .i64 54) ?_
 simp only [zz]
 refine wpList_new 24 (.tmp 8) (.tmp 37) #[.int .i64 0, .slice A10 n10 c10] rfl rfl (zero_msg _) rfl rfl rfl rfl rfl rfl (by rw [size_msg]; rfl) (msgA_one _ _ _ _) ?_
 intro w11 gd _ hbx hux
 simp only [zz]
 have HBgd := zH hbx
 have HT11 := zH hux
 clear hbx hux
 refine wA (.int .i64 54) ?_
 simp only [zz]
 go_upto_region 6 with fail
 refine wp_region_lit ?_
 refine wM (.int .i64 0) ?_
 simp only [zz]
 refine wR (v := .bool true) rfl (ix_eql rfl rfl rfl (by decide)) ?_
 simp only [zz]
 refine wM (.bool true) ?_
 simp only [zz]
 refine wM (.slice A3 55 c3) ?_
 simp only [zz]
 refine wR (v := strV sh1) rfl (exec_strBs (l := sh1) rfl rfl (bs_still HS3.out (((((HT4.out.next HT5.out).next HT6.out).next HT9.out).next HT10.out).next HT11.out))) ?_
 simp only [zz]
 refine wR (v := .bool true) rfl (seql_same (l := sh1) rfl rfl rfl) ?_
 simp only [zz]
 refine wR (v := .bool true) rfl (ix_pickT rfl rfl rfl) ?_
 simp only [zz]
 refine wM (.bool true) ?_
 simp only [zz]
 refine wM (.int .i64 0) ?_
 simp only [zz]
 refine wR (v := .bool true) rfl (ix_eql rfl rfl rfl (by decide)) ?_
 simp only [zz]
 refine wR (v := .bool true) rfl (ix_pickT rfl rfl rfl) ?_
 simp only [zz]
 refine wM (.bool true) ?_
 simp only [zz]
 refine wM (.slice A4 28 c4) ?_
 simp only [zz]
 refine wR (v := .int .i64 28) rfl (gx_len rfl rfl Tryz.underlying26) ?_
 simp only [zz]
 refine wR (v := .bool true) rfl (ix_eql rfl rfl rfl (by decide)) ?_
 simp only [zz]
 refine wR (v := .bool true) rfl (ix_pickT rfl rfl rfl) ?_
 simp only [zz]
 refine wM (.bool true) ?_
 simp only [zz]
 refine wM (.int .i64 0) ?_
 simp only [zz]
 refine wR (v := .bool true) rfl (ix_eql rfl rfl rfl (by decide)) ?_
 simp only [zz]
 refine wR (v := .bool true) rfl (ix_pickT rfl rfl rfl) ?_
 simp only [zz]
 refine wM (.bool true) ?_
 simp only [zz]
 refine wR (v := msgV 800 A5 n5 c5) rfl (gx_loads rfl rfl (blk_range (HBgc.out.turn ((HT9.out.next HT10.out).next HT11.out) (fun e => e))) Tryz.underlying24 rfl (by rw [size_msg]; rfl)) ?_
 simp only [zz]
 refine wR (v := msgV 800 (some ⟨g, 0, none⟩) 3 3) rfl (gx_loads rfl rfl (blk_range (HBgm.out.turn ((((((HT3.out.next HT4.out).next HT5.out).next HT6.out).next HT9.out).next HT10.out).next HT11.out) (fun e => e))) Tryz.underlying24 rfl (by rw [size_msg]; rfl)) ?_
 simp only [zz]
 have hS := Same_walk (ty1 := 800) (ty2 := 800) (c1 := c5) (c2 := 3) (HF5.out.still (((HT6.out.next HT9.out).next HT10.out).next HT11.out)) (HF.out.still (((((((HT2.out.next HT3.out).next HT4.out).next HT5.out).next HT6.out).next HT9.out).next HT10.out).next HT11.out))
 rw [decide_eq_true (show (800 : Int) = 800 ∧ shF = shF from ⟨rfl, rfl⟩)] at hS
 refine wpList_op rfl fun K9 HK9 => ?_
 go_wp2_with fail
 refine hS.mono ?_
 rintro e w12 ⟨rfl, ht12⟩
 refine HK9.out _ _ ?_
 clear HK9 hS
 try simp only [zz]
 have HT12 := zH ht12
 clear ht12
 refine wR (v := .bool true) rfl (ix_pickT rfl rfl rfl) ?_
 simp only [zz]
 refine wM (.bool true) ?_
 simp only [zz]
 refine wM (.int .i64 54) ?_
 simp only [zz]
 refine wR (v := .bool true) rfl (ix_eql rfl rfl rfl (by decide)) ?_
 simp only [zz]
 refine wR (v := .bool true) rfl (ix_pickT rfl rfl rfl) ?_
 simp only [zz]
 refine wA (.bool true) ?_
 simp only [zz]
 go_wp2_with fail
 go_ret
 exact ⟨rfl, (((((((((HT1.out.next HT2.out).next HT3.out).next HT4.out).next HT5.out).next HT6.out).next HT9.out).next HT10.out).next HT11.out).next HT12.out)⟩
theorem ix_rem {a : Act} {o : Oper} {W : World} {x y : Operand} {n m : Nat} (ho : o.op = .binOp .rem 3 x y 3) (hx : a.eval x = .int .i64 (n : Int)) (hy : a.eval y = .int .i64 (m : Int)) (hm : 0 < m) (hn : n ≤ 9223372036854775807) : (execOp a.eval o).run Tryz.prog W = .ok (.value (.int .i64 ((n % m : Nat) : Int))) W := by
 have hm1 : (m : Int) ≠ 0 := by omega
 obtain ⟨q, hq⟩ : ∃ q : Nat, q = n % m := ⟨_, rfl⟩
 have hlt : q ≤ n := by rw [hq]; exact Nat.mod_le _ _
 have e : (n : Int).tmod (m : Int) = (q : Int) := by rw [hq]; rfl
 rw [← hq]
 have hw : IntKind.i64.wrap (q : Int) = (q : Int) := by rw [IntKind.wrap_i64]; omega
 unfold execOp
 simp only [ho, hx, hy]
 go_simp
 omega
theorem ix_quo {a : Act} {o : Oper} {W : World} {x y : Operand} {n m : Nat} (ho : o.op = .binOp .quo 3 x y 3) (hx : a.eval x = .int .i64 (n : Int)) (hy : a.eval y = .int .i64 (m : Int)) (hm : 0 < m) (hn : n ≤ 9223372036854775807) : (execOp a.eval o).run Tryz.prog W = .ok (.value (.int .i64 ((n / m : Nat) : Int))) W := by
 have hm1 : (m : Int) ≠ 0 := by omega
 obtain ⟨q, hq⟩ : ∃ q : Nat, q = n / m := ⟨_, rfl⟩
 have hlt : q ≤ n := by rw [hq]; exact Nat.div_le_self _ _
 have e : (n : Int).tdiv (m : Int) = (q : Int) := by rw [hq]; rfl
 rw [← hq]
 have hw : IntKind.i64.wrap (q : Int) = (q : Int) := by rw [IntKind.wrap_i64]; omega
 unfold execOp
 simp only [ho, hx, hy]
 go_simp
 rw [if_neg (by omega), show IntKind.i64.wrap ((n : Int) / (m : Int)) = (n : Int) / (m : Int) from by rw [← Int.natCast_ediv, ← hq]; exact hw]
theorem mtakeAll_err {ps : List Pt} {b : List UInt8} {k : Int} (h : takeAll ps b = .error k) : k ≠ 0 := by
 unfold takeAll at h
 split at h
 ·injection h with h; omega
 ·split at h
  ·injection h with h; omega
  ·cases h
theorem ftake_err {f : Fm} {b : List UInt8} {k : Int} (h : f.take b = .error k) : k ≠ 0 := by
 unfold Fm.take at h
 split at h
 ·split at h
  ·split at h
   ·rename_i e he
    injection h with h
    subst h
    exact mtakeAll_err he
   ·split at h
    ·exact mtakeAll_err h
    ·injection h with h; omega
  ·exact mtakeAll_err h
 ·injection h with h; omega
theorem takeType_err {d : Nat} {b : List UInt8} {k : Int} (h : takeType d b = .error k) : k ≠ 0 := by
 unfold takeType at h
 split at h
 ·rename_i e he
  injection h with h
  subst h
  exact ftake_err he
 ·split at h
  ·injection h with h; omega
  ·cases h
theorem takeHalf_err {d : Nat} {b : List UInt8} {k : Int} (h : takeHalf d b = .error k) : k ≠ 0 := by
 unfold takeHalf at h
 split at h
 ·rename_i e he
  injection h with h
  subst h
  exact ftake_err he
 ·cases h
theorem takeMap_err {d : Nat} {b : List UInt8} {k : Int} (h : takeMap d b = .error k) : k ≠ 0 := by
 unfold takeMap at h
 split at h
 ·rename_i e he
  injection h with h
  subst h
  exact takeHalf_err he
 ·split at h
  ·cases h
  ·split at h
   ·rename_i e he
    injection h with h
    subst h
    exact takeHalf_err he
   ·split at h
    ·injection h with h; omega
    ·cases h
theorem takeFs_err {d : Nat} : ∀ {l : List Int} {b : List UInt8} {k : Int}, takeFs d l b = .error k → k ≠ 0
 | [], b, k, h => by cases h
 | no :: l, b, k, h => by
   unfold takeFs at h
   split at h
   ·injection h with h; omega
   ·split at h
    ·rename_i e he
     injection h with h
     subst h
     exact ftake_err he
    ·split at h
     ·rename_i e he
      injection h with h
      subst h
      exact takeFs_err he
     ·cases h
theorem mdecode_err {d : Int} {b : List UInt8} {k : Int} (h : mdecode d b = .error k) : k ≠ 0 := by
 unfold mdecode at h
 split at h
 ·split at h
  ·rename_i e he
   injection h with h
   subst h
   exact takeType_err he
  ·split at h
   ·rename_i e he
    injection h with h
    subst h
    exact takeMap_err he
   ·split at h
    ·split at h
     ·rename_i e he
      injection h with h
      subst h
      exact takeFs_err he
     ·split at h
      ·cases h
      ·injection h with h; omega
    ·injection h with h; omega
 ·injection h with h; omega
theorem u8_geq {a : Act} {o : Oper} {W : World} {x y : Operand} {i j : Int} {r : Bool} (ho : o.op = .binOp .geq 5 x y 5) (hx : a.eval x = .int .u8 i) (hy : a.eval y = .int .u8 j) (h : decide (j ≤ i) = r) : (execOp a.eval o).run Tryz.prog W = .ok (.value (.bool r)) W := by
 subst h
 unfold execOp
 simp only [ho, hx, hy]
 go_simp
theorem u8_eql {a : Act} {o : Oper} {W : World} {x y : Operand} {t u : TypeId} {i j : Int} {r : Bool} (ho : o.op = .binOp .eql t x y u) (hx : a.eval x = .int .u8 i) (hy : a.eval y = .int .u8 j) (h : decide (i = j) = r) : (execOp a.eval o).run Tryz.prog W = .ok (.value (.bool r)) W := by
 subst h
 unfold execOp
 simp [ho, hx, hy, eqGuard]
 go_simp
 by_cases hij : i = j <;> simp [hij]
theorem u8_rem2 {a : Act} {o : Oper} {W : World} {x : Operand} {n : Nat} (ho : o.op = .binOp .rem 5 x (.const (.int .u8 2)) 5) (hx : a.eval x = .int .u8 (n : Int)) : (execOp a.eval o).run Tryz.prog W = .ok (.value (.int .u8 ((n % 2 : Nat) : Int))) W := by
 unfold execOp
 simp only [ho, hx]
 go_simp
 exact Int.tmod_eq_emod_of_nonneg (by omega)
theorem u8_shr {a : Act} {o : Oper} {W : World} {x y : Operand} {u : TypeId} {n k : Nat} (ho : o.op = .binOp .shr 5 x y u) (hx : a.eval x = .int .u8 (n : Int)) (hy : a.eval y = .int .i64 (k : Int)) (hn : n < 256) (hk : k < 8) : (execOp a.eval o).run Tryz.prog W = .ok (.value (.int .u8 ((n / 2 ^ k : Nat) : Int))) W := by
 unfold execOp
 simp only [ho, hx, hy]
 have hc : k = 0 ∨ k = 1 ∨ k = 2 ∨ k = 3 ∨ k = 4 ∨ k = 5 ∨ k = 6 ∨ k = 7 := by omega
 rcases hc with rfl | rfl | rfl | rfl | rfl | rfl | rfl | rfl <;> go_simp
theorem bs_cell {w : World} {g o n : Nat} {l : List UInt8} (h : Bs w (some ⟨g, o, none⟩) n l) {i : Nat} (hi : i < n) : w.cell? ⟨g, o + i, none⟩ = some (.int .u8 ((l.getD i 0).toNat : Int)) := by
 obtain ⟨g', o', e, hc⟩ := h.2.2 (by omega)
 injection e with e
 injection e with e1 e2
 subst e1 e2
 exact hc i hi
theorem u8_leq {a : Act} {o : Oper} {W : World} {x y : Operand} {i j : Int} {r : Bool} (ho : o.op = .binOp .leq 5 x y 5) (hx : a.eval x = .int .u8 i) (hy : a.eval y = .int .u8 j) (h : decide (i ≤ j) = r) : (execOp a.eval o).run Tryz.prog W = .ok (.value (.bool r)) W := by
 subst h
 unfold execOp
 simp only [ho, hx, hy]
 go_simp
theorem u8_gtr {a : Act} {o : Oper} {W : World} {x y : Operand} {i j : Int} {r : Bool} (ho : o.op = .binOp .gtr 5 x y 5) (hx : a.eval x = .int .u8 i) (hy : a.eval y = .int .u8 j) (h : decide (j < i) = r) : (execOp a.eval o).run Tryz.prog W = .ok (.value (.bool r)) W := by
 subst h
 unfold execOp
 simp only [ho, hx, hy]
 go_simp
theorem wrap_u8 {r : Int} (h : 0 ≤ r ∧ r < 256) : IntKind.u8.wrap r = r := by
 rw [IntKind.wrap_u8]
 omega
theorem u8_sub {a : Act} {o : Oper} {W : World} {x y : Operand} {i j r : Int} (ho : o.op = .binOp .sub 5 x y 5) (hx : a.eval x = .int .u8 i) (hy : a.eval y = .int .u8 j) (h : i - j = r) (hb : 0 ≤ r ∧ r < 256) : (execOp a.eval o).run Tryz.prog W = .ok (.value (.int .u8 r)) W := by
 subst h
 have hw := wrap_u8 hb
 unfold execOp
 simp only [ho, hx, hy]
 go_simp
 try exact hw
theorem u8_add {a : Act} {o : Oper} {W : World} {x y : Operand} {i j r : Int} (ho : o.op = .binOp .add 5 x y 5) (hx : a.eval x = .int .u8 i) (hy : a.eval y = .int .u8 j) (h : i + j = r) (hb : 0 ≤ r ∧ r < 256) : (execOp a.eval o).run Tryz.prog W = .ok (.value (.int .u8 r)) W := by
 subst h
 have hw := wrap_u8 hb
 unfold execOp
 simp only [ho, hx, hy]
 go_simp
 try exact hw
theorem u8_mul {a : Act} {o : Oper} {W : World} {x y : Operand} {i j r : Int} (ho : o.op = .binOp .mul 5 x y 5) (hx : a.eval x = .int .u8 i) (hy : a.eval y = .int .u8 j) (h : i * j = r) (hb : 0 ≤ r ∧ r < 256) : (execOp a.eval o).run Tryz.prog W = .ok (.value (.int .u8 r)) W := by
 subst h
 have hw := wrap_u8 hb
 unfold execOp
 simp only [ho, hx, hy]
 go_simp
 try exact hw
def fmA (m : Fm) : Array Value := #[.int .i64 m.kind, .int .i64 m.size, .int .i64 m.code]
def fm0 : Fm := ⟨0, 0, 0⟩
def formE (dd no : Int) : Fm × Int := if 1 ≤ dd ∧ dd ≤ 3 then match mform dd.toNat no with
 | some m => (m, 0)
 | none => (fm0, 52)
 else (fm0, 50)
theorem fmA_one (m : Fm) : ∀ v ∈ (fmA m).toList, v.oneCell' = true := fun v hv => by
 unfold fmA at hv
 simp only [List.mem_cons, List.not_mem_nil, or_false] at hv
 rcases hv with rfl | rfl | rfl <;> rfl
theorem zero_fm (w : World) : (zeroValue 49).run Tryz.prog w = .ok (.agg (fmA fm0)) w := by kernel_rfl
theorem build_fm0 (W : World) : (Instr.build 49 #[]).run Tryz.prog W = .ok (.agg (fmA fm0)) W := by kernel_rfl
def thereR (no : Int) : Int × Int := (mfind no mrows).getD (0, 0)
theorem there_walk {w : World} {no : Int} : Calls Tryz.prog 31 #[.int .i64 no] w fun e w' => e = .returned (.tuple #[.int .i64 (thereR no).1, .int .i64 (thereR no).2]) ∧ w' = w := by
 by_cases h : no ∈ [(2 : Int), 3, 4, 7, 11, 32, 38, 39, 49, 64, 70, 74, 76, 86, 88, 90, 97]
 ·simp only [List.mem_cons, List.not_mem_nil, or_false] at h
  rcases h with rfl | rfl | rfl | rfl | rfl | rfl | rfl | rfl | rfl | rfl | rfl | rfl | rfl | rfl | rfl | rfl | rfl
  all_goals
   go_enter Tryz.func31, Tryz.ntmps31
   go_wp2
   go_ret2
   exact ⟨rfl, rfl⟩
 ·simp only [List.mem_cons, List.not_mem_nil, or_false, not_or] at h
  obtain ⟨h1, h2, h3, h4, h5, h6, h7, h8, h9, h10, h11, h12, h13, h14, h15, h16, h17⟩ := h
  have hv : thereR no = (0, 0) := by
   unfold thereR mrows
   simp [mfind, Ne.symm h1, Ne.symm h2, Ne.symm h3, Ne.symm h4, Ne.symm h5, Ne.symm h6, Ne.symm h7, Ne.symm h8, Ne.symm h9, Ne.symm h10, Ne.symm h11, Ne.symm h12, Ne.symm h13, Ne.symm h14, Ne.symm h15, Ne.symm h16, Ne.symm h17]
  rw [hv]
  clear hv
  go_enter Tryz.func31, Tryz.ntmps31
  go_wp2
  go_ret2
  exact ⟨rfl, rfl⟩
theorem mfind_pos {no : Int} {r : Int × Int} (h : mfind no mrows = some r) : r.1 ≠ 0 := by
 have := (mrows_all _ (mfind_mem h)).1
 have h2 : (no, r).2.1 = r.1 := rfl
 omega
theorem mfind_four {r : Int × Int} (h : mfind 4 mrows = some r) : r.2 = 12 := by
 have := (mrows_all _ (mfind_mem h)).2.2.1 rfl
 exact this.1
theorem build_fm3 (x y z : Int) (W : World) : (Instr.build 49 #[(0, .int .i64 x), (1, .int .i64 y), (2, .int .i64 z)]).run Tryz.prog W = .ok (.agg (fmA ⟨x, y, z⟩)) W := by kernel_rfl
theorem rForm_walk {w : World} {dd no : Int} :
 Calls Tryz.prog 24 #[.int .i64 dd, .int .i64 no] w fun e w' => e = .returned (.tuple #[.agg (fmA (formE dd no).1), .int .i64 (formE dd no).2]) ∧ Turn nowhere w w' := by
 have hu := (Turn.refl nowhere w).alloc (.cells (fmA fm0) 49)
 have hb := Blk.new w 49 (fmA fm0)
 obtain ⟨gr, hgr⟩ : ∃ gr, gr = w.heap.size := ⟨_, rfl⟩
 rw [← hgr] at hb
 have HGRE := zH hgr
 have HGR := zH (show w.heap.size ≤ gr from by omega)
 have HT0 := zH hu
 have HBgr := zH hb
 clear hu hb hgr
 go_enter Tryz.func24, Tryz.ntmps24
 go_upto_region 1 with fail
 have e2 := HGRE.out
 rw [← e2]
 clear e2 HGRE
 change Code.wp _ _ _ _ (w.alloc (.cells (fmA fm0) 49))
 generalize World.alloc w (.cells (fmA fm0) 49) = w1 at *
 refine wp_region_lit ?_
 refine wM (.int .i64 dd) ?_
 simp only [zz]
 by_cases h1 : dd < 1
 ·have HFX := zH (show formE dd no = (fm0, 50) from by unfold formE; rw [if_neg (by omega)])
  refine wR (v := .bool true) rfl (ix_lss rfl rfl rfl (decide_eq_true h1)) ?_
  simp only [zz]
  refine wM (.bool true) ?_
  simp only [zz]
  refine wpList_skip (by go_simp) ?_
  simp only [zz]
  refine wpList_skip (by go_simp) ?_
  simp only [zz]
  refine wR (v := .bool true) rfl (ix_pickT rfl rfl rfl) ?_
  simp only [zz]
  go_upto_region 2 with fail
  refine wp_region_lit ?_
  refine wR (v := .agg (fmA fm0)) rfl (exec_bld rfl (build_fm0 _)) ?_
  simp only [zz]
  refine wpList_store_row rfl 49 (.tmp 4) (.tmp 14) rfl (fmA fm0) HBgr.out rfl rfl rfl (by rw [size_form]; rfl) (fmA_one _) ?_
  intro w6 hb6 hu6
  have HBZ := zH hb6
  have HUZ := zH (above HT0.out HGR.out hu6)
  clear hb6 hu6
  try simp only [zz]
  refine wA (.int .i64 50) ?_
  simp only [zz]
  go_wp2_with fail
  refine bodyPost_ret (v := .tuple #[.agg (fmA fm0), .int .i64 50]) (ret_cell2 rfl _ _ gr _ _ _ rfl rfl HBZ.out Tryz.underlying49 rfl (by rw [size_form]; rfl)) rfl ?_
  rw [HFX.out]
  exact ⟨rfl, HUZ.out⟩
 ·refine wR (v := .bool false) rfl (ix_lss rfl rfl rfl (decide_eq_false h1)) ?_
  simp only [zz]
  refine wM (.bool false) ?_
  simp only [zz]
  refine wM (.int .i64 dd) ?_
  simp only [zz]
  by_cases h2 : 3 < dd
  ·have HFX := zH (show formE dd no = (fm0, 50) from by unfold formE; rw [if_neg (by omega)])
   refine wR (v := .bool true) rfl (ix_gtr rfl rfl rfl (decide_eq_true h2)) ?_
   simp only [zz]
   refine wR (v := .bool true) rfl (ix_pickF rfl rfl rfl) ?_
   simp only [zz]
   go_upto_region 2 with fail
   refine wp_region_lit ?_
   refine wR (v := .agg (fmA fm0)) rfl (exec_bld rfl (build_fm0 _)) ?_
   simp only [zz]
   refine wpList_store_row rfl 49 (.tmp 4) (.tmp 14) rfl (fmA fm0) HBgr.out rfl rfl rfl (by rw [size_form]; rfl) (fmA_one _) ?_
   intro w6 hb6 hu6
   have HBZ := zH hb6
   have HUZ := zH (above HT0.out HGR.out hu6)
   clear hb6 hu6
   try simp only [zz]
   refine wA (.int .i64 50) ?_
   simp only [zz]
   go_wp2_with fail
   refine bodyPost_ret (v := .tuple #[.agg (fmA fm0), .int .i64 50]) (ret_cell2 rfl _ _ gr _ _ _ rfl rfl HBZ.out Tryz.underlying49 rfl (by rw [size_form]; rfl)) rfl ?_
   rw [HFX.out]
   exact ⟨rfl, HUZ.out⟩
  ·refine wR (v := .bool false) rfl (ix_gtr rfl rfl rfl (decide_eq_false h2)) ?_
   simp only [zz]
   refine wR (v := .bool false) rfl (ix_pickF rfl rfl rfl) ?_
   simp only [zz]
   have hFE : formE dd no = (match mform dd.toNat no with | some m => (m, 0) | none => (fm0, 52)) := by
    unfold formE
    rw [if_pos (by omega)] <;> rfl
   have hd3 : 1 ≤ dd ∧ dd ≤ 3 := by omega
   clear h1 h2
   go_upto_region 3 with fail
   refine wp_region_lit ?_
   refine wM (.int .i64 no) ?_
   simp only [zz]
   refine wpList_op rfl fun K9 HK9 => ?_
   go_wp2_with fail
   refine (there_walk).mono ?_
   rintro e w2 ⟨rfl, rfl⟩
   refine HK9.out _ _ ?_
   clear HK9
   try simp only [zz]
   refine wM (.tuple #[.int .i64 (thereR no).1, .int .i64 (thereR no).2]) ?_
   simp only [zz]
   refine wE (.int .i64 (thereR no).1) ?_
   simp only [zz]
   refine wE (.int .i64 (thereR no).2) ?_
   simp only [zz]
   refine wA (.int .i64 (thereR no).1) ?_
   simp only [zz]
   refine wA (.int .i64 (thereR no).2) ?_
   simp only [zz]
   go_upto_region 4 with fail
   refine wp_region_lit ?_
   refine wM (.int .i64 (thereR no).1) ?_
   simp only [zz]
   cases hm : mfind no mrows with
   | none =>
     have HFX := zH (show formE dd no = (fm0, 52) from by
      rw [hFE]
      unfold mform
      rw [hm]
      rfl)
     have h0 : thereR no = (0, 0) := by
      unfold thereR
      rw [hm]
      rfl
     rw [h0]
     clear h0 hm hFE hd3
     refine wR (v := .bool true) rfl (ix_eql rfl rfl rfl (by decide)) ?_
     simp only [zz]
     go_upto_region 5 with fail
     refine wp_region_lit ?_
     refine wR (v := .agg (fmA fm0)) rfl (exec_bld rfl (build_fm0 _)) ?_
     simp only [zz]
     refine wpList_store_row rfl 49 (.tmp 4) (.tmp 22) rfl (fmA fm0) HBgr.out rfl rfl rfl (by rw [size_form]; rfl) (fmA_one _) ?_
     intro w6 hb6 hu6
     have HBZ := zH hb6
     have HUZ := zH (above HT0.out HGR.out hu6)
     clear hb6 hu6
     try simp only [zz]
     refine wA (.int .i64 52) ?_
     simp only [zz]
     go_wp2_with fail
     refine bodyPost_ret (v := .tuple #[.agg (fmA fm0), .int .i64 52]) (ret_cell2 rfl _ _ gr _ _ _ rfl rfl HBZ.out Tryz.underlying49 rfl (by rw [size_form]; rfl)) rfl ?_
     rw [HFX.out]
     exact ⟨rfl, HUZ.out⟩
   | some r =>
     have h0 : thereR no = r := by
      unfold thereR
      rw [hm]
      rfl
     rw [h0]
     clear h0
     have HR0 := zH (mfind_pos hm)
     obtain ⟨r1, r2⟩ := r
     refine wR (v := .bool false) rfl (ix_eql rfl rfl rfl (decide_eq_false HR0.out)) ?_
     simp only [zz]
     go_upto_region 6 with fail
     refine wp_region_lit ?_
     refine wM (.int .i64 dd) ?_
     simp only [zz]
     by_cases h3 : dd = 3
     ·refine wR (v := .bool true) rfl (ix_eql rfl rfl rfl (decide_eq_true h3)) ?_
      simp only [zz]
      refine wM (.bool true) ?_
      simp only [zz]
      refine wM (.int .i64 no) ?_
      simp only [zz]
      by_cases h4 : no = 4
      ·have HFX := zH (show formE dd no = (⟨r1, 10, dd⟩, 0) from by
        rw [hFE]
        unfold mform
        rw [hm]
        show ((⟨r1, r2 - ((unsaid dd.toNat no).length : Nat), ((dd.toNat : Nat) : Int)⟩ : Fm), (0 : Int)) = _
        rw [show ((dd.toNat : Nat) : Int) = dd from by omega, show unsaid dd.toNat no = [48, 48] from by unfold unsaid; rw [if_pos ⟨by omega, h4⟩], show r2 = 12 from mfind_four (r := (r1, r2)) (h4 ▸ hm)]; rfl)
       refine wR (v := .bool true) rfl (ix_eql rfl rfl rfl (decide_eq_true h4)) ?_
       simp only [zz]
       refine wR (v := .bool true) rfl (ix_pickT rfl rfl rfl) ?_
       simp only [zz]
       clear hFE hm h3 h4 hd3
       go_upto_region 7 with fail
       refine wp_region_lit ?_
       refine wA (.int .i64 10) ?_
       simp only [zz]
       go_upto_region 8 with fail
       refine wp_region_lit ?_
       refine wM (.int .i64 r1) ?_
       simp only [zz]
       refine wM (.int .i64 10) ?_
       simp only [zz]
       refine wM (.int .i64 dd) ?_
       simp only [zz]
       refine wR (v := .agg (fmA ⟨r1, 10, dd⟩)) rfl (exec_build3 rfl rfl rfl rfl (build_fm3 _ _ _ _)) ?_
       simp only [zz]
       refine wpList_store_row rfl 49 (.tmp 4) (.tmp 32) rfl (fmA ⟨r1, 10, dd⟩) HBgr.out rfl rfl rfl (by rw [size_form]; rfl) (fmA_one _) ?_
       intro w6 hb6 hu6
       have HBZ := zH hb6
       have HUZ := zH (above HT0.out HGR.out hu6)
       clear hb6 hu6
       try simp only [zz]
       refine wA (.int .i64 0) ?_
       simp only [zz]
       go_wp2_with fail
       refine bodyPost_ret (v := .tuple #[.agg (fmA ⟨r1, 10, dd⟩), .int .i64 0]) (ret_cell2 rfl _ _ gr _ _ _ rfl rfl HBZ.out Tryz.underlying49 rfl (by rw [size_form]; rfl)) rfl ?_
       rw [HFX.out]
       exact ⟨rfl, HUZ.out⟩
      ·have HFX := zH (show formE dd no = (⟨r1, r2, dd⟩, 0) from by
        rw [hFE]
        unfold mform
        rw [hm]
        show ((⟨r1, r2 - ((unsaid dd.toNat no).length : Nat), ((dd.toNat : Nat) : Int)⟩ : Fm), (0 : Int)) = _
        rw [show ((dd.toNat : Nat) : Int) = dd from by omega, show unsaid dd.toNat no = [] from by unfold unsaid; rw [if_neg (fun h => h4 h.2)], show r2 - (([] : List UInt8).length : Nat) = r2 from by simp])
       refine wR (v := .bool false) rfl (ix_eql rfl rfl rfl (decide_eq_false h4)) ?_
       simp only [zz]
       refine wR (v := .bool false) rfl (ix_pickT rfl rfl rfl) ?_
       simp only [zz]
       clear hFE hm h3 h4 hd3
       go_upto_region 8 with fail
       refine wp_region_lit ?_
       refine wM (.int .i64 r1) ?_
       simp only [zz]
       refine wM (.int .i64 r2) ?_
       simp only [zz]
       refine wM (.int .i64 dd) ?_
       simp only [zz]
       refine wR (v := .agg (fmA ⟨r1, r2, dd⟩)) rfl (exec_build3 rfl rfl rfl rfl (build_fm3 _ _ _ _)) ?_
       simp only [zz]
       refine wpList_store_row rfl 49 (.tmp 4) (.tmp 32) rfl (fmA ⟨r1, r2, dd⟩) HBgr.out rfl rfl rfl (by rw [size_form]; rfl) (fmA_one _) ?_
       intro w6 hb6 hu6
       have HBZ := zH hb6
       have HUZ := zH (above HT0.out HGR.out hu6)
       clear hb6 hu6
       try simp only [zz]
       refine wA (.int .i64 0) ?_
       simp only [zz]
       go_wp2_with fail
       refine bodyPost_ret (v := .tuple #[.agg (fmA ⟨r1, r2, dd⟩), .int .i64 0]) (ret_cell2 rfl _ _ gr _ _ _ rfl rfl HBZ.out Tryz.underlying49 rfl (by rw [size_form]; rfl)) rfl ?_
       rw [HFX.out]
       exact ⟨rfl, HUZ.out⟩
     ·have HFX := zH (show formE dd no = (⟨r1, r2, dd⟩, 0) from by
       rw [hFE]
       unfold mform
       rw [hm]
       show ((⟨r1, r2 - ((unsaid dd.toNat no).length : Nat), ((dd.toNat : Nat) : Int)⟩ : Fm), (0 : Int)) = _
       rw [show ((dd.toNat : Nat) : Int) = dd from by omega, show unsaid dd.toNat no = [] from by unfold unsaid; rw [if_neg (fun h => h3 (by omega))], show r2 - (([] : List UInt8).length : Nat) = r2 from by simp])
      refine wR (v := .bool false) rfl (ix_eql rfl rfl rfl (decide_eq_false h3)) ?_
      simp only [zz]
      refine wM (.bool false) ?_
      simp only [zz]
      refine wpList_skip (by go_simp) ?_
      simp only [zz]
      refine wpList_skip (by go_simp) ?_
      simp only [zz]
      refine wR (v := .bool false) rfl (ix_pickF rfl rfl rfl) ?_
      simp only [zz]
      clear hFE hm h3 hd3
      go_upto_region 8 with fail
      refine wp_region_lit ?_
      refine wM (.int .i64 r1) ?_
      simp only [zz]
      refine wM (.int .i64 r2) ?_
      simp only [zz]
      refine wM (.int .i64 dd) ?_
      simp only [zz]
      refine wR (v := .agg (fmA ⟨r1, r2, dd⟩)) rfl (exec_build3 rfl rfl rfl rfl (build_fm3 _ _ _ _)) ?_
      simp only [zz]
      refine wpList_store_row rfl 49 (.tmp 4) (.tmp 32) rfl (fmA ⟨r1, r2, dd⟩) HBgr.out rfl rfl rfl (by rw [size_form]; rfl) (fmA_one _) ?_
      intro w6 hb6 hu6
      have HBZ := zH hb6
      have HUZ := zH (above HT0.out HGR.out hu6)
      clear hb6 hu6
      try simp only [zz]
      refine wA (.int .i64 0) ?_
      simp only [zz]
      go_wp2_with fail
      refine bodyPost_ret (v := .tuple #[.agg (fmA ⟨r1, r2, dd⟩), .int .i64 0]) (ret_cell2 rfl _ _ gr _ _ _ rfl rfl HBZ.out Tryz.underlying49 rfl (by rw [size_form]; rfl)) rfl ?_
      rw [HFX.out]
      exact ⟨rfl, HUZ.out⟩
theorem ret_cell1 {P : Program} {fn : Func} {p : Tmp} {ty : TypeId} (h : fn.results = #[.cell p ty]) (tmps : Array Value) (w : World) (g : Nat) (t : TypeId) (cs : Array Value) (d : TypeDesc)
 (hp : tmps.getD p undef = .pointer (some ⟨g, 0, none⟩)) (hg : Blk w g t cs) (hu : P.underlying ty = some d) (hd : (match d with | .struct _ | .array _ _ => true | _ => false) = true) (hi : (P.info? ty).map (·.size) = some cs.size) :
 (results fn tmps).run P w = .ok (.agg cs) w := by
 have hp' : tmps[p]?.getD undef = .pointer (some ⟨g, 0, none⟩) := by simpa using hp
 simp only [results, h]
 simp [Sem.run_bind, Result.andThen, hp', asAddr, run_loadVar_row w g t ty cs (0, 0) d hg hu hd hi]
theorem number_walk {w : World} {dd sz : Int} :
 Calls Tryz.prog 22 #[.int .i64 dd, .int .i64 sz] w fun e w' => e = .returned (.agg (fmA ⟨1, sz, dd⟩)) ∧ Turn nowhere w w' := by
 have hu := (Turn.refl nowhere w).alloc (.cells (fmA fm0) 49)
 have hb := Blk.new w 49 (fmA fm0)
 obtain ⟨gr, hgr⟩ : ∃ gr, gr = w.heap.size := ⟨_, rfl⟩
 rw [← hgr] at hb
 have HGRE := zH hgr
 have HGR := zH (show w.heap.size ≤ gr from by omega)
 have HT0 := zH hu
 have HBgr := zH hb
 clear hu hb hgr
 go_enter Tryz.func22, Tryz.ntmps22
 go_upto_region 1 with fail
 have e2 := HGRE.out
 rw [← e2]
 clear e2 HGRE
 change Code.wp _ _ _ _ (w.alloc (.cells (fmA fm0) 49))
 generalize World.alloc w (.cells (fmA fm0) 49) = w1 at *
 refine wp_region_lit ?_
 refine wM (.int .i64 sz) ?_
 simp only [zz]
 refine wM (.int .i64 dd) ?_
 simp only [zz]
 refine wR (v := .agg (fmA ⟨1, sz, dd⟩)) rfl (exec_build3 rfl rfl rfl rfl (build_fm3 _ _ _ _)) ?_
 simp only [zz]
 refine wpList_store_row rfl 49 (.tmp 4) (.tmp 7) rfl (fmA ⟨1, sz, dd⟩) HBgr.out rfl rfl rfl (by rw [size_form]; rfl) (fmA_one _) ?_
 intro w6 hb6 hu6
 have HBZ := zH hb6
 have HUZ := zH (above HT0.out HGR.out hu6)
 clear hb6 hu6
 go_wp2_with fail
 refine bodyPost_ret (v := .agg (fmA ⟨1, sz, dd⟩)) (ret_cell1 rfl _ _ gr _ _ _ rfl HBZ.out Tryz.underlying49 rfl (by rw [size_form]; rfl)) rfl ?_
 exact ⟨rfl, HUZ.out⟩
def kindC : List Value := mtypes.map fun n => .int .i64 n
theorem build_kinds (W : World) : (Instr.buildSlice 63 16 #[(0, .int .i64 100), (1, .int .i64 101), (2, .int .i64 110), (3, .int .i64 200), (4, .int .i64 201), (5, .int .i64 210), (6, .int .i64 220), (7, .int .i64 221), (8, .int .i64 230), (9, .int .i64 420), (10, .int .i64 421), (11, .int .i64 430), (12, .int .i64 500), (13, .int .i64 510), (14, .int .i64 800), (15, .int .i64 810)]).run Tryz.prog W = .ok (.slice (some ⟨W.heap.size, 0, none⟩) 16 16) (W.alloc (.cells kindC.toArray 3)) := by kernel_rfl
theorem bx_slices {P : Program} {a : Act} {o : Oper} {t : TypeId} {n : Nat} {els : Array (Nat × Operand)} {q : Value} {W W' : World} (ho : o.op = .buildSlice t n els) {vs : Array (Nat × Value)} (hv : (els.map fun (i, x) => (i, a.eval x)) = vs) (h : (Instr.buildSlice t n vs).run P W = .ok q W') : (execOp a.eval o).run P W = .ok (.value q) W' := by
 unfold execOp
 simp only [ho, hv, h, Sem.run_bind, Sem.run_pure, Result.andThen_ok]
theorem size_int1 : (Tryz.prog.info? 3).map (·.size) = some 1 := by kernel_rfl
theorem kind_no {n : Int} {k : Nat} (h : (mtypes.take k).contains n = false) {x : Int} (hx : mtypes[k]? = some x) (hne : ¬ x = n) : (mtypes.take (k + 1)).contains n = false := by
 rw [List.take_add_one, hx]
 simp only [List.contains_eq_mem, Option.toList_some, List.mem_append, List.mem_singleton, decide_eq_false_iff_not, not_or] at h ⊢
 exact ⟨h, fun e => hne e.symm⟩
theorem kind_yes {n : Int} {k : Nat} {x : Int} (hx : mtypes[k]? = some x) (he : x = n) : mtypes.contains n = true := by
 subst he
 exact List.contains_iff_mem.2 (List.mem_of_getElem? hx)
theorem kind_walk {w : World} {n : Int} :
 Calls Tryz.prog 26 #[.int .i64 n] w fun e w' => e = .returned (.bool (mtypes.contains n)) ∧ Turn nowhere w w' := by
 go_enter Tryz.func26, Tryz.ntmps26
 go_upto_region 1 with fail
 refine wp_region_lit ?_
 refine wR (v := .slice (some ⟨w.heap.size, 0, none⟩) 16 16) (w' := w.alloc (.cells kindC.toArray 3)) rfl (bx_slices rfl (by simp only [List.map_toArray, List.map_cons, List.map_nil]; rfl) (build_kinds w)) ?_
 simp only [zz]
 have hb := Blk.new w 3 kindC.toArray
 have hu := (Turn.refl nowhere w).alloc (.cells kindC.toArray 3)
 obtain ⟨g, hg⟩ : ∃ g, g = w.heap.size := ⟨_, rfl⟩
 rw [← hg] at hb ⊢
 clear hg
 generalize w.alloc (.cells kindC.toArray 3) = w1 at *
 have HB := zH hb
 have HT0 := zH hu
 clear hb hu
 refine wA (.slice (some ⟨g, 0, none⟩) 16 16) ?_
 simp only [zz]
 go_upto_region 2 with fail
 refine wp_region_lit ?_
 refine wA (.int .i64 0) ?_
 simp only [zz]
 go_wp2_with fail
 go_loopg [4] 16 (fun gk jv wr => ∃ k : Nat, k + gk = 16 ∧ jv = .int .i64 (k : Int) ∧ wr = w1 ∧ (mtypes.take k).contains n = false)
 case atStart => exact ⟨0, by omega, rfl, rfl, rfl⟩
 obtain ⟨k, hk, rfl, rfl, hno⟩ := hrel
 have HK := zH hk
 have HNO := zH hno
 clear hk hno
 go_upto_region 3 with fail
 refine wp_region_lit ?_
 refine wM (.int .i64 (k : Int)) ?_
 simp only [zz]
 refine wM (.slice (some ⟨g, 0, none⟩) 16 16) ?_
 simp only [zz]
 refine wR (v := .int .i64 16) rfl (gx_len rfl rfl Tryz.underlying63) ?_
 simp only [zz]
 by_cases hlt : k < 16
 ·refine wR (v := .bool true) rfl (ix_lss rfl rfl rfl (decide_eq_true (by omega))) ?_
  simp only [zz]
  have HLT := zH hlt
  have y1 : (k : Int) < 16 := by omega
  obtain ⟨x, hx⟩ : ∃ x, mtypes[k]? = some x := ⟨_, List.getElem?_eq_getElem (show k < mtypes.length from hlt)⟩
  have HX := zH hx
  have HCE := zH (show World.cell? wr ⟨g, 0 + k * 1, none⟩ = some (.int .i64 x) from by
   rw [show 0 + k * 1 = k from by omega, HB.out.cell]
   show (mtypes.map fun n => Value.int .i64 n).toArray[k]? = _
   rw [List.getElem?_toArray, List.getElem?_map, hx]
   rfl)
  clear hlt hx
  go_upto_region 5 with fail
  refine wp_region_lit ?_
  refine wM (.slice (some ⟨g, 0, none⟩) 16 16) ?_
  simp only [zz]
  refine wM (.int .i64 (k : Int)) ?_
  simp only [zz]
  refine wR (v := .pointer (some ⟨g, 0 + k * 1, none⟩)) rfl (gx_iaddr (i := k) (sz := 1) rfl rfl rfl Tryz.underlying63 size_int1 HLT.out rfl) ?_
  simp only [zz]
  refine wR (v := .int .i64 x) rfl (exec_load1 rfl rfl (by kernel_rfl) HCE.out) ?_
  simp only [zz]
  refine wM (.int .i64 n) ?_
  simp only [zz]
  by_cases heq : x = n
  ·refine wR (v := .bool true) rfl (ix_eql rfl rfl rfl (decide_eq_true heq)) ?_
   simp only [zz]
   have HC := zH (kind_yes HX.out heq)
   clear heq
   go_wp2_with fail
   go_ret
   rw [HC.out]
   exact ⟨rfl, HT0.out⟩
  ·refine wR (v := .bool false) rfl (ix_eql rfl rfl rfl (decide_eq_false heq)) ?_
   simp only [zz]
   have HN2 := zH (kind_no HNO.out HX.out heq)
   clear heq
   go_wp2_with fail
   go_roundg (gk - 1)
   case measure => have := HK.out; have := HLT.out; omega
   case rel => exact ⟨k + 1, by have := HK.out; have := HLT.out; omega, by go_num, rfl, HN2.out⟩
 ·refine wR (v := .bool false) rfl (ix_lss rfl rfl rfl (decide_eq_false (by omega))) ?_
  simp only [zz]
  have HC := zH (show mtypes.contains n = false from by
   have h1 := HNO.out
   rwa [List.take_of_length_le (show mtypes.length ≤ k from by show 16 ≤ k; omega)] at h1)
  clear hlt
  go_wp2_with fail
  go_ret
  rw [HC.out]
  exact ⟨rfl, HT0.out⟩
theorem own_of {w : World} {g B : Nat} {l : List UInt8} (h : Blk w g 5 (bcs l).toArray) (hB : B ≤ g) (hm : l.length ≤ maxLen) : Own w B 5 (.slice (some ⟨g, 0, none⟩) l.length l.length) l := by
 refine ⟨by rw [bcs_length, Nat.mul_one], .inr ⟨g, l.length, _, rfl, hB, h, Nat.le_refl _, hm, ?_, ?_⟩⟩
 ·rw [List.size_toArray, bcs_length, Nat.mul_one]
 ·show List.take _ (bcs l) = _
  rw [List.take_of_length_le (by rw [bcs_length]; omega)]
theorem ver_z {d : Nat} (hd : 1 ≤ d ∧ d ≤ 3) : ver d = [([48, 48, 49, 57] : List UInt8).getD d 0] := by
 have hc : d = 1 ∨ d = 2 ∨ d = 3 := by omega
 rcases hc with rfl | rfl | rfl <;> rfl
theorem build_3u (x y z : Int) (W : World) : (Instr.buildSlice 26 3 #[(0, .int .u8 x), (1, .int .u8 y), (2, .int .u8 z)]).run Tryz.prog W = .ok (.slice (some ⟨W.heap.size, 0, none⟩) 3 3) (W.alloc (.cells #[.int .u8 x, .int .u8 y, .int .u8 z] 5)) := by kernel_rfl
theorem head_walk {w : World} {d ty : Nat} (hd : 1 ≤ d ∧ d ≤ 3) (ht : ty ≤ 999) :
 Calls Tryz.prog 23 #[.int .i64 (d : Int), .int .i64 (ty : Int)] w fun e w' => e = .returned (strV (ver d ++ dig3 ty)) ∧ Turn nowhere w w' := by
 have HV := zH (ver_z hd)
 have y1 : d < 4 := by omega
 have HT := zH ht
 clear hd
 go_enter Tryz.func23, Tryz.ntmps23
 go_upto_region 1 with fail
 refine wp_region_lit ?_
 refine wA (strV [48, 48, 49, 57]) ?_
 simp only [zz]
 go_upto_region 2 with fail
 refine wp_region_lit ?_
 refine wM (strV [48, 48, 49, 57]) ?_
 simp only [zz]
 refine wM (.int .i64 (d : Int)) ?_
 simp only [zz]
 refine wR (v := .int .u8 ((([48, 48, 49, 57] : List UInt8).getD d 0).toNat : Int)) rfl (exec_sidx (l := [48, 48, 49, 57]) (i := d) rfl rfl rfl y1) ?_
 simp only [zz]
 obtain ⟨z, hz⟩ : ∃ z, z = ([48, 48, 49, 57] : List UInt8).getD d 0 := ⟨_, rfl⟩
 rw [← hz] at HV ⊢
 clear hz
 refine wR (v := .slice (some ⟨w.heap.size, 0, none⟩) 1 1) (w' := w.alloc (.cells (bcs [z]).toArray 5)) rfl (exec_one (z := z) rfl rfl) ?_
 simp only [zz]
 have hb := Blk.new w 5 (bcs [z]).toArray
 have hu := (Turn.refl nowhere w).alloc (.cells (bcs [z]).toArray 5)
 obtain ⟨g, hg⟩ : ∃ g, g = w.heap.size := ⟨_, rfl⟩
 rw [← hg] at hb ⊢
 have HG := zH (show w.heap.size ≤ g from by omega)
 clear hg
 generalize w.alloc (.cells (bcs [z]).toArray 5) = w1 at *
 have HB := zH hb
 have HU := zH hu
 clear hb hu
 refine wA (.slice (some ⟨g, 0, none⟩) 1 1) ?_
 simp only [zz]
 go_upto_region 3 with fail
 refine wp_region_lit ?_
 refine wM (.slice (some ⟨g, 0, none⟩) 1 1) ?_
 simp only [zz]
 refine wM (.int .i64 (ty : Int)) ?_
 simp only [zz]
 refine wR (v := .int .i64 ((ty / 100 : Nat) : Int)) rfl (ix_quo (n := ty) (m := 100) rfl rfl rfl (by decide) (by have := HT.out; omega)) ?_
 simp only [zz]
 refine wR (v := .int .i64 ((48 + ty / 100 : Nat) : Int)) rfl (ix_add rfl rfl rfl (by omega) (by have := HT.out; omega)) ?_
 simp only [zz]
 refine wR (v := .int .u8 (((UInt8.ofNat (48 + ty / 100)).toNat : Nat) : Int)) rfl (ix_i2b (k := 48 + ty / 100) rfl rfl) ?_
 simp only [zz]
 refine wM (.int .i64 (ty : Int)) ?_
 simp only [zz]
 refine wR (v := .int .i64 ((ty / 10 : Nat) : Int)) rfl (ix_quo (n := ty) (m := 10) rfl rfl rfl (by decide) (by have := HT.out; omega)) ?_
 simp only [zz]
 refine wR (v := .int .i64 ((ty / 10 % 10 : Nat) : Int)) rfl (ix_rem (n := ty / 10) (m := 10) rfl rfl rfl (by decide) (by have := HT.out; omega)) ?_
 simp only [zz]
 refine wR (v := .int .i64 ((48 + ty / 10 % 10 : Nat) : Int)) rfl (ix_add rfl rfl rfl (by omega) (by omega)) ?_
 simp only [zz]
 refine wR (v := .int .u8 (((UInt8.ofNat (48 + ty / 10 % 10)).toNat : Nat) : Int)) rfl (ix_i2b (k := 48 + ty / 10 % 10) rfl rfl) ?_
 simp only [zz]
 refine wM (.int .i64 (ty : Int)) ?_
 simp only [zz]
 refine wR (v := .int .i64 ((ty % 10 : Nat) : Int)) rfl (ix_rem (n := ty) (m := 10) rfl rfl rfl (by decide) (by have := HT.out; omega)) ?_
 simp only [zz]
 refine wR (v := .int .i64 ((48 + ty % 10 : Nat) : Int)) rfl (ix_add rfl rfl rfl (by omega) (by omega)) ?_
 simp only [zz]
 refine wR (v := .int .u8 (((UInt8.ofNat (48 + ty % 10)).toNat : Nat) : Int)) rfl (ix_i2b (k := 48 + ty % 10) rfl rfl) ?_
 simp only [zz]
 refine wR (v := .slice (some ⟨w1.heap.size, 0, none⟩) 3 3) (w' := w1.alloc (.cells (bcs (dig3 ty)).toArray 5)) rfl (bx_slice3 rfl rfl rfl rfl (build_3u _ _ _ w1)) ?_
 simp only [zz]
 have hu2 := (Turn.refl nowhere w1).alloc (.cells (bcs (dig3 ty)).toArray 5)
 have hs2 := bs_blk (Blk.new w1 5 (bcs (dig3 ty)).toArray) (n := 3) rfl (by unfold maxLen; omega)
 have ho2 := own_still (own_of HB.out HG.out (by unfold maxLen; simp)) hu2
 obtain ⟨g2, hg2⟩ : ∃ g, g = w1.heap.size := ⟨_, rfl⟩
 rw [← hg2] at hs2 ⊢
 clear hg2
 generalize w1.alloc (.cells (bcs (dig3 ty)).toArray 5) = w2 at *
 refine wpList_append_bytes w2 rfl _ _ _ rfl w.heap.size 5 byteInfo Tryz.underlying26 _ [z] rfl ho2 _ 3 3 (dig3 ty) rfl hs2 (fun h => by cases h) (by simp) (Nat.le_trans HU.out.size hu2.size) ?_
 intro v3 w3 ho3 hb3
 obtain ⟨A3, n3, c3, rfl, hs3, _, _⟩ := ho3.form
 simp only [zz]
 have HS3 := zH hs3
 have HT3 := zH (Turn.of_below (((HU.out.next hu2).below (Nat.le_refl _) (fun _ _ e=>e)).trans hb3) (Nat.le_refl _))
 clear ho2 hs2 ho3 hb3 hs3 hu2
 refine wR (v := strV ([z] ++ dig3 ty)) rfl (exec_strBs (l := [z] ++ dig3 ty) rfl rfl HS3.out) ?_
 simp only [zz]
 refine wA (strV ([z] ++ dig3 ty)) ?_
 simp only [zz]
 go_wp2_with fail
 go_ret
 rw [HV.out]
 exact ⟨rfl, HT3.out⟩
theorem blk_byte {W : World} {g : Nat} {t : TypeId} {l : List UInt8} (h : Blk W g t (bcs l).toArray) {i : Nat} (hi : i < l.length) : W.cell? ⟨g, i, none⟩ = some (.int .u8 ((l.getD i 0).toNat : Int)) := by
 rw [h.cell]
 simpa using bcs_at l i hi
theorem mbcs_set (l : List UInt8) (i : Nat) (x : UInt8) : (bcs l).toArray.setIfInBounds i (.int .u8 (x.toNat : Int)) = (bcs (l.set i x)).toArray := by
 rw [List.setIfInBounds_toArray]
 unfold bcs
 rw [List.map_set]
theorem bcs_size (l : List UInt8) : (bcs l).toArray.size = l.length := by rw [List.size_toArray, bcs_length]
theorem size_byte1 : (Tryz.prog.info? 5).map (·.size) = some 1 := by kernel_rfl
theorem hx_all : ∀ n : Nat, n < 256 → ((48 ≤ n ∧ n ≤ 57) → hexU.contains (UInt8.ofNat n) = true ∧ hxv (UInt8.ofNat n) = n - 48) ∧ ((65 ≤ n ∧ n ≤ 70) → hexU.contains (UInt8.ofNat n) = true ∧ hxv (UInt8.ofNat n) = n - 55) ∧ (¬ (48 ≤ n ∧ n ≤ 57) → ¬ (65 ≤ n ∧ n ≤ 70) → hexU.contains (UInt8.ofNat n) = false) := by decide +kernel
theorem hx_dig {x : UInt8} (h : 48 ≤ x.toNat ∧ x.toNat ≤ 57) : hexU.contains x = true ∧ hxv x = x.toNat - 48 := by
 have := (hx_all x.toNat x.toNat_lt).1 h
 rwa [UInt8.ofNat_toNat] at this
theorem hx_let {x : UInt8} (h : 65 ≤ x.toNat ∧ x.toNat ≤ 70) : hexU.contains x = true ∧ hxv x = x.toNat - 55 := by
 have := (hx_all x.toNat x.toNat_lt).2.1 h
 rwa [UInt8.ofNat_toNat] at this
theorem hx_not {x : UInt8} (h : ¬ (48 ≤ x.toNat ∧ x.toNat ≤ 57)) (h2 : ¬ (65 ≤ x.toNat ∧ x.toNat ≤ 70)) : hexU.contains x = false := by
 have := (hx_all x.toNat x.toNat_lt).2.2 h h2
 rwa [UInt8.ofNat_toNat] at this
theorem take_oneE {b : List UInt8} {n : Nat} (h : n < b.length) : b.take (n + 1) = b.take n ++ [b.getD n 0] := by
 rw [List.take_add_one, List.getElem?_eq_getElem h, List.getD_eq_getElem?_getD, List.getElem?_eq_getElem h]
 rfl
theorem set_mid (s t : List UInt8) (a x : UInt8) {q : Nat} (h : s.length = q) : (s ++ a :: t).set q x = s ++ x :: t := by
 subst h
 simp [List.set_append]
theorem hxv_le (c : UInt8) : hxv c ≤ 16 := List.idxOf_le_length
def outL (b : List UInt8) (i : Nat) : List UInt8 := pkU (b.take i) ++ List.replicate (8 - (i + 1) / 2) 0
theorem outL_step {b : List UInt8} {i : Nat} (hi : i < 16) (hb : 16 ≤ b.length) : (outL b i).length = 8 ∧ ((outL b i).getD (i / 2) 0).toNat ≤ 16 ∧ (outL b i).set (i / 2) (UInt8.ofNat (((outL b i).getD (i / 2) 0).toNat * 16 + hxv (b.getD i 0))) = outL b (i + 1) := by
 unfold outL
 obtain ⟨q, hq⟩ : ∃ q, q = i / 2 := ⟨_, rfl⟩
 have hc : i = 2 * q ∨ i = 2 * q + 1 := by omega
 rcases hc with rfl | rfl
 ·have hl : (b.take (2 * q)).length = 2 * q := by rw [List.length_take]; omega
  obtain ⟨h1, h2⟩ := pkU_even (b.getD (2 * q) 0) q (b.take (2 * q)) hl
  rw [take_oneE (by omega), h1, show 2 * q / 2 = q from by omega, show (2 * q + 1) / 2 = q from by omega, show (2 * q + 1 + 1) / 2 = q + 1 from by omega, gd_right (by omega), h2, Nat.sub_self, show 8 - q = (7 - q) + 1 from by omega, List.replicate_succ, set_mid _ _ _ _ h2]
  refine ⟨by rw [List.length_append, h2, List.length_cons, List.length_replicate]; omega, (by show (0 : UInt8).toNat ≤ 16; decide), ?_⟩
  show pkU (b.take (2 * q)) ++ UInt8.ofNat (0 * 16 + hxv (b.getD (2 * q) 0)) :: List.replicate (7 - q) 0 = _
  rw [Nat.zero_mul, Nat.zero_add, List.append_assoc, show 8 - (q + 1) = 7 - q from by omega]
  rfl
 ·have hl : (b.take (2 * q)).length = 2 * q := by rw [List.length_take]; omega
  obtain ⟨h1, h2⟩ := pkU_even (b.getD (2 * q) 0) q (b.take (2 * q)) hl
  have h3 := pkU_odd (b.getD (2 * q) 0) (b.getD (2 * q + 1) 0) q (b.take (2 * q)) hl
  have hv := hxv_le (b.getD (2 * q) 0)
  rw [take_oneE (n := 2 * q + 1) (by omega), take_oneE (n := 2 * q) (by omega), h1, h3, show (2 * q + 1) / 2 = q from by omega, show (2 * q + 1 + 1) / 2 = q + 1 from by omega, show (2 * q + 1 + 1 + 1) / 2 = q + 1 from by omega,
   List.append_assoc, gd_right (by omega), h2, Nat.sub_self, List.singleton_append, set_mid _ _ _ _ h2]
  refine ⟨by rw [List.length_append, h2, List.length_cons, List.length_replicate]; omega, ?_, ?_⟩
  ·show (UInt8.ofNat (hxv (b.getD (2 * q) 0))).toNat ≤ 16
   rw [UInt8.toNat_ofNat', Nat.mod_eq_of_lt (by omega)]
   exact hv
  ·show pkU (b.take (2 * q)) ++ UInt8.ofNat ((UInt8.ofNat (hxv (b.getD (2 * q) 0))).toNat * 16 + hxv (b.getD (2 * q + 1) 0)) :: List.replicate (8 - (q + 1)) 0 = _
   rw [UInt8.toNat_ofNat', Nat.mod_eq_of_lt (by omega), List.append_assoc]
   rfl
theorem only_stepE {b : List UInt8} {i : Nat} (hi : i < b.length) (h : onlyOf (b.take i) hexU = true) (hx : hexU.contains (b.getD i 0) = true) : onlyOf (b.take (i + 1)) hexU = true := by
 rw [take_oneE hi]
 unfold onlyOf at h ⊢
 rw [List.all_append, h, List.all_cons, hx]
 rfl
theorem only_notE {b : List UInt8} {i : Nat} (hi : i < 16) (hb : 16 ≤ b.length) (hx : hexU.contains (b.getD i 0) = false) : ¬ onlyOf (b.take 16) hexU = true := by
 intro h
 have := List.all_eq_true.1 h (b.getD i 0) (by
  have h1 : (b.take 16)[i]? = some (b.getD i 0) := by
   rw [List.getElem?_take, if_pos hi, List.getD_eq_getElem?_getD, List.getElem?_eq_getElem (by omega)]
   rfl
  exact List.mem_of_getElem? h1)
 rw [hx] at this
 cases this
theorem mk8 (W : World) : (Instr.makeSlice 26 (.int .i64 8) (.int .i64 8)).run Tryz.prog W = .ok (.slice (some ⟨W.heap.size, 0, none⟩) 8 8) (W.alloc (.cells (bcs (List.replicate 8 0)).toArray 5)) := by kernel_rfl
theorem blk_bs {w : World} {g : Nat} {l : List UInt8} (h : Blk w g 5 (bcs l).toArray) (hl : l.length = 8) : Bs w (some ⟨g, 0, none⟩) 8 l := ⟨hl, by unfold maxLen; omega, fun _ => ⟨g, 0, rfl, fun i hi => by
 rw [Nat.zero_add]
 exact blk_byte h (by omega)⟩⟩
theorem outL_15 {b : List UInt8} {i : Nat} (hi : i < 16) (hb : 16 ≤ b.length) (h : onlyOf (b.take i) hexU = true) : ((outL b i).getD (i / 2) 0).toNat ≤ 15 := by
 unfold outL
 obtain ⟨q, hq⟩ : ∃ q, q = i / 2 := ⟨_, rfl⟩
 have hc : i = 2 * q ∨ i = 2 * q + 1 := by omega
 rcases hc with rfl | rfl
 ·have hl : (b.take (2 * q)).length = 2 * q := by rw [List.length_take]; omega
  obtain ⟨h1, h2⟩ := pkU_even (b.getD (2 * q) 0) q (b.take (2 * q)) hl
  rw [show 2 * q / 2 = q from by omega, show (2 * q + 1) / 2 = q from by omega, gd_right (by omega), h2, Nat.sub_self, show 8 - q = (7 - q) + 1 from by omega, List.replicate_succ]
  show (0 : UInt8).toNat ≤ 15
  decide
 ·have hl : (b.take (2 * q)).length = 2 * q := by rw [List.length_take]; omega
  obtain ⟨h1, h2⟩ := pkU_even (b.getD (2 * q) 0) q (b.take (2 * q)) hl
  have hm : b.getD (2 * q) 0 ∈ hexU := by
   refine onlyOf_mem h ?_
   rw [take_oneE (n := 2 * q) (by omega)]
   exact List.mem_append_right _ (List.mem_singleton.2 rfl)
  have hv := (hxv_one hm).2
  rw [take_oneE (n := 2 * q) (by omega), h1, show (2 * q + 1) / 2 = q from by omega, List.append_assoc, gd_right (by omega), h2, Nat.sub_self]
  show (UInt8.ofNat (hxv (b.getD (2 * q) 0))).toNat ≤ 15
  rw [UInt8.toNat_ofNat', Nat.mod_eq_of_lt (by omega)]
  omega
theorem exec_mk {a : Act} {o : Oper} {W W' : World} {t : TypeId} {x y : Operand} {u v r : Value} (ho : o.op = .makeSlice t x y) (hx : a.eval x = u) (hy : a.eval y = v) (h : (Instr.makeSlice t u v).run Tryz.prog W = .ok r W') : (execOp a.eval o).run Tryz.prog W = .ok (.value r) W' := by
 unfold execOp
 simp only [ho, hx, hy, h, Sem.run_bind, Sem.run_pure, Result.andThen_ok]
def EightP (r : Except Int (Nat × List UInt8)) (w : World) (e : Ending) (w' : World) : Prop := match r with
 | .error k => e = .returned (.tuple #[.slice none 0 0, .slice none 0 0, .int .i64 k]) ∧ Turn nowhere w w'
 | .ok (h, b) => ∃ A1 c1 A2 n2 c2, e = .returned (.tuple #[.slice A1 8 c1, .slice A2 n2 c2, .int .i64 0]) ∧ Bs w' A1 8 (be 8 h) ∧ 8 ≤ c1 ∧ h < 2 ^ 64 ∧ Bs w' A2 n2 b ∧ n2 ≤ c2 ∧ (A2 = none → c2 = 0) ∧ n2 ≤ 140737488355328 ∧ Turn nowhere w w'
theorem fromA_none {A : Option Addr} {c d : Nat} (h : fromA A c d = none) : A = none := by
 unfold fromA at h
 split at h
 ·exact h
 ·cases A with
  | none => rfl
  | some a => cases h
theorem eight_walk {w : World} {d : Nat} {A : Option Addr} {n c : Nat} {b : List UInt8} (hd : 1 ≤ d ∧ d ≤ 3) (hb : Bs w A n b) (hnc : n ≤ c) (hz : A = none → c = 0) (hn : n ≤ 140737488355328) :
 Calls Tryz.prog 30 #[.int .i64 (d : Int), .slice A n c] w (EightP (takeHalf d b) w) := by
 have HB := zH hb
 have HL := zH hb.1
 have HZ := zH hz
 have HNC := zH hnc
 have HN := zH hn
 have y9 : (n : Int) ≤ 140737488355328 := by omega
 clear hb hnc hz hn
 go_enter Tryz.func30, Tryz.ntmps30
 go_upto_region 1 with fail
 refine wp_region_lit ?_
 refine wM (.int .i64 (d : Int)) ?_
 simp only [zz]
 by_cases h1 : d = 1
 ·subst h1
  refine wR (v := .bool false) rfl (ix_neq rfl rfl rfl (by decide)) ?_
  simp only [zz]
  go_upto_region 5 with fail
  refine wp_region_lit ?_
  refine wM (.slice A n c) ?_
  simp only [zz]
  refine wR (v := .int .i64 (n : Int)) rfl (gx_len rfl rfl Tryz.underlying26) ?_
  simp only [zz]
  by_cases hs : n < 16
  ·refine wR (v := .bool true) rfl (ix_lss rfl rfl rfl (decide_eq_true (by omega))) ?_
   simp only [zz]
   have HE := zH (show takeHalf 1 b = .error 43 from by rw [half_1, if_pos (by rw [HL.out]; exact hs)])
   clear hs
   go_upto_region 6 with fail
   refine wp_region_lit ?_
   refine wA (.slice none 0 0) ?_
   simp only [zz]
   refine wA (.slice none 0 0) ?_
   simp only [zz]
   refine wA (.int .i64 43) ?_
   simp only [zz]
   go_wp2_with fail
   go_ret3
   rw [HE.out]
   exact ⟨rfl, Turn.refl _ _⟩
  ·refine wR (v := .bool false) rfl (ix_lss rfl rfl rfl (decide_eq_false (by omega))) ?_
   simp only [zz]
   have HS := zH (show 16 ≤ b.length from by rw [HL.out]; omega)
   have y8 : (16 : Int) ≤ (n : Int) := by omega
   have HH := zH (show takeHalf 1 b = if onlyOf (b.take 16) hexU = true then .ok (hexF (b.take 16), b.drop 16) else .error 42 from by rw [half_1, if_neg (by rw [HL.out]; exact hs)])
   clear hs
   go_upto_region 7 with fail
   refine wp_region_lit ?_
   refine wR (v := .slice (some ⟨w.heap.size, 0, none⟩) 8 8) (w' := w.alloc (.cells (bcs (List.replicate 8 0)).toArray 5)) rfl (exec_mk rfl rfl rfl (mk8 _)) ?_
   simp only [zz]
   have hb0 := Blk.new w 5 (bcs (List.replicate 8 0)).toArray
   have hu0 := (Turn.refl nowhere w).alloc (.cells (bcs (List.replicate 8 0)).toArray 5)
   obtain ⟨go, hgo⟩ : ∃ g, g = w.heap.size := ⟨_, rfl⟩
   rw [← hgo] at hb0 ⊢
   have HGO := zH (show w.heap.size ≤ go from by omega)
   clear hgo
   have HB0 := zH hb0
   have HU0 := zH hu0
   clear hb0 hu0
   generalize w.alloc (.cells (bcs (List.replicate 8 0)).toArray 5) = w1 at *
   refine wA (.slice (some ⟨go, 0, none⟩) 8 8) ?_
   simp only [zz]
   go_upto_region 8 with fail
   refine wp_region_lit ?_
   refine wA (.int .i64 0) ?_
   simp only [zz]
   go_wp2_with fail
   go_loopg [8] 16 (fun gk iv wr => ∃ i : Nat, i + gk = 16 ∧ iv = .int .i64 (i : Int) ∧ onlyOf (b.take i) hexU = true ∧ Blk wr go 5 (bcs (outL b i)).toArray ∧ Turn nowhere w wr)
   case atStart => exact ⟨0, by omega, rfl, by rw [List.take_zero]; rfl, by rw [show outL b 0 = List.replicate 8 0 from by unfold outL; rw [List.take_zero]; rfl]; exact HB0.out, HU0.out⟩
   obtain ⟨i, hig, rfl, hon, hbk, htr⟩ := hrel
   have HIG := zH hig
   have HON := zH hon
   have HBK := zH hbk
   have HTR := zH htr
   clear hig hon hbk htr
   go_upto_region 9 with fail
   refine wp_region_lit ?_
   refine wM (.int .i64 (i : Int)) ?_
   simp only [zz]
   by_cases hlt : i < 16
   ·have HLT := zH hlt
    have y1 : (i : Int) < 16 := by omega
    have HST := zH (outL_step (b := b) hlt HS.out)
    obtain ⟨bA, oA, rfl, hcell⟩ := HB.out.2.2 (by omega)
    have HCL := zH (show wr.cell? ⟨bA, oA + i * 1, none⟩ = some (.int .u8 ((b.getD i 0).toNat : Int)) from by rw [Nat.mul_one]; exact (HTR.out.cell (World.block_lt_of_cell? _ _ (hcell i (by omega))) (fun e => e)).trans (hcell i (by omega)))
    have HXT := zH (UInt8.toNat_lt (b.getD i 0))
    have HDG := zH (fun h => hx_dig (x := b.getD i 0) h)
    have HLE := zH (fun h => hx_let (x := b.getD i 0) h)
    have HNO := zH (fun h h2 => only_notE (b := b) hlt HS.out (hx_not (x := b.getD i 0) h h2))
    have HOS := zH (fun h => only_stepE (b := b) (i := i) (by have := HS.out; omega) HON.out h)
    clear hcell hlt
    obtain ⟨old, hold⟩ : ∃ o, o = (outL b i).getD (i / 2) 0 := ⟨_, rfl⟩
    have HOLD := zH hold
    have HCO := zH (show wr.cell? ⟨go, 0 + i / 2 * 1, none⟩ = some (.int .u8 (old.toNat : Int)) from by rw [hold, Nat.zero_add, Nat.mul_one]; exact blk_byte HBK.out (by rw [HST.out.1]; omega))
    have HOL := zH (show old.toNat ≤ 16 from by rw [hold]; exact HST.out.2.1)
    clear hold
    generalize (b.getD i 0) = x at *
    obtain ⟨xn, hxn⟩ : ∃ k, k = x.toNat := ⟨_, rfl⟩
    have HXN := zH hxn
    rw [← hxn] at HCL HXT HDG HLE HNO
    have y2 : (xn : Int) < 256 := by have := HXT.out; omega
    clear hxn
    refine wR (v := .bool true) rfl (ix_lss rfl rfl rfl (decide_eq_true y1)) ?_
    simp only [zz]
    go_upto_region 11 with fail
    refine wp_region_lit ?_
    refine wM (.slice (some ⟨bA, oA, none⟩) n c) ?_
    simp only [zz]
    refine wM (.int .i64 (i : Int)) ?_
    simp only [zz]
    refine wR (v := .pointer (some ⟨bA, oA + i * 1, none⟩)) rfl (gx_iaddr (i := i) (sz := 1) rfl rfl rfl Tryz.underlying26 size_byte1 (by omega) (by omega)) ?_
    simp only [zz]
    refine wR (v := .int .u8 (xn : Int)) rfl (exec_load1 rfl rfl (by kernel_rfl) HCL.out) ?_
    simp only [zz]
    refine wA (.int .u8 (xn : Int)) ?_
    simp only [zz]
    go_upto_region 12 with fail
    refine wp_region_lit ?_
    refine wA (.int .u8 0) ?_
    simp only [zz]
    go_upto_region 14 with fail
    refine wp_region_lit ?_
    refine wM (.int .u8 (xn : Int)) ?_
    simp only [zz]
    have HO15 := zH (show old.toNat ≤ 15 from by rw [HOLD.out]; exact outL_15 HLT.out HS.out HON.out)
    by_cases hd1 : 48 ≤ xn
    ·refine wR (v := .bool true) rfl (u8_geq rfl rfl rfl (decide_eq_true (by omega))) ?_
     simp only [zz]
     refine wM (.bool true) ?_
     simp only [zz]
     refine wM (.int .u8 (xn : Int)) ?_
     simp only [zz]
     by_cases hd2 : xn ≤ 57
     ·refine wR (v := .bool true) rfl (u8_leq rfl rfl rfl (decide_eq_true (by omega))) ?_
      simp only [zz]
      refine wR (v := .bool true) rfl (ix_pickT rfl rfl rfl) ?_
      simp only [zz]
      refine wA (.bool true) ?_
      simp only [zz]
      have HX := zH (HDG.out ⟨hd1, hd2⟩)
      have HON2 := zH (HOS.out HX.out.1)
      go_upto_region 15 with fail
      refine wp_region_lit ?_
      refine wM (.int .u8 (xn : Int)) ?_
      simp only [zz]
      refine wR (v := .int .u8 ((xn - 48 : Nat) : Int)) rfl (u8_sub rfl rfl rfl (by omega) (by omega)) ?_
      simp only [zz]
      refine wA (.int .u8 ((xn - 48 : Nat) : Int)) ?_
      simp only [zz]
      have HVL := zH (show xn - 48 ≤ 15 from by omega)
      have HNW := zH (show UInt8.ofNat (old.toNat * 16 + (xn - 48)) = UInt8.ofNat (old.toNat * 16 + hxv x) from by rw [HX.out.2])
      have y3 : (old.toNat : Int) ≤ 16 := by have := HOL.out; omega
      have y4 : (old.toNat : Int) ≤ 15 := by have := HO15.out; omega
      go_upto_region 18 with fail
      refine wp_region_lit ?_
      refine wM (.slice (some ⟨go, 0, none⟩) 8 8) ?_
      simp only [zz]
      refine wM (.int .i64 (i : Int)) ?_
      simp only [zz]
      refine wR (v := .int .i64 ((i / 2 : Nat) : Int)) rfl (ix_quo (n := i) (m := 2) rfl rfl rfl (by decide) (by omega)) ?_
      simp only [zz]
      refine wM (.slice (some ⟨go, 0, none⟩) 8 8) ?_
      simp only [zz]
      refine wM (.int .i64 (i : Int)) ?_
      simp only [zz]
      refine wR (v := .int .i64 ((i / 2 : Nat) : Int)) rfl (ix_quo (n := i) (m := 2) rfl rfl rfl (by decide) (by omega)) ?_
      simp only [zz]
      refine wR (v := .pointer (some ⟨go, 0 + i / 2 * 1, none⟩)) rfl (gx_iaddr (i := i / 2) (sz := 1) rfl rfl rfl Tryz.underlying26 size_byte1 (by omega) (by omega)) ?_
      simp only [zz]
      refine wR (v := .int .u8 (old.toNat : Int)) rfl (exec_load1 rfl rfl (by kernel_rfl) HCO.out) ?_
      simp only [zz]
      refine wR (v := .int .u8 ((old.toNat * 16 : Nat) : Int)) rfl (u8_mul rfl rfl rfl (by omega) (by omega)) ?_
      simp only [zz]
      refine wM (.int .u8 ((xn - 48 : Nat) : Int)) ?_
      simp only [zz]
      refine wR (v := .int .u8 ((UInt8.ofNat (old.toNat * 16 + (xn - 48))).toNat : Int)) rfl (u8_add rfl rfl rfl (by rw [UInt8.toNat_ofNat', Nat.mod_eq_of_lt (by omega)]; omega) (by rw [UInt8.toNat_ofNat', Nat.mod_eq_of_lt (by omega)]; omega)) ?_
      simp only [zz]
      refine wR (v := .pointer (some ⟨go, 0 + i / 2 * 1, none⟩)) rfl (gx_iaddr (i := i / 2) (sz := 1) rfl rfl rfl Tryz.underlying26 size_byte1 (by omega) (by omega)) ?_
      simp only [zz]
      refine wpList_store1 (v := .int .u8 ((UInt8.ofNat (old.toNat * 16 + (xn - 48))).toNat : Int)) rfl 5 (.tmp 62) (.tmp 61) rfl HBK.out rfl rfl (by rw [bcs_size, HST.out.1]; omega) rfl rfl size_byte1 ?_
      intro hbz huz
      have htz := above HTR.out HGO.out huz
      generalize wr.setCell ⟨go, 0 + i / 2 * 1, none⟩ (.int .u8 ((UInt8.ofNat (old.toNat * 16 + (xn - 48))).toNat : Int)) = wz at *
      rw [show 0 + i / 2 * 1 = i / 2 from by omega, mbcs_set, HNW.out, HOLD.out, HST.out.2.2] at hbz
      have HBZ := zH hbz
      have HTZ := zH htz
      clear hbz huz htz
      try simp only [zz]
      go_upto_region 10 with fail
      refine wp_region_lit ?_
      refine wM (.int .i64 (i : Int)) ?_
      simp only [zz]
      refine wR (v := .int .i64 ((i + 1 : Nat) : Int)) rfl (ix_add rfl rfl rfl (by omega) (by omega)) ?_
      simp only [zz]
      refine wA (.int .i64 ((i + 1 : Nat) : Int)) ?_
      simp only [zz]
      go_wp2_with fail
      go_roundg (gk - 1)
      case measure => have := HIG.out; have := HLT.out; omega
      case rel => exact ⟨i + 1, by have := HIG.out; have := HLT.out; omega, by go_num, HON2.out, HBZ.out, HTZ.out⟩
     ·refine wR (v := .bool false) rfl (u8_leq rfl rfl rfl (decide_eq_false (by omega))) ?_
      simp only [zz]
      refine wR (v := .bool false) rfl (ix_pickT rfl rfl rfl) ?_
      simp only [zz]
      refine wA (.bool false) ?_
      simp only [zz]
      go_upto_region 16 with fail
      refine wp_region_lit ?_
      refine wM (.int .u8 (xn : Int)) ?_
      simp only [zz]
      by_cases hl1 : 65 ≤ xn
      ·refine wR (v := .bool true) rfl (u8_geq rfl rfl rfl (decide_eq_true (by omega))) ?_
       simp only [zz]
       refine wM (.bool true) ?_
       simp only [zz]
       refine wM (.int .u8 (xn : Int)) ?_
       simp only [zz]
       by_cases hl2 : xn ≤ 70
       ·refine wR (v := .bool true) rfl (u8_leq rfl rfl rfl (decide_eq_true (by omega))) ?_
        simp only [zz]
        refine wR (v := .bool true) rfl (ix_pickT rfl rfl rfl) ?_
        simp only [zz]
        refine wA (.bool true) ?_
        simp only [zz]
        have HX := zH (HLE.out ⟨hl1, hl2⟩)
        have HON2 := zH (HOS.out HX.out.1)
        go_upto_region 17 with fail
        refine wp_region_lit ?_
        refine wM (.int .u8 (xn : Int)) ?_
        simp only [zz]
        refine wR (v := .int .u8 ((xn - 65 : Nat) : Int)) rfl (u8_sub rfl rfl rfl (by omega) (by omega)) ?_
        simp only [zz]
        refine wR (v := .int .u8 ((xn - 55 : Nat) : Int)) rfl (u8_add rfl rfl rfl (by omega) (by omega)) ?_
        simp only [zz]
        refine wA (.int .u8 ((xn - 55 : Nat) : Int)) ?_
        simp only [zz]
        have HVL := zH (show xn - 55 ≤ 15 from by omega)
        have HNW := zH (show UInt8.ofNat (old.toNat * 16 + (xn - 55)) = UInt8.ofNat (old.toNat * 16 + hxv x) from by rw [HX.out.2])
        have y3 : (old.toNat : Int) ≤ 16 := by have := HOL.out; omega
        have y4 : (old.toNat : Int) ≤ 15 := by have := HO15.out; omega
        go_upto_region 18 with fail
        refine wp_region_lit ?_
        refine wM (.slice (some ⟨go, 0, none⟩) 8 8) ?_
        simp only [zz]
        refine wM (.int .i64 (i : Int)) ?_
        simp only [zz]
        refine wR (v := .int .i64 ((i / 2 : Nat) : Int)) rfl (ix_quo (n := i) (m := 2) rfl rfl rfl (by decide) (by omega)) ?_
        simp only [zz]
        refine wM (.slice (some ⟨go, 0, none⟩) 8 8) ?_
        simp only [zz]
        refine wM (.int .i64 (i : Int)) ?_
        simp only [zz]
        refine wR (v := .int .i64 ((i / 2 : Nat) : Int)) rfl (ix_quo (n := i) (m := 2) rfl rfl rfl (by decide) (by omega)) ?_
        simp only [zz]
        refine wR (v := .pointer (some ⟨go, 0 + i / 2 * 1, none⟩)) rfl (gx_iaddr (i := i / 2) (sz := 1) rfl rfl rfl Tryz.underlying26 size_byte1 (by omega) (by omega)) ?_
        simp only [zz]
        refine wR (v := .int .u8 (old.toNat : Int)) rfl (exec_load1 rfl rfl (by kernel_rfl) HCO.out) ?_
        simp only [zz]
        refine wR (v := .int .u8 ((old.toNat * 16 : Nat) : Int)) rfl (u8_mul rfl rfl rfl (by omega) (by omega)) ?_
        simp only [zz]
        refine wM (.int .u8 ((xn - 55 : Nat) : Int)) ?_
        simp only [zz]
        refine wR (v := .int .u8 ((UInt8.ofNat (old.toNat * 16 + (xn - 55))).toNat : Int)) rfl (u8_add rfl rfl rfl (by rw [UInt8.toNat_ofNat', Nat.mod_eq_of_lt (by omega)]; omega) (by rw [UInt8.toNat_ofNat', Nat.mod_eq_of_lt (by omega)]; omega)) ?_
        simp only [zz]
        refine wR (v := .pointer (some ⟨go, 0 + i / 2 * 1, none⟩)) rfl (gx_iaddr (i := i / 2) (sz := 1) rfl rfl rfl Tryz.underlying26 size_byte1 (by omega) (by omega)) ?_
        simp only [zz]
        refine wpList_store1 (v := .int .u8 ((UInt8.ofNat (old.toNat * 16 + (xn - 55))).toNat : Int)) rfl 5 (.tmp 62) (.tmp 61) rfl HBK.out rfl rfl (by rw [bcs_size, HST.out.1]; omega) rfl rfl size_byte1 ?_
        intro hbz huz
        have htz := above HTR.out HGO.out huz
        generalize wr.setCell ⟨go, 0 + i / 2 * 1, none⟩ (.int .u8 ((UInt8.ofNat (old.toNat * 16 + (xn - 55))).toNat : Int)) = wz at *
        rw [show 0 + i / 2 * 1 = i / 2 from by omega, mbcs_set, HNW.out, HOLD.out, HST.out.2.2] at hbz
        have HBZ := zH hbz
        have HTZ := zH htz
        clear hbz huz htz
        try simp only [zz]
        go_upto_region 10 with fail
        refine wp_region_lit ?_
        refine wM (.int .i64 (i : Int)) ?_
        simp only [zz]
        refine wR (v := .int .i64 ((i + 1 : Nat) : Int)) rfl (ix_add rfl rfl rfl (by omega) (by omega)) ?_
        simp only [zz]
        refine wA (.int .i64 ((i + 1 : Nat) : Int)) ?_
        simp only [zz]
        go_wp2_with fail
        go_roundg (gk - 1)
        case measure => have := HIG.out; have := HLT.out; omega
        case rel => exact ⟨i + 1, by have := HIG.out; have := HLT.out; omega, by go_num, HON2.out, HBZ.out, HTZ.out⟩
       ·refine wR (v := .bool false) rfl (u8_leq rfl rfl rfl (decide_eq_false (by omega))) ?_
        simp only [zz]
        refine wR (v := .bool false) rfl (ix_pickT rfl rfl rfl) ?_
        simp only [zz]
        refine wA (.bool false) ?_
        simp only [zz]
        have HE := zH (show takeHalf 1 b = .error 42 from by rw [HH.out, if_neg (HNO.out (by omega) (by omega))])
        go_upto_region 13 with fail
        refine wp_region_lit ?_
        refine wA (.slice none 0 0) ?_
        simp only [zz]
        refine wA (.slice none 0 0) ?_
        simp only [zz]
        refine wA (.int .i64 42) ?_
        simp only [zz]
        go_wp2_with fail
        go_ret3
        rw [HE.out]
        exact ⟨rfl, HTR.out⟩
      ·refine wR (v := .bool false) rfl (u8_geq rfl rfl rfl (decide_eq_false (by omega))) ?_
       simp only [zz]
       refine wM (.bool false) ?_
       simp only [zz]
       refine wpList_skip (by go_simp) ?_
       simp only [zz]
       refine wpList_skip (by go_simp) ?_
       simp only [zz]
       refine wR (v := .bool false) rfl (ix_pickF rfl rfl rfl) ?_
       simp only [zz]
       refine wA (.bool false) ?_
       simp only [zz]
       have HE := zH (show takeHalf 1 b = .error 42 from by rw [HH.out, if_neg (HNO.out (by omega) (by omega))])
       go_upto_region 13 with fail
       refine wp_region_lit ?_
       refine wA (.slice none 0 0) ?_
       simp only [zz]
       refine wA (.slice none 0 0) ?_
       simp only [zz]
       refine wA (.int .i64 42) ?_
       simp only [zz]
       go_wp2_with fail
       go_ret3
       rw [HE.out]
       exact ⟨rfl, HTR.out⟩
    ·refine wR (v := .bool false) rfl (u8_geq rfl rfl rfl (decide_eq_false (by omega))) ?_
     simp only [zz]
     refine wM (.bool false) ?_
     simp only [zz]
     refine wpList_skip (by go_simp) ?_
     simp only [zz]
     refine wpList_skip (by go_simp) ?_
     simp only [zz]
     refine wR (v := .bool false) rfl (ix_pickF rfl rfl rfl) ?_
     simp only [zz]
     refine wA (.bool false) ?_
     simp only [zz]
     go_upto_region 16 with fail
     refine wp_region_lit ?_
     refine wM (.int .u8 (xn : Int)) ?_
     simp only [zz]
     by_cases hl1 : 65 ≤ xn
     ·refine wR (v := .bool true) rfl (u8_geq rfl rfl rfl (decide_eq_true (by omega))) ?_
      simp only [zz]
      refine wM (.bool true) ?_
      simp only [zz]
      refine wM (.int .u8 (xn : Int)) ?_
      simp only [zz]
      by_cases hl2 : xn ≤ 70
      ·refine wR (v := .bool true) rfl (u8_leq rfl rfl rfl (decide_eq_true (by omega))) ?_
       simp only [zz]
       refine wR (v := .bool true) rfl (ix_pickT rfl rfl rfl) ?_
       simp only [zz]
       refine wA (.bool true) ?_
       simp only [zz]
       have HX := zH (HLE.out ⟨hl1, hl2⟩)
       have HON2 := zH (HOS.out HX.out.1)
       go_upto_region 17 with fail
       refine wp_region_lit ?_
       refine wM (.int .u8 (xn : Int)) ?_
       simp only [zz]
       refine wR (v := .int .u8 ((xn - 65 : Nat) : Int)) rfl (u8_sub rfl rfl rfl (by omega) (by omega)) ?_
       simp only [zz]
       refine wR (v := .int .u8 ((xn - 55 : Nat) : Int)) rfl (u8_add rfl rfl rfl (by omega) (by omega)) ?_
       simp only [zz]
       refine wA (.int .u8 ((xn - 55 : Nat) : Int)) ?_
       simp only [zz]
       have HVL := zH (show xn - 55 ≤ 15 from by omega)
       have HNW := zH (show UInt8.ofNat (old.toNat * 16 + (xn - 55)) = UInt8.ofNat (old.toNat * 16 + hxv x) from by rw [HX.out.2])
       have y3 : (old.toNat : Int) ≤ 16 := by have := HOL.out; omega
       have y4 : (old.toNat : Int) ≤ 15 := by have := HO15.out; omega
       go_upto_region 18 with fail
       refine wp_region_lit ?_
       refine wM (.slice (some ⟨go, 0, none⟩) 8 8) ?_
       simp only [zz]
       refine wM (.int .i64 (i : Int)) ?_
       simp only [zz]
       refine wR (v := .int .i64 ((i / 2 : Nat) : Int)) rfl (ix_quo (n := i) (m := 2) rfl rfl rfl (by decide) (by omega)) ?_
       simp only [zz]
       refine wM (.slice (some ⟨go, 0, none⟩) 8 8) ?_
       simp only [zz]
       refine wM (.int .i64 (i : Int)) ?_
       simp only [zz]
       refine wR (v := .int .i64 ((i / 2 : Nat) : Int)) rfl (ix_quo (n := i) (m := 2) rfl rfl rfl (by decide) (by omega)) ?_
       simp only [zz]
       refine wR (v := .pointer (some ⟨go, 0 + i / 2 * 1, none⟩)) rfl (gx_iaddr (i := i / 2) (sz := 1) rfl rfl rfl Tryz.underlying26 size_byte1 (by omega) (by omega)) ?_
       simp only [zz]
       refine wR (v := .int .u8 (old.toNat : Int)) rfl (exec_load1 rfl rfl (by kernel_rfl) HCO.out) ?_
       simp only [zz]
       refine wR (v := .int .u8 ((old.toNat * 16 : Nat) : Int)) rfl (u8_mul rfl rfl rfl (by omega) (by omega)) ?_
       simp only [zz]
       refine wM (.int .u8 ((xn - 55 : Nat) : Int)) ?_
       simp only [zz]
       refine wR (v := .int .u8 ((UInt8.ofNat (old.toNat * 16 + (xn - 55))).toNat : Int)) rfl (u8_add rfl rfl rfl (by rw [UInt8.toNat_ofNat', Nat.mod_eq_of_lt (by omega)]; omega) (by rw [UInt8.toNat_ofNat', Nat.mod_eq_of_lt (by omega)]; omega)) ?_
       simp only [zz]
       refine wR (v := .pointer (some ⟨go, 0 + i / 2 * 1, none⟩)) rfl (gx_iaddr (i := i / 2) (sz := 1) rfl rfl rfl Tryz.underlying26 size_byte1 (by omega) (by omega)) ?_
       simp only [zz]
       refine wpList_store1 (v := .int .u8 ((UInt8.ofNat (old.toNat * 16 + (xn - 55))).toNat : Int)) rfl 5 (.tmp 62) (.tmp 61) rfl HBK.out rfl rfl (by rw [bcs_size, HST.out.1]; omega) rfl rfl size_byte1 ?_
       intro hbz huz
       have htz := above HTR.out HGO.out huz
       generalize wr.setCell ⟨go, 0 + i / 2 * 1, none⟩ (.int .u8 ((UInt8.ofNat (old.toNat * 16 + (xn - 55))).toNat : Int)) = wz at *
       rw [show 0 + i / 2 * 1 = i / 2 from by omega, mbcs_set, HNW.out, HOLD.out, HST.out.2.2] at hbz
       have HBZ := zH hbz
       have HTZ := zH htz
       clear hbz huz htz
       try simp only [zz]
       go_upto_region 10 with fail
       refine wp_region_lit ?_
       refine wM (.int .i64 (i : Int)) ?_
       simp only [zz]
       refine wR (v := .int .i64 ((i + 1 : Nat) : Int)) rfl (ix_add rfl rfl rfl (by omega) (by omega)) ?_
       simp only [zz]
       refine wA (.int .i64 ((i + 1 : Nat) : Int)) ?_
       simp only [zz]
       go_wp2_with fail
       go_roundg (gk - 1)
       case measure => have := HIG.out; have := HLT.out; omega
       case rel => exact ⟨i + 1, by have := HIG.out; have := HLT.out; omega, by go_num, HON2.out, HBZ.out, HTZ.out⟩
      ·refine wR (v := .bool false) rfl (u8_leq rfl rfl rfl (decide_eq_false (by omega))) ?_
       simp only [zz]
       refine wR (v := .bool false) rfl (ix_pickT rfl rfl rfl) ?_
       simp only [zz]
       refine wA (.bool false) ?_
       simp only [zz]
       have HE := zH (show takeHalf 1 b = .error 42 from by rw [HH.out, if_neg (HNO.out (by omega) (by omega))])
       go_upto_region 13 with fail
       refine wp_region_lit ?_
       refine wA (.slice none 0 0) ?_
       simp only [zz]
       refine wA (.slice none 0 0) ?_
       simp only [zz]
       refine wA (.int .i64 42) ?_
       simp only [zz]
       go_wp2_with fail
       go_ret3
       rw [HE.out]
       exact ⟨rfl, HTR.out⟩
     ·refine wR (v := .bool false) rfl (u8_geq rfl rfl rfl (decide_eq_false (by omega))) ?_
      simp only [zz]
      refine wM (.bool false) ?_
      simp only [zz]
      refine wpList_skip (by go_simp) ?_
      simp only [zz]
      refine wpList_skip (by go_simp) ?_
      simp only [zz]
      refine wR (v := .bool false) rfl (ix_pickF rfl rfl rfl) ?_
      simp only [zz]
      refine wA (.bool false) ?_
      simp only [zz]
      have HE := zH (show takeHalf 1 b = .error 42 from by rw [HH.out, if_neg (HNO.out (by omega) (by omega))])
      go_upto_region 13 with fail
      refine wp_region_lit ?_
      refine wA (.slice none 0 0) ?_
      simp only [zz]
      refine wA (.slice none 0 0) ?_
      simp only [zz]
      refine wA (.int .i64 42) ?_
      simp only [zz]
      go_wp2_with fail
      go_ret3
      rw [HE.out]
      exact ⟨rfl, HTR.out⟩
   ·refine wR (v := .bool false) rfl (ix_lss rfl rfl rfl (decide_eq_false (by omega))) ?_
    simp only [zz]
    obtain rfl : i = 16 := by have := HIG.out; omega
    have HE := zH (show takeHalf 1 b = .ok (hexF (b.take 16), b.drop 16) from by rw [HH.out, if_pos HON.out])
    have HP := zH (pk16 (l := b.take 16) (by rw [List.length_take]; have := HS.out; omega) HON.out)
    have HBE := zH (show Blk wr go 5 (bcs (be 8 (hexF (b.take 16)))).toArray from by
     rw [← HP.out.1]
     have h := HBK.out
     rwa [show outL b 16 = pkU (b.take 16) from by unfold outL; simp] at h)
    clear hlt
    have hS0 : True := trivial
    go_upto_region 19 with fail
    refine wp_region_alw (fun _ => True) (by kernel_rfl) ?_
    refine aT (i := 0) (v := .slice (some ⟨go, 0, none⟩) 8 8) rfl (by kernel_rfl) (by kernel_rfl) (fun W hW => exec_move rfl rfl) hS0 ?_
    simp only [zz]
    refine aT (i := 1) (v := .slice A n c) rfl (by kernel_rfl) (by kernel_rfl) (fun W hW => exec_move rfl rfl) hS0 ?_
    simp only [zz]
    refine aT (i := 2) (v := .slice (fromA A c 16) (n - 16) (c - 16)) rfl (by kernel_rfl) (by kernel_rfl) (fun W hW => exec_slice rfl rfl rfl rfl rfl (slice_from_any A n c 16 (by omega) HNC.out _)) hS0 ?_
    simp only [zz]
    refine aT (i := 3) (v := .slice (some ⟨go, 0, none⟩) 8 8) rfl (by kernel_rfl) (by kernel_rfl) (fun W hW => gx_assign rfl rfl) hS0 ?_
    simp only [zz]
    refine aT (i := 4) (v := .slice (fromA A c 16) (n - 16) (c - 16)) rfl (by kernel_rfl) (by kernel_rfl) (fun W hW => gx_assign rfl rfl) hS0 ?_
    simp only [zz]
    refine aT (i := 5) (v := .int .i64 0) rfl (by kernel_rfl) (by kernel_rfl) (fun W hW => gx_assign rfl rfl) hS0 ?_
    simp only [zz]
    refine alw_done rfl ?_
    clear hS0
    refine NoPanic.normal ?_
    go_wp2_with fail
    go_ret3
    rw [HE.out]
    exact ⟨_, _, _, _, _, rfl, blk_bs HBE.out.drew (be_len _ _), Nat.le_refl _, HP.out.2, bs_still (bs_from HB.out (by omega) HNC.out) HTR.out.drew, by have := HNC.out; omega, fun h => by have := HZ.out (fromA_none h); omega, by omega, HTR.out.drew⟩
 ·refine wR (v := .bool true) rfl (ix_neq rfl rfl rfl (decide_eq_true (by omega))) ?_
  simp only [zz]
  have HD := zH (show d = 2 ∨ d = 3 from by omega)
  clear h1
  go_upto_region 2 with fail
  refine wp_region_lit ?_
  refine wM (.slice A n c) ?_
  simp only [zz]
  refine wR (v := .int .i64 (n : Int)) rfl (gx_len rfl rfl Tryz.underlying26) ?_
  simp only [zz]
  by_cases hs : n < 8
  ·refine wR (v := .bool true) rfl (ix_lss rfl rfl rfl (decide_eq_true (by omega))) ?_
   simp only [zz]
   have HE := zH (show takeHalf d b = .error 43 from by rw [half_23 HD.out, if_pos (by rw [HL.out]; exact hs)])
   clear hs
   go_upto_region 3 with fail
   refine wp_region_lit ?_
   refine wA (.slice none 0 0) ?_
   simp only [zz]
   refine wA (.slice none 0 0) ?_
   simp only [zz]
   refine wA (.int .i64 43) ?_
   simp only [zz]
   go_wp2_with fail
   go_ret3
   rw [HE.out]
   exact ⟨rfl, Turn.refl _ _⟩
  ·refine wR (v := .bool false) rfl (ix_lss rfl rfl rfl (decide_eq_false (by omega))) ?_
   simp only [zz]
   have HE := zH (show takeHalf d b = .ok (beV (b.take 8), b.drop 8) from by rw [half_23 HD.out, if_neg (by rw [HL.out]; exact hs)])
   have HP := zH (be_of 8 (b.take 8) (by rw [List.length_take, HL.out]; omega))
   have y8 : (8 : Int) ≤ (n : Int) := by omega
   clear hs
   have hS0 : True := trivial
   go_upto_region 4 with fail
   refine wp_region_alw (fun _ => True) (by kernel_rfl) ?_
   refine aT (i := 0) (v := .slice A n c) rfl (by kernel_rfl) (by kernel_rfl) (fun W hW => exec_move rfl rfl) hS0 ?_
   simp only [zz]
   refine aT (i := 1) (v := .slice A 8 c) rfl (by kernel_rfl) (by kernel_rfl) (fun W hW => exec_slice rfl rfl rfl rfl rfl (slice_to_any A n c 8 (by omega) HNC.out _)) hS0 ?_
   simp only [zz]
   refine aT (i := 2) (v := .slice A n c) rfl (by kernel_rfl) (by kernel_rfl) (fun W hW => exec_move rfl rfl) hS0 ?_
   simp only [zz]
   refine aT (i := 3) (v := .slice (fromA A c 8) (n - 8) (c - 8)) rfl (by kernel_rfl) (by kernel_rfl) (fun W hW => exec_slice rfl rfl rfl rfl rfl (slice_from_any A n c 8 (by omega) HNC.out _)) hS0 ?_
   simp only [zz]
   refine aT (i := 4) (v := .slice A 8 c) rfl (by kernel_rfl) (by kernel_rfl) (fun W hW => gx_assign rfl rfl) hS0 ?_
   simp only [zz]
   refine aT (i := 5) (v := .slice (fromA A c 8) (n - 8) (c - 8)) rfl (by kernel_rfl) (by kernel_rfl) (fun W hW => gx_assign rfl rfl) hS0 ?_
   simp only [zz]
   refine aT (i := 6) (v := .int .i64 0) rfl (by kernel_rfl) (by kernel_rfl) (fun W hW => gx_assign rfl rfl) hS0 ?_
   simp only [zz]
   refine alw_done rfl ?_
   clear hS0
   refine NoPanic.normal ?_
   go_wp2_with fail
   go_ret3
   rw [HE.out]
   exact ⟨_, _, _, _, _, rfl, by rw [HP.out.1]; exact bs_still (bs_to HB.out (by omega)) ((Turn.refl nowhere w).drew), by have := HNC.out; omega, HP.out.2, bs_still (bs_from HB.out (by omega) HNC.out) ((Turn.refl nowhere w).drew), by have := HNC.out; omega, fun h => by have := HZ.out (fromA_none h); omega, by omega, (Turn.refl nowhere w).drew⟩
theorem dec_rng : ∀ c ∈ dec, 48 ≤ c.toNat ∧ c.toNat ≤ 57 := by decide
theorem type_ref {d : Nat} (hd : 1 ≤ d ∧ d ≤ 3) {b r t : List UInt8} (h : (typeFm d).take b = .ok (t, r)) :
 ∃ x0 x1 x2 x3 : UInt8, ∃ ty : Nat, t = [x0, x1, x2, x3] ∧ (48 ≤ x1.toNat ∧ x1.toNat ≤ 57) ∧ (48 ≤ x2.toNat ∧ x2.toNat ≤ 57) ∧ (48 ≤ x3.toNat ∧ x3.toNat ≤ 57) ∧ ty = 100 * (x1.toNat - 48) + 10 * (x2.toNat - 48) + (x3.toNat - 48) ∧
  mtype d t = if mtypes.contains (ty : Int) = true ∧ t = ver d ++ dig3 ty then some (ty : Int) else none := by
 obtain ⟨hrt, _⟩ := fm_one (by decide) hd (by decide) (show (nf 1 4 d).take b = .ok (t, r) from h)
 obtain ⟨hl, ho⟩ := Fdd.right_n.1 hrt
 match t, hl, ho with
 | [x0, x1, x2, x3], _, ho =>
   have hm := fun c hc => dec_rng c (onlyOf_mem ho (c := c) hc)
   obtain ⟨a1, a2⟩ := hm x1 (by simp)
   obtain ⟨b1, b2⟩ := hm x2 (by simp)
   obtain ⟨c1, c2⟩ := hm x3 (by simp)
   refine ⟨x0, x1, x2, x3, 100 * (x1.toNat - 48) + 10 * (x2.toNat - 48) + (x3.toNat - 48), rfl, ⟨a1, a2⟩, ⟨b1, b2⟩, ⟨c1, c2⟩, rfl, ?_⟩
   have hv : val [x1, x2, x3] = 100 * (x1.toNat - 48) + 10 * (x2.toNat - 48) + (x3.toNat - 48) := by
    unfold val
    simp only [List.foldl_cons, List.foldl_nil]
    omega
   have hdg : dig3 (100 * (x1.toNat - 48) + 10 * (x2.toNat - 48) + (x3.toNat - 48)) = [x1, x2, x3] := by
    unfold dig3
    rw [show 48 + (100 * (x1.toNat - 48) + 10 * (x2.toNat - 48) + (x3.toNat - 48)) / 100 = x1.toNat from by omega, show 48 + (100 * (x1.toNat - 48) + 10 * (x2.toNat - 48) + (x3.toNat - 48)) / 10 % 10 = x2.toNat from by omega,
     show 48 + (100 * (x1.toNat - 48) + 10 * (x2.toNat - 48) + (x3.toNat - 48)) % 10 = x3.toNat from by omega, UInt8.ofNat_toNat, UInt8.ofNat_toNat, UInt8.ofNat_toNat]
   rw [hdg]
   have ho3 : onlyOf [x1, x2, x3] dec = true := by
    unfold onlyOf at ho ⊢
    rw [List.all_cons, Bool.and_eq_true] at ho
    exact ho.2
   obtain ⟨v, hver⟩ : ∃ v, ver d = [v] := by
    unfold ver
    split
    ·exact ⟨_, rfl⟩
    ·split <;> exact ⟨_, rfl⟩
   unfold mtype
   rw [hver]
   show (if (v == x0 && List.isPrefixOf [] [x1, x2, x3]) = true then if [x1, x2, x3].length ≤ 18 ∧ onlyOf [x1, x2, x3] dec = true ∧ [x1, x2, x3] ≠ [] then if mtypes.contains ((val [x1, x2, x3] : Nat) : Int) = true then some ((val [x1, x2, x3] : Nat) : Int) else none else none else none) = _
   rw [if_pos (c := [x1, x2, x3].length ≤ 18 ∧ onlyOf [x1, x2, x3] dec = true ∧ [x1, x2, x3] ≠ []) ⟨by simp, ho3, by simp⟩, hv]
   by_cases hx : v = x0
   ·subst hx
    by_cases hk : mtypes.contains ((100 * (x1.toNat - 48) + 10 * (x2.toNat - 48) + (x3.toNat - 48) : Nat) : Int) = true
    ·rw [if_pos (by simp), if_pos hk, if_pos ⟨hk, rfl⟩]
    ·rw [if_pos (by simp), if_neg hk, if_neg (fun h => hk h.1)]
   ·rw [if_neg (by simp [hx]), if_neg (fun h => hx (by
     have := h.2
     simp at this
     exact this.symm))]
theorem nosTo_mem {l : List UInt8} {k i : Nat} (hi : i < k) (h1 : 1 ≤ i) (hb : bitB l i = true) : ((i + 1 : Nat) : Int) ∈ nosTo l k := by
 unfold nosTo
 exact List.mem_map.2 ⟨i, List.mem_filter.2 ⟨List.mem_range.2 hi, by rw [decide_eq_true h1, hb]; rfl⟩, rfl⟩
theorem allF_true {d : Nat} {l : List Int} (h : ∀ x ∈ l, (mfind x mrows).isSome = true) : allForms d l = true := by
 unfold allForms
 rw [List.all_eq_true]
 intro x hx
 unfold mform
 rw [Option.isSome_map]
 exact h x hx
theorem allF_not {d : Nat} {l : List Int} {x : Int} (hx : x ∈ l) (hn : mfind x mrows = none) : ¬ allForms d l = true := by
 intro h
 unfold allForms at h
 have := List.all_eq_true.1 h x hx
 unfold mform at this
 rw [hn] at this
 cases this
theorem allF_at {d : Nat} {l : List Int} {j : Nat} {x : Int} (h : allForms d l = true) (hx : l[j]? = some x) : ∃ m, mform d x = some m := by
 unfold allForms at h
 have := List.all_eq_true.1 h x (List.mem_of_getElem? hx)
 exact Option.isSome_iff_exists.1 this
def fsQ (acc : List Fld) : Except Int (List Fld × List UInt8) → Except Int (List Fld × List UInt8)
 | .error e => .error e
 | .ok (f, r) => .ok (acc ++ f, r)
theorem fsQ_nil (r : Except Int (List Fld × List UInt8)) : fsQ [] r = r := by
 cases r with
 | error e => rfl
 | ok p => rfl
theorem fs_step {d : Nat} {L : List Int} {j : Nat} {x : Int} {m : Fm} {acc : List Fld} {rr : List UInt8} {R : Except Int (List Fld × List UInt8)} (hx : L[j]? = some x) (hm : mform d x = some m) (h : R = fsQ acc (takeFs d (L.drop j) rr)) :
 (∀ k, m.take rr = .error k → R = .error k) ∧ ∀ t r, m.take rr = .ok (t, r) → R = fsQ (acc ++ [(x, unsaid d x ++ t)]) (takeFs d (L.drop (j + 1)) r) := by
 obtain ⟨hj, e⟩ := List.getElem?_eq_some_iff.1 hx
 rw [List.drop_eq_getElem_cons hj, e] at h
 unfold takeFs at h
 simp only [hm] at h
 constructor
 ·intro k hk
  rw [hk] at h
  exact h
 ·intro t r hk
  rw [hk] at h
  simp only at h
  rw [h]
  cases takeFs d (L.drop (j + 1)) r with
  | error e => rfl
  | ok p =>
    show Except.ok (acc ++ _ :: p.1, p.2) = Except.ok (acc ++ [_] ++ p.1, p.2)
    rw [List.append_assoc]
    rfl
theorem fs_end {d : Nat} {L : List Int} {j : Nat} {acc : List Fld} {rr : List UInt8} {R : Except Int (List Fld × List UInt8)} (hj : L.length ≤ j) (h : R = fsQ acc (takeFs d (L.drop j) rr)) : R = .ok (acc, rr) := by
 rw [List.drop_eq_nil_of_le hj] at h
 rw [h]
 show Except.ok (acc ++ [], rr) = _
 rw [List.append_nil]
theorem formE_at {d : Nat} (hd : 1 ≤ d ∧ d ≤ 3) {x : Int} {m : Fm} (h : mform d x = some m) : formE (d : Int) x = (m, 0) := by
 unfold formE
 rw [if_pos ⟨by omega, by omega⟩, Int.toNat_natCast, h]
section
variable {d : Nat} {b r rb : List UInt8} {ty : Int} {L : List Int} {k : Int}
theorem dec_dial {dd : Int} (h : ¬ (1 ≤ dd ∧ dd ≤ 3)) : mdecodeL dd b = .error 50 := by
 unfold mdecodeL
 rw [if_neg h]
theorem dec_type (hd : 1 ≤ d ∧ d ≤ 3) (h : takeType d b = .error k) : mdecodeL (d : Int) b = .error k := by
 unfold mdecodeL
 rw [if_pos ⟨by omega, by omega⟩, Int.toNat_natCast, h]
theorem dec_map (hd : 1 ≤ d ∧ d ≤ 3) (h : takeType d b = .ok (ty, r)) (h2 : takeMap d r = .error k) : mdecodeL (d : Int) b = .error k := by
 unfold mdecodeL
 rw [if_pos ⟨by omega, by omega⟩, Int.toNat_natCast, h]
 simp only [h2]
theorem dec_form (hd : 1 ≤ d ∧ d ≤ 3) (h : takeType d b = .ok (ty, r)) (h2 : takeMap d r = .ok (L, rb)) (h3 : ¬ allForms d L = true) : mdecodeL (d : Int) b = .error 52 := by
 unfold mdecodeL
 rw [if_pos ⟨by omega, by omega⟩, Int.toNat_natCast, h]
 simp only [h2, if_neg h3]
theorem dec_fs (hd : 1 ≤ d ∧ d ≤ 3) (h : takeType d b = .ok (ty, r)) (h2 : takeMap d r = .ok (L, rb)) (h3 : allForms d L = true) (h4 : takeFs d L rb = .error k) : mdecodeL (d : Int) b = .error k := by
 unfold mdecodeL
 rw [if_pos ⟨by omega, by omega⟩, Int.toNat_natCast, h]
 simp only [h2, if_pos h3, h4]
theorem dec_end (hd : 1 ≤ d ∧ d ≤ 3) (h : takeType d b = .ok (ty, r)) (h2 : takeMap d r = .ok (L, rb)) (h3 : allForms d L = true) {fs : List Fld} {rest : List UInt8} (h4 : takeFs d L rb = .ok (fs, rest)) : mdecodeL (d : Int) b = if rest = [] then .ok (ty, fs) else .error 54 := by
 unfold mdecodeL
 rw [if_pos ⟨by omega, by omega⟩, Int.toNat_natCast, h]
 simp only [h2, if_pos h3, h4]
theorem ty_err (h : (typeFm d).take b = .error k) : takeType d b = .error k := by
 unfold takeType
 rw [h]
theorem ty_no {t : List UInt8} (h : (typeFm d).take b = .ok (t, r)) (h2 : mtype d t = none) : takeType d b = .error 51 := by
 unfold takeType
 rw [h]
 simp only [h2]
theorem ty_ok {t : List UInt8} (h : (typeFm d).take b = .ok (t, r)) (h2 : mtype d t = some ty) : takeType d b = .ok (ty, r) := by
 unfold takeType
 rw [h]
 simp only [h2]
theorem map_e1 (h : takeHalf d b = .error k) : takeMap d b = .error k := by
 unfold takeMap
 rw [h]
theorem map_near {x : Nat} (h : takeHalf d b = .ok (x, r)) (h2 : ¬ 128 ≤ ((be 8 x).getD 0 0).toNat) : takeMap d b = .ok (nosTo (be 8 x) 64, r) := by
 have h63 : x.testBit 63 = false := by
  have := mt first_bit.2 h2
  simpa using this
 unfold takeMap
 rw [h]
 simp only [if_pos h63, nos_near h63]
theorem map_e2 {x : Nat} (h : takeHalf d b = .ok (x, r)) (h2 : 128 ≤ ((be 8 x).getD 0 0).toNat) (h3 : takeHalf d r = .error k) : takeMap d b = .error k := by
 have h63 := first_bit.1 h2
 unfold takeMap
 rw [h]
 simp only [if_neg (show ¬ x.testBit 63 = false from by rw [h63]; decide), h3]
theorem map_zero {x y : Nat} (h : takeHalf d b = .ok (x, r)) (h2 : 128 ≤ ((be 8 x).getD 0 0).toNat) (h3 : takeHalf d r = .ok (y, rb)) (h4 : y = 0) : takeMap d b = .error 53 := by
 have h63 := first_bit.1 h2
 unfold takeMap
 rw [h]
 simp only [if_neg (show ¬ x.testBit 63 = false from by rw [h63]; decide), h3, if_pos h4]
theorem map_far {x y : Nat} (h : takeHalf d b = .ok (x, r)) (h2 : 128 ≤ ((be 8 x).getD 0 0).toNat) (h3 : takeHalf d r = .ok (y, rb)) (h4 : ¬ y = 0) : takeMap d b = .ok (nosTo (be 8 x ++ be 8 y) 128, rb) := by
 have h63 := first_bit.1 h2
 unfold takeMap
 rw [h]
 simp only [if_neg (show ¬ x.testBit 63 = false from by rw [h63]; decide), h3, if_neg h4, nos_far]
def someU (y i : Nat) : Bool := (List.range i).any fun j => decide (0 < ((be 8 y).getD j 0).toNat)
theorem someU_next (y i : Nat) : someU y (i + 1) = (someU y i || decide (0 < ((be 8 y).getD i 0).toNat)) := by
 unfold someU
 rw [List.range_succ, List.any_append]
 simp
theorem someU_end {y : Nat} (hy : y < 2 ^ 64) : someU y 8 = true ↔ ¬ y = 0 := by
 unfold someU
 rw [List.any_eq_true]
 constructor
 ·rintro ⟨j, hj, h⟩ h0
  have := (be_zero hy).1 h0 j (List.mem_range.1 hj)
  rw [this] at h
  simp at h
 ·intro h0
  refine Classical.byContradiction fun hc => h0 ((be_zero hy).2 fun i hi => ?_)
  apply UInt8.toNat_inj.1
  refine Classical.byContradiction fun hne => hc ⟨i, List.mem_range.2 hi, decide_eq_true (Nat.pos_of_ne_zero (show ((be 8 y).getD i 0).toNat ≠ 0 from hne))⟩
end
def fcs (fs : List Fld) : List Value := fs.flatMap fun f => (fldA f).toList
theorem fcs_append (a b : List Fld) : fcs (a ++ b) = fcs a ++ fcs b := List.flatMap_append
theorem fcs_len : ∀ fs : List Fld, (fcs fs).length = fs.length * 2
 | [] => rfl
 | f :: r => by
   have := fcs_len r
   unfold fcs at this ⊢
   rw [List.flatMap_cons, List.length_append, this, List.length_cons]
   show 2 + r.length * 2 = _
   omega
theorem fcs_at : ∀ (fs : List Fld) (i j : Nat) (f : Fld), fs[i]? = some f → j < 2 → (fcs fs)[i * 2 + j]? = (fldA f).toList[j]?
 | [], i, j, f, h, _ => by simp at h
 | g :: r, 0, j, f, h, hj => by
   obtain rfl : g = f := by simpa using h
   rw [show 0 * 2 + j = j from by omega]
   show ((fldA g).toList ++ fcs r)[j]? = _
   rw [List.getElem?_append_left (show j < (fldA g).toList.length from hj)]
 | g :: r, i + 1, j, f, h, hj => by
   rw [show (i + 1) * 2 + j = (fldA g).toList.length + (i * 2 + j) from by show _ = 2 + _; omega]
   show ((fldA g).toList ++ fcs r)[(fldA g).toList.length + (i * 2 + j)]? = _
   rw [List.getElem?_append_right (by omega), Nat.add_sub_cancel_left]
   exact fcs_at r i j f (by simpa using h) hj
theorem fcs_one (fs : List Fld) : ∀ v ∈ fcs fs, v.oneCell' = true := fun v hv => by
 obtain ⟨f, _, h⟩ := List.mem_flatMap.1 hv
 exact fldA_one f v h
theorem fieldInfo : (Tryz.prog.info? 40).map (fun i => (i.zero, i.size, i.bytes)) = some (some (.agg #[.int .i64 0, strV []]), 2, 24) := by kernel_rfl
def FRow (w : World) (B : Nat) (v : Value) (fs : List Fld) : Prop := w.ownsRow B 40 2 v fs.length (fcs fs)
theorem FRow.nil (w : World) (B : Nat) : FRow w B (.slice none 0 0) [] := World.ownsRow_nil _ _ _ _
theorem FRow.still {w w' : World} {B : Nat} {v : Value} {fs : List Fld} (h : FRow w B v fs) (ht : Turn nowhere w w') : FRow w' B v fs := by
 refine ⟨h.1, ?_⟩
 rcases h.2 with h0 | ⟨g, cap, cur, rfl, hb1, hgg, rest⟩
 ·exact .inl h0
 ·have hlt : g < w.heap.size := (Array.getElem?_eq_some_iff.1 hgg).1
  exact .inr ⟨g, cap, cur, rfl, hb1, by rw [ht.block g hlt (fun e => e)]; exact hgg, rest⟩
theorem FRow.turn {F : Nat → Prop} {w w' : World} {B : Nat} {v : Value} {fs : List Fld} (h : FRow w B v fs) (ht : Turn F w w') (hF : ∀ k, v.ownBlock = some k → ¬ F k) : FRow w' B v fs := by
 refine ⟨h.1, ?_⟩
 rcases h.2 with h0 | ⟨g, cap, cur, rfl, hb1, hgg, rest⟩
 ·exact .inl h0
 ·have hlt : g < w.heap.size := (Array.getElem?_eq_some_iff.1 hgg).1
  exact .inr ⟨g, cap, cur, rfl, hb1, by rw [ht.block g hlt (hF g rfl)]; exact hgg, rest⟩
theorem FRow.ne {w : World} {B g : Nat} {v : Value} {fs : List Fld} {t : TypeId} {cs : Array Value} (h : FRow w B v fs) (hg : Blk w g t cs) (ht : t ≠ 40) : ∀ k, v.ownBlock = some k → k ≠ g := by
 intro k hk e
 subst e
 rcases h.2 with ⟨rfl, _⟩ | ⟨g', cap, cur, rfl, _, hg', _⟩
 ·cases hk
 ·have hk' : g' = k := Option.some.inj hk
  subst hk'
  exact (show Blk w g' 40 cur from hg').ne_ hg (fun h => ht h.symm) rfl
theorem FRow.fl {w : World} {B n c : Nat} {A : Option Addr} {fs : List Fld} (h : FRow w B (.slice A n c) fs) (hn : fs.length * 24 ≤ 140737488355328) : Fl w A n fs ∧ fs.length = n ∧ n ≤ c ∧ c ≤ maxLen ∧ (A = none → c = 0) := by
 rcases id h.2 with ⟨e, h0⟩ | ⟨g, cap, cur, e, _, _, h1, h2, _⟩
 ·injection e with e1 e2 e3
  subst e1 e2 e3
  have hfs : fs = [] := List.eq_nil_of_length_eq_zero h0
  subst hfs
  exact ⟨⟨rfl, by omega, fun h => absurd h (by decide)⟩, rfl, Nat.le_refl _, Nat.zero_le _, fun _ => rfl⟩
 ·injection e with e1 e2 e3
  subst e1 e2 e3
  refine ⟨⟨rfl, by omega, fun hp => ⟨g, 0, rfl, fun i f hf j v hv => ?_⟩⟩, rfl, h1, h2, fun h => by cases h⟩
  have hj : j < 2 := (List.getElem?_eq_some_iff.1 hv).1
  have := World.ownsRow.cells (g := g) h rfl (i * 2 + j) v (by rw [fcs_at fs i j f hf hj]; exact hv)
  rw [add_nat] at this
  rw [Nat.zero_add] at this ⊢
  exact this
theorem frow_grow {B : Nat} {w : World} {v : Value} {fs news : List Fld} {A : Option Addr} {m c : Nat} {ty : TypeId} (hown : FRow w B v fs) (hB : B ≤ w.heap.size) (hb : Fl w A m news) (hc : A = none → c = 0) (hlen : (fs.length + m) * 24 ≤ 140737488355328) :
 ∃ A' c' w', (Builtin.append_ #[22, 22] ty #[v, .slice A m c]).run Tryz.prog w = .ok (.slice A' (fs.length + m) c') w' ∧ FRow w' B (.slice A' (fs.length + m) c') (fs ++ news) ∧ w.grownBy w' v.ownBlock := by
 obtain ⟨h1, h2, h3⟩ := hb
 obtain ⟨i0, hi0, hz0, hz1, hz2⟩ := info_parts fieldInfo
 have form : ∀ {w' : World} {v' : Value} {n : Nat} {xs : List Value}, w'.ownsRow B 40 2 v' n xs → ∃ A' c', v' = .slice A' n c' := by
  intro w' v' n xs h
  rcases h.2 with ⟨rfl, h0⟩ | ⟨g, cap, cur, rfl, _⟩
  ·exact ⟨none, 0, by rw [h0]⟩
  ·exact ⟨_, _, rfl⟩
 rcases A with _ | A
 ·obtain rfl := hc rfl
  have hm0 : m = 0 := by
   rcases Nat.eq_zero_or_pos m with h0 | h0
   ·exact h0
   ·obtain ⟨_, _, h4, _⟩ := h3 h0; cases h4
  subst hm0
  have hn : news = [] := List.eq_nil_of_length_eq_zero h1
  subst hn
  have hrun := run_append_owned_none (P := Tryz.prog) (w := w) B 22 ty 40 i0 2 Tryz.underlying22 hi0 v _ _ hown
  obtain ⟨A', c', rfl⟩ := form hown
  exact ⟨A', c', w, hrun, by rw [List.append_nil]; exact hown, ⟨rfl, rfl, rfl, Nat.le_refl _, fun _ _ _ => rfl⟩⟩
 ·obtain ⟨v', w', g1, g2, g3, _, _⟩ := run_append_own_at (P := Tryz.prog) w B 22 ty 40 i0 _ 2 24 Tryz.underlying22 hi0 hz0 hz1 hz2
   rfl (by omega) v fs.length _ hown A m c (fcs news) (by rw [fcs_len, h1]) (fun j u hj => by
    have hjl : j < news.length * 2 := by
     have := (List.getElem?_eq_some_iff.1 hj).1
     rwa [fcs_len] at this
    obtain ⟨b, off, e, hcell⟩ := h3 (by omega)
    obtain rfl := Option.some.inj e
    obtain ⟨f, hf⟩ : ∃ f, news[j / 2]? = some f := ⟨_, List.getElem?_eq_getElem (show j / 2 < news.length from by omega)⟩
    have hq := fcs_at news (j / 2) (j % 2) f hf (by omega)
    rw [show j / 2 * 2 + j % 2 = j from by omega, hj] at hq
    have := hcell (j / 2) f hf (j % 2) u hq.symm
    rw [add_nat]
    rwa [Nat.add_assoc, show j / 2 * 2 + j % 2 = j from by omega] at this) (fcs_one news) (by unfold maxLen; omega) (by omega) hB
  obtain ⟨A', c', rfl⟩ := form g2
  refine ⟨A', c', w', g1, ?_, g3⟩
  unfold FRow
  rw [List.length_append, h1, fcs_append]
  exact g2
theorem build_f1 (f : Fld) (W : World) : (Instr.buildSlice 22 1 #[(0, .agg (fldA f))]).run Tryz.prog W = .ok (.slice (some ⟨W.heap.size, 0, none⟩) 1 1) (W.alloc (.cells (fldA f) 40)) := by
 obtain ⟨i0, hi0, hz0, hz1, hz2⟩ := info_parts fieldInfo
 exact run_buildSlice_one (P := Tryz.prog) (v := .agg (fldA f)) Tryz.underlying22 hi0 hz0 (by rw [hz1]; rfl) (by rw [hz1]; rfl) (by omega) (by omega) W
theorem fl_one (f : Fld) (w : World) : Fl (w.alloc (.cells (fldA f) 40)) (some ⟨w.heap.size, 0, none⟩) 1 [f] := by
 refine ⟨rfl, by omega, fun _ => ⟨_, _, rfl, fun i g hg j v hv => ?_⟩⟩
 have hi : i = 0 := by
  have := (List.getElem?_eq_some_iff.1 hg).1
  simpa using this
 subst hi
 obtain rfl : f = g := by simpa using hg
 rw [(Blk.new w 40 (fldA f)).cell, Nat.zero_mul, Nat.zero_add]
 simpa using hv
section
variable {α : Type}
end
section
variable {a : Act} {o : Oper} {W W' : World}
end
end Go.Proofs.YticofobhkmabiaaGreatDoor
namespace Go.Proofs.YticofobhkmabiaaGreatDoor.Fdd
end Go.Proofs.YticofobhkmabiaaGreatDoor.Fdd
namespace Go.Proofs.YticofobhkmabiaaGreatDoor
open Go.RowKit
open Fdd
theorem build_fldM (no : Int) (t : List UInt8) (W : World) : (Instr.build 40 #[(0, .int .i64 no), (1, strV t)]).run Tryz.prog W = .ok (.agg (fldA (no, t))) W := by kernel_rfl
theorem build_msg1 (ty : Int) (W : World) : (Instr.build 24 #[(0, .int .i64 ty)]).run Tryz.prog W = .ok (.agg #[.int .i64 ty, .slice none 0 0]) W := by kernel_rfl
theorem gx_build1 {P : Program} {a : Act} {o : Oper} {t : TypeId} {x0 : Operand} {u0 r : Value} {W : World} (ho : o.op = .build t #[(0, x0)]) (h0 : a.eval x0 = u0)
 (h : (Instr.build t #[(0, u0)]).run P W = .ok r W) : (execOp a.eval o).run P W = .ok (.value r) W := by
 unfold execOp
 simp only [ho, List.map_toArray, List.map_cons, List.map_nil, h0, h, Sem.run_bind, Sem.run_pure, Result.andThen_ok]
theorem bx_slice1 {P : Program} {a : Act} {o : Oper} {t : TypeId} {x : Operand} {u q : Value} {W W' : World} (ho : o.op = .buildSlice t 1 #[(0, x)]) (hx : a.eval x = u)
 (h : (Instr.buildSlice t 1 #[(0, u)]).run P W = .ok q W') : (execOp a.eval o).run P W = .ok (.value q) W' := by
 unfold execOp
 simp only [ho, List.map_toArray, List.map_cons, List.map_nil, hx, h, Sem.run_bind, Sem.run_pure, Result.andThen_ok]
theorem wp_storeF {P : Program} {o : Oper} {a : Act} {w : World} {K : Act → World → Prop} {Q : Exit → Act → World → Prop} (ty : TypeId) (x y : Operand) (ho : o.op = .store ty x y) {g i : Nat} {t : TypeId} {old : Array Value} {v : Value} (hb : Blk w g t old)
 (hx : a.eval x = .pointer (some ⟨g, i, none⟩)) (hy : a.eval y = v) (hi : i < old.size) (hv : v.cells = #[v]) (h1 : v.oneCell' = true) (hsz : (P.info? ty).map (·.size) = some 1)
 (h : Blk (w.setCell ⟨g, i, none⟩ v) g t (old.setIfInBounds i v) → Turn (only g) w (w.setCell ⟨g, i, none⟩ v) → K (a.put o.dst undef) (w.setCell ⟨g, i, none⟩ v)) : o.wp P a w K Q := by
 obtain ⟨j, hj, hjs⟩ := Option.map_eq_some_iff.1 hsz
 have hc : w.cell? ⟨g, i, none⟩ = some (old[i]) := by rw [hb.cell i, Array.getElem?_eq_getElem hi]
 have hf : w.frozen? ⟨g, i, none⟩ = false := hb.frozen i
 have hst : (Instr.storeAt ty (.pointer (some ⟨g, i, none⟩)) v).run P w = .ok () (w.setCell ⟨g, i, none⟩ v) := by
  have h0 : (⟨g, i, none⟩ : Addr).add 0 = ⟨g, i, none⟩ := by simp [Addr.add]
  simp [Instr.storeAt, storeVar, hv, Instr.sureAddr, sizeOf, typeInfo, hj, hjs, Result.andThen, storeCells, run_store _ _ _ _ _ h1, stored, h0, hc, hf]
 unfold Oper.wp execOp
 simp only [ho, hx, hy, hst, Sem.run_bind, Sem.run_pure, Result.andThen_ok]
 exact h (hb.set_ i v) ((Turn.refl _ w).at_ i v)
theorem size_sl : (Tryz.prog.info? 22).map (·.size) = some 1 := by kernel_rfl
structure RS (ty : Int) (g7 : Nat) (w2 w : World) (l : List Fld) (B : Option Addr) (k d : Nat) : Prop where
 bk : Blk w g7 24 #[.int .i64 ty, .slice B k d]
 ro : FRow w w2.heap.size (.slice B k d) l
 ln : l.length = k
 tr : Turn (only g7) w2 w
theorem RS.drew {ty : Int} {g7 : Nat} {w2 w : World} {l : List Fld} {B : Option Addr} {k d : Nat} (h : RS ty g7 w2 w l B k d) : RS ty g7 w2 w.drew l B k d := ⟨h.bk.drew, h.ro.still ((Turn.refl nowhere w).drew), h.ln, h.tr.drew⟩
theorem RS.add {ty : Int} {g7 : Nat} {w2 w : World} {l : List Fld} {B : Option Addr} {k d : Nat} (h : RS ty g7 w2 w l B k d) (hg : g7 < w2.heap.size) (f : Fld) (hlen : (k + 1) * 24 ≤ 140737488355328) :
 ∃ B' d' w4, (Builtin.append_ #[22, 22] 22 #[.slice B k d, .slice (some ⟨w.heap.size, 0, none⟩) 1 1]).run Tryz.prog (w.alloc (.cells (fldA f) 40)) = .ok (.slice B' (k + 1) d') w4 ∧
  Blk w4 g7 24 #[.int .i64 ty, .slice B k d] ∧ Turn (fun q => w2.heap.size ≤ q) w w4 ∧
  ∀ w5, Blk w5 g7 24 #[.int .i64 ty, .slice B' (k + 1) d'] → Turn (only g7) w4 w5 → RS ty g7 w2 w5 (l ++ [f]) B' (k + 1) d' := by
 obtain ⟨B', d', w4, h1, h2, h3⟩ := frow_grow (ty := 22) (w := w.alloc (.cells (fldA f) 40)) (c := 1) (h.ro.still ((Turn.refl nowhere w).alloc (.cells (fldA f) 40)))
  (Nat.le_trans h.tr.size ((Turn.refl nowhere w).alloc (.cells (fldA f) 40)).size) (fl_one f w) (fun h => by cases h) (by rw [h.ln]; exact hlen)
 rw [h.ln] at h1 h2
 have ht : Turn (fun q => w2.heap.size ≤ q) w w4 := ((Turn.refl (fun q => w2.heap.size ≤ q) w).alloc (.cells (fldA f) 40)).grown h3 fun g e _ => (h.ro.lt g e).1
 have hb4 := h.bk.turn ht (fun e => by
  have e : w2.heap.size ≤ g7 := e
  omega)
 refine ⟨B', d', w4, h1, hb4, ht, fun w5 hb5 ht5 => ⟨hb5, h2.turn ht5 (fun q hq e => ?_), by rw [List.length_append, h.ln]; rfl, ?_⟩⟩
 ·have e : q = g7 := e
  have := (h2.lt q hq).1
  omega
 ·exact (h.tr.trans ht (fun q hq e => by
   have e : w2.heap.size ≤ q := e
   omega)).trans ht5 fun q hq e => e
theorem fsize_le {k : Int} {c n : Nat} (hn : n ≤ 64) : sizeAll (ptsOf k (c : Int) n) ≤ 200 := by
 have hb : ∀ p : Pt, p.size ≤ p.n + 1 := by
  intro p
  unfold Pt.size
  split <;> omega
 unfold ptsOf
 split
 ·have := hb ⟨n, sgn, (rws (c : Int).toNat).s⟩
  simp only [sizeAll]
  dsimp only at this
  omega
 ·split
  ·have := hb ⟨2 * n, hexs, (rws (c : Int).toNat).h⟩
   simp only [sizeAll]
   dsimp only at this
   omega
  ·split
   ·have h4 := hb ⟨1, mk, (rws (c : Int).toNat).m⟩
    have h5 := hb ⟨n, dec, (rws (c : Int).toNat).d⟩
    simp only [sizeAll]
    dsimp only at h4 h5
    omega
   ·have := hb ⟨n, dec, (rws (c : Int).toNat).d⟩
    simp only [sizeAll]
    dsimp only at this
    omega
theorem decAll_take : ∀ (ps : List Pt) (b : List UInt8), decAll ps (b.take (sizeAll ps)) = decAll ps b
 | [], _ => rfl
 | p :: r, b => by
   have ih := decAll_take r (b.drop p.size)
   have h1 : (b.take (sizeAll (p :: r))).take p.size = b.take p.size := by
    rw [List.take_take]
    congr 1
    show min p.size (p.size + sizeAll r) = p.size
    omega
   have h2 : (b.take (sizeAll (p :: r))).drop p.size = (b.drop p.size).take (sizeAll r) := by
    show (b.take (p.size + sizeAll r)).drop p.size = _
    rw [List.drop_take]
    congr 1
    omega
   unfold decAll
   rw [h1, h2, ih]
theorem rpack_len2 : ∀ T : List UInt8, (rpack T).length = T.length / 2
 | [] => rfl
 | [x] => by simp [rpack]
 | a :: b :: r => by
   have := rpack_len2 r
   simp only [rpack, List.length_cons]
   omega
theorem funpack_len (ch : List UInt8) : ∀ b : List UInt8, (unpack ch b).length = 2 * b.length
 | [] => rfl
 | x :: r => by
   have := funpack_len ch r
   simp only [unpack, List.length_cons]
   omega
theorem rchars_len1 {f : Fm} (h : ∀ i x, (rch f i x).length = 1) : ∀ (b : List UInt8) (i : Nat), (rchars f i b).length = b.length
 | [], _ => rfl
 | x :: r, i => by
   show (rch f i x ++ rchars f (i + 1) r).length = _
   rw [List.length_append, h, rchars_len1 h r (i + 1), List.length_cons]
   omega
theorem ll_long {s c n m : Nat} {b : List UInt8} (hc : 1 ≤ c ∧ c ≤ 3) (hb : b.length = m) (hm : m = sizeAll (ptsOf 2 (c : Int) n)) : ∀ S, S = rfix (nf 2 s c) n (rchars (nf 2 s c) 0 b) → (nf 2 s c).right S = true → m ≤ (rbytes (nf 2 s c) S).length := by
 rintro S hS _
 have hcc : c = 1 ∨ c = 2 ∨ c = 3 := by omega
 have hr : rbytes (nf 2 s c) S = rdigits (c : Int) (two S.length) ++ rdigits (c : Int) S := rfl
 rw [hr, List.length_append]
 have key : m ≤ (rdigits (c : Int) S).length := by
  rcases hcc with rfl | rfl | rfl
  ·have h1 : (rchars (nf 2 s 1) 0 b).length = b.length := rchars_len1 (fun _ _ => rfl) b 0
   have h2 : S = rchars (nf 2 s 1) 0 b := by
    rw [hS]
    show rfix2 _ (rfix1 _ n _) = _
    rw [show rfix1 (nf 2 s 1) n (rchars (nf 2 s 1) 0 b) = rchars (nf 2 s 1) 0 b from if_neg fun h => absurd h.1 (show ¬ ((1 : Int) = 2) from by decide)]
    exact if_neg fun h => absurd h.1 (show ¬ ((1 : Int) = 2) from by decide)
   show m ≤ S.length
   rw [h2, h1, hb]
   exact Nat.le_refl _
  ·have h1 : (rchars (nf 2 s 2) 0 b).length = 2 * b.length := by rw [rchars_raw b 0 (fun _ _ => rfl), funpack_len]
   have hm2 : m = (n + 1) / 2 := hm
   have h3 : (rdigits ((2 : Nat) : Int) S).length = (padded S).length / 2 := rpack_len2 (padded S)
   have h4 := (padded_two S).2
   have h5 : S = rfix1 (nf 2 s 2) n (rchars (nf 2 s 2) 0 b) := by
    rw [hS]
    show rfix2 (nf 2 s 2) (rfix1 (nf 2 s 2) n (rchars (nf 2 s 2) 0 b)) = _
    unfold rfix2
    exact if_neg fun h => absurd h.2.1 (show ¬ ((2 : Int) = 5) from by decide)
   by_cases h6 : (rchars (nf 2 s 2) 0 b).length = n + 1
   ·have h7 : S = (rchars (nf 2 s 2) 0 b).drop 1 := by
     rw [h5]
     exact if_pos ⟨rfl, .inr rfl, h6⟩
    have h8 : S.length = n := by rw [h7, List.length_drop, h6]; omega
    omega
   ·have h7 : S = rchars (nf 2 s 2) 0 b := by
     rw [h5]
     exact if_neg fun h => h6 h.2.2
    have h8 : S.length = 2 * m := by rw [h7, h1, hb]
    omega
  ·have h1 : (rchars (nf 2 s 3) 0 b).length = b.length := rchars_len1 (fun _ _ => rfl) b 0
   have h2 : S = rchars (nf 2 s 3) 0 b := by
    rw [hS]
    show rfix2 _ (rfix1 _ n _) = _
    rw [show rfix1 (nf 2 s 3) n (rchars (nf 2 s 3) 0 b) = rchars (nf 2 s 3) 0 b from if_neg fun h => absurd h.1 (show ¬ ((3 : Int) = 2) from by decide)]
    exact if_neg fun h => absurd h.1 (show ¬ ((3 : Int) = 2) from by decide)
   have h3 : (rdigits ((3 : Nat) : Int) S).length = S.length := rsigns_len 3 S
   rw [h3, h2, h1, hb]
   exact Nat.le_refl _
 omega
theorem text_any {k s c n m cap : Nat} {A : Option Addr} {b : List UInt8} (w : World) (hk : 1 ≤ k ∧ k ≤ 5) (hc : 1 ≤ c ∧ c ≤ 3) (hb : Bs w A m b) (hm : m = sizeAll (ptsOf (k : Int) (c : Int) n)) (hs : 1 ≤ s ∧ s ≤ 64) (hn : n ≤ 64) :
 Calls Tryz.prog 55 #[fmV (nf k s c), .slice A m cap, .int .i64 (n : Int)] w (TextP w (rtext (nf k s c) b n)) := by
 have h200 : m ≤ 200 := by rw [hm]; exact fsize_le hn
 have hn9 : n ≤ 99 := by omega
 have hkk : k = 1 ∨ k = 2 ∨ k = 3 ∨ k = 4 ∨ k = 5 := by omega
 have hcc : c = 1 ∨ c = 2 ∨ c = 3 := by omega
 rcases hkk with rfl | rfl | rfl | rfl | rfl
 ·rcases hcc with rfl | rfl | rfl
  ·exact text11_walk w hb h200 hs hn9
  ·exact text12_walk w hb h200 hs hn9
  ·exact text13_walk w hb h200 hs hn9
 ·have hll := ll_long (s := s) hc hb.1 hm
  rcases hcc with rfl | rfl | rfl
  ·exact text21_walk w hb h200 hs hn9 hll
  ·exact text22_walk w hb h200 hs hn9 hll
  ·exact text23_walk w hb h200 hs hn9 hll
 ·rcases hcc with rfl | rfl | rfl
  ·exact text31_walk w hb h200 hs hn9
  ·exact text32_walk w hb h200 hs hn9
  ·exact text33_walk w hb h200 hs hn9
 ·rcases hcc with rfl | rfl | rfl
  ·exact text41_walk w hb h200 hs hn9
  ·exact text42_walk w hb h200 hs hn9
  ·exact text43_walk w hb h200 hs hn9
 ·rcases hcc with rfl | rfl | rfl
  ·exact text51_walk w hb h200 hs hn9
  ·exact text52_walk w hb h200 hs hn9
  ·exact text53_walk w hb h200 hs hn9
theorem size11_walk {s n : Nat} (w : World) (hs : s ≤ 64) (hn : n ≤ 64) (he : n = s) :
 Calls Tryz.prog 54 #[.agg #[.int .i64 1, .int .i64 (s : Int), .int .i64 1], .int .i64 (n : Int)] w fun e w' => e = .returned (.int .i64 ((sizeAll (ptsOf 1 1 n) : Nat) : Int)) ∧ Turn nowhere w w' := by
 have hz : sizeAll (ptsOf 1 1 n) = n := rfl
 rw [hz]
 clear hz
 have b0 : (0 : Int) ≤ (s : Int) := by omega
 have b1 : (s : Int) ≤ 64 := by omega
 have b2 : (0 : Int) ≤ (n : Int) := by omega
 have b3 : (n : Int) ≤ 64 := by omega
 subst he
 go_enter Tryz.func54, Tryz.ntmps54
 go_wp2
 go_ret
 exact ⟨ret_int (by omega), (Turn.refl nowhere w).alloc _⟩
theorem size12_walk {s n : Nat} (w : World) (hs : s ≤ 64) (hn : n ≤ 64) (he : n = s) :
 Calls Tryz.prog 54 #[.agg #[.int .i64 1, .int .i64 (s : Int), .int .i64 2], .int .i64 (n : Int)] w fun e w' => e = .returned (.int .i64 ((sizeAll (ptsOf 1 2 n) : Nat) : Int)) ∧ Turn nowhere w w' := by
 have hz : sizeAll (ptsOf 1 2 n) = (n + 1) / 2 := rfl
 rw [hz]
 clear hz
 have b0 : (0 : Int) ≤ (s : Int) := by omega
 have b1 : (s : Int) ≤ 64 := by omega
 have b2 : (0 : Int) ≤ (n : Int) := by omega
 have b3 : (n : Int) ≤ 64 := by omega
 subst he
 go_enter Tryz.func54, Tryz.ntmps54
 go_wp2
 go_ret
 exact ⟨ret_int (by omega), (Turn.refl nowhere w).alloc _⟩
theorem size13_walk {s n : Nat} (w : World) (hs : s ≤ 64) (hn : n ≤ 64) (he : n = s) :
 Calls Tryz.prog 54 #[.agg #[.int .i64 1, .int .i64 (s : Int), .int .i64 3], .int .i64 (n : Int)] w fun e w' => e = .returned (.int .i64 ((sizeAll (ptsOf 1 3 n) : Nat) : Int)) ∧ Turn nowhere w w' := by
 have hz : sizeAll (ptsOf 1 3 n) = n := rfl
 rw [hz]
 clear hz
 have b0 : (0 : Int) ≤ (s : Int) := by omega
 have b1 : (s : Int) ≤ 64 := by omega
 have b2 : (0 : Int) ≤ (n : Int) := by omega
 have b3 : (n : Int) ≤ 64 := by omega
 subst he
 go_enter Tryz.func54, Tryz.ntmps54
 go_wp2
 go_ret
 exact ⟨ret_int (by omega), (Turn.refl nowhere w).alloc _⟩
theorem size21_walk {s n : Nat} (w : World) (hs : s ≤ 64) (hn : n ≤ 64) :
 Calls Tryz.prog 54 #[.agg #[.int .i64 2, .int .i64 (s : Int), .int .i64 1], .int .i64 (n : Int)] w fun e w' => e = .returned (.int .i64 ((sizeAll (ptsOf 2 1 n) : Nat) : Int)) ∧ Turn nowhere w w' := by
 have hz : sizeAll (ptsOf 2 1 n) = n := rfl
 rw [hz]
 clear hz
 have b0 : (0 : Int) ≤ (s : Int) := by omega
 have b1 : (s : Int) ≤ 64 := by omega
 have b2 : (0 : Int) ≤ (n : Int) := by omega
 have b3 : (n : Int) ≤ 64 := by omega
 go_enter Tryz.func54, Tryz.ntmps54
 go_wp2
 go_ret
 exact ⟨ret_int (by omega), (Turn.refl nowhere w).alloc _⟩
theorem size22_walk {s n : Nat} (w : World) (hs : s ≤ 64) (hn : n ≤ 64) :
 Calls Tryz.prog 54 #[.agg #[.int .i64 2, .int .i64 (s : Int), .int .i64 2], .int .i64 (n : Int)] w fun e w' => e = .returned (.int .i64 ((sizeAll (ptsOf 2 2 n) : Nat) : Int)) ∧ Turn nowhere w w' := by
 have hz : sizeAll (ptsOf 2 2 n) = (n + 1) / 2 := rfl
 rw [hz]
 clear hz
 have b0 : (0 : Int) ≤ (s : Int) := by omega
 have b1 : (s : Int) ≤ 64 := by omega
 have b2 : (0 : Int) ≤ (n : Int) := by omega
 have b3 : (n : Int) ≤ 64 := by omega
 go_enter Tryz.func54, Tryz.ntmps54
 go_wp2
 go_ret
 exact ⟨ret_int (by omega), (Turn.refl nowhere w).alloc _⟩
theorem size23_walk {s n : Nat} (w : World) (hs : s ≤ 64) (hn : n ≤ 64) :
 Calls Tryz.prog 54 #[.agg #[.int .i64 2, .int .i64 (s : Int), .int .i64 3], .int .i64 (n : Int)] w fun e w' => e = .returned (.int .i64 ((sizeAll (ptsOf 2 3 n) : Nat) : Int)) ∧ Turn nowhere w w' := by
 have hz : sizeAll (ptsOf 2 3 n) = n := rfl
 rw [hz]
 clear hz
 have b0 : (0 : Int) ≤ (s : Int) := by omega
 have b1 : (s : Int) ≤ 64 := by omega
 have b2 : (0 : Int) ≤ (n : Int) := by omega
 have b3 : (n : Int) ≤ 64 := by omega
 go_enter Tryz.func54, Tryz.ntmps54
 go_wp2
 go_ret
 exact ⟨ret_int (by omega), (Turn.refl nowhere w).alloc _⟩
theorem size31_walk {s n : Nat} (w : World) (hs : s ≤ 64) (hn : n ≤ 64) (he : n = s) :
 Calls Tryz.prog 54 #[.agg #[.int .i64 3, .int .i64 (s : Int), .int .i64 1], .int .i64 (n : Int)] w fun e w' => e = .returned (.int .i64 ((sizeAll (ptsOf 3 1 n) : Nat) : Int)) ∧ Turn nowhere w w' := by
 have hz : sizeAll (ptsOf 3 1 n) = n := rfl
 rw [hz]
 clear hz
 have b0 : (0 : Int) ≤ (s : Int) := by omega
 have b1 : (s : Int) ≤ 64 := by omega
 have b2 : (0 : Int) ≤ (n : Int) := by omega
 have b3 : (n : Int) ≤ 64 := by omega
 subst he
 go_enter Tryz.func54, Tryz.ntmps54
 go_wp2
 go_ret
 exact ⟨ret_int (by omega), (Turn.refl nowhere w).alloc _⟩
theorem size32_walk {s n : Nat} (w : World) (hs : s ≤ 64) (hn : n ≤ 64) (he : n = s) :
 Calls Tryz.prog 54 #[.agg #[.int .i64 3, .int .i64 (s : Int), .int .i64 2], .int .i64 (n : Int)] w fun e w' => e = .returned (.int .i64 ((sizeAll (ptsOf 3 2 n) : Nat) : Int)) ∧ Turn nowhere w w' := by
 have hz : sizeAll (ptsOf 3 2 n) = n := rfl
 rw [hz]
 clear hz
 have b0 : (0 : Int) ≤ (s : Int) := by omega
 have b1 : (s : Int) ≤ 64 := by omega
 have b2 : (0 : Int) ≤ (n : Int) := by omega
 have b3 : (n : Int) ≤ 64 := by omega
 subst he
 go_enter Tryz.func54, Tryz.ntmps54
 go_wp2
 go_ret
 exact ⟨ret_int (by omega), (Turn.refl nowhere w).alloc _⟩
theorem size33_walk {s n : Nat} (w : World) (hs : s ≤ 64) (hn : n ≤ 64) (he : n = s) :
 Calls Tryz.prog 54 #[.agg #[.int .i64 3, .int .i64 (s : Int), .int .i64 3], .int .i64 (n : Int)] w fun e w' => e = .returned (.int .i64 ((sizeAll (ptsOf 3 3 n) : Nat) : Int)) ∧ Turn nowhere w w' := by
 have hz : sizeAll (ptsOf 3 3 n) = n := rfl
 rw [hz]
 clear hz
 have b0 : (0 : Int) ≤ (s : Int) := by omega
 have b1 : (s : Int) ≤ 64 := by omega
 have b2 : (0 : Int) ≤ (n : Int) := by omega
 have b3 : (n : Int) ≤ 64 := by omega
 subst he
 go_enter Tryz.func54, Tryz.ntmps54
 go_wp2
 go_ret
 exact ⟨ret_int (by omega), (Turn.refl nowhere w).alloc _⟩
theorem size41_walk {s n : Nat} (w : World) (hs : s ≤ 64) (hn : n ≤ 64) (he : n = s) :
 Calls Tryz.prog 54 #[.agg #[.int .i64 4, .int .i64 (s : Int), .int .i64 1], .int .i64 (n : Int)] w fun e w' => e = .returned (.int .i64 ((sizeAll (ptsOf 4 1 n) : Nat) : Int)) ∧ Turn nowhere w w' := by
 have hz : sizeAll (ptsOf 4 1 n) = 2 * n := rfl
 rw [hz]
 clear hz
 have b0 : (0 : Int) ≤ (s : Int) := by omega
 have b1 : (s : Int) ≤ 64 := by omega
 have b2 : (0 : Int) ≤ (n : Int) := by omega
 have b3 : (n : Int) ≤ 64 := by omega
 subst he
 go_enter Tryz.func54, Tryz.ntmps54
 go_wp2
 go_ret
 exact ⟨ret_int (by omega), (Turn.refl nowhere w).alloc _⟩
theorem size42_walk {s n : Nat} (w : World) (hs : s ≤ 64) (hn : n ≤ 64) (he : n = s) :
 Calls Tryz.prog 54 #[.agg #[.int .i64 4, .int .i64 (s : Int), .int .i64 2], .int .i64 (n : Int)] w fun e w' => e = .returned (.int .i64 ((sizeAll (ptsOf 4 2 n) : Nat) : Int)) ∧ Turn nowhere w w' := by
 have hz : sizeAll (ptsOf 4 2 n) = (2 * n + 1) / 2 := rfl
 rw [hz]
 clear hz
 have b0 : (0 : Int) ≤ (s : Int) := by omega
 have b1 : (s : Int) ≤ 64 := by omega
 have b2 : (0 : Int) ≤ (n : Int) := by omega
 have b3 : (n : Int) ≤ 64 := by omega
 subst he
 go_enter Tryz.func54, Tryz.ntmps54
 go_wp2
 go_ret
 exact ⟨ret_int (by omega), (Turn.refl nowhere w).alloc _⟩
theorem size43_walk {s n : Nat} (w : World) (hs : s ≤ 64) (hn : n ≤ 64) (he : n = s) :
 Calls Tryz.prog 54 #[.agg #[.int .i64 4, .int .i64 (s : Int), .int .i64 3], .int .i64 (n : Int)] w fun e w' => e = .returned (.int .i64 ((sizeAll (ptsOf 4 3 n) : Nat) : Int)) ∧ Turn nowhere w w' := by
 have hz : sizeAll (ptsOf 4 3 n) = (2 * n + 1) / 2 := rfl
 rw [hz]
 clear hz
 have b0 : (0 : Int) ≤ (s : Int) := by omega
 have b1 : (s : Int) ≤ 64 := by omega
 have b2 : (0 : Int) ≤ (n : Int) := by omega
 have b3 : (n : Int) ≤ 64 := by omega
 subst he
 go_enter Tryz.func54, Tryz.ntmps54
 go_wp2
 go_ret
 exact ⟨ret_int (by omega), (Turn.refl nowhere w).alloc _⟩
theorem size51_walk {s n : Nat} (w : World) (hs : s ≤ 64) (hn : n ≤ 64) (he : n = s) :
 Calls Tryz.prog 54 #[.agg #[.int .i64 5, .int .i64 (s : Int), .int .i64 1], .int .i64 (n : Int)] w fun e w' => e = .returned (.int .i64 ((sizeAll (ptsOf 5 1 n) : Nat) : Int)) ∧ Turn nowhere w w' := by
 have hz : sizeAll (ptsOf 5 1 n) = 1 + (n + 0) := rfl
 rw [hz]
 clear hz
 have b0 : (0 : Int) ≤ (s : Int) := by omega
 have b1 : (s : Int) ≤ 64 := by omega
 have b2 : (0 : Int) ≤ (n : Int) := by omega
 have b3 : (n : Int) ≤ 64 := by omega
 subst he
 go_enter Tryz.func54, Tryz.ntmps54
 go_wp2
 go_ret
 exact ⟨ret_int (by omega), (Turn.refl nowhere w).alloc _⟩
theorem size52_walk {s n : Nat} (w : World) (hs : s ≤ 64) (hn : n ≤ 64) (he : n = s) :
 Calls Tryz.prog 54 #[.agg #[.int .i64 5, .int .i64 (s : Int), .int .i64 2], .int .i64 (n : Int)] w fun e w' => e = .returned (.int .i64 ((sizeAll (ptsOf 5 2 n) : Nat) : Int)) ∧ Turn nowhere w w' := by
 have hz : sizeAll (ptsOf 5 2 n) = 1 + ((n + 1) / 2 + 0) := rfl
 rw [hz]
 clear hz
 have b0 : (0 : Int) ≤ (s : Int) := by omega
 have b1 : (s : Int) ≤ 64 := by omega
 have b2 : (0 : Int) ≤ (n : Int) := by omega
 have b3 : (n : Int) ≤ 64 := by omega
 subst he
 go_enter Tryz.func54, Tryz.ntmps54
 go_wp2
 go_ret
 exact ⟨ret_int (by omega), (Turn.refl nowhere w).alloc _⟩
theorem size53_walk {s n : Nat} (w : World) (hs : s ≤ 64) (hn : n ≤ 64) (he : n = s) :
 Calls Tryz.prog 54 #[.agg #[.int .i64 5, .int .i64 (s : Int), .int .i64 3], .int .i64 (n : Int)] w fun e w' => e = .returned (.int .i64 ((sizeAll (ptsOf 5 3 n) : Nat) : Int)) ∧ Turn nowhere w w' := by
 have hz : sizeAll (ptsOf 5 3 n) = 1 + (n + 0) := rfl
 rw [hz]
 clear hz
 have b0 : (0 : Int) ≤ (s : Int) := by omega
 have b1 : (s : Int) ≤ 64 := by omega
 have b2 : (0 : Int) ≤ (n : Int) := by omega
 have b3 : (n : Int) ≤ 64 := by omega
 subst he
 go_enter Tryz.func54, Tryz.ntmps54
 go_wp2
 go_ret
 exact ⟨ret_int (by omega), (Turn.refl nowhere w).alloc _⟩
theorem size_any {k s c n : Nat} (w : World) (hk : 1 ≤ k ∧ k ≤ 5) (hc : 1 ≤ c ∧ c ≤ 3) (hs : s ≤ 64) (hn : n ≤ 64) (he : k ≠ 2 → n = s) :
 Calls Tryz.prog 54 #[fmV (nf k s c), .int .i64 (n : Int)] w fun e w' => e = .returned (.int .i64 ((sizeAll (ptsOf (k : Int) (c : Int) n) : Nat) : Int)) ∧ Turn nowhere w w' := by
 have hkk : k = 1 ∨ k = 2 ∨ k = 3 ∨ k = 4 ∨ k = 5 := by omega
 have hcc : c = 1 ∨ c = 2 ∨ c = 3 := by omega
 rcases hkk with rfl | rfl | rfl | rfl | rfl
 ·rcases hcc with rfl | rfl | rfl
  ·exact size11_walk w hs hn (he (by decide))
  ·exact size12_walk w hs hn (he (by decide))
  ·exact size13_walk w hs hn (he (by decide))
 ·rcases hcc with rfl | rfl | rfl
  ·exact size21_walk w hs hn
  ·exact size22_walk w hs hn
  ·exact size23_walk w hs hn
 ·rcases hcc with rfl | rfl | rfl
  ·exact size31_walk w hs hn (he (by decide))
  ·exact size32_walk w hs hn (he (by decide))
  ·exact size33_walk w hs hn (he (by decide))
 ·rcases hcc with rfl | rfl | rfl
  ·exact size41_walk w hs hn (he (by decide))
  ·exact size42_walk w hs hn (he (by decide))
  ·exact size43_walk w hs hn (he (by decide))
 ·rcases hcc with rfl | rfl | rfl
  ·exact size51_walk w hs hn (he (by decide))
  ·exact size52_walk w hs hn (he (by decide))
  ·exact size53_walk w hs hn (he (by decide))
theorem textn {k s c n : Nat} {b : List UInt8} (hk : 1 ≤ k ∧ k ≤ 5) (hc : 1 ≤ c ∧ c ≤ 3) (hs : 1 ≤ s ∧ s ≤ 64) (hn : 1 ≤ n ∧ n ≤ s) (he : k ≠ 2 → n = s) (hl : sizeAll (ptsOf (k : Int) (c : Int) n) ≤ b.length) :
 takeAll (ptsOf (k : Int) (c : Int) n) b = if (rtext (nf k s c) (b.take (sizeAll (ptsOf (k : Int) (c : Int) n))) n).2 = true then .ok ((rtext (nf k s c) (b.take (sizeAll (ptsOf (k : Int) (c : Int) n))) n).1, b.drop (sizeAll (ptsOf (k : Int) (c : Int) n))) else .error 42 := by
 have hd : decAll (ptsOf (k : Int) (c : Int) n) b = if (rtext (nf k s c) (b.take (sizeAll (ptsOf (k : Int) (c : Int) n))) n).2 = true then some (rtext (nf k s c) (b.take (sizeAll (ptsOf (k : Int) (c : Int) n))) n).1 else none := by
  rw [← decAll_take]
  by_cases h2 : k = 2
  ·subst h2
   have e2 : (b.take (sizeAll (ptsOf 2 (c : Int) n))).length = sizeAll (ptsOf 2 (c : Int) n) := by rw [List.length_take]; exact Nat.min_eq_left hl
   exact text_ll hc hs hn e2
  ·obtain rfl := he h2
   exact text_nl (by omega) hc hs (by rw [List.length_take]; omega)
 unfold takeAll
 rw [if_neg (by omega), hd]
 split
 ·rename_i h
  split at h
  ·cases h
  ·rename_i h2
   rw [if_neg h2]
 ·rename_i t h
  split at h
  ·rename_i h2
   rw [if_pos h2]
   injection h with h
   rw [h]
  ·cases h
def RTake (w : World) (r : Except Int (List UInt8 × List UInt8)) (e : Ending) (w' : World) : Prop := TakeF r w.heap.size e w' ∧ Turn nowhere w w'
def llRes (s c : Nat) (r : Except Int (List UInt8 × List UInt8)) : Except Int (List UInt8 × List UInt8) := match r with
 | .error e => .error e
 | .ok (t, r) => if 1 ≤ val t ∧ (val t : Int) ≤ (s : Int) then takeAll (ptsOf 2 (c : Int) (val t)) r else .error 42
def TaS (b3 : Nat) (x y z : Int) (W : World) : Prop := Blk W b3 49 #[.int .i64 x, .int .i64 y, .int .i64 z]
theorem rtake_bad {w : World} {f : Fm} {n cap : Nat} {A : Option Addr} (hm : f.may = false) :
 Calls Tryz.prog 29 #[.slice A n cap, fmV f] w (RTake w (.error 40)) := by
 have hmw := rmay_walk f
 rw [hm] at hmw
 have HMW := zH hmw
 clear hmw hm
 obtain ⟨k, s, c⟩ := f
 unfold fmV at *
 go_enter Tryz.func29, Tryz.ntmps29
 go_upto_region 1 with fail
 have hb0 := Blk.new w 49 #[.int .i64 k, .int .i64 s, .int .i64 c]
 have ht0 := (Turn.refl nowhere w).alloc (.cells #[.int .i64 k, .int .i64 s, .int .i64 c] 49)
 generalize (w.alloc (.cells #[.int .i64 k, .int .i64 s, .int .i64 c] 49)) = w0 at *
 generalize w.heap.size = b2 at *
 refine wp_region_lit ?_
 refine wR (v := fmV ⟨k, s, c⟩) rfl (exec_load rfl rfl (load_blkForm hb0)) ?_
 simp only [zz]
 unfold fmV
 have HT0 := zH ht0
 clear hb0 ht0
 go_wp2_with (go_at_call 48; refine (HMW.out _).mono ?_; rintro e w1 ⟨rfl, ht1⟩)
 go_ret3
 exact ⟨rfl, HT0.out.next ht1⟩
theorem build_form3 (x y z : Int) (W : World) : (Instr.build 49 #[(0, .int .i64 x), (1, .int .i64 y), (2, .int .i64 z)]).run Tryz.prog W = .ok (.agg #[.int .i64 x, .int .i64 y, .int .i64 z]) W := by kernel_rfl
theorem zero_form (w : World) : (zeroValue 49).run Tryz.prog w = .ok (.agg #[.int .i64 0, .int .i64 0, .int .i64 0]) w := by kernel_rfl
theorem bfrom_all2 {A : Option Addr} {n c k : Nat} {l : List UInt8} {W : World} (hb : Bs W A n l) (hz : A = none → c = 0) (hc : n ≤ c) (hk : k ≤ n) : ∃ A', (∀ (a : Act) (o : Oper) (x y : Operand), o.op = .slice 26 x (some y) none none → a.eval x = .slice A n c → a.eval y = .int .i64 (k : Int) → (execOp a.eval o).run Tryz.prog W = .ok (.value (.slice A' (n - k) (c - k))) W) ∧ Bs W A' (n - k) (l.drop k) ∧ (A' = none → c - k = 0) := by
 obtain ⟨A', h1, h2, h3⟩ := exec_bfrom (a := { tmps := #[.slice A n c, .int .i64 (k : Int)], defers := [] }) (o := ⟨none, .slice 26 (.tmp 0) (some (.tmp 1)) none none, 0, "", #[], none⟩) rfl rfl rfl hk hc hb hz
 refine ⟨A', fun a o x y ho hx hy => ?_, h2, h3⟩
 rw [← h1]
 unfold execOp
 simp only [ho, hx, hy, Option.map]
 rfl
theorem rtake_nl {w : World} {k s c n cap : Nat} {A : Option Addr} {b : List UInt8} (hk : 1 ≤ k ∧ k ≤ 5) (hk2 : k ≠ 2) (hc : 1 ≤ c ∧ c ≤ 3) (hs : 1 ≤ s ∧ s ≤ 64) (hb : Bs w A n b) (hcap : n ≤ cap) (hz : A = none → cap = 0) (hn : n ≤ 140737488355328) :
 Calls Tryz.prog 29 #[.slice A n cap, fmV (nf k s c)] w (RTake w ((nf k s c).take b)) := by
 rw [take_nl hk2 (may_nf hk hc hs)]
 have HSZ := zH (fun W => size_any (k := k) (s := s) (c := c) (n := s) W hk hc (by omega) (by omega) (fun _ => rfl))
 have HTX := zH (fun W (h : Bs W A (sizeAll (ptsOf (k : Int) (c : Int) s)) (b.take (sizeAll (ptsOf (k : Int) (c : Int) s)))) => text_any (k := k) (s := s) (c := c) (n := s) (cap := cap) W hk hc h rfl hs (by omega))
 have HLG := zH (textn (n := s) (b := b) hk hc hs (by omega) fun _ => rfl)
 have HSH := zH (fun h : b.length < sizeAll (ptsOf (k : Int) (c : Int) s) => take_short h)
 have y0 : ((k : Int) == 2) = false := by rw [beq_eq_false_iff_ne]; omega
 have HMW := zH (fun W => rmay_walk (nf k s c) W)
 rw [may_nf hk hc hs] at HMW
 have HBB := zH hb
 have HCAP := zH hcap
 have HZ := zH hz
 have HN := zH hn
 obtain ⟨b3, hb3⟩ : ∃ b3, b3 = w.heap.size := ⟨_, rfl⟩
 generalize takeAll (ptsOf (k : Int) (c : Int) s) b = TA at *
 have HTA := zH (fun (e : Ending) (w' : World) (h : RTake w TA e w') => h)
 clear hb hcap hz hn hk hk2 hc hs
 have hfv : fmV (nf k s c) = .agg #[.int .i64 (k : Int), .int .i64 (s : Int), .int .i64 (c : Int)] := rfl
 rw [hfv] at HSZ HTX HMW ⊢
 clear hfv
 go_enter Tryz.func29, Tryz.ntmps29
 go_upto_region 1 with fail
 have hb0 := Blk.new w 49 #[.int .i64 (k : Int), .int .i64 (s : Int), .int .i64 (c : Int)]
 have ht0 := (Turn.refl nowhere w).alloc (.cells #[.int .i64 (k : Int), .int .i64 (s : Int), .int .i64 (c : Int)] 49)
 generalize (w.alloc (.cells #[.int .i64 (k : Int), .int .i64 (s : Int), .int .i64 (c : Int)] 49)) = w1 at *
 rw [← hb3] at hb0 ⊢
 have HFK := zH hb0
 have HTT := zH ht0
 clear hb0 ht0 hb3
 refine wp_region_lit ?_
 refine wR (v := .agg #[.int .i64 (k : Int), .int .i64 (s : Int), .int .i64 (c : Int)]) (w' := w1) rfl (exec_load rfl rfl (load_blkForm HFK.out)) ?_
 simp only [zz]
 go_upto_region 3 with (go_at_call 48; refine (HMW.out _).mono ?_; rintro e w3 ⟨rfl, ht3⟩)
 have HTT := zH (HTT.out.trans ht3 fun _ _ e => e)
 have HFK := zH (HFK.out.turn ht3 fun e => e)
 have HBB := zH (bs_turn HBB.out HTT.out)
 clear ht3
 have d0 : w3.cell? ⟨b3, 0, none⟩ = some (.int .i64 (k : Int)) := HFK.out.cell 0
 have d1 : w3.cell? ⟨b3, 1, none⟩ = some (.int .i64 (s : Int)) := HFK.out.cell 1
 have d2 : w3.cell? ⟨b3, 2, none⟩ = some (.int .i64 (c : Int)) := HFK.out.cell 2
 go_upto_region 13 with fail
 clear d0 d1 d2 y0
 refine wp_region_lit ?_
 refine wR (v := .agg #[.int .i64 (k : Int), .int .i64 (s : Int), .int .i64 (c : Int)]) (w' := w3) rfl (exec_load rfl rfl (load_blkForm HFK.out)) ?_
 simp only [zz]
 refine wM (.int .i64 (s : Int)) ?_
 simp only [zz]
 refine wpList_call rfl ?_
 intro K1 HK1
 go_wp2_with fail
 refine (HSZ.out w3).mono ?_
 rintro e w4 ⟨rfl, ht4⟩
 refine HK1.out _ _ ?_
 clear HK1
 try simp only [zz]
 have HT4 := zH (HTT.out.trans ht4 fun _ _ e => e)
 have HFK4 := zH (HFK.out.turn ht4 fun e => e)
 have HB4 := zH (bs_turn HBB.out ht4)
 clear ht4
 generalize sizeAll (ptsOf (k : Int) (c : Int) s) = z at *
 by_cases hlt : n < z
 ·have y1 : (n : Int) < (z : Int) := by omega
  have HRE := zH (HSH.out (by rw [HB4.out.1]; exact hlt))
  clear hlt
  go_wp2_with fail
  exact bodyPost_ret (v := .tuple #[strV [], .slice none 0 0, .int .i64 43]) (by simp [results, Tryz.results29, go_sem, strV]) rfl (HTA.out _ _ (by rw [HRE.out]; exact ⟨rfl, HT4.out⟩))
 ·have y1 : ¬ ((n : Int) < (z : Int)) := by omega
  have y2 : decide (n < z) = false := decide_eq_false hlt
  have hzn : z ≤ n := by omega
  have hb4 := bs_take HB4.out hzn
  have HTX := zH (fun W (h : Bs W A z (b.take z)) => HTX.out W h)
  have HR := zH (HLG.out (by rw [HB4.out.1]; exact hzn))
  have HZN := zH hzn
  clear hlt hzn
  go_upto_region 16 with fail
  clear y1 y2
  have hS0 : TaS b3 (k : Int) (s : Int) (c : Int) w4.drew := HFK4.out
  refine wp_region_alw (TaS b3 (k : Int) (s : Int) (c : Int)) (by kernel_rfl) ?_
  refine aT (i := 0) (v := .agg #[.int .i64 (k : Int), .int .i64 (s : Int), .int .i64 (c : Int)]) rfl (by kernel_rfl) (by kernel_rfl) (fun W hW => exec_load rfl rfl (load_blkForm hW)) hS0 ?_
  simp only [zz]
  refine aT (i := 1) (v := .slice A n cap) rfl (by kernel_rfl) (by kernel_rfl) (fun W hW => exec_move rfl rfl) hS0 ?_
  simp only [zz]
  refine aT (i := 2) (v := .int .i64 (z : Int)) rfl (by kernel_rfl) (by kernel_rfl) (fun W hW => exec_move rfl rfl) hS0 ?_
  simp only [zz]
  refine aT (i := 3) (v := .slice A z cap) rfl (by kernel_rfl) (by kernel_rfl) (fun W hW => exec_bto rfl rfl rfl (Nat.le_trans HZN.out HCAP.out)) hS0 ?_
  simp only [zz]
  refine aT (i := 4) (v := .int .i64 (s : Int)) rfl (by kernel_rfl) (by kernel_rfl) (fun W hW => exec_move rfl rfl) hS0 ?_
  simp only [zz]
  refine alw_step (i := 5) (by kernel_rfl) rfl rfl ?_
  intro K1 HK1
  go_wp2_with fail
  refine (HTX.out w4.drew hb4).mono ?_
  rintro e w5 ⟨rfl, ht5⟩
  have hS1 : TaS b3 (k : Int) (s : Int) (c : Int) w5 := Blk.turn (F := nowhere) hS0 ht5 fun e => e
  refine HK1.out _ _ ⟨hS1, ?_⟩
  clear HK1
  generalize rtext (nf k s c) (b.take z) s = rt at *
  obtain ⟨tx, ok⟩ := rt
  refine aT (i := 6) (v := .tuple #[strV tx, .bool ok]) rfl (by kernel_rfl) (by kernel_rfl) (fun W hW => exec_move rfl rfl) hS1 ?_
  simp only [zz]
  refine aT (i := 7) (v := strV tx) rfl (by kernel_rfl) (by kernel_rfl) (fun W hW => exec_ext rfl rfl rfl) hS1 ?_
  simp only [zz]
  refine aT (i := 8) (v := .bool ok) rfl (by kernel_rfl) (by kernel_rfl) (fun W hW => exec_ext rfl rfl rfl) hS1 ?_
  simp only [zz]
  refine aT (i := 9) (v := strV tx) rfl (by kernel_rfl) (by kernel_rfl) (fun W hW => gx_assign rfl rfl) hS1 ?_
  simp only [zz]
  refine aT (i := 10) (v := .bool ok) rfl (by kernel_rfl) (by kernel_rfl) (fun W hW => gx_assign rfl rfl) hS1 ?_
  simp only [zz]
  refine alw_done (by kernel_rfl) ?_
  refine NoPanic.normal ?_
  have HT5 := zH ((HT4.out.trans (Turn.refl nowhere w4).drew fun _ _ e => e).trans ht5 fun _ _ e => e)
  have HB5 := zH (bs_turn HB4.out ((Turn.refl nowhere w4).drew.trans ht5 fun _ _ e => e))
  clear hS0 hS1 ht5 hb4
  cases ok with
  | false =>
    have hr := HR.out
    rw [if_neg (by intro h; cases h)] at hr
    have HRE := zH hr
    clear hr
    go_wp2_with fail
    exact bodyPost_ret (v := .tuple #[strV [], .slice none 0 0, .int .i64 42]) (by simp [results, Tryz.results29, go_sem, strV]) rfl (HTA.out _ _ (by rw [HRE.out]; exact ⟨rfl, HT5.out⟩))
  | true =>
    have hr := HR.out
    rw [if_pos rfl] at hr
    have HR := zH hr
    clear hr
    go_upto_region 19 with fail
    refine wp_region_lit ?_
    refine wM (strV tx) ?_
    simp only [zz]
    refine wR (v := _) rfl (exec_make0 rfl) ?_
    simp only [zz]
    have hown0 := Own.empty w5 w5.heap.size 5 (Nat.le_refl _)
    have hb6 : Bs (w5.alloc (.cells #[] 5)) A n b := bs_turn HB5.out ((Turn.refl nowhere w5).alloc _)
    have hbt : Below w5.heap.size w5 (w5.alloc (.cells #[] 5)) := (Below.refl _ w5).alloc (Nat.le_refl _) _
    have hle3 : w5.heap.size ≤ (w5.alloc (.cells #[] 5)).heap.size := by simp
    generalize (w5.alloc (.cells #[] 5)) = w6 at *
    obtain ⟨A6, hsl, hbs6, hz6⟩ := bfrom_all2 (k := z) hb6 HZ.out HCAP.out HZN.out
    have hdl := hbs6.1
    obtain ⟨rest, hrest⟩ : ∃ rest, rest = b.drop z := ⟨_, rfl⟩
    rw [← hrest] at hbs6 HR hdl
    clear hrest
    refine wM (.slice A n cap) ?_
    simp only [zz]
    refine wM (.int .i64 (z : Int)) ?_
    simp only [zz]
    refine wR (v := .slice A6 (n - z) (cap - z)) (w' := w6) rfl (hsl _ _ _ _ rfl rfl rfl) ?_
    simp only [zz]
    refine wpList_append_bytes w6 rfl _ _ _ rfl w5.heap.size 5 byteInfo Tryz.underlying26 _ [] rfl hown0 A6 (n - z) (cap - z) rest rfl hbs6 hz6 (by have := HN.out; simp; omega) hle3 ?_
    intro v7 w7 ho7 hb7
    rw [List.nil_append] at ho7
    obtain ⟨A7, n7, c7, rfl, _⟩ := ho7.form
    simp only [zz]
    have HO7 := zH (own_lower ho7 HT5.out.size)
    have HT7 := zH (turn_below HT5.out ((hbt.trans hb7).mono HT5.out.size))
    have HRE := HR
    clear ho7 hb7 hown0 hb6 hbt hle3 hsl hbs6 hz6 hdl
    go_wp2_with fail
    exact bodyPost_ret (v := .tuple #[strV tx, .slice A7 n7 c7, .int .i64 0]) (by simp [results, Tryz.results29, go_sem]) rfl (HTA.out _ _ (by rw [HRE.out]; exact ⟨⟨A7, n7, c7, rfl, HO7.out⟩, HT7.out⟩))
theorem val_two (a b : UInt8) (ha : dec.contains a = true) (hb : dec.contains b = true) : val [a, b] = 10 * vOf a + vOf b := by
 rw [dec_byte] at ha hb
 have h1 := of_decide_eq_true ha
 have h2 := of_decide_eq_true hb
 rw [vOf_nat, vOf_nat, if_pos h1, if_pos h2]
 show (0 * 10 + (a.toNat - 48)) * 10 + (b.toNat - 48) = _
 omega
theorem rtake_ll {w : World} {s c n cap : Nat} {A : Option Addr} {b : List UInt8} (hc : 1 ≤ c ∧ c ≤ 3) (hs : 1 ≤ s ∧ s ≤ 64) (hb : Bs w A n b) (hcap : n ≤ cap) (hz : A = none → cap = 0) (hn : n ≤ 140737488355328) :
 Calls Tryz.prog 29 #[.slice A n cap, fmV (nf 2 s c)] w (RTake w ((nf 2 s c).take b)) := by
 have hk : 1 ≤ 2 ∧ 2 ≤ 5 := by decide
 rw [take_ll (may_nf hk hc hs)]
 show Calls Tryz.prog 29 #[.slice A n cap, fmV (nf 2 s c)] w (RTake w (llRes s c (takeAll (ptsOf 1 (c : Int) 2) b)))
 have HT1 := zH (fun W (h : Bs W A n b) => rtake_nl (k := 1) (s := 2) (c := c) (cap := cap) (by decide) (by decide) hc (by decide) h hcap hz hn)
 rw [take_nl (k := 1) (by decide) (may_nf (by decide) hc (by decide))] at HT1
 have HSZa := zH (fun q (hq : 1 ≤ q ∧ q ≤ s) W => size_any (k := 2) (s := s) (c := c) (n := q) W hk hc (by omega) (by omega) (fun h => absurd rfl h))
 have HTXa := zH (fun q (hq : 1 ≤ q ∧ q ≤ s) (b : List UInt8) (A : Option Addr) (cap : Nat) W (h : Bs W A (sizeAll (ptsOf ((2 : Nat) : Int) (c : Int) q)) (b.take (sizeAll (ptsOf ((2 : Nat) : Int) (c : Int) q)))) => text_any (k := 2) (s := s) (c := c) (n := q) (cap := cap) W hk hc h rfl hs (by omega))
 have HLGa := zH (fun q (hq : 1 ≤ q ∧ q ≤ s) (b : List UInt8) => textn (k := 2) (s := s) (c := c) (n := q) (b := b) hk hc hs hq fun h => absurd rfl h)
 have HER := zH (fun e (h : takeAll (ptsOf 1 (c : Int) 2) b = .error e) => takeAll_err h)
 have HOK := zH (fun t r (h : takeAll (ptsOf 1 (c : Int) 2) b = .ok (t, r)) => (num_right (c : Int) t).1 (ok_take (pts_gm (k := 1) hc) h).1)
 have HRL := zH (fun (t r : List UInt8) (h : takeAll (ptsOf 1 (c : Int) 2) b = .ok (t, r)) => show r.length ≤ n from by have h2 := (ok_take (pts_gm (k := 1) hc) h).2; rw [← hb.1, ← h2, List.length_append]; omega)
 have HS := zH hs
 have hTA : takeAll (ptsOf ((1 : Nat) : Int) (c : Int) 2) b = takeAll (ptsOf 1 (c : Int) 2) b := rfl
 rw [hTA] at HT1
 clear hTA
 rw [show ((2 : Nat) : Int) = 2 from rfl] at HSZa HTXa HLGa
 have HMW := zH (fun W => rmay_walk (nf 2 s c) W)
 rw [may_nf hk hc hs] at HMW
 have HBB := zH hb
 have HCAP := zH hcap
 have HZ := zH hz
 have HN := zH hn
 obtain ⟨b3, hb3⟩ : ∃ b3, b3 = w.heap.size := ⟨_, rfl⟩
 generalize takeAll (ptsOf 1 (c : Int) 2) b = R1 at *
 clear hb hcap hz hk hc hs
 have hfv : fmV (nf 2 s c) = .agg #[.int .i64 2, .int .i64 (s : Int), .int .i64 (c : Int)] := rfl
 rw [hfv] at HMW HSZa HTXa ⊢
 clear hfv
 go_enter Tryz.func29, Tryz.ntmps29
 go_upto_region 1 with fail
 have hb0 := Blk.new w 49 #[.int .i64 2, .int .i64 (s : Int), .int .i64 (c : Int)]
 have ht0 := (Turn.refl nowhere w).alloc (.cells #[.int .i64 2, .int .i64 (s : Int), .int .i64 (c : Int)] 49)
 generalize (w.alloc (.cells #[.int .i64 2, .int .i64 (s : Int), .int .i64 (c : Int)] 49)) = w1 at *
 rw [← hb3] at hb0 ⊢
 have HFK := zH hb0
 have HTT := zH ht0
 clear hb0 ht0 hb3
 refine wp_region_lit ?_
 refine wR (v := .agg #[.int .i64 2, .int .i64 (s : Int), .int .i64 (c : Int)]) (w' := w1) rfl (exec_load rfl rfl (load_blkForm HFK.out)) ?_
 simp only [zz]
 go_upto_region 3 with (go_at_call 48; refine (HMW.out _).mono ?_; rintro e w3 ⟨rfl, ht3⟩)
 have HTT := zH (HTT.out.trans ht3 fun _ _ e => e)
 have HFK := zH (HFK.out.turn ht3 fun e => e)
 have HBB := zH (bs_turn HBB.out HTT.out)
 clear ht3
 have d0 : w3.cell? ⟨b3, 0, none⟩ = some (.int .i64 2) := HFK.out.cell 0
 have d1 : w3.cell? ⟨b3, 1, none⟩ = some (.int .i64 (s : Int)) := HFK.out.cell 1
 have d2 : w3.cell? ⟨b3, 2, none⟩ = some (.int .i64 (c : Int)) := HFK.out.cell 2
 go_upto_region 5 with fail
 refine wp_region_lit ?_
 refine wR (v := .pointer (some ⟨b3, 2, none⟩)) rfl (exec_field (off := 0) (d := 2) rfl rfl (by kernel_rfl)) ?_
 simp only [zz]
 refine wR (v := .int .i64 (c : Int)) (w' := w3) rfl (exec_load1 rfl rfl (by kernel_rfl) d2) ?_
 simp only [zz]
 refine wR (v := .agg #[.int .i64 1, .int .i64 2, .int .i64 (c : Int)]) rfl (exec_build3 rfl rfl rfl rfl (build_form3 1 2 (c : Int) w3)) ?_
 simp only [zz]
 refine wR (v := _) rfl (gx_alloc rfl (zero_form _)) ?_
 simp only [zz]
 refine wpList_store_row rfl 49 _ _ rfl (g := w3.heap.size) (t := 49) #[.int .i64 1, .int .i64 2, .int .i64 (c : Int)] (Blk.new w3 _ _) rfl rfl rfl (by rw [size_form]; rfl) (by intro v hv; simp at hv; rcases hv with rfl | rfl | rfl <;> rfl) ?_
 intro w5 hb5 ht5
 simp only [Act.put]
 have ht35 : Turn nowhere w3 w5 := ((Turn.refl nowhere w3).alloc _).trans ht5 fun k hk e => by have : k = w3.heap.size := e; omega
 have HG5 := zH hb5
 have HTT := zH (HTT.out.trans ht35 fun _ _ e => e)
 have HFK := zH (HFK.out.turn ht35 fun e => e)
 have HBB := zH (bs_turn HBB.out ht35)
 clear hb5 ht5 ht35 d0 d1 d2
 generalize w3.heap.size = g8 at *
 go_upto_region 6 with fail
 refine wp_region_lit ?_
 refine wM (.slice A n cap) ?_
 simp only [zz]
 refine wR (v := .agg #[.int .i64 1, .int .i64 2, .int .i64 (c : Int)]) (w' := w5) rfl (exec_load rfl rfl (load_blkForm HG5.out)) ?_
 simp only [zz]
 go_wp2_with fail
 refine (HT1.out w5 HBB.out).mono ?_
 cases R1 with
 | error ke =>
   rintro e w6 ⟨hf, ht6⟩
   have hf' : e = .returned (.tuple #[strV [], .slice none 0 0, .int .i64 ke]) := hf
   subst hf'
   have hke := HER.out ke rfl
   have y1 : (ke != 0) = true := by
    rcases hke with rfl | rfl <;> rfl
   have HT6 := zH (HTT.out.trans ht6 fun _ _ e => e)
   clear hf ht6 hke
   go_wp2_with fail
   exact bodyPost_ret (v := .tuple #[strV [], .slice none 0 0, .int .i64 ke]) (by simp [results, Tryz.results29, go_sem, strV]) rfl (show RTake w (.error ke) _ _ from ⟨rfl, HT6.out⟩)
 | ok tr =>
   obtain ⟨tt, rr⟩ := tr
   rintro e w6 ⟨⟨Ar, nr, cr, rfl, hor⟩, ht6⟩
   obtain ⟨htl, hto⟩ := HOK.out tt rr rfl
   obtain ⟨a0, a1, rfl⟩ : ∃ a0 a1, tt = [a0, a1] := by
    match tt, htl with
    | [a0, a1], _ => exact ⟨a0, a1, rfl⟩
   have ha0 : dec.contains a0 = true := by rw [List.contains_iff_mem]; exact onlyOf_mem hto (List.mem_cons_self ..)
   have ha1 : dec.contains a1 = true := by rw [List.contains_iff_mem]; exact onlyOf_mem hto (List.mem_cons_of_mem _ (List.mem_cons_self ..))
   have hv := val_two a0 a1 ha0 ha1
   have hx0 : hexs.contains a0 = true := by rw [List.contains_iff_mem]; exact dec_hex _ (List.contains_iff_mem.1 ha0)
   have hx1 : hexs.contains a1 = true := by rw [List.contains_iff_mem]; exact dec_hex _ (List.contains_iff_mem.1 ha1)
   have hl0 := vOf_lt _ hx0
   have hl1 := vOf_lt _ hx1
   have HV0 := zH (fun W => valueH_walk a0 hx0 W)
   have HV1 := zH (fun W => valueH_walk a1 hx1 W)
   obtain ⟨hbr, hcr, hzr⟩ := own_bs hor
   have HBB' := zH hbr
   have HCAPr := zH hcr
   have HZr := zH hzr
   have HTT := zH (HTT.out.trans ht6 fun _ _ e => e)
   have HFK := zH (HFK.out.turn ht6 fun e => e)
   clear hor ht6 hto ha0 ha1 hx0 hx1 hbr hcr hzr
   generalize vOf a0 = v0 at *
   generalize vOf a1 = v1 at *
   obtain ⟨q, hq⟩ : ∃ q, q = 10 * v0 + v1 := ⟨_, rfl⟩
   rw [← hq] at hv
   have hres : ∀ (e : Ending) (w' : World), RTake w (if 1 ≤ q ∧ (q : Int) ≤ (s : Int) then takeAll (ptsOf 2 (c : Int) q) rr else .error 42) e w' → RTake w (llRes s c (.ok ([a0, a1], rr))) e w' := by
    intro e w' h
    show RTake w (if 1 ≤ val [a0, a1] ∧ (val [a0, a1] : Int) ≤ (s : Int) then takeAll (ptsOf 2 (c : Int) (val [a0, a1])) rr else .error 42) e w'
    rw [hv]
    exact h
   have HRES := zH hres
   clear hv hres
   have HQ := zH hq
   have HVL := zH (And.intro hl0 hl1)
   clear hq hl0 hl1
   go_upto_region 9 with fail
   have w1 : IntKind.i64.wrap (10 * (v0 : Int)) = 10 * (v0 : Int) := by rw [IntKind.wrap_i64]; have := HVL.out; omega
   have HW1 := zH w1
   clear w1
   refine wp_region_alw (fun _ => True) (by kernel_rfl) ?_
   refine aT (i := 0) (v := strV [a0, a1]) rfl (by kernel_rfl) (by kernel_rfl) (fun W hW => exec_move rfl rfl) trivial ?_
   simp only [zz]
   refine aT (i := 1) (v := .int .u8 (a0.toNat : Int)) rfl (by kernel_rfl) (by kernel_rfl) (fun W hW => exec_sidx (l := [a0, a1]) (i := 0) rfl rfl rfl (by simp)) trivial ?_
   simp only [zz]
   refine aT (i := 4) (v := strV [a0, a1]) rfl (by kernel_rfl) (by kernel_rfl) (fun W hW => exec_move rfl rfl) trivial ?_
   simp only [zz]
   refine aT (i := 5) (v := .int .u8 (a1.toNat : Int)) rfl (by kernel_rfl) (by kernel_rfl) (fun W hW => exec_sidx (l := [a0, a1]) (i := 1) rfl rfl rfl (by simp)) trivial ?_
   simp only [zz]
   refine alw_step (i := 2) (by kernel_rfl) rfl rfl ?_
   intro K1 HK1
   go_wp2_with fail
   refine (HV0.out _).mono ?_
   rintro e w7 ⟨rfl, hw⟩
   obtain rfl : w6.drew = w7 := hw.symm
   refine HK1.out _ _ ⟨trivial, ?_⟩
   clear HK1
   refine aT (i := 3) (v := .int .i64 (10 * (v0 : Int))) rfl (by kernel_rfl) (by kernel_rfl) (fun W hW => by have h := HW1.out; go_simp) trivial ?_
   simp only [zz]
   refine alw_step (i := 6) (by kernel_rfl) rfl rfl ?_
   intro K1 HK1
   go_wp2_with fail
   refine (HV1.out _).mono ?_
   rintro e w7 ⟨rfl, hw⟩
   obtain rfl : w6.drew = w7 := hw.symm
   refine HK1.out _ _ ⟨trivial, ?_⟩
   clear HK1
   refine aT (i := 7) (v := .int .i64 (q : Int)) rfl (by kernel_rfl) (by kernel_rfl) (fun W hW => exec_iadd rfl rfl rfl (by have := HQ.out; omega) (by have := HQ.out; have := HVL.out; omega)) trivial ?_
   simp only [zz]
   refine aT (i := 8) (v := .int .i64 (q : Int)) rfl (by kernel_rfl) (by kernel_rfl) (fun W hW => gx_assign rfl rfl) trivial ?_
   simp only [zz]
   refine alw_done (by kernel_rfl) ?_
   refine NoPanic.normal ?_
   have HTT := zH HTT.out.drew
   have HFK : Hid (Blk w6.drew b3 49 #[.int .i64 2, .int .i64 (s : Int), .int .i64 (c : Int)]) := zH (Blk.drew HFK.out)
   have HBB : Hid (Bs w6.drew Ar nr rr) := zH (bs_turn HBB'.out (Turn.refl nowhere w6).drew)
   generalize w6.drew = w8 at *
   have d1 : w8.cell? ⟨b3, 1, none⟩ = some (.int .i64 (s : Int)) := HFK.out.cell 1
   have hq0 : (0 : Int) ≤ (q : Int) := by omega
   have hfin : ∀ (w' : World), Turn nowhere w w' → ¬ (1 ≤ q ∧ (q : Int) ≤ (s : Int)) → RTake w (if 1 ≤ q ∧ (q : Int) ≤ (s : Int) then takeAll (ptsOf 2 (c : Int) q) rr else .error 42) (.returned (.tuple #[strV [], .slice none 0 0, .int .i64 42])) w' := by
    intro w' ht hn
    rw [if_neg hn]
    exact ⟨rfl, ht⟩
   have HFIN := zH hfin
   clear hfin
   by_cases q1 : q < 1
   ·have y1 : (q : Int) < 1 := by omega
    have HNO := zH (show ¬ (1 ≤ q ∧ (q : Int) ≤ (s : Int)) from fun h => by omega)
    clear q1
    go_wp2_with fail
    exact bodyPost_ret (v := .tuple #[strV [], .slice none 0 0, .int .i64 42]) (by simp [results, Tryz.results29, go_sem, strV]) rfl (HRES.out _ _ (HFIN.out _ HTT.out HNO.out))
   ·by_cases q2 : s < q
    ·have y1 : ¬ ((q : Int) < 1) := by omega
     have y2 : (s : Int) < (q : Int) := by omega
     have HNO := zH (show ¬ (1 ≤ q ∧ (q : Int) ≤ (s : Int)) from fun h => by omega)
     clear q1 q2
     go_wp2_with fail
     exact bodyPost_ret (v := .tuple #[strV [], .slice none 0 0, .int .i64 42]) (by simp [results, Tryz.results29, go_sem, strV]) rfl (HRES.out _ _ (HFIN.out _ HTT.out HNO.out))
    ·have hqs : 1 ≤ q ∧ q ≤ s := by omega
     have y1 : ¬ ((q : Int) < 1) := by omega
     have y2 : ¬ ((s : Int) < (q : Int)) := by omega
     have y3 : decide (s < q) = false := decide_eq_false q2
     have HSZ := zH (HSZa.out q hqs)
     have HTX := zH (HTXa.out q hqs rr Ar cr)
     have HLG := zH (HLGa.out q hqs rr)
     have HSH := zH (fun h : rr.length < sizeAll (ptsOf 2 (c : Int) q) => take_short h)
     have HN0 := HN
     have HCAP := HCAPr
     have HZ := HZr
     have hnr : nr ≤ 140737488355328 := by have h1 := HBB.out.1; have h2 := HRL.out _ rr rfl; have h3 := HN0.out; omega
     have HN := zH hnr
     have hif : (if 1 ≤ q ∧ (q : Int) ≤ (s : Int) then takeAll (ptsOf 2 (c : Int) q) rr else .error 42) = takeAll (ptsOf 2 (c : Int) q) rr := if_pos ⟨hqs.1, by omega⟩
     have hres := HRES.out
     rw [hif] at hres
     have HTA := zH hres
     clear hres HRES
     generalize takeAll (ptsOf 2 (c : Int) q) rr = TA at *
     clear hif hnr hqs q1 q2 HFIN
     go_upto_region 13 with fail
     clear y1 y2 y3 d1 hq0
     refine wp_region_lit ?_
     refine wR (v := .agg #[.int .i64 2, .int .i64 (s : Int), .int .i64 (c : Int)]) (w' := w8) rfl (exec_load rfl rfl (load_blkForm HFK.out)) ?_
     simp only [zz]
     refine wM (.int .i64 (q : Int)) ?_
     simp only [zz]
     refine wpList_call rfl ?_
     intro K1 HK1
     go_wp2_with fail
     refine (HSZ.out w8).mono ?_
     rintro e w4 ⟨rfl, ht4⟩
     refine HK1.out _ _ ?_
     clear HK1
     try simp only [zz]
     have HT4 := zH (HTT.out.trans ht4 fun _ _ e => e)
     have HFK4 := zH (HFK.out.turn ht4 fun e => e)
     have HB4 := zH (bs_turn HBB.out ht4)
     clear ht4
     generalize sizeAll (ptsOf 2 (c : Int) q) = z at *
     by_cases hlt : nr < z
     ·have y1 : (nr : Int) < (z : Int) := by omega
      have HRE := zH (HSH.out (by rw [HB4.out.1]; exact hlt))
      clear hlt
      go_wp2_with fail
      exact bodyPost_ret (v := .tuple #[strV [], .slice none 0 0, .int .i64 43]) (by simp [results, Tryz.results29, go_sem, strV]) rfl (HTA.out _ _ (by rw [HRE.out]; exact ⟨rfl, HT4.out⟩))
     ·have y1 : ¬ ((nr : Int) < (z : Int)) := by omega
      have y2 : decide (nr < z) = false := decide_eq_false hlt
      have hzn : z ≤ nr := by omega
      have hb4 := bs_take HB4.out hzn
      have HTX := zH (fun W (h : Bs W Ar z (rr.take z)) => HTX.out W h)
      have HR := zH (HLG.out (by rw [HB4.out.1]; exact hzn))
      have HZN := zH hzn
      clear hlt hzn
      go_upto_region 16 with fail
      clear y1 y2
      have hS0 : TaS b3 2 (s : Int) (c : Int) w4.drew := HFK4.out
      refine wp_region_alw (TaS b3 2 (s : Int) (c : Int)) (by kernel_rfl) ?_
      refine aT (i := 0) (v := .agg #[.int .i64 2, .int .i64 (s : Int), .int .i64 (c : Int)]) rfl (by kernel_rfl) (by kernel_rfl) (fun W hW => exec_load rfl rfl (load_blkForm hW)) hS0 ?_
      simp only [zz]
      refine aT (i := 1) (v := .slice Ar nr cr) rfl (by kernel_rfl) (by kernel_rfl) (fun W hW => exec_move rfl rfl) hS0 ?_
      simp only [zz]
      refine aT (i := 2) (v := .int .i64 (z : Int)) rfl (by kernel_rfl) (by kernel_rfl) (fun W hW => exec_move rfl rfl) hS0 ?_
      simp only [zz]
      refine aT (i := 3) (v := .slice Ar z cr) rfl (by kernel_rfl) (by kernel_rfl) (fun W hW => exec_bto rfl rfl rfl (Nat.le_trans HZN.out HCAP.out)) hS0 ?_
      simp only [zz]
      refine aT (i := 4) (v := .int .i64 (q : Int)) rfl (by kernel_rfl) (by kernel_rfl) (fun W hW => exec_move rfl rfl) hS0 ?_
      simp only [zz]
      refine alw_step (i := 5) (by kernel_rfl) rfl rfl ?_
      intro K1 HK1
      go_wp2_with fail
      refine (HTX.out w4.drew hb4).mono ?_
      rintro e w5 ⟨rfl, ht5⟩
      have hS1 : TaS b3 2 (s : Int) (c : Int) w5 := Blk.turn (F := nowhere) hS0 ht5 fun e => e
      refine HK1.out _ _ ⟨hS1, ?_⟩
      clear HK1
      generalize rtext (nf 2 s c) (rr.take z) q = rt at *
      obtain ⟨tx, ok⟩ := rt
      refine aT (i := 6) (v := .tuple #[strV tx, .bool ok]) rfl (by kernel_rfl) (by kernel_rfl) (fun W hW => exec_move rfl rfl) hS1 ?_
      simp only [zz]
      refine aT (i := 7) (v := strV tx) rfl (by kernel_rfl) (by kernel_rfl) (fun W hW => exec_ext rfl rfl rfl) hS1 ?_
      simp only [zz]
      refine aT (i := 8) (v := .bool ok) rfl (by kernel_rfl) (by kernel_rfl) (fun W hW => exec_ext rfl rfl rfl) hS1 ?_
      simp only [zz]
      refine aT (i := 9) (v := strV tx) rfl (by kernel_rfl) (by kernel_rfl) (fun W hW => gx_assign rfl rfl) hS1 ?_
      simp only [zz]
      refine aT (i := 10) (v := .bool ok) rfl (by kernel_rfl) (by kernel_rfl) (fun W hW => gx_assign rfl rfl) hS1 ?_
      simp only [zz]
      refine alw_done (by kernel_rfl) ?_
      refine NoPanic.normal ?_
      have HT5 := zH ((HT4.out.trans (Turn.refl nowhere w4).drew fun _ _ e => e).trans ht5 fun _ _ e => e)
      have HB5 := zH (bs_turn HB4.out ((Turn.refl nowhere w4).drew.trans ht5 fun _ _ e => e))
      clear hS0 hS1 ht5 hb4
      cases ok with
      | false =>
        have hr := HR.out
        rw [if_neg (by intro h; cases h)] at hr
        have HRE := zH hr
        clear hr
        go_wp2_with fail
        exact bodyPost_ret (v := .tuple #[strV [], .slice none 0 0, .int .i64 42]) (by simp [results, Tryz.results29, go_sem, strV]) rfl (HTA.out _ _ (by rw [HRE.out]; exact ⟨rfl, HT5.out⟩))
      | true =>
        have hr := HR.out
        rw [if_pos rfl] at hr
        have HR := zH hr
        clear hr
        go_upto_region 19 with fail
        refine wp_region_lit ?_
        refine wM (strV tx) ?_
        simp only [zz]
        refine wR (v := _) rfl (exec_make0 rfl) ?_
        simp only [zz]
        have hown0 := Own.empty w5 w5.heap.size 5 (Nat.le_refl _)
        have hb6 : Bs (w5.alloc (.cells #[] 5)) Ar nr rr := bs_turn HB5.out ((Turn.refl nowhere w5).alloc _)
        have hbt : Below w5.heap.size w5 (w5.alloc (.cells #[] 5)) := (Below.refl _ w5).alloc (Nat.le_refl _) _
        have hle3 : w5.heap.size ≤ (w5.alloc (.cells #[] 5)).heap.size := by simp
        generalize (w5.alloc (.cells #[] 5)) = w6 at *
        obtain ⟨A6, hsl, hbs6, hz6⟩ := bfrom_all2 (k := z) hb6 HZ.out HCAP.out HZN.out
        have hdl := hbs6.1
        obtain ⟨rest, hrest⟩ : ∃ rest, rest = rr.drop z := ⟨_, rfl⟩
        rw [← hrest] at hbs6 HR hdl
        clear hrest
        refine wM (.slice Ar nr cr) ?_
        simp only [zz]
        refine wM (.int .i64 (z : Int)) ?_
        simp only [zz]
        refine wR (v := .slice A6 (nr - z) (cr - z)) (w' := w6) rfl (hsl _ _ _ _ rfl rfl rfl) ?_
        simp only [zz]
        refine wpList_append_bytes w6 rfl _ _ _ rfl w5.heap.size 5 byteInfo Tryz.underlying26 _ [] rfl hown0 A6 (nr - z) (cr - z) rest rfl hbs6 hz6 (by have := HN.out; simp; omega) hle3 ?_
        intro v7 w7 ho7 hb7
        rw [List.nil_append] at ho7
        obtain ⟨A7, n7, c7, rfl, _⟩ := ho7.form
        simp only [zz]
        have HO7 := zH (own_lower ho7 HT5.out.size)
        have HT7 := zH (turn_below HT5.out ((hbt.trans hb7).mono HT5.out.size))
        have HRE := HR
        clear ho7 hb7 hown0 hb6 hbt hle3 hsl hbs6 hz6 hdl
        go_wp2_with fail
        exact bodyPost_ret (v := .tuple #[strV tx, .slice A7 n7 c7, .int .i64 0]) (by simp [results, Tryz.results29, go_sem]) rfl (HTA.out _ _ (by rw [HRE.out]; exact ⟨⟨A7, n7, c7, rfl, HO7.out⟩, HT7.out⟩))
def Held1 (w : World) (B : Nat) (v : Value) (n : Nat) : Prop := ∃ xs, w.ownsRow B 5 1 v n xs
theorem Held1.of {w : World} {B : Nat} {A : Option Addr} {n c : Nat} {l : List UInt8} (h : Own w B 5 (.slice A n c) l) : Held1 w B (.slice A n c) n := by
 have hl := (own_bs h).1.1
 unfold Own at h
 rw [hl] at h
 exact ⟨_, h⟩
theorem Held1.some {w : World} {B : Nat} {A : Option Addr} {n c : Nat} (h : Held1 w B (.slice A n c) n) (h0 : 0 < n) : ∃ g, A = some ⟨g, 0, none⟩ ∧ B ≤ g ∧ n ≤ c ∧ ∀ k, k < n → (∃ v, w.cell? ⟨g, k, none⟩ = some v) ∧ w.frozen? ⟨g, k, none⟩ = false ∧ ∀ u, Held1 (w.setCell ⟨g, k, none⟩ u) B (.slice A n c) n := by
 obtain ⟨xs, h1, h2⟩ := h
 rcases h2 with ⟨hv, hn⟩ | ⟨g, cap, cur, hv, hg, hb, hn, hm, hs, ht⟩
 ·omega
 ·injection hv with e1 e2 e3
  subst e1 e3
  refine ⟨g, rfl, hg, hn, fun k hk => ?_⟩
  have hB : Blk w g 5 cur := hb
  refine ⟨⟨cur[k]'(by omega), by rw [hB.cell, Array.getElem?_eq_getElem (by omega)]⟩, hB.frozen k, fun u => ⟨(cur.setIfInBounds k u).toList.take (n * 1), ?_, .inr ⟨g, c, cur.setIfInBounds k u, rfl, hg, hB.set_ k u, hn, hm, by rw [Array.size_setIfInBounds]; exact hs, rfl⟩⟩⟩
  rw [List.length_take]
  simp
  omega
theorem rtake_all {w : World} {f : Fm} {n cap : Nat} {A : Option Addr} {b : List UInt8} (hb : Bs w A n b) (hcap : n ≤ cap) (hz : A = none → cap = 0) (hn : n ≤ 140737488355328) :
 Calls Tryz.prog 29 #[.slice A n cap, fmV f] w (TakeP w (tk (f.take b))) := by
 cases hm : f.may with
 | false =>
   have : f.take b = .error 40 := by
    unfold Fm.take
    rw [if_neg (by rw [hm]; decide)]
   rw [this]
   exact (rtake_bad hm).mono fun e w' ⟨h, ht⟩ => takeP_of h ht
 | true =>
   obtain ⟨k, s, c, rfl, h1, h2, h3⟩ := fm_exp hm
   by_cases hk : k = 2
   ·subst hk
    exact (rtake_ll h2 h3 hb hcap hz hn).mono fun e w' ⟨h, ht⟩ => takeP_of h ht
   ·exact (rtake_nl h1 hk h2 h3 hb hcap hz hn).mono fun e w' ⟨h, ht⟩ => takeP_of h ht
end Go.Proofs.YticofobhkmabiaaGreatDoor
