/-
  Ledgers: plus and fits, has and Len: the walks. No conditions.
-/
import Derived.Test.YthoefjaapjaeeaaLgB
namespace Go.Proofs.Ythoefjaapjaeeaa
open Go.RowKit
open Lg (Ent)
set_option linter.unusedVariables false
set_option linter.unusedSimpArgs false
theorem build_exv (z h u : Int) (hh : h = Lg.exH z) (hu : u = Lg.exL z) (W : World) : (Instr.build 63 #[(0, .int .i64 h), (1, .int .u64 u)]).run Try.prog W = .ok (.agg (exA z)) W := by
  subst hh hu
  kernel_rfl
def cyL (z n : Int) : Int := (Lg.exL z + n % 18446744073709551616) / 18446744073709551616
theorem exec_addx {a : Act} {o : Oper} {W : World} {x y u : Operand} {z n : Int} {ts : Array TypeId} (ho : o.op = .call { callee := .value (.func 35), args := #[x, y, u], argTypes := ts }) (hx : a.eval x = .int .u64 (Lg.exL z)) (hy : a.eval y = .int .u64 (n % 18446744073709551616)) (hz : a.eval u = .int .u64 0) :
    (execOp a.eval o).run Try.prog W = .ok (.value (.tuple #[.int .u64 (Lg.exL (z + n)), .int .u64 (cyL z n)])) W := by
  have h := exec_add64 (W := W) ho hx hy hz (Lg.exL_lt z).1 (by omega)
  rw [Lg.exL_add] at h
  exact h
theorem cy_cvt (z n : Int) : Lg.wr (cyL z n) = cyL z n := by
  have := Lg.exL_lt z
  unfold cyL Lg.wr
  omega
theorem plus_h (z n : Int) (hn : Mn.in64 n) : Lg.wr (Lg.wr (Lg.exH z + sgn n) + cyL z n) = Lg.exH (z + n) := Lg.exH_add z n hn
set_option maxRecDepth 20000 in
theorem plus_walk {z n : Int} (w : World) (hn : Mn.in64 n) : Calls Try.prog 24 #[.agg (exA z), .int .i64 n] w fun e w' => e = .returned (.agg (exA (z + n))) ∧ Turn nowhere w w' := by
  have HN := Lib.hid hn
  clear hn
  go_enter Try.func24, Try.ntmps24
  go_upto_region 0 with fail
  refine wp_region_lit ?_
  refine wpList_run (v := .pointer (some ⟨(w).heap.size, 0, none⟩)) (w' := (w).alloc (.cells (exA z) 63)) (wanted_none rfl) (gx_box rfl rfl (box_ex z _)) ?_
  simp only [Act.put, List.setIfInBounds_toArray, List.set_cons_zero, List.set_cons_succ]
  refine wpList_run (v := .pointer (some ⟨((w).alloc (.cells (exA z) 63)).heap.size, 0, none⟩)) (w' := ((w).alloc (.cells (exA z) 63)).alloc (.cells #[.int .i64 0, .int .u64 0] 63)) (wanted_none rfl) (gx_alloc rfl (zero_ex _)) ?_
  simp only [Act.put, List.setIfInBounds_toArray, List.set_cons_zero, List.set_cons_succ]
  have hb_b := (Blk.new (w) 63 (exA z)).alloc (.cells #[.int .i64 0, .int .u64 0] 63)
  have hb_r := Blk.new ((w).alloc (.cells (exA z) 63)) 63 #[.int .i64 0, .int .u64 0]
  have ht_ := ((Turn.refl nowhere (w)).alloc (.cells (exA z) 63)).alloc (.cells #[.int .i64 0, .int .u64 0] 63)
  obtain ⟨n0_, hn0_⟩ : ∃ n, n = (w).heap.size := ⟨_, rfl⟩
  have hz_b : (w).heap.size = n0_ + 0 := by rw [hn0_]; simp
  have hz_r : ((w).alloc (.cells (exA z) 63)).heap.size = n0_ + 1 := by rw [hn0_]; simp
  obtain ⟨r, hg_⟩ : ∃ g, g = ((w).alloc (.cells (exA z) 63)).heap.size := ⟨_, rfl⟩
  rw [← hg_] at hb_r hz_r ⊢
  clear hg_
  obtain ⟨b, hg_⟩ : ∃ g, g = (w).heap.size := ⟨_, rfl⟩
  rw [← hg_] at hb_b hz_b ⊢
  clear hg_
  generalize ((w).alloc (.cells (exA z) 63)).alloc (.cells #[.int .i64 0, .int .u64 0] 63) = w1 at *
  have HT1 := Lib.hid ht_
  clear ht_
  have HBb := Lib.hid hb_b
  have HLb := Lib.hid (show (w).heap.size ≤ b from by omega)
  clear hb_b
  have HBr := Lib.hid hb_r
  have HLr := Lib.hid (show (w).heap.size ≤ r from by omega)
  clear hb_r
  have HNbr := Lib.hid (show b ≠ r from by omega)
  clear hn0_ hz_b hz_r
  clear n0_
  go_upto_region 1 with fail
  refine wp_region_lit ?_
  refine wpList_run (v := .pointer (some ⟨b, 1, none⟩)) (wanted_none rfl) (exec_field (off := 0) (d := 1) rfl rfl (by kernel_rfl)) ?_
  simp only [Act.put, List.setIfInBounds_toArray, List.set_cons_zero, List.set_cons_succ]
  refine wpList_run (v := .int .u64 (Lg.exL z)) (wanted_none rfl) (exec_load1 rfl rfl (by kernel_rfl) (HBb.out.cell 1)) ?_
  simp only [Act.put, List.setIfInBounds_toArray, List.set_cons_zero, List.set_cons_succ]
  refine wpList_run (v := .int .i64 n) (wanted_none rfl) (exec_move rfl rfl) ?_
  simp only [Act.put, List.setIfInBounds_toArray, List.set_cons_zero, List.set_cons_succ]
  refine wpList_run (v := .int .u64 (n % 18446744073709551616)) (wanted_none rfl) (ix_cvtu rfl rfl) ?_
  simp only [Act.put, List.setIfInBounds_toArray, List.set_cons_zero, List.set_cons_succ]
  refine wpList_run (v := .tuple #[.int .u64 (Lg.exL (z + n)), .int .u64 (cyL z n)]) (wanted_none rfl) (exec_addx rfl rfl rfl rfl) ?_
  simp only [Act.put, List.setIfInBounds_toArray, List.set_cons_zero, List.set_cons_succ]
  refine wpList_run (v := .tuple #[.int .u64 (Lg.exL (z + n)), .int .u64 (cyL z n)]) (wanted_none rfl) (exec_move rfl rfl) ?_
  simp only [Act.put, List.setIfInBounds_toArray, List.set_cons_zero, List.set_cons_succ]
  refine wpList_run (v := .int .u64 (Lg.exL (z + n))) (wanted_none rfl) (ix_extract rfl rfl rfl) ?_
  simp only [Act.put, List.setIfInBounds_toArray, List.set_cons_zero, List.set_cons_succ]
  refine wpList_run (v := .int .u64 (cyL z n)) (wanted_none rfl) (ix_extract rfl rfl rfl) ?_
  simp only [Act.put, List.setIfInBounds_toArray, List.set_cons_zero, List.set_cons_succ]
  refine wpList_run (v := .int .u64 (Lg.exL (z + n))) (wanted_none rfl) (gx_assign rfl rfl) ?_
  simp only [Act.put, List.setIfInBounds_toArray, List.set_cons_zero, List.set_cons_succ]
  refine wpList_run (v := .int .u64 (cyL z n)) (wanted_none rfl) (gx_assign rfl rfl) ?_
  simp only [Act.put, List.setIfInBounds_toArray, List.set_cons_zero, List.set_cons_succ]
  go_upto_region 2 with fail
  refine wp_region_alw (fun W => Blk W b 63 (exA z) ∧ ∃ cs, Blk W r 63 cs ∧ cs.size = 2) (by kernel_rfl) ?_
  have hS0 : (fun W => Blk W b 63 (exA z) ∧ ∃ cs, Blk W r 63 cs ∧ cs.size = 2) w1.drew := ⟨HBb.out.drew, _, HBr.out.drew, rfl⟩
  have HD := Lib.hid ((Turn.refl nowhere w1).drew)
  generalize w1.drew = wd at *
  refine alw_take (i := 0) (v := .pointer (some ⟨b, 0, none⟩)) rfl (by kernel_rfl) (by kernel_rfl) (fun _ _ _ h => h) (.inl ⟨by rfl, fun W hW => exec_field (off := 0) (d := 0) rfl rfl (by kernel_rfl)⟩) hS0 ?_
  simp only [Act.put, List.setIfInBounds_toArray, List.set_cons_zero, List.set_cons_succ]
  refine alw_take (i := 1) (v := .int .i64 (Lg.exH z)) rfl (by kernel_rfl) (by kernel_rfl) (fun _ _ _ h => h) (.inl ⟨by rfl, fun W hW => exec_load1 rfl rfl (by kernel_rfl) (hW.1.cell 0)⟩) hS0 ?_
  simp only [Act.put, List.setIfInBounds_toArray, List.set_cons_zero, List.set_cons_succ]
  refine alw_take (i := 2) (v := .int .i64 n) rfl (by kernel_rfl) (by kernel_rfl) (fun _ _ _ h => h) (.inl ⟨by rfl, fun W hW => exec_move rfl rfl⟩) hS0 ?_
  simp only [Act.put, List.setIfInBounds_toArray, List.set_cons_zero, List.set_cons_succ]
  refine alw_take (i := 5) (v := .int .u64 (cyL z n)) rfl (by kernel_rfl) (by kernel_rfl) (fun _ _ _ h => h) (.inl ⟨by rfl, fun W hW => exec_move rfl rfl⟩) hS0 ?_
  simp only [Act.put, List.setIfInBounds_toArray, List.set_cons_zero, List.set_cons_succ]
  refine alw_take (i := 6) (v := .int .i64 (cyL z n)) rfl (by kernel_rfl) (by kernel_rfl) (fun _ _ _ h => h) (.inl ⟨by rfl, fun W hW => (ix_cvti rfl rfl).trans (by rw [cy_cvt])⟩) hS0 ?_
  simp only [Act.put, List.setIfInBounds_toArray, List.set_cons_zero, List.set_cons_succ]
  refine alw_take (i := 8) (v := .int .u64 (Lg.exL (z + n))) rfl (by kernel_rfl) (by kernel_rfl) (fun _ _ _ h => h) (.inl ⟨by rfl, fun W hW => exec_move rfl rfl⟩) hS0 ?_
  simp only [Act.put, List.setIfInBounds_toArray, List.set_cons_zero, List.set_cons_succ]
  refine alw_step (i := 3) (by kernel_rfl) rfl rfl ?_
  intro K1 HK1
  go_wp2_with fail
  refine (sign_walk _ HN.out).mono ?_
  rintro e wx ⟨rfl, rfl⟩

  refine HK1.out _ _ ⟨hS0, ?_⟩
  clear HK1
  try simp only [Act.put, List.setIfInBounds_toArray, List.set_cons_zero, List.set_cons_succ]
  refine alw_take (i := 4) (v := .int .i64 (Lg.wr (Lg.exH z + sgn n))) rfl (by kernel_rfl) (by kernel_rfl) (fun _ _ _ h => h) (.inl ⟨by rfl, fun W hW => ix_addw rfl rfl rfl⟩) hS0 ?_
  simp only [Act.put, List.setIfInBounds_toArray, List.set_cons_zero, List.set_cons_succ]
  refine alw_take (i := 7) (v := .int .i64 (Lg.wr (Lg.wr (Lg.exH z + sgn n) + cyL z n))) rfl (by kernel_rfl) (by kernel_rfl) (fun _ _ _ h => h) (.inl ⟨by rfl, fun W hW => ix_addw rfl rfl rfl⟩) hS0 ?_
  simp only [Act.put, List.setIfInBounds_toArray, List.set_cons_zero, List.set_cons_succ]
  refine alw_take (i := 9) (v := .agg (exA (z + n))) rfl (by kernel_rfl) (by kernel_rfl) (fun _ _ _ h => h) (.inl ⟨by rfl, fun W hW => gx_build2 rfl rfl rfl (build_exv (z + n) _ _ (plus_h z n HN.out) rfl _)⟩) hS0 ?_
  simp only [Act.put, List.setIfInBounds_toArray, List.set_cons_zero, List.set_cons_succ]
  refine alw_step (i := 10) (by kernel_rfl) rfl rfl ?_
  intro K1 HK1
  obtain ⟨hsb, cs, hsr, hsz⟩ := hS0
  refine wp_store_rowU 63 (.tmp 4) (.tmp 24) rfl (exA (z + n)) hsr rfl rfl (by rw [hsz]; rfl) (by rw [size_ex]; rfl) (exA_one _) ?_
  intro w2 hb2 ht2
  refine HK1.out _ _ ⟨⟨hsb.turn (F := only r) ht2 (fun e => HNbr.out e), _, hb2, rfl⟩, ?_⟩
  clear HK1
  try simp only [Act.put, List.setIfInBounds_toArray, List.set_cons_zero, List.set_cons_succ]
  have HB2 := Lib.hid hb2
  have HT2 := Lib.hid ((HT1.out.trans HD.out fun _ _ e => e).trans ht2 fun k hk e => by have := HLr.out; have e : k = r := e; omega)
  clear hb2 ht2 hsb hsr hsz
  refine alw_done rfl ?_
  refine NoPanic.normal ?_
  go_wp2_with fail
  refine bodyPost_ret (v := .agg (exA (z + n))) (ret_cell1 rfl _ _ r _ _ _ rfl HB2.out Try.underlying63 rfl (by rw [size_ex]; rfl)) rfl ?_
  exact ⟨rfl, HT2.out⟩
end Go.Proofs.Ythoefjaapjaeeaa
