/-
  Texts in one file: ShD. Conditions: the tables and the errors read as the program's text lays them.
-/
import Derived.Test.YtfnillibngijaaaGreatDoorJB4
namespace Go.Proofs.YtfnillibngijaaaGreatDoor
open Go.RowKit
open Sh (Wd B8 H8)
set_option linter.unusedVariables false
set_option linter.unusedSimpArgs false
set_option maxRecDepth 20000
/-- the constants lie in their table -/
def KT (w : World) : Prop := ∀ t, t < 64 → w.cell? ⟨5, t, none⟩ = some (.int .u32 ((Sh.kt t).toNat : Int))
theorem KT.turn {w w' : World} (h : KT w) (ht : Turn nowhere w w') : KT w' := fun t hl => (ht.cell (World.block_lt_of_cell? _ _ (h t hl)) (fun e => e)).trans (h t hl)
theorem gx_gaddr {P : Program} {a : Act} {o : Oper} {W : World} {t e : TypeId} {y : Operand} {b n i sz m : Nat} {k : IntKind} (ho : o.op = .indexAddr t (.global b) y) (hy : a.eval y = .int k (i : Int))
    (ht : P.underlying t = some (.array n e)) (hs : (P.info? e).map (·.size) = some sz) (hi : i < n) (hm : i * sz = m) : (execOp a.eval o).run P W = .ok (.value (.pointer (some ⟨b, 0 + m, none⟩))) W :=
  gx_aaddr_g (x := .global b) ho rfl hy ht hs hi (congrArg (0 + ·) hm)
theorem rs_succ (s : H8) (l : List Wd) (t : Nat) : Sh.rs s l (t + 1) = Sh.rnd (Sh.rs s l t) (Sh.kt t) (l.getD t 0) := rfl
set_option maxRecDepth 20000 in
set_option maxHeartbeats 4000000 in
theorem take_walk (s : H8) (p : B8) (w : World) (hp : p.length = 64) (hk : KT w) : Calls Tryz.prog 38 #[.agg (wds s.l), .agg (byteCells p)] w fun e w' => e = .returned (.agg (wds (Sh.comp s p).l)) ∧ Turn nowhere w w' := by
  have HP := Lib.hid hp
  have HK := Lib.hid hk
  obtain ⟨L, hL⟩ : ∃ L, Sh.wl p 64 = L := ⟨_, rfl⟩
  have HL := Lib.hid hL
  have HLL := Lib.hid (show L.length = 64 from by rw [← hL, Sh.wl_len])
  have HC := Lib.hid (show Sh.comp s p = Sh.add8 s (Sh.rs s L 64) from by rw [← hL]; rfl)
  generalize Sh.comp s p = cz at HC ⊢
  clear hp hk hL
  go_enter Tryz.func38, Tryz.ntmps38
  go_upto_region 0 with fail
  refine wp_region_lit ?_
  refine wpList_run (v := .pointer (some ⟨(w).heap.size, 0, none⟩)) (w' := (w).alloc (.cells (wds s.l) 90)) (wanted_none rfl) (gx_box rfl rfl (box_wds s.l _)) ?_
  simp only [Act.put, List.setIfInBounds_toArray, List.set_cons_zero, List.set_cons_succ]
  refine wpList_run (v := .pointer (some ⟨((w).alloc (.cells (wds s.l) 90)).heap.size, 0, none⟩)) (w' := ((w).alloc (.cells (wds s.l) 90)).alloc (.cells (byteCells p) 85)) (wanted_none rfl) (gx_box rfl rfl (box_pc p _)) ?_
  simp only [Act.put, List.setIfInBounds_toArray, List.set_cons_zero, List.set_cons_succ]
  refine wpList_run (v := .pointer (some ⟨(((w).alloc (.cells (wds s.l) 90)).alloc (.cells (byteCells p) 85)).heap.size, 0, none⟩)) (w' := (((w).alloc (.cells (wds s.l) 90)).alloc (.cells (byteCells p) 85)).alloc (.cells (wds (List.replicate 8 0)) 90)) (wanted_none rfl) (gx_alloc rfl (zero_wds _)) ?_
  simp only [Act.put, List.setIfInBounds_toArray, List.set_cons_zero, List.set_cons_succ]
  have hb_q := ((Blk.new (w) 90 (wds s.l)).alloc (.cells (byteCells p) 85)).alloc (.cells (wds (List.replicate 8 0)) 90)
  have hb_b := (Blk.new ((w).alloc (.cells (wds s.l) 90)) 85 (byteCells p)).alloc (.cells (wds (List.replicate 8 0)) 90)
  have hb_r := Blk.new (((w).alloc (.cells (wds s.l) 90)).alloc (.cells (byteCells p) 85)) 90 (wds (List.replicate 8 0))
  have ht_ := (((Turn.refl nowhere (w)).alloc (.cells (wds s.l) 90)).alloc (.cells (byteCells p) 85)).alloc (.cells (wds (List.replicate 8 0)) 90)
  obtain ⟨n0_, hn0_⟩ : ∃ n, n = (w).heap.size := ⟨_, rfl⟩
  have hz_q : (w).heap.size = n0_ + 0 := by rw [hn0_]; simp
  have hz_b : ((w).alloc (.cells (wds s.l) 90)).heap.size = n0_ + 1 := by rw [hn0_]; simp
  have hz_r : (((w).alloc (.cells (wds s.l) 90)).alloc (.cells (byteCells p) 85)).heap.size = n0_ + 2 := by rw [hn0_]; simp
  obtain ⟨r, hg_⟩ : ∃ g, g = (((w).alloc (.cells (wds s.l) 90)).alloc (.cells (byteCells p) 85)).heap.size := ⟨_, rfl⟩
  rw [← hg_] at hb_r hz_r ⊢
  clear hg_
  obtain ⟨b, hg_⟩ : ∃ g, g = ((w).alloc (.cells (wds s.l) 90)).heap.size := ⟨_, rfl⟩
  rw [← hg_] at hb_b hz_b ⊢
  clear hg_
  obtain ⟨q, hg_⟩ : ∃ g, g = (w).heap.size := ⟨_, rfl⟩
  rw [← hg_] at hb_q hz_q ⊢
  clear hg_
  generalize (((w).alloc (.cells (wds s.l) 90)).alloc (.cells (byteCells p) 85)).alloc (.cells (wds (List.replicate 8 0)) 90) = w1 at *
  have HT1 := Lib.hid ht_
  clear ht_
  have HBq := Lib.hid hb_q
  have HLq := Lib.hid (show (w).heap.size ≤ q from by omega)
  clear hb_q
  have HBb := Lib.hid hb_b
  have HLb := Lib.hid (show (w).heap.size ≤ b from by omega)
  clear hb_b
  have HBr := Lib.hid hb_r
  have HLr := Lib.hid (show (w).heap.size ≤ r from by omega)
  clear hb_r
  have HNqb := Lib.hid (show q ≠ b from by omega)
  have HNqr := Lib.hid (show q ≠ r from by omega)
  have HNbr := Lib.hid (show b ≠ r from by omega)
  clear hn0_ hz_q hz_b hz_r
  clear n0_
  go_upto_region 1 with fail
  refine wp_region_lit ?_
  refine wpList_run (v := .agg (byteCells p)) (wanted_none rfl) (gx_loads_g rfl rfl (blk_range_g HBb.out) Tryz.underlying85 rfl (size_pc.trans (congrArg some ((bc_size p).trans HP.out).symm))) ?_
  simp only [Act.put, List.setIfInBounds_toArray, List.set_cons_zero, List.set_cons_succ]
  refine wpList_op_g rfl fun K9 HK9 => ?_
  go_wp2_with fail
  refine (spread_walk p w1 HP.out).mono ?_
  rintro e w2 ⟨rfl, ht⟩
  refine HK9.out _ _ ?_
  clear HK9
  try simp only [Act.put, List.setIfInBounds_toArray, List.set_cons_zero, List.set_cons_succ]
  rw [HL.out]
  have HBq2 := Lib.hid (HBq.out.turn ht fun e => e)
  have HBr2 := Lib.hid (HBr.out.turn ht fun e => e)
  have HT2 := Lib.hid (HT1.out.trans ht fun _ _ e => e)
  clear ht HBq HBb HBr HT1
  refine wpList_run (v := .pointer (some ⟨w2.heap.size, 0, none⟩)) (w' := w2.alloc (.cells (wds (List.replicate 64 0)) 119)) (wanted_none rfl) (gx_alloc rfl (zero_u64 _)) ?_
  simp only [Act.put, List.setIfInBounds_toArray, List.set_cons_zero, List.set_cons_succ]
  have hb_ := Blk.new w2 119 (wds (List.replicate 64 0))
  have ht_ := (Turn.refl nowhere w2).alloc (.cells (wds (List.replicate 64 0)) 119)
  obtain ⟨g, hg_⟩ : ∃ g, g = w2.heap.size := ⟨_, rfl⟩
  rw [← hg_] at hb_ ⊢
  have HLg := Lib.hid (show w2.heap.size ≤ g from by omega)
  clear hg_
  generalize w2.alloc (.cells (wds (List.replicate 64 0)) 119) = w3 at *
  have HBg := Lib.hid hb_
  have HT3 := Lib.hid ht_
  clear hb_ ht_
  refine wpList_store_row (wanted_none rfl) 119 (.tmp 5) (.tmp 18) rfl (wds L) HBg.out rfl rfl (by rw [wds_size, wds_size, HLL.out]; rfl) (by rw [size_u64, wds_size, HLL.out]) (wds_one _) ?_
  intro w4 hb_ ht_
  have HBg4 := Lib.hid hb_
  have HT24 := Lib.hid (HT3.out.trans ht_ fun k hk e => by have := HLg.out; have e : k = g := e; omega)
  clear hb_ ht_
  try simp only [Act.put, List.setIfInBounds_toArray, List.set_cons_zero, List.set_cons_succ]
  have HBq4 := Lib.hid (HBq2.out.turn HT24.out fun e => e)
  have HBr4 := Lib.hid (HBr2.out.turn HT24.out fun e => e)
  have HT4 := Lib.hid (HT2.out.trans HT24.out fun _ _ e => e)
  clear HBq2 HBr2 HT2 HT3 HT24 HBg
  go_upto_region 2 with fail
  refine wp_region_alw (fun W => Blk W q 90 (wds s.l)) (by kernel_rfl) ?_
  have hS0 : (fun W => Blk W q 90 (wds s.l)) w4.drew := HBq4.out.drew
  have HD := Lib.hid ((Turn.refl nowhere w4).drew)
  generalize w4.drew = wd at *
  refine alw_take (i := 0) (v := .pointer (some ⟨q, 0 + 0 * 1, none⟩)) rfl (by kernel_rfl) (by kernel_rfl) (fun _ _ _ h => h) (.inl ⟨by rfl, fun W hW => gx_aaddr_g (i := 0) (sz := 1) rfl rfl rfl Tryz.underlying90 size_u32 (by decide) rfl⟩) hS0 ?_
  simp only [Act.put, List.setIfInBounds_toArray, List.set_cons_zero, List.set_cons_succ]
  refine alw_take (i := 1) (v := .int .u32 ((s.a).toNat : Int)) rfl (by kernel_rfl) (by kernel_rfl) (fun _ _ _ h => h) (.inl ⟨by rfl, fun W hW => exec_load1 rfl rfl (by kernel_rfl) (ld_w (l := s.l) (i := 0) hW (by rw [h8_len]; decide))⟩) hS0 ?_
  simp only [Act.put, List.setIfInBounds_toArray, List.set_cons_zero, List.set_cons_succ]
  refine alw_take (i := 2) (v := .pointer (some ⟨q, 0 + 1 * 1, none⟩)) rfl (by kernel_rfl) (by kernel_rfl) (fun _ _ _ h => h) (.inl ⟨by rfl, fun W hW => gx_aaddr_g (i := 1) (sz := 1) rfl rfl rfl Tryz.underlying90 size_u32 (by decide) rfl⟩) hS0 ?_
  simp only [Act.put, List.setIfInBounds_toArray, List.set_cons_zero, List.set_cons_succ]
  refine alw_take (i := 3) (v := .int .u32 ((s.b).toNat : Int)) rfl (by kernel_rfl) (by kernel_rfl) (fun _ _ _ h => h) (.inl ⟨by rfl, fun W hW => exec_load1 rfl rfl (by kernel_rfl) (ld_w (l := s.l) (i := 1) hW (by rw [h8_len]; decide))⟩) hS0 ?_
  simp only [Act.put, List.setIfInBounds_toArray, List.set_cons_zero, List.set_cons_succ]
  refine alw_take (i := 4) (v := .pointer (some ⟨q, 0 + 2 * 1, none⟩)) rfl (by kernel_rfl) (by kernel_rfl) (fun _ _ _ h => h) (.inl ⟨by rfl, fun W hW => gx_aaddr_g (i := 2) (sz := 1) rfl rfl rfl Tryz.underlying90 size_u32 (by decide) rfl⟩) hS0 ?_
  simp only [Act.put, List.setIfInBounds_toArray, List.set_cons_zero, List.set_cons_succ]
  refine alw_take (i := 5) (v := .int .u32 ((s.c).toNat : Int)) rfl (by kernel_rfl) (by kernel_rfl) (fun _ _ _ h => h) (.inl ⟨by rfl, fun W hW => exec_load1 rfl rfl (by kernel_rfl) (ld_w (l := s.l) (i := 2) hW (by rw [h8_len]; decide))⟩) hS0 ?_
  simp only [Act.put, List.setIfInBounds_toArray, List.set_cons_zero, List.set_cons_succ]
  refine alw_take (i := 6) (v := .pointer (some ⟨q, 0 + 3 * 1, none⟩)) rfl (by kernel_rfl) (by kernel_rfl) (fun _ _ _ h => h) (.inl ⟨by rfl, fun W hW => gx_aaddr_g (i := 3) (sz := 1) rfl rfl rfl Tryz.underlying90 size_u32 (by decide) rfl⟩) hS0 ?_
  simp only [Act.put, List.setIfInBounds_toArray, List.set_cons_zero, List.set_cons_succ]
  refine alw_take (i := 7) (v := .int .u32 ((s.d).toNat : Int)) rfl (by kernel_rfl) (by kernel_rfl) (fun _ _ _ h => h) (.inl ⟨by rfl, fun W hW => exec_load1 rfl rfl (by kernel_rfl) (ld_w (l := s.l) (i := 3) hW (by rw [h8_len]; decide))⟩) hS0 ?_
  simp only [Act.put, List.setIfInBounds_toArray, List.set_cons_zero, List.set_cons_succ]
  refine alw_take (i := 8) (v := .pointer (some ⟨q, 0 + 4 * 1, none⟩)) rfl (by kernel_rfl) (by kernel_rfl) (fun _ _ _ h => h) (.inl ⟨by rfl, fun W hW => gx_aaddr_g (i := 4) (sz := 1) rfl rfl rfl Tryz.underlying90 size_u32 (by decide) rfl⟩) hS0 ?_
  simp only [Act.put, List.setIfInBounds_toArray, List.set_cons_zero, List.set_cons_succ]
  refine alw_take (i := 9) (v := .int .u32 ((s.e).toNat : Int)) rfl (by kernel_rfl) (by kernel_rfl) (fun _ _ _ h => h) (.inl ⟨by rfl, fun W hW => exec_load1 rfl rfl (by kernel_rfl) (ld_w (l := s.l) (i := 4) hW (by rw [h8_len]; decide))⟩) hS0 ?_
  simp only [Act.put, List.setIfInBounds_toArray, List.set_cons_zero, List.set_cons_succ]
  refine alw_take (i := 10) (v := .pointer (some ⟨q, 0 + 5 * 1, none⟩)) rfl (by kernel_rfl) (by kernel_rfl) (fun _ _ _ h => h) (.inl ⟨by rfl, fun W hW => gx_aaddr_g (i := 5) (sz := 1) rfl rfl rfl Tryz.underlying90 size_u32 (by decide) rfl⟩) hS0 ?_
  simp only [Act.put, List.setIfInBounds_toArray, List.set_cons_zero, List.set_cons_succ]
  refine alw_take (i := 11) (v := .int .u32 ((s.f).toNat : Int)) rfl (by kernel_rfl) (by kernel_rfl) (fun _ _ _ h => h) (.inl ⟨by rfl, fun W hW => exec_load1 rfl rfl (by kernel_rfl) (ld_w (l := s.l) (i := 5) hW (by rw [h8_len]; decide))⟩) hS0 ?_
  simp only [Act.put, List.setIfInBounds_toArray, List.set_cons_zero, List.set_cons_succ]
  refine alw_take (i := 12) (v := .pointer (some ⟨q, 0 + 6 * 1, none⟩)) rfl (by kernel_rfl) (by kernel_rfl) (fun _ _ _ h => h) (.inl ⟨by rfl, fun W hW => gx_aaddr_g (i := 6) (sz := 1) rfl rfl rfl Tryz.underlying90 size_u32 (by decide) rfl⟩) hS0 ?_
  simp only [Act.put, List.setIfInBounds_toArray, List.set_cons_zero, List.set_cons_succ]
  refine alw_take (i := 13) (v := .int .u32 ((s.g).toNat : Int)) rfl (by kernel_rfl) (by kernel_rfl) (fun _ _ _ h => h) (.inl ⟨by rfl, fun W hW => exec_load1 rfl rfl (by kernel_rfl) (ld_w (l := s.l) (i := 6) hW (by rw [h8_len]; decide))⟩) hS0 ?_
  simp only [Act.put, List.setIfInBounds_toArray, List.set_cons_zero, List.set_cons_succ]
  refine alw_take (i := 14) (v := .pointer (some ⟨q, 0 + 7 * 1, none⟩)) rfl (by kernel_rfl) (by kernel_rfl) (fun _ _ _ h => h) (.inl ⟨by rfl, fun W hW => gx_aaddr_g (i := 7) (sz := 1) rfl rfl rfl Tryz.underlying90 size_u32 (by decide) rfl⟩) hS0 ?_
  simp only [Act.put, List.setIfInBounds_toArray, List.set_cons_zero, List.set_cons_succ]
  refine alw_take (i := 15) (v := .int .u32 ((s.h).toNat : Int)) rfl (by kernel_rfl) (by kernel_rfl) (fun _ _ _ h => h) (.inl ⟨by rfl, fun W hW => exec_load1 rfl rfl (by kernel_rfl) (ld_w (l := s.l) (i := 7) hW (by rw [h8_len]; decide))⟩) hS0 ?_
  simp only [Act.put, List.setIfInBounds_toArray, List.set_cons_zero, List.set_cons_succ]
  refine alw_take (i := 16) (v := .int .u32 ((s.a).toNat : Int)) rfl (by kernel_rfl) (by kernel_rfl) (fun _ _ _ h => h) (.inl ⟨by rfl, fun W hW => gx_assign rfl rfl⟩) hS0 ?_
  simp only [Act.put, List.setIfInBounds_toArray, List.set_cons_zero, List.set_cons_succ]
  refine alw_take (i := 17) (v := .int .u32 ((s.b).toNat : Int)) rfl (by kernel_rfl) (by kernel_rfl) (fun _ _ _ h => h) (.inl ⟨by rfl, fun W hW => gx_assign rfl rfl⟩) hS0 ?_
  simp only [Act.put, List.setIfInBounds_toArray, List.set_cons_zero, List.set_cons_succ]
  refine alw_take (i := 18) (v := .int .u32 ((s.c).toNat : Int)) rfl (by kernel_rfl) (by kernel_rfl) (fun _ _ _ h => h) (.inl ⟨by rfl, fun W hW => gx_assign rfl rfl⟩) hS0 ?_
  simp only [Act.put, List.setIfInBounds_toArray, List.set_cons_zero, List.set_cons_succ]
  refine alw_take (i := 19) (v := .int .u32 ((s.d).toNat : Int)) rfl (by kernel_rfl) (by kernel_rfl) (fun _ _ _ h => h) (.inl ⟨by rfl, fun W hW => gx_assign rfl rfl⟩) hS0 ?_
  simp only [Act.put, List.setIfInBounds_toArray, List.set_cons_zero, List.set_cons_succ]
  refine alw_take (i := 20) (v := .int .u32 ((s.e).toNat : Int)) rfl (by kernel_rfl) (by kernel_rfl) (fun _ _ _ h => h) (.inl ⟨by rfl, fun W hW => gx_assign rfl rfl⟩) hS0 ?_
  simp only [Act.put, List.setIfInBounds_toArray, List.set_cons_zero, List.set_cons_succ]
  refine alw_take (i := 21) (v := .int .u32 ((s.f).toNat : Int)) rfl (by kernel_rfl) (by kernel_rfl) (fun _ _ _ h => h) (.inl ⟨by rfl, fun W hW => gx_assign rfl rfl⟩) hS0 ?_
  simp only [Act.put, List.setIfInBounds_toArray, List.set_cons_zero, List.set_cons_succ]
  refine alw_take (i := 22) (v := .int .u32 ((s.g).toNat : Int)) rfl (by kernel_rfl) (by kernel_rfl) (fun _ _ _ h => h) (.inl ⟨by rfl, fun W hW => gx_assign rfl rfl⟩) hS0 ?_
  simp only [Act.put, List.setIfInBounds_toArray, List.set_cons_zero, List.set_cons_succ]
  refine alw_take (i := 23) (v := .int .u32 ((s.h).toNat : Int)) rfl (by kernel_rfl) (by kernel_rfl) (fun _ _ _ h => h) (.inl ⟨by rfl, fun W hW => gx_assign rfl rfl⟩) hS0 ?_
  simp only [Act.put, List.setIfInBounds_toArray, List.set_cons_zero, List.set_cons_succ]
  refine alw_done rfl ?_
  refine NoPanic.normal ?_
  clear hS0
  try simp only [Act.put, List.setIfInBounds_toArray, List.set_cons_zero, List.set_cons_succ]
  have HBqd := Lib.hid (HBq4.out.turn HD.out fun e => e)
  have HBrd := Lib.hid (HBr4.out.turn HD.out fun e => e)
  have HBgd := Lib.hid (HBg4.out.turn HD.out fun e => e)
  have HTd := Lib.hid (HT4.out.trans HD.out fun _ _ e => e)
  clear HBq4 HBr4 HBg4 HT4 HD
  go_upto_region 3 with fail
  refine wp_region_lit ?_
  refine wpList_run (v := .int .i64 0) (wanted_none rfl) (exec_move rfl rfl) ?_
  simp only [Act.put, List.setIfInBounds_toArray, List.set_cons_zero, List.set_cons_succ]
  go_wp2_with fail
  go_loopg [6, 7, 8, 9, 10, 11, 12, 13, 35] 64 (fun gk va vb vc vd ve vf vg vh iv wr => ∃ t : Nat, iv = .int .i64 (t : Int) ∧ va = .int .u32 ((Sh.rs s L t).a.toNat : Int) ∧ vb = .int .u32 ((Sh.rs s L t).b.toNat : Int) ∧ vc = .int .u32 ((Sh.rs s L t).c.toNat : Int) ∧ vd = .int .u32 ((Sh.rs s L t).d.toNat : Int) ∧ ve = .int .u32 ((Sh.rs s L t).e.toNat : Int) ∧ vf = .int .u32 ((Sh.rs s L t).f.toNat : Int) ∧ vg = .int .u32 ((Sh.rs s L t).g.toNat : Int) ∧ vh = .int .u32 ((Sh.rs s L t).h.toNat : Int) ∧ t + gk = 64 ∧ Blk wr q 90 (wds s.l) ∧ Blk wr r 90 (wds (List.replicate 8 0)) ∧ Blk wr g 119 (wds L) ∧ Turn nowhere w wr)
  case atStart => exact ⟨0, rfl, rfl, rfl, rfl, rfl, rfl, rfl, rfl, rfl, rfl, HBqd.out, HBrd.out, HBgd.out, HTd.out⟩
  obtain ⟨t, rfl, rfl, rfl, rfl, rfl, rfl, rfl, rfl, rfl, hgk, hbq, hbr, hbg, htr⟩ := hrel
  have yi : (t : Int) ≤ 64 := by omega
  have HGK := Lib.hid hgk
  have HBQ := Lib.hid hbq
  have HBR := Lib.hid hbr
  have HBG := Lib.hid hbg
  have HTR := Lib.hid htr
  clear hgk hbq hbr hbg htr
  by_cases hlt : t < 64
  · as_aux_lemma =>
      have HLT := Lib.hid hlt
      have y3 : (t : Int) < 64 := by omega
      have HKR := Lib.hid (HK.out.turn HTR.out)
      clear hlt
      have HRS := Lib.hid (rs_succ s L t)
      obtain ⟨z2, hz2⟩ : ∃ z2, Sh.rs s L (t + 1) = z2 := ⟨_, rfl⟩
      rw [hz2] at HRS
      have HZ2 := Lib.hid hz2
      clear hz2
      generalize Sh.rs s L t = z at HRS ⊢
      have HKV := Lib.hid (HKR.out t HLT.out)
      obtain ⟨kk, hkk⟩ : ∃ kk, Sh.kt t = kk := ⟨_, rfl⟩
      rw [hkk] at HRS HKV
      obtain ⟨lt, hlt⟩ : ∃ lt, L.getD t 0 = lt := ⟨_, rfl⟩
      have HLV := Lib.hid (show ∀ W : World, Blk W g 119 (wds L) → W.cell? ⟨g, 0 + t * 1, none⟩ = some (.int .u32 (lt.toNat : Int)) from fun W h => by rw [ld_w h (by rw [HLL.out]; exact HLT.out), hlt])
      rw [hlt] at HRS
      clear hkk hlt
      obtain ⟨T1, hT1⟩ : ∃ T, Sh.t1 z kk lt = T := ⟨_, rfl⟩
      obtain ⟨T2, hT2⟩ : ∃ T, Sh.t2 z = T := ⟨_, rfl⟩
      have HX := Lib.hid (show z2 = ⟨T1 + T2, z.a, z.b, z.c, z.d + T1, z.e, z.f, z.g⟩ from by rw [← hT1, ← hT2]; exact HRS.out)
      have HT1e := Lib.hid hT1
      have HT2e := Lib.hid hT2
      clear hT1 hT2 HRS
      go_upto_region 4 with fail
      refine wp_region_lit ?_
      refine wpList_run (v := .bool true) (wanted_none rfl) (ix_lss rfl rfl rfl (decide_eq_true y3)) ?_
      simp only [Act.put, List.setIfInBounds_toArray, List.set_cons_zero, List.set_cons_succ]
      go_upto_region 5 with fail
      refine wp_region_lit ?_
      refine wpList_run (v := .int .i64 (t : Int)) (wanted_none rfl) (exec_move rfl rfl) ?_
      simp only [Act.put, List.setIfInBounds_toArray, List.set_cons_zero, List.set_cons_succ]
      refine wpList_run (v := .int .i64 (t : Int)) (wanted_none rfl) (gx_assign rfl rfl) ?_
      simp only [Act.put, List.setIfInBounds_toArray, List.set_cons_zero, List.set_cons_succ]
      go_upto_region 6 with fail
      refine wp_region_alw (fun W => Blk W g 119 (wds L) ∧ W.cell? ⟨5, t, none⟩ = some (.int .u32 (kk.toNat : Int))) (by kernel_rfl) ?_
      have hS0 : (fun W => Blk W g 119 (wds L) ∧ W.cell? ⟨5, t, none⟩ = some (.int .u32 (kk.toNat : Int))) wr.drew := ⟨HBG.out.drew, HKV.out⟩
      have HD := Lib.hid ((Turn.refl nowhere wr).drew)
      generalize wr.drew = wd at *
      refine alw_take (i := 0) (v := .int .u32 ((z.h).toNat : Int)) rfl (by kernel_rfl) (by kernel_rfl) (fun _ _ _ h => h) (.inl ⟨by rfl, fun W hW => exec_move rfl rfl⟩) hS0 ?_
      simp only [Act.put, List.setIfInBounds_toArray, List.set_cons_zero, List.set_cons_succ]
      refine alw_take (i := 1) (v := .int .u32 ((z.e).toNat : Int)) rfl (by kernel_rfl) (by kernel_rfl) (fun _ _ _ h => h) (.inl ⟨by rfl, fun W hW => exec_move rfl rfl⟩) hS0 ?_
      simp only [Act.put, List.setIfInBounds_toArray, List.set_cons_zero, List.set_cons_succ]
      refine alw_take (i := 3) (v := .int .u32 ((z.e).toNat : Int)) rfl (by kernel_rfl) (by kernel_rfl) (fun _ _ _ h => h) (.inl ⟨by rfl, fun W hW => exec_move rfl rfl⟩) hS0 ?_
      simp only [Act.put, List.setIfInBounds_toArray, List.set_cons_zero, List.set_cons_succ]
      refine alw_take (i := 6) (v := .int .u32 ((z.e).toNat : Int)) rfl (by kernel_rfl) (by kernel_rfl) (fun _ _ _ h => h) (.inl ⟨by rfl, fun W hW => exec_move rfl rfl⟩) hS0 ?_
      simp only [Act.put, List.setIfInBounds_toArray, List.set_cons_zero, List.set_cons_succ]
      refine alw_take (i := 10) (v := .int .u32 ((z.e).toNat : Int)) rfl (by kernel_rfl) (by kernel_rfl) (fun _ _ _ h => h) (.inl ⟨by rfl, fun W hW => exec_move rfl rfl⟩) hS0 ?_
      simp only [Act.put, List.setIfInBounds_toArray, List.set_cons_zero, List.set_cons_succ]
      refine alw_take (i := 11) (v := .int .u32 ((z.f).toNat : Int)) rfl (by kernel_rfl) (by kernel_rfl) (fun _ _ _ h => h) (.inl ⟨by rfl, fun W hW => exec_move rfl rfl⟩) hS0 ?_
      simp only [Act.put, List.setIfInBounds_toArray, List.set_cons_zero, List.set_cons_succ]
      refine alw_take (i := 12) (v := .int .u32 ((z.e &&& z.f).toNat : Int)) rfl (by kernel_rfl) (by kernel_rfl) (fun _ _ _ h => h) (.inl ⟨by rfl, fun W hW => wd_and rfl rfl rfl⟩) hS0 ?_
      simp only [Act.put, List.setIfInBounds_toArray, List.set_cons_zero, List.set_cons_succ]
      refine alw_take (i := 13) (v := .int .u32 ((z.e).toNat : Int)) rfl (by kernel_rfl) (by kernel_rfl) (fun _ _ _ h => h) (.inl ⟨by rfl, fun W hW => exec_move rfl rfl⟩) hS0 ?_
      simp only [Act.put, List.setIfInBounds_toArray, List.set_cons_zero, List.set_cons_succ]
      refine alw_take (i := 14) (v := .int .u32 ((~~~ (z.e)).toNat : Int)) rfl (by kernel_rfl) (by kernel_rfl) (fun _ _ _ h => h) (.inl ⟨by rfl, fun W hW => wd_not rfl rfl⟩) hS0 ?_
      simp only [Act.put, List.setIfInBounds_toArray, List.set_cons_zero, List.set_cons_succ]
      refine alw_take (i := 15) (v := .int .u32 ((z.g).toNat : Int)) rfl (by kernel_rfl) (by kernel_rfl) (fun _ _ _ h => h) (.inl ⟨by rfl, fun W hW => exec_move rfl rfl⟩) hS0 ?_
      simp only [Act.put, List.setIfInBounds_toArray, List.set_cons_zero, List.set_cons_succ]
      refine alw_take (i := 16) (v := .int .u32 (((~~~ (z.e)) &&& z.g).toNat : Int)) rfl (by kernel_rfl) (by kernel_rfl) (fun _ _ _ h => h) (.inl ⟨by rfl, fun W hW => wd_and rfl rfl rfl⟩) hS0 ?_
      simp only [Act.put, List.setIfInBounds_toArray, List.set_cons_zero, List.set_cons_succ]
      refine alw_take (i := 17) (v := .int .u32 (((z.e &&& z.f) ^^^ ((~~~ (z.e)) &&& z.g)).toNat : Int)) rfl (by kernel_rfl) (by kernel_rfl) (fun _ _ _ h => h) (.inl ⟨by rfl, fun W hW => wd_xor rfl rfl rfl⟩) hS0 ?_
      simp only [Act.put, List.setIfInBounds_toArray, List.set_cons_zero, List.set_cons_succ]
      refine alw_take (i := 19) (v := .int .i64 (t : Int)) rfl (by kernel_rfl) (by kernel_rfl) (fun _ _ _ h => h) (.inl ⟨by rfl, fun W hW => exec_move rfl rfl⟩) hS0 ?_
      simp only [Act.put, List.setIfInBounds_toArray, List.set_cons_zero, List.set_cons_succ]
      refine alw_take (i := 20) (v := .pointer (some ⟨5, 0 + t, none⟩)) rfl (by kernel_rfl) (by kernel_rfl) (fun _ _ _ h => h) (.inl ⟨by rfl, fun W hW => gx_gaddr (i := t) (sz := 1) (m := t) rfl rfl Tryz.underlying119 size_u32 HLT.out (Nat.mul_one _)⟩) hS0 ?_
      simp only [Act.put, List.setIfInBounds_toArray, List.set_cons_zero, List.set_cons_succ]
      refine alw_take (i := 21) (v := .int .u32 ((kk).toNat : Int)) rfl (by kernel_rfl) (by kernel_rfl) (fun _ _ _ h => h) (.inl ⟨by rfl, fun W hW => exec_load1 rfl rfl (by kernel_rfl) (by rw [Nat.zero_add]; exact hW.2)⟩) hS0 ?_
      simp only [Act.put, List.setIfInBounds_toArray, List.set_cons_zero, List.set_cons_succ]
      refine alw_take (i := 23) (v := .int .i64 (t : Int)) rfl (by kernel_rfl) (by kernel_rfl) (fun _ _ _ h => h) (.inl ⟨by rfl, fun W hW => exec_move rfl rfl⟩) hS0 ?_
      simp only [Act.put, List.setIfInBounds_toArray, List.set_cons_zero, List.set_cons_succ]
      refine alw_take (i := 24) (v := .pointer (some ⟨g, 0 + t * 1, none⟩)) rfl (by kernel_rfl) (by kernel_rfl) (fun _ _ _ h => h) (.inl ⟨by rfl, fun W hW => gx_aaddr_g (i := t) (sz := 1) rfl rfl rfl Tryz.underlying119 size_u32 HLT.out rfl⟩) hS0 ?_
      simp only [Act.put, List.setIfInBounds_toArray, List.set_cons_zero, List.set_cons_succ]
      refine alw_take (i := 25) (v := .int .u32 ((lt).toNat : Int)) rfl (by kernel_rfl) (by kernel_rfl) (fun _ _ _ h => h) (.inl ⟨by rfl, fun W hW => exec_load1 rfl rfl (by kernel_rfl) (HLV.out W hW.1)⟩) hS0 ?_
      simp only [Act.put, List.setIfInBounds_toArray, List.set_cons_zero, List.set_cons_succ]
      refine alw_step (i := 2) (by kernel_rfl) rfl rfl ?_
      intro K1 HK1
      go_wp2_with fail
      refine (rot_walk z.e 6 _ (by decide) (by decide)).mono ?_
      rintro e w9 ⟨rfl, rfl⟩

      refine HK1.out _ _ ⟨hS0, ?_⟩
      clear HK1
      try simp only [Act.put, List.setIfInBounds_toArray, List.set_cons_zero, List.set_cons_succ]
      refine alw_step (i := 4) (by kernel_rfl) rfl rfl ?_
      intro K1 HK1
      go_wp2_with fail
      refine (rot_walk z.e 11 _ (by decide) (by decide)).mono ?_
      rintro e w9 ⟨rfl, rfl⟩

      refine HK1.out _ _ ⟨hS0, ?_⟩
      clear HK1
      try simp only [Act.put, List.setIfInBounds_toArray, List.set_cons_zero, List.set_cons_succ]
      refine alw_take (i := 5) (v := .int .u32 (((Sh.rot z.e 6) ^^^ (Sh.rot z.e 11)).toNat : Int)) rfl (by kernel_rfl) (by kernel_rfl) (fun _ _ _ h => h) (.inl ⟨by rfl, fun W hW => wd_xor rfl rfl rfl⟩) hS0 ?_
      simp only [Act.put, List.setIfInBounds_toArray, List.set_cons_zero, List.set_cons_succ]
      refine alw_step (i := 7) (by kernel_rfl) rfl rfl ?_
      intro K1 HK1
      go_wp2_with fail
      refine (rot_walk z.e 25 _ (by decide) (by decide)).mono ?_
      rintro e w9 ⟨rfl, rfl⟩

      refine HK1.out _ _ ⟨hS0, ?_⟩
      clear HK1
      try simp only [Act.put, List.setIfInBounds_toArray, List.set_cons_zero, List.set_cons_succ]
      refine alw_take (i := 8) (v := .int .u32 ((((Sh.rot z.e 6) ^^^ (Sh.rot z.e 11)) ^^^ (Sh.rot z.e 25)).toNat : Int)) rfl (by kernel_rfl) (by kernel_rfl) (fun _ _ _ h => h) (.inl ⟨by rfl, fun W hW => wd_xor rfl rfl rfl⟩) hS0 ?_
      simp only [Act.put, List.setIfInBounds_toArray, List.set_cons_zero, List.set_cons_succ]
      refine alw_take (i := 9) (v := .int .u32 ((z.h + (((Sh.rot z.e 6) ^^^ (Sh.rot z.e 11)) ^^^ (Sh.rot z.e 25))).toNat : Int)) rfl (by kernel_rfl) (by kernel_rfl) (fun _ _ _ h => h) (.inl ⟨by rfl, fun W hW => wd_add rfl rfl rfl⟩) hS0 ?_
      simp only [Act.put, List.setIfInBounds_toArray, List.set_cons_zero, List.set_cons_succ]
      refine alw_take (i := 18) (v := .int .u32 (((z.h + (((Sh.rot z.e 6) ^^^ (Sh.rot z.e 11)) ^^^ (Sh.rot z.e 25))) + ((z.e &&& z.f) ^^^ ((~~~ (z.e)) &&& z.g))).toNat : Int)) rfl (by kernel_rfl) (by kernel_rfl) (fun _ _ _ h => h) (.inl ⟨by rfl, fun W hW => wd_add rfl rfl rfl⟩) hS0 ?_
      simp only [Act.put, List.setIfInBounds_toArray, List.set_cons_zero, List.set_cons_succ]
      refine alw_take (i := 22) (v := .int .u32 ((((z.h + (((Sh.rot z.e 6) ^^^ (Sh.rot z.e 11)) ^^^ (Sh.rot z.e 25))) + ((z.e &&& z.f) ^^^ ((~~~ (z.e)) &&& z.g))) + kk).toNat : Int)) rfl (by kernel_rfl) (by kernel_rfl) (fun _ _ _ h => h) (.inl ⟨by rfl, fun W hW => wd_add rfl rfl rfl⟩) hS0 ?_
      simp only [Act.put, List.setIfInBounds_toArray, List.set_cons_zero, List.set_cons_succ]
      refine alw_take (i := 26) (v := .int .u32 (((((z.h + (((Sh.rot z.e 6) ^^^ (Sh.rot z.e 11)) ^^^ (Sh.rot z.e 25))) + ((z.e &&& z.f) ^^^ ((~~~ (z.e)) &&& z.g))) + kk) + lt).toNat : Int)) rfl (by kernel_rfl) (by kernel_rfl) (fun _ _ _ h => h) (.inl ⟨by rfl, fun W hW => wd_add rfl rfl rfl⟩) hS0 ?_
      simp only [Act.put, List.setIfInBounds_toArray, List.set_cons_zero, List.set_cons_succ]
      refine alw_take (i := 27) (v := .int .u32 ((Sh.t1 z kk lt).toNat : Int)) rfl (by kernel_rfl) (by kernel_rfl) (fun _ _ _ h => h) (.inl ⟨by rfl, fun W hW => gx_assign rfl rfl⟩) hS0 ?_
      simp only [Act.put, List.setIfInBounds_toArray, List.set_cons_zero, List.set_cons_succ]
      refine alw_done rfl ?_
      refine NoPanic.normal ?_
      clear hS0
      try simp only [Act.put, List.setIfInBounds_toArray, List.set_cons_zero, List.set_cons_succ]
      rw [HT1e.out]
      have HBQd := Lib.hid (HBQ.out.turn HD.out fun e => e)
      have HBRd := Lib.hid (HBR.out.turn HD.out fun e => e)
      have HBGd := Lib.hid (HBG.out.turn HD.out fun e => e)
      have HTRd := Lib.hid (HTR.out.trans HD.out fun _ _ e => e)
      clear HBQ HBR HBG HTR HD HKV
      go_upto_region 7 with fail
      refine wp_region_lit ?_
      refine wpList_run (v := .int .u32 ((z.a).toNat : Int)) (wanted_none rfl) (exec_move rfl rfl) ?_
      simp only [Act.put, List.setIfInBounds_toArray, List.set_cons_zero, List.set_cons_succ]
      refine wpList_op_g rfl fun K9 HK9 => ?_
      go_wp2_with fail
      refine (rot_walk z.a 2 _ (by decide) (by decide)).mono ?_
      rintro e w9 ⟨rfl, rfl⟩
      refine HK9.out _ _ ?_
      clear HK9
      try simp only [Act.put, List.setIfInBounds_toArray, List.set_cons_zero, List.set_cons_succ]
      refine wpList_run (v := .int .u32 ((z.a).toNat : Int)) (wanted_none rfl) (exec_move rfl rfl) ?_
      simp only [Act.put, List.setIfInBounds_toArray, List.set_cons_zero, List.set_cons_succ]
      refine wpList_op_g rfl fun K9 HK9 => ?_
      go_wp2_with fail
      refine (rot_walk z.a 13 _ (by decide) (by decide)).mono ?_
      rintro e w9 ⟨rfl, rfl⟩
      refine HK9.out _ _ ?_
      clear HK9
      try simp only [Act.put, List.setIfInBounds_toArray, List.set_cons_zero, List.set_cons_succ]
      refine wpList_run (v := .int .u32 (((Sh.rot z.a 2) ^^^ (Sh.rot z.a 13)).toNat : Int)) (wanted_none rfl) (wd_xor rfl rfl rfl) ?_
      simp only [Act.put, List.setIfInBounds_toArray, List.set_cons_zero, List.set_cons_succ]
      refine wpList_run (v := .int .u32 ((z.a).toNat : Int)) (wanted_none rfl) (exec_move rfl rfl) ?_
      simp only [Act.put, List.setIfInBounds_toArray, List.set_cons_zero, List.set_cons_succ]
      refine wpList_op_g rfl fun K9 HK9 => ?_
      go_wp2_with fail
      refine (rot_walk z.a 22 _ (by decide) (by decide)).mono ?_
      rintro e w9 ⟨rfl, rfl⟩
      refine HK9.out _ _ ?_
      clear HK9
      try simp only [Act.put, List.setIfInBounds_toArray, List.set_cons_zero, List.set_cons_succ]
      refine wpList_run (v := .int .u32 ((((Sh.rot z.a 2) ^^^ (Sh.rot z.a 13)) ^^^ (Sh.rot z.a 22)).toNat : Int)) (wanted_none rfl) (wd_xor rfl rfl rfl) ?_
      simp only [Act.put, List.setIfInBounds_toArray, List.set_cons_zero, List.set_cons_succ]
      refine wpList_run (v := .int .u32 ((z.a).toNat : Int)) (wanted_none rfl) (exec_move rfl rfl) ?_
      simp only [Act.put, List.setIfInBounds_toArray, List.set_cons_zero, List.set_cons_succ]
      refine wpList_run (v := .int .u32 ((z.b).toNat : Int)) (wanted_none rfl) (exec_move rfl rfl) ?_
      simp only [Act.put, List.setIfInBounds_toArray, List.set_cons_zero, List.set_cons_succ]
      refine wpList_run (v := .int .u32 ((z.a &&& z.b).toNat : Int)) (wanted_none rfl) (wd_and rfl rfl rfl) ?_
      simp only [Act.put, List.setIfInBounds_toArray, List.set_cons_zero, List.set_cons_succ]
      refine wpList_run (v := .int .u32 ((z.a).toNat : Int)) (wanted_none rfl) (exec_move rfl rfl) ?_
      simp only [Act.put, List.setIfInBounds_toArray, List.set_cons_zero, List.set_cons_succ]
      refine wpList_run (v := .int .u32 ((z.c).toNat : Int)) (wanted_none rfl) (exec_move rfl rfl) ?_
      simp only [Act.put, List.setIfInBounds_toArray, List.set_cons_zero, List.set_cons_succ]
      refine wpList_run (v := .int .u32 ((z.a &&& z.c).toNat : Int)) (wanted_none rfl) (wd_and rfl rfl rfl) ?_
      simp only [Act.put, List.setIfInBounds_toArray, List.set_cons_zero, List.set_cons_succ]
      refine wpList_run (v := .int .u32 (((z.a &&& z.b) ^^^ (z.a &&& z.c)).toNat : Int)) (wanted_none rfl) (wd_xor rfl rfl rfl) ?_
      simp only [Act.put, List.setIfInBounds_toArray, List.set_cons_zero, List.set_cons_succ]
      refine wpList_run (v := .int .u32 ((z.b).toNat : Int)) (wanted_none rfl) (exec_move rfl rfl) ?_
      simp only [Act.put, List.setIfInBounds_toArray, List.set_cons_zero, List.set_cons_succ]
      refine wpList_run (v := .int .u32 ((z.c).toNat : Int)) (wanted_none rfl) (exec_move rfl rfl) ?_
      simp only [Act.put, List.setIfInBounds_toArray, List.set_cons_zero, List.set_cons_succ]
      refine wpList_run (v := .int .u32 ((z.b &&& z.c).toNat : Int)) (wanted_none rfl) (wd_and rfl rfl rfl) ?_
      simp only [Act.put, List.setIfInBounds_toArray, List.set_cons_zero, List.set_cons_succ]
      refine wpList_run (v := .int .u32 ((((z.a &&& z.b) ^^^ (z.a &&& z.c)) ^^^ (z.b &&& z.c)).toNat : Int)) (wanted_none rfl) (wd_xor rfl rfl rfl) ?_
      simp only [Act.put, List.setIfInBounds_toArray, List.set_cons_zero, List.set_cons_succ]
      refine wpList_run (v := .int .u32 (((((Sh.rot z.a 2) ^^^ (Sh.rot z.a 13)) ^^^ (Sh.rot z.a 22)) + (((z.a &&& z.b) ^^^ (z.a &&& z.c)) ^^^ (z.b &&& z.c))).toNat : Int)) (wanted_none rfl) (wd_add rfl rfl rfl) ?_
      simp only [Act.put, List.setIfInBounds_toArray, List.set_cons_zero, List.set_cons_succ]
      refine wpList_run (v := .int .u32 ((Sh.t2 z).toNat : Int)) (wanted_none rfl) (gx_assign rfl rfl) ?_
      simp only [Act.put, List.setIfInBounds_toArray, List.set_cons_zero, List.set_cons_succ]
      rw [HT2e.out]
      go_upto_region 8 with fail
      refine wp_region_lit ?_
      refine wpList_run (v := .int .u32 ((T1).toNat : Int)) (wanted_none rfl) (exec_move rfl rfl) ?_
      simp only [Act.put, List.setIfInBounds_toArray, List.set_cons_zero, List.set_cons_succ]
      refine wpList_run (v := .int .u32 ((T2).toNat : Int)) (wanted_none rfl) (exec_move rfl rfl) ?_
      simp only [Act.put, List.setIfInBounds_toArray, List.set_cons_zero, List.set_cons_succ]
      refine wpList_run (v := .int .u32 ((T1 + T2).toNat : Int)) (wanted_none rfl) (wd_add rfl rfl rfl) ?_
      simp only [Act.put, List.setIfInBounds_toArray, List.set_cons_zero, List.set_cons_succ]
      refine wpList_run (v := .int .u32 ((z.a).toNat : Int)) (wanted_none rfl) (exec_move rfl rfl) ?_
      simp only [Act.put, List.setIfInBounds_toArray, List.set_cons_zero, List.set_cons_succ]
      refine wpList_run (v := .int .u32 ((z.b).toNat : Int)) (wanted_none rfl) (exec_move rfl rfl) ?_
      simp only [Act.put, List.setIfInBounds_toArray, List.set_cons_zero, List.set_cons_succ]
      refine wpList_run (v := .int .u32 ((z.c).toNat : Int)) (wanted_none rfl) (exec_move rfl rfl) ?_
      simp only [Act.put, List.setIfInBounds_toArray, List.set_cons_zero, List.set_cons_succ]
      refine wpList_run (v := .int .u32 ((z.d).toNat : Int)) (wanted_none rfl) (exec_move rfl rfl) ?_
      simp only [Act.put, List.setIfInBounds_toArray, List.set_cons_zero, List.set_cons_succ]
      refine wpList_run (v := .int .u32 ((T1).toNat : Int)) (wanted_none rfl) (exec_move rfl rfl) ?_
      simp only [Act.put, List.setIfInBounds_toArray, List.set_cons_zero, List.set_cons_succ]
      refine wpList_run (v := .int .u32 ((z.d + T1).toNat : Int)) (wanted_none rfl) (wd_add rfl rfl rfl) ?_
      simp only [Act.put, List.setIfInBounds_toArray, List.set_cons_zero, List.set_cons_succ]
      refine wpList_run (v := .int .u32 ((z.e).toNat : Int)) (wanted_none rfl) (exec_move rfl rfl) ?_
      simp only [Act.put, List.setIfInBounds_toArray, List.set_cons_zero, List.set_cons_succ]
      refine wpList_run (v := .int .u32 ((z.f).toNat : Int)) (wanted_none rfl) (exec_move rfl rfl) ?_
      simp only [Act.put, List.setIfInBounds_toArray, List.set_cons_zero, List.set_cons_succ]
      refine wpList_run (v := .int .u32 ((z.g).toNat : Int)) (wanted_none rfl) (exec_move rfl rfl) ?_
      simp only [Act.put, List.setIfInBounds_toArray, List.set_cons_zero, List.set_cons_succ]
      refine wpList_run (v := .int .u32 ((T1 + T2).toNat : Int)) (wanted_none rfl) (gx_assign rfl rfl) ?_
      simp only [Act.put, List.setIfInBounds_toArray, List.set_cons_zero, List.set_cons_succ]
      refine wpList_run (v := .int .u32 ((z.a).toNat : Int)) (wanted_none rfl) (gx_assign rfl rfl) ?_
      simp only [Act.put, List.setIfInBounds_toArray, List.set_cons_zero, List.set_cons_succ]
      refine wpList_run (v := .int .u32 ((z.b).toNat : Int)) (wanted_none rfl) (gx_assign rfl rfl) ?_
      simp only [Act.put, List.setIfInBounds_toArray, List.set_cons_zero, List.set_cons_succ]
      refine wpList_run (v := .int .u32 ((z.c).toNat : Int)) (wanted_none rfl) (gx_assign rfl rfl) ?_
      simp only [Act.put, List.setIfInBounds_toArray, List.set_cons_zero, List.set_cons_succ]
      refine wpList_run (v := .int .u32 ((z.d + T1).toNat : Int)) (wanted_none rfl) (gx_assign rfl rfl) ?_
      simp only [Act.put, List.setIfInBounds_toArray, List.set_cons_zero, List.set_cons_succ]
      refine wpList_run (v := .int .u32 ((z.e).toNat : Int)) (wanted_none rfl) (gx_assign rfl rfl) ?_
      simp only [Act.put, List.setIfInBounds_toArray, List.set_cons_zero, List.set_cons_succ]
      refine wpList_run (v := .int .u32 ((z.f).toNat : Int)) (wanted_none rfl) (gx_assign rfl rfl) ?_
      simp only [Act.put, List.setIfInBounds_toArray, List.set_cons_zero, List.set_cons_succ]
      refine wpList_run (v := .int .u32 ((z.g).toNat : Int)) (wanted_none rfl) (gx_assign rfl rfl) ?_
      simp only [Act.put, List.setIfInBounds_toArray, List.set_cons_zero, List.set_cons_succ]
      go_upto_region 9 with fail
      refine wp_region_lit ?_
      refine wpList_run (v := .int .i64 ((t + 1 : Nat) : Int)) (wanted_none rfl) (ix_add rfl rfl rfl (by omega) (by omega)) ?_
      simp only [Act.put, List.setIfInBounds_toArray, List.set_cons_zero, List.set_cons_succ]
      refine wpList_run (v := .int .i64 ((t + 1 : Nat) : Int)) (wanted_none rfl) (exec_move rfl rfl) ?_
      simp only [Act.put, List.setIfInBounds_toArray, List.set_cons_zero, List.set_cons_succ]
      go_wp2_with fail
      go_roundg (64 - (t + 1))
      case measure => have := HGK.out; have := HLT.out; omega
      case rel => exact ⟨t + 1, rfl, by rw [HZ2.out, HX.out], by rw [HZ2.out, HX.out], by rw [HZ2.out, HX.out], by rw [HZ2.out, HX.out], by rw [HZ2.out, HX.out], by rw [HZ2.out, HX.out], by rw [HZ2.out, HX.out], by rw [HZ2.out, HX.out], by have := HLT.out; omega, HBQd.out, HBRd.out, HBGd.out, HTRd.out⟩
  · as_aux_lemma =>
      obtain rfl : t = 64 := by omega
      clear hlt
      generalize Sh.rs s L 64 = z at HC ⊢
      go_upto_region 4 with fail
      refine wp_region_lit ?_
      refine wpList_run (v := .bool false) (wanted_none rfl) (ix_lss rfl rfl rfl (by decide)) ?_
      simp only [Act.put, List.setIfInBounds_toArray, List.set_cons_zero, List.set_cons_succ]
      go_upto_region 10 with fail
      refine wp_region_lit ?_
      refine wpList_run (v := .pointer (some ⟨q, 0 + 0 * 1, none⟩)) (wanted_none rfl) (gx_aaddr_g (i := 0) (sz := 1) rfl rfl rfl Tryz.underlying90 size_u32 (by decide) rfl) ?_
      simp only [Act.put, List.setIfInBounds_toArray, List.set_cons_zero, List.set_cons_succ]
      refine wpList_run (v := .int .u32 ((s.a).toNat : Int)) (wanted_none rfl) (exec_load1 rfl rfl (by kernel_rfl) (ld_w (l := s.l) (i := 0) HBQ.out (by rw [h8_len]; decide))) ?_
      simp only [Act.put, List.setIfInBounds_toArray, List.set_cons_zero, List.set_cons_succ]
      refine wpList_run (v := .int .u32 ((z.a).toNat : Int)) (wanted_none rfl) (exec_move rfl rfl) ?_
      simp only [Act.put, List.setIfInBounds_toArray, List.set_cons_zero, List.set_cons_succ]
      refine wpList_run (v := .int .u32 ((s.a + z.a).toNat : Int)) (wanted_none rfl) (wd_add rfl rfl rfl) ?_
      simp only [Act.put, List.setIfInBounds_toArray, List.set_cons_zero, List.set_cons_succ]
      refine wpList_run (v := .pointer (some ⟨q, 0 + 1 * 1, none⟩)) (wanted_none rfl) (gx_aaddr_g (i := 1) (sz := 1) rfl rfl rfl Tryz.underlying90 size_u32 (by decide) rfl) ?_
      simp only [Act.put, List.setIfInBounds_toArray, List.set_cons_zero, List.set_cons_succ]
      refine wpList_run (v := .int .u32 ((s.b).toNat : Int)) (wanted_none rfl) (exec_load1 rfl rfl (by kernel_rfl) (ld_w (l := s.l) (i := 1) HBQ.out (by rw [h8_len]; decide))) ?_
      simp only [Act.put, List.setIfInBounds_toArray, List.set_cons_zero, List.set_cons_succ]
      refine wpList_run (v := .int .u32 ((z.b).toNat : Int)) (wanted_none rfl) (exec_move rfl rfl) ?_
      simp only [Act.put, List.setIfInBounds_toArray, List.set_cons_zero, List.set_cons_succ]
      refine wpList_run (v := .int .u32 ((s.b + z.b).toNat : Int)) (wanted_none rfl) (wd_add rfl rfl rfl) ?_
      simp only [Act.put, List.setIfInBounds_toArray, List.set_cons_zero, List.set_cons_succ]
      refine wpList_run (v := .pointer (some ⟨q, 0 + 2 * 1, none⟩)) (wanted_none rfl) (gx_aaddr_g (i := 2) (sz := 1) rfl rfl rfl Tryz.underlying90 size_u32 (by decide) rfl) ?_
      simp only [Act.put, List.setIfInBounds_toArray, List.set_cons_zero, List.set_cons_succ]
      refine wpList_run (v := .int .u32 ((s.c).toNat : Int)) (wanted_none rfl) (exec_load1 rfl rfl (by kernel_rfl) (ld_w (l := s.l) (i := 2) HBQ.out (by rw [h8_len]; decide))) ?_
      simp only [Act.put, List.setIfInBounds_toArray, List.set_cons_zero, List.set_cons_succ]
      refine wpList_run (v := .int .u32 ((z.c).toNat : Int)) (wanted_none rfl) (exec_move rfl rfl) ?_
      simp only [Act.put, List.setIfInBounds_toArray, List.set_cons_zero, List.set_cons_succ]
      refine wpList_run (v := .int .u32 ((s.c + z.c).toNat : Int)) (wanted_none rfl) (wd_add rfl rfl rfl) ?_
      simp only [Act.put, List.setIfInBounds_toArray, List.set_cons_zero, List.set_cons_succ]
      refine wpList_run (v := .pointer (some ⟨q, 0 + 3 * 1, none⟩)) (wanted_none rfl) (gx_aaddr_g (i := 3) (sz := 1) rfl rfl rfl Tryz.underlying90 size_u32 (by decide) rfl) ?_
      simp only [Act.put, List.setIfInBounds_toArray, List.set_cons_zero, List.set_cons_succ]
      refine wpList_run (v := .int .u32 ((s.d).toNat : Int)) (wanted_none rfl) (exec_load1 rfl rfl (by kernel_rfl) (ld_w (l := s.l) (i := 3) HBQ.out (by rw [h8_len]; decide))) ?_
      simp only [Act.put, List.setIfInBounds_toArray, List.set_cons_zero, List.set_cons_succ]
      refine wpList_run (v := .int .u32 ((z.d).toNat : Int)) (wanted_none rfl) (exec_move rfl rfl) ?_
      simp only [Act.put, List.setIfInBounds_toArray, List.set_cons_zero, List.set_cons_succ]
      refine wpList_run (v := .int .u32 ((s.d + z.d).toNat : Int)) (wanted_none rfl) (wd_add rfl rfl rfl) ?_
      simp only [Act.put, List.setIfInBounds_toArray, List.set_cons_zero, List.set_cons_succ]
      refine wpList_run (v := .pointer (some ⟨q, 0 + 4 * 1, none⟩)) (wanted_none rfl) (gx_aaddr_g (i := 4) (sz := 1) rfl rfl rfl Tryz.underlying90 size_u32 (by decide) rfl) ?_
      simp only [Act.put, List.setIfInBounds_toArray, List.set_cons_zero, List.set_cons_succ]
      refine wpList_run (v := .int .u32 ((s.e).toNat : Int)) (wanted_none rfl) (exec_load1 rfl rfl (by kernel_rfl) (ld_w (l := s.l) (i := 4) HBQ.out (by rw [h8_len]; decide))) ?_
      simp only [Act.put, List.setIfInBounds_toArray, List.set_cons_zero, List.set_cons_succ]
      refine wpList_run (v := .int .u32 ((z.e).toNat : Int)) (wanted_none rfl) (exec_move rfl rfl) ?_
      simp only [Act.put, List.setIfInBounds_toArray, List.set_cons_zero, List.set_cons_succ]
      refine wpList_run (v := .int .u32 ((s.e + z.e).toNat : Int)) (wanted_none rfl) (wd_add rfl rfl rfl) ?_
      simp only [Act.put, List.setIfInBounds_toArray, List.set_cons_zero, List.set_cons_succ]
      refine wpList_run (v := .pointer (some ⟨q, 0 + 5 * 1, none⟩)) (wanted_none rfl) (gx_aaddr_g (i := 5) (sz := 1) rfl rfl rfl Tryz.underlying90 size_u32 (by decide) rfl) ?_
      simp only [Act.put, List.setIfInBounds_toArray, List.set_cons_zero, List.set_cons_succ]
      refine wpList_run (v := .int .u32 ((s.f).toNat : Int)) (wanted_none rfl) (exec_load1 rfl rfl (by kernel_rfl) (ld_w (l := s.l) (i := 5) HBQ.out (by rw [h8_len]; decide))) ?_
      simp only [Act.put, List.setIfInBounds_toArray, List.set_cons_zero, List.set_cons_succ]
      refine wpList_run (v := .int .u32 ((z.f).toNat : Int)) (wanted_none rfl) (exec_move rfl rfl) ?_
      simp only [Act.put, List.setIfInBounds_toArray, List.set_cons_zero, List.set_cons_succ]
      refine wpList_run (v := .int .u32 ((s.f + z.f).toNat : Int)) (wanted_none rfl) (wd_add rfl rfl rfl) ?_
      simp only [Act.put, List.setIfInBounds_toArray, List.set_cons_zero, List.set_cons_succ]
      refine wpList_run (v := .pointer (some ⟨q, 0 + 6 * 1, none⟩)) (wanted_none rfl) (gx_aaddr_g (i := 6) (sz := 1) rfl rfl rfl Tryz.underlying90 size_u32 (by decide) rfl) ?_
      simp only [Act.put, List.setIfInBounds_toArray, List.set_cons_zero, List.set_cons_succ]
      refine wpList_run (v := .int .u32 ((s.g).toNat : Int)) (wanted_none rfl) (exec_load1 rfl rfl (by kernel_rfl) (ld_w (l := s.l) (i := 6) HBQ.out (by rw [h8_len]; decide))) ?_
      simp only [Act.put, List.setIfInBounds_toArray, List.set_cons_zero, List.set_cons_succ]
      refine wpList_run (v := .int .u32 ((z.g).toNat : Int)) (wanted_none rfl) (exec_move rfl rfl) ?_
      simp only [Act.put, List.setIfInBounds_toArray, List.set_cons_zero, List.set_cons_succ]
      refine wpList_run (v := .int .u32 ((s.g + z.g).toNat : Int)) (wanted_none rfl) (wd_add rfl rfl rfl) ?_
      simp only [Act.put, List.setIfInBounds_toArray, List.set_cons_zero, List.set_cons_succ]
      refine wpList_run (v := .pointer (some ⟨q, 0 + 7 * 1, none⟩)) (wanted_none rfl) (gx_aaddr_g (i := 7) (sz := 1) rfl rfl rfl Tryz.underlying90 size_u32 (by decide) rfl) ?_
      simp only [Act.put, List.setIfInBounds_toArray, List.set_cons_zero, List.set_cons_succ]
      refine wpList_run (v := .int .u32 ((s.h).toNat : Int)) (wanted_none rfl) (exec_load1 rfl rfl (by kernel_rfl) (ld_w (l := s.l) (i := 7) HBQ.out (by rw [h8_len]; decide))) ?_
      simp only [Act.put, List.setIfInBounds_toArray, List.set_cons_zero, List.set_cons_succ]
      refine wpList_run (v := .int .u32 ((z.h).toNat : Int)) (wanted_none rfl) (exec_move rfl rfl) ?_
      simp only [Act.put, List.setIfInBounds_toArray, List.set_cons_zero, List.set_cons_succ]
      refine wpList_run (v := .int .u32 ((s.h + z.h).toNat : Int)) (wanted_none rfl) (wd_add rfl rfl rfl) ?_
      simp only [Act.put, List.setIfInBounds_toArray, List.set_cons_zero, List.set_cons_succ]
      refine wpList_run (v := .agg (wds (Sh.add8 s z).l)) (wanted_none rfl) (gx_build8 rfl rfl rfl rfl rfl rfl rfl rfl rfl (build_h8 (Sh.add8 s z) _)) ?_
      simp only [Act.put, List.setIfInBounds_toArray, List.set_cons_zero, List.set_cons_succ]
      rw [← HC.out]
      refine wpList_store_row (wanted_none rfl) 90 (.tmp 4) (.tmp 130) rfl (wds cz.l) HBR.out rfl rfl (rfl) (by rw [size_wds] <;> rfl) (wds_one _) ?_
      intro w5 hb_ ht_
      have HBZ := Lib.hid hb_
      have HT5 := Lib.hid ht_
      clear hb_ ht_
      simp only [Act.put, List.setIfInBounds_toArray, List.set_cons_zero, List.set_cons_succ]
      have HTZ := Lib.hid (HTR.out.trans HT5.out fun k hk e => by have := HLr.out; have e : k = r := e; omega)
      go_wp2_with fail
      refine bodyPost_ret (v := .agg (wds cz.l)) (ret_cell1_g rfl _ _ r _ _ _ rfl HBZ.out Tryz.underlying90 rfl (by rw [size_wds] <;> rfl)) rfl ?_
      exact ⟨rfl, HTZ.out⟩
end Go.Proofs.YtfnillibngijaaaGreatDoor
