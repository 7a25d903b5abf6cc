/-
  Texts in one file: WlI WlJ. Conditions: the tables and the errors read as the program's text lays them.
-/
import Derived.Test.YtelipeoilcepbaaDoorWp0
import Derived.Test.YtelipeoilcepbaaDoorWp5
namespace Go.Proofs.YtelipeoilcepbaaDoor
open Go.RowKit
open Wl (B8)
set_option linter.unusedVariables false
set_option linter.unusedSimpArgs false
set_option maxRecDepth 20000
def halfB (b : B8) (h : Nat) : B8 := (b.drop (32 * h)).take 32
theorem halfB_len {b : B8} {h : Nat} (hl : 32 * (h + 1) ≤ b.length) : (halfB b h).length = 32 := by unfold halfB; rw [List.length_take, List.length_drop]; omega
theorem half_tag_len {b : B8} {h : Nat} (hl : 32 * (h + 1) ≤ b.length) : ((halfB b h).take 12).length = 12 := by rw [List.length_take, halfB_len hl]; omega
theorem range_take12 {w : World} {p off : Nat} {t : B8} (h : w.rangeAt p off (bcs t)) : w.rangeAt p off (bcs (t.take 12)) := fun j v hv => by
  refine h j v ?_
  unfold bcs at hv ⊢
  rw [List.map_take, List.getElem?_take] at hv
  split at hv
  · exact hv
  · cases hv
set_option maxRecDepth 20000 in
set_option maxHeartbeats 4000000 in
theorem cutB_walk (w : World) (A : Option Addr) (n c : Nat) (b : B8) (h : Nat) (hb : Bs w A n b) (hl : 32 * (h + 1) ≤ n) (hc : n ≤ c) (hm : n ≤ 1000000) :
    Calls Tryd.prog 72 #[.slice A n c, .int .i64 (h : Int)] w fun r w' => ∃ A', r = .returned (.tuple #[.agg (byteCells ((halfB b h).take 12)), .slice A' 20 20]) ∧ Bs w' A' 20 ((halfB b h).drop 12) ∧ Turn nowhere w w' := by
  have HN := Lib.hid hb.1
  obtain ⟨p, off, rfl, hpc⟩ := hb.2.2 (by omega)
  have HH := Lib.hid (show Bs w (some ⟨p, off + 32 * h, none⟩) 32 (halfB b h) from bs_sub hb (by omega))
  have HPL := Lib.hid (show p < w.heap.size from World.block_lt_of_cell? _ _ (hpc 0 (by omega)))
  have HLN := Lib.hid (show (halfB b h).length = 32 from halfB_len (by rw [hb.1]; omega))
  clear hb hpc
  have HL := Lib.hid hl
  have HC := Lib.hid hc
  have yh : (h : Int) ≤ 100000 := by omega
  clear hl hc
  go_enter Tryd.func72, Tryd.ntmps72
  go_upto_region 0 with fail
  refine wp_region_lit ?_
  refine wpList_run (v := .pointer (some ⟨(w).heap.size, 0, none⟩)) (w' := (w).alloc (.cells (byteCells (List.replicate 12 0)) 95)) (wanted_none rfl) (gx_alloc rfl (zero_tag _)) ?_;simp only [zz];refine nR (.slice none 0 0) (gx_assign rfl rfl) ?_;simp only [zz]
  have hb_r := Blk.new (w) 95 (byteCells (List.replicate 12 0))
  have ht_ := (Turn.refl nowhere (w)).alloc (.cells (byteCells (List.replicate 12 0)) 95)
  obtain ⟨n0_, hn0_⟩ : ∃ n, n = (w).heap.size := ⟨_, rfl⟩
  have hz_r : (w).heap.size = n0_ + 0 := by rw [hn0_]; simp
  obtain ⟨r, hg_⟩ : ∃ g, g = (w).heap.size := ⟨_, rfl⟩
  rw [← hg_] at hb_r hz_r ⊢
  clear hg_
  generalize (w).alloc (.cells (byteCells (List.replicate 12 0)) 95) = w1 at *
  have HT1 := Lib.hid ht_
  clear ht_
  have HBr := Lib.hid hb_r
  have HLr := Lib.hid (show (w).heap.size ≤ r from by omega)
  clear hb_r
  clear hn0_ hz_r
  clear n0_
  go_upto_region 1 with fail
  refine wp_region_lit ?_
  refine nR (.slice (some ⟨p, off, none⟩) n c) (exec_move rfl rfl) ?_;simp only [zz];refine nR (.int .i64 (h : Int)) (exec_move rfl rfl) ?_;simp only [zz];refine nR (.int .i64 ((32 * h : Nat) : Int)) (ix_mul rfl rfl rfl (by omega) (by omega)) ?_;simp only [zz];refine nR (.int .i64 (h : Int)) (exec_move rfl rfl) ?_;simp only [zz];refine nR (.int .i64 ((h + 1 : Nat) : Int)) (ix_add rfl rfl rfl (by omega) (by omega)) ?_;simp only [zz];refine nR (.int .i64 ((32 * (h + 1) : Nat) : Int)) (ix_mul rfl rfl rfl (by omega) (by omega)) ?_;simp only [zz];refine nR (.int .i64 (h : Int)) (exec_move rfl rfl) ?_;simp only [zz];refine nR (.int .i64 ((h + 1 : Nat) : Int)) (ix_add rfl rfl rfl (by omega) (by omega)) ?_;simp only [zz];refine nR (.int .i64 ((32 * (h + 1) : Nat) : Int)) (ix_mul rfl rfl rfl (by omega) (by omega)) ?_;simp only [zz];refine nR (.slice (some ⟨p, off + 32 * h, none⟩) 32 32) ((sx_lhm (i := 32 * h) (j := 32 * (h + 1)) (m := 32 * (h + 1)) (by omega) (by omega) (by omega) (by have := HL.out; have := HC.out; omega) rfl rfl rfl rfl rfl).trans (by rw [show 32 * (h + 1) - 32 * h = 32 by omega])) ?_;simp only [zz];refine nR (.slice (some ⟨p, off + 32 * h, none⟩) 32 32) (gx_assign rfl rfl) ?_;simp only [zz]
  have HNpr := Lib.hid (show p ≠ r from by have := HPL.out; have := HLr.out; omega)
  have HR1 := Lib.hid (range_turn (bs_range (HH.out)) HT1.out (fun e => e))
  go_upto_region 2 with fail
  refine wp_region_alw (fun W => W.rangeAt p (off + 32 * h) (bcs (halfB b h)) ∧ ∃ cs, Blk W r 95 cs ∧ cs.size = 12) (by kernel_rfl) ?_
  have hS0 : (fun W => W.rangeAt p (off + 32 * h) (bcs (halfB b h)) ∧ ∃ cs, Blk W r 95 cs ∧ cs.size = 12) w1.drew := ⟨HR1.out, _, HBr.out.drew, rfl⟩
  have HD := Lib.hid ((Turn.refl nowhere w1).drew)
  generalize w1.drew = wd at *
  refine alw_take (i := 0) (v := .slice (some ⟨p, off + 32 * h, none⟩) 32 32) rfl (by kernel_rfl) (by kernel_rfl) (fun _ _ _ h => h) (.inl ⟨by rfl, fun W hW => exec_move rfl rfl⟩) hS0 ?_
  simp only [zz]
  refine alw_take (i := 1) (v := .slice (some ⟨p, off + 32 * h, none⟩) 12 32) rfl (by kernel_rfl) (by kernel_rfl) (fun _ _ _ h => h) (.inl ⟨by rfl, fun W hW => sx_h (n := 32) (c := 32) (j := 12) (by omega) rfl rfl rfl⟩) hS0 ?_
  simp only [zz]
  refine alw_take (i := 2) (v := .pointer (some ⟨p, off + 32 * h, none⟩)) rfl (by kernel_rfl) (by kernel_rfl) (fun _ _ _ h => h) (.inl ⟨by rfl, fun W hW => exec_tagAt rfl rfl⟩) hS0 ?_
  simp only [zz]
  refine alw_take (i := 3) (v := .agg (byteCells ((halfB b h).take 12))) rfl (by kernel_rfl) (by kernel_rfl) (fun _ _ _ h => h) (.inl ⟨by rfl, fun W hW => gx_loads rfl rfl (range_take12 hW.1) Tryd.underlying95 rfl (by rw [size_tag, List.length_map, List.length_take, HLN.out]; rfl)⟩) hS0 ?_
  simp only [zz]
  refine alw_take (i := 4) (v := .slice (some ⟨p, off + 32 * h, none⟩) 32 32) rfl (by kernel_rfl) (by kernel_rfl) (fun _ _ _ h => h) (.inl ⟨by rfl, fun W hW => exec_move rfl rfl⟩) hS0 ?_
  simp only [zz]
  refine alw_take (i := 5) (v := .slice (some ⟨p, off + 32 * h + 12, none⟩) 20 20) rfl (by kernel_rfl) (by kernel_rfl) (fun _ _ _ h => h) (.inl ⟨by rfl, fun W hW => sx_l (n := 32) (c := 32) (i := 12) (by omega) (by omega) rfl rfl rfl⟩) hS0 ?_
  simp only [zz]
  refine alw_step (i := 6) (by kernel_rfl) rfl rfl ?_
  intro K1 HK1
  obtain ⟨hsb, cs, hsr, hsz⟩ := hS0
  refine wp_store_rowU 95 (.tmp 4) (.tmp 19) rfl (byteCells ((halfB b h).take 12)) hsr rfl rfl (by rw [hsz, bc_size, List.length_take, HLN.out]; rfl) (by rw [size_tag, bc_size, List.length_take, HLN.out]; rfl) (bc_one _) ?_
  intro w2 hb2 ht2
  have hS1 : w2.rangeAt p (off + 32 * h) (bcs (halfB b h)) ∧ ∃ cs, Blk w2 r 95 cs ∧ cs.size = 12 := ⟨range_turn hsb ht2 (fun e => HNpr.out e), _, hb2, by rw [bc_size, List.length_take, HLN.out]; rfl⟩
  refine HK1.out _ _ ⟨hS1, ?_⟩
  clear HK1
  try simp only [zz]
  have HB2 := Lib.hid hb2
  have HT2 := Lib.hid ((HT1.out.trans HD.out fun _ _ e => e).trans ht2 fun k hk e => by have := HLr.out; have e : k = r := e; omega)
  clear hb2 ht2 hsb hsr hsz
  refine alw_take (i := 7) (v := .slice (some ⟨p, off + 32 * h + 12, none⟩) 20 20) rfl (by kernel_rfl) (by kernel_rfl) (fun _ _ _ h => h) (.inl ⟨by rfl, fun W hW => gx_assign rfl rfl⟩) hS1 ?_
  simp only [zz]
  refine alw_done rfl ?_
  refine NoPanic.normal ?_
  clear hS1
  try simp only [zz]
  go_wp2_with fail
  refine bodyPost_ret (v := .tuple #[.agg (byteCells ((halfB b h).take 12)), .slice (some ⟨p, off + 32 * h + 12, none⟩) 20 20]) (ret_cell2 rfl _ _ r 95 _ _ rfl rfl HB2.out Tryd.underlying95 rfl (by rw [size_tag, bc_size, List.length_take, HLN.out]; rfl)) rfl ?_
  refine ⟨_, rfl, ?_, HT2.out⟩
  have h20 := bs_sub (HH.out.still HT2.out) (i := 12) (k := 20) (by omega)
  rwa [List.take_of_length_le (by rw [List.length_drop, HLN.out]; omega)] at h20
set_option maxRecDepth 20000 in
set_option maxHeartbeats 4000000 in
theorem tst_walk (w : World) (t : B8) (ht : t.length = 12) : Calls Tryd.prog 73 #[.agg (byteCells t)] w fun r w' => r = .returned (.agg (stA (Wl.tst t))) ∧ Turn nowhere w w' := by
  have HLEN := Lib.hid ht
  clear ht
  go_enter Tryd.func73, Tryd.ntmps73
  go_upto_region 0 with fail
  refine wp_region_lit ?_
  refine wpList_run (v := .pointer (some ⟨(w).heap.size, 0, none⟩)) (w' := (w).alloc (.cells (byteCells t) 95)) (wanted_none rfl) (gx_box rfl rfl (box_tag t _)) ?_;simp only [zz];refine wpList_run (v := .pointer (some ⟨((w).alloc (.cells (byteCells t) 95)).heap.size, 0, none⟩)) (w' := ((w).alloc (.cells (byteCells t) 95)).alloc (.cells (stA ⟨0, 0, 0, 0⟩) 67)) (wanted_none rfl) (gx_alloc rfl (zero_st _)) ?_;simp only [zz]
  have hb_b := (Blk.new (w) 95 (byteCells t)).alloc (.cells (stA ⟨0, 0, 0, 0⟩) 67)
  have hb_r := Blk.new ((w).alloc (.cells (byteCells t) 95)) 67 (stA ⟨0, 0, 0, 0⟩)
  have ht_ := ((Turn.refl nowhere (w)).alloc (.cells (byteCells t) 95)).alloc (.cells (stA ⟨0, 0, 0, 0⟩) 67)
  obtain ⟨n0_, hn0_⟩ : ∃ n, n = (w).heap.size := ⟨_, rfl⟩
  have hz_b : (w).heap.size = n0_ + 0 := by rw [hn0_]; simp
  have hz_r : ((w).alloc (.cells (byteCells t) 95)).heap.size = n0_ + 1 := by rw [hn0_]; simp
  obtain ⟨r, hg_⟩ : ∃ g, g = ((w).alloc (.cells (byteCells t) 95)).heap.size := ⟨_, rfl⟩
  rw [← hg_] at hb_r hz_r ⊢
  clear hg_
  obtain ⟨b, hg_⟩ : ∃ g, g = (w).heap.size := ⟨_, rfl⟩
  rw [← hg_] at hb_b hz_b ⊢
  clear hg_
  generalize ((w).alloc (.cells (byteCells t) 95)).alloc (.cells (stA ⟨0, 0, 0, 0⟩) 67) = w1 at *
  have HT1 := Lib.hid ht_
  clear ht_
  have HBb := Lib.hid hb_b
  have HLb := Lib.hid (show (w).heap.size ≤ b from by omega)
  clear hb_b
  have HBr := Lib.hid hb_r
  have HLr := Lib.hid (show (w).heap.size ≤ r from by omega)
  clear hb_r
  have HNbr := Lib.hid (show b ≠ r from by omega)
  clear hn0_ hz_b hz_r
  clear n0_
  go_upto_region 1 with fail
  refine wp_region_alw (fun W => Blk W b 95 (byteCells t) ∧ ∃ cs, Blk W r 67 cs ∧ cs.size = 4) (by kernel_rfl) ?_
  have hS0 : (fun W => Blk W b 95 (byteCells t) ∧ ∃ cs, Blk W r 67 cs ∧ cs.size = 4) w1.drew := ⟨HBb.out.drew, _, HBr.out.drew, rfl⟩
  have HD := Lib.hid ((Turn.refl nowhere w1).drew)
  generalize w1.drew = wd at *
  refine alw_take (i := 0) (v := .slice (some ⟨b, 2, none⟩) 4 10) rfl (by kernel_rfl) (by kernel_rfl) (fun _ _ _ h => h) (.inl ⟨by rfl, fun W hW => st_lh (i := 2) (j := 6) (by omega) (by omega) (by omega) rfl rfl rfl rfl⟩) hS0 ?_
  simp only [zz]
  refine alw_take (i := 2) (v := .slice (some ⟨b, 6, none⟩) 4 6) rfl (by kernel_rfl) (by kernel_rfl) (fun _ _ _ h => h) (.inl ⟨by rfl, fun W hW => st_lh (i := 6) (j := 10) (by omega) (by omega) (by omega) rfl rfl rfl rfl⟩) hS0 ?_
  simp only [zz]
  refine alw_take (i := 4) (v := .pointer (some ⟨b, 0 + 1 * 1, none⟩)) rfl (by kernel_rfl) (by kernel_rfl) (fun _ _ _ h => h) (.inl ⟨by rfl, fun W hW => gx_aaddr (i := 1) (sz := 1) rfl rfl rfl Tryd.underlying95 size_u8 (by omega) rfl⟩) hS0 ?_
  simp only [zz]
  refine alw_take (i := 5) (v := .int .u8 ((t.getD 1 0).toNat : Int)) rfl (by kernel_rfl) (by kernel_rfl) (fun _ _ _ h => h) (.inl ⟨by rfl, fun W hW => exec_load1 rfl rfl (by kernel_rfl) ((hW.1.cell 1).trans (byteCells_at t 1 (by have := HLEN.out; omega)))⟩) hS0 ?_
  simp only [zz]
  refine alw_take (i := 6) (v := .int .i64 ((t.getD 1 0).toNat : Int)) rfl (by kernel_rfl) (by kernel_rfl) (fun _ _ _ h => h) (.inl ⟨by rfl, fun W hW => ix_b2i (t.getD 1 0).toNat_lt rfl rfl⟩) hS0 ?_
  simp only [zz]
  refine alw_take (i := 7) (v := .slice (some ⟨b, 10, none⟩) 2 2) rfl (by kernel_rfl) (by kernel_rfl) (fun _ _ _ h => h) (.inl ⟨by rfl, fun W hW => st_l (i := 10) (by omega) rfl rfl rfl⟩) hS0 ?_
  simp only [zz]
  refine alw_step (i := 1) (by kernel_rfl) rfl rfl ?_
  intro K1 HK1
  go_wp2_with fail
  refine (number_walk wd _ 4 _ ((t.drop 2).take 4) (blk_bs hS0.1 (by have := HLEN.out; omega) (by decide)) (by decide)).mono ?_
  rintro e wn1 ⟨rfl, ht⟩
  have hS1 := (show Blk wn1 b 95 (byteCells t) ∧ ∃ cs, Blk wn1 r 67 cs ∧ cs.size = 4 from ⟨hS0.1.turn ht (fun e => e), hS0.2.imp fun _ h => ⟨h.1.turn ht (fun e => e), h.2⟩⟩)
  have HQwn1 := Lib.hid ht
  refine HK1.out _ _ ⟨⟨hS0.1.turn ht (fun e => e), hS0.2.imp fun _ h => ⟨h.1.turn ht (fun e => e), h.2⟩⟩, ?_⟩
  clear HK1
  try simp only [zz]
  clear ht
  refine alw_step (i := 3) (by kernel_rfl) rfl rfl ?_
  intro K1 HK1
  go_wp2_with fail
  refine (number_walk wn1 _ 4 _ ((t.drop 6).take 4) (blk_bs hS1.1 (by have := HLEN.out; omega) (by decide)) (by decide)).mono ?_
  rintro e wn2 ⟨rfl, ht⟩
  have hS2 := (show Blk wn2 b 95 (byteCells t) ∧ ∃ cs, Blk wn2 r 67 cs ∧ cs.size = 4 from ⟨hS1.1.turn ht (fun e => e), hS1.2.imp fun _ h => ⟨h.1.turn ht (fun e => e), h.2⟩⟩)
  have HQwn2 := Lib.hid ht
  refine HK1.out _ _ ⟨⟨hS1.1.turn ht (fun e => e), hS1.2.imp fun _ h => ⟨h.1.turn ht (fun e => e), h.2⟩⟩, ?_⟩
  clear HK1
  try simp only [zz]
  clear ht
  refine alw_step (i := 8) (by kernel_rfl) rfl rfl ?_
  intro K1 HK1
  go_wp2_with fail
  refine (number_walk wn2 _ 2 _ ((t.drop 10).take 2) (blk_bs hS2.1 (by have := HLEN.out; omega) (by decide)) (by decide)).mono ?_
  rintro e wn3 ⟨rfl, ht⟩
  have hS3 := (show Blk wn3 b 95 (byteCells t) ∧ ∃ cs, Blk wn3 r 67 cs ∧ cs.size = 4 from ⟨hS2.1.turn ht (fun e => e), hS2.2.imp fun _ h => ⟨h.1.turn ht (fun e => e), h.2⟩⟩)
  have HQwn3 := Lib.hid ht
  refine HK1.out _ _ ⟨⟨hS2.1.turn ht (fun e => e), hS2.2.imp fun _ h => ⟨h.1.turn ht (fun e => e), h.2⟩⟩, ?_⟩
  clear HK1
  try simp only [zz]
  clear ht
  rw [show (t.drop 10).take 2 = t.drop 10 from List.take_of_length_le (by rw [List.length_drop]; have := HLEN.out; omega)]
  refine alw_take (i := 9) (v := .agg (stA (Wl.tst t))) rfl (by kernel_rfl) (by kernel_rfl) (fun _ _ _ h => h) (.inl ⟨by rfl, fun W hW => gx_build4 rfl rfl rfl rfl rfl (build_st _ _ _ _ _)⟩) hS3 ?_
  simp only [zz]
  refine alw_step (i := 10) (by kernel_rfl) rfl rfl ?_
  intro K1 HK1
  obtain ⟨hsb, cs, hsr, hsz⟩ := hS3
  refine wp_store_rowU 67 (.tmp 2) (.tmp 12) rfl (stA (Wl.tst t)) hsr rfl rfl (by rw [hsz]; rfl) (by rw [size_st]; rfl) (stA_one _) ?_
  intro w2 hb2 ht2
  refine HK1.out _ _ ⟨⟨hsb.turn (F := only r) ht2 (fun e => HNbr.out e), _, hb2, rfl⟩, ?_⟩
  clear HK1
  try simp only [zz]
  have HB2 := Lib.hid hb2
  have HT2 := Lib.hid (((((HT1.out.trans HD.out fun _ _ e => e).trans HQwn1.out fun _ _ e => e).trans HQwn2.out fun _ _ e => e).trans HQwn3.out fun _ _ e => e).trans ht2 fun k hk e => by have := HLr.out; have e : k = r := e; omega)
  clear hb2 ht2 hsb hsr hsz
  refine alw_done rfl ?_
  refine NoPanic.normal ?_
  clear hS0 hS1 hS2
  try simp only [zz]
  go_wp2_with fail
  refine bodyPost_ret (v := .agg (stA (Wl.tst t))) (ret_cell1 rfl _ _ r _ _ _ rfl HB2.out Tryd.underlying67 rfl (by rw [size_st] <;> rfl)) rfl ?_
  exact ⟨rfl, HT2.out⟩
theorem ix_u32i {a : Act} {o : Oper} {W : World} {x : Operand} {k : Nat} (ho : o.op = .convert 118 3 x) (hx : a.eval x = .int .u32 (k : Int)) (hk : k < 4294967296) : (execOp a.eval o).run Tryd.prog W = .ok (.value (.int .i64 (k : Int))) W := by
  unfold execOp
  simp only [ho, hx]
  go_simp
  rw [IntKind.wrap_i64]
  omega
set_option maxRecDepth 20000 in
set_option maxHeartbeats 4000000 in
theorem sumOf_walk (w : World) (A : Option Addr) (n c : Nat) (b : B8) (hb : Bs w A n b) (ht : Tab w) :
    Calls Tryd.prog 50 #[.slice A n c] w fun r w' => r = .returned (.int .i64 ((Crc.sumN b : Nat) : Int)) ∧ Turn nowhere w w' := by
  have HB := Lib.hid hb
  have HT := Lib.hid ht
  clear hb ht
  go_enter Tryd.func50, Tryd.ntmps50
  go_upto_region 0 with fail
  refine wp_region_lit ?_
  refine nR (.int .i64 0) (gx_assign rfl rfl) ?_;simp only [zz]
  go_upto_region 1 with fail
  refine wp_region_lit ?_
  refine nR (.slice A n c) (exec_move rfl rfl) ?_;simp only [zz]
  refine wpList_op rfl fun K9 HK9 => ?_
  go_wp2_with fail
  refine (sum_all A n c b w HB.out HT.out).mono ?_
  rintro e w ⟨rfl, rfl⟩
  refine HK9.out _ _ ?_
  clear HK9
  try simp only [zz]
  refine nR (.int .i64 ((Crc.sumN b : Nat) : Int)) (ix_u32i rfl rfl (Crc.sumN_lt b)) ?_;simp only [zz];refine nR (.int .i64 ((Crc.sumN b : Nat) : Int)) (gx_assign rfl rfl) ?_;simp only [zz]
  go_wp2_with fail
  go_ret
  exact ⟨rfl, Turn.refl _ _⟩
end Go.Proofs.YtelipeoilcepbaaDoor
namespace Go.Proofs.YtelipeoilcepbaaDoor
open Go.RowKit
open Wl (B8)
set_option linter.unusedVariables false
set_option linter.unusedSimpArgs false
set_option maxRecDepth 20000
theorem size_int : (Tryd.prog.info? 3).map (·.size) = some 1 := by kernel_rfl
def stB (b : B8) : Wl.Stamp := ⟨(Wl.tst ((halfB b 0).take 12)).age, (Wl.tst ((halfB b 0).take 12)).no, (Wl.tst ((halfB b 0).take 12)).cost, (Wl.tst ((halfB b 0).take 12)).sum * 65536 + (Wl.tst ((halfB b 1).take 12)).sum⟩
theorem tag_sz {t : B8} (h : t.length = 12) : (Tryd.prog.info? 95).map (·.size) = some (byteCells t).toList.length := by rw [size_tag, Array.length_toList, bc_size, h]
theorem exec_getFld {P : Program} {a : Act} {o : Oper} {t : TypeId} {x : Operand} {n : Nat} {u v : Value} {W : World} (ho : o.op = .field t x n) (hx : a.eval x = u) (h : (Instr.field t u n).run P W = .ok v W) : (execOp a.eval o).run P W = .ok (.value v) W := by
  unfold execOp
  simp only [ho, hx, h, Sem.run_bind, Sem.run_pure, Result.andThen_ok]
theorem fld_sum (s : Wl.Stamp) (W : World) : (Instr.field 67 (.agg (stA s)) 3).run Tryd.prog W = .ok (.int .i64 (s.sum : Int)) W := by
  unfold stA; kernel_rfl
theorem fld_age (s : Wl.Stamp) (W : World) : (Instr.field 67 (.agg (stA s)) 0).run Tryd.prog W = .ok (.int .i64 (s.age : Int)) W := by
  unfold stA; kernel_rfl
theorem tst_sum_lt {t : B8} (h : t.length = 12) : (Wl.tst t).sum < 65536 := Wl.num2_lt (by rw [List.length_drop]; omega)
theorem byteInfo : (Tryd.prog.info? 5).map (fun i => (i.zero, i.size, i.bytes)) = some (some (.int .u8 0), 1, 1) := by kernel_rfl
set_option maxRecDepth 20000 in
set_option maxHeartbeats 4000000 in
theorem stampOf_walk (w : World) (A : Option Addr) (n c : Nat) (b : B8) (hb : Bs w A n b) (hl : 64 ≤ n) (hc : n ≤ c) (hm : n ≤ 1000000) :
    Calls Tryd.prog 62 #[.slice A n c] w fun r w' => r = .returned (.agg (stA (stB b))) ∧ Turn nowhere w w' := by
  have HB := Lib.hid hb
  have HL := Lib.hid hl
  have HC := Lib.hid hc
  have HM := Lib.hid hm
  have HT0 := Lib.hid (half_tag_len (b := b) (h := 0) (by rw [hb.1]; omega))
  have HT1 := Lib.hid (half_tag_len (b := b) (h := 1) (by rw [hb.1]; omega))
  have HS0 := Lib.hid (tst_sum_lt HT0.out)
  have HS1 := Lib.hid (tst_sum_lt HT1.out)
  have HSB := Lib.hid (show stB b = ⟨(Wl.tst ((halfB b 0).take 12)).age, (Wl.tst ((halfB b 0).take 12)).no, (Wl.tst ((halfB b 0).take 12)).cost, (Wl.tst ((halfB b 0).take 12)).sum * 65536 + (Wl.tst ((halfB b 1).take 12)).sum⟩ from rfl)
  clear hb hl hc hm
  obtain ⟨t0, ht0⟩ : ∃ t, t = (halfB b 0).take 12 := ⟨_, rfl⟩
  obtain ⟨t1, ht1⟩ : ∃ t, t = (halfB b 1).take 12 := ⟨_, rfl⟩
  rw [← ht0] at HT0 HS0 HSB
  rw [← ht1] at HT1 HS1 HSB
  have H0 := Lib.hid ht0
  have H1 := Lib.hid ht1
  clear ht0 ht1
  generalize stB b = sb at *
  go_enter Tryd.func62, Tryd.ntmps62
  go_upto_region 0 with fail
  refine wp_region_lit ?_
  refine wpList_run (v := .pointer (some ⟨(w).heap.size, 0, none⟩)) (w' := (w).alloc (.cells (stA ⟨0, 0, 0, 0⟩) 67)) (wanted_none rfl) (gx_alloc rfl (zero_st _)) ?_;simp only [zz]
  have hb_r := Blk.new (w) 67 (stA ⟨0, 0, 0, 0⟩)
  have ht_ := (Turn.refl nowhere (w)).alloc (.cells (stA ⟨0, 0, 0, 0⟩) 67)
  obtain ⟨n0_, hn0_⟩ : ∃ n, n = (w).heap.size := ⟨_, rfl⟩
  have hz_r : (w).heap.size = n0_ + 0 := by rw [hn0_]; simp
  obtain ⟨r, hg_⟩ : ∃ g, g = (w).heap.size := ⟨_, rfl⟩
  rw [← hg_] at hb_r hz_r ⊢
  clear hg_
  generalize (w).alloc (.cells (stA ⟨0, 0, 0, 0⟩) 67) = w1 at *
  have HW1 := Lib.hid ht_
  clear ht_
  have HBr := Lib.hid hb_r
  have HLr := Lib.hid (show (w).heap.size ≤ r from by omega)
  clear hb_r
  clear hn0_ hz_r
  clear n0_
  go_upto_region 1 with fail
  refine wp_region_lit ?_
  refine nR (.slice A n c) (exec_move rfl rfl) ?_;simp only [zz]
  refine wpList_op rfl fun K9 HK9 => ?_
  go_wp2_with fail
  refine (cutB_walk w1 A n c b 0 (HB.out.still HW1.out) (by have := HL.out; omega) HC.out HM.out).mono ?_
  rintro e w2 ⟨A1, rfl, -, ht⟩
  refine HK9.out _ _ ?_
  clear HK9
  try simp only [zz]
  have HW2 := Lib.hid (HW1.out.trans ht fun _ _ e => e)
  have HBr2 := Lib.hid (HBr.out.turn ht fun e => e)
  rw [← H0.out]
  clear ht
  refine nR (.tuple #[.agg (byteCells t0), .slice A1 20 20]) (exec_move rfl rfl) ?_;simp only [zz];refine nR (.agg (byteCells t0)) (ix_extract rfl rfl rfl) ?_;simp only [zz];refine nR (.slice A1 20 20) (ix_extract rfl rfl rfl) ?_;simp only [zz];refine wpList_run (v := .pointer (some ⟨w2.heap.size, 0, none⟩)) (w' := w2.alloc (.cells (byteCells (List.replicate 12 0)) 95)) (wanted_none rfl) (gx_alloc rfl (zero_tag _)) ?_;simp only [zz]
  have hb_ := Blk.new w2 95 (byteCells (List.replicate 12 0))
  have ht_ := (Turn.refl nowhere w2).alloc (.cells (byteCells (List.replicate 12 0)) 95)
  obtain ⟨p, hg_⟩ : ∃ g, g = w2.heap.size := ⟨_, rfl⟩
  rw [← hg_] at hb_ ⊢
  have HLp := Lib.hid (show w2.heap.size ≤ p from by omega)
  clear hg_
  generalize w2.alloc (.cells (byteCells (List.replicate 12 0)) 95) = w3 at *
  have HBp := Lib.hid hb_
  have HW3 := Lib.hid ht_
  clear hb_ ht_
  refine wpList_store_row (wanted_none rfl) 95 (.tmp 3) (.tmp 11) rfl (byteCells t0) HBp.out rfl rfl (by rw [bc_size, bc_size, HT0.out]; rfl) (by rw [size_tag, bc_size, HT0.out]) (bc_one _) ?_
  intro w4 hb_ ht_
  have HBp4 := Lib.hid hb_
  have HW4 := Lib.hid ht_
  clear hb_ ht_
  simp only [zz]
  have HW24 := Lib.hid (HW3.out.trans HW4.out fun k hk e => by have := HLp.out; have e : k = p := e; omega)
  have HW4w := Lib.hid (HW2.out.trans HW24.out fun _ _ e => e)
  have HBr4 := Lib.hid (HBr2.out.turn HW24.out fun e => e)
  clear HW3 HW4 HW24 HW2 HBr2 HBp HW1 HBr
  refine nR (.slice A1 20 20) (gx_assign rfl rfl) ?_;simp only [zz]
  go_upto_region 2 with fail
  refine wp_region_lit ?_
  refine nR (.slice A n c) (exec_move rfl rfl) ?_;simp only [zz]
  refine wpList_op rfl fun K9 HK9 => ?_
  go_wp2_with fail
  refine (cutB_walk w4 A n c b 1 (HB.out.still HW4w.out) (by have := HL.out; omega) HC.out HM.out).mono ?_
  rintro e w5 ⟨A5, rfl, -, ht⟩
  refine HK9.out _ _ ?_
  clear HK9
  try simp only [zz]
  have HW5 := Lib.hid (HW4w.out.trans ht fun _ _ e => e)
  have HBr5 := Lib.hid (HBr4.out.turn ht fun e => e)
  have HBp5 := Lib.hid (HBp4.out.turn ht fun e => e)
  rw [← H1.out]
  clear ht HW4w HBr4 HBp4
  refine nR (.tuple #[.agg (byteCells t1), .slice A5 20 20]) (exec_move rfl rfl) ?_;simp only [zz];refine nR (.agg (byteCells t1)) (ix_extract rfl rfl rfl) ?_;simp only [zz];refine nR (.slice A5 20 20) (ix_extract rfl rfl rfl) ?_;simp only [zz];refine wpList_run (v := .pointer (some ⟨w5.heap.size, 0, none⟩)) (w' := w5.alloc (.cells (byteCells (List.replicate 12 0)) 95)) (wanted_none rfl) (gx_alloc rfl (zero_tag _)) ?_;simp only [zz]
  have hb_ := Blk.new w5 95 (byteCells (List.replicate 12 0))
  have ht_ := (Turn.refl nowhere w5).alloc (.cells (byteCells (List.replicate 12 0)) 95)
  obtain ⟨q, hg_⟩ : ∃ g, g = w5.heap.size := ⟨_, rfl⟩
  rw [← hg_] at hb_ ⊢
  have HLq := Lib.hid (show w5.heap.size ≤ q from by omega)
  clear hg_
  generalize w5.alloc (.cells (byteCells (List.replicate 12 0)) 95) = w6 at *
  have HBq := Lib.hid hb_
  have HW6 := Lib.hid ht_
  clear hb_ ht_
  refine wpList_store_row (wanted_none rfl) 95 (.tmp 5) (.tmp 16) rfl (byteCells t1) HBq.out rfl rfl (by rw [bc_size, bc_size, HT1.out]; rfl) (by rw [size_tag, bc_size, HT1.out]) (bc_one _) ?_
  intro w7 hb_ ht_
  have HBq7 := Lib.hid hb_
  have HW7 := Lib.hid ht_
  clear hb_ ht_
  simp only [zz]
  have HW57 := Lib.hid (HW6.out.trans HW7.out fun k hk e => by have := HLq.out; have e : k = q := e; omega)
  have HW7w := Lib.hid (HW5.out.trans HW57.out fun _ _ e => e)
  have HBr7 := Lib.hid (HBr5.out.turn HW57.out fun e => e)
  have HBp7 := Lib.hid (HBp5.out.turn HW57.out fun e => e)
  clear HW6 HW7 HW57 HW5 HBr5 HBp5 HBq
  refine nR (.slice A5 20 20) (gx_assign rfl rfl) ?_;simp only [zz]
  go_upto_region 3 with fail
  refine wp_region_lit ?_
  refine nR (.agg (byteCells t0)) (gx_loads rfl rfl (blk_range HBp7.out) Tryd.underlying95 rfl (tag_sz HT0.out)) ?_;simp only [zz]
  refine wpList_op rfl fun K9 HK9 => ?_
  go_wp2_with fail
  refine (tst_walk w7 t0 HT0.out).mono ?_
  rintro e w8 ⟨rfl, ht⟩
  refine HK9.out _ _ ?_
  clear HK9
  try simp only [zz]
  have HW8 := Lib.hid (HW7w.out.trans ht fun _ _ e => e)
  have HBr8 := Lib.hid (HBr7.out.turn ht fun e => e)
  have HBq8 := Lib.hid (HBq7.out.turn ht fun e => e)
  clear ht HW7w HBr7 HBq7
  refine wpList_run (v := .pointer (some ⟨w8.heap.size, 0, none⟩)) (w' := w8.alloc (.cells (stA ⟨0, 0, 0, 0⟩) 67)) (wanted_none rfl) (gx_alloc rfl (zero_st _)) ?_;simp only [zz]
  have hb_ := Blk.new w8 67 (stA ⟨0, 0, 0, 0⟩)
  have ht_ := (Turn.refl nowhere w8).alloc (.cells (stA ⟨0, 0, 0, 0⟩) 67)
  obtain ⟨s, hg_⟩ : ∃ g, g = w8.heap.size := ⟨_, rfl⟩
  rw [← hg_] at hb_ ⊢
  have HLs := Lib.hid (show w8.heap.size ≤ s from by omega)
  clear hg_
  generalize w8.alloc (.cells (stA ⟨0, 0, 0, 0⟩) 67) = w9 at *
  have HBs := Lib.hid hb_
  have HW9 := Lib.hid ht_
  clear hb_ ht_
  refine wpList_store_row (wanted_none rfl) 67 (.tmp 7) (.tmp 19) rfl (stA (Wl.tst t0)) HBs.out rfl rfl (rfl) (by rw [size_st] <;> rfl) (stA_one _) ?_
  intro wa hb_ ht_
  have HBsa := Lib.hid hb_
  have HWa := Lib.hid ht_
  clear hb_ ht_
  simp only [zz]
  have HW8a := Lib.hid (HW9.out.trans HWa.out fun k hk e => by have := HLs.out; have e : k = s := e; omega)
  have HWaw := Lib.hid (HW8.out.trans HW8a.out fun _ _ e => e)
  have HBra := Lib.hid (HBr8.out.turn HW8a.out fun e => e)
  have HBqa := Lib.hid (HBq8.out.turn HW8a.out fun e => e)
  have HNrs := Lib.hid (show r ≠ s from by have := HBr8.out.lt; have := HLs.out; omega)
  have HLsw := Lib.hid (show w.heap.size ≤ s from by have := HLs.out; have := HW8.out.size; omega)
  clear HW9 HWa HW8a HW8 HBr8 HBq8 HBs
  go_upto_region 4 with fail
  refine wp_region_till (fun W => Blk W q 95 (byteCells t1) ∧ Blk W s 67 (stA (Wl.tst t0))) 7 (by kernel_rfl) ?_
  have hS0 : (fun W => Blk W q 95 (byteCells t1) ∧ Blk W s 67 (stA (Wl.tst t0))) wa.drew := ⟨HBqa.out.drew, HBsa.out.drew⟩
  have HD := Lib.hid ((Turn.refl nowhere wa).drew)
  generalize wa.drew = wd at *
  refine till_take (i := 0) (v := .pointer (some ⟨s, 3, none⟩)) rfl (by kernel_rfl) (by kernel_rfl) (fun _ _ _ h => h) (.inl ⟨by rfl, fun W hW => exec_field (off := 0) (d := 3) rfl rfl (by kernel_rfl)⟩) hS0 ?_
  simp only [zz]
  refine till_take (i := 1) (v := .int .i64 ((Wl.tst t0).sum : Int)) rfl (by kernel_rfl) (by kernel_rfl) (fun _ _ _ h => h) (.inl ⟨by rfl, fun W hW => exec_load1 rfl rfl (by kernel_rfl) (hW.2.cell 3)⟩) hS0 ?_
  simp only [zz]
  refine till_take (i := 2) (v := .int .i64 ((65536 * (Wl.tst t0).sum : Nat) : Int)) rfl (by kernel_rfl) (by kernel_rfl) (fun _ _ _ h => h) (.inl ⟨by rfl, fun W hW => wx_shl16 rfl rfl HS0.out⟩) hS0 ?_
  simp only [zz]
  refine till_take (i := 3) (v := .agg (byteCells t1)) rfl (by kernel_rfl) (by kernel_rfl) (fun _ _ _ h => h) (.inl ⟨by rfl, fun W hW => gx_loads rfl rfl (blk_range hW.1) Tryd.underlying95 rfl (tag_sz HT1.out)⟩) hS0 ?_
  simp only [zz]
  refine till_step (i := 4) (by kernel_rfl) rfl rfl ?_
  intro K1 HK1
  go_wp2_with fail
  refine (tst_walk wd t1 HT1.out).mono ?_
  rintro e wb ⟨rfl, ht⟩
  have hS1 : (fun W => Blk W q 95 (byteCells t1) ∧ Blk W s 67 (stA (Wl.tst t0))) wb := ⟨hS0.1.turn ht fun e => e, hS0.2.turn ht fun e => e⟩
  have HBsb := Lib.hid hS1.2
  have HBrb := Lib.hid ((HBra.out.turn HD.out fun e => e).turn ht fun e => e)
  have HWbw := Lib.hid ((HWaw.out.trans HD.out fun _ _ e => e).trans ht fun _ _ e => e)
  refine HK1.out _ _ ⟨fun _ => hS1, ?_⟩
  clear HK1 ht hS0 HBra HWaw HD
  try simp only [zz]
  refine till_take (i := 5) (v := .int .i64 ((Wl.tst t1).sum : Int)) rfl (by kernel_rfl) (by kernel_rfl) (fun _ _ _ h => h) (.inl ⟨by rfl, fun W hW => exec_getFld rfl rfl (fld_sum _ _)⟩) hS1 ?_
  simp only [zz]
  refine till_take (i := 6) (v := .int .i64 ((sb.sum : Nat) : Int)) rfl (by kernel_rfl) (by kernel_rfl) (fun _ _ _ h => h) (.inl ⟨by rfl, fun W hW => wx_or16 rfl rfl rfl HS0.out HS1.out (by rw [HSB.out])⟩) hS1 ?_
  simp only [zz]
  refine till_tail 7 rfl (by kernel_rfl) ?_
  clear hS1
  refine nR (.pointer (some ⟨s, 3, none⟩)) (exec_field (off := 0) (d := 3) rfl rfl (by kernel_rfl)) ?_;simp only [zz]
  refine wpList_storeU 3 (.int .i64 ((sb.sum : Nat) : Int)) (wanted_none rfl) 3 (.tmp 27) (.tmp 26) rfl HBsb.out rfl rfl (by show 3 < 4; decide) ⟨rfl, rfl⟩ size_int ?_
  intro wc hb ht
  have HBsc := Lib.hid (show Blk wc s 67 (stA sb) from by rw [HSB.out] at hb ⊢; exact hb)
  have HBrc := Lib.hid (HBrb.out.turn (F := only s) ht fun e => HNrs.out e)
  have HWcw := Lib.hid (HWbw.out.trans ht fun k hk e => by have := HLsw.out; have e : k = s := e; omega)
  clear hb ht
  simp only [zz]
  refine wpList_nil ?_
  refine NoPanic.normal ?_
  try simp only [zz]
  go_upto_region 5 with fail
  refine wp_region_lit ?_
  refine nR (.agg (stA sb)) (gx_loads rfl rfl (blk_range HBsc.out) Tryd.underlying67 rfl (by rw [size_st]; rfl)) ?_;simp only [zz]
  refine wpList_store_row (wanted_none rfl) 67 (.tmp 2) (.tmp 28) rfl (stA sb) HBrc.out rfl rfl (rfl) (by rw [size_st] <;> rfl) (stA_one _) ?_
  intro we hb_ ht_
  have HBre := Lib.hid hb_
  have HWe := Lib.hid ht_
  clear hb_ ht_
  simp only [zz]
  go_wp2_with fail
  refine bodyPost_ret (v := .agg (stA sb)) (ret_cell1 rfl _ _ r _ _ _ rfl HBre.out Tryd.underlying67 rfl (by rw [size_st] <;> rfl)) rfl ?_
  exact ⟨rfl, HWcw.out.trans HWe.out fun k hk e => by have := HLr.out; have e : k = r := e; omega⟩
end Go.Proofs.YtelipeoilcepbaaDoor
