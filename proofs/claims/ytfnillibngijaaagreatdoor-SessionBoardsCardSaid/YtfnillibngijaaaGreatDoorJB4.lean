/-
  Texts in one file: ShC. Conditions: the tables and the errors read as the program's text lays them.
-/
import Derived.Test.YtfnillibngijaaaGreatDoorJB3
namespace Go.Proofs.YtfnillibngijaaaGreatDoor
open Go.RowKit
open Sh (Wd B8 H8)
set_option linter.unusedVariables false
set_option linter.unusedSimpArgs false
set_option maxRecDepth 20000
def wz (p : B8) (t : Nat) : List Wd := Sh.wl p t ++ List.replicate (64 - t) 0
theorem wz_len (p : B8) {t : Nat} (h : t ≤ 64) : (wz p t).length = 64 := by rw [wz, List.length_append, Sh.wl_len, List.length_replicate]; omega
theorem wz_get (p : B8) {j t : Nat} (h : j < t) : (wz p t).getD j 0 = (Sh.wl p t).getD j 0 := by
  rw [wz, List.getD_eq_getElem?_getD, List.getElem?_append_left (by rw [Sh.wl_len]; omega), ← List.getD_eq_getElem?_getD]
theorem wz_set (p : B8) {t : Nat} (h : t < 64) : (wz p t).set t (Sh.nxt p (Sh.wl p t) t) = wz p (t + 1) := by
  rw [wz, set_mid (Sh.wl_len p t) _ (by intro e; have e1 := congrArg List.length e; rw [List.length_replicate] at e1; simp at e1; omega), wz, Sh.wl]
  congr 1
  rw [List.tail_replicate, show 64 - t - 1 = 64 - (t + 1) from by omega]
theorem wz_full (p : B8) : wz p 64 = Sh.wl p 64 := by rw [wz, Nat.sub_self, List.replicate_zero, List.append_nil]
theorem nxt_lo (p : B8) (l : List Wd) {t : Nat} (h : t < 16) : Sh.nxt p l t = Sh.wide (p.getD (4 * t) 0) <<< 24 ||| Sh.wide (p.getD (4 * t + 1) 0) <<< 16 ||| Sh.wide (p.getD (4 * t + 2) 0) <<< 8 ||| Sh.wide (p.getD (4 * t + 3) 0) := if_pos h
theorem nxt_hi (p : B8) (l : List Wd) {t : Nat} (h : 16 ≤ t) : Sh.nxt p l t = Sh.s1 (l.getD (t - 2) 0) + l.getD (t - 7) 0 + Sh.s0 (l.getD (t - 15) 0) + l.getD (t - 16) 0 := if_neg (by omega)
set_option maxRecDepth 20000 in
set_option maxHeartbeats 4000000 in
theorem spread_walk (p : B8) (w : World) (hp : p.length = 64) : Calls Tryz.prog 55 #[.agg (byteCells p)] w fun e w' => e = .returned (.agg (wds (Sh.wl p 64))) ∧ Turn nowhere w w' := by
  have HP := Lib.hid hp
  have HZ := Lib.hid (show (wds (Sh.wl p 64)).size = 64 from by rw [wds_size, Sh.wl_len])
  clear hp
  obtain ⟨L, hL⟩ : ∃ L, Sh.wl p 64 = L := ⟨_, rfl⟩
  rw [hL] at HZ ⊢
  have HL := Lib.hid hL
  clear hL
  go_enter Tryz.func55, Tryz.ntmps55
  go_upto_region 0 with fail
  refine wp_region_lit ?_
  refine wpList_run (v := .pointer (some ⟨(w).heap.size, 0, none⟩)) (w' := (w).alloc (.cells (byteCells p) 85)) (wanted_none rfl) (gx_box rfl rfl (box_pc p _)) ?_
  simp only [Act.put, List.setIfInBounds_toArray, List.set_cons_zero, List.set_cons_succ]
  refine wpList_run (v := .pointer (some ⟨((w).alloc (.cells (byteCells p) 85)).heap.size, 0, none⟩)) (w' := ((w).alloc (.cells (byteCells p) 85)).alloc (.cells (wds (List.replicate 64 0)) 119)) (wanted_none rfl) (gx_alloc rfl (zero_u64 _)) ?_
  simp only [Act.put, List.setIfInBounds_toArray, List.set_cons_zero, List.set_cons_succ]
  have hb_q := (Blk.new (w) 85 (byteCells p)).alloc (.cells (wds (List.replicate 64 0)) 119)
  have hb_r := Blk.new ((w).alloc (.cells (byteCells p) 85)) 119 (wds (List.replicate 64 0))
  have ht_ := ((Turn.refl nowhere (w)).alloc (.cells (byteCells p) 85)).alloc (.cells (wds (List.replicate 64 0)) 119)
  obtain ⟨n0_, hn0_⟩ : ∃ n, n = (w).heap.size := ⟨_, rfl⟩
  have hz_q : (w).heap.size = n0_ + 0 := by rw [hn0_]; simp
  have hz_r : ((w).alloc (.cells (byteCells p) 85)).heap.size = n0_ + 1 := by rw [hn0_]; simp
  obtain ⟨r, hg_⟩ : ∃ g, g = ((w).alloc (.cells (byteCells p) 85)).heap.size := ⟨_, rfl⟩
  rw [← hg_] at hb_r hz_r ⊢
  clear hg_
  obtain ⟨q, hg_⟩ : ∃ g, g = (w).heap.size := ⟨_, rfl⟩
  rw [← hg_] at hb_q hz_q ⊢
  clear hg_
  generalize ((w).alloc (.cells (byteCells p) 85)).alloc (.cells (wds (List.replicate 64 0)) 119) = w1 at *
  have HT1 := Lib.hid ht_
  clear ht_
  have HBq := Lib.hid hb_q
  have HLq := Lib.hid (show (w).heap.size ≤ q from by omega)
  clear hb_q
  have HBr := Lib.hid hb_r
  have HLr := Lib.hid (show (w).heap.size ≤ r from by omega)
  clear hb_r
  have HNqr := Lib.hid (show q ≠ r from by omega)
  clear hn0_ hz_q hz_r
  clear n0_
  go_upto_region 1 with fail
  refine wp_region_lit ?_
  refine wpList_run (v := .pointer (some ⟨(w1).heap.size, 0, none⟩)) (w' := (w1).alloc (.cells (wds (List.replicate 64 0)) 119)) (wanted_none rfl) (gx_alloc rfl (zero_u64 _)) ?_
  simp only [Act.put, List.setIfInBounds_toArray, List.set_cons_zero, List.set_cons_succ]
  have hb_s := Blk.new (w1) 119 (wds (List.replicate 64 0))
  have ht_ := (Turn.refl nowhere (w1)).alloc (.cells (wds (List.replicate 64 0)) 119)
  obtain ⟨n0_, hn0_⟩ : ∃ n, n = (w1).heap.size := ⟨_, rfl⟩
  have hz_s : (w1).heap.size = n0_ + 0 := by rw [hn0_]; simp
  obtain ⟨s, hg_⟩ : ∃ g, g = (w1).heap.size := ⟨_, rfl⟩
  rw [← hg_] at hb_s hz_s ⊢
  clear hg_
  generalize (w1).alloc (.cells (wds (List.replicate 64 0)) 119) = w2 at *
  have HT2 := Lib.hid ht_
  clear ht_
  have HBs := Lib.hid hb_s
  have HLs := Lib.hid (show (w1).heap.size ≤ s from by omega)
  clear hb_s
  clear hn0_ hz_s
  clear n0_
  have HBq2 := Lib.hid (HBq.out.turn HT2.out fun e => e)
  have HBr2 := Lib.hid (HBr.out.turn HT2.out fun e => e)
  have HT12 := Lib.hid (HT1.out.trans HT2.out fun _ _ e => e)
  have HLs2 := Lib.hid (show w.heap.size ≤ s from Nat.le_trans HT1.out.size HLs.out)
  have HNrs := Lib.hid (show r ≠ s from by have := HBr.out.lt; have := HLs.out; omega)
  have HNqs := Lib.hid (show q ≠ s from by have := HBq.out.lt; have := HLs.out; omega)
  clear HBq HBr HT1 HT2 HLs
  go_upto_region 2 with fail
  refine wp_region_lit ?_
  refine wpList_run (v := .int .i64 0) (wanted_none rfl) (exec_move rfl rfl) ?_
  simp only [Act.put, List.setIfInBounds_toArray, List.set_cons_zero, List.set_cons_succ]
  go_wp2_with fail
  go_loopg [10] 16 (fun gk iv wr => ∃ i : Nat, iv = .int .i64 (i : Int) ∧ i + gk = 16 ∧ Blk wr s 119 (wds (wz p i)) ∧ Blk wr q 85 (byteCells p) ∧ Blk wr r 119 (wds (List.replicate 64 0)) ∧ Turn nowhere w wr)
  case atStart => exact ⟨0, rfl, rfl, HBs.out, HBq2.out, HBr2.out, HT12.out⟩
  obtain ⟨i, rfl, hgk, hbs, hbq, hbr, htr⟩ := hrel
  have yi : (i : Int) ≤ 16 := by omega
  have HGK := Lib.hid hgk
  have HBS := Lib.hid hbs
  have HBQ := Lib.hid hbq
  have HBR := Lib.hid hbr
  have HTR := Lib.hid htr
  clear hgk hbs hbq hbr htr
  by_cases hlt : i < 16
  · have HLT := Lib.hid hlt
    have y3 : (i : Int) < 16 := by omega
    have HLT64 := Lib.hid (show i < 64 from by omega)
    have HX := Lib.hid (nxt_lo p (Sh.wl p i) hlt)
    clear hlt
    go_upto_region 3 with fail
    refine wp_region_lit ?_
    refine wpList_run (v := .bool true) (wanted_none rfl) (ix_lss rfl rfl rfl (decide_eq_true y3)) ?_
    simp only [Act.put, List.setIfInBounds_toArray, List.set_cons_zero, List.set_cons_succ]
    go_upto_region 4 with fail
    refine wp_region_lit ?_
    refine wpList_run (v := .int .i64 (i : Int)) (wanted_none rfl) (exec_move rfl rfl) ?_
    simp only [Act.put, List.setIfInBounds_toArray, List.set_cons_zero, List.set_cons_succ]
    refine wpList_run (v := .int .i64 (i : Int)) (wanted_none rfl) (gx_assign rfl rfl) ?_
    simp only [Act.put, List.setIfInBounds_toArray, List.set_cons_zero, List.set_cons_succ]
    go_upto_region 5 with fail
    refine wp_region_alw (fun W => Blk W q 85 (byteCells p)) (by kernel_rfl) ?_
    have hS0 : (fun W => Blk W q 85 (byteCells p)) wr.drew := HBQ.out.drew
    have HD := Lib.hid ((Turn.refl nowhere wr).drew)
    generalize wr.drew = wd at *
    have HBSD := Lib.hid (HBS.out.turn HD.out fun e => e)
    have HBRD := Lib.hid (HBR.out.turn HD.out fun e => e)
    have HTRD := Lib.hid (HTR.out.trans HD.out fun _ _ e => e)
    clear HBS HBR HTR
    refine alw_take (i := 0) (v := .int .i64 (i : Int)) rfl (by kernel_rfl) (by kernel_rfl) (fun _ _ _ h => h) (.inl ⟨by rfl, fun W hW => exec_move rfl rfl⟩) hS0 ?_
    simp only [Act.put, List.setIfInBounds_toArray, List.set_cons_zero, List.set_cons_succ]
    refine alw_take (i := 1) (v := .int .i64 (i : Int)) rfl (by kernel_rfl) (by kernel_rfl) (fun _ _ _ h => h) (.inl ⟨by rfl, fun W hW => exec_move rfl rfl⟩) hS0 ?_
    simp only [Act.put, List.setIfInBounds_toArray, List.set_cons_zero, List.set_cons_succ]
    refine alw_take (i := 2) (v := .int .i64 ((4 * i : Nat) : Int)) rfl (by kernel_rfl) (by kernel_rfl) (fun _ _ _ h => h) (.inl ⟨by rfl, fun W hW => ix_mul rfl rfl rfl (by omega) ⟨by omega, by omega⟩⟩) hS0 ?_
    simp only [Act.put, List.setIfInBounds_toArray, List.set_cons_zero, List.set_cons_succ]
    refine alw_take (i := 3) (v := .pointer (some ⟨q, 0 + (4 * i) * 1, none⟩)) rfl (by kernel_rfl) (by kernel_rfl) (fun _ _ _ h => h) (.inl ⟨by rfl, fun W hW => gx_aaddr_g (i := 4 * i) (sz := 1) rfl rfl rfl Tryz.underlying85 size_u8 (by have := HLT.out; omega) rfl⟩) hS0 ?_
    simp only [Act.put, List.setIfInBounds_toArray, List.set_cons_zero, List.set_cons_succ]
    refine alw_take (i := 4) (v := .int .u8 ((p.getD (4 * i) 0).toNat : Int)) rfl (by kernel_rfl) (by kernel_rfl) (fun _ _ _ h => h) (.inl ⟨by rfl, fun W hW => exec_load1 rfl rfl (by kernel_rfl) (ld_b hW (by rw [HP.out]; have := HLT.out; omega))⟩) hS0 ?_
    simp only [Act.put, List.setIfInBounds_toArray, List.set_cons_zero, List.set_cons_succ]
    refine alw_take (i := 5) (v := .int .u32 ((Sh.wide (p.getD (4 * i) 0)).toNat : Int)) rfl (by kernel_rfl) (by kernel_rfl) (fun _ _ _ h => h) (.inl ⟨by rfl, fun W hW => wd_wide rfl rfl⟩) hS0 ?_
    simp only [Act.put, List.setIfInBounds_toArray, List.set_cons_zero, List.set_cons_succ]
    refine alw_take (i := 6) (v := .int .u32 (((Sh.wide (p.getD (4 * i) 0)) <<< 24).toNat : Int)) rfl (by kernel_rfl) (by kernel_rfl) (fun _ _ _ h => h) (.inl ⟨by rfl, fun W hW => wd_shlc (s := 24) rfl rfl rfl (by decide)⟩) hS0 ?_
    simp only [Act.put, List.setIfInBounds_toArray, List.set_cons_zero, List.set_cons_succ]
    refine alw_take (i := 7) (v := .int .i64 (i : Int)) rfl (by kernel_rfl) (by kernel_rfl) (fun _ _ _ h => h) (.inl ⟨by rfl, fun W hW => exec_move rfl rfl⟩) hS0 ?_
    simp only [Act.put, List.setIfInBounds_toArray, List.set_cons_zero, List.set_cons_succ]
    refine alw_take (i := 8) (v := .int .i64 ((4 * i : Nat) : Int)) rfl (by kernel_rfl) (by kernel_rfl) (fun _ _ _ h => h) (.inl ⟨by rfl, fun W hW => ix_mul rfl rfl rfl (by omega) ⟨by omega, by omega⟩⟩) hS0 ?_
    simp only [Act.put, List.setIfInBounds_toArray, List.set_cons_zero, List.set_cons_succ]
    refine alw_take (i := 9) (v := .int .i64 ((4 * i + 1 : Nat) : Int)) rfl (by kernel_rfl) (by kernel_rfl) (fun _ _ _ h => h) (.inl ⟨by rfl, fun W hW => ix_add rfl rfl rfl (by omega) ⟨by omega, by omega⟩⟩) hS0 ?_
    simp only [Act.put, List.setIfInBounds_toArray, List.set_cons_zero, List.set_cons_succ]
    refine alw_take (i := 10) (v := .pointer (some ⟨q, 0 + (4 * i + 1) * 1, none⟩)) rfl (by kernel_rfl) (by kernel_rfl) (fun _ _ _ h => h) (.inl ⟨by rfl, fun W hW => gx_aaddr_g (i := 4 * i + 1) (sz := 1) rfl rfl rfl Tryz.underlying85 size_u8 (by have := HLT.out; omega) rfl⟩) hS0 ?_
    simp only [Act.put, List.setIfInBounds_toArray, List.set_cons_zero, List.set_cons_succ]
    refine alw_take (i := 11) (v := .int .u8 ((p.getD (4 * i + 1) 0).toNat : Int)) rfl (by kernel_rfl) (by kernel_rfl) (fun _ _ _ h => h) (.inl ⟨by rfl, fun W hW => exec_load1 rfl rfl (by kernel_rfl) (ld_b hW (by rw [HP.out]; have := HLT.out; omega))⟩) hS0 ?_
    simp only [Act.put, List.setIfInBounds_toArray, List.set_cons_zero, List.set_cons_succ]
    refine alw_take (i := 12) (v := .int .u32 ((Sh.wide (p.getD (4 * i + 1) 0)).toNat : Int)) rfl (by kernel_rfl) (by kernel_rfl) (fun _ _ _ h => h) (.inl ⟨by rfl, fun W hW => wd_wide rfl rfl⟩) hS0 ?_
    simp only [Act.put, List.setIfInBounds_toArray, List.set_cons_zero, List.set_cons_succ]
    refine alw_take (i := 13) (v := .int .u32 (((Sh.wide (p.getD (4 * i + 1) 0)) <<< 16).toNat : Int)) rfl (by kernel_rfl) (by kernel_rfl) (fun _ _ _ h => h) (.inl ⟨by rfl, fun W hW => wd_shlc (s := 16) rfl rfl rfl (by decide)⟩) hS0 ?_
    simp only [Act.put, List.setIfInBounds_toArray, List.set_cons_zero, List.set_cons_succ]
    refine alw_take (i := 14) (v := .int .u32 ((((Sh.wide (p.getD (4 * i) 0)) <<< 24) ||| ((Sh.wide (p.getD (4 * i + 1) 0)) <<< 16)).toNat : Int)) rfl (by kernel_rfl) (by kernel_rfl) (fun _ _ _ h => h) (.inl ⟨by rfl, fun W hW => wd_or rfl rfl rfl⟩) hS0 ?_
    simp only [Act.put, List.setIfInBounds_toArray, List.set_cons_zero, List.set_cons_succ]
    refine alw_take (i := 15) (v := .int .i64 (i : Int)) rfl (by kernel_rfl) (by kernel_rfl) (fun _ _ _ h => h) (.inl ⟨by rfl, fun W hW => exec_move rfl rfl⟩) hS0 ?_
    simp only [Act.put, List.setIfInBounds_toArray, List.set_cons_zero, List.set_cons_succ]
    refine alw_take (i := 16) (v := .int .i64 ((4 * i : Nat) : Int)) rfl (by kernel_rfl) (by kernel_rfl) (fun _ _ _ h => h) (.inl ⟨by rfl, fun W hW => ix_mul rfl rfl rfl (by omega) ⟨by omega, by omega⟩⟩) hS0 ?_
    simp only [Act.put, List.setIfInBounds_toArray, List.set_cons_zero, List.set_cons_succ]
    refine alw_take (i := 17) (v := .int .i64 ((4 * i + 2 : Nat) : Int)) rfl (by kernel_rfl) (by kernel_rfl) (fun _ _ _ h => h) (.inl ⟨by rfl, fun W hW => ix_add rfl rfl rfl (by omega) ⟨by omega, by omega⟩⟩) hS0 ?_
    simp only [Act.put, List.setIfInBounds_toArray, List.set_cons_zero, List.set_cons_succ]
    refine alw_take (i := 18) (v := .pointer (some ⟨q, 0 + (4 * i + 2) * 1, none⟩)) rfl (by kernel_rfl) (by kernel_rfl) (fun _ _ _ h => h) (.inl ⟨by rfl, fun W hW => gx_aaddr_g (i := 4 * i + 2) (sz := 1) rfl rfl rfl Tryz.underlying85 size_u8 (by have := HLT.out; omega) rfl⟩) hS0 ?_
    simp only [Act.put, List.setIfInBounds_toArray, List.set_cons_zero, List.set_cons_succ]
    refine alw_take (i := 19) (v := .int .u8 ((p.getD (4 * i + 2) 0).toNat : Int)) rfl (by kernel_rfl) (by kernel_rfl) (fun _ _ _ h => h) (.inl ⟨by rfl, fun W hW => exec_load1 rfl rfl (by kernel_rfl) (ld_b hW (by rw [HP.out]; have := HLT.out; omega))⟩) hS0 ?_
    simp only [Act.put, List.setIfInBounds_toArray, List.set_cons_zero, List.set_cons_succ]
    refine alw_take (i := 20) (v := .int .u32 ((Sh.wide (p.getD (4 * i + 2) 0)).toNat : Int)) rfl (by kernel_rfl) (by kernel_rfl) (fun _ _ _ h => h) (.inl ⟨by rfl, fun W hW => wd_wide rfl rfl⟩) hS0 ?_
    simp only [Act.put, List.setIfInBounds_toArray, List.set_cons_zero, List.set_cons_succ]
    refine alw_take (i := 21) (v := .int .u32 (((Sh.wide (p.getD (4 * i + 2) 0)) <<< 8).toNat : Int)) rfl (by kernel_rfl) (by kernel_rfl) (fun _ _ _ h => h) (.inl ⟨by rfl, fun W hW => wd_shlc (s := 8) rfl rfl rfl (by decide)⟩) hS0 ?_
    simp only [Act.put, List.setIfInBounds_toArray, List.set_cons_zero, List.set_cons_succ]
    refine alw_take (i := 22) (v := .int .u32 (((((Sh.wide (p.getD (4 * i) 0)) <<< 24) ||| ((Sh.wide (p.getD (4 * i + 1) 0)) <<< 16)) ||| ((Sh.wide (p.getD (4 * i + 2) 0)) <<< 8)).toNat : Int)) rfl (by kernel_rfl) (by kernel_rfl) (fun _ _ _ h => h) (.inl ⟨by rfl, fun W hW => wd_or rfl rfl rfl⟩) hS0 ?_
    simp only [Act.put, List.setIfInBounds_toArray, List.set_cons_zero, List.set_cons_succ]
    refine alw_take (i := 23) (v := .int .i64 (i : Int)) rfl (by kernel_rfl) (by kernel_rfl) (fun _ _ _ h => h) (.inl ⟨by rfl, fun W hW => exec_move rfl rfl⟩) hS0 ?_
    simp only [Act.put, List.setIfInBounds_toArray, List.set_cons_zero, List.set_cons_succ]
    refine alw_take (i := 24) (v := .int .i64 ((4 * i : Nat) : Int)) rfl (by kernel_rfl) (by kernel_rfl) (fun _ _ _ h => h) (.inl ⟨by rfl, fun W hW => ix_mul rfl rfl rfl (by omega) ⟨by omega, by omega⟩⟩) hS0 ?_
    simp only [Act.put, List.setIfInBounds_toArray, List.set_cons_zero, List.set_cons_succ]
    refine alw_take (i := 25) (v := .int .i64 ((4 * i + 3 : Nat) : Int)) rfl (by kernel_rfl) (by kernel_rfl) (fun _ _ _ h => h) (.inl ⟨by rfl, fun W hW => ix_add rfl rfl rfl (by omega) ⟨by omega, by omega⟩⟩) hS0 ?_
    simp only [Act.put, List.setIfInBounds_toArray, List.set_cons_zero, List.set_cons_succ]
    refine alw_take (i := 26) (v := .pointer (some ⟨q, 0 + (4 * i + 3) * 1, none⟩)) rfl (by kernel_rfl) (by kernel_rfl) (fun _ _ _ h => h) (.inl ⟨by rfl, fun W hW => gx_aaddr_g (i := 4 * i + 3) (sz := 1) rfl rfl rfl Tryz.underlying85 size_u8 (by have := HLT.out; omega) rfl⟩) hS0 ?_
    simp only [Act.put, List.setIfInBounds_toArray, List.set_cons_zero, List.set_cons_succ]
    refine alw_take (i := 27) (v := .int .u8 ((p.getD (4 * i + 3) 0).toNat : Int)) rfl (by kernel_rfl) (by kernel_rfl) (fun _ _ _ h => h) (.inl ⟨by rfl, fun W hW => exec_load1 rfl rfl (by kernel_rfl) (ld_b hW (by rw [HP.out]; have := HLT.out; omega))⟩) hS0 ?_
    simp only [Act.put, List.setIfInBounds_toArray, List.set_cons_zero, List.set_cons_succ]
    refine alw_take (i := 28) (v := .int .u32 ((Sh.wide (p.getD (4 * i + 3) 0)).toNat : Int)) rfl (by kernel_rfl) (by kernel_rfl) (fun _ _ _ h => h) (.inl ⟨by rfl, fun W hW => wd_wide rfl rfl⟩) hS0 ?_
    simp only [Act.put, List.setIfInBounds_toArray, List.set_cons_zero, List.set_cons_succ]
    refine alw_take (i := 29) (v := .int .u32 ((((((Sh.wide (p.getD (4 * i) 0)) <<< 24) ||| ((Sh.wide (p.getD (4 * i + 1) 0)) <<< 16)) ||| ((Sh.wide (p.getD (4 * i + 2) 0)) <<< 8)) ||| (Sh.wide (p.getD (4 * i + 3) 0))).toNat : Int)) rfl (by kernel_rfl) (by kernel_rfl) (fun _ _ _ h => h) (.inl ⟨by rfl, fun W hW => wd_or rfl rfl rfl⟩) hS0 ?_
    simp only [Act.put, List.setIfInBounds_toArray, List.set_cons_zero, List.set_cons_succ]
    refine alw_take (i := 30) (v := .pointer (some ⟨s, 0 + i * 1, none⟩)) rfl (by kernel_rfl) (by kernel_rfl) (fun _ _ _ h => h) (.inl ⟨by rfl, fun W hW => gx_aaddr_g (i := i) (sz := 1) rfl rfl rfl Tryz.underlying119 size_u32 (by have := HLT.out; omega) rfl⟩) hS0 ?_
    simp only [Act.put, List.setIfInBounds_toArray, List.set_cons_zero, List.set_cons_succ]
    refine alw_step (i := 31) (by kernel_rfl) rfl rfl ?_
    intro K1 HK1
    refine wp_putU 88 (.tmp 43) (.tmp 42) rfl (.int .u32 ((((((Sh.wide (p.getD (4 * i) 0)) <<< 24) ||| ((Sh.wide (p.getD (4 * i + 1) 0)) <<< 16)) ||| ((Sh.wide (p.getD (4 * i + 2) 0)) <<< 8)) ||| (Sh.wide (p.getD (4 * i + 3) 0))).toNat : Int)) (wds (wz p (i + 1))) HBSD.out rfl rfl (by rw [wds_size, wz_len _ (by have := HLT.out; omega)]; have := HLT.out; omega) rfl rfl size_u32 (by rw [Nat.zero_add, Nat.mul_one, wds_set, ← HX.out, wz_set _ HLT64.out]) ?_
    intro w4 hb4 ht4
    have HBS4 := Lib.hid hb4
    have HT4 := Lib.hid ht4
    refine HK1.out _ _ ⟨hS0.turn (F := only s) HT4.out (fun e => HNqs.out e), ?_⟩
    clear HK1 hb4 ht4
    try simp only [Act.put, List.setIfInBounds_toArray, List.set_cons_zero, List.set_cons_succ]
    refine alw_done rfl ?_
    refine NoPanic.normal ?_
    clear hS0
    try simp only [Act.put, List.setIfInBounds_toArray, List.set_cons_zero, List.set_cons_succ]
    have HBQ4 := Lib.hid ((HBQ.out.turn HD.out fun e => e).turn (F := only s) HT4.out fun e => HNqs.out e)
    have HBR4 := Lib.hid (HBRD.out.turn (F := only s) HT4.out fun e => HNrs.out e)
    have HTR4 := Lib.hid (HTRD.out.trans HT4.out fun k hk e => by have := HLs2.out; have e : k = s := e; omega)
    go_upto_region 6 with fail
    refine wp_region_lit ?_
    refine wpList_run (v := .int .i64 ((i + 1 : Nat) : Int)) (wanted_none rfl) (ix_add rfl rfl rfl (by omega) (by omega)) ?_
    simp only [Act.put, List.setIfInBounds_toArray, List.set_cons_zero, List.set_cons_succ]
    refine wpList_run (v := .int .i64 ((i + 1 : Nat) : Int)) (wanted_none rfl) (exec_move rfl rfl) ?_
    simp only [Act.put, List.setIfInBounds_toArray, List.set_cons_zero, List.set_cons_succ]
    go_wp2_with fail
    go_roundg (16 - (i + 1))
    case measure => have := HGK.out; have := HLT.out; omega
    case rel => exact ⟨i + 1, rfl, by have := HLT.out; omega, HBS4.out, HBQ4.out, HBR4.out, HTR4.out⟩
  · obtain rfl : i = 16 := by omega
    clear hlt HBQ
    go_upto_region 3 with fail
    refine wp_region_lit ?_
    refine wpList_run (v := .bool false) (wanted_none rfl) (ix_lss rfl rfl rfl (by decide)) ?_
    simp only [Act.put, List.setIfInBounds_toArray, List.set_cons_zero, List.set_cons_succ]
    go_upto_region 7 with fail
    refine wp_region_lit ?_
    refine wpList_run (v := .int .i64 16) (wanted_none rfl) (gx_assign rfl rfl) ?_
    simp only [Act.put, List.setIfInBounds_toArray, List.set_cons_zero, List.set_cons_succ]
    go_wp2_with fail
    go_loopg [5] 48 (fun gk iv wq => ∃ i : Nat, iv = .int .i64 (i : Int) ∧ 16 ≤ i ∧ i + gk = 64 ∧ Blk wq s 119 (wds (wz p i)) ∧ Blk wq r 119 (wds (List.replicate 64 0)) ∧ Turn nowhere w wq)
    case atStart => exact ⟨16, rfl, Nat.le_refl _, rfl, HBS.out, HBR.out, HTR.out⟩
    clear HGK HBS HBR HTR
    obtain ⟨i, rfl, h16, hgk, hbs, hbr, htr⟩ := hrel
    have yi : (i : Int) ≤ 64 := by omega
    have y16 : 16 ≤ (i : Int) := by omega
    have HGK := Lib.hid hgk
    have H16 := Lib.hid h16
    have HBS := Lib.hid hbs
    have HBR := Lib.hid hbr
    have HTR := Lib.hid htr
    clear hgk hbs hbr htr h16
    by_cases hlt : i < 64
    · have HLT := Lib.hid hlt
      have HLT64 := Lib.hid hlt
      have y3 : (i : Int) < 64 := by omega
      have HX := Lib.hid (nxt_hi p (Sh.wl p i) H16.out)
      have HZL := Lib.hid (wz_len p (t := i) (by omega))
      have HC2 := Lib.hid (show (wz p i).getD (i - 2) 0 = (Sh.wl p i).getD (i - 2) 0 from wz_get p (by have := H16.out; omega))
      have HC7 := Lib.hid (show (wz p i).getD (i - 7) 0 = (Sh.wl p i).getD (i - 7) 0 from wz_get p (by have := H16.out; omega))
      have HC15 := Lib.hid (show (wz p i).getD (i - 15) 0 = (Sh.wl p i).getD (i - 15) 0 from wz_get p (by have := H16.out; omega))
      have HC16 := Lib.hid (show (wz p i).getD (i - 16) 0 = (Sh.wl p i).getD (i - 16) 0 from wz_get p (by have := H16.out; omega))
      clear hlt
      obtain ⟨c2, hc2⟩ : ∃ c, c = (Sh.wl p i).getD (i - 2) 0 := ⟨_, rfl⟩
      obtain ⟨c7, hc7⟩ : ∃ c, c = (Sh.wl p i).getD (i - 7) 0 := ⟨_, rfl⟩
      obtain ⟨c15, hc15⟩ : ∃ c, c = (Sh.wl p i).getD (i - 15) 0 := ⟨_, rfl⟩
      obtain ⟨c16, hc16⟩ : ∃ c, c = (Sh.wl p i).getD (i - 16) 0 := ⟨_, rfl⟩
      rw [← hc2] at HC2 HX
      rw [← hc7] at HC7 HX
      rw [← hc15] at HC15 HX
      rw [← hc16] at HC16 HX
      clear hc2 hc7 hc15 hc16
      go_upto_region 8 with fail
      refine wp_region_lit ?_
      refine wpList_run (v := .int .i64 (i : Int)) (wanted_none rfl) (exec_move rfl rfl) ?_
      simp only [Act.put, List.setIfInBounds_toArray, List.set_cons_zero, List.set_cons_succ]
      refine wpList_run (v := .bool true) (wanted_none rfl) (ix_lss rfl rfl rfl (decide_eq_true y3)) ?_
      simp only [Act.put, List.setIfInBounds_toArray, List.set_cons_zero, List.set_cons_succ]
      go_upto_region 10 with fail
      refine wp_region_alw (fun W => Blk W s 119 (wds (wz p i))) (by kernel_rfl) ?_
      have hS0 : (fun W => Blk W s 119 (wds (wz p i))) wr.drew := HBS.out.drew
      have HD := Lib.hid ((Turn.refl nowhere wr).drew)
      generalize wr.drew = wd at *
      refine alw_take (i := 0) (v := .int .i64 (i : Int)) rfl (by kernel_rfl) (by kernel_rfl) (fun _ _ _ h => h) (.inl ⟨by rfl, fun W hW => exec_move rfl rfl⟩) hS0 ?_
      simp only [Act.put, List.setIfInBounds_toArray, List.set_cons_zero, List.set_cons_succ]
      refine alw_take (i := 1) (v := .int .i64 ((i - 15 : Nat) : Int)) rfl (by kernel_rfl) (by kernel_rfl) (fun _ _ _ h => h) (.inl ⟨by rfl, fun W hW => ix_sub rfl rfl rfl (by have := H16.out; omega) ⟨by omega, by omega⟩⟩) hS0 ?_
      simp only [Act.put, List.setIfInBounds_toArray, List.set_cons_zero, List.set_cons_succ]
      refine alw_take (i := 2) (v := .pointer (some ⟨s, 0 + (i - 15) * 1, none⟩)) rfl (by kernel_rfl) (by kernel_rfl) (fun _ _ _ h => h) (.inl ⟨by rfl, fun W hW => gx_aaddr_g (i := i - 15) (sz := 1) rfl rfl rfl Tryz.underlying119 size_u32 (by have := HLT.out; have := H16.out; omega) rfl⟩) hS0 ?_
      simp only [Act.put, List.setIfInBounds_toArray, List.set_cons_zero, List.set_cons_succ]
      refine alw_take (i := 3) (v := .int .u32 ((c15).toNat : Int)) rfl (by kernel_rfl) (by kernel_rfl) (fun _ _ _ h => h) (.inl ⟨by rfl, fun W hW => exec_load1 rfl rfl (by kernel_rfl) (by rw [ld_w hW (by rw [HZL.out]; have := HLT.out; omega), HC15.out])⟩) hS0 ?_
      simp only [Act.put, List.setIfInBounds_toArray, List.set_cons_zero, List.set_cons_succ]
      refine alw_take (i := 4) (v := .int .i64 (i : Int)) rfl (by kernel_rfl) (by kernel_rfl) (fun _ _ _ h => h) (.inl ⟨by rfl, fun W hW => exec_move rfl rfl⟩) hS0 ?_
      simp only [Act.put, List.setIfInBounds_toArray, List.set_cons_zero, List.set_cons_succ]
      refine alw_take (i := 5) (v := .int .i64 ((i - 2 : Nat) : Int)) rfl (by kernel_rfl) (by kernel_rfl) (fun _ _ _ h => h) (.inl ⟨by rfl, fun W hW => ix_sub rfl rfl rfl (by have := H16.out; omega) ⟨by omega, by omega⟩⟩) hS0 ?_
      simp only [Act.put, List.setIfInBounds_toArray, List.set_cons_zero, List.set_cons_succ]
      refine alw_take (i := 6) (v := .pointer (some ⟨s, 0 + (i - 2) * 1, none⟩)) rfl (by kernel_rfl) (by kernel_rfl) (fun _ _ _ h => h) (.inl ⟨by rfl, fun W hW => gx_aaddr_g (i := i - 2) (sz := 1) rfl rfl rfl Tryz.underlying119 size_u32 (by have := HLT.out; have := H16.out; omega) rfl⟩) hS0 ?_
      simp only [Act.put, List.setIfInBounds_toArray, List.set_cons_zero, List.set_cons_succ]
      refine alw_take (i := 7) (v := .int .u32 ((c2).toNat : Int)) rfl (by kernel_rfl) (by kernel_rfl) (fun _ _ _ h => h) (.inl ⟨by rfl, fun W hW => exec_load1 rfl rfl (by kernel_rfl) (by rw [ld_w hW (by rw [HZL.out]; have := HLT.out; omega), HC2.out])⟩) hS0 ?_
      simp only [Act.put, List.setIfInBounds_toArray, List.set_cons_zero, List.set_cons_succ]
      refine alw_take (i := 8) (v := .int .u32 ((c15).toNat : Int)) rfl (by kernel_rfl) (by kernel_rfl) (fun _ _ _ h => h) (.inl ⟨by rfl, fun W hW => gx_assign rfl rfl⟩) hS0 ?_
      simp only [Act.put, List.setIfInBounds_toArray, List.set_cons_zero, List.set_cons_succ]
      refine alw_take (i := 9) (v := .int .u32 ((c2).toNat : Int)) rfl (by kernel_rfl) (by kernel_rfl) (fun _ _ _ h => h) (.inl ⟨by rfl, fun W hW => gx_assign rfl rfl⟩) hS0 ?_
      simp only [Act.put, List.setIfInBounds_toArray, List.set_cons_zero, List.set_cons_succ]
      refine alw_done rfl ?_
      refine NoPanic.normal ?_
      clear hS0
      try simp only [Act.put, List.setIfInBounds_toArray, List.set_cons_zero, List.set_cons_succ]
      have HBSD := Lib.hid (HBS.out.turn HD.out fun e => e)
      have HBRD := Lib.hid (HBR.out.turn HD.out fun e => e)
      have HTRD := Lib.hid (HTR.out.trans HD.out fun _ _ e => e)
      clear HBS HBR HTR HD
      go_upto_region 11 with fail
      refine wp_region_lit ?_
      refine wpList_run (v := .int .u32 ((c15).toNat : Int)) (wanted_none rfl) (exec_move rfl rfl) ?_
      simp only [Act.put, List.setIfInBounds_toArray, List.set_cons_zero, List.set_cons_succ]
      refine wpList_op_g rfl fun K9 HK9 => ?_
      go_wp2_with fail
      refine (rot_walk c15 7 _ (by decide) (by decide)).mono ?_
      rintro e w9 ⟨rfl, rfl⟩
      refine HK9.out _ _ ?_
      clear HK9
      try simp only [Act.put, List.setIfInBounds_toArray, List.set_cons_zero, List.set_cons_succ]
      refine wpList_run (v := .int .u32 ((c15).toNat : Int)) (wanted_none rfl) (exec_move rfl rfl) ?_
      simp only [Act.put, List.setIfInBounds_toArray, List.set_cons_zero, List.set_cons_succ]
      refine wpList_op_g rfl fun K9 HK9 => ?_
      go_wp2_with fail
      refine (rot_walk c15 18 _ (by decide) (by decide)).mono ?_
      rintro e w9 ⟨rfl, rfl⟩
      refine HK9.out _ _ ?_
      clear HK9
      try simp only [Act.put, List.setIfInBounds_toArray, List.set_cons_zero, List.set_cons_succ]
      refine wpList_run (v := .int .u32 (((Sh.rot c15 7) ^^^ (Sh.rot c15 18)).toNat : Int)) (wanted_none rfl) (wd_xor rfl rfl rfl) ?_
      simp only [Act.put, List.setIfInBounds_toArray, List.set_cons_zero, List.set_cons_succ]
      refine wpList_run (v := .int .u32 ((c15).toNat : Int)) (wanted_none rfl) (exec_move rfl rfl) ?_
      simp only [Act.put, List.setIfInBounds_toArray, List.set_cons_zero, List.set_cons_succ]
      refine wpList_run (v := .int .u32 (((c15) >>> 3).toNat : Int)) (wanted_none rfl) (wd_shrc (s := 3) rfl rfl rfl (by decide)) ?_
      simp only [Act.put, List.setIfInBounds_toArray, List.set_cons_zero, List.set_cons_succ]
      refine wpList_run (v := .int .u32 ((((Sh.rot c15 7) ^^^ (Sh.rot c15 18)) ^^^ ((c15) >>> 3)).toNat : Int)) (wanted_none rfl) (wd_xor rfl rfl rfl) ?_
      simp only [Act.put, List.setIfInBounds_toArray, List.set_cons_zero, List.set_cons_succ]
      refine wpList_run (v := .int .u32 ((Sh.s0 c15).toNat : Int)) (wanted_none rfl) (gx_assign rfl rfl) ?_
      simp only [Act.put, List.setIfInBounds_toArray, List.set_cons_zero, List.set_cons_succ]
      go_upto_region 12 with fail
      refine wp_region_lit ?_
      refine wpList_run (v := .int .u32 ((c2).toNat : Int)) (wanted_none rfl) (exec_move rfl rfl) ?_
      simp only [Act.put, List.setIfInBounds_toArray, List.set_cons_zero, List.set_cons_succ]
      refine wpList_op_g rfl fun K9 HK9 => ?_
      go_wp2_with fail
      refine (rot_walk c2 17 _ (by decide) (by decide)).mono ?_
      rintro e w9 ⟨rfl, rfl⟩
      refine HK9.out _ _ ?_
      clear HK9
      try simp only [Act.put, List.setIfInBounds_toArray, List.set_cons_zero, List.set_cons_succ]
      refine wpList_run (v := .int .u32 ((c2).toNat : Int)) (wanted_none rfl) (exec_move rfl rfl) ?_
      simp only [Act.put, List.setIfInBounds_toArray, List.set_cons_zero, List.set_cons_succ]
      refine wpList_op_g rfl fun K9 HK9 => ?_
      go_wp2_with fail
      refine (rot_walk c2 19 _ (by decide) (by decide)).mono ?_
      rintro e w9 ⟨rfl, rfl⟩
      refine HK9.out _ _ ?_
      clear HK9
      try simp only [Act.put, List.setIfInBounds_toArray, List.set_cons_zero, List.set_cons_succ]
      refine wpList_run (v := .int .u32 (((Sh.rot c2 17) ^^^ (Sh.rot c2 19)).toNat : Int)) (wanted_none rfl) (wd_xor rfl rfl rfl) ?_
      simp only [Act.put, List.setIfInBounds_toArray, List.set_cons_zero, List.set_cons_succ]
      refine wpList_run (v := .int .u32 ((c2).toNat : Int)) (wanted_none rfl) (exec_move rfl rfl) ?_
      simp only [Act.put, List.setIfInBounds_toArray, List.set_cons_zero, List.set_cons_succ]
      refine wpList_run (v := .int .u32 (((c2) >>> 10).toNat : Int)) (wanted_none rfl) (wd_shrc (s := 10) rfl rfl rfl (by decide)) ?_
      simp only [Act.put, List.setIfInBounds_toArray, List.set_cons_zero, List.set_cons_succ]
      refine wpList_run (v := .int .u32 ((((Sh.rot c2 17) ^^^ (Sh.rot c2 19)) ^^^ ((c2) >>> 10)).toNat : Int)) (wanted_none rfl) (wd_xor rfl rfl rfl) ?_
      simp only [Act.put, List.setIfInBounds_toArray, List.set_cons_zero, List.set_cons_succ]
      refine wpList_run (v := .int .u32 ((Sh.s1 c2).toNat : Int)) (wanted_none rfl) (gx_assign rfl rfl) ?_
      simp only [Act.put, List.setIfInBounds_toArray, List.set_cons_zero, List.set_cons_succ]
      go_upto_region 13 with fail
      refine wp_region_alw (fun W => W.cell? ⟨s, 0 + (i - 7) * 1, none⟩ = some (.int .u32 (c7.toNat : Int)) ∧ W.cell? ⟨s, 0 + (i - 16) * 1, none⟩ = some (.int .u32 (c16.toNat : Int))) (by kernel_rfl) ?_
      have hS0 : (fun W => W.cell? ⟨s, 0 + (i - 7) * 1, none⟩ = some (.int .u32 (c7.toNat : Int)) ∧ W.cell? ⟨s, 0 + (i - 16) * 1, none⟩ = some (.int .u32 (c16.toNat : Int))) wd.drew := ⟨(by rw [ld_w HBSD.out.drew (by rw [HZL.out]; have := HLT.out; omega), HC7.out]), (by rw [ld_w HBSD.out.drew (by rw [HZL.out]; have := HLT.out; omega), HC16.out])⟩
      have HE := Lib.hid ((Turn.refl nowhere wd).drew)
      generalize wd.drew = we at *
      have HBSe := Lib.hid (HBSD.out.turn HE.out fun e => e)
      have HBRe := Lib.hid (HBRD.out.turn HE.out fun e => e)
      have HTRe := Lib.hid (HTRD.out.trans HE.out fun _ _ e => e)
      clear HBSD HBRD HTRD
      have HBSD := HBSe
      clear HBSe
      refine alw_take (i := 0) (v := .int .i64 (i : Int)) rfl (by kernel_rfl) (by kernel_rfl) (fun _ _ _ h => h) (.inl ⟨by rfl, fun W hW => exec_move rfl rfl⟩) hS0 ?_
      simp only [Act.put, List.setIfInBounds_toArray, List.set_cons_zero, List.set_cons_succ]
      refine alw_take (i := 1) (v := .int .u32 ((Sh.s1 c2).toNat : Int)) rfl (by kernel_rfl) (by kernel_rfl) (fun _ _ _ h => h) (.inl ⟨by rfl, fun W hW => exec_move rfl rfl⟩) hS0 ?_
      simp only [Act.put, List.setIfInBounds_toArray, List.set_cons_zero, List.set_cons_succ]
      refine alw_take (i := 2) (v := .int .i64 (i : Int)) rfl (by kernel_rfl) (by kernel_rfl) (fun _ _ _ h => h) (.inl ⟨by rfl, fun W hW => exec_move rfl rfl⟩) hS0 ?_
      simp only [Act.put, List.setIfInBounds_toArray, List.set_cons_zero, List.set_cons_succ]
      refine alw_take (i := 3) (v := .int .i64 ((i - 7 : Nat) : Int)) rfl (by kernel_rfl) (by kernel_rfl) (fun _ _ _ h => h) (.inl ⟨by rfl, fun W hW => ix_sub rfl rfl rfl (by have := H16.out; omega) ⟨by omega, by omega⟩⟩) hS0 ?_
      simp only [Act.put, List.setIfInBounds_toArray, List.set_cons_zero, List.set_cons_succ]
      refine alw_take (i := 4) (v := .pointer (some ⟨s, 0 + (i - 7) * 1, none⟩)) rfl (by kernel_rfl) (by kernel_rfl) (fun _ _ _ h => h) (.inl ⟨by rfl, fun W hW => gx_aaddr_g (i := i - 7) (sz := 1) rfl rfl rfl Tryz.underlying119 size_u32 (by have := HLT.out; have := H16.out; omega) rfl⟩) hS0 ?_
      simp only [Act.put, List.setIfInBounds_toArray, List.set_cons_zero, List.set_cons_succ]
      refine alw_take (i := 5) (v := .int .u32 ((c7).toNat : Int)) rfl (by kernel_rfl) (by kernel_rfl) (fun _ _ _ h => h) (.inl ⟨by rfl, fun W hW => exec_load1 rfl rfl (by kernel_rfl) hW.1⟩) hS0 ?_
      simp only [Act.put, List.setIfInBounds_toArray, List.set_cons_zero, List.set_cons_succ]
      refine alw_take (i := 6) (v := .int .u32 (((Sh.s1 c2) + c7).toNat : Int)) rfl (by kernel_rfl) (by kernel_rfl) (fun _ _ _ h => h) (.inl ⟨by rfl, fun W hW => wd_add rfl rfl rfl⟩) hS0 ?_
      simp only [Act.put, List.setIfInBounds_toArray, List.set_cons_zero, List.set_cons_succ]
      refine alw_take (i := 7) (v := .int .u32 ((Sh.s0 c15).toNat : Int)) rfl (by kernel_rfl) (by kernel_rfl) (fun _ _ _ h => h) (.inl ⟨by rfl, fun W hW => exec_move rfl rfl⟩) hS0 ?_
      simp only [Act.put, List.setIfInBounds_toArray, List.set_cons_zero, List.set_cons_succ]
      refine alw_take (i := 8) (v := .int .u32 ((((Sh.s1 c2) + c7) + (Sh.s0 c15)).toNat : Int)) rfl (by kernel_rfl) (by kernel_rfl) (fun _ _ _ h => h) (.inl ⟨by rfl, fun W hW => wd_add rfl rfl rfl⟩) hS0 ?_
      simp only [Act.put, List.setIfInBounds_toArray, List.set_cons_zero, List.set_cons_succ]
      refine alw_take (i := 9) (v := .int .i64 (i : Int)) rfl (by kernel_rfl) (by kernel_rfl) (fun _ _ _ h => h) (.inl ⟨by rfl, fun W hW => exec_move rfl rfl⟩) hS0 ?_
      simp only [Act.put, List.setIfInBounds_toArray, List.set_cons_zero, List.set_cons_succ]
      refine alw_take (i := 10) (v := .int .i64 ((i - 16 : Nat) : Int)) rfl (by kernel_rfl) (by kernel_rfl) (fun _ _ _ h => h) (.inl ⟨by rfl, fun W hW => ix_sub rfl rfl rfl (by have := H16.out; omega) ⟨by omega, by omega⟩⟩) hS0 ?_
      simp only [Act.put, List.setIfInBounds_toArray, List.set_cons_zero, List.set_cons_succ]
      refine alw_take (i := 11) (v := .pointer (some ⟨s, 0 + (i - 16) * 1, none⟩)) rfl (by kernel_rfl) (by kernel_rfl) (fun _ _ _ h => h) (.inl ⟨by rfl, fun W hW => gx_aaddr_g (i := i - 16) (sz := 1) rfl rfl rfl Tryz.underlying119 size_u32 (by have := HLT.out; have := H16.out; omega) rfl⟩) hS0 ?_
      simp only [Act.put, List.setIfInBounds_toArray, List.set_cons_zero, List.set_cons_succ]
      refine alw_take (i := 12) (v := .int .u32 ((c16).toNat : Int)) rfl (by kernel_rfl) (by kernel_rfl) (fun _ _ _ h => h) (.inl ⟨by rfl, fun W hW => exec_load1 rfl rfl (by kernel_rfl) hW.2⟩) hS0 ?_
      simp only [Act.put, List.setIfInBounds_toArray, List.set_cons_zero, List.set_cons_succ]
      refine alw_take (i := 13) (v := .int .u32 (((((Sh.s1 c2) + c7) + (Sh.s0 c15)) + c16).toNat : Int)) rfl (by kernel_rfl) (by kernel_rfl) (fun _ _ _ h => h) (.inl ⟨by rfl, fun W hW => wd_add rfl rfl rfl⟩) hS0 ?_
      simp only [Act.put, List.setIfInBounds_toArray, List.set_cons_zero, List.set_cons_succ]
      refine alw_take (i := 14) (v := .pointer (some ⟨s, 0 + i * 1, none⟩)) rfl (by kernel_rfl) (by kernel_rfl) (fun _ _ _ h => h) (.inl ⟨by rfl, fun W hW => gx_aaddr_g (i := i) (sz := 1) rfl rfl rfl Tryz.underlying119 size_u32 (by have := HLT.out; omega) rfl⟩) hS0 ?_
      simp only [Act.put, List.setIfInBounds_toArray, List.set_cons_zero, List.set_cons_succ]
      refine alw_step (i := 15) (by kernel_rfl) rfl rfl ?_
      intro K1 HK1
      refine wp_putU 88 (.tmp 87) (.tmp 86) rfl (.int .u32 (((((Sh.s1 c2) + c7) + (Sh.s0 c15)) + c16).toNat : Int)) (wds (wz p (i + 1))) HBSD.out rfl rfl (by rw [wds_size, HZL.out]; have := HLT.out; omega) rfl rfl size_u32 (by rw [Nat.zero_add, Nat.mul_one, wds_set, ← HX.out, wz_set _ HLT64.out]) ?_
      intro w4 hb4 ht4
      have HBS4 := Lib.hid hb4
      have HT4 := Lib.hid ht4
      refine HK1.out _ _ ⟨⟨?_, ?_⟩, ?_⟩
      · rw [ld_w HBS4.out (by rw [wz_len _ (by have := HLT.out; omega)]; have := HLT.out; omega), wz_get p (by have := HLT.out; omega), Sh.wl_get p (n := i) (by have := H16.out; omega) (by omega), ← wz_get p (by have := H16.out; omega), HC7.out]
      · rw [ld_w HBS4.out (by rw [wz_len _ (by have := HLT.out; omega)]; have := HLT.out; omega), wz_get p (by have := HLT.out; omega), Sh.wl_get p (n := i) (by have := H16.out; omega) (by omega), ← wz_get p (by have := H16.out; omega), HC16.out]
      clear HK1 hb4 ht4
      try simp only [Act.put, List.setIfInBounds_toArray, List.set_cons_zero, List.set_cons_succ]
      refine alw_done rfl ?_
      refine NoPanic.normal ?_
      clear hS0
      try simp only [Act.put, List.setIfInBounds_toArray, List.set_cons_zero, List.set_cons_succ]
      have HBR4 := Lib.hid (HBRe.out.turn (F := only s) HT4.out fun e => HNrs.out e)
      have HTR4 := Lib.hid (HTRe.out.trans HT4.out fun k hk e => by have := HLs2.out; have e : k = s := e; omega)
      go_upto_region 9 with fail
      refine wp_region_lit ?_
      refine wpList_run (v := .int .i64 (i : Int)) (wanted_none rfl) (exec_move rfl rfl) ?_
      simp only [Act.put, List.setIfInBounds_toArray, List.set_cons_zero, List.set_cons_succ]
      refine wpList_run (v := .int .i64 ((i + 1 : Nat) : Int)) (wanted_none rfl) (ix_add rfl rfl rfl (by omega) (by omega)) ?_
      simp only [Act.put, List.setIfInBounds_toArray, List.set_cons_zero, List.set_cons_succ]
      refine wpList_run (v := .int .i64 ((i + 1 : Nat) : Int)) (wanted_none rfl) (gx_assign rfl rfl) ?_
      simp only [Act.put, List.setIfInBounds_toArray, List.set_cons_zero, List.set_cons_succ]
      go_wp2_with fail
      go_roundg (64 - (i + 1))
      case measure => have := HGK.out; have := HLT.out; omega
      case rel => exact ⟨i + 1, rfl, by have := H16.out; omega, by have := HLT.out; omega, HBS4.out, HBR4.out, HTR4.out⟩
    · obtain rfl : i = 64 := by omega
      clear hlt
      have HBSZ := Lib.hid (show Blk wr s 119 (wds L) from by have h := HBS.out; rw [wz_full, HL.out] at h; exact h)
      clear HBS
      go_upto_region 8 with fail
      refine wp_region_lit ?_
      refine wpList_run (v := .int .i64 ((64 : Nat) : Int)) (wanted_none rfl) (exec_move rfl rfl) ?_
      simp only [Act.put, List.setIfInBounds_toArray, List.set_cons_zero, List.set_cons_succ]
      refine wpList_run (v := .bool false) (wanted_none rfl) (ix_lss rfl rfl rfl (by decide)) ?_
      simp only [Act.put, List.setIfInBounds_toArray, List.set_cons_zero, List.set_cons_succ]
      go_upto_region 14 with fail
      refine wp_region_lit ?_
      refine wpList_run (v := .agg (wds L)) (wanted_none rfl) (gx_loads_g rfl rfl (blk_range_g HBSZ.out) Tryz.underlying119 rfl (size_u64.trans (congrArg some HZ.out.symm))) ?_
      simp only [Act.put, List.setIfInBounds_toArray, List.set_cons_zero, List.set_cons_succ]
      refine wpList_store_row (wanted_none rfl) 119 (.tmp 2) (.tmp 88) rfl (wds L) HBR.out rfl rfl (by rw [HZ.out]; rfl) (by rw [size_u64, HZ.out]) (wds_one _) ?_
      intro w4 hb_ ht_
      have HBZ := Lib.hid hb_
      have HT4 := Lib.hid ht_
      clear hb_ ht_
      simp only [Act.put, List.setIfInBounds_toArray, List.set_cons_zero, List.set_cons_succ]
      have HTZ := Lib.hid (HTR.out.trans HT4.out fun k hk e => by have := HLr.out; have e : k = r := e; omega)
      go_wp2_with fail
      refine bodyPost_ret (v := .agg (wds L)) (ret_cell1_g rfl _ _ r _ _ _ rfl HBZ.out Tryz.underlying119 rfl (by rw [size_u64, HZ.out] <;> rfl)) rfl ?_
      exact ⟨rfl, HTZ.out⟩
end Go.Proofs.YtfnillibngijaaaGreatDoor
