/-
  Texts in one file. Conditions: the tables and the errors read as laid.
-/
import Derived.Test.YtkagijifkpoplaaGreatDoorJT2
import Derived.Test.YtkagijifkpoplaaGreatDoorJT0
import Derived.Test.YtkagijifkpoplaaGreatDoorJT1
set_option linter.unusedVariables false
set_option linter.unusedSimpArgs false
set_option maxRecDepth 40000
set_option maxHeartbeats 20000000
namespace Go.Proofs.YtkagijifkpoplaaGreatDoor
open Go.RowKit
open Sh (Wd B8 H8)
set_option maxRecDepth 20000
def wz (p : B8) (t : Nat) : List Wd := Sh.wl p t ++ List.replicate (64 - t) 0
theorem wz_len (p : B8) {t : Nat} (h : t ≤ 64) : (wz p t).length = 64 := by rw [wz, List.length_append, Sh.wl_len, List.length_replicate]; omega
theorem wz_get (p : B8) {j t : Nat} (h : j < t) : (wz p t).getD j 0 = (Sh.wl p t).getD j 0 := by
 rw [wz, List.getD_eq_getElem?_getD, List.getElem?_append_left (by rw [Sh.wl_len]; omega), ← List.getD_eq_getElem?_getD]
theorem wz_set (p : B8) {t : Nat} (h : t < 64) : (wz p t).set t (Sh.nxt p (Sh.wl p t) t) = wz p (t + 1) := by
 rw [wz, set_mid (Sh.wl_len p t) _ (by intro e; have e1 := congrArg List.length e; rw [List.length_replicate] at e1; simp at e1; omega), wz, Sh.wl]
 congr 1
 rw [List.tail_replicate, show 64 - t - 1 = 64 - (t + 1) from by omega]
theorem wz_full (p : B8) : wz p 64 = Sh.wl p 64 := by rw [wz, Nat.sub_self, List.replicate_zero, List.append_nil]
theorem nxt_lo (p : B8) (l : List Wd) {t : Nat} (h : t < 16) : Sh.nxt p l t = Sh.wide (p.getD (4 * t) 0) <<< 24 ||| Sh.wide (p.getD (4 * t + 1) 0) <<< 16 ||| Sh.wide (p.getD (4 * t + 2) 0) <<< 8 ||| Sh.wide (p.getD (4 * t + 3) 0) := if_pos h
theorem nxt_hi (p : B8) (l : List Wd) {t : Nat} (h : 16 ≤ t) : Sh.nxt p l t = Sh.s1 (l.getD (t - 2) 0) + l.getD (t - 7) 0 + Sh.s0 (l.getD (t - 15) 0) + l.getD (t - 16) 0 := if_neg (by omega)
theorem spread_walk (p : B8) (w : World) (hp : p.length = 64) : Calls Tryz.prog 73 #[.agg (byteCells p)] w fun e w' => e = .returned (.agg (wds (Sh.wl p 64))) ∧ Turn nowhere w w' := by
 have HP := zH hp
 have HZ := zH (show (wds (Sh.wl p 64)).size = 64 from by rw [wds_size, Sh.wl_len])
 clear hp
 obtain ⟨L, hL⟩ : ∃ L, Sh.wl p 64 = L := ⟨_, rfl⟩
 rw [hL] at HZ ⊢
 have HL := zH hL
 clear hL
 go_enter Tryz.func73, Tryz.ntmps73
 go_upto_region 0 with fail
 refine wp_region_lit ?_
 refine wR (v := .pointer (some ⟨(w).heap.size, 0, none⟩)) (w' := (w).alloc (.cells (byteCells p) 90)) wn (gx_box rfl rfl (box_pc p _)) ?_
 simp only [zz]
 refine wR (v := .pointer (some ⟨((w).alloc (.cells (byteCells p) 90)).heap.size, 0, none⟩)) (w' := ((w).alloc (.cells (byteCells p) 90)).alloc (.cells (wds (List.replicate 64 0)) 130)) wn (gx_alloc rfl (zero_u64 _)) ?_
 simp only [zz]
 have hb_q := (Blk.new (w) 90 (byteCells p)).alloc (.cells (wds (List.replicate 64 0)) 130)
 have hb_r := Blk.new ((w).alloc (.cells (byteCells p) 90)) 130 (wds (List.replicate 64 0))
 have ht_ := ((Turn.refl nowhere (w)).alloc (.cells (byteCells p) 90)).alloc (.cells (wds (List.replicate 64 0)) 130)
 obtain ⟨n0_, hn0_⟩ : ∃ n, n = (w).heap.size := ⟨_, rfl⟩
 have hz_q : (w).heap.size = n0_ + 0 := by rw [hn0_]; simp
 have hz_r : ((w).alloc (.cells (byteCells p) 90)).heap.size = n0_ + 1 := by rw [hn0_]; simp
 obtain ⟨r, hg_⟩ : ∃ g, g = ((w).alloc (.cells (byteCells p) 90)).heap.size := ⟨_, rfl⟩
 rw [← hg_] at hb_r hz_r ⊢
 clear hg_
 obtain ⟨q, hg_⟩ : ∃ g, g = (w).heap.size := ⟨_, rfl⟩
 rw [← hg_] at hb_q hz_q ⊢
 clear hg_
 generalize ((w).alloc (.cells (byteCells p) 90)).alloc (.cells (wds (List.replicate 64 0)) 130) = w1 at *
 have HT1 := zH ht_
 clear ht_
 have HBq := zH hb_q
 have HLq := zH (show (w).heap.size ≤ q from by omega)
 clear hb_q
 have HBr := zH hb_r
 have HLr := zH (show (w).heap.size ≤ r from by omega)
 clear hb_r
 have HNqr := zH (show q ≠ r from by omega)
 clear hn0_ hz_q hz_r
 clear n0_
 go_upto_region 1 with fail
 refine wp_region_lit ?_
 refine wR (v := .pointer (some ⟨(w1).heap.size, 0, none⟩)) (w' := (w1).alloc (.cells (wds (List.replicate 64 0)) 130)) wn (gx_alloc rfl (zero_u64 _)) ?_
 simp only [zz]
 have hb_s := Blk.new (w1) 130 (wds (List.replicate 64 0))
 have ht_ := (Turn.refl nowhere (w1)).alloc (.cells (wds (List.replicate 64 0)) 130)
 obtain ⟨n0_, hn0_⟩ : ∃ n, n = (w1).heap.size := ⟨_, rfl⟩
 have hz_s : (w1).heap.size = n0_ + 0 := by rw [hn0_]; simp
 obtain ⟨s, hg_⟩ : ∃ g, g = (w1).heap.size := ⟨_, rfl⟩
 rw [← hg_] at hb_s hz_s ⊢
 clear hg_
 generalize (w1).alloc (.cells (wds (List.replicate 64 0)) 130) = w2 at *
 have HT2 := zH ht_
 clear ht_
 have HBs := zH hb_s
 have HLs := zH (show (w1).heap.size ≤ s from by omega)
 clear hb_s
 clear hn0_ hz_s
 clear n0_
 have HBq2 := zH (HBq.out.turn HT2.out fun e => e)
 have HBr2 := zH (HBr.out.turn HT2.out fun e => e)
 have HT12 := zH (HT1.out.trans HT2.out fun _ _ e => e)
 have HLs2 := zH (show w.heap.size ≤ s from Nat.le_trans HT1.out.size HLs.out)
 have HNrs := zH (show r ≠ s from by have := HBr.out.lt; have := HLs.out; omega)
 have HNqs := zH (show q ≠ s from by have := HBq.out.lt; have := HLs.out; omega)
 clear HBq HBr HT1 HT2 HLs
 go_upto_region 2 with fail
 refine wp_region_lit ?_
 refine nM (.int .i64 0) ?_;simp only [zz]
 go_wp2_with fail
 go_loopg [10] 16 (fun gk iv wr => ∃ i : Nat, iv = .int .i64 (i : Int) ∧ i + gk = 16 ∧ Blk wr s 130 (wds (wz p i)) ∧ Blk wr q 90 (byteCells p) ∧ Blk wr r 130 (wds (List.replicate 64 0)) ∧ Turn nowhere w wr)
 case atStart => exact ⟨0, rfl, rfl, HBs.out, HBq2.out, HBr2.out, HT12.out⟩
 obtain ⟨i, rfl, hgk, hbs, hbq, hbr, htr⟩ := hrel
 have yi : (i : Int) ≤ 16 := by omega
 have HGK := zH hgk
 have HBS := zH hbs
 have HBQ := zH hbq
 have HBR := zH hbr
 have HTR := zH htr
 clear hgk hbs hbq hbr htr
 by_cases hlt : i < 16
 ·have HLT := zH hlt
  have y3 : (i : Int) < 16 := by omega
  have HLT64 := zH (show i < 64 from by omega)
  have HX := zH (nxt_lo p (Sh.wl p i) hlt)
  clear hlt
  go_upto_region 3 with fail
  refine wp_region_lit ?_
  refine nR (.bool true) (ix_lss rfl rfl rfl (decide_eq_true y3)) ?_;simp only [zz]
  go_upto_region 4 with fail
  refine wp_region_lit ?_
  refine nM (.int .i64 (i : Int)) ?_;simp only [zz];refine nA (.int .i64 (i : Int)) ?_;simp only [zz]
  go_upto_region 5 with fail
  refine wp_region_alw (fun W => Blk W q 90 (byteCells p)) (by kernel_rfl) ?_
  have hS0 : (fun W => Blk W q 90 (byteCells p)) wr.drew := HBQ.out.drew
  have HD := zH ((Turn.refl nowhere wr).drew)
  generalize wr.drew = wd at *
  have HBSD := zH (HBS.out.turn HD.out fun e => e)
  have HBRD := zH (HBR.out.turn HD.out fun e => e)
  have HTRD := zH (HTR.out.trans HD.out fun _ _ e => e)
  clear HBS HBR HTR
  refine aM 0 (.int .i64 (i : Int)) hS0 ?_;simp only [zz];refine aM 1 (.int .i64 (i : Int)) hS0 ?_;simp only [zz];refine aU 2 (.int .i64 ((4 * i : Nat) : Int)) rfl (fun W hW => ix_mul rfl rfl rfl (by omega) ⟨by omega, by omega⟩) hS0 ?_;simp only [zz];refine aU 3 (.pointer (some ⟨q, 0 + (4 * i) * 1, none⟩)) rfl (fun W hW => gx_aaddr_g (i := 4 * i) (sz := 1) rfl rfl rfl Tryz.underlying90 size_u8 (by have := HLT.out; omega) rfl) hS0 ?_;simp only [zz];refine aU 4 (.int .u8 ((p.getD (4 * i) 0).toNat : Int)) rfl (fun W hW => exec_load1 rfl rfl (by kernel_rfl) (ld_b hW (by rw [HP.out]; have := HLT.out; omega))) hS0 ?_;simp only [zz];refine aU 5 (.int .u32 ((Sh.wide (p.getD (4 * i) 0)).toNat : Int)) rfl (fun W hW => wd_wide rfl rfl) hS0 ?_;simp only [zz];refine aU 6 (.int .u32 (((Sh.wide (p.getD (4 * i) 0)) <<< 24).toNat : Int)) rfl (fun W hW => wd_shlc (s := 24) rfl rfl rfl (by decide)) hS0 ?_;simp only [zz];refine aM 7 (.int .i64 (i : Int)) hS0 ?_;simp only [zz];refine aU 8 (.int .i64 ((4 * i : Nat) : Int)) rfl (fun W hW => ix_mul rfl rfl rfl (by omega) ⟨by omega, by omega⟩) hS0 ?_;simp only [zz];refine aU 9 (.int .i64 ((4 * i + 1 : Nat) : Int)) rfl (fun W hW => ix_add rfl rfl rfl (by omega) ⟨by omega, by omega⟩) hS0 ?_;simp only [zz];refine aU 10 (.pointer (some ⟨q, 0 + (4 * i + 1) * 1, none⟩)) rfl (fun W hW => gx_aaddr_g (i := 4 * i + 1) (sz := 1) rfl rfl rfl Tryz.underlying90 size_u8 (by have := HLT.out; omega) rfl) hS0 ?_;simp only [zz];refine aU 11 (.int .u8 ((p.getD (4 * i + 1) 0).toNat : Int)) rfl (fun W hW => exec_load1 rfl rfl (by kernel_rfl) (ld_b hW (by rw [HP.out]; have := HLT.out; omega))) hS0 ?_
  simp only [zz];refine aU 12 (.int .u32 ((Sh.wide (p.getD (4 * i + 1) 0)).toNat : Int)) rfl (fun W hW => wd_wide rfl rfl) hS0 ?_;simp only [zz];refine aU 13 (.int .u32 (((Sh.wide (p.getD (4 * i + 1) 0)) <<< 16).toNat : Int)) rfl (fun W hW => wd_shlc (s := 16) rfl rfl rfl (by decide)) hS0 ?_;simp only [zz];refine aU 14 (.int .u32 ((((Sh.wide (p.getD (4 * i) 0)) <<< 24) ||| ((Sh.wide (p.getD (4 * i + 1) 0)) <<< 16)).toNat : Int)) rfl (fun W hW => wd_or rfl rfl rfl) hS0 ?_;simp only [zz];refine aM 15 (.int .i64 (i : Int)) hS0 ?_;simp only [zz];refine aU 16 (.int .i64 ((4 * i : Nat) : Int)) rfl (fun W hW => ix_mul rfl rfl rfl (by omega) ⟨by omega, by omega⟩) hS0 ?_;simp only [zz];refine aU 17 (.int .i64 ((4 * i + 2 : Nat) : Int)) rfl (fun W hW => ix_add rfl rfl rfl (by omega) ⟨by omega, by omega⟩) hS0 ?_;simp only [zz];refine aU 18 (.pointer (some ⟨q, 0 + (4 * i + 2) * 1, none⟩)) rfl (fun W hW => gx_aaddr_g (i := 4 * i + 2) (sz := 1) rfl rfl rfl Tryz.underlying90 size_u8 (by have := HLT.out; omega) rfl) hS0 ?_;simp only [zz];refine aU 19 (.int .u8 ((p.getD (4 * i + 2) 0).toNat : Int)) rfl (fun W hW => exec_load1 rfl rfl (by kernel_rfl) (ld_b hW (by rw [HP.out]; have := HLT.out; omega))) hS0 ?_;simp only [zz];refine aU 20 (.int .u32 ((Sh.wide (p.getD (4 * i + 2) 0)).toNat : Int)) rfl (fun W hW => wd_wide rfl rfl) hS0 ?_;simp only [zz];refine aU 21 (.int .u32 (((Sh.wide (p.getD (4 * i + 2) 0)) <<< 8).toNat : Int)) rfl (fun W hW => wd_shlc (s := 8) rfl rfl rfl (by decide)) hS0 ?_;simp only [zz]
  refine aU 22 (.int .u32 (((((Sh.wide (p.getD (4 * i) 0)) <<< 24) ||| ((Sh.wide (p.getD (4 * i + 1) 0)) <<< 16)) ||| ((Sh.wide (p.getD (4 * i + 2) 0)) <<< 8)).toNat : Int)) rfl (fun W hW => wd_or rfl rfl rfl) hS0 ?_;simp only [zz];refine aM 23 (.int .i64 (i : Int)) hS0 ?_;simp only [zz];refine aU 24 (.int .i64 ((4 * i : Nat) : Int)) rfl (fun W hW => ix_mul rfl rfl rfl (by omega) ⟨by omega, by omega⟩) hS0 ?_;simp only [zz];refine aU 25 (.int .i64 ((4 * i + 3 : Nat) : Int)) rfl (fun W hW => ix_add rfl rfl rfl (by omega) ⟨by omega, by omega⟩) hS0 ?_;simp only [zz];refine aU 26 (.pointer (some ⟨q, 0 + (4 * i + 3) * 1, none⟩)) rfl (fun W hW => gx_aaddr_g (i := 4 * i + 3) (sz := 1) rfl rfl rfl Tryz.underlying90 size_u8 (by have := HLT.out; omega) rfl) hS0 ?_;simp only [zz];refine aU 27 (.int .u8 ((p.getD (4 * i + 3) 0).toNat : Int)) rfl (fun W hW => exec_load1 rfl rfl (by kernel_rfl) (ld_b hW (by rw [HP.out]; have := HLT.out; omega))) hS0 ?_;simp only [zz];refine aU 28 (.int .u32 ((Sh.wide (p.getD (4 * i + 3) 0)).toNat : Int)) rfl (fun W hW => wd_wide rfl rfl) hS0 ?_;simp only [zz];refine aU 29 (.int .u32 ((((((Sh.wide (p.getD (4 * i) 0)) <<< 24) ||| ((Sh.wide (p.getD (4 * i + 1) 0)) <<< 16)) ||| ((Sh.wide (p.getD (4 * i + 2) 0)) <<< 8)) ||| (Sh.wide (p.getD (4 * i + 3) 0))).toNat : Int)) rfl (fun W hW => wd_or rfl rfl rfl) hS0 ?_;simp only [zz];refine aU 30 (.pointer (some ⟨s, 0 + i * 1, none⟩)) rfl (fun W hW => gx_aaddr_g (i := i) (sz := 1) rfl rfl rfl Tryz.underlying130 size_u32 (by have := HLT.out; omega) rfl) hS0 ?_
  simp only [zz]
  refine alw_step (i := 31) (by kernel_rfl) rfl rfl ?_
  intro K1 HK1
  refine wp_putU 93 (.tmp 43) (.tmp 42) rfl (.int .u32 ((((((Sh.wide (p.getD (4 * i) 0)) <<< 24) ||| ((Sh.wide (p.getD (4 * i + 1) 0)) <<< 16)) ||| ((Sh.wide (p.getD (4 * i + 2) 0)) <<< 8)) ||| (Sh.wide (p.getD (4 * i + 3) 0))).toNat : Int)) (wds (wz p (i + 1))) HBSD.out rfl rfl (by rw [wds_size, wz_len _ (by have := HLT.out; omega)]; have := HLT.out; omega) rfl rfl size_u32 (by rw [Nat.zero_add, Nat.mul_one, wds_set, ← HX.out, wz_set _ HLT64.out]) ?_
  intro w4 hb4 ht4
  have HBS4 := zH hb4
  have HT4 := zH ht4
  refine HK1.out _ _ ⟨hS0.turn (F := only s) HT4.out (fun e => HNqs.out e), ?_⟩
  clear HK1 hb4 ht4
  try simp only [zz]
  refine alw_done rfl ?_
  refine NoPanic.normal ?_
  clear hS0
  try simp only [zz]
  have HBQ4 := zH ((HBQ.out.turn HD.out fun e => e).turn (F := only s) HT4.out fun e => HNqs.out e)
  have HBR4 := zH (HBRD.out.turn (F := only s) HT4.out fun e => HNrs.out e)
  have HTR4 := zH (HTRD.out.trans HT4.out fun k hk e => by have := HLs2.out; have e : k = s := e; omega)
  go_upto_region 6 with fail
  refine wp_region_lit ?_
  refine nR (.int .i64 ((i + 1 : Nat) : Int)) (ix_add rfl rfl rfl (by omega) (by omega)) ?_;simp only [zz];refine nM (.int .i64 ((i + 1 : Nat) : Int)) ?_;simp only [zz]
  go_wp2_with fail
  go_roundg (16 - (i + 1))
  case measure => have := HGK.out; have := HLT.out; omega
  case rel => exact ⟨i + 1, rfl, by have := HLT.out; omega, HBS4.out, HBQ4.out, HBR4.out, HTR4.out⟩
 ·obtain rfl : i = 16 := by omega
  clear hlt HBQ
  go_upto_region 3 with fail
  refine wp_region_lit ?_
  refine nR (.bool false) (ix_lss rfl rfl rfl (by decide)) ?_;simp only [zz]
  go_upto_region 7 with fail
  refine wp_region_lit ?_
  refine nA (.int .i64 16) ?_;simp only [zz]
  go_wp2_with fail
  go_loopg [5] 48 (fun gk iv wq => ∃ i : Nat, iv = .int .i64 (i : Int) ∧ 16 ≤ i ∧ i + gk = 64 ∧ Blk wq s 130 (wds (wz p i)) ∧ Blk wq r 130 (wds (List.replicate 64 0)) ∧ Turn nowhere w wq)
  case atStart => exact ⟨16, rfl, Nat.le_refl _, rfl, HBS.out, HBR.out, HTR.out⟩
  clear HGK HBS HBR HTR
  obtain ⟨i, rfl, h16, hgk, hbs, hbr, htr⟩ := hrel
  have yi : (i : Int) ≤ 64 := by omega
  have y16 : 16 ≤ (i : Int) := by omega
  have HGK := zH hgk
  have H16 := zH h16
  have HBS := zH hbs
  have HBR := zH hbr
  have HTR := zH htr
  clear hgk hbs hbr htr h16
  by_cases hlt : i < 64
  ·have HLT := zH hlt
   have HLT64 := zH hlt
   have y3 : (i : Int) < 64 := by omega
   have HX := zH (nxt_hi p (Sh.wl p i) H16.out)
   have HZL := zH (wz_len p (t := i) (by omega))
   have HC2 := zH (show (wz p i).getD (i - 2) 0 = (Sh.wl p i).getD (i - 2) 0 from wz_get p (by have := H16.out; omega))
   have HC7 := zH (show (wz p i).getD (i - 7) 0 = (Sh.wl p i).getD (i - 7) 0 from wz_get p (by have := H16.out; omega))
   have HC15 := zH (show (wz p i).getD (i - 15) 0 = (Sh.wl p i).getD (i - 15) 0 from wz_get p (by have := H16.out; omega))
   have HC16 := zH (show (wz p i).getD (i - 16) 0 = (Sh.wl p i).getD (i - 16) 0 from wz_get p (by have := H16.out; omega))
   clear hlt
   obtain ⟨c2, hc2⟩ : ∃ c, c = (Sh.wl p i).getD (i - 2) 0 := ⟨_, rfl⟩
   obtain ⟨c7, hc7⟩ : ∃ c, c = (Sh.wl p i).getD (i - 7) 0 := ⟨_, rfl⟩
   obtain ⟨c15, hc15⟩ : ∃ c, c = (Sh.wl p i).getD (i - 15) 0 := ⟨_, rfl⟩
   obtain ⟨c16, hc16⟩ : ∃ c, c = (Sh.wl p i).getD (i - 16) 0 := ⟨_, rfl⟩
   rw [← hc2] at HC2 HX
   rw [← hc7] at HC7 HX
   rw [← hc15] at HC15 HX
   rw [← hc16] at HC16 HX
   clear hc2 hc7 hc15 hc16
   go_upto_region 8 with fail
   refine wp_region_lit ?_
   refine nM (.int .i64 (i : Int)) ?_;simp only [zz];refine nR (.bool true) (ix_lss rfl rfl rfl (decide_eq_true y3)) ?_;simp only [zz]
   go_upto_region 10 with fail
   refine wp_region_alw (fun W => Blk W s 130 (wds (wz p i))) (by kernel_rfl) ?_
   have hS0 : (fun W => Blk W s 130 (wds (wz p i))) wr.drew := HBS.out.drew
   have HD := zH ((Turn.refl nowhere wr).drew)
   generalize wr.drew = wd at *
   refine aM 0 (.int .i64 (i : Int)) hS0 ?_;simp only [zz];refine aU 1 (.int .i64 ((i - 15 : Nat) : Int)) rfl (fun W hW => ix_sub rfl rfl rfl (by have := H16.out; omega) ⟨by omega, by omega⟩) hS0 ?_;simp only [zz];refine aU 2 (.pointer (some ⟨s, 0 + (i - 15) * 1, none⟩)) rfl (fun W hW => gx_aaddr_g (i := i - 15) (sz := 1) rfl rfl rfl Tryz.underlying130 size_u32 (by have := HLT.out; have := H16.out; omega) rfl) hS0 ?_;simp only [zz];refine aU 3 (.int .u32 ((c15).toNat : Int)) rfl (fun W hW => exec_load1 rfl rfl (by kernel_rfl) (by rw [ld_w hW (by rw [HZL.out]; have := HLT.out; omega), HC15.out])) hS0 ?_;simp only [zz];refine aM 4 (.int .i64 (i : Int)) hS0 ?_;simp only [zz];refine aU 5 (.int .i64 ((i - 2 : Nat) : Int)) rfl (fun W hW => ix_sub rfl rfl rfl (by have := H16.out; omega) ⟨by omega, by omega⟩) hS0 ?_;simp only [zz];refine aU 6 (.pointer (some ⟨s, 0 + (i - 2) * 1, none⟩)) rfl (fun W hW => gx_aaddr_g (i := i - 2) (sz := 1) rfl rfl rfl Tryz.underlying130 size_u32 (by have := HLT.out; have := H16.out; omega) rfl) hS0 ?_;simp only [zz];refine aU 7 (.int .u32 ((c2).toNat : Int)) rfl (fun W hW => exec_load1 rfl rfl (by kernel_rfl) (by rw [ld_w hW (by rw [HZL.out]; have := HLT.out; omega), HC2.out])) hS0 ?_;simp only [zz];refine aU 8 (.int .u32 ((c15).toNat : Int)) rfl (fun W hW => gx_assign rfl rfl) hS0 ?_;simp only [zz];refine aU 9 (.int .u32 ((c2).toNat : Int)) rfl (fun W hW => gx_assign rfl rfl) hS0 ?_;simp only [zz]
   refine alw_done rfl ?_
   refine NoPanic.normal ?_
   clear hS0
   try simp only [zz]
   have HBSD := zH (HBS.out.turn HD.out fun e => e)
   have HBRD := zH (HBR.out.turn HD.out fun e => e)
   have HTRD := zH (HTR.out.trans HD.out fun _ _ e => e)
   clear HBS HBR HTR HD
   go_upto_region 11 with fail
   refine wp_region_lit ?_
   refine nM (.int .u32 ((c15).toNat : Int)) ?_;simp only [zz]
   refine wpList_op_g rfl fun K9 HK9 => ?_
   go_wp2_with fail
   refine (rot_walk c15 7 _ (by decide) (by decide)).mono ?_
   rintro e w9 ⟨rfl, rfl⟩
   refine HK9.out _ _ ?_
   clear HK9
   try simp only [zz]
   refine nM (.int .u32 ((c15).toNat : Int)) ?_;simp only [zz]
   refine wpList_op_g rfl fun K9 HK9 => ?_
   go_wp2_with fail
   refine (rot_walk c15 18 _ (by decide) (by decide)).mono ?_
   rintro e w9 ⟨rfl, rfl⟩
   refine HK9.out _ _ ?_
   clear HK9
   try simp only [zz]
   refine nR (.int .u32 (((Sh.rot c15 7) ^^^ (Sh.rot c15 18)).toNat : Int)) (wd_xor rfl rfl rfl) ?_;simp only [zz];refine nM (.int .u32 ((c15).toNat : Int)) ?_;simp only [zz];refine nR (.int .u32 (((c15) >>> 3).toNat : Int)) (wd_shrc (s := 3) rfl rfl rfl (by decide)) ?_;simp only [zz];refine nR (.int .u32 ((((Sh.rot c15 7) ^^^ (Sh.rot c15 18)) ^^^ ((c15) >>> 3)).toNat : Int)) (wd_xor rfl rfl rfl) ?_;simp only [zz];refine nA (.int .u32 ((Sh.s0 c15).toNat : Int)) ?_;simp only [zz]
   go_upto_region 12 with fail
   refine wp_region_lit ?_
   refine nM (.int .u32 ((c2).toNat : Int)) ?_;simp only [zz]
   refine wpList_op_g rfl fun K9 HK9 => ?_
   go_wp2_with fail
   refine (rot_walk c2 17 _ (by decide) (by decide)).mono ?_
   rintro e w9 ⟨rfl, rfl⟩
   refine HK9.out _ _ ?_
   clear HK9
   try simp only [zz]
   refine nM (.int .u32 ((c2).toNat : Int)) ?_;simp only [zz]
   refine wpList_op_g rfl fun K9 HK9 => ?_
   go_wp2_with fail
   refine (rot_walk c2 19 _ (by decide) (by decide)).mono ?_
   rintro e w9 ⟨rfl, rfl⟩
   refine HK9.out _ _ ?_
   clear HK9
   try simp only [zz]
   refine nR (.int .u32 (((Sh.rot c2 17) ^^^ (Sh.rot c2 19)).toNat : Int)) (wd_xor rfl rfl rfl) ?_;simp only [zz];refine nM (.int .u32 ((c2).toNat : Int)) ?_;simp only [zz];refine nR (.int .u32 (((c2) >>> 10).toNat : Int)) (wd_shrc (s := 10) rfl rfl rfl (by decide)) ?_;simp only [zz];refine nR (.int .u32 ((((Sh.rot c2 17) ^^^ (Sh.rot c2 19)) ^^^ ((c2) >>> 10)).toNat : Int)) (wd_xor rfl rfl rfl) ?_;simp only [zz];refine nA (.int .u32 ((Sh.s1 c2).toNat : Int)) ?_;simp only [zz]
   go_upto_region 13 with fail
   refine wp_region_alw (fun W => W.cell? ⟨s, 0 + (i - 7) * 1, none⟩ = some (.int .u32 (c7.toNat : Int)) ∧ W.cell? ⟨s, 0 + (i - 16) * 1, none⟩ = some (.int .u32 (c16.toNat : Int))) (by kernel_rfl) ?_
   have hS0 : (fun W => W.cell? ⟨s, 0 + (i - 7) * 1, none⟩ = some (.int .u32 (c7.toNat : Int)) ∧ W.cell? ⟨s, 0 + (i - 16) * 1, none⟩ = some (.int .u32 (c16.toNat : Int))) wd.drew := ⟨(by rw [ld_w HBSD.out.drew (by rw [HZL.out]; have := HLT.out; omega), HC7.out]), (by rw [ld_w HBSD.out.drew (by rw [HZL.out]; have := HLT.out; omega), HC16.out])⟩
   have HE := zH ((Turn.refl nowhere wd).drew)
   generalize wd.drew = we at *
   have HBSe := zH (HBSD.out.turn HE.out fun e => e)
   have HBRe := zH (HBRD.out.turn HE.out fun e => e)
   have HTRe := zH (HTRD.out.trans HE.out fun _ _ e => e)
   clear HBSD HBRD HTRD
   have HBSD := HBSe
   clear HBSe
   refine aM 0 (.int .i64 (i : Int)) hS0 ?_;simp only [zz];refine aM 1 (.int .u32 ((Sh.s1 c2).toNat : Int)) hS0 ?_;simp only [zz];refine aM 2 (.int .i64 (i : Int)) hS0 ?_;simp only [zz];refine aU 3 (.int .i64 ((i - 7 : Nat) : Int)) rfl (fun W hW => ix_sub rfl rfl rfl (by have := H16.out; omega) ⟨by omega, by omega⟩) hS0 ?_;simp only [zz];refine aU 4 (.pointer (some ⟨s, 0 + (i - 7) * 1, none⟩)) rfl (fun W hW => gx_aaddr_g (i := i - 7) (sz := 1) rfl rfl rfl Tryz.underlying130 size_u32 (by have := HLT.out; have := H16.out; omega) rfl) hS0 ?_;simp only [zz];refine aU 5 (.int .u32 ((c7).toNat : Int)) rfl (fun W hW => xL hW.1) hS0 ?_;simp only [zz];refine aU 6 (.int .u32 (((Sh.s1 c2) + c7).toNat : Int)) rfl (fun W hW => wd_add rfl rfl rfl) hS0 ?_;simp only [zz];refine aM 7 (.int .u32 ((Sh.s0 c15).toNat : Int)) hS0 ?_;simp only [zz];refine aU 8 (.int .u32 ((((Sh.s1 c2) + c7) + (Sh.s0 c15)).toNat : Int)) rfl (fun W hW => wd_add rfl rfl rfl) hS0 ?_;simp only [zz];refine aM 9 (.int .i64 (i : Int)) hS0 ?_;simp only [zz];refine aU 10 (.int .i64 ((i - 16 : Nat) : Int)) rfl (fun W hW => ix_sub rfl rfl rfl (by have := H16.out; omega) ⟨by omega, by omega⟩) hS0 ?_;simp only [zz];refine aU 11 (.pointer (some ⟨s, 0 + (i - 16) * 1, none⟩)) rfl (fun W hW => gx_aaddr_g (i := i - 16) (sz := 1) rfl rfl rfl Tryz.underlying130 size_u32 (by have := HLT.out; have := H16.out; omega) rfl) hS0 ?_;simp only [zz];refine aU 12 (.int .u32 ((c16).toNat : Int)) rfl (fun W hW => xL hW.2) hS0 ?_;simp only [zz];refine aU 13 (.int .u32 (((((Sh.s1 c2) + c7) + (Sh.s0 c15)) + c16).toNat : Int)) rfl (fun W hW => wd_add rfl rfl rfl) hS0 ?_
   simp only [zz];refine aU 14 (.pointer (some ⟨s, 0 + i * 1, none⟩)) rfl (fun W hW => gx_aaddr_g (i := i) (sz := 1) rfl rfl rfl Tryz.underlying130 size_u32 (by have := HLT.out; omega) rfl) hS0 ?_;simp only [zz]
   refine alw_step (i := 15) (by kernel_rfl) rfl rfl ?_
   intro K1 HK1
   refine wp_putU 93 (.tmp 87) (.tmp 86) rfl (.int .u32 (((((Sh.s1 c2) + c7) + (Sh.s0 c15)) + c16).toNat : Int)) (wds (wz p (i + 1))) HBSD.out rfl rfl (by rw [wds_size, HZL.out]; have := HLT.out; omega) rfl rfl size_u32 (by rw [Nat.zero_add, Nat.mul_one, wds_set, ← HX.out, wz_set _ HLT64.out]) ?_
   intro w4 hb4 ht4
   have HBS4 := zH hb4
   have HT4 := zH ht4
   refine HK1.out _ _ ⟨⟨?_, ?_⟩, ?_⟩
   ·rw [ld_w HBS4.out (by rw [wz_len _ (by have := HLT.out; omega)]; have := HLT.out; omega), wz_get p (by have := HLT.out; omega), Sh.wl_get p (n := i) (by have := H16.out; omega) (by omega), ← wz_get p (by have := H16.out; omega), HC7.out]
   ·rw [ld_w HBS4.out (by rw [wz_len _ (by have := HLT.out; omega)]; have := HLT.out; omega), wz_get p (by have := HLT.out; omega), Sh.wl_get p (n := i) (by have := H16.out; omega) (by omega), ← wz_get p (by have := H16.out; omega), HC16.out]
   clear HK1 hb4 ht4
   try simp only [zz]
   refine alw_done rfl ?_
   refine NoPanic.normal ?_
   clear hS0
   try simp only [zz]
   have HBR4 := zH (HBRe.out.turn (F := only s) HT4.out fun e => HNrs.out e)
   have HTR4 := zH (HTRe.out.trans HT4.out fun k hk e => by have := HLs2.out; have e : k = s := e; omega)
   go_upto_region 9 with fail
   refine wp_region_lit ?_
   refine nM (.int .i64 (i : Int)) ?_;simp only [zz];refine nR (.int .i64 ((i + 1 : Nat) : Int)) (ix_add rfl rfl rfl (by omega) (by omega)) ?_;simp only [zz];refine nA (.int .i64 ((i + 1 : Nat) : Int)) ?_;simp only [zz]
   go_wp2_with fail
   go_roundg (64 - (i + 1))
   case measure => have := HGK.out; have := HLT.out; omega
   case rel => exact ⟨i + 1, rfl, by have := H16.out; omega, by have := HLT.out; omega, HBS4.out, HBR4.out, HTR4.out⟩
  ·obtain rfl : i = 64 := by omega
   clear hlt
   have HBSZ := zH (show Blk wr s 130 (wds L) from by have h := HBS.out; rw [wz_full, HL.out] at h; exact h)
   clear HBS
   go_upto_region 8 with fail
   refine wp_region_lit ?_
   refine nM (.int .i64 ((64 : Nat) : Int)) ?_;simp only [zz];refine nR (.bool false) (ix_lss rfl rfl rfl (by decide)) ?_;simp only [zz]
   go_upto_region 14 with fail
   refine wp_region_lit ?_
   refine nR (.agg (wds L)) (gx_loads_g rfl rfl (blk_range_g HBSZ.out) Tryz.underlying130 rfl (size_u64.trans (congrArg some HZ.out.symm))) ?_;simp only [zz]
   refine wpList_store_row wn 130 (.tmp 2) (.tmp 88) rfl (wds L) HBR.out rfl rfl (by rw [HZ.out]; rfl) (by rw [size_u64, HZ.out]) (wds_one _) ?_
   intro w4 hb_ ht_
   have HBZ := zH hb_
   have HT4 := zH ht_
   clear hb_ ht_
   simp only [zz]
   have HTZ := zH (HTR.out.trans HT4.out fun k hk e => by have := HLr.out; have e : k = r := e; omega)
   go_wp2_with fail
   refine bodyPost_ret (v := .agg (wds L)) (ret_cell1_g rfl _ _ r _ _ _ rfl HBZ.out Tryz.underlying130 rfl (by rw [size_u64, HZ.out] <;> rfl)) rfl ?_
   exact ⟨rfl, HTZ.out⟩
set_option maxRecDepth 20000
def KT (w : World) : Prop := ∀ t, t < 64 → w.cell? ⟨5, t, none⟩ = some (.int .u32 ((Sh.kt t).toNat : Int))
theorem KT.turn {w w' : World} (h : KT w) (ht : Turn nowhere w w') : KT w' := fun t hl => (ht.cell (World.block_lt_of_cell? _ _ (h t hl)) (fun e => e)).trans (h t hl)
theorem gx_gaddr {P : Program} {a : Act} {o : Oper} {W : World} {t e : TypeId} {y : Operand} {b n i sz m : Nat} {k : IntKind} (ho : o.op = .indexAddr t (.global b) y) (hy : a.eval y = .int k (i : Int))
 (ht : P.underlying t = some (.array n e)) (hs : (P.info? e).map (·.size) = some sz) (hi : i < n) (hm : i * sz = m) : (execOp a.eval o).run P W = .ok (.value (.pointer (some ⟨b, 0 + m, none⟩))) W :=
 gx_aaddr_g (x := .global b) ho rfl hy ht hs hi (congrArg (0 + ·) hm)
theorem rs_succ (s : H8) (l : List Wd) (t : Nat) : Sh.rs s l (t + 1) = Sh.rnd (Sh.rs s l t) (Sh.kt t) (l.getD t 0) := rfl
theorem take_walk (s : H8) (p : B8) (w : World) (hp : p.length = 64) (hk : KT w) : Calls Tryz.prog 50 #[.agg (wds s.l), .agg (byteCells p)] w fun e w' => e = .returned (.agg (wds (Sh.comp s p).l)) ∧ Turn nowhere w w' := by
 have HP := zH hp
 have HK := zH hk
 obtain ⟨L, hL⟩ : ∃ L, Sh.wl p 64 = L := ⟨_, rfl⟩
 have HL := zH hL
 have HLL := zH (show L.length = 64 from by rw [← hL, Sh.wl_len])
 have HC := zH (show Sh.comp s p = Sh.add8 s (Sh.rs s L 64) from by rw [← hL]; rfl)
 generalize Sh.comp s p = cz at HC ⊢
 clear hp hk hL
 go_enter Tryz.func50, Tryz.ntmps50
 go_upto_region 0 with fail
 refine wp_region_lit ?_
 refine wR (v := .pointer (some ⟨(w).heap.size, 0, none⟩)) (w' := (w).alloc (.cells (wds s.l) 95)) wn (gx_box rfl rfl (box_wds s.l _)) ?_
 simp only [zz]
 refine wR (v := .pointer (some ⟨((w).alloc (.cells (wds s.l) 95)).heap.size, 0, none⟩)) (w' := ((w).alloc (.cells (wds s.l) 95)).alloc (.cells (byteCells p) 90)) wn (gx_box rfl rfl (box_pc p _)) ?_
 simp only [zz]
 refine wR (v := .pointer (some ⟨(((w).alloc (.cells (wds s.l) 95)).alloc (.cells (byteCells p) 90)).heap.size, 0, none⟩)) (w' := (((w).alloc (.cells (wds s.l) 95)).alloc (.cells (byteCells p) 90)).alloc (.cells (wds (List.replicate 8 0)) 95)) wn (gx_alloc rfl (zero_wds _)) ?_
 simp only [zz]
 have hb_q := ((Blk.new (w) 95 (wds s.l)).alloc (.cells (byteCells p) 90)).alloc (.cells (wds (List.replicate 8 0)) 95)
 have hb_b := (Blk.new ((w).alloc (.cells (wds s.l) 95)) 90 (byteCells p)).alloc (.cells (wds (List.replicate 8 0)) 95)
 have hb_r := Blk.new (((w).alloc (.cells (wds s.l) 95)).alloc (.cells (byteCells p) 90)) 95 (wds (List.replicate 8 0))
 have ht_ := (((Turn.refl nowhere (w)).alloc (.cells (wds s.l) 95)).alloc (.cells (byteCells p) 90)).alloc (.cells (wds (List.replicate 8 0)) 95)
 obtain ⟨n0_, hn0_⟩ : ∃ n, n = (w).heap.size := ⟨_, rfl⟩
 have hz_q : (w).heap.size = n0_ + 0 := by rw [hn0_]; simp
 have hz_b : ((w).alloc (.cells (wds s.l) 95)).heap.size = n0_ + 1 := by rw [hn0_]; simp
 have hz_r : (((w).alloc (.cells (wds s.l) 95)).alloc (.cells (byteCells p) 90)).heap.size = n0_ + 2 := by rw [hn0_]; simp
 obtain ⟨r, hg_⟩ : ∃ g, g = (((w).alloc (.cells (wds s.l) 95)).alloc (.cells (byteCells p) 90)).heap.size := ⟨_, rfl⟩
 rw [← hg_] at hb_r hz_r ⊢
 clear hg_
 obtain ⟨b, hg_⟩ : ∃ g, g = ((w).alloc (.cells (wds s.l) 95)).heap.size := ⟨_, rfl⟩
 rw [← hg_] at hb_b hz_b ⊢
 clear hg_
 obtain ⟨q, hg_⟩ : ∃ g, g = (w).heap.size := ⟨_, rfl⟩
 rw [← hg_] at hb_q hz_q ⊢
 clear hg_
 generalize (((w).alloc (.cells (wds s.l) 95)).alloc (.cells (byteCells p) 90)).alloc (.cells (wds (List.replicate 8 0)) 95) = w1 at *
 have HT1 := zH ht_
 clear ht_
 have HBq := zH hb_q
 have HLq := zH (show (w).heap.size ≤ q from by omega)
 clear hb_q
 have HBb := zH hb_b
 have HLb := zH (show (w).heap.size ≤ b from by omega)
 clear hb_b
 have HBr := zH hb_r
 have HLr := zH (show (w).heap.size ≤ r from by omega)
 clear hb_r
 have HNqb := zH (show q ≠ b from by omega)
 have HNqr := zH (show q ≠ r from by omega)
 have HNbr := zH (show b ≠ r from by omega)
 clear hn0_ hz_q hz_b hz_r
 clear n0_
 go_upto_region 1 with fail
 refine wp_region_lit ?_
 refine nR (.agg (byteCells p)) (gx_loads_g rfl rfl (blk_range_g HBb.out) Tryz.underlying90 rfl (size_pc.trans (congrArg some ((bc_size p).trans HP.out).symm))) ?_;simp only [zz]
 refine wpList_op_g rfl fun K9 HK9 => ?_
 go_wp2_with fail
 refine (spread_walk p w1 HP.out).mono ?_
 rintro e w2 ⟨rfl, ht⟩
 refine HK9.out _ _ ?_
 clear HK9
 try simp only [zz]
 rw [HL.out]
 have HBq2 := zH (HBq.out.turn ht fun e => e)
 have HBr2 := zH (HBr.out.turn ht fun e => e)
 have HT2 := zH (HT1.out.trans ht fun _ _ e => e)
 clear ht HBq HBb HBr HT1
 refine wR (v := .pointer (some ⟨w2.heap.size, 0, none⟩)) (w' := w2.alloc (.cells (wds (List.replicate 64 0)) 130)) wn (gx_alloc rfl (zero_u64 _)) ?_
 simp only [zz]
 have hb_ := Blk.new w2 130 (wds (List.replicate 64 0))
 have ht_ := (Turn.refl nowhere w2).alloc (.cells (wds (List.replicate 64 0)) 130)
 obtain ⟨g, hg_⟩ : ∃ g, g = w2.heap.size := ⟨_, rfl⟩
 rw [← hg_] at hb_ ⊢
 have HLg := zH (show w2.heap.size ≤ g from by omega)
 clear hg_
 generalize w2.alloc (.cells (wds (List.replicate 64 0)) 130) = w3 at *
 have HBg := zH hb_
 have HT3 := zH ht_
 clear hb_ ht_
 refine wpList_store_row wn 130 (.tmp 5) (.tmp 18) rfl (wds L) HBg.out rfl rfl (by rw [wds_size, wds_size, HLL.out]; rfl) (by rw [size_u64, wds_size, HLL.out]) (wds_one _) ?_
 intro w4 hb_ ht_
 have HBg4 := zH hb_
 have HT24 := zH (HT3.out.trans ht_ fun k hk e => by have := HLg.out; have e : k = g := e; omega)
 clear hb_ ht_
 try simp only [zz]
 have HBq4 := zH (HBq2.out.turn HT24.out fun e => e)
 have HBr4 := zH (HBr2.out.turn HT24.out fun e => e)
 have HT4 := zH (HT2.out.trans HT24.out fun _ _ e => e)
 clear HBq2 HBr2 HT2 HT3 HT24 HBg
 go_upto_region 2 with fail
 refine wp_region_alw (fun W => Blk W q 95 (wds s.l)) (by kernel_rfl) ?_
 have hS0 : (fun W => Blk W q 95 (wds s.l)) w4.drew := HBq4.out.drew
 have HD := zH ((Turn.refl nowhere w4).drew)
 generalize w4.drew = wd at *
 refine aU 0 (.pointer (some ⟨q, 0 + 0 * 1, none⟩)) rfl (fun W hW => gx_aaddr_g (i := 0) (sz := 1) rfl rfl rfl Tryz.underlying95 size_u32 (by decide) rfl) hS0 ?_;simp only [zz];refine aU 1 (.int .u32 ((s.a).toNat : Int)) rfl (fun W hW => exec_load1 rfl rfl (by kernel_rfl) (ld_w (l := s.l) (i := 0) hW (by rw [h8_len]; decide))) hS0 ?_;simp only [zz];refine aU 2 (.pointer (some ⟨q, 0 + 1 * 1, none⟩)) rfl (fun W hW => gx_aaddr_g (i := 1) (sz := 1) rfl rfl rfl Tryz.underlying95 size_u32 (by decide) rfl) hS0 ?_;simp only [zz];refine aU 3 (.int .u32 ((s.b).toNat : Int)) rfl (fun W hW => exec_load1 rfl rfl (by kernel_rfl) (ld_w (l := s.l) (i := 1) hW (by rw [h8_len]; decide))) hS0 ?_;simp only [zz];refine aU 4 (.pointer (some ⟨q, 0 + 2 * 1, none⟩)) rfl (fun W hW => gx_aaddr_g (i := 2) (sz := 1) rfl rfl rfl Tryz.underlying95 size_u32 (by decide) rfl) hS0 ?_;simp only [zz];refine aU 5 (.int .u32 ((s.c).toNat : Int)) rfl (fun W hW => exec_load1 rfl rfl (by kernel_rfl) (ld_w (l := s.l) (i := 2) hW (by rw [h8_len]; decide))) hS0 ?_;simp only [zz];refine aU 6 (.pointer (some ⟨q, 0 + 3 * 1, none⟩)) rfl (fun W hW => gx_aaddr_g (i := 3) (sz := 1) rfl rfl rfl Tryz.underlying95 size_u32 (by decide) rfl) hS0 ?_;simp only [zz];refine aU 7 (.int .u32 ((s.d).toNat : Int)) rfl (fun W hW => exec_load1 rfl rfl (by kernel_rfl) (ld_w (l := s.l) (i := 3) hW (by rw [h8_len]; decide))) hS0 ?_;simp only [zz];refine aU 8 (.pointer (some ⟨q, 0 + 4 * 1, none⟩)) rfl (fun W hW => gx_aaddr_g (i := 4) (sz := 1) rfl rfl rfl Tryz.underlying95 size_u32 (by decide) rfl) hS0 ?_
 simp only [zz];refine aU 9 (.int .u32 ((s.e).toNat : Int)) rfl (fun W hW => exec_load1 rfl rfl (by kernel_rfl) (ld_w (l := s.l) (i := 4) hW (by rw [h8_len]; decide))) hS0 ?_;simp only [zz];refine aU 10 (.pointer (some ⟨q, 0 + 5 * 1, none⟩)) rfl (fun W hW => gx_aaddr_g (i := 5) (sz := 1) rfl rfl rfl Tryz.underlying95 size_u32 (by decide) rfl) hS0 ?_;simp only [zz];refine aU 11 (.int .u32 ((s.f).toNat : Int)) rfl (fun W hW => exec_load1 rfl rfl (by kernel_rfl) (ld_w (l := s.l) (i := 5) hW (by rw [h8_len]; decide))) hS0 ?_;simp only [zz];refine aU 12 (.pointer (some ⟨q, 0 + 6 * 1, none⟩)) rfl (fun W hW => gx_aaddr_g (i := 6) (sz := 1) rfl rfl rfl Tryz.underlying95 size_u32 (by decide) rfl) hS0 ?_;simp only [zz];refine aU 13 (.int .u32 ((s.g).toNat : Int)) rfl (fun W hW => exec_load1 rfl rfl (by kernel_rfl) (ld_w (l := s.l) (i := 6) hW (by rw [h8_len]; decide))) hS0 ?_;simp only [zz];refine aU 14 (.pointer (some ⟨q, 0 + 7 * 1, none⟩)) rfl (fun W hW => gx_aaddr_g (i := 7) (sz := 1) rfl rfl rfl Tryz.underlying95 size_u32 (by decide) rfl) hS0 ?_;simp only [zz];refine aU 15 (.int .u32 ((s.h).toNat : Int)) rfl (fun W hW => exec_load1 rfl rfl (by kernel_rfl) (ld_w (l := s.l) (i := 7) hW (by rw [h8_len]; decide))) hS0 ?_;simp only [zz];refine aU 16 (.int .u32 ((s.a).toNat : Int)) rfl (fun W hW => gx_assign rfl rfl) hS0 ?_;simp only [zz];refine aU 17 (.int .u32 ((s.b).toNat : Int)) rfl (fun W hW => gx_assign rfl rfl) hS0 ?_;simp only [zz];refine aU 18 (.int .u32 ((s.c).toNat : Int)) rfl (fun W hW => gx_assign rfl rfl) hS0 ?_
 simp only [zz];refine aU 19 (.int .u32 ((s.d).toNat : Int)) rfl (fun W hW => gx_assign rfl rfl) hS0 ?_;simp only [zz];refine aU 20 (.int .u32 ((s.e).toNat : Int)) rfl (fun W hW => gx_assign rfl rfl) hS0 ?_;simp only [zz];refine aU 21 (.int .u32 ((s.f).toNat : Int)) rfl (fun W hW => gx_assign rfl rfl) hS0 ?_;simp only [zz];refine aU 22 (.int .u32 ((s.g).toNat : Int)) rfl (fun W hW => gx_assign rfl rfl) hS0 ?_;simp only [zz];refine aU 23 (.int .u32 ((s.h).toNat : Int)) rfl (fun W hW => gx_assign rfl rfl) hS0 ?_;simp only [zz]
 refine alw_done rfl ?_
 refine NoPanic.normal ?_
 clear hS0
 try simp only [zz]
 have HBqd := zH (HBq4.out.turn HD.out fun e => e)
 have HBrd := zH (HBr4.out.turn HD.out fun e => e)
 have HBgd := zH (HBg4.out.turn HD.out fun e => e)
 have HTd := zH (HT4.out.trans HD.out fun _ _ e => e)
 clear HBq4 HBr4 HBg4 HT4 HD
 go_upto_region 3 with fail
 refine wp_region_lit ?_
 refine nM (.int .i64 0) ?_;simp only [zz]
 go_wp2_with fail
 go_loopg [6, 7, 8, 9, 10, 11, 12, 13, 35] 64 (fun gk va vb vc vd ve vf vg vh iv wr => ∃ t : Nat, iv = .int .i64 (t : Int) ∧ va = .int .u32 ((Sh.rs s L t).a.toNat : Int) ∧ vb = .int .u32 ((Sh.rs s L t).b.toNat : Int) ∧ vc = .int .u32 ((Sh.rs s L t).c.toNat : Int) ∧ vd = .int .u32 ((Sh.rs s L t).d.toNat : Int) ∧ ve = .int .u32 ((Sh.rs s L t).e.toNat : Int) ∧ vf = .int .u32 ((Sh.rs s L t).f.toNat : Int) ∧ vg = .int .u32 ((Sh.rs s L t).g.toNat : Int) ∧ vh = .int .u32 ((Sh.rs s L t).h.toNat : Int) ∧ t + gk = 64 ∧ Blk wr q 95 (wds s.l) ∧ Blk wr r 95 (wds (List.replicate 8 0)) ∧ Blk wr g 130 (wds L) ∧ Turn nowhere w wr)
 case atStart => exact ⟨0, rfl, rfl, rfl, rfl, rfl, rfl, rfl, rfl, rfl, rfl, HBqd.out, HBrd.out, HBgd.out, HTd.out⟩
 obtain ⟨t, rfl, rfl, rfl, rfl, rfl, rfl, rfl, rfl, rfl, hgk, hbq, hbr, hbg, htr⟩ := hrel
 have yi : (t : Int) ≤ 64 := by omega
 have HGK := zH hgk
 have HBQ := zH hbq
 have HBR := zH hbr
 have HBG := zH hbg
 have HTR := zH htr
 clear hgk hbq hbr hbg htr
 by_cases hlt : t < 64
 ·as_aux_lemma =>
   have HLT := zH hlt
   have y3 : (t : Int) < 64 := by omega
   have HKR := zH (HK.out.turn HTR.out)
   clear hlt
   have HRS := zH (rs_succ s L t)
   obtain ⟨z2, hz2⟩ : ∃ z2, Sh.rs s L (t + 1) = z2 := ⟨_, rfl⟩
   rw [hz2] at HRS
   have HZ2 := zH hz2
   clear hz2
   generalize Sh.rs s L t = z at HRS ⊢
   have HKV := zH (HKR.out t HLT.out)
   obtain ⟨kk, hkk⟩ : ∃ kk, Sh.kt t = kk := ⟨_, rfl⟩
   rw [hkk] at HRS HKV
   obtain ⟨lt, hlt⟩ : ∃ lt, L.getD t 0 = lt := ⟨_, rfl⟩
   have HLV := zH (show ∀ W : World, Blk W g 130 (wds L) → W.cell? ⟨g, 0 + t * 1, none⟩ = some (.int .u32 (lt.toNat : Int)) from fun W h => by rw [ld_w h (by rw [HLL.out]; exact HLT.out), hlt])
   rw [hlt] at HRS
   clear hkk hlt
   obtain ⟨T1, hT1⟩ : ∃ T, Sh.t1 z kk lt = T := ⟨_, rfl⟩
   obtain ⟨T2, hT2⟩ : ∃ T, Sh.t2 z = T := ⟨_, rfl⟩
   have HX := zH (show z2 = ⟨T1 + T2, z.a, z.b, z.c, z.d + T1, z.e, z.f, z.g⟩ from by rw [← hT1, ← hT2]; exact HRS.out)
   have HT1e := zH hT1
   have HT2e := zH hT2
   clear hT1 hT2 HRS
   go_upto_region 4 with fail
   refine wp_region_lit ?_
   refine nR (.bool true) (ix_lss rfl rfl rfl (decide_eq_true y3)) ?_;simp only [zz]
   go_upto_region 5 with fail
   refine wp_region_lit ?_
   refine nM (.int .i64 (t : Int)) ?_;simp only [zz];refine nA (.int .i64 (t : Int)) ?_;simp only [zz]
   go_upto_region 6 with fail
   refine wp_region_alw (fun W => Blk W g 130 (wds L) ∧ W.cell? ⟨5, t, none⟩ = some (.int .u32 (kk.toNat : Int))) (by kernel_rfl) ?_
   have hS0 : (fun W => Blk W g 130 (wds L) ∧ W.cell? ⟨5, t, none⟩ = some (.int .u32 (kk.toNat : Int))) wr.drew := ⟨HBG.out.drew, HKV.out⟩
   have HD := zH ((Turn.refl nowhere wr).drew)
   generalize wr.drew = wd at *
   refine aM 0 (.int .u32 ((z.h).toNat : Int)) hS0 ?_;simp only [zz];refine aM 1 (.int .u32 ((z.e).toNat : Int)) hS0 ?_;simp only [zz];refine aM 3 (.int .u32 ((z.e).toNat : Int)) hS0 ?_;simp only [zz];refine aM 6 (.int .u32 ((z.e).toNat : Int)) hS0 ?_;simp only [zz];refine aM 10 (.int .u32 ((z.e).toNat : Int)) hS0 ?_;simp only [zz];refine aM 11 (.int .u32 ((z.f).toNat : Int)) hS0 ?_;simp only [zz];refine aU 12 (.int .u32 ((z.e &&& z.f).toNat : Int)) rfl (fun W hW => wd_and rfl rfl rfl) hS0 ?_;simp only [zz];refine aM 13 (.int .u32 ((z.e).toNat : Int)) hS0 ?_;simp only [zz];refine aU 14 (.int .u32 ((~~~ (z.e)).toNat : Int)) rfl (fun W hW => wd_not rfl rfl) hS0 ?_;simp only [zz];refine aM 15 (.int .u32 ((z.g).toNat : Int)) hS0 ?_;simp only [zz];refine aU 16 (.int .u32 (((~~~ (z.e)) &&& z.g).toNat : Int)) rfl (fun W hW => wd_and rfl rfl rfl) hS0 ?_;simp only [zz];refine aU 17 (.int .u32 (((z.e &&& z.f) ^^^ ((~~~ (z.e)) &&& z.g)).toNat : Int)) rfl (fun W hW => wd_xor rfl rfl rfl) hS0 ?_;simp only [zz];refine aM 19 (.int .i64 (t : Int)) hS0 ?_;simp only [zz];refine aU 20 (.pointer (some ⟨5, 0 + t, none⟩)) rfl (fun W hW => gx_gaddr (i := t) (sz := 1) (m := t) rfl rfl Tryz.underlying130 size_u32 HLT.out (Nat.mul_one _)) hS0 ?_;simp only [zz];refine aU 21 (.int .u32 ((kk).toNat : Int)) rfl (fun W hW => exec_load1 rfl rfl (by kernel_rfl) (by rw [Nat.zero_add]; exact hW.2)) hS0 ?_;simp only [zz];refine aM 23 (.int .i64 (t : Int)) hS0 ?_;simp only [zz];refine aU 24 (.pointer (some ⟨g, 0 + t * 1, none⟩)) rfl (fun W hW => gx_aaddr_g (i := t) (sz := 1) rfl rfl rfl Tryz.underlying130 size_u32 HLT.out rfl) hS0 ?_
   simp only [zz];refine aU 25 (.int .u32 ((lt).toNat : Int)) rfl (fun W hW => xL (HLV.out W hW.1)) hS0 ?_;simp only [zz]
   refine alw_step (i := 2) (by kernel_rfl) rfl rfl ?_
   intro K1 HK1
   go_wp2_with fail
   refine (rot_walk z.e 6 _ (by decide) (by decide)).mono ?_
   rintro e w9 ⟨rfl, rfl⟩
   refine HK1.out _ _ ⟨hS0, ?_⟩
   clear HK1
   try simp only [zz]
   refine alw_step (i := 4) (by kernel_rfl) rfl rfl ?_
   intro K1 HK1
   go_wp2_with fail
   refine (rot_walk z.e 11 _ (by decide) (by decide)).mono ?_
   rintro e w9 ⟨rfl, rfl⟩
   refine HK1.out _ _ ⟨hS0, ?_⟩
   clear HK1
   try simp only [zz]
   refine aU 5 (.int .u32 (((Sh.rot z.e 6) ^^^ (Sh.rot z.e 11)).toNat : Int)) rfl (fun W hW => wd_xor rfl rfl rfl) hS0 ?_;simp only [zz]
   refine alw_step (i := 7) (by kernel_rfl) rfl rfl ?_
   intro K1 HK1
   go_wp2_with fail
   refine (rot_walk z.e 25 _ (by decide) (by decide)).mono ?_
   rintro e w9 ⟨rfl, rfl⟩
   refine HK1.out _ _ ⟨hS0, ?_⟩
   clear HK1
   try simp only [zz]
   refine aU 8 (.int .u32 ((((Sh.rot z.e 6) ^^^ (Sh.rot z.e 11)) ^^^ (Sh.rot z.e 25)).toNat : Int)) rfl (fun W hW => wd_xor rfl rfl rfl) hS0 ?_;simp only [zz];refine aU 9 (.int .u32 ((z.h + (((Sh.rot z.e 6) ^^^ (Sh.rot z.e 11)) ^^^ (Sh.rot z.e 25))).toNat : Int)) rfl (fun W hW => wd_add rfl rfl rfl) hS0 ?_;simp only [zz];refine aU 18 (.int .u32 (((z.h + (((Sh.rot z.e 6) ^^^ (Sh.rot z.e 11)) ^^^ (Sh.rot z.e 25))) + ((z.e &&& z.f) ^^^ ((~~~ (z.e)) &&& z.g))).toNat : Int)) rfl (fun W hW => wd_add rfl rfl rfl) hS0 ?_;simp only [zz];refine aU 22 (.int .u32 ((((z.h + (((Sh.rot z.e 6) ^^^ (Sh.rot z.e 11)) ^^^ (Sh.rot z.e 25))) + ((z.e &&& z.f) ^^^ ((~~~ (z.e)) &&& z.g))) + kk).toNat : Int)) rfl (fun W hW => wd_add rfl rfl rfl) hS0 ?_;simp only [zz];refine aU 26 (.int .u32 (((((z.h + (((Sh.rot z.e 6) ^^^ (Sh.rot z.e 11)) ^^^ (Sh.rot z.e 25))) + ((z.e &&& z.f) ^^^ ((~~~ (z.e)) &&& z.g))) + kk) + lt).toNat : Int)) rfl (fun W hW => wd_add rfl rfl rfl) hS0 ?_;simp only [zz];refine aU 27 (.int .u32 ((Sh.t1 z kk lt).toNat : Int)) rfl (fun W hW => gx_assign rfl rfl) hS0 ?_;simp only [zz]
   refine alw_done rfl ?_
   refine NoPanic.normal ?_
   clear hS0
   try simp only [zz]
   rw [HT1e.out]
   have HBQd := zH (HBQ.out.turn HD.out fun e => e)
   have HBRd := zH (HBR.out.turn HD.out fun e => e)
   have HBGd := zH (HBG.out.turn HD.out fun e => e)
   have HTRd := zH (HTR.out.trans HD.out fun _ _ e => e)
   clear HBQ HBR HBG HTR HD HKV
   go_upto_region 7 with fail
   refine wp_region_lit ?_
   refine nM (.int .u32 ((z.a).toNat : Int)) ?_;simp only [zz]
   refine wpList_op_g rfl fun K9 HK9 => ?_
   go_wp2_with fail
   refine (rot_walk z.a 2 _ (by decide) (by decide)).mono ?_
   rintro e w9 ⟨rfl, rfl⟩
   refine HK9.out _ _ ?_
   clear HK9
   try simp only [zz]
   refine nM (.int .u32 ((z.a).toNat : Int)) ?_;simp only [zz]
   refine wpList_op_g rfl fun K9 HK9 => ?_
   go_wp2_with fail
   refine (rot_walk z.a 13 _ (by decide) (by decide)).mono ?_
   rintro e w9 ⟨rfl, rfl⟩
   refine HK9.out _ _ ?_
   clear HK9
   try simp only [zz]
   refine nR (.int .u32 (((Sh.rot z.a 2) ^^^ (Sh.rot z.a 13)).toNat : Int)) (wd_xor rfl rfl rfl) ?_;simp only [zz];refine nM (.int .u32 ((z.a).toNat : Int)) ?_;simp only [zz]
   refine wpList_op_g rfl fun K9 HK9 => ?_
   go_wp2_with fail
   refine (rot_walk z.a 22 _ (by decide) (by decide)).mono ?_
   rintro e w9 ⟨rfl, rfl⟩
   refine HK9.out _ _ ?_
   clear HK9
   try simp only [zz]
   refine nR (.int .u32 ((((Sh.rot z.a 2) ^^^ (Sh.rot z.a 13)) ^^^ (Sh.rot z.a 22)).toNat : Int)) (wd_xor rfl rfl rfl) ?_;simp only [zz];refine nM (.int .u32 ((z.a).toNat : Int)) ?_;simp only [zz];refine nM (.int .u32 ((z.b).toNat : Int)) ?_;simp only [zz];refine nR (.int .u32 ((z.a &&& z.b).toNat : Int)) (wd_and rfl rfl rfl) ?_;simp only [zz];refine nM (.int .u32 ((z.a).toNat : Int)) ?_;simp only [zz];refine nM (.int .u32 ((z.c).toNat : Int)) ?_;simp only [zz];refine nR (.int .u32 ((z.a &&& z.c).toNat : Int)) (wd_and rfl rfl rfl) ?_;simp only [zz];refine nR (.int .u32 (((z.a &&& z.b) ^^^ (z.a &&& z.c)).toNat : Int)) (wd_xor rfl rfl rfl) ?_;simp only [zz];refine nM (.int .u32 ((z.b).toNat : Int)) ?_;simp only [zz];refine nM (.int .u32 ((z.c).toNat : Int)) ?_;simp only [zz];refine nR (.int .u32 ((z.b &&& z.c).toNat : Int)) (wd_and rfl rfl rfl) ?_;simp only [zz];refine nR (.int .u32 ((((z.a &&& z.b) ^^^ (z.a &&& z.c)) ^^^ (z.b &&& z.c)).toNat : Int)) (wd_xor rfl rfl rfl) ?_;simp only [zz];refine nR (.int .u32 (((((Sh.rot z.a 2) ^^^ (Sh.rot z.a 13)) ^^^ (Sh.rot z.a 22)) + (((z.a &&& z.b) ^^^ (z.a &&& z.c)) ^^^ (z.b &&& z.c))).toNat : Int)) (wd_add rfl rfl rfl) ?_;simp only [zz];refine nA (.int .u32 ((Sh.t2 z).toNat : Int)) ?_;simp only [zz]
   rw [HT2e.out]
   go_upto_region 8 with fail
   refine wp_region_lit ?_
   refine nM (.int .u32 ((T1).toNat : Int)) ?_;simp only [zz];refine nM (.int .u32 ((T2).toNat : Int)) ?_;simp only [zz];refine nR (.int .u32 ((T1 + T2).toNat : Int)) (wd_add rfl rfl rfl) ?_;simp only [zz];refine nM (.int .u32 ((z.a).toNat : Int)) ?_;simp only [zz];refine nM (.int .u32 ((z.b).toNat : Int)) ?_;simp only [zz];refine nM (.int .u32 ((z.c).toNat : Int)) ?_;simp only [zz];refine nM (.int .u32 ((z.d).toNat : Int)) ?_;simp only [zz];refine nM (.int .u32 ((T1).toNat : Int)) ?_;simp only [zz];refine nR (.int .u32 ((z.d + T1).toNat : Int)) (wd_add rfl rfl rfl) ?_;simp only [zz];refine nM (.int .u32 ((z.e).toNat : Int)) ?_;simp only [zz];refine nM (.int .u32 ((z.f).toNat : Int)) ?_;simp only [zz];refine nM (.int .u32 ((z.g).toNat : Int)) ?_;simp only [zz];refine nA (.int .u32 ((T1 + T2).toNat : Int)) ?_;simp only [zz];refine nA (.int .u32 ((z.a).toNat : Int)) ?_;simp only [zz];refine nA (.int .u32 ((z.b).toNat : Int)) ?_;simp only [zz];refine nA (.int .u32 ((z.c).toNat : Int)) ?_;simp only [zz];refine nA (.int .u32 ((z.d + T1).toNat : Int)) ?_;simp only [zz];refine nA (.int .u32 ((z.e).toNat : Int)) ?_;simp only [zz];refine nA (.int .u32 ((z.f).toNat : Int)) ?_;simp only [zz];refine nA (.int .u32 ((z.g).toNat : Int)) ?_;simp only [zz]
   go_upto_region 9 with fail
   refine wp_region_lit ?_
   refine nR (.int .i64 ((t + 1 : Nat) : Int)) (ix_add rfl rfl rfl (by omega) (by omega)) ?_;simp only [zz];refine nM (.int .i64 ((t + 1 : Nat) : Int)) ?_;simp only [zz]
   go_wp2_with fail
   go_roundg (64 - (t + 1))
   case measure => have := HGK.out; have := HLT.out; omega
   case rel => exact ⟨t + 1, rfl, by rw [HZ2.out, HX.out], by rw [HZ2.out, HX.out], by rw [HZ2.out, HX.out], by rw [HZ2.out, HX.out], by rw [HZ2.out, HX.out], by rw [HZ2.out, HX.out], by rw [HZ2.out, HX.out], by rw [HZ2.out, HX.out], by have := HLT.out; omega, HBQd.out, HBRd.out, HBGd.out, HTRd.out⟩
 ·as_aux_lemma =>
   obtain rfl : t = 64 := by omega
   clear hlt
   generalize Sh.rs s L 64 = z at HC ⊢
   go_upto_region 4 with fail
   refine wp_region_lit ?_
   refine nR (.bool false) (ix_lss rfl rfl rfl (by decide)) ?_;simp only [zz]
   go_upto_region 10 with fail
   refine wp_region_lit ?_
   refine nR (.pointer (some ⟨q, 0 + 0 * 1, none⟩)) (gx_aaddr_g (i := 0) (sz := 1) rfl rfl rfl Tryz.underlying95 size_u32 (by decide) rfl) ?_;simp only [zz];refine nR (.int .u32 ((s.a).toNat : Int)) (exec_load1 rfl rfl (by kernel_rfl) (ld_w (l := s.l) (i := 0) HBQ.out (by rw [h8_len]; decide))) ?_;simp only [zz];refine nM (.int .u32 ((z.a).toNat : Int)) ?_;simp only [zz];refine nR (.int .u32 ((s.a + z.a).toNat : Int)) (wd_add rfl rfl rfl) ?_;simp only [zz];refine nR (.pointer (some ⟨q, 0 + 1 * 1, none⟩)) (gx_aaddr_g (i := 1) (sz := 1) rfl rfl rfl Tryz.underlying95 size_u32 (by decide) rfl) ?_;simp only [zz];refine nR (.int .u32 ((s.b).toNat : Int)) (exec_load1 rfl rfl (by kernel_rfl) (ld_w (l := s.l) (i := 1) HBQ.out (by rw [h8_len]; decide))) ?_;simp only [zz];refine nM (.int .u32 ((z.b).toNat : Int)) ?_;simp only [zz];refine nR (.int .u32 ((s.b + z.b).toNat : Int)) (wd_add rfl rfl rfl) ?_;simp only [zz];refine nR (.pointer (some ⟨q, 0 + 2 * 1, none⟩)) (gx_aaddr_g (i := 2) (sz := 1) rfl rfl rfl Tryz.underlying95 size_u32 (by decide) rfl) ?_;simp only [zz];refine nR (.int .u32 ((s.c).toNat : Int)) (exec_load1 rfl rfl (by kernel_rfl) (ld_w (l := s.l) (i := 2) HBQ.out (by rw [h8_len]; decide))) ?_;simp only [zz];refine nM (.int .u32 ((z.c).toNat : Int)) ?_;simp only [zz];refine nR (.int .u32 ((s.c + z.c).toNat : Int)) (wd_add rfl rfl rfl) ?_;simp only [zz];refine nR (.pointer (some ⟨q, 0 + 3 * 1, none⟩)) (gx_aaddr_g (i := 3) (sz := 1) rfl rfl rfl Tryz.underlying95 size_u32 (by decide) rfl) ?_
   simp only [zz];refine nR (.int .u32 ((s.d).toNat : Int)) (exec_load1 rfl rfl (by kernel_rfl) (ld_w (l := s.l) (i := 3) HBQ.out (by rw [h8_len]; decide))) ?_;simp only [zz];refine nM (.int .u32 ((z.d).toNat : Int)) ?_;simp only [zz];refine nR (.int .u32 ((s.d + z.d).toNat : Int)) (wd_add rfl rfl rfl) ?_;simp only [zz];refine nR (.pointer (some ⟨q, 0 + 4 * 1, none⟩)) (gx_aaddr_g (i := 4) (sz := 1) rfl rfl rfl Tryz.underlying95 size_u32 (by decide) rfl) ?_;simp only [zz];refine nR (.int .u32 ((s.e).toNat : Int)) (exec_load1 rfl rfl (by kernel_rfl) (ld_w (l := s.l) (i := 4) HBQ.out (by rw [h8_len]; decide))) ?_;simp only [zz];refine nM (.int .u32 ((z.e).toNat : Int)) ?_;simp only [zz];refine nR (.int .u32 ((s.e + z.e).toNat : Int)) (wd_add rfl rfl rfl) ?_;simp only [zz];refine nR (.pointer (some ⟨q, 0 + 5 * 1, none⟩)) (gx_aaddr_g (i := 5) (sz := 1) rfl rfl rfl Tryz.underlying95 size_u32 (by decide) rfl) ?_;simp only [zz];refine nR (.int .u32 ((s.f).toNat : Int)) (exec_load1 rfl rfl (by kernel_rfl) (ld_w (l := s.l) (i := 5) HBQ.out (by rw [h8_len]; decide))) ?_;simp only [zz];refine nM (.int .u32 ((z.f).toNat : Int)) ?_;simp only [zz];refine nR (.int .u32 ((s.f + z.f).toNat : Int)) (wd_add rfl rfl rfl) ?_;simp only [zz];refine nR (.pointer (some ⟨q, 0 + 6 * 1, none⟩)) (gx_aaddr_g (i := 6) (sz := 1) rfl rfl rfl Tryz.underlying95 size_u32 (by decide) rfl) ?_;simp only [zz];refine nR (.int .u32 ((s.g).toNat : Int)) (exec_load1 rfl rfl (by kernel_rfl) (ld_w (l := s.l) (i := 6) HBQ.out (by rw [h8_len]; decide))) ?_
   simp only [zz];refine nM (.int .u32 ((z.g).toNat : Int)) ?_;simp only [zz];refine nR (.int .u32 ((s.g + z.g).toNat : Int)) (wd_add rfl rfl rfl) ?_;simp only [zz];refine nR (.pointer (some ⟨q, 0 + 7 * 1, none⟩)) (gx_aaddr_g (i := 7) (sz := 1) rfl rfl rfl Tryz.underlying95 size_u32 (by decide) rfl) ?_;simp only [zz];refine nR (.int .u32 ((s.h).toNat : Int)) (exec_load1 rfl rfl (by kernel_rfl) (ld_w (l := s.l) (i := 7) HBQ.out (by rw [h8_len]; decide))) ?_;simp only [zz];refine nM (.int .u32 ((z.h).toNat : Int)) ?_;simp only [zz];refine nR (.int .u32 ((s.h + z.h).toNat : Int)) (wd_add rfl rfl rfl) ?_;simp only [zz];refine nR (.agg (wds (Sh.add8 s z).l)) (gx_build8 rfl rfl rfl rfl rfl rfl rfl rfl rfl (build_h8 (Sh.add8 s z) _)) ?_;simp only [zz]
   rw [← HC.out]
   refine wpList_store_row wn 95 (.tmp 4) (.tmp 130) rfl (wds cz.l) HBR.out rfl rfl (rfl) (by rw [size_wds] <;> rfl) (wds_one _) ?_
   intro w5 hb_ ht_
   have HBZ := zH hb_
   have HT5 := zH ht_
   clear hb_ ht_
   simp only [zz]
   have HTZ := zH (HTR.out.trans HT5.out fun k hk e => by have := HLr.out; have e : k = r := e; omega)
   go_wp2_with fail
   refine bodyPost_ret (v := .agg (wds cz.l)) (ret_cell1_g rfl _ _ r _ _ _ rfl HBZ.out Tryz.underlying95 rfl (by rw [size_wds] <;> rfl)) rfl ?_
   exact ⟨rfl, HTZ.out⟩
end Go.Proofs.YtkagijifkpoplaaGreatDoor
