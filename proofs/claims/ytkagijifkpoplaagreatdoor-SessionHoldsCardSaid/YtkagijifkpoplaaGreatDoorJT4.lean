/-
  Texts in one file. Conditions: the tables and the errors read as laid.
-/
import Derived.Test.YtkagijifkpoplaaGreatDoorJT3
import Derived.Laws.CopyRow
import Derived.Laws.IdiomCopy
import Derived.Test.YtkagijifkpoplaaGreatDoorJT0
import Derived.Test.YtkagijifkpoplaaGreatDoorJT1
set_option linter.unusedVariables false
set_option linter.unusedSimpArgs false
set_option maxRecDepth 40000
set_option maxHeartbeats 20000000
namespace Go.Proofs.YtkagijifkpoplaaGreatDoor
open Go.RowKit
open Sh (Wd B8 H8)
set_option maxRecDepth 20000
theorem sh_still {w w' : World} {A : Option Addr} {n : Nat} {bs : B8} (h : Bs w A n bs) (ht : Turn nowhere w w') : Bs w' A n bs := bs_below h (ht.below (Nat.le_refl _) fun _ _ e => e)
theorem sh_turn {w w' : World} {A : Option Addr} {n : Nat} {bs : B8} {F : Nat → Prop} (h : Bs w A n bs) (ht : Turn F w w') (hn : ∀ b off, 0 < n → A = some ⟨b, off, none⟩ → ¬ F b) : Bs w' A n bs := by
 obtain ⟨h1, h2, h3⟩ := h
 refine ⟨h1, h2, fun hp => ?_⟩
 obtain ⟨b, off, rfl, hc⟩ := h3 hp
 refine ⟨b, off, rfl, fun i hi => (ht.cell (World.block_lt_of_cell? _ _ (hc i hi)) (hn b off hp rfl)).trans (hc i hi)⟩
theorem sh_lt {w : World} {A : Option Addr} {n : Nat} {bs : B8} (h : Bs w A n bs) : ∀ b off, 0 < n → A = some ⟨b, off, none⟩ → b < w.heap.size := fun b off hp e => by
 obtain ⟨b', off', rfl, hc⟩ := h.2.2 hp
 obtain ⟨rfl, rfl⟩ : b' = b ∧ off' = off := by simpa using e
 exact World.block_lt_of_cell? _ _ (hc 0 hp)
def fromS (A : Option Addr) (c d : Nat) : Option Addr := if c = d then A else A.map (·.add (d * 1))
theorem sl_fromS (A : Option Addr) (n c d : Nat) (h0 : d ≤ n) (hc : n ≤ c) (W : World) : (Instr.sliceAt 22 (.slice A n c) (some (.int .i64 (d : Int))) none none).run Tryz.prog W = .ok (.slice (fromS A c d) (n - d) (c - d)) W := by
 obtain ⟨i, hi1, hi2⟩ := Option.map_eq_some_iff.1 size_u8
 have b1 : (0 : Int) ≤ (d : Int) ∧ (d : Int) ≤ (n : Int) := ⟨by omega, by omega⟩
 have hu := Tryz.underlying22
 simp [Instr.sliceAt, Instr.slice, Instr.sliceBounds, Instr.sliceBound, asIntOf, run_underlying hu, sizeOf, typeInfo, hi1, hi2, b1, fromS]
 intro h
 omega
theorem bs_fromS {W : World} {A : Option Addr} {n c d : Nat} {b : B8} (h : Bs W A n b) (hd : d ≤ n) (hc : n ≤ c) : Bs W (fromS A c d) (n - d) (b.drop d) := by
 obtain ⟨h1, h2, h3⟩ := h
 refine ⟨by rw [List.length_drop]; omega, by omega, fun hp => ?_⟩
 obtain ⟨g, off, rfl, hcell⟩ := h3 (by omega)
 refine ⟨g, off + d, ?_, fun i hi => ?_⟩
 ·unfold fromS
  rw [if_neg (by omega)]
  simp only [Option.map_some, Nat.mul_one]
  rw [add_nat]
 ·rw [Nat.add_assoc, hcell (d + i) (by omega), List.getD_eq_getElem?_getD, List.getD_eq_getElem?_getD, List.getElem?_drop]
theorem bs_arr {w : World} {g n : Nat} {t : TypeId} {l : B8} (h : Blk w g t (byteCells l)) (hl : l.length = n) (hm : n ≤ 1000) : Bs w (some ⟨g, 0, none⟩) n l :=
 ⟨hl, by unfold maxLen; omega, fun _ => ⟨g, 0, rfl, fun i hi => by rw [h.cell, Nat.zero_add, bc_at l (by omega)]⟩⟩
theorem run_copy_arr {w : World} {a : Option Addr} {len cap g N : Nat} {t ty : TypeId} {bs old : B8} (hs : Bs w a len bs) (hb : Blk w g t (byteCells old)) (hN : old.length = N) :
 ∃ w', (Builtin.copy_ #[22, 22] ty #[.slice (some ⟨g, 0, none⟩) N N, .slice a len cap]).run Tryz.prog w = .ok (.int .i64 (min len N : Nat)) w' ∧ Blk w' g t (byteCells (bs.take N ++ old.drop (min len N))) ∧ Turn (only g) w w' := by
 obtain ⟨hl, hm, hc⟩ := hs
 by_cases h0 : 0 < len
 ·obtain ⟨b, off, rfl, hcell⟩ := hc h0
  have hlen : (bcs (bs.take N)).length = min len N := by rw [bcs_length, List.length_take, hl]; omega
  have h := run_copy_row (P := Tryz.prog) w 22 22 ty 5 g 0 N N ⟨b, off, none⟩ len cap (byteCells old) t (bcs (bs.take N)) Tryz.underlying22 size_u8 hb hlen (fun j v hj => by
   rw [add_nat]
   have hj1 := (List.getElem?_eq_some_iff.1 hj).1
   have hj3 : j < (bs.take N).length := by rwa [bcs_length] at hj1
   have hj2 : j < len := by rw [List.length_take] at hj3; omega
   rw [hcell j hj2, ← hj, bcs_at _ _ hj3, List.getD_eq_getElem?_getD, List.getD_eq_getElem?_getD, List.getElem?_take_of_lt (by rw [List.length_take] at hj3; omega)]) (by rw [hlen, bc_size, hN]; omega) (bcs_one _)
  rw [hlen] at h
  refine ⟨_, h, ?_, ⟨rfl, rfl, rfl, by simp, fun k hk hn => setRow_other w g k _ hn⟩⟩
  have e : ((byteCells old).toList.take 0 ++ bcs (bs.take N) ++ (byteCells old).toList.drop (0 + min len N)).toArray = byteCells (bs.take N ++ old.drop (min len N)) := by
   rw [Nat.zero_add, List.take_zero, List.nil_append]
   unfold byteCells bcs
   rw [List.toList_toArray, ← List.map_drop, List.map_append]
  rw [e]
  exact setRow_heap w g _ _ t _ hb
 ·have h0 : len = 0 := by omega
  subst h0
  have hbs : bs = [] := List.length_eq_zero_iff.1 hl
  subst hbs
  have h := run_copy_none (P := Tryz.prog) w 22 22 ty 5 (some ⟨g, 0, none⟩) a N N 0 cap Tryz.underlying22 size_u8 (by simp)
  refine ⟨w, ?_, ?_, Turn.refl _ _⟩
  ·rw [h, Nat.zero_min]; rfl
  ·rw [Nat.zero_min, List.drop_zero, List.take_nil, List.nil_append]
   exact hb
theorem sl_pc (g : Nat) (W : World) : (Instr.sliceAt 90 (.pointer (some ⟨g, 0, none⟩)) none none none).run Tryz.prog W = .ok (.slice (some ⟨g, 0, none⟩) 64 64) W := by kernel_rfl
theorem sl_hs (g : Nat) (W : World) : (Instr.sliceAt 76 (.pointer (some ⟨g, 0, none⟩)) none none none).run Tryz.prog W = .ok (.slice (some ⟨g, 0, none⟩) 32 32) W := by kernel_rfl
theorem set_zs {A : B8} {i m : Nat} (hA : A.length = i) (hm : 0 < m) (v : UInt8) : (A ++ Sh.zs m).set i v = (A ++ [v]) ++ Sh.zs (m - 1) := by
 rw [set_mid hA _ (by intro e; have e1 := congrArg List.length e; rw [Sh.zs_len] at e1; simp at e1; omega)]
 unfold Sh.zs
 rw [List.tail_replicate]
def ow (l : List Wd) : B8 := l.flatMap Sh.outw
theorem ow_len (l : List Wd) : (ow l).length = 4 * l.length := by
 induction l with
 | nil => rfl
 | cons x l ih => rw [ow, List.flatMap_cons, List.length_append, ← ow, ih, List.length_cons]; simp only [Sh.outw, List.length_cons, List.length_nil]; omega
theorem ow_out (s : H8) : Sh.out s = ow s.l := rfl
theorem ow_next (l : List Wd) {i : Nat} (h : i < l.length) : ow (l.take (i + 1)) = (((ow (l.take i) ++ [Sh.low (l.getD i 0 >>> 24)]) ++ [Sh.low (l.getD i 0 >>> 16)]) ++ [Sh.low (l.getD i 0 >>> 8)]) ++ [Sh.low (l.getD i 0)] := by
 rw [List.take_succ_eq_append_getElem h, ow, List.flatMap_append, List.getD_eq_getElem?_getD, List.getElem?_eq_getElem h, ← ow]
 simp only [List.flatMap_cons, List.flatMap_nil, List.append_nil, Option.getD_some, List.append_assoc]
 rfl
theorem value_walk (s : H8) (w : World) : Calls Tryz.prog 72 #[.agg (wds s.l)] w fun e w' => e = .returned (.agg (byteCells (Sh.out s))) ∧ Turn nowhere w w' := by
 rw [ow_out]
 obtain ⟨l, hl⟩ : ∃ l, s.l = l := ⟨_, rfl⟩
 have HL := zH (show l.length = 8 from by rw [← hl]; rfl)
 rw [hl]
 clear hl
 have HO := zH (show (ow l).length = 32 from by rw [ow_len, HL.out])
 go_enter Tryz.func72, Tryz.ntmps72
 go_upto_region 0 with fail
 refine wp_region_lit ?_
 refine wR (v := .pointer (some ⟨(w).heap.size, 0, none⟩)) (w' := (w).alloc (.cells (wds l) 95)) wn (gx_box rfl rfl (box_wds l _)) ?_
 simp only [zz]
 refine wR (v := .pointer (some ⟨((w).alloc (.cells (wds l) 95)).heap.size, 0, none⟩)) (w' := ((w).alloc (.cells (wds l) 95)).alloc (.cells (byteCells (Sh.zs 32)) 76)) wn (gx_alloc rfl (zero_hs _)) ?_
 simp only [zz]
 have hb_q := (Blk.new (w) 95 (wds l)).alloc (.cells (byteCells (Sh.zs 32)) 76)
 have hb_r := Blk.new ((w).alloc (.cells (wds l) 95)) 76 (byteCells (Sh.zs 32))
 have ht_ := ((Turn.refl nowhere (w)).alloc (.cells (wds l) 95)).alloc (.cells (byteCells (Sh.zs 32)) 76)
 obtain ⟨n0_, hn0_⟩ : ∃ n, n = (w).heap.size := ⟨_, rfl⟩
 have hz_q : (w).heap.size = n0_ + 0 := by rw [hn0_]; simp
 have hz_r : ((w).alloc (.cells (wds l) 95)).heap.size = n0_ + 1 := by rw [hn0_]; simp
 obtain ⟨r, hg_⟩ : ∃ g, g = ((w).alloc (.cells (wds l) 95)).heap.size := ⟨_, rfl⟩
 rw [← hg_] at hb_r hz_r ⊢
 clear hg_
 obtain ⟨q, hg_⟩ : ∃ g, g = (w).heap.size := ⟨_, rfl⟩
 rw [← hg_] at hb_q hz_q ⊢
 clear hg_
 generalize ((w).alloc (.cells (wds l) 95)).alloc (.cells (byteCells (Sh.zs 32)) 76) = w1 at *
 have HT1 := zH ht_
 clear ht_
 have HBq := zH hb_q
 have HLq := zH (show (w).heap.size ≤ q from by omega)
 clear hb_q
 have HBr := zH hb_r
 have HLr := zH (show (w).heap.size ≤ r from by omega)
 clear hb_r
 have HNqr := zH (show q ≠ r from by omega)
 clear hn0_ hz_q hz_r
 clear n0_
 go_upto_region 1 with fail
 refine wp_region_lit ?_
 refine wR (v := .pointer (some ⟨(w1).heap.size, 0, none⟩)) (w' := (w1).alloc (.cells (byteCells (Sh.zs 32)) 76)) wn (gx_alloc rfl (zero_hs _)) ?_
 simp only [zz]
 have hb_s := Blk.new (w1) 76 (byteCells (Sh.zs 32))
 have ht_ := (Turn.refl nowhere (w1)).alloc (.cells (byteCells (Sh.zs 32)) 76)
 obtain ⟨n0_, hn0_⟩ : ∃ n, n = (w1).heap.size := ⟨_, rfl⟩
 have hz_s : (w1).heap.size = n0_ + 0 := by rw [hn0_]; simp
 obtain ⟨s, hg_⟩ : ∃ g, g = (w1).heap.size := ⟨_, rfl⟩
 rw [← hg_] at hb_s hz_s ⊢
 clear hg_
 generalize (w1).alloc (.cells (byteCells (Sh.zs 32)) 76) = w2 at *
 have HT2 := zH ht_
 clear ht_
 have HBs := zH hb_s
 have HLs := zH (show (w1).heap.size ≤ s from by omega)
 clear hb_s
 clear hn0_ hz_s
 clear n0_
 go_upto_region 2 with fail
 refine wp_region_lit ?_
 refine nR (.agg (wds l)) (gx_loads_g rfl rfl (blk_range_g (HBq.out.turn HT2.out fun e => e)) Tryz.underlying95 rfl (size_wds.trans (congrArg some ((wds_size l).trans HL.out).symm))) ?_;simp only [zz];refine nM (.int .i64 0) ?_;simp only [zz]
 have HBr2 := zH (HBr.out.turn HT2.out fun e => e)
 have HLs2 := zH (show w.heap.size ≤ s from Nat.le_trans HT1.out.size HLs.out)
 have HNrs := zH (show r ≠ s from by have := HBr.out.lt; have := HLs.out; omega)
 have HT12 := zH (HT1.out.trans HT2.out fun _ _ e => e)
 go_wp2_with fail
 go_loopg [7] 8 (fun gk iv wr => ∃ i : Nat, iv = .int .i64 (i : Int) ∧ i + gk = 8 ∧ Blk wr s 76 (byteCells (ow (l.take i) ++ Sh.zs (32 - 4 * i))) ∧ Blk wr r 76 (byteCells (Sh.zs 32)) ∧ Turn nowhere w wr)
 case atStart => exact ⟨0, rfl, rfl, HBs.out, HBr2.out, HT12.out⟩
 obtain ⟨i, rfl, hgk, hbs, hbr, htr⟩ := hrel
 have HGK := zH hgk
 have HBS := zH hbs
 have HBR := zH hbr
 have HTR := zH htr
 have yi : (i : Int) ≤ 8 := by omega
 clear hgk hbs hbr htr
 by_cases hlt : i < 8
 ·as_aux_lemma =>
   have HLT := zH hlt
   have y3 : (i : Int) < 8 := by omega
   have HLI := zH (show i < l.length from by rw [HL.out]; exact hlt)
   have HNX := zH (ow_next l (i := i) (by rw [HL.out]; exact hlt))
   have HA := zH (show (ow (l.take i)).length = 4 * i from by rw [ow_len, List.length_take, HL.out]; omega)
   have HV := zH (wds_at l (j := i) (by rw [HL.out]; exact hlt))
   obtain ⟨x, hx⟩ : ∃ x, l.getD i 0 = x := ⟨_, rfl⟩
   rw [hx] at HNX HV
   obtain ⟨A, hA⟩ : ∃ A, ow (l.take i) = A := ⟨_, rfl⟩
   rw [hA] at HNX HA HBS
   clear hlt hx hA
   go_upto_region 3 with fail
   refine wp_region_lit ?_
   refine nR (.bool true) (ix_lss rfl rfl rfl (decide_eq_true y3)) ?_;simp only [zz]
   go_upto_region 4 with fail
   refine wp_region_lit ?_
   refine nM (.int .i64 (i : Int)) ?_;simp only [zz];refine nR (.int .u32 ((x).toNat : Int)) (exec_index1 rfl rfl rfl Tryz.underlying95 HLT.out (by kernel_rfl) (by kernel_rfl) HV.out) ?_;simp only [zz];refine nA (.int .i64 (i : Int)) ?_;simp only [zz];refine nA (.int .u32 ((x).toNat : Int)) ?_;simp only [zz]
   go_upto_region 5 with fail
   refine wp_region_lit ?_
   refine nM (.int .i64 (i : Int)) ?_;simp only [zz];refine nR (.int .i64 ((4 * i : Nat) : Int)) (ix_mul rfl rfl rfl (by omega) ⟨by omega, by omega⟩) ?_;simp only [zz];refine nM (.int .i64 (i : Int)) ?_;simp only [zz];refine nR (.int .i64 ((4 * i : Nat) : Int)) (ix_mul rfl rfl rfl (by omega) ⟨by omega, by omega⟩) ?_;simp only [zz];refine nR (.int .i64 ((4 * i + 1 : Nat) : Int)) (ix_add rfl rfl rfl (by omega) ⟨by omega, by omega⟩) ?_;simp only [zz];refine nM (.int .i64 (i : Int)) ?_;simp only [zz];refine nR (.int .i64 ((4 * i : Nat) : Int)) (ix_mul rfl rfl rfl (by omega) ⟨by omega, by omega⟩) ?_;simp only [zz];refine nR (.int .i64 ((4 * i + 2 : Nat) : Int)) (ix_add rfl rfl rfl (by omega) ⟨by omega, by omega⟩) ?_;simp only [zz];refine nM (.int .i64 (i : Int)) ?_;simp only [zz];refine nR (.int .i64 ((4 * i : Nat) : Int)) (ix_mul rfl rfl rfl (by omega) ⟨by omega, by omega⟩) ?_;simp only [zz];refine nR (.int .i64 ((4 * i + 3 : Nat) : Int)) (ix_add rfl rfl rfl (by omega) ⟨by omega, by omega⟩) ?_;simp only [zz];refine nM (.int .u32 ((x).toNat : Int)) ?_;simp only [zz];refine nR (.int .u32 (((x) >>> 24).toNat : Int)) (wd_shrc (s := 24) rfl rfl rfl (by decide)) ?_;simp only [zz];refine nR (.int .u8 ((Sh.low ((x) >>> 24)).toNat : Int)) (wd_low rfl rfl) ?_;simp only [zz];refine nM (.int .u32 ((x).toNat : Int)) ?_;simp only [zz];refine nR (.int .u32 (((x) >>> 16).toNat : Int)) (wd_shrc (s := 16) rfl rfl rfl (by decide)) ?_;simp only [zz];refine nR (.int .u8 ((Sh.low ((x) >>> 16)).toNat : Int)) (wd_low rfl rfl) ?_
   simp only [zz];refine nM (.int .u32 ((x).toNat : Int)) ?_;simp only [zz];refine nR (.int .u32 (((x) >>> 8).toNat : Int)) (wd_shrc (s := 8) rfl rfl rfl (by decide)) ?_;simp only [zz];refine nR (.int .u8 ((Sh.low ((x) >>> 8)).toNat : Int)) (wd_low rfl rfl) ?_;simp only [zz];refine nM (.int .u32 ((x).toNat : Int)) ?_;simp only [zz];refine nR (.int .u8 ((Sh.low (x)).toNat : Int)) (wd_low rfl rfl) ?_;simp only [zz];refine nR (.pointer (some ⟨s, 0 + (4 * i) * 1, none⟩)) (gx_aaddr_g (i := 4 * i) (sz := 1) rfl rfl rfl Tryz.underlying76 size_u8 (by have := HLT.out; omega) rfl) ?_;simp only [zz]
   refine wpList_put wn 5 (.tmp 33) (.tmp 24) rfl (.int .u8 ((Sh.low (x >>> 24)).toNat : Int)) (byteCells ((A ++ [Sh.low (x >>> 24)]) ++ Sh.zs (32 - 4 * i - 1))) HBS.out rfl rfl (by rw [bc_size]; simp only [List.length_append, List.length_singleton, Sh.zs_len, HA.out]; have := HLT.out; omega) rfl rfl size_u8 (by
    rw [Nat.zero_add, Nat.mul_one, bc_set, set_zs (by simp only [List.length_append, List.length_singleton, HA.out]) (by have := HLT.out; omega)]) ?_
   intro x0 hb4 ht4
   have HB0 := zH hb4
   have HX0 := zH ht4
   clear hb4 ht4
   simp only [zz];refine nR (.pointer (some ⟨s, 0 + (4 * i + 1) * 1, none⟩)) (gx_aaddr_g (i := 4 * i + 1) (sz := 1) rfl rfl rfl Tryz.underlying76 size_u8 (by have := HLT.out; omega) rfl) ?_;simp only [zz]
   refine wpList_put wn 5 (.tmp 34) (.tmp 27) rfl (.int .u8 ((Sh.low (x >>> 16)).toNat : Int)) (byteCells (((A ++ [Sh.low (x >>> 24)]) ++ [Sh.low (x >>> 16)]) ++ Sh.zs (32 - 4 * i - 2))) HB0.out rfl rfl (by rw [bc_size]; simp only [List.length_append, List.length_singleton, Sh.zs_len, HA.out]; have := HLT.out; omega) rfl rfl size_u8 (by
    rw [Nat.zero_add, Nat.mul_one, bc_set, set_zs (by simp only [List.length_append, List.length_singleton, HA.out]) (by have := HLT.out; omega), show 32 - 4 * i - 1 - 1 = 32 - 4 * i - 2 from by omega]) ?_
   intro x1 hb4 ht4
   have HB1 := zH hb4
   have HX1 := zH (HX0.out.trans ht4 fun _ _ e => e)
   clear hb4 ht4
   simp only [zz];refine nR (.pointer (some ⟨s, 0 + (4 * i + 2) * 1, none⟩)) (gx_aaddr_g (i := 4 * i + 2) (sz := 1) rfl rfl rfl Tryz.underlying76 size_u8 (by have := HLT.out; omega) rfl) ?_;simp only [zz]
   refine wpList_put wn 5 (.tmp 35) (.tmp 30) rfl (.int .u8 ((Sh.low (x >>> 8)).toNat : Int)) (byteCells ((((A ++ [Sh.low (x >>> 24)]) ++ [Sh.low (x >>> 16)]) ++ [Sh.low (x >>> 8)]) ++ Sh.zs (32 - 4 * i - 3))) HB1.out rfl rfl (by rw [bc_size]; simp only [List.length_append, List.length_singleton, Sh.zs_len, HA.out]; have := HLT.out; omega) rfl rfl size_u8 (by
    rw [Nat.zero_add, Nat.mul_one, bc_set, set_zs (by simp only [List.length_append, List.length_singleton, HA.out]) (by have := HLT.out; omega), show 32 - 4 * i - 2 - 1 = 32 - 4 * i - 3 from by omega]) ?_
   intro x2 hb4 ht4
   have HB2 := zH hb4
   have HX2 := zH (HX1.out.trans ht4 fun _ _ e => e)
   clear hb4 ht4
   simp only [zz];refine nR (.pointer (some ⟨s, 0 + (4 * i + 3) * 1, none⟩)) (gx_aaddr_g (i := 4 * i + 3) (sz := 1) rfl rfl rfl Tryz.underlying76 size_u8 (by have := HLT.out; omega) rfl) ?_;simp only [zz]
   refine wpList_put wn 5 (.tmp 36) (.tmp 32) rfl (.int .u8 ((Sh.low x).toNat : Int)) (byteCells (((((A ++ [Sh.low (x >>> 24)]) ++ [Sh.low (x >>> 16)]) ++ [Sh.low (x >>> 8)]) ++ [Sh.low x]) ++ Sh.zs (32 - 4 * i - 4))) HB2.out rfl rfl (by rw [bc_size]; simp only [List.length_append, List.length_singleton, Sh.zs_len, HA.out]; have := HLT.out; omega) rfl rfl size_u8 (by
    rw [Nat.zero_add, Nat.mul_one, bc_set, set_zs (by simp only [List.length_append, List.length_singleton, HA.out]) (by have := HLT.out; omega), show 32 - 4 * i - 3 - 1 = 32 - 4 * i - 4 from by omega]) ?_
   intro x3 hb4 ht4
   have HB3 := zH hb4
   have HX3 := zH (HX2.out.trans ht4 fun _ _ e => e)
   clear hb4 ht4
   simp only [zz]
   have HBS4 := zH (show Blk x3 s 76 (byteCells (ow (l.take (i + 1)) ++ Sh.zs (32 - 4 * (i + 1)))) from by rw [HNX.out, show 32 - 4 * (i + 1) = 32 - 4 * i - 4 from by omega]; exact HB3.out)
   have HBR4 := zH (HBR.out.turn (F := only s) HX3.out fun e => HNrs.out e)
   have HTR4 := zH (HTR.out.trans HX3.out fun k hk e => by have := HLs2.out; have e : k = s := e; omega)
   go_upto_region 6 with fail
   refine wp_region_lit ?_
   refine nR (.int .i64 ((i + 1 : Nat) : Int)) (ix_add rfl rfl rfl (by omega) (by omega)) ?_;simp only [zz];refine nM (.int .i64 ((i + 1 : Nat) : Int)) ?_;simp only [zz]
   go_wp2_with fail
   go_roundg (8 - (i + 1))
   case measure => have := HGK.out; have := HLT.out; omega
   case rel => exact ⟨i + 1, rfl, by have := HLT.out; omega, HBS4.out, HBR4.out, HTR4.out⟩
 ·as_aux_lemma =>
   obtain rfl : i = 8 := by omega
   clear hlt
   have HBSZ := zH (show Blk wr s 76 (byteCells (ow l)) from by have h := HBS.out; rw [List.take_of_length_le (by rw [HL.out]; omega)] at h; simpa [Sh.zs] using h)
   clear HBS
   go_upto_region 3 with fail
   refine wp_region_lit ?_
   refine nR (.bool false) (ix_lss rfl rfl rfl (by decide)) ?_;simp only [zz]
   go_upto_region 7 with fail
   refine wp_region_lit ?_
   refine nR (.agg (byteCells (ow l))) (gx_loads_g rfl rfl (blk_range_g HBSZ.out) Tryz.underlying76 rfl (size_hs.trans (congrArg some ((bc_size _).trans HO.out).symm))) ?_;simp only [zz]
   refine wpList_store_row wn 76 (.tmp 2) (.tmp 38) rfl (byteCells (ow l)) HBR.out rfl rfl (by rw [bc_size, bc_size, HO.out]; rfl) (by rw [size_hs, bc_size, HO.out]) (bc_one _) ?_
   intro w4 hb_ ht_
   have HBZ := zH hb_
   have HT4 := zH ht_
   clear hb_ ht_
   simp only [zz]
   have HTZ := zH (HTR.out.trans HT4.out fun k hk e => by have := HLr.out; have e : k = r := e; omega)
   go_wp2_with fail
   refine bodyPost_ret (v := .agg (byteCells (ow l))) (ret_cell1_g rfl _ _ r _ _ _ rfl HBZ.out Tryz.underlying76 rfl (by rw [size_hs, bc_size, HO.out] <;> rfl)) rfl ?_
   exact ⟨rfl, HTZ.out⟩
set_option maxRecDepth 20000
theorem wd_cv64 {a : Act} {o : Oper} {W : World} {x : Operand} {n : Nat} (ho : o.op = .convert 3 128 x) (hx : a.eval x = .int .i64 (n : Int)) (hn : n ≤ 9223372036854775807) : (execOp a.eval o).run Tryz.prog W = .ok (.value (.int .u64 (n : Int))) W := by
 unfold execOp
 simp only [ho, hx]
 go_simp
 rw [IntKind.wrap_u64]
 omega
theorem wd_mul8 {a : Act} {o : Oper} {W : World} {x : Operand} {n : Nat} (ho : o.op = .binOp .mul 128 x (.const (.int .u64 8)) 128) (hx : a.eval x = .int .u64 (n : Int)) : (execOp a.eval o).run Tryz.prog W = .ok (.value (.int .u64 ((Sh.bits n : Nat) : Int))) W := by
 unfold execOp
 simp only [ho, hx]
 go_simp
 rw [IntKind.wrap_u64]
 unfold Sh.bits
 omega
theorem wd_shr64 {a : Act} {o : Oper} {W : World} {x y : Operand} {n s : Nat} (ho : o.op = .binOp .shr 128 x y 3) (hx : a.eval x = .int .u64 (n : Int)) (hy : a.eval y = .int .i64 (s : Int)) (hs : s < 64) : (execOp a.eval o).run Tryz.prog W = .ok (.value (.int .u64 ((n / 2 ^ s : Nat) : Int))) W := by
 obtain ⟨r, hr⟩ : ∃ r : Nat, n / 2 ^ s = r := ⟨_, rfl⟩
 rw [hr]
 unfold execOp
 simp only [ho, hx, hy]
 go_simp
 rw [← hr]
 push_cast
 rfl
theorem wd_low64 {a : Act} {o : Oper} {W : World} {x : Operand} {n : Nat} (ho : o.op = .convert 128 5 x) (hx : a.eval x = .int .u64 (n : Int)) : (execOp a.eval o).run Tryz.prog W = .ok (.value (.int .u8 (((UInt8.ofNat n).toNat : Nat) : Int))) W := by
 obtain ⟨r, hr⟩ : ∃ r : Nat, (UInt8.ofNat n).toNat = r := ⟨_, rfl⟩
 rw [hr]
 unfold execOp
 simp only [ho, hx]
 go_simp
 rw [← hr, UInt8.toNat_ofNat', IntKind.wrap_u8']
 omega
theorem be8_next (n : Nat) {i : Nat} (h : i < 8) : (Sh.be8 n).take (i + 1) = (Sh.be8 n).take i ++ [UInt8.ofNat (n / 2 ^ (56 - 8 * i))] := by
 rw [List.take_succ_eq_append_getElem (by rw [Sh.be8_len]; exact h)]
 congr 1
 simp [Sh.be8]
theorem blk_next (h : H8) (b : B8) {j : Nat} : Sh.blk (j + 1) h b = Sh.comp (Sh.blk j h b) ((b.drop (64 * j)).take 64) := Sh.blk_succ h b j
theorem fin_lo (h : H8) (done n : Nat) (b r : B8) (hr : r = b.drop (64 * (b.length / 64))) (hn : done + b.length = n) (hl : r.length < 56) : Sh.finish h done b = Sh.out (Sh.comp (Sh.blk (b.length / 64) h b) ((r ++ [0x80] ++ Sh.zs (55 - r.length)) ++ Sh.be8 (Sh.bits n))) := by
 unfold Sh.finish Sh.fin
 rw [← hr, if_pos hl, hn]
theorem fin_hi (h : H8) (done n : Nat) (b r : B8) (hr : r = b.drop (64 * (b.length / 64))) (hn : done + b.length = n) (hl : ¬ r.length < 56) : Sh.finish h done b = Sh.out (Sh.comp (Sh.comp (Sh.blk (b.length / 64) h b) (r ++ [0x80] ++ Sh.zs (63 - r.length))) (Sh.zs 56 ++ Sh.be8 (Sh.bits n))) := by
 unfold Sh.finish Sh.fin
 rw [← hr, if_neg hl, hn]
theorem zs_add (a b : Nat) : Sh.zs (a + b) = Sh.zs a ++ Sh.zs b := by unfold Sh.zs; rw [List.replicate_append_replicate]
theorem finish_walk (h : H8) (done : Nat) (w : World) (A : Option Addr) (n c : Nat) (b : B8) (hb : Bs w A n b) (hc : n ≤ c) (hm : n ≤ 140737488355328) (hd : done ≤ 64) (hk : KT w) :
 Calls Tryz.prog 49 #[.agg (wds h.l), .int .i64 (done : Int), .slice A n c] w fun e w' => e = .returned (.agg (byteCells (Sh.finish h done b))) ∧ Turn nowhere w w' := by
 have HB := zH hb
 have HN := zH hb.1
 have HM := zH hm
 have HC := zH hc
 have HD0 := zH hd
 have HK := zH hk
 have yn : (n : Int) ≤ 140737488355328 := by have := HM.out; omega
 have yd : (done : Int) ≤ 64 := by omega
 obtain ⟨F, hF⟩ : ∃ F, Sh.finish h done b = F := ⟨_, rfl⟩
 rw [hF]
 have HF := zH hF
 clear hb hc hm hd hk hF
 go_enter Tryz.func49, Tryz.ntmps49
 go_upto_region 0 with fail
 refine wp_region_lit ?_
 refine wR (v := .pointer (some ⟨(w).heap.size, 0, none⟩)) (w' := (w).alloc (.cells (wds h.l) 95)) wn (gx_box rfl rfl (box_wds h.l _)) ?_
 simp only [zz]
 refine wR (v := .pointer (some ⟨((w).alloc (.cells (wds h.l) 95)).heap.size, 0, none⟩)) (w' := ((w).alloc (.cells (wds h.l) 95)).alloc (.cells (byteCells (Sh.zs 32)) 76)) wn (gx_alloc rfl (zero_hs _)) ?_
 simp only [zz]
 have hb_q := (Blk.new (w) 95 (wds h.l)).alloc (.cells (byteCells (Sh.zs 32)) 76)
 have hb_r := Blk.new ((w).alloc (.cells (wds h.l) 95)) 76 (byteCells (Sh.zs 32))
 have ht_ := ((Turn.refl nowhere (w)).alloc (.cells (wds h.l) 95)).alloc (.cells (byteCells (Sh.zs 32)) 76)
 obtain ⟨n0_, hn0_⟩ : ∃ n, n = (w).heap.size := ⟨_, rfl⟩
 have hz_q : (w).heap.size = n0_ + 0 := by rw [hn0_]; simp
 have hz_r : ((w).alloc (.cells (wds h.l) 95)).heap.size = n0_ + 1 := by rw [hn0_]; simp
 obtain ⟨r, hg_⟩ : ∃ g, g = ((w).alloc (.cells (wds h.l) 95)).heap.size := ⟨_, rfl⟩
 rw [← hg_] at hb_r hz_r ⊢
 clear hg_
 obtain ⟨q, hg_⟩ : ∃ g, g = (w).heap.size := ⟨_, rfl⟩
 rw [← hg_] at hb_q hz_q ⊢
 clear hg_
 generalize ((w).alloc (.cells (wds h.l) 95)).alloc (.cells (byteCells (Sh.zs 32)) 76) = w1 at *
 have HT1 := zH ht_
 clear ht_
 have HBq := zH hb_q
 have HLq := zH (show (w).heap.size ≤ q from by omega)
 clear hb_q
 have HBr := zH hb_r
 have HLr := zH (show (w).heap.size ≤ r from by omega)
 clear hb_r
 have HNqr := zH (show q ≠ r from by omega)
 clear hn0_ hz_q hz_r
 clear n0_
 go_upto_region 1 with fail
 refine wp_region_lit ?_
 refine nM (.int .i64 (done : Int)) ?_;simp only [zz];refine nM (.slice A n c) ?_;simp only [zz];refine nR (.int .i64 (n : Int)) (gx_len rfl rfl Tryz.underlying22) ?_;simp only [zz];refine nR (.int .i64 ((done + n : Nat) : Int)) (ix_add rfl rfl rfl (by omega) ⟨by omega, by omega⟩) ?_;simp only [zz];refine nR (.int .u64 ((done + n : Nat) : Int)) (wd_cv64 rfl rfl (by have := HM.out; have := HD0.out; omega)) ?_;simp only [zz];refine nR (.int .u64 ((Sh.bits (done + n) : Nat) : Int)) (wd_mul8 rfl rfl) ?_;simp only [zz];refine nA (.int .u64 ((Sh.bits (done + n) : Nat) : Int)) ?_;simp only [zz]
 obtain ⟨NB, hNB⟩ : ∃ NB, Sh.bits (done + n) = NB := ⟨_, rfl⟩
 rw [hNB]
 have HNB := zH hNB
 clear hNB
 go_upto_region 2 with fail
 refine wp_region_lit ?_
 refine wR (v := .pointer (some ⟨(w1).heap.size, 0, none⟩)) (w' := (w1).alloc (.cells (byteCells (Sh.zs 64)) 90)) wn (gx_alloc rfl (zero_pc _)) ?_
 simp only [zz]
 have hb_k := Blk.new (w1) 90 (byteCells (Sh.zs 64))
 have ht_ := (Turn.refl nowhere (w1)).alloc (.cells (byteCells (Sh.zs 64)) 90)
 obtain ⟨n0_, hn0_⟩ : ∃ n, n = (w1).heap.size := ⟨_, rfl⟩
 have hz_k : (w1).heap.size = n0_ + 0 := by rw [hn0_]; simp
 obtain ⟨k, hg_⟩ : ∃ g, g = (w1).heap.size := ⟨_, rfl⟩
 rw [← hg_] at hb_k hz_k ⊢
 clear hg_
 generalize (w1).alloc (.cells (byteCells (Sh.zs 64)) 90) = w2 at *
 have HT2 := zH ht_
 clear ht_
 have HBk := zH hb_k
 have HLk := zH (show (w1).heap.size ≤ k from by omega)
 clear hb_k
 clear hn0_ hz_k
 clear n0_
 have HBq2 := zH (HBq.out.turn HT2.out fun e => e)
 have HBr2 := zH (HBr.out.turn HT2.out fun e => e)
 have HLk2 := zH (show w.heap.size ≤ k from Nat.le_trans HT1.out.size HLk.out)
 have HNrk := zH (show r ≠ k from by have := HBr.out.lt; have := HLk.out; omega)
 have HNqk := zH (show q ≠ k from by have := HBq.out.lt; have := HLk.out; omega)
 have HNrq := zH (show r ≠ q from fun e => HNqr.out e.symm)
 have HT12 := zH (HT1.out.trans HT2.out fun _ _ e => e)
 clear HBq HBr HT1 HT2 HLk
 go_wp2_with fail
 go_loopg [2] (n / 64) (fun gk bv wr => ∃ (j n' c' : Nat) (A' : Option Addr) (P : B8), bv = .slice A' n' c' ∧ j + gk = n / 64 ∧ n' + 64 * j = n ∧ n' ≤ c' ∧ Bs w A' n' (b.drop (64 * j)) ∧ P.length = 64 ∧ Blk wr q 95 (wds (Sh.blk j h b).l) ∧ Blk wr k 90 (byteCells P) ∧ Blk wr r 76 (byteCells (Sh.zs 32)) ∧ Turn nowhere w wr)
 case atStart => exact ⟨0, n, c, A, Sh.zs 64, rfl, Nat.zero_add _, rfl, HC.out, HB.out, rfl, HBq2.out, HBk.out, HBr2.out, HT12.out⟩
 clear HBq2 HBk HBr2 HT12
 obtain ⟨j, n', c', A', P, rfl, hgk, hnj, hnc, hbs, hpl, hbq, hbk, hbr, htr⟩ := hrel
 have yj : (n' : Int) ≤ 140737488355328 := by omega
 have HGK := zH hgk
 have HNJ := zH hnj
 have HNC := zH hnc
 have HBS := zH hbs
 have HPL := zH hpl
 have HBQ := zH hbq
 have HBK := zH hbk
 have HBR := zH hbr
 have HTR := zH htr
 clear hgk hnj hnc hbs hpl hbq hbk hbr htr
 by_cases hlt : 64 ≤ n'
 ·as_aux_lemma =>
   have HLT := zH hlt
   have y3 : 64 ≤ (n' : Int) := by omega
   clear hlt
   have HPC := zH (show (b.drop (64 * j)).take 64 ++ P.drop (min n' 64) = (b.drop (64 * j)).take 64 from by rw [show P.drop (min n' 64) = [] from List.drop_eq_nil_of_le (by rw [HPL.out]; have := HLT.out; omega), List.append_nil])
   have HPT := zH (show ((b.drop (64 * j)).take 64).length = 64 from by rw [List.length_take, HBS.out.1]; have := HLT.out; omega)
   obtain ⟨s1, hs1⟩ : ∃ s1, Sh.blk (j + 1) h b = s1 := ⟨_, rfl⟩
   have HS1 := zH hs1
   have HNXT := zH (show Sh.comp (Sh.blk j h b) ((b.drop (64 * j)).take 64) = s1 from by rw [← hs1, blk_next])
   obtain ⟨PJ, hPJ⟩ : ∃ PJ, (b.drop (64 * j)).take 64 = PJ := ⟨_, rfl⟩
   rw [hPJ] at HNXT HPC HPT
   obtain ⟨s0, hs0⟩ : ∃ s0, Sh.blk j h b = s0 := ⟨_, rfl⟩
   rw [hs0] at HNXT HBQ
   clear hs1 hs0
   go_upto_region 3 with fail
   refine wp_region_lit ?_
   refine nM (.slice A' n' c') ?_;simp only [zz];refine nR (.int .i64 (n' : Int)) (gx_len rfl rfl Tryz.underlying22) ?_;simp only [zz];refine nR (.bool true) (ix_geq rfl rfl rfl (decide_eq_true y3)) ?_;simp only [zz]
   obtain ⟨wc, hcp, hck, hct⟩ := run_copy_arr (ty := 3) (cap := c') (sh_still HBS.out HTR.out) HBK.out HPL.out
   rw [hPJ, HPC.out] at hck
   have HCP := zH hcp
   have HBKc := zH hck
   have HBQc := zH (HBQ.out.turn (F := only k) hct fun e => HNqk.out e)
   have HBRc := zH (HBR.out.turn (F := only k) hct fun e => HNrk.out e)
   have HTRc := zH (HTR.out.trans hct fun k' hk e => by have := HLk2.out; have e : k' = k := e; omega)
   clear hcp hck hct HBQ HBK HBR HTR
   go_upto_region 4 with fail
   refine wp_region_lit ?_
   refine nR (.slice (some ⟨k, 0, none⟩) 64 64) (exec_slice rfl rfl rfl rfl rfl (sl_pc k _)) ?_;simp only [zz];refine nM (.slice A' n' c') ?_;simp only [zz]
   refine wR (v := .int .i64 ((min n' 64 : Nat) : Int)) (w' := wc) wn (exec_copy_g rfl rfl rfl HCP.out) ?_
   simp only [zz]
   go_upto_region 5 with fail
   refine wp_region_lit ?_
   refine nR (.agg (wds s0.l)) (gx_loads_g rfl rfl (blk_range_g HBQc.out) Tryz.underlying95 rfl (size_wds.trans rfl)) ?_;simp only [zz];refine nR (.agg (byteCells PJ)) (gx_loads_g rfl rfl (blk_range_g HBKc.out) Tryz.underlying90 rfl (size_pc.trans (congrArg some ((bc_size _).trans HPT.out).symm))) ?_;simp only [zz]
   refine wpList_op_g rfl fun K9 HK9 => ?_
   go_wp2_with fail
   refine (take_walk s0 PJ wc HPT.out (HK.out.turn HTRc.out)).mono ?_
   rintro e w4 ⟨rfl, ht⟩
   refine HK9.out _ _ ?_
   clear HK9
   try simp only [zz]
   rw [HNXT.out]
   have HBQ4 := zH (HBQc.out.turn ht fun e => e)
   have HBK4 := zH (HBKc.out.turn ht fun e => e)
   have HBR4 := zH (HBRc.out.turn ht fun e => e)
   have HTR4 := zH (HTRc.out.trans ht fun _ _ e => e)
   clear ht
   refine wpList_store_row wn 95 (.tmp 3) (.tmp 25) rfl (wds s1.l) HBQ4.out rfl rfl (rfl) (by rw [size_wds] <;> rfl) (wds_one _) ?_
   intro w5 hb_ ht_
   have HBQ5 := zH hb_
   have HT5 := zH ht_
   clear hb_ ht_
   simp only [zz]
   have HBK5 := zH (HBK4.out.turn (F := only q) HT5.out fun e => HNqk.out e.symm)
   have HBR5 := zH (HBR4.out.turn (F := only q) HT5.out fun e => HNrq.out e)
   have HTR5 := zH (HTR4.out.trans HT5.out fun k' hk e => by have := HLq.out; have e : k' = q := e; omega)
   go_upto_region 6 with fail
   refine wp_region_lit ?_
   refine nM (.slice A' n' c') ?_;simp only [zz];refine nR (.slice (fromS A' c' 64) (n' - 64) (c' - 64)) (exec_slice rfl rfl rfl rfl rfl (sl_fromS A' n' c' 64 HLT.out HNC.out _)) ?_;simp only [zz];refine nA (.slice (fromS A' c' 64) (n' - 64) (c' - 64)) ?_;simp only [zz]
   go_wp2_with fail
   go_roundg (n / 64 - (j + 1))
   case measure => have := HGK.out; have := HNJ.out; have := HLT.out; omega
   case rel => exact ⟨j + 1, n' - 64, c' - 64, fromS A' c' 64, PJ, rfl, by have := HGK.out; have := HNJ.out; have := HLT.out; omega, by have := HNJ.out; have := HLT.out; omega, by have := HNC.out; omega, by rw [show 64 * (j + 1) = 64 * j + 64 from by omega, ← List.drop_drop]; exact bs_fromS HBS.out HLT.out HNC.out, HPT.out, by rw [HS1.out]; exact HBQ5.out, HBK5.out, HBR5.out, HTR5.out⟩
 ·as_aux_lemma =>
   have HLT := zH hlt
   have y3 : (n' : Int) < 64 := by omega
   have HJ := zH (show b.length / 64 = j from by rw [HN.out]; have := HNJ.out; omega)
   clear hlt
   obtain ⟨R, hR⟩ : ∃ R, b.drop (64 * j) = R := ⟨_, rfl⟩
   rw [hR] at HBS
   have HR := zH (show R = b.drop (64 * (b.length / 64)) from by rw [HJ.out, hR])
   have HRL := zH HBS.out.1
   have HRT := zH (show R.take 64 ++ (Sh.zs 64).drop (min n' 64) = R ++ Sh.zs (64 - n') from by
    rw [List.take_of_length_le (by rw [HRL.out]; have := HLT.out; omega), show min n' 64 = n' from by have := HLT.out; omega]
    unfold Sh.zs
    rw [List.drop_replicate])
   have HBJ := zH (show Sh.blk (b.length / 64) h b = Sh.blk j h b from by rw [HJ.out])
   obtain ⟨hh, hhh⟩ : ∃ hh, Sh.blk j h b = hh := ⟨_, rfl⟩
   rw [hhh] at HBJ HBQ
   clear hR hhh HJ
   go_upto_region 3 with fail
   refine wp_region_lit ?_
   refine nM (.slice A' n' c') ?_;simp only [zz];refine nR (.int .i64 (n' : Int)) (gx_len rfl rfl Tryz.underlying22) ?_;simp only [zz];refine nR (.bool false) (ix_geq rfl rfl rfl (decide_eq_false (by omega))) ?_;simp only [zz]
   go_upto_region 7 with fail
   refine wp_region_lit ?_
   refine nR (.agg (byteCells (Sh.zs 64))) (gx_build0 rfl (build_pc0 _)) ?_;simp only [zz]
   refine wpList_store_row wn 90 (.tmp 8) (.tmp 28) rfl (byteCells (Sh.zs 64)) HBK.out rfl rfl (by rw [bc_size, bc_size, HPL.out]; rfl) (by rw [size_pc] <;> rfl) (bc_one _) ?_
   intro w4 hb_ ht_
   have HBK4 := zH hb_
   have HT4 := zH ht_
   clear hb_ ht_
   simp only [zz]
   have HBQ4 := zH (HBQ.out.turn (F := only k) HT4.out fun e => HNqk.out e)
   have HBR4 := zH (HBR.out.turn (F := only k) HT4.out fun e => HNrk.out e)
   have HTR4 := zH (HTR.out.trans HT4.out fun k' hk e => by have := HLk2.out; have e : k' = k := e; omega)
   clear HBQ HBR HTR HBK HT4
   obtain ⟨wc, hcp, hck, hct⟩ := run_copy_arr (ty := 3) (cap := c') (sh_still HBS.out HTR4.out) HBK4.out (Sh.zs_len 64)
   rw [HRT.out] at hck
   rw [show min n' 64 = n' from by have := HLT.out; omega] at hcp
   have HCP := zH hcp
   have HBKc := zH hck
   have HBQc := zH (HBQ4.out.turn (F := only k) hct fun e => HNqk.out e)
   have HBRc := zH (HBR4.out.turn (F := only k) hct fun e => HNrk.out e)
   have HTRc := zH (HTR4.out.trans hct fun k' hk e => by have := HLk2.out; have e : k' = k := e; omega)
   clear hcp hck hct HBQ4 HBK4 HBR4 HTR4
   go_upto_region 8 with fail
   refine wp_region_lit ?_
   refine nR (.slice (some ⟨k, 0, none⟩) 64 64) (exec_slice rfl rfl rfl rfl rfl (sl_pc k _)) ?_;simp only [zz];refine nM (.slice A' n' c') ?_;simp only [zz]
   refine wR (v := .int .i64 (n' : Int)) (w' := wc) wn (exec_copy_g rfl rfl rfl HCP.out) ?_
   simp only [zz];refine nA (.int .i64 (n' : Int)) ?_;simp only [zz]
   go_upto_region 9 with fail
   refine wp_region_lit ?_
   refine nM (.int .i64 (n' : Int)) ?_;simp only [zz];refine nR (.pointer (some ⟨k, 0 + n' * 1, none⟩)) (gx_aaddr_g (i := n') (sz := 1) rfl rfl rfl Tryz.underlying90 size_u8 (by have := HLT.out; omega) rfl) ?_;simp only [zz]
   refine wpList_put wn 5 (.tmp 33) (.const (.int .u8 128)) rfl (.int .u8 (((0x80 : UInt8).toNat : Nat) : Int)) (byteCells ((R ++ [0x80]) ++ Sh.zs (64 - n' - 1))) HBKc.out rfl rfl (by rw [bc_size, List.length_append, Sh.zs_len, HRL.out]; have := HLT.out; omega) rfl rfl size_u8 (by
    rw [Nat.zero_add, Nat.mul_one, bc_set, set_zs HRL.out (by have := HLT.out; omega)]) ?_
   intro w5 hb4 ht4
   have HBK5 := zH hb4
   have HBQ5 := zH (HBQc.out.turn (F := only k) ht4 fun e => HNqk.out e)
   have HBR5 := zH (HBRc.out.turn (F := only k) ht4 fun e => HNrk.out e)
   have HTR5 := zH (HTRc.out.trans ht4 fun k' hk e => by have := HLk2.out; have e : k' = k := e; omega)
   clear hb4 ht4 HBKc HBQc HBRc HTRc HCP
   simp only [zz]
   by_cases h56 : n' < 56
   ·as_aux_lemma =>
     have y56 : (n' : Int) < 56 := by omega
     have HFZ := zH (fin_lo h done (done + n) b R HR.out (by rw [HN.out]) (by rw [HRL.out]; exact h56))
     rw [HBJ.out, HNB.out, HRL.out] at HFZ
     have HXL := zH (show (R ++ [0x80] ++ Sh.zs (55 - n')).length = 56 from by simp only [List.length_append, List.length_singleton, Sh.zs_len, HRL.out]; omega)
     have HBKX := zH (show Blk w5 k 90 (byteCells ((R ++ [0x80] ++ Sh.zs (55 - n')) ++ Sh.zs 8)) from by
      have h := HBK5.out
      rw [show 64 - n' - 1 = (55 - n') + 8 from by omega, zs_add, ← List.append_assoc] at h
      exact h)
     obtain ⟨X, hX⟩ : ∃ X, R ++ [0x80] ++ Sh.zs (55 - n') = X := ⟨_, rfl⟩
     rw [hX] at HXL HBKX HFZ
     clear hX h56 HBK5
     go_upto_region 10 with fail
     refine wp_region_lit ?_
     refine nM (.int .i64 (n' : Int)) ?_;simp only [zz];refine nR (.bool false) (ix_geq rfl rfl rfl (decide_eq_false (by omega))) ?_;simp only [zz]
     go_upto_region 13 with fail
     refine wp_region_lit ?_
     refine nM (.int .i64 0) ?_;simp only [zz]
     go_wp2_with fail
     go_loopg [40] 8 (fun gk iv wq => ∃ i : Nat, iv = .int .i64 (i : Int) ∧ i + gk = 8 ∧ Blk wq q 95 (wds hh.l) ∧ Blk wq k 90 (byteCells ((X ++ (Sh.be8 NB).take i) ++ Sh.zs (8 - i))) ∧ Blk wq r 76 (byteCells (Sh.zs 32)) ∧ Turn nowhere w wq)
     case atStart => exact ⟨0, rfl, rfl, HBQ5.out, by rw [List.take_zero, List.append_nil]; exact HBKX.out, HBR5.out, HTR5.out⟩
     clear HGK
     obtain ⟨i, rfl, hgk, hbq, hbk, hbr, htr⟩ := hrel
     have HGK := zH hgk
     have HBQ := zH hbq
     have HBK := zH hbk
     have HBR := zH hbr
     have HTR := zH htr
     have yi : (i : Int) ≤ 8 := by omega
     clear hgk hbq hbk hbr htr
     by_cases hlt : i < 8
     ·as_aux_lemma =>
       have HL8 := zH hlt
       have y3 : (i : Int) < 8 := by omega
       have HNX := zH (be8_next NB hlt)
       have HAL := zH (show (X ++ (Sh.be8 NB).take i).length = 56 + i from by rw [List.length_append, HXL.out, List.length_take, Sh.be8_len]; omega)
       clear hlt
       go_upto_region 14 with fail
       refine wp_region_lit ?_
       refine nR (.bool true) (ix_lss rfl rfl rfl (decide_eq_true y3)) ?_;simp only [zz]
       go_upto_region 15 with fail
       refine wp_region_lit ?_
       refine nM (.int .i64 (i : Int)) ?_;simp only [zz];refine nA (.int .i64 (i : Int)) ?_;simp only [zz]
       go_upto_region 16 with fail
       refine wp_region_lit ?_
       refine nM (.int .i64 (i : Int)) ?_;simp only [zz];refine nR (.int .i64 ((56 + i : Nat) : Int)) (ix_add rfl rfl rfl (by omega) ⟨by omega, by omega⟩) ?_;simp only [zz];refine nM (.int .u64 (NB : Int)) ?_;simp only [zz];refine nM (.int .i64 (i : Int)) ?_;simp only [zz];refine nR (.int .i64 ((8 * i : Nat) : Int)) (ix_mul rfl rfl rfl (by omega) ⟨by omega, by omega⟩) ?_;simp only [zz];refine nR (.int .i64 ((56 - 8 * i : Nat) : Int)) (ix_sub rfl rfl rfl (by omega) ⟨by omega, by omega⟩) ?_;simp only [zz];refine nR (.int .u64 ((NB / 2 ^ (56 - 8 * i) : Nat) : Int)) (wd_shr64 rfl rfl rfl (by omega)) ?_;simp only [zz];refine nR (.int .u8 ((UInt8.ofNat (NB / 2 ^ (56 - 8 * i))).toNat : Int)) (wd_low64 rfl rfl) ?_;simp only [zz];refine nR (.pointer (some ⟨k, 0 + (56 + i) * 1, none⟩)) (gx_aaddr_g (i := 56 + i) (sz := 1) rfl rfl rfl Tryz.underlying90 size_u8 (by have := HL8.out; omega) rfl) ?_;simp only [zz]
       refine wpList_put wn 5 (.tmp 51) (.tmp 50) rfl (.int .u8 ((UInt8.ofNat (NB / 2 ^ (56 - 8 * i))).toNat : Int)) (byteCells ((X ++ (Sh.be8 NB).take (i + 1)) ++ Sh.zs (8 - i - 1))) HBK.out rfl rfl (by rw [bc_size, List.length_append, HAL.out, Sh.zs_len]; have := HL8.out; omega) rfl rfl size_u8 (by
        rw [Nat.zero_add, Nat.mul_one, bc_set, set_zs HAL.out (by have := HL8.out; omega), HNX.out, List.append_assoc X]) ?_
       intro wz hb4 ht4
       have HBK5 := zH hb4
       have HBQ5 := zH (HBQ.out.turn (F := only k) ht4 fun e => HNqk.out e)
       have HBR5 := zH (HBR.out.turn (F := only k) ht4 fun e => HNrk.out e)
       have HTR5 := zH (HTR.out.trans ht4 fun k' hk e => by have := HLk2.out; have e : k' = k := e; omega)
       clear hb4 ht4 HBK HBQ HBR HTR
       simp only [zz]
       go_upto_region 17 with fail
       refine wp_region_lit ?_
       refine nR (.int .i64 ((i + 1 : Nat) : Int)) (ix_add rfl rfl rfl (by omega) (by omega)) ?_;simp only [zz];refine nM (.int .i64 ((i + 1 : Nat) : Int)) ?_;simp only [zz]
       go_wp2_with fail
       go_roundg (8 - (i + 1))
       case measure => have := HGK.out; have := HL8.out; omega
       case rel => exact ⟨i + 1, rfl, by have := HL8.out; omega, HBQ5.out, HBK5.out, HBR5.out, HTR5.out⟩
     ·as_aux_lemma =>
       obtain rfl : i = 8 := by omega
       clear hlt
       have HBKZ := zH (show Blk wr k 90 (byteCells (X ++ Sh.be8 NB)) from by have h := HBK.out; rw [List.take_of_length_le (by rw [Sh.be8_len]; omega), Nat.sub_self] at h; simpa [Sh.zs] using h)
       have HZL := zH (show (X ++ Sh.be8 NB).length = 64 from by rw [List.length_append, HXL.out, Sh.be8_len])
       obtain ⟨PZ, hPZ⟩ : ∃ PZ, X ++ Sh.be8 NB = PZ := ⟨_, rfl⟩
       rw [hPZ] at HBKZ HZL HFZ
       clear hPZ HBK
       go_upto_region 14 with fail
       refine wp_region_lit ?_
       refine nR (.bool false) (ix_lss rfl rfl rfl (by decide)) ?_;simp only [zz]
       go_upto_region 18 with fail
       refine wp_region_lit ?_
       refine nR (.agg (wds hh.l)) (gx_loads_g rfl rfl (blk_range_g HBQ.out) Tryz.underlying95 rfl (size_wds.trans rfl)) ?_;simp only [zz];refine nR (.agg (byteCells PZ)) (gx_loads_g rfl rfl (blk_range_g HBKZ.out) Tryz.underlying90 rfl (size_pc.trans (congrArg some ((bc_size _).trans HZL.out).symm))) ?_;simp only [zz]
       refine wpList_op_g rfl fun K9 HK9 => ?_
       go_wp2_with fail
       refine (take_walk hh PZ _ HZL.out (HK.out.turn HTR.out)).mono ?_
       rintro e wx ⟨rfl, ht⟩
       refine HK9.out _ _ ?_
       clear HK9
       try simp only [zz]
       have HBRx := zH (HBR.out.turn ht fun e => e)
       have HTRx := zH (HTR.out.trans ht fun _ _ e => e)
       clear ht
       refine wpList_op_g rfl fun K9 HK9 => ?_
       go_wp2_with fail
       refine (value_walk (Sh.comp hh PZ) _).mono ?_
       rintro e wy ⟨rfl, ht⟩
       refine HK9.out _ _ ?_
       clear HK9
       try simp only [zz]
       have HBRy := zH (HBRx.out.turn ht fun e => e)
       have HTRy := zH (HTRx.out.trans ht fun _ _ e => e)
       have HFE := zH (HFZ.out.symm.trans HF.out)
       rw [HFE.out]
       have HFL := zH (show F.length = 32 from by rw [← HFE.out]; rfl)
       clear ht
       refine wpList_store_row wn 76 (.tmp 6) (.tmp 56) rfl (byteCells F) HBRy.out rfl rfl (by rw [bc_size, bc_size, HFL.out]; rfl) (by rw [size_hs, bc_size, HFL.out]) (bc_one _) ?_
       intro wz hb_ ht_
       have HBZ := zH hb_
       have HTz := zH ht_
       clear hb_ ht_
       simp only [zz]
       have HTZ := zH (HTRy.out.trans HTz.out fun k' hk e => by have := HLr.out; have e : k' = r := e; omega)
       go_wp2_with fail
       refine bodyPost_ret (v := .agg (byteCells F)) (ret_cell1_g rfl _ _ r _ _ _ rfl HBZ.out Tryz.underlying76 rfl (by rw [size_hs, bc_size, HFL.out] <;> rfl)) rfl ?_
       exact ⟨rfl, HTZ.out⟩
   ·as_aux_lemma =>
     have y56 : 56 ≤ (n' : Int) := by omega
     have HFZ0 := zH (fin_hi h done (done + n) b R HR.out (by rw [HN.out]) (by rw [HRL.out]; exact h56))
     rw [HBJ.out, HNB.out, HRL.out] at HFZ0
     have HP2 := zH (show (R ++ [0x80] ++ Sh.zs (63 - n')).length = 64 from by simp only [List.length_append, List.length_singleton, Sh.zs_len, HRL.out]; have := HLT.out; omega)
     have HBKX := zH (show Blk w5 k 90 (byteCells (R ++ [0x80] ++ Sh.zs (63 - n'))) from by
      have h := HBK5.out
      rw [show 64 - n' - 1 = 63 - n' from by omega] at h
      exact h)
     obtain ⟨P2, hP2⟩ : ∃ P2, R ++ [0x80] ++ Sh.zs (63 - n') = P2 := ⟨_, rfl⟩
     rw [hP2] at HP2 HBKX HFZ0
     clear hP2 h56 HBK5
     go_upto_region 10 with fail
     refine wp_region_lit ?_
     refine nM (.int .i64 (n' : Int)) ?_;simp only [zz];refine nR (.bool true) (ix_geq rfl rfl rfl (decide_eq_true y56)) ?_;simp only [zz]
     go_upto_region 11 with fail
     refine wp_region_lit ?_
     refine nR (.agg (wds hh.l)) (gx_loads_g rfl rfl (blk_range_g HBQ5.out) Tryz.underlying95 rfl (size_wds.trans rfl)) ?_;simp only [zz];refine nR (.agg (byteCells P2)) (gx_loads_g rfl rfl (blk_range_g HBKX.out) Tryz.underlying90 rfl (size_pc.trans (congrArg some ((bc_size _).trans HP2.out).symm))) ?_;simp only [zz]
     refine wpList_op_g rfl fun K9 HK9 => ?_
     go_wp2_with fail
     refine (take_walk hh P2 w5 HP2.out (HK.out.turn HTR5.out)).mono ?_
     rintro e w6 ⟨rfl, ht⟩
     refine HK9.out _ _ ?_
     clear HK9
     try simp only [zz]
     obtain ⟨h2, hh2⟩ : ∃ h2, Sh.comp hh P2 = h2 := ⟨_, rfl⟩
     rw [hh2] at HFZ0 ⊢
     have HFZ := HFZ0
     have HBQ6 := zH (HBQ5.out.turn ht fun e => e)
     have HBK6 := zH (HBKX.out.turn ht fun e => e)
     have HBR6 := zH (HBR5.out.turn ht fun e => e)
     have HTR6 := zH (HTR5.out.trans ht fun _ _ e => e)
     clear ht hh2 HFZ0 HBQ5 HBKX HBR5 HTR5
     refine wpList_store_row wn 95 (.tmp 3) (.tmp 38) rfl (wds h2.l) HBQ6.out rfl rfl (rfl) (by rw [size_wds] <;> rfl) (wds_one _) ?_
     intro w7 hb_ ht_
     have HBQ7 := zH hb_
     have HT7 := zH ht_
     clear hb_ ht_
     simp only [zz]
     have HBK7 := zH (HBK6.out.turn (F := only q) HT7.out fun e => HNqk.out e.symm)
     have HBR7 := zH (HBR6.out.turn (F := only q) HT7.out fun e => HNrq.out e)
     have HTR7 := zH (HTR6.out.trans HT7.out fun k' hk e => by have := HLq.out; have e : k' = q := e; omega)
     clear HBQ6 HBK6 HBR6 HTR6 HT7
     go_upto_region 12 with fail
     refine wp_region_lit ?_
     refine nR (.agg (byteCells (Sh.zs 64))) (gx_build0 rfl (build_pc0 _)) ?_;simp only [zz]
     refine wpList_store_row wn 90 (.tmp 8) (.tmp 39) rfl (byteCells (Sh.zs 64)) HBK7.out rfl rfl (by rw [bc_size, bc_size, HP2.out]; rfl) (by rw [size_pc] <;> rfl) (bc_one _) ?_
     intro w8 hb_ ht_
     have HBK8 := zH hb_
     have HT8 := zH ht_
     clear hb_ ht_
     simp only [zz]
     have HBQ8 := zH (HBQ7.out.turn (F := only k) HT8.out fun e => HNqk.out e)
     have HBR8 := zH (HBR7.out.turn (F := only k) HT8.out fun e => HNrk.out e)
     have HTR8 := zH (HTR7.out.trans HT8.out fun k' hk e => by have := HLk2.out; have e : k' = k := e; omega)
     have HXL := zH (Sh.zs_len 56)
     have HBKX := zH (show Blk w8 k 90 (byteCells (Sh.zs 56 ++ Sh.zs 8)) from HBK8.out)
     obtain ⟨X, hX⟩ : ∃ X, Sh.zs 56 = X := ⟨_, rfl⟩
     rw [hX] at HXL HBKX HFZ
     obtain ⟨hh9, hhh⟩ : ∃ x, h2 = x := ⟨_, rfl⟩
     subst hhh
     clear hX HBQ7 HBK8 HBR7 HTR7 HT8
     go_upto_region 13 with fail
     refine wp_region_lit ?_
     refine nM (.int .i64 0) ?_;simp only [zz]
     go_wp2_with fail
     go_loopg [40] 8 (fun gk iv wq => ∃ i : Nat, iv = .int .i64 (i : Int) ∧ i + gk = 8 ∧ Blk wq q 95 (wds h2.l) ∧ Blk wq k 90 (byteCells ((X ++ (Sh.be8 NB).take i) ++ Sh.zs (8 - i))) ∧ Blk wq r 76 (byteCells (Sh.zs 32)) ∧ Turn nowhere w wq)
     case atStart => exact ⟨0, rfl, rfl, HBQ8.out, by rw [List.take_zero, List.append_nil]; exact HBKX.out, HBR8.out, HTR8.out⟩
     clear HGK
     obtain ⟨i, rfl, hgk, hbq, hbk, hbr, htr⟩ := hrel
     have HGK := zH hgk
     have HBQ := zH hbq
     have HBK := zH hbk
     have HBR := zH hbr
     have HTR := zH htr
     have yi : (i : Int) ≤ 8 := by omega
     clear hgk hbq hbk hbr htr
     by_cases hlt : i < 8
     ·as_aux_lemma =>
       have HL8 := zH hlt
       have y3 : (i : Int) < 8 := by omega
       have HNX := zH (be8_next NB hlt)
       have HAL := zH (show (X ++ (Sh.be8 NB).take i).length = 56 + i from by rw [List.length_append, HXL.out, List.length_take, Sh.be8_len]; omega)
       clear hlt
       go_upto_region 14 with fail
       refine wp_region_lit ?_
       refine nR (.bool true) (ix_lss rfl rfl rfl (decide_eq_true y3)) ?_;simp only [zz]
       go_upto_region 15 with fail
       refine wp_region_lit ?_
       refine nM (.int .i64 (i : Int)) ?_;simp only [zz];refine nA (.int .i64 (i : Int)) ?_;simp only [zz]
       go_upto_region 16 with fail
       refine wp_region_lit ?_
       refine nM (.int .i64 (i : Int)) ?_;simp only [zz];refine nR (.int .i64 ((56 + i : Nat) : Int)) (ix_add rfl rfl rfl (by omega) ⟨by omega, by omega⟩) ?_;simp only [zz];refine nM (.int .u64 (NB : Int)) ?_;simp only [zz];refine nM (.int .i64 (i : Int)) ?_;simp only [zz];refine nR (.int .i64 ((8 * i : Nat) : Int)) (ix_mul rfl rfl rfl (by omega) ⟨by omega, by omega⟩) ?_;simp only [zz];refine nR (.int .i64 ((56 - 8 * i : Nat) : Int)) (ix_sub rfl rfl rfl (by omega) ⟨by omega, by omega⟩) ?_;simp only [zz];refine nR (.int .u64 ((NB / 2 ^ (56 - 8 * i) : Nat) : Int)) (wd_shr64 rfl rfl rfl (by omega)) ?_;simp only [zz];refine nR (.int .u8 ((UInt8.ofNat (NB / 2 ^ (56 - 8 * i))).toNat : Int)) (wd_low64 rfl rfl) ?_;simp only [zz];refine nR (.pointer (some ⟨k, 0 + (56 + i) * 1, none⟩)) (gx_aaddr_g (i := 56 + i) (sz := 1) rfl rfl rfl Tryz.underlying90 size_u8 (by have := HL8.out; omega) rfl) ?_;simp only [zz]
       refine wpList_put wn 5 (.tmp 51) (.tmp 50) rfl (.int .u8 ((UInt8.ofNat (NB / 2 ^ (56 - 8 * i))).toNat : Int)) (byteCells ((X ++ (Sh.be8 NB).take (i + 1)) ++ Sh.zs (8 - i - 1))) HBK.out rfl rfl (by rw [bc_size, List.length_append, HAL.out, Sh.zs_len]; have := HL8.out; omega) rfl rfl size_u8 (by
        rw [Nat.zero_add, Nat.mul_one, bc_set, set_zs HAL.out (by have := HL8.out; omega), HNX.out, List.append_assoc X]) ?_
       intro wz hb4 ht4
       have HBK5 := zH hb4
       have HBQ5 := zH (HBQ.out.turn (F := only k) ht4 fun e => HNqk.out e)
       have HBR5 := zH (HBR.out.turn (F := only k) ht4 fun e => HNrk.out e)
       have HTR5 := zH (HTR.out.trans ht4 fun k' hk e => by have := HLk2.out; have e : k' = k := e; omega)
       clear hb4 ht4 HBK HBQ HBR HTR
       simp only [zz]
       go_upto_region 17 with fail
       refine wp_region_lit ?_
       refine nR (.int .i64 ((i + 1 : Nat) : Int)) (ix_add rfl rfl rfl (by omega) (by omega)) ?_;simp only [zz];refine nM (.int .i64 ((i + 1 : Nat) : Int)) ?_;simp only [zz]
       go_wp2_with fail
       go_roundg (8 - (i + 1))
       case measure => have := HGK.out; have := HL8.out; omega
       case rel => exact ⟨i + 1, rfl, by have := HL8.out; omega, HBQ5.out, HBK5.out, HBR5.out, HTR5.out⟩
     ·as_aux_lemma =>
       obtain rfl : i = 8 := by omega
       clear hlt
       have HBKZ := zH (show Blk wr k 90 (byteCells (X ++ Sh.be8 NB)) from by have h := HBK.out; rw [List.take_of_length_le (by rw [Sh.be8_len]; omega), Nat.sub_self] at h; simpa [Sh.zs] using h)
       have HZL := zH (show (X ++ Sh.be8 NB).length = 64 from by rw [List.length_append, HXL.out, Sh.be8_len])
       obtain ⟨PZ, hPZ⟩ : ∃ PZ, X ++ Sh.be8 NB = PZ := ⟨_, rfl⟩
       rw [hPZ] at HBKZ HZL HFZ
       clear hPZ HBK
       go_upto_region 14 with fail
       refine wp_region_lit ?_
       refine nR (.bool false) (ix_lss rfl rfl rfl (by decide)) ?_;simp only [zz]
       go_upto_region 18 with fail
       refine wp_region_lit ?_
       refine nR (.agg (wds h2.l)) (gx_loads_g rfl rfl (blk_range_g HBQ.out) Tryz.underlying95 rfl (size_wds.trans rfl)) ?_;simp only [zz];refine nR (.agg (byteCells PZ)) (gx_loads_g rfl rfl (blk_range_g HBKZ.out) Tryz.underlying90 rfl (size_pc.trans (congrArg some ((bc_size _).trans HZL.out).symm))) ?_;simp only [zz]
       refine wpList_op_g rfl fun K9 HK9 => ?_
       go_wp2_with fail
       refine (take_walk h2 PZ _ HZL.out (HK.out.turn HTR.out)).mono ?_
       rintro e wx ⟨rfl, ht⟩
       refine HK9.out _ _ ?_
       clear HK9
       try simp only [zz]
       have HBRx := zH (HBR.out.turn ht fun e => e)
       have HTRx := zH (HTR.out.trans ht fun _ _ e => e)
       clear ht
       refine wpList_op_g rfl fun K9 HK9 => ?_
       go_wp2_with fail
       refine (value_walk (Sh.comp h2 PZ) _).mono ?_
       rintro e wy ⟨rfl, ht⟩
       refine HK9.out _ _ ?_
       clear HK9
       try simp only [zz]
       have HBRy := zH (HBRx.out.turn ht fun e => e)
       have HTRy := zH (HTRx.out.trans ht fun _ _ e => e)
       have HFE := zH (HFZ.out.symm.trans HF.out)
       rw [HFE.out]
       have HFL := zH (show F.length = 32 from by rw [← HFE.out]; rfl)
       clear ht
       refine wpList_store_row wn 76 (.tmp 6) (.tmp 56) rfl (byteCells F) HBRy.out rfl rfl (by rw [bc_size, bc_size, HFL.out]; rfl) (by rw [size_hs, bc_size, HFL.out]) (bc_one _) ?_
       intro wz hb_ ht_
       have HBZ := zH hb_
       have HTz := zH ht_
       clear hb_ ht_
       simp only [zz]
       have HTZ := zH (HTRy.out.trans HTz.out fun k' hk e => by have := HLr.out; have e : k' = r := e; omega)
       go_wp2_with fail
       refine bodyPost_ret (v := .agg (byteCells F)) (ret_cell1_g rfl _ _ r _ _ _ rfl HBZ.out Tryz.underlying76 rfl (by rw [size_hs, bc_size, HFL.out] <;> rfl)) rfl ?_
       exact ⟨rfl, HTZ.out⟩
end Go.Proofs.YtkagijifkpoplaaGreatDoor
