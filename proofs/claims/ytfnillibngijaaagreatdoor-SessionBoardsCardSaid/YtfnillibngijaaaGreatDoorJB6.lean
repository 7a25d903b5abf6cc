/-
  Texts in one file: ShE. Conditions: the tables and the errors read as the program's text lays them.
-/
import Derived.Test.YtfnillibngijaaaGreatDoorJB5
import Derived.Laws.CopyRow
import Derived.Laws.IdiomCopy
namespace Go.Proofs.YtfnillibngijaaaGreatDoor
open Go.RowKit
open Sh (Wd B8 H8)
set_option linter.unusedVariables false
set_option linter.unusedSimpArgs false
set_option maxRecDepth 20000
theorem sh_still {w w' : World} {A : Option Addr} {n : Nat} {bs : B8} (h : Bs w A n bs) (ht : Turn nowhere w w') : Bs w' A n bs := bs_below h (ht.below (Nat.le_refl _) fun _ _ e => e)
theorem sh_turn {w w' : World} {A : Option Addr} {n : Nat} {bs : B8} {F : Nat → Prop} (h : Bs w A n bs) (ht : Turn F w w') (hn : ∀ b off, 0 < n → A = some ⟨b, off, none⟩ → ¬ F b) : Bs w' A n bs := by
  obtain ⟨h1, h2, h3⟩ := h
  refine ⟨h1, h2, fun hp => ?_⟩
  obtain ⟨b, off, rfl, hc⟩ := h3 hp
  refine ⟨b, off, rfl, fun i hi => (ht.cell (World.block_lt_of_cell? _ _ (hc i hi)) (hn b off hp rfl)).trans (hc i hi)⟩
theorem sh_lt {w : World} {A : Option Addr} {n : Nat} {bs : B8} (h : Bs w A n bs) : ∀ b off, 0 < n → A = some ⟨b, off, none⟩ → b < w.heap.size := fun b off hp e => by
  obtain ⟨b', off', rfl, hc⟩ := h.2.2 hp
  obtain ⟨rfl, rfl⟩ : b' = b ∧ off' = off := by simpa using e
  exact World.block_lt_of_cell? _ _ (hc 0 hp)
def fromS (A : Option Addr) (c d : Nat) : Option Addr := if c = d then A else A.map (·.add (d * 1))
theorem sl_fromS (A : Option Addr) (n c d : Nat) (h0 : d ≤ n) (hc : n ≤ c) (W : World) : (Instr.sliceAt 42 (.slice A n c) (some (.int .i64 (d : Int))) none none).run Tryz.prog W = .ok (.slice (fromS A c d) (n - d) (c - d)) W := by
  obtain ⟨i, hi1, hi2⟩ := Option.map_eq_some_iff.1 size_u8
  have b1 : (0 : Int) ≤ (d : Int) ∧ (d : Int) ≤ (n : Int) := ⟨by omega, by omega⟩
  have hu := Tryz.underlying42
  simp [Instr.sliceAt, Instr.slice, Instr.sliceBounds, Instr.sliceBound, asIntOf, run_underlying hu, sizeOf, typeInfo, hi1, hi2, b1, fromS]
  intro h
  omega
theorem bs_fromS {W : World} {A : Option Addr} {n c d : Nat} {b : B8} (h : Bs W A n b) (hd : d ≤ n) (hc : n ≤ c) : Bs W (fromS A c d) (n - d) (b.drop d) := by
  obtain ⟨h1, h2, h3⟩ := h
  refine ⟨by rw [List.length_drop]; omega, by omega, fun hp => ?_⟩
  obtain ⟨g, off, rfl, hcell⟩ := h3 (by omega)
  refine ⟨g, off + d, ?_, fun i hi => ?_⟩
  · unfold fromS
    rw [if_neg (by omega)]
    simp only [Option.map_some, Nat.mul_one]
    rw [add_nat]
  · rw [Nat.add_assoc, hcell (d + i) (by omega), List.getD_eq_getElem?_getD, List.getD_eq_getElem?_getD, List.getElem?_drop]
theorem bs_arr {w : World} {g n : Nat} {t : TypeId} {l : B8} (h : Blk w g t (byteCells l)) (hl : l.length = n) (hm : n ≤ 1000) : Bs w (some ⟨g, 0, none⟩) n l :=
  ⟨hl, by unfold maxLen; omega, fun _ => ⟨g, 0, rfl, fun i hi => by rw [h.cell, Nat.zero_add, bc_at l (by omega)]⟩⟩
theorem run_copy_arr {w : World} {a : Option Addr} {len cap g N : Nat} {t ty : TypeId} {bs old : B8} (hs : Bs w a len bs) (hb : Blk w g t (byteCells old)) (hN : old.length = N) :
    ∃ w', (Builtin.copy_ #[42, 42] ty #[.slice (some ⟨g, 0, none⟩) N N, .slice a len cap]).run Tryz.prog w = .ok (.int .i64 (min len N : Nat)) w' ∧ Blk w' g t (byteCells (bs.take N ++ old.drop (min len N))) ∧ Turn (only g) w w' := by
  obtain ⟨hl, hm, hc⟩ := hs
  by_cases h0 : 0 < len
  · obtain ⟨b, off, rfl, hcell⟩ := hc h0
    have hlen : (bcs (bs.take N)).length = min len N := by rw [bcs_length, List.length_take, hl]; omega
    have h := run_copy_row (P := Tryz.prog) w 42 42 ty 5 g 0 N N ⟨b, off, none⟩ len cap (byteCells old) t (bcs (bs.take N)) Tryz.underlying42 size_u8 hb hlen (fun j v hj => by
      rw [add_nat]
      have hj1 := (List.getElem?_eq_some_iff.1 hj).1
      have hj3 : j < (bs.take N).length := by rwa [bcs_length] at hj1
      have hj2 : j < len := by rw [List.length_take] at hj3; omega
      rw [hcell j hj2, ← hj, bcs_at _ _ hj3, List.getD_eq_getElem?_getD, List.getD_eq_getElem?_getD, List.getElem?_take_of_lt (by rw [List.length_take] at hj3; omega)]) (by rw [hlen, bc_size, hN]; omega) (bcs_one _)
    rw [hlen] at h
    refine ⟨_, h, ?_, ⟨rfl, rfl, rfl, by simp, fun k hk hn => setRow_other w g k _ hn⟩⟩
    have e : ((byteCells old).toList.take 0 ++ bcs (bs.take N) ++ (byteCells old).toList.drop (0 + min len N)).toArray = byteCells (bs.take N ++ old.drop (min len N)) := by
      rw [Nat.zero_add, List.take_zero, List.nil_append]
      unfold byteCells bcs
      rw [List.toList_toArray, ← List.map_drop, List.map_append]
    rw [e]
    exact setRow_heap w g _ _ t _ hb
  · have h0 : len = 0 := by omega
    subst h0
    have hbs : bs = [] := List.length_eq_zero_iff.1 hl
    subst hbs
    have h := run_copy_none (P := Tryz.prog) w 42 42 ty 5 (some ⟨g, 0, none⟩) a N N 0 cap Tryz.underlying42 size_u8 (by simp)
    refine ⟨w, ?_, ?_, Turn.refl _ _⟩
    · rw [h, Nat.zero_min]; rfl
    · rw [Nat.zero_min, List.drop_zero, List.take_nil, List.nil_append]
      exact hb
theorem sl_pc (g : Nat) (W : World) : (Instr.sliceAt 85 (.pointer (some ⟨g, 0, none⟩)) none none none).run Tryz.prog W = .ok (.slice (some ⟨g, 0, none⟩) 64 64) W := by kernel_rfl
theorem sl_hs (g : Nat) (W : World) : (Instr.sliceAt 71 (.pointer (some ⟨g, 0, none⟩)) none none none).run Tryz.prog W = .ok (.slice (some ⟨g, 0, none⟩) 32 32) W := by kernel_rfl
theorem set_zs {A : B8} {i m : Nat} (hA : A.length = i) (hm : 0 < m) (v : UInt8) : (A ++ Sh.zs m).set i v = (A ++ [v]) ++ Sh.zs (m - 1) := by
  rw [set_mid hA _ (by intro e; have e1 := congrArg List.length e; rw [Sh.zs_len] at e1; simp at e1; omega)]
  unfold Sh.zs
  rw [List.tail_replicate]
/-- the bytes of so many words -/
def ow (l : List Wd) : B8 := l.flatMap Sh.outw
theorem ow_len (l : List Wd) : (ow l).length = 4 * l.length := by
  induction l with
  | nil => rfl
  | cons x l ih => rw [ow, List.flatMap_cons, List.length_append, ← ow, ih, List.length_cons]; simp only [Sh.outw, List.length_cons, List.length_nil]; omega
theorem ow_out (s : H8) : Sh.out s = ow s.l := rfl
theorem ow_next (l : List Wd) {i : Nat} (h : i < l.length) : ow (l.take (i + 1)) = (((ow (l.take i) ++ [Sh.low (l.getD i 0 >>> 24)]) ++ [Sh.low (l.getD i 0 >>> 16)]) ++ [Sh.low (l.getD i 0 >>> 8)]) ++ [Sh.low (l.getD i 0)] := by
  rw [List.take_succ_eq_append_getElem h, ow, List.flatMap_append, List.getD_eq_getElem?_getD, List.getElem?_eq_getElem h, ← ow]
  simp only [List.flatMap_cons, List.flatMap_nil, List.append_nil, Option.getD_some, List.append_assoc]
  rfl
set_option maxRecDepth 20000 in
set_option maxHeartbeats 4000000 in
theorem value_walk (s : H8) (w : World) : Calls Tryz.prog 54 #[.agg (wds s.l)] w fun e w' => e = .returned (.agg (byteCells (Sh.out s))) ∧ Turn nowhere w w' := by
  rw [ow_out]
  obtain ⟨l, hl⟩ : ∃ l, s.l = l := ⟨_, rfl⟩
  have HL := Lib.hid (show l.length = 8 from by rw [← hl]; rfl)
  rw [hl]
  clear hl
  have HO := Lib.hid (show (ow l).length = 32 from by rw [ow_len, HL.out])
  go_enter Tryz.func54, Tryz.ntmps54
  go_upto_region 0 with fail
  refine wp_region_lit ?_
  refine wpList_run (v := .pointer (some ⟨(w).heap.size, 0, none⟩)) (w' := (w).alloc (.cells (wds l) 90)) (wanted_none rfl) (gx_box rfl rfl (box_wds l _)) ?_
  simp only [Act.put, List.setIfInBounds_toArray, List.set_cons_zero, List.set_cons_succ]
  refine wpList_run (v := .pointer (some ⟨((w).alloc (.cells (wds l) 90)).heap.size, 0, none⟩)) (w' := ((w).alloc (.cells (wds l) 90)).alloc (.cells (byteCells (Sh.zs 32)) 71)) (wanted_none rfl) (gx_alloc rfl (zero_hs _)) ?_
  simp only [Act.put, List.setIfInBounds_toArray, List.set_cons_zero, List.set_cons_succ]
  have hb_q := (Blk.new (w) 90 (wds l)).alloc (.cells (byteCells (Sh.zs 32)) 71)
  have hb_r := Blk.new ((w).alloc (.cells (wds l) 90)) 71 (byteCells (Sh.zs 32))
  have ht_ := ((Turn.refl nowhere (w)).alloc (.cells (wds l) 90)).alloc (.cells (byteCells (Sh.zs 32)) 71)
  obtain ⟨n0_, hn0_⟩ : ∃ n, n = (w).heap.size := ⟨_, rfl⟩
  have hz_q : (w).heap.size = n0_ + 0 := by rw [hn0_]; simp
  have hz_r : ((w).alloc (.cells (wds l) 90)).heap.size = n0_ + 1 := by rw [hn0_]; simp
  obtain ⟨r, hg_⟩ : ∃ g, g = ((w).alloc (.cells (wds l) 90)).heap.size := ⟨_, rfl⟩
  rw [← hg_] at hb_r hz_r ⊢
  clear hg_
  obtain ⟨q, hg_⟩ : ∃ g, g = (w).heap.size := ⟨_, rfl⟩
  rw [← hg_] at hb_q hz_q ⊢
  clear hg_
  generalize ((w).alloc (.cells (wds l) 90)).alloc (.cells (byteCells (Sh.zs 32)) 71) = w1 at *
  have HT1 := Lib.hid ht_
  clear ht_
  have HBq := Lib.hid hb_q
  have HLq := Lib.hid (show (w).heap.size ≤ q from by omega)
  clear hb_q
  have HBr := Lib.hid hb_r
  have HLr := Lib.hid (show (w).heap.size ≤ r from by omega)
  clear hb_r
  have HNqr := Lib.hid (show q ≠ r from by omega)
  clear hn0_ hz_q hz_r
  clear n0_
  go_upto_region 1 with fail
  refine wp_region_lit ?_
  refine wpList_run (v := .pointer (some ⟨(w1).heap.size, 0, none⟩)) (w' := (w1).alloc (.cells (byteCells (Sh.zs 32)) 71)) (wanted_none rfl) (gx_alloc rfl (zero_hs _)) ?_
  simp only [Act.put, List.setIfInBounds_toArray, List.set_cons_zero, List.set_cons_succ]
  have hb_s := Blk.new (w1) 71 (byteCells (Sh.zs 32))
  have ht_ := (Turn.refl nowhere (w1)).alloc (.cells (byteCells (Sh.zs 32)) 71)
  obtain ⟨n0_, hn0_⟩ : ∃ n, n = (w1).heap.size := ⟨_, rfl⟩
  have hz_s : (w1).heap.size = n0_ + 0 := by rw [hn0_]; simp
  obtain ⟨s, hg_⟩ : ∃ g, g = (w1).heap.size := ⟨_, rfl⟩
  rw [← hg_] at hb_s hz_s ⊢
  clear hg_
  generalize (w1).alloc (.cells (byteCells (Sh.zs 32)) 71) = w2 at *
  have HT2 := Lib.hid ht_
  clear ht_
  have HBs := Lib.hid hb_s
  have HLs := Lib.hid (show (w1).heap.size ≤ s from by omega)
  clear hb_s
  clear hn0_ hz_s
  clear n0_
  go_upto_region 2 with fail
  refine wp_region_lit ?_
  refine wpList_run (v := .agg (wds l)) (wanted_none rfl) (gx_loads_g rfl rfl (blk_range_g (HBq.out.turn HT2.out fun e => e)) Tryz.underlying90 rfl (size_wds.trans (congrArg some ((wds_size l).trans HL.out).symm))) ?_
  simp only [Act.put, List.setIfInBounds_toArray, List.set_cons_zero, List.set_cons_succ]
  refine wpList_run (v := .int .i64 0) (wanted_none rfl) (exec_move rfl rfl) ?_
  simp only [Act.put, List.setIfInBounds_toArray, List.set_cons_zero, List.set_cons_succ]
  have HBr2 := Lib.hid (HBr.out.turn HT2.out fun e => e)
  have HLs2 := Lib.hid (show w.heap.size ≤ s from Nat.le_trans HT1.out.size HLs.out)
  have HNrs := Lib.hid (show r ≠ s from by have := HBr.out.lt; have := HLs.out; omega)
  have HT12 := Lib.hid (HT1.out.trans HT2.out fun _ _ e => e)
  go_wp2_with fail
  go_loopg [7] 8 (fun gk iv wr => ∃ i : Nat, iv = .int .i64 (i : Int) ∧ i + gk = 8 ∧ Blk wr s 71 (byteCells (ow (l.take i) ++ Sh.zs (32 - 4 * i))) ∧ Blk wr r 71 (byteCells (Sh.zs 32)) ∧ Turn nowhere w wr)
  case atStart => exact ⟨0, rfl, rfl, HBs.out, HBr2.out, HT12.out⟩
  obtain ⟨i, rfl, hgk, hbs, hbr, htr⟩ := hrel
  have HGK := Lib.hid hgk
  have HBS := Lib.hid hbs
  have HBR := Lib.hid hbr
  have HTR := Lib.hid htr
  have yi : (i : Int) ≤ 8 := by omega
  clear hgk hbs hbr htr
  by_cases hlt : i < 8
  · as_aux_lemma =>
      have HLT := Lib.hid hlt
      have y3 : (i : Int) < 8 := by omega
      have HLI := Lib.hid (show i < l.length from by rw [HL.out]; exact hlt)
      have HNX := Lib.hid (ow_next l (i := i) (by rw [HL.out]; exact hlt))
      have HA := Lib.hid (show (ow (l.take i)).length = 4 * i from by rw [ow_len, List.length_take, HL.out]; omega)
      have HV := Lib.hid (wds_at l (j := i) (by rw [HL.out]; exact hlt))
      obtain ⟨x, hx⟩ : ∃ x, l.getD i 0 = x := ⟨_, rfl⟩
      rw [hx] at HNX HV
      obtain ⟨A, hA⟩ : ∃ A, ow (l.take i) = A := ⟨_, rfl⟩
      rw [hA] at HNX HA HBS
      clear hlt hx hA
      go_upto_region 3 with fail
      refine wp_region_lit ?_
      refine wpList_run (v := .bool true) (wanted_none rfl) (ix_lss rfl rfl rfl (decide_eq_true y3)) ?_
      simp only [Act.put, List.setIfInBounds_toArray, List.set_cons_zero, List.set_cons_succ]
      go_upto_region 4 with fail
      refine wp_region_lit ?_
      refine wpList_run (v := .int .i64 (i : Int)) (wanted_none rfl) (exec_move rfl rfl) ?_
      simp only [Act.put, List.setIfInBounds_toArray, List.set_cons_zero, List.set_cons_succ]
      refine wpList_run (v := .int .u32 ((x).toNat : Int)) (wanted_none rfl) (exec_index1 rfl rfl rfl Tryz.underlying90 HLT.out (by kernel_rfl) (by kernel_rfl) HV.out) ?_
      simp only [Act.put, List.setIfInBounds_toArray, List.set_cons_zero, List.set_cons_succ]
      refine wpList_run (v := .int .i64 (i : Int)) (wanted_none rfl) (gx_assign rfl rfl) ?_
      simp only [Act.put, List.setIfInBounds_toArray, List.set_cons_zero, List.set_cons_succ]
      refine wpList_run (v := .int .u32 ((x).toNat : Int)) (wanted_none rfl) (gx_assign rfl rfl) ?_
      simp only [Act.put, List.setIfInBounds_toArray, List.set_cons_zero, List.set_cons_succ]
      go_upto_region 5 with fail
      refine wp_region_lit ?_
      refine wpList_run (v := .int .i64 (i : Int)) (wanted_none rfl) (exec_move rfl rfl) ?_
      simp only [Act.put, List.setIfInBounds_toArray, List.set_cons_zero, List.set_cons_succ]
      refine wpList_run (v := .int .i64 ((4 * i : Nat) : Int)) (wanted_none rfl) (ix_mul rfl rfl rfl (by omega) ⟨by omega, by omega⟩) ?_
      simp only [Act.put, List.setIfInBounds_toArray, List.set_cons_zero, List.set_cons_succ]
      refine wpList_run (v := .int .i64 (i : Int)) (wanted_none rfl) (exec_move rfl rfl) ?_
      simp only [Act.put, List.setIfInBounds_toArray, List.set_cons_zero, List.set_cons_succ]
      refine wpList_run (v := .int .i64 ((4 * i : Nat) : Int)) (wanted_none rfl) (ix_mul rfl rfl rfl (by omega) ⟨by omega, by omega⟩) ?_
      simp only [Act.put, List.setIfInBounds_toArray, List.set_cons_zero, List.set_cons_succ]
      refine wpList_run (v := .int .i64 ((4 * i + 1 : Nat) : Int)) (wanted_none rfl) (ix_add rfl rfl rfl (by omega) ⟨by omega, by omega⟩) ?_
      simp only [Act.put, List.setIfInBounds_toArray, List.set_cons_zero, List.set_cons_succ]
      refine wpList_run (v := .int .i64 (i : Int)) (wanted_none rfl) (exec_move rfl rfl) ?_
      simp only [Act.put, List.setIfInBounds_toArray, List.set_cons_zero, List.set_cons_succ]
      refine wpList_run (v := .int .i64 ((4 * i : Nat) : Int)) (wanted_none rfl) (ix_mul rfl rfl rfl (by omega) ⟨by omega, by omega⟩) ?_
      simp only [Act.put, List.setIfInBounds_toArray, List.set_cons_zero, List.set_cons_succ]
      refine wpList_run (v := .int .i64 ((4 * i + 2 : Nat) : Int)) (wanted_none rfl) (ix_add rfl rfl rfl (by omega) ⟨by omega, by omega⟩) ?_
      simp only [Act.put, List.setIfInBounds_toArray, List.set_cons_zero, List.set_cons_succ]
      refine wpList_run (v := .int .i64 (i : Int)) (wanted_none rfl) (exec_move rfl rfl) ?_
      simp only [Act.put, List.setIfInBounds_toArray, List.set_cons_zero, List.set_cons_succ]
      refine wpList_run (v := .int .i64 ((4 * i : Nat) : Int)) (wanted_none rfl) (ix_mul rfl rfl rfl (by omega) ⟨by omega, by omega⟩) ?_
      simp only [Act.put, List.setIfInBounds_toArray, List.set_cons_zero, List.set_cons_succ]
      refine wpList_run (v := .int .i64 ((4 * i + 3 : Nat) : Int)) (wanted_none rfl) (ix_add rfl rfl rfl (by omega) ⟨by omega, by omega⟩) ?_
      simp only [Act.put, List.setIfInBounds_toArray, List.set_cons_zero, List.set_cons_succ]
      refine wpList_run (v := .int .u32 ((x).toNat : Int)) (wanted_none rfl) (exec_move rfl rfl) ?_
      simp only [Act.put, List.setIfInBounds_toArray, List.set_cons_zero, List.set_cons_succ]
      refine wpList_run (v := .int .u32 (((x) >>> 24).toNat : Int)) (wanted_none rfl) (wd_shrc (s := 24) rfl rfl rfl (by decide)) ?_
      simp only [Act.put, List.setIfInBounds_toArray, List.set_cons_zero, List.set_cons_succ]
      refine wpList_run (v := .int .u8 ((Sh.low ((x) >>> 24)).toNat : Int)) (wanted_none rfl) (wd_low rfl rfl) ?_
      simp only [Act.put, List.setIfInBounds_toArray, List.set_cons_zero, List.set_cons_succ]
      refine wpList_run (v := .int .u32 ((x).toNat : Int)) (wanted_none rfl) (exec_move rfl rfl) ?_
      simp only [Act.put, List.setIfInBounds_toArray, List.set_cons_zero, List.set_cons_succ]
      refine wpList_run (v := .int .u32 (((x) >>> 16).toNat : Int)) (wanted_none rfl) (wd_shrc (s := 16) rfl rfl rfl (by decide)) ?_
      simp only [Act.put, List.setIfInBounds_toArray, List.set_cons_zero, List.set_cons_succ]
      refine wpList_run (v := .int .u8 ((Sh.low ((x) >>> 16)).toNat : Int)) (wanted_none rfl) (wd_low rfl rfl) ?_
      simp only [Act.put, List.setIfInBounds_toArray, List.set_cons_zero, List.set_cons_succ]
      refine wpList_run (v := .int .u32 ((x).toNat : Int)) (wanted_none rfl) (exec_move rfl rfl) ?_
      simp only [Act.put, List.setIfInBounds_toArray, List.set_cons_zero, List.set_cons_succ]
      refine wpList_run (v := .int .u32 (((x) >>> 8).toNat : Int)) (wanted_none rfl) (wd_shrc (s := 8) rfl rfl rfl (by decide)) ?_
      simp only [Act.put, List.setIfInBounds_toArray, List.set_cons_zero, List.set_cons_succ]
      refine wpList_run (v := .int .u8 ((Sh.low ((x) >>> 8)).toNat : Int)) (wanted_none rfl) (wd_low rfl rfl) ?_
      simp only [Act.put, List.setIfInBounds_toArray, List.set_cons_zero, List.set_cons_succ]
      refine wpList_run (v := .int .u32 ((x).toNat : Int)) (wanted_none rfl) (exec_move rfl rfl) ?_
      simp only [Act.put, List.setIfInBounds_toArray, List.set_cons_zero, List.set_cons_succ]
      refine wpList_run (v := .int .u8 ((Sh.low (x)).toNat : Int)) (wanted_none rfl) (wd_low rfl rfl) ?_
      simp only [Act.put, List.setIfInBounds_toArray, List.set_cons_zero, List.set_cons_succ]
      refine wpList_run (v := .pointer (some ⟨s, 0 + (4 * i) * 1, none⟩)) (wanted_none rfl) (gx_aaddr_g (i := 4 * i) (sz := 1) rfl rfl rfl Tryz.underlying71 size_u8 (by have := HLT.out; omega) rfl) ?_
      simp only [Act.put, List.setIfInBounds_toArray, List.set_cons_zero, List.set_cons_succ]
      refine wpList_put (wanted_none rfl) 5 (.tmp 33) (.tmp 24) rfl (.int .u8 ((Sh.low (x >>> 24)).toNat : Int)) (byteCells ((A ++ [Sh.low (x >>> 24)]) ++ Sh.zs (32 - 4 * i - 1))) HBS.out rfl rfl (by rw [bc_size]; simp only [List.length_append, List.length_singleton, Sh.zs_len, HA.out]; have := HLT.out; omega) rfl rfl size_u8 (by
        rw [Nat.zero_add, Nat.mul_one, bc_set, set_zs (by simp only [List.length_append, List.length_singleton, HA.out]) (by have := HLT.out; omega)]) ?_
      intro x0 hb4 ht4
      have HB0 := Lib.hid hb4
      have HX0 := Lib.hid ht4
      clear hb4 ht4
      simp only [Act.put, List.setIfInBounds_toArray, List.set_cons_zero, List.set_cons_succ]
      refine wpList_run (v := .pointer (some ⟨s, 0 + (4 * i + 1) * 1, none⟩)) (wanted_none rfl) (gx_aaddr_g (i := 4 * i + 1) (sz := 1) rfl rfl rfl Tryz.underlying71 size_u8 (by have := HLT.out; omega) rfl) ?_
      simp only [Act.put, List.setIfInBounds_toArray, List.set_cons_zero, List.set_cons_succ]
      refine wpList_put (wanted_none rfl) 5 (.tmp 34) (.tmp 27) rfl (.int .u8 ((Sh.low (x >>> 16)).toNat : Int)) (byteCells (((A ++ [Sh.low (x >>> 24)]) ++ [Sh.low (x >>> 16)]) ++ Sh.zs (32 - 4 * i - 2))) HB0.out rfl rfl (by rw [bc_size]; simp only [List.length_append, List.length_singleton, Sh.zs_len, HA.out]; have := HLT.out; omega) rfl rfl size_u8 (by
        rw [Nat.zero_add, Nat.mul_one, bc_set, set_zs (by simp only [List.length_append, List.length_singleton, HA.out]) (by have := HLT.out; omega), show 32 - 4 * i - 1 - 1 = 32 - 4 * i - 2 from by omega]) ?_
      intro x1 hb4 ht4
      have HB1 := Lib.hid hb4
      have HX1 := Lib.hid (HX0.out.trans ht4 fun _ _ e => e)
      clear hb4 ht4
      simp only [Act.put, List.setIfInBounds_toArray, List.set_cons_zero, List.set_cons_succ]
      refine wpList_run (v := .pointer (some ⟨s, 0 + (4 * i + 2) * 1, none⟩)) (wanted_none rfl) (gx_aaddr_g (i := 4 * i + 2) (sz := 1) rfl rfl rfl Tryz.underlying71 size_u8 (by have := HLT.out; omega) rfl) ?_
      simp only [Act.put, List.setIfInBounds_toArray, List.set_cons_zero, List.set_cons_succ]
      refine wpList_put (wanted_none rfl) 5 (.tmp 35) (.tmp 30) rfl (.int .u8 ((Sh.low (x >>> 8)).toNat : Int)) (byteCells ((((A ++ [Sh.low (x >>> 24)]) ++ [Sh.low (x >>> 16)]) ++ [Sh.low (x >>> 8)]) ++ Sh.zs (32 - 4 * i - 3))) HB1.out rfl rfl (by rw [bc_size]; simp only [List.length_append, List.length_singleton, Sh.zs_len, HA.out]; have := HLT.out; omega) rfl rfl size_u8 (by
        rw [Nat.zero_add, Nat.mul_one, bc_set, set_zs (by simp only [List.length_append, List.length_singleton, HA.out]) (by have := HLT.out; omega), show 32 - 4 * i - 2 - 1 = 32 - 4 * i - 3 from by omega]) ?_
      intro x2 hb4 ht4
      have HB2 := Lib.hid hb4
      have HX2 := Lib.hid (HX1.out.trans ht4 fun _ _ e => e)
      clear hb4 ht4
      simp only [Act.put, List.setIfInBounds_toArray, List.set_cons_zero, List.set_cons_succ]
      refine wpList_run (v := .pointer (some ⟨s, 0 + (4 * i + 3) * 1, none⟩)) (wanted_none rfl) (gx_aaddr_g (i := 4 * i + 3) (sz := 1) rfl rfl rfl Tryz.underlying71 size_u8 (by have := HLT.out; omega) rfl) ?_
      simp only [Act.put, List.setIfInBounds_toArray, List.set_cons_zero, List.set_cons_succ]
      refine wpList_put (wanted_none rfl) 5 (.tmp 36) (.tmp 32) rfl (.int .u8 ((Sh.low x).toNat : Int)) (byteCells (((((A ++ [Sh.low (x >>> 24)]) ++ [Sh.low (x >>> 16)]) ++ [Sh.low (x >>> 8)]) ++ [Sh.low x]) ++ Sh.zs (32 - 4 * i - 4))) HB2.out rfl rfl (by rw [bc_size]; simp only [List.length_append, List.length_singleton, Sh.zs_len, HA.out]; have := HLT.out; omega) rfl rfl size_u8 (by
        rw [Nat.zero_add, Nat.mul_one, bc_set, set_zs (by simp only [List.length_append, List.length_singleton, HA.out]) (by have := HLT.out; omega), show 32 - 4 * i - 3 - 1 = 32 - 4 * i - 4 from by omega]) ?_
      intro x3 hb4 ht4
      have HB3 := Lib.hid hb4
      have HX3 := Lib.hid (HX2.out.trans ht4 fun _ _ e => e)
      clear hb4 ht4
      simp only [Act.put, List.setIfInBounds_toArray, List.set_cons_zero, List.set_cons_succ]
      have HBS4 := Lib.hid (show Blk x3 s 71 (byteCells (ow (l.take (i + 1)) ++ Sh.zs (32 - 4 * (i + 1)))) from by rw [HNX.out, show 32 - 4 * (i + 1) = 32 - 4 * i - 4 from by omega]; exact HB3.out)
      have HBR4 := Lib.hid (HBR.out.turn (F := only s) HX3.out fun e => HNrs.out e)
      have HTR4 := Lib.hid (HTR.out.trans HX3.out fun k hk e => by have := HLs2.out; have e : k = s := e; omega)
      go_upto_region 6 with fail
      refine wp_region_lit ?_
      refine wpList_run (v := .int .i64 ((i + 1 : Nat) : Int)) (wanted_none rfl) (ix_add rfl rfl rfl (by omega) (by omega)) ?_
      simp only [Act.put, List.setIfInBounds_toArray, List.set_cons_zero, List.set_cons_succ]
      refine wpList_run (v := .int .i64 ((i + 1 : Nat) : Int)) (wanted_none rfl) (exec_move rfl rfl) ?_
      simp only [Act.put, List.setIfInBounds_toArray, List.set_cons_zero, List.set_cons_succ]
      go_wp2_with fail
      go_roundg (8 - (i + 1))
      case measure => have := HGK.out; have := HLT.out; omega
      case rel => exact ⟨i + 1, rfl, by have := HLT.out; omega, HBS4.out, HBR4.out, HTR4.out⟩
  · as_aux_lemma =>
      obtain rfl : i = 8 := by omega
      clear hlt
      have HBSZ := Lib.hid (show Blk wr s 71 (byteCells (ow l)) from by have h := HBS.out; rw [List.take_of_length_le (by rw [HL.out]; omega)] at h; simpa [Sh.zs] using h)
      clear HBS
      go_upto_region 3 with fail
      refine wp_region_lit ?_
      refine wpList_run (v := .bool false) (wanted_none rfl) (ix_lss rfl rfl rfl (by decide)) ?_
      simp only [Act.put, List.setIfInBounds_toArray, List.set_cons_zero, List.set_cons_succ]
      go_upto_region 7 with fail
      refine wp_region_lit ?_
      refine wpList_run (v := .agg (byteCells (ow l))) (wanted_none rfl) (gx_loads_g rfl rfl (blk_range_g HBSZ.out) Tryz.underlying71 rfl (size_hs.trans (congrArg some ((bc_size _).trans HO.out).symm))) ?_
      simp only [Act.put, List.setIfInBounds_toArray, List.set_cons_zero, List.set_cons_succ]
      refine wpList_store_row (wanted_none rfl) 71 (.tmp 2) (.tmp 38) rfl (byteCells (ow l)) HBR.out rfl rfl (by rw [bc_size, bc_size, HO.out]; rfl) (by rw [size_hs, bc_size, HO.out]) (bc_one _) ?_
      intro w4 hb_ ht_
      have HBZ := Lib.hid hb_
      have HT4 := Lib.hid ht_
      clear hb_ ht_
      simp only [Act.put, List.setIfInBounds_toArray, List.set_cons_zero, List.set_cons_succ]
      have HTZ := Lib.hid (HTR.out.trans HT4.out fun k hk e => by have := HLr.out; have e : k = r := e; omega)
      go_wp2_with fail
      refine bodyPost_ret (v := .agg (byteCells (ow l))) (ret_cell1_g rfl _ _ r _ _ _ rfl HBZ.out Tryz.underlying71 rfl (by rw [size_hs, bc_size, HO.out] <;> rfl)) rfl ?_
      exact ⟨rfl, HTZ.out⟩
end Go.Proofs.YtfnillibngijaaaGreatDoor
