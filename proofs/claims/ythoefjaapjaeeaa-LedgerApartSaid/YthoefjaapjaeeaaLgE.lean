/-
  Ledgers: exactly and fitted: the walks. No conditions.
-/
import Derived.Test.YthoefjaapjaeeaaLgD
namespace Go.Proofs.Ythoefjaapjaeeaa
open Go.RowKit
open Lg (Ent)
set_option linter.unusedVariables false
set_option linter.unusedSimpArgs false
/-- the first i of seven, else nought -/
def upto (i : Nat) (b : Nat → Int) : Nat → Int := fun k => if k < i then b k else 0
theorem upto_zero (b : Nat → Int) : upto 0 b = fun _ => 0 := by funext k; unfold upto; rw [if_neg (by omega)]
theorem upto_set (i : Nat) (b : Nat → Int) : (fun k => if k = i then b i else upto i b k) = upto (i + 1) b := by
  funext k
  unfold upto
  by_cases h : k = i
  · subst h; rw [if_pos rfl, if_pos (by omega)]
  · rw [if_neg h]
    by_cases h2 : k < i
    · rw [if_pos h2, if_pos (by omega)]
    · rw [if_neg h2, if_neg (by omega)]
theorem exs_upto (b : Nat → Int) : exs (upto 7 b) = exs b := by
  apply Array.ext_getElem?
  intro j
  rw [exs_at, exs_at]
  split
  · unfold upto; rw [if_pos (by omega)]
  · rfl
theorem balA_upto (b : Nat → Int) : balA (upto 7 b) = balA b := rfl
theorem box_bal (b : Nat → Int) (w : World) : (Instr.box 58 (.agg (balA b))).run Try.prog w = .ok (.pointer (some ⟨w.heap.size, 0, none⟩)) (w.alloc (.cells (balA b) 58)) := by
  simp [Instr.box, newVar, newRow, Result.andThen, Value.cells]
theorem box_exs (f : Nat → Int) (w : World) : (Instr.box 64 (.agg (exs f))).run Try.prog w = .ok (.pointer (some ⟨w.heap.size, 0, none⟩)) (w.alloc (.cells (exs f) 64)) := by
  simp [Instr.box, newVar, newRow, Result.andThen, Value.cells]
set_option maxRecDepth 20000 in
set_option maxHeartbeats 4000000 in
theorem exactly_walk {b : Nat → Int} (w : World) (hb : ∀ a, Mn.in64 (b a)) : Calls Try.prog 22 #[.agg (balA b)] w fun e w' => e = .returned (.agg (exs b)) ∧ Turn nowhere w w' := by
  have HB := Lib.hid hb
  clear hb
  go_enter Try.func22, Try.ntmps22
  go_upto_region 0 with fail
  refine wp_region_lit ?_
  refine wpList_run (v := .pointer (some ⟨(w).heap.size, 0, none⟩)) (w' := (w).alloc (.cells (balA b) 58)) (wanted_none rfl) (gx_box rfl rfl (box_bal b _)) ?_
  simp only [Act.put, List.setIfInBounds_toArray, List.set_cons_zero, List.set_cons_succ]
  refine wpList_run (v := .pointer (some ⟨((w).alloc (.cells (balA b) 58)).heap.size, 0, none⟩)) (w' := ((w).alloc (.cells (balA b) 58)).alloc (.cells (exs fun _ => 0) 64)) (wanted_none rfl) (gx_alloc rfl (zero_exs _)) ?_
  simp only [Act.put, List.setIfInBounds_toArray, List.set_cons_zero, List.set_cons_succ]
  have hb_q := (Blk.new (w) 58 (balA b)).alloc (.cells (exs fun _ => 0) 64)
  have hb_r := Blk.new ((w).alloc (.cells (balA b) 58)) 64 (exs fun _ => 0)
  have ht_ := ((Turn.refl nowhere (w)).alloc (.cells (balA b) 58)).alloc (.cells (exs fun _ => 0) 64)
  obtain ⟨n0_, hn0_⟩ : ∃ n, n = (w).heap.size := ⟨_, rfl⟩
  have hz_q : (w).heap.size = n0_ + 0 := by rw [hn0_]; simp
  have hz_r : ((w).alloc (.cells (balA b) 58)).heap.size = n0_ + 1 := by rw [hn0_]; simp
  obtain ⟨r, hg_⟩ : ∃ g, g = ((w).alloc (.cells (balA b) 58)).heap.size := ⟨_, rfl⟩
  rw [← hg_] at hb_r hz_r ⊢
  clear hg_
  obtain ⟨q, hg_⟩ : ∃ g, g = (w).heap.size := ⟨_, rfl⟩
  rw [← hg_] at hb_q hz_q ⊢
  clear hg_
  generalize ((w).alloc (.cells (balA b) 58)).alloc (.cells (exs fun _ => 0) 64) = w1 at *
  have HT1 := Lib.hid ht_
  clear ht_
  have HBq := Lib.hid hb_q
  have HLq := Lib.hid (show (w).heap.size ≤ q from by omega)
  clear hb_q
  have HBr := Lib.hid hb_r
  have HLr := Lib.hid (show (w).heap.size ≤ r from by omega)
  clear hb_r
  have HNqr := Lib.hid (show q ≠ r from by omega)
  clear hn0_ hz_q hz_r
  clear n0_
  go_upto_region 1 with fail
  refine wp_region_lit ?_
  refine wpList_run (v := .pointer (some ⟨(w1).heap.size, 0, none⟩)) (w' := (w1).alloc (.cells (exs fun _ => 0) 64)) (wanted_none rfl) (gx_alloc rfl (zero_exs _)) ?_
  simp only [Act.put, List.setIfInBounds_toArray, List.set_cons_zero, List.set_cons_succ]
  have hb_s := Blk.new (w1) 64 (exs fun _ => 0)
  have ht_ := (Turn.refl nowhere (w1)).alloc (.cells (exs fun _ => 0) 64)
  obtain ⟨n0_, hn0_⟩ : ∃ n, n = (w1).heap.size := ⟨_, rfl⟩
  have hz_s : (w1).heap.size = n0_ + 0 := by rw [hn0_]; simp
  obtain ⟨s, hg_⟩ : ∃ g, g = (w1).heap.size := ⟨_, rfl⟩
  rw [← hg_] at hb_s hz_s ⊢
  clear hg_
  generalize (w1).alloc (.cells (exs fun _ => 0) 64) = w2 at *
  have HT2 := Lib.hid ht_
  clear ht_
  have HBs := Lib.hid hb_s
  have HLs := Lib.hid (show (w1).heap.size ≤ s from by omega)
  clear hb_s
  clear hn0_ hz_s
  clear n0_
  go_upto_region 2 with fail
  refine wp_region_lit ?_
  refine wpList_run (v := .agg (balA b)) (wanted_none rfl) (gx_loads rfl rfl (blk_range (HBq.out.turn HT2.out fun e => e)) Try.underlying58 rfl (by rw [size_bal]; rfl)) ?_
  simp only [Act.put, List.setIfInBounds_toArray, List.set_cons_zero, List.set_cons_succ]
  refine wpList_run (v := .int .i64 0) (wanted_none rfl) (exec_move rfl rfl) ?_
  simp only [Act.put, List.setIfInBounds_toArray, List.set_cons_zero, List.set_cons_succ]
  have HBr2 := Lib.hid (HBr.out.turn HT2.out fun e => e)
  have HLs2 := Lib.hid (show w.heap.size ≤ s from Nat.le_trans HT1.out.size HLs.out)
  have HNrs := Lib.hid (show r ≠ s from by have := HBr.out.lt; have := HLs.out; omega)
  have HT12 := Lib.hid (HT1.out.trans HT2.out fun _ _ e => e)
  go_wp2_with fail
  go_loopg [7] 7 (fun gk iv wr => ∃ i : Nat, iv = .int .i64 (i : Int) ∧ i + gk = 7 ∧ Blk wr s 64 (exs (upto i b)) ∧ Blk wr r 64 (exs fun _ => 0) ∧ Turn nowhere w wr)
  case atStart => exact ⟨0, rfl, rfl, by rw [upto_zero]; exact HBs.out, HBr2.out, HT12.out⟩
  obtain ⟨i, rfl, hgk, hbs, hbr, htr⟩ := hrel
  have HGK := Lib.hid hgk
  have HBS := Lib.hid hbs
  have HBR := Lib.hid hbr
  have HTR := Lib.hid htr
  have yi : (i : Int) ≤ 7 := by omega
  clear hgk hbs hbr htr
  by_cases hlt : i < 7
  · have HLT := Lib.hid hlt
    have y3 : (i : Int) < 7 := by omega
    clear hlt
    go_upto_region 3 with fail
    refine wp_region_lit ?_
    refine wpList_run (v := .bool true) (wanted_none rfl) (ix_lss rfl rfl rfl (decide_eq_true y3)) ?_
    simp only [Act.put, List.setIfInBounds_toArray, List.set_cons_zero, List.set_cons_succ]
    go_upto_region 4 with fail
    refine wp_region_lit ?_
    refine wpList_run (v := .int .i64 (i : Int)) (wanted_none rfl) (exec_move rfl rfl) ?_
    simp only [Act.put, List.setIfInBounds_toArray, List.set_cons_zero, List.set_cons_succ]
    refine wpList_run (v := .int .i64 (b i)) (wanted_none rfl) (exec_index1 rfl rfl rfl Try.underlying58 HLT.out (by kernel_rfl) (by kernel_rfl) (by rw [balA_at, if_pos HLT.out])) ?_
    simp only [Act.put, List.setIfInBounds_toArray, List.set_cons_zero, List.set_cons_succ]
    refine wpList_run (v := .int .i64 (i : Int)) (wanted_none rfl) (gx_assign rfl rfl) ?_
    simp only [Act.put, List.setIfInBounds_toArray, List.set_cons_zero, List.set_cons_succ]
    refine wpList_run (v := .int .i64 (b i)) (wanted_none rfl) (gx_assign rfl rfl) ?_
    simp only [Act.put, List.setIfInBounds_toArray, List.set_cons_zero, List.set_cons_succ]
    go_upto_region 5 with fail
    refine wp_region_lit ?_
    refine wpList_run (v := .int .i64 (i : Int)) (wanted_none rfl) (exec_move rfl rfl) ?_
    simp only [Act.put, List.setIfInBounds_toArray, List.set_cons_zero, List.set_cons_succ]
    refine wpList_run (v := .agg (exA 0)) (wanted_none rfl) (gx_build0 rfl (build_ex0 _)) ?_
    simp only [Act.put, List.setIfInBounds_toArray, List.set_cons_zero, List.set_cons_succ]
    refine wpList_run (v := .int .i64 (b i)) (wanted_none rfl) (exec_move rfl rfl) ?_
    simp only [Act.put, List.setIfInBounds_toArray, List.set_cons_zero, List.set_cons_succ]
    refine wpList_op rfl fun K9 HK9 => ?_
    go_wp2_with fail
    refine (plus_walk (z := 0) wr (HB.out i)).mono ?_
    rintro e w3 ⟨rfl, ht⟩
    refine HK9.out _ _ ?_
    clear HK9
    try simp only [Act.put, List.setIfInBounds_toArray, List.set_cons_zero, List.set_cons_succ]
    rw [Int.zero_add]
    have HBS3 := Lib.hid (HBS.out.turn ht fun e => e)
    have HBR3 := Lib.hid (HBR.out.turn ht fun e => e)
    have HTR3 := Lib.hid (HTR.out.trans ht fun _ _ e => e)
    clear ht
    refine wpList_run (v := .pointer (some ⟨s, 0 + i * 2, none⟩)) (wanted_none rfl) (gx_aaddr (i := i) (sz := 2) rfl rfl rfl Try.underlying64 size_ex HLT.out rfl) ?_
    simp only [Act.put, List.setIfInBounds_toArray, List.set_cons_zero, List.set_cons_succ]
    refine wpList_store_mid rfl 63 (.tmp 15) (.tmp 14) rfl (exA (b i)) HBS3.out rfl rfl (by rw [exs_size]; have := HLT.out; show 0 + i * 2 + 2 ≤ 14; omega) (by rw [size_ex]; rfl) (exA_one _) ?_
    intro w4 C4 hb4 hs4 hc4 ht4
    obtain rfl := exs_set HLT.out hs4 hc4
    rw [upto_set] at hb4
    have HBS4 := Lib.hid hb4
    have HBR4 := Lib.hid (HBR3.out.turn (F := only s) ht4 fun e => HNrs.out e)
    have HTR4 := Lib.hid (HTR3.out.trans ht4 fun k hk e => by have := HLs2.out; have e : k = s := e; omega)
    clear hb4 hs4 hc4 ht4
    simp only [Act.put, List.setIfInBounds_toArray, List.set_cons_zero, List.set_cons_succ]
    go_upto_region 6 with fail
    refine wp_region_lit ?_
    refine wpList_run (v := .int .i64 ((i + 1 : Nat) : Int)) (wanted_none rfl) (ix_add rfl rfl rfl (by omega) (by omega)) ?_
    simp only [Act.put, List.setIfInBounds_toArray, List.set_cons_zero, List.set_cons_succ]
    refine wpList_run (v := .int .i64 ((i + 1 : Nat) : Int)) (wanted_none rfl) (exec_move rfl rfl) ?_
    simp only [Act.put, List.setIfInBounds_toArray, List.set_cons_zero, List.set_cons_succ]
    go_wp2_with fail
    go_roundg (7 - (i + 1))
    case measure => have := HGK.out; have := HLT.out; omega
    case rel => exact ⟨i + 1, rfl, by have := HLT.out; omega, HBS4.out, HBR4.out, HTR4.out⟩
  · obtain rfl : i = 7 := by omega
    clear hlt
    go_upto_region 3 with fail
    refine wp_region_lit ?_
    refine wpList_run (v := .bool false) (wanted_none rfl) (ix_lss rfl rfl rfl (by decide)) ?_
    simp only [Act.put, List.setIfInBounds_toArray, List.set_cons_zero, List.set_cons_succ]
    go_upto_region 7 with fail
    refine wp_region_lit ?_
    refine wpList_run (v := .agg (exs b)) (wanted_none rfl) (by rw [← exs_upto]; exact gx_loads rfl rfl (blk_range HBS.out) Try.underlying64 rfl (by rw [size_exs]; rfl)) ?_
    simp only [Act.put, List.setIfInBounds_toArray, List.set_cons_zero, List.set_cons_succ]
    refine wpList_store_row rfl 64 (.tmp 2) (.tmp 17) rfl (exs b) HBR.out rfl rfl (by rw [exs_size, exs_size]) (by rw [size_exs, exs_size]) (exs_one _) ?_
    intro w4 hb4 ht4
    have HBZ := Lib.hid hb4
    have HTZ := Lib.hid (HTR.out.trans ht4 fun k hk e => by have := HLr.out; have e : k = r := e; omega)
    clear hb4 ht4
    simp only [Act.put, List.setIfInBounds_toArray, List.set_cons_zero, List.set_cons_succ]
    go_wp2_with fail
    refine bodyPost_ret (v := .agg (exs b)) (ret_cell1 rfl _ _ r _ _ _ rfl HBZ.out Try.underlying64 rfl (by rw [size_exs, exs_size] <;> rfl)) rfl ?_
    exact ⟨rfl, HTZ.out⟩
def fit7 (f : Nat → Int) : Bool := (List.range 7).all fun a => decide (Mn.in64 (f a))
theorem fit7_iff {f : Nat → Int} : fit7 f = true ↔ ∀ a, a < 7 → Mn.in64 (f a) := by simp [fit7]
def fitG (f : Nat → Int) : Nat → Int := if fit7 f = true then f else fun _ => 0
def fitE (f : Nat → Int) : Int := if fit7 f = true then 0 else 100
theorem fit_no {f : Nat → Int} {i : Nat} (hi : i < 7) (h : ¬ Mn.in64 (f i)) : fitG f = (fun _ => 0) ∧ fitE f = 100 := by
  have h0 : ¬ fit7 f = true := fun e => h (fit7_iff.1 e i hi)
  exact ⟨if_neg h0, if_neg h0⟩
theorem fit_yes {f : Nat → Int} (h : ∀ a, a < 7 → Mn.in64 (f a)) : fitG f = f ∧ fitE f = 0 := ⟨if_pos (fit7_iff.2 h), if_pos (fit7_iff.2 h)⟩
theorem balA_set {b : Nat → Int} {i : Nat} {z : Int} (hi : i < 7) : (balA b).setIfInBounds i (.int .i64 z) = balA fun k => if k = i then z else b k := by
  refine balA_of (by simp [balA]) fun j hj => ?_
  rw [Array.getElem?_setIfInBounds]
  by_cases e : i = j
  · subst e
    rw [if_pos rfl, if_pos (by simpa [balA] using hi), if_pos rfl]
  · rw [if_neg e, if_neg (fun h => e h.symm), balA_at, if_pos hj]
theorem build_bal0 (W : World) : (Instr.build 58 #[]).run Try.prog W = .ok (.agg (balA fun _ => 0)) W := by kernel_rfl
set_option maxRecDepth 20000 in
set_option maxHeartbeats 4000000 in
theorem fitted_walk {f : Nat → Int} (w : World) (hf : ∀ a, a < 7 → Lg.Small (f a)) : Calls Try.prog 25 #[.agg (exs f)] w fun e w' => e = .returned (.tuple #[.agg (balA (fitG f)), .int .i64 (fitE f)]) ∧ Turn nowhere w w' := by
  have HF := Lib.hid hf
  clear hf
  go_enter Try.func25, Try.ntmps25
  go_upto_region 0 with fail
  refine wp_region_lit ?_
  refine wpList_run (v := .pointer (some ⟨(w).heap.size, 0, none⟩)) (w' := (w).alloc (.cells (exs f) 64)) (wanted_none rfl) (gx_box rfl rfl (box_exs f _)) ?_
  simp only [Act.put, List.setIfInBounds_toArray, List.set_cons_zero, List.set_cons_succ]
  refine wpList_run (v := .pointer (some ⟨((w).alloc (.cells (exs f) 64)).heap.size, 0, none⟩)) (w' := ((w).alloc (.cells (exs f) 64)).alloc (.cells (balA fun _ => 0) 58)) (wanted_none rfl) (gx_alloc rfl (zero_bal _)) ?_
  simp only [Act.put, List.setIfInBounds_toArray, List.set_cons_zero, List.set_cons_succ]
  refine wpList_run (v := .int .i64 0) (wanted_none rfl) (gx_assign rfl rfl) ?_
  simp only [Act.put, List.setIfInBounds_toArray, List.set_cons_zero, List.set_cons_succ]
  have hb_q := (Blk.new (w) 64 (exs f)).alloc (.cells (balA fun _ => 0) 58)
  have hb_r := Blk.new ((w).alloc (.cells (exs f) 64)) 58 (balA fun _ => 0)
  have ht_ := ((Turn.refl nowhere (w)).alloc (.cells (exs f) 64)).alloc (.cells (balA fun _ => 0) 58)
  obtain ⟨n0_, hn0_⟩ : ∃ n, n = (w).heap.size := ⟨_, rfl⟩
  have hz_q : (w).heap.size = n0_ + 0 := by rw [hn0_]; simp
  have hz_r : ((w).alloc (.cells (exs f) 64)).heap.size = n0_ + 1 := by rw [hn0_]; simp
  obtain ⟨r, hg_⟩ : ∃ g, g = ((w).alloc (.cells (exs f) 64)).heap.size := ⟨_, rfl⟩
  rw [← hg_] at hb_r hz_r ⊢
  clear hg_
  obtain ⟨q, hg_⟩ : ∃ g, g = (w).heap.size := ⟨_, rfl⟩
  rw [← hg_] at hb_q hz_q ⊢
  clear hg_
  generalize ((w).alloc (.cells (exs f) 64)).alloc (.cells (balA fun _ => 0) 58) = w1 at *
  have HT1 := Lib.hid ht_
  clear ht_
  have HBq := Lib.hid hb_q
  have HLq := Lib.hid (show (w).heap.size ≤ q from by omega)
  clear hb_q
  have HBr := Lib.hid hb_r
  have HLr := Lib.hid (show (w).heap.size ≤ r from by omega)
  clear hb_r
  have HNqr := Lib.hid (show q ≠ r from by omega)
  clear hn0_ hz_q hz_r
  clear n0_
  go_upto_region 1 with fail
  refine wp_region_lit ?_
  refine wpList_run (v := .pointer (some ⟨(w1).heap.size, 0, none⟩)) (w' := (w1).alloc (.cells (balA fun _ => 0) 58)) (wanted_none rfl) (gx_alloc rfl (zero_bal _)) ?_
  simp only [Act.put, List.setIfInBounds_toArray, List.set_cons_zero, List.set_cons_succ]
  have hb_s := Blk.new (w1) 58 (balA fun _ => 0)
  have ht_ := (Turn.refl nowhere (w1)).alloc (.cells (balA fun _ => 0) 58)
  obtain ⟨n0_, hn0_⟩ : ∃ n, n = (w1).heap.size := ⟨_, rfl⟩
  have hz_s : (w1).heap.size = n0_ + 0 := by rw [hn0_]; simp
  obtain ⟨s, hg_⟩ : ∃ g, g = (w1).heap.size := ⟨_, rfl⟩
  rw [← hg_] at hb_s hz_s ⊢
  clear hg_
  generalize (w1).alloc (.cells (balA fun _ => 0) 58) = w2 at *
  have HT2 := Lib.hid ht_
  clear ht_
  have HBs := Lib.hid hb_s
  have HLs := Lib.hid (show (w1).heap.size ≤ s from by omega)
  clear hb_s
  clear hn0_ hz_s
  clear n0_
  go_upto_region 2 with fail
  refine wp_region_lit ?_
  refine wpList_run (v := .agg (exs f)) (wanted_none rfl) (gx_loads rfl rfl (blk_range (HBq.out.turn HT2.out fun e => e)) Try.underlying64 rfl (by rw [size_exs]; rfl)) ?_
  simp only [Act.put, List.setIfInBounds_toArray, List.set_cons_zero, List.set_cons_succ]
  refine wpList_run (v := .int .i64 0) (wanted_none rfl) (exec_move rfl rfl) ?_
  simp only [Act.put, List.setIfInBounds_toArray, List.set_cons_zero, List.set_cons_succ]
  have HBr2 := Lib.hid (HBr.out.turn HT2.out fun e => e)
  have HLs2 := Lib.hid (show w.heap.size ≤ s from Nat.le_trans HT1.out.size HLs.out)
  have HNrs := Lib.hid (show r ≠ s from by have := HBr.out.lt; have := HLs.out; omega)
  have HT12 := Lib.hid (HT1.out.trans HT2.out fun _ _ e => e)
  go_wp2_with fail
  go_loopg [8] 7 (fun gk iv wr => ∃ i : Nat, iv = .int .i64 (i : Int) ∧ i + gk = 7 ∧ (∀ a, a < i → Mn.in64 (f a)) ∧ Blk wr s 58 (balA (upto i f)) ∧ Blk wr r 58 (balA fun _ => 0) ∧ Turn nowhere w wr)
  case atStart => exact ⟨0, rfl, rfl, fun a h => absurd h (by omega), by rw [upto_zero]; exact HBs.out, HBr2.out, HT12.out⟩
  obtain ⟨i, rfl, hgk, hall, hbs, hbr, htr⟩ := hrel
  have HGK := Lib.hid hgk
  have HALL := Lib.hid hall
  have HBS := Lib.hid hbs
  have HBR := Lib.hid hbr
  have HTR := Lib.hid htr
  have yi : (i : Int) ≤ 7 := by omega
  clear hgk hall hbs hbr htr
  by_cases hlt : i < 7
  · have HLT := Lib.hid hlt
    have y3 : (i : Int) < 7 := by omega
    clear hlt
    go_upto_region 3 with fail
    refine wp_region_lit ?_
    refine wpList_run (v := .bool true) (wanted_none rfl) (ix_lss rfl rfl rfl (decide_eq_true y3)) ?_
    simp only [Act.put, List.setIfInBounds_toArray, List.set_cons_zero, List.set_cons_succ]
    go_upto_region 4 with fail
    refine wp_region_lit ?_
    refine wpList_run (v := .int .i64 (i : Int)) (wanted_none rfl) (exec_move rfl rfl) ?_
    simp only [Act.put, List.setIfInBounds_toArray, List.set_cons_zero, List.set_cons_succ]
    refine wpList_run (v := .agg (exA (f i))) (wanted_none rfl) (exec_indexK (m := 2) rfl rfl rfl Try.underlying64 HLT.out size_ex Try.underlying63 rfl (exs_part HLT.out)) ?_
    simp only [Act.put, List.setIfInBounds_toArray, List.set_cons_zero, List.set_cons_succ]
    refine wpList_run (v := .pointer (some ⟨wr.heap.size, 0, none⟩)) (w' := wr.alloc (.cells #[.int .i64 0, .int .u64 0] 63)) (wanted_none rfl) (gx_alloc rfl (zero_ex _)) ?_
    simp only [Act.put, List.setIfInBounds_toArray, List.set_cons_zero, List.set_cons_succ]
    have hb_ := Blk.new wr 63 #[.int .i64 0, .int .u64 0]
    have ht_ := (Turn.refl nowhere wr).alloc (.cells #[.int .i64 0, .int .u64 0] 63)
    obtain ⟨x, hg_⟩ : ∃ g, g = wr.heap.size := ⟨_, rfl⟩
    rw [← hg_] at hb_ ⊢
    have HLx := Lib.hid (show wr.heap.size ≤ x from by omega)
    clear hg_
    generalize wr.alloc (.cells #[.int .i64 0, .int .u64 0] 63) = w3 at *
    have HBx := Lib.hid hb_
    have HT3 := Lib.hid ht_
    clear hb_ ht_
    refine wpList_run (v := .int .i64 (i : Int)) (wanted_none rfl) (gx_assign rfl rfl) ?_
    simp only [Act.put, List.setIfInBounds_toArray, List.set_cons_zero, List.set_cons_succ]
    refine wpList_store_row (wanted_none rfl) 63 (.tmp 6) (.tmp 11) rfl (exA (f i)) HBx.out rfl rfl (rfl) (by rw [size_ex] <;> rfl) (exA_one _) ?_
    intro w4 hb_ ht_
    have HBx4 := Lib.hid hb_
    have HT4 := Lib.hid ht_
    clear hb_ ht_
    simp only [Act.put, List.setIfInBounds_toArray, List.set_cons_zero, List.set_cons_succ]
    have HT34 := Lib.hid (HT3.out.trans HT4.out fun k hk e => by have := HLx.out; have e : k = x := e; omega)
    clear HBx HT3 HT4
    go_upto_region 5 with fail
    refine wp_region_lit ?_
    refine wpList_run (v := .agg (exA (f i))) (wanted_none rfl) (gx_loads rfl rfl (blk_range HBx4.out) Try.underlying63 rfl (by rw [size_ex]; rfl)) ?_
    simp only [Act.put, List.setIfInBounds_toArray, List.set_cons_zero, List.set_cons_succ]
    refine wpList_op rfl fun K9 HK9 => ?_
    go_wp2_with fail
    refine (fits_walk w4 (HF.out i HLT.out)).mono ?_
    rintro e w5 ⟨rfl, ht⟩
    refine HK9.out _ _ ?_
    clear HK9
    try simp only [Act.put, List.setIfInBounds_toArray, List.set_cons_zero, List.set_cons_succ]
    have HT5 := Lib.hid (HT34.out.trans ht fun _ _ e => e)
    have HBx5 := Lib.hid (HBx4.out.turn ht fun e => e)
    clear ht HT34 HBx4
    by_cases hin : Mn.in64 (f i)
    · have HIN := Lib.hid hin
      rw [decide_eq_true hin]
      clear hin
      refine wpList_run (v := .bool false) (wanted_none rfl) (ix_not (b := true) rfl rfl) ?_
      simp only [Act.put, List.setIfInBounds_toArray, List.set_cons_zero, List.set_cons_succ]
      go_upto_region 7 with fail
      refine wp_region_lit ?_
      refine wpList_run (v := .int .i64 (i : Int)) (wanted_none rfl) (exec_move rfl rfl) ?_
      simp only [Act.put, List.setIfInBounds_toArray, List.set_cons_zero, List.set_cons_succ]
      refine wpList_run (v := .pointer (some ⟨x, 1, none⟩)) (wanted_none rfl) (exec_field (off := 0) (d := 1) rfl rfl (by kernel_rfl)) ?_
      simp only [Act.put, List.setIfInBounds_toArray, List.set_cons_zero, List.set_cons_succ]
      refine wpList_run (v := .int .u64 (Lg.exL (f i))) (wanted_none rfl) (exec_load1 rfl rfl (by kernel_rfl) (HBx5.out.cell 1)) ?_
      simp only [Act.put, List.setIfInBounds_toArray, List.set_cons_zero, List.set_cons_succ]
      refine wpList_run (v := .int .i64 (f i)) (wanted_none rfl) ((ix_cvti rfl rfl).trans (by rw [Lg.ex_val HIN.out])) ?_
      simp only [Act.put, List.setIfInBounds_toArray, List.set_cons_zero, List.set_cons_succ]
      refine wpList_run (v := .pointer (some ⟨s, 0 + i * 1, none⟩)) (wanted_none rfl) (gx_aaddr (i := i) (sz := 1) rfl rfl rfl Try.underlying58 (by kernel_rfl) HLT.out rfl) ?_
      simp only [Act.put, List.setIfInBounds_toArray, List.set_cons_zero, List.set_cons_succ]
      rw [show 0 + i * 1 = i from by omega]
      refine wpList_storeU i (.int .i64 (f i)) rfl 3 (.tmp 20) (.tmp 19) rfl (HBS.out.turn HT5.out fun e => e) rfl rfl (by have := HLT.out; show i < 7; omega) ⟨rfl, rfl⟩ (by kernel_rfl) ?_
      intro w6 hb6 ht6
      have hup : upto i f i = 0 := by unfold upto; rw [if_neg (by omega)]
      rw [balA_set HLT.out, upto_set] at hb6
      have HBS6 := Lib.hid hb6
      have HBR6 := Lib.hid ((HBR.out.turn HT5.out fun e => e).turn (F := only s) ht6 fun e => HNrs.out e)
      have HTR6 := Lib.hid ((HTR.out.trans HT5.out fun _ _ e => e).trans ht6 fun k hk e => by have := HLs2.out; have e : k = s := e; omega)
      clear hb6 ht6 hup
      simp only [Act.put, List.setIfInBounds_toArray, List.set_cons_zero, List.set_cons_succ]
      go_upto_region 8 with fail
      refine wp_region_lit ?_
      refine wpList_run (v := .int .i64 ((i + 1 : Nat) : Int)) (wanted_none rfl) (ix_add rfl rfl rfl (by omega) (by omega)) ?_
      simp only [Act.put, List.setIfInBounds_toArray, List.set_cons_zero, List.set_cons_succ]
      refine wpList_run (v := .int .i64 ((i + 1 : Nat) : Int)) (wanted_none rfl) (exec_move rfl rfl) ?_
      simp only [Act.put, List.setIfInBounds_toArray, List.set_cons_zero, List.set_cons_succ]
      go_wp2_with fail
      go_roundg (7 - (i + 1))
      case measure => have := HGK.out; have := HLT.out; omega
      case rel => exact ⟨i + 1, rfl, by have := HLT.out; omega, fun a ha => (Nat.lt_succ_iff_lt_or_eq.1 ha).elim (HALL.out a) (fun e => e ▸ HIN.out), HBS6.out, HBR6.out, HTR6.out⟩
    · have HNO := Lib.hid (fit_no HLT.out hin)
      rw [decide_eq_false hin]
      clear hin
      refine wpList_run (v := .bool true) (wanted_none rfl) (ix_not (b := false) rfl rfl) ?_
      simp only [Act.put, List.setIfInBounds_toArray, List.set_cons_zero, List.set_cons_succ]
      go_upto_region 6 with fail
      refine wp_region_lit ?_
      refine wpList_run (v := .agg (balA fun _ => 0)) (wanted_none rfl) (gx_build0 rfl (build_bal0 _)) ?_
      simp only [Act.put, List.setIfInBounds_toArray, List.set_cons_zero, List.set_cons_succ]
      refine wpList_store_row (wanted_none rfl) 58 (.tmp 2) (.tmp 15) rfl (balA fun _ => 0) (HBR.out.turn HT5.out fun e => e) rfl rfl (rfl) (by rw [size_bal] <;> rfl) (balA_one _) ?_
      intro w6 hb_ ht_
      have HB6 := Lib.hid hb_
      have HT6 := Lib.hid ht_
      clear hb_ ht_
      simp only [Act.put, List.setIfInBounds_toArray, List.set_cons_zero, List.set_cons_succ]
      refine wpList_run (v := .int .i64 100) (wanted_none rfl) (gx_assign rfl rfl) ?_
      simp only [Act.put, List.setIfInBounds_toArray, List.set_cons_zero, List.set_cons_succ]
      go_wp2_with fail
      refine bodyPost_ret (v := .tuple #[.agg (balA fun _ => 0), .int .i64 100]) (ret_cell2 rfl _ _ r _ _ _ rfl rfl HB6.out Try.underlying58 rfl (by rw [size_bal]; rfl)) rfl ?_
      rw [HNO.out.1, HNO.out.2]
      exact ⟨rfl, (HTR.out.trans HT5.out fun _ _ e => e).trans HT6.out fun k hk e => by have := HLr.out; have e : k = r := e; omega⟩
  · obtain rfl : i = 7 := by omega
    have HY := Lib.hid (fit_yes HALL.out)
    clear hlt
    go_upto_region 3 with fail
    refine wp_region_lit ?_
    refine wpList_run (v := .bool false) (wanted_none rfl) (ix_lss rfl rfl rfl (by decide)) ?_
    simp only [Act.put, List.setIfInBounds_toArray, List.set_cons_zero, List.set_cons_succ]
    go_upto_region 9 with fail
    refine wp_region_lit ?_
    refine wpList_run (v := .agg (balA f)) (wanted_none rfl) (by rw [← balA_upto]; exact gx_loads rfl rfl (blk_range HBS.out) Try.underlying58 rfl (by rw [size_bal]; rfl)) ?_
    simp only [Act.put, List.setIfInBounds_toArray, List.set_cons_zero, List.set_cons_succ]
    refine wpList_store_row (wanted_none rfl) 58 (.tmp 2) (.tmp 22) rfl (balA f) HBR.out rfl rfl (rfl) (by rw [size_bal] <;> rfl) (balA_one _) ?_
    intro w6 hb_ ht_
    have HB6 := Lib.hid hb_
    have HT6 := Lib.hid ht_
    clear hb_ ht_
    simp only [Act.put, List.setIfInBounds_toArray, List.set_cons_zero, List.set_cons_succ]
    refine wpList_run (v := .int .i64 0) (wanted_none rfl) (gx_assign rfl rfl) ?_
    simp only [Act.put, List.setIfInBounds_toArray, List.set_cons_zero, List.set_cons_succ]
    go_wp2_with fail
    refine bodyPost_ret (v := .tuple #[.agg (balA f), .int .i64 0]) (ret_cell2 rfl _ _ r _ _ _ rfl rfl HB6.out Try.underlying58 rfl (by rw [size_bal]; rfl)) rfl ?_
    rw [HY.out.1, HY.out.2]
    exact ⟨rfl, HTR.out.trans HT6.out fun k hk e => by have := HLr.out; have e : k = r := e; omega⟩
end Go.Proofs.Ythoefjaapjaeeaa
