/-
  Index: IndexDrops: the walk. No conditions.
-/
import Derived.Test.YtagpnfoindeadaaIyQ
namespace Go.Proofs.Ytagpnfoindeadaa
open Go.RowKit
open Ix
set_option linter.unusedVariables false
set_option linter.unusedSimpArgs false
theorem size_str : (Try.prog.info? 9).map (·.size) = some 1 := by kernel_rfl
set_option maxRecDepth 20000 in
set_option maxHeartbeats 8000000 in
theorem drops_walk {w : World} {c : Int} {A : Option Addr} {m cap : Nat} {ks : List Key} {e0 e1 : Key} (hc : -9223372036854775808 ≤ c ∧ c ≤ 9223372036854775807) (hk : Rws w 1 A m (ks.map fun k => [strV k])) (hkl : ∀ k ∈ ks, k.length ≤ 281474976710656) :
    Calls Try.prog 7 #[.int .i64 c, .slice A m cap, .agg #[strV e0, strV e1]] w fun e w' => e = .returned (.bool true) ∧ Turn nowhere w w' := by
  have HC := Lib.hid hc
  have HK := Lib.hid hk
  have HKL := Lib.hid hkl
  clear hc hk hkl
  go_enter Try.func7, Try.ntmps7
  go_upto_region 1 with fail
  have hb0 := Blk.new w 56 #[strV e0, strV e1]
  have ht0 := (Turn.refl nowhere w).alloc (.cells #[strV e0, strV e1] 56)
  obtain ⟨w0, hw0⟩ : ∃ v, v = w.alloc (.cells #[strV e0, strV e1] 56) := ⟨_, rfl⟩
  obtain ⟨g0, hg0⟩ : ∃ g, g = w.heap.size := ⟨_, rfl⟩
  rw [← hw0] at hb0 ht0 ⊢
  rw [← hg0] at hb0 ⊢
  have HB := Lib.hid hb0
  have HT0 := Lib.hid ht0
  clear hb0 ht0 hw0 hg0
  refine wp_region_lit ?_
  refine wpList_op rfl fun K9 HK9 => ?_
  go_wp2_with fail
  refine ((shown_walk (w := w0))).mono ?_
  rintro e w1 ⟨rfl, ht1⟩
  refine HK9.out _ _ ?_
  clear HK9
  try simp only [Act.put, List.setIfInBounds_toArray, List.set_cons_zero, List.set_cons_succ]
  have HT1 := Lib.hid ht1
  clear ht1
  refine wpList_run (v := .bool true) (wanted_none rfl) (gx_assign rfl rfl) ?_
  simp only [Act.put, List.setIfInBounds_toArray, List.set_cons_zero, List.set_cons_succ]
  have HAM := Lib.hid (show Calls Try.prog 23 #[.int .i64 c, .int .i64 63] w1 _ from among_walk c 63 w1 HC.out (by decide) (by decide))
  go_upto_region 2 with fail
  refine wp_region_lit ?_
  refine wpList_run (v := .int .i64 c) (wanted_none rfl) (exec_move rfl rfl) ?_
  simp only [Act.put, List.setIfInBounds_toArray, List.set_cons_zero, List.set_cons_succ]
  refine wpList_op rfl fun K9 HK9 => ?_
  go_wp2_with fail
  refine (HAM.out).mono ?_
  rintro e w2 ⟨m0, rfl, hm0, hw⟩
  refine HK9.out _ _ ?_
  clear HK9
  try simp only [Act.put, List.setIfInBounds_toArray, List.set_cons_zero, List.set_cons_succ]
  subst hw
  have ym0 : (m0 : Int) < 63 := by omega
  refine wpList_run (v := .int .i64 ((m0 + 2 : Nat) : Int)) (wanted_none rfl) (ix_add rfl rfl rfl (by omega) (by omega)) ?_
  simp only [Act.put, List.setIfInBounds_toArray, List.set_cons_zero, List.set_cons_succ]
  refine wpList_op rfl fun K9 HK9 => ?_
  go_wp2_with fail
  refine ((new_walk (w := w1) (M := m0 + 2) (by omega) (by omega))).mono ?_
  rintro e w2 ⟨x, rfl, hx, ht2, hi2⟩
  refine HK9.out _ _ ?_
  clear HK9
  try simp only [Act.put, List.setIfInBounds_toArray, List.set_cons_zero, List.set_cons_succ]
  have HF2 := Lib.hid (Fr.still (w := w0) (Fr.new (HT1.out.trans ht2 fun _ _ e => e) (Nat.le_trans HT1.out.size hx)) (Turn.refl nowhere w2))
  have HI2 := Lib.hid hi2
  clear hx ht2 hi2 HAM
  refine wpList_run (v := .tuple #[.pointer (some ⟨x, 0, none⟩), .int .i64 0]) (wanted_none rfl) (exec_move rfl rfl) ?_
  simp only [Act.put, List.setIfInBounds_toArray, List.set_cons_zero, List.set_cons_succ]
  refine wpList_run (v := .pointer (some ⟨x, 0, none⟩)) (wanted_none rfl) (ix_extract rfl rfl rfl) ?_
  simp only [Act.put, List.setIfInBounds_toArray, List.set_cons_zero, List.set_cons_succ]
  refine wpList_run (v := .int .i64 0) (wanted_none rfl) (ix_extract rfl rfl rfl) ?_
  simp only [Act.put, List.setIfInBounds_toArray, List.set_cons_zero, List.set_cons_succ]
  refine wpList_run (v := .pointer (some ⟨x, 0, none⟩)) (wanted_none rfl) (gx_assign rfl rfl) ?_
  simp only [Act.put, List.setIfInBounds_toArray, List.set_cons_zero, List.set_cons_succ]
  refine wpList_run (v := .int .i64 0) (wanted_none rfl) (gx_assign rfl rfl) ?_
  simp only [Act.put, List.setIfInBounds_toArray, List.set_cons_zero, List.set_cons_succ]
  go_upto_region 3 with fail
  refine wp_region_lit ?_
  refine wpList_run (v := .bool true) (wanted_none rfl) (exec_move rfl rfl) ?_
  simp only [Act.put, List.setIfInBounds_toArray, List.set_cons_zero, List.set_cons_succ]
  refine wpList_run (v := .bool false) (wanted_none rfl) (ix_not (b := true) rfl rfl) ?_
  simp only [Act.put, List.setIfInBounds_toArray, List.set_cons_zero, List.set_cons_succ]
  refine wpList_run (v := .bool false) (wanted_none rfl) (exec_move rfl rfl) ?_
  simp only [Act.put, List.setIfInBounds_toArray, List.set_cons_zero, List.set_cons_succ]
  refine wpList_run (v := .pointer (some ⟨x, 0, none⟩)) rfl (exec_move rfl rfl) ?_
  simp only [Act.put, List.setIfInBounds_toArray, List.set_cons_zero, List.set_cons_succ]
  refine wpList_run (v := .bool false) rfl (ixp_some rfl rfl rfl rfl) ?_
  simp only [Act.put, List.setIfInBounds_toArray, List.set_cons_zero, List.set_cons_succ]
  refine wpList_run (v := .bool false) (wanted_none rfl) (ix_pickF rfl rfl rfl) ?_
  simp only [Act.put, List.setIfInBounds_toArray, List.set_cons_zero, List.set_cons_succ]
  refine wpList_run (v := .bool false) (wanted_none rfl) (exec_move rfl rfl) ?_
  simp only [Act.put, List.setIfInBounds_toArray, List.set_cons_zero, List.set_cons_succ]
  refine wpList_run (v := .int .i64 0) rfl (exec_move rfl rfl) ?_
  simp only [Act.put, List.setIfInBounds_toArray, List.set_cons_zero, List.set_cons_succ]
  refine wpList_run (v := .bool false) rfl (ix_neq rfl rfl rfl (by decide)) ?_
  simp only [Act.put, List.setIfInBounds_toArray, List.set_cons_zero, List.set_cons_succ]
  refine wpList_run (v := .bool false) (wanted_none rfl) (ix_pickF rfl rfl rfl) ?_
  simp only [Act.put, List.setIfInBounds_toArray, List.set_cons_zero, List.set_cons_succ]
  go_upto_region 5 with fail
  refine wp_region_lit ?_
  refine wpList_run (v := .int .i64 0) (wanted_none rfl) (gx_assign rfl rfl) ?_
  simp only [Act.put, List.setIfInBounds_toArray, List.set_cons_zero, List.set_cons_succ]
  obtain ⟨mm, hmm⟩ : ∃ q, q = min m 200 := ⟨_, rfl⟩
  have HM1 := Lib.hid (show mm ≤ m ∧ mm ≤ 200 ∧ (∀ i, i < m → i < 200 → i < mm) from ⟨by omega, by omega, fun i h1 h2 => by omega⟩)
  clear hmm
  have ym : (m : Int) ≤ 140737488355328 := by have := HK.out.2.2.1; omega
  go_wp2_with fail
  go_loopg [10] mm (fun gk iv wr => ∃ (i : Nat) (H : Hp) (l : List Pr), iv = .int .i64 (i : Int) ∧ i + gk = mm ∧ Idx wr x H (m0 + 2) l i ∧ Srt l ∧ Fr w0 x H wr)
  case atStart => exact ⟨0, _, [], rfl, by omega, HI2.out, List.Pairwise.nil, HF2.out⟩
  obtain ⟨i, H, l1, rfl, hgk, hi, hs, hf⟩ := hrel
  have HGK := Lib.hid hgk
  have HI := Lib.hid hi
  have HS := Lib.hid hs
  have HF := Lib.hid hf
  have hile : i ≤ mm := by omega
  have yi : (i : Int) ≤ 200 := by have := HM1.out; omega
  clear hgk hi hs hf
  by_cases hlt : i < mm
  · have HLT := Lib.hid hlt
    have him : i < m := by have := HM1.out; omega
    have y3 : (i : Int) < (m : Int) := by omega
    have y4 : (i : Int) < 200 := by have := HM1.out; omega
    obtain ⟨bF, oF, hA, hr⟩ := HK.out.2.2.2 (by omega)
    subst hA
    obtain ⟨k, hkk⟩ : ∃ k, ks[i]? = some k := ⟨_, List.getElem?_eq_getElem (by have := HK.out.1; rw [List.length_map] at this; omega)⟩
    have HIM := Lib.hid him
    have HKM := Lib.hid (HKL.out k (List.mem_of_getElem? hkk))
    have hcell := hr i [strV k] (by rw [List.getElem?_map, hkk]; rfl) 0 _ rfl
    rw [Nat.add_zero] at hcell
    have HCE := Lib.hid (((HT0.out.trans HF.out.1 fun _ _ e => e).cell (World.block_lt_of_cell? _ _ hcell) fun e => e).trans hcell)
    clear hr hkk hcell him hlt
    go_upto_region 6 with fail
    refine wp_region_lit ?_
    refine wpList_run (v := .int .i64 (i : Int)) (wanted_none rfl) (exec_move rfl rfl) ?_
    simp only [Act.put, List.setIfInBounds_toArray, List.set_cons_zero, List.set_cons_succ]
    refine wpList_run (v := .slice (some ⟨bF, oF, none⟩) m cap) (wanted_none rfl) (exec_move rfl rfl) ?_
    simp only [Act.put, List.setIfInBounds_toArray, List.set_cons_zero, List.set_cons_succ]
    refine wpList_run (v := .int .i64 (m : Int)) (wanted_none rfl) (gx_len rfl rfl Try.underlying51) ?_
    simp only [Act.put, List.setIfInBounds_toArray, List.set_cons_zero, List.set_cons_succ]
    refine wpList_run (v := .bool true) (wanted_none rfl) (ix_lss rfl rfl rfl (decide_eq_true y3)) ?_
    simp only [Act.put, List.setIfInBounds_toArray, List.set_cons_zero, List.set_cons_succ]
    refine wpList_run (v := .bool true) (wanted_none rfl) (exec_move rfl rfl) ?_
    simp only [Act.put, List.setIfInBounds_toArray, List.set_cons_zero, List.set_cons_succ]
    refine wpList_run (v := .int .i64 (i : Int)) rfl (exec_move rfl rfl) ?_
    simp only [Act.put, List.setIfInBounds_toArray, List.set_cons_zero, List.set_cons_succ]
    refine wpList_run (v := .bool true) rfl (ix_lss rfl rfl rfl (decide_eq_true y4)) ?_
    simp only [Act.put, List.setIfInBounds_toArray, List.set_cons_zero, List.set_cons_succ]
    refine wpList_run (v := .bool true) (wanted_none rfl) (ix_pickT rfl rfl rfl) ?_
    simp only [Act.put, List.setIfInBounds_toArray, List.set_cons_zero, List.set_cons_succ]
    go_upto_region 8 with fail
    refine wp_region_lit ?_
    refine wpList_run (v := .pointer (some ⟨x, 0, none⟩)) (wanted_none rfl) (exec_move rfl rfl) ?_
    simp only [Act.put, List.setIfInBounds_toArray, List.set_cons_zero, List.set_cons_succ]
    refine wpList_run (v := .slice (some ⟨bF, oF, none⟩) m cap) (wanted_none rfl) (exec_move rfl rfl) ?_
    simp only [Act.put, List.setIfInBounds_toArray, List.set_cons_zero, List.set_cons_succ]
    refine wpList_run (v := .int .i64 (i : Int)) (wanted_none rfl) (exec_move rfl rfl) ?_
    simp only [Act.put, List.setIfInBounds_toArray, List.set_cons_zero, List.set_cons_succ]
    refine wpList_run (v := .pointer (some ⟨bF, oF + i * 1, none⟩)) (wanted_none rfl) (gx_iaddr (i := i) (sz := 1) rfl rfl rfl Try.underlying51 size_str HIM.out rfl) ?_
    simp only [Act.put, List.setIfInBounds_toArray, List.set_cons_zero, List.set_cons_succ]
    refine wpList_run (v := strV k) (wanted_none rfl) (exec_load1 rfl rfl (by kernel_rfl) HCE.out) ?_
    simp only [Act.put, List.setIfInBounds_toArray, List.set_cons_zero, List.set_cons_succ]
    refine wpList_run (v := .int .i64 (i : Int)) (wanted_none rfl) (exec_move rfl rfl) ?_
    simp only [Act.put, List.setIfInBounds_toArray, List.set_cons_zero, List.set_cons_succ]
    refine wpList_op rfl fun K9 HK9 => ?_
    go_wp2_with fail
    refine ((Put_walk (k := k) (v := (i : Int)) HI.out (by have := HLT.out; have := HM1.out; omega) HKM.out)).mono ?_
    rintro e w9 ⟨rfl, H9, hi9, ht9, hf9⟩
    refine HK9.out _ _ ?_
    clear HK9
    try simp only [Act.put, List.setIfInBounds_toArray, List.set_cons_zero, List.set_cons_succ]
    have HI9 := Lib.hid hi9
    have HF9 := Lib.hid (HF.out.to ht9 hf9)
    clear hi9 ht9 hf9
    go_upto_region 7 with fail
    refine wp_region_lit ?_
    refine wpList_run (v := .int .i64 (i : Int)) (wanted_none rfl) (exec_move rfl rfl) ?_
    simp only [Act.put, List.setIfInBounds_toArray, List.set_cons_zero, List.set_cons_succ]
    refine wpList_run (v := .int .i64 ((i + 1 : Nat) : Int)) (wanted_none rfl) (ix_add rfl rfl rfl (by omega) (by omega)) ?_
    simp only [Act.put, List.setIfInBounds_toArray, List.set_cons_zero, List.set_cons_succ]
    refine wpList_run (v := .int .i64 ((i + 1 : Nat) : Int)) (wanted_none rfl) (gx_assign rfl rfl) ?_
    simp only [Act.put, List.setIfInBounds_toArray, List.set_cons_zero, List.set_cons_succ]
    go_wp2_with fail
    go_roundg (mm - (i + 1))
    case measure => have := HGK.out; have := HLT.out; omega
    case rel => exact ⟨i + 1, H9, _, rfl, by have := HLT.out; omega, HI9.out, lput_srt HS.out, HF9.out⟩
  · obtain rfl : i = mm := by omega
    clear hlt hile
    have HI3 := Lib.hid (show Idx wr x H (m0 + 2) l1 200 from ⟨HI.out.hin, HI.out.ord, by obtain ⟨t, ch, h1, h2, h3⟩ := HI.out.blk; exact ⟨t, ch, h1, by have := HM1.out; omega, h3⟩, by have := HI.out.cnt; have := HM1.out; omega, by decide⟩)
    go_upto_region 6 with fail
    rename_i K9 hK9
    have HKC := Lib.hid hK9
    clear hK9
    refine wp_region_lit ?_
    by_cases him : i < m
    · have y5 : (i : Int) < (m : Int) := by omega
      have y6 : ¬ (i : Int) < 200 := by have := HM1.out.2.2 i him; have := HM1.out; omega
      clear him
      refine wpList_run (v := .int .i64 (i : Int)) (wanted_none rfl) (exec_move rfl rfl) ?_
      simp only [Act.put, List.setIfInBounds_toArray, List.set_cons_zero, List.set_cons_succ]
      refine wpList_run (v := .slice A m cap) (wanted_none rfl) (exec_move rfl rfl) ?_
      simp only [Act.put, List.setIfInBounds_toArray, List.set_cons_zero, List.set_cons_succ]
      refine wpList_run (v := .int .i64 (m : Int)) (wanted_none rfl) (gx_len rfl rfl Try.underlying51) ?_
      simp only [Act.put, List.setIfInBounds_toArray, List.set_cons_zero, List.set_cons_succ]
      refine wpList_run (v := .bool true) (wanted_none rfl) (ix_lss rfl rfl rfl (decide_eq_true y5)) ?_
      simp only [Act.put, List.setIfInBounds_toArray, List.set_cons_zero, List.set_cons_succ]
      refine wpList_run (v := .bool true) (wanted_none rfl) (exec_move rfl rfl) ?_
      simp only [Act.put, List.setIfInBounds_toArray, List.set_cons_zero, List.set_cons_succ]
      refine wpList_run (v := .int .i64 (i : Int)) rfl (exec_move rfl rfl) ?_
      simp only [Act.put, List.setIfInBounds_toArray, List.set_cons_zero, List.set_cons_succ]
      refine wpList_run (v := .bool false) rfl (ix_lss rfl rfl rfl (decide_eq_false y6)) ?_
      simp only [Act.put, List.setIfInBounds_toArray, List.set_cons_zero, List.set_cons_succ]
      refine wpList_run (v := .bool false) (wanted_none rfl) (ix_pickT rfl rfl rfl) ?_
      simp only [Act.put, List.setIfInBounds_toArray, List.set_cons_zero, List.set_cons_succ]
      refine wpList_nil ?_
      refine HKC.out _ _ ?_
      have HSR := Lib.hid (rngOf_all HS.out)
      have HL200 := Lib.hid (show l1.length ≤ 200 from by have := HI.out.cnt; have := HM1.out; omega)
      go_upto_region 9 with fail
      refine wp_region_lit ?_
      refine wpList_run (v := .pointer (some ⟨x, 0, none⟩)) (wanted_none rfl) (exec_move rfl rfl) ?_
      simp only [Act.put, List.setIfInBounds_toArray, List.set_cons_zero, List.set_cons_succ]
      refine wpList_op rfl fun K9 HK9 => ?_
      go_wp2_with fail
      refine ((ranged_walk (fr := []) (to := []) (most := -1) HI3.out)).mono ?_
      rintro e w10 ⟨va, rfl, hva, ht10⟩
      refine HK9.out _ _ ?_
      clear HK9
      try simp only [Act.put, List.setIfInBounds_toArray, List.set_cons_zero, List.set_cons_succ]
      rw [cut_neg, HSR.out] at hva
      have HR1 := Lib.hid (RowO.new HI3.out hva)
      have HI4 := Lib.hid (HI3.out.still ht10)
      have HF4 := Lib.hid (HF.out.still ht10)
      obtain ⟨L1, hL1⟩ : ∃ L, L = l1 := ⟨_, rfl⟩
      rw [← hL1] at HR1
      have HLE1 := Lib.hid hL1
      clear hva ht10 hL1
      obtain ⟨A1, c1, e9, _⟩ := HR1.out.1.form
      obtain ⟨n1, hn9⟩ : ∃ q, q = (L1).length := ⟨_, rfl⟩
      rw [List.length_map] at e9
      replace e9 := e9.trans (show _ = Value.slice A1 n1 c1 from by rw [hn9])
      subst e9
      have HN1 := Lib.hid hn9
      clear hn9
      refine wpList_run (v := .slice A1 n1 c1) (wanted_none rfl) (gx_assign rfl rfl) ?_
      simp only [Act.put, List.setIfInBounds_toArray, List.set_cons_zero, List.set_cons_succ]
      have hB4 := HB.out.turn HF4.out.1 fun e => e
      have hc0 : w10.cell? ⟨g0, 0, none⟩ = some (strV e0) := hB4.cell 0
      have hc1 : w10.cell? ⟨g0, 1, none⟩ = some (strV e1) := hB4.cell 1
      clear hB4
      go_wp2_with fail
      refine (ranged_walk (fr := e0) (to := e1) (most := -1) HI4.out).mono ?_
      rintro e w11 ⟨vb, rfl, hvb, ht11⟩
      clear hc0 hc1
      obtain ⟨ss, hss⟩ : ∃ s, s = l1.filter (inR e0 e1) := ⟨_, rfl⟩
      rw [cut_neg, rngOf_rng HS.out, ← hss] at hvb
      have HSS := Lib.hid hss
      have HR2 := Lib.hid (RowO.new HI4.out hvb)
      have HR1b := Lib.hid (HR1.out.still ht11)
      have HI5 := Lib.hid (HI4.out.still ht11)
      have HF5 := Lib.hid (HF4.out.still ht11)
      obtain ⟨L2, hL2⟩ : ∃ L, L = ss := ⟨_, rfl⟩
      rw [← hL2] at HR2
      have HLE2 := Lib.hid hL2
      clear hvb ht11 hL2 hss
      obtain ⟨A2, c2, e9, _⟩ := HR2.out.1.form
      obtain ⟨n2, hn9⟩ : ∃ q, q = (L2).length := ⟨_, rfl⟩
      rw [List.length_map] at e9
      replace e9 := e9.trans (show _ = Value.slice A2 n2 c2 from by rw [hn9])
      subst e9
      have HN2 := Lib.hid hn9
      clear hn9
      have HL2 := Lib.hid (show n2 ≤ 200 from by rw [HN2.out, HLE2.out, HSS.out]; exact Nat.le_trans (List.filter_sublist (l := l1)).length_le HL200.out)
      have yn2 : (n2 : Int) ≤ 200 := by have := HL2.out; omega
      have yn1 : (n1 : Int) ≤ 200 := by have := HL200.out; have := HN1.out; rw [HLE1.out] at this; omega
      go_wp2_with fail
      go_loopg [13] n2 (fun gk iv wr => ∃ (i : Nat) (H : Hp), iv = .int .i64 (i : Int) ∧ i + gk = n2 ∧ Idx wr x H (m0 + 2) (dropL (ss.take i) l1) (200 + i) ∧ RowO wr x H (.slice A1 n1 c1) L1 ∧ RowO wr x H (.slice A2 n2 c2) L2 ∧ Fr w0 x H wr)
      case atStart => exact ⟨0, _, rfl, by omega, by rw [List.take_zero, dropL_nil]; exact HI5.out, HR1b.out, HR2.out, HF5.out⟩
      obtain ⟨j, Hj, rfl, hgk, hi, hr1, hr2, hf⟩ := hrel
      have HGKj := Lib.hid hgk
      have HIj := Lib.hid hi
      have HR1j := Lib.hid hr1
      have HR2j := Lib.hid hr2
      have HFj := Lib.hid hf
      have hjle : j ≤ n2 := by omega
      have yj : (j : Int) ≤ (n2 : Int) := by omega
      clear hgk hi hr1 hr2 hf
      by_cases hlt : j < n2
      · have HLT := Lib.hid hlt
        have y3 : (j : Int) < (n2 : Int) := by omega
        obtain ⟨q, hq⟩ : ∃ q, ss[j]? = some q := ⟨_, List.getElem?_eq_getElem (by rw [← HLE2.out, ← HN2.out]; exact hlt)⟩
        have HQ2 := Lib.hid (show L2[j]? = some q from by rw [HLE2.out]; exact hq)
        obtain ⟨b2, d2, e9, _, _⟩ := HR2j.out.1.some_ (by rw [List.length_map, ← HN2.out]; omega)
        injection e9 with e8 e7 e6
        subst e8
        have HD := Lib.hid (show Calls Try.prog 13 #[.pointer (some ⟨x, 0, none⟩), strV q.1] wr fun e w' => e = .returned (.tuple #[.int .i64 q.2, .bool true]) ∧ IdxTo wr x Hj (m0 + 2) (dropL (ss.take (j + 1)) l1) (200 + j + 1) w' from by
          have h := Drop_walk (k := q.1) HIj.out (by have := HL2.out; omega)
          rw [drop_take hq] at h
          rw [HSS.out] at hq
          have h2 := drop_next HS.out hq
          rw [← HSS.out] at h2
          rw [h2] at h
          exact h)
        clear e7 e6 hlt hq
        go_upto_region 12 with fail
        refine wp_region_lit ?_
        refine wpList_run (v := .int .i64 (j : Int)) (wanted_none rfl) (exec_move rfl rfl) ?_
        simp only [Act.put, List.setIfInBounds_toArray, List.set_cons_zero, List.set_cons_succ]
        refine wpList_run (v := .slice (some ⟨b2, 0, none⟩) n2 c2) (wanted_none rfl) (exec_move rfl rfl) ?_
        simp only [Act.put, List.setIfInBounds_toArray, List.set_cons_zero, List.set_cons_succ]
        refine wpList_run (v := .int .i64 (n2 : Int)) (wanted_none rfl) (gx_len rfl rfl Try.underlying29) ?_
        simp only [Act.put, List.setIfInBounds_toArray, List.set_cons_zero, List.set_cons_succ]
        refine wpList_run (v := .bool true) (wanted_none rfl) (ix_lss rfl rfl rfl (decide_eq_true y3)) ?_
        simp only [Act.put, List.setIfInBounds_toArray, List.set_cons_zero, List.set_cons_succ]
        go_upto_region 14 with fail
        refine wp_region_lit ?_
        refine wpList_run (v := .pointer (some ⟨x, 0, none⟩)) (wanted_none rfl) (exec_move rfl rfl) ?_
        simp only [Act.put, List.setIfInBounds_toArray, List.set_cons_zero, List.set_cons_succ]
        refine wpList_run (v := .slice (some ⟨b2, 0, none⟩) n2 c2) (wanted_none rfl) (exec_move rfl rfl) ?_
        simp only [Act.put, List.setIfInBounds_toArray, List.set_cons_zero, List.set_cons_succ]
        refine wpList_run (v := .int .i64 (j : Int)) (wanted_none rfl) (exec_move rfl rfl) ?_
        simp only [Act.put, List.setIfInBounds_toArray, List.set_cons_zero, List.set_cons_succ]
        refine wpList_run (v := .pointer (some ⟨b2, 0 + j * 2, none⟩)) (wanted_none rfl) (gx_iaddr (i := j) (sz := 2) rfl rfl rfl Try.underlying29 size_ref HLT.out rfl) ?_
        simp only [Act.put, List.setIfInBounds_toArray, List.set_cons_zero, List.set_cons_succ]
        refine wpList_run (v := .pointer (some ⟨b2, 0 + j * 2 + 0, none⟩)) (wanted_none rfl) (exec_field (off := 0 + j * 2) (d := 0) rfl rfl (by kernel_rfl)) ?_
        simp only [Act.put, List.setIfInBounds_toArray, List.set_cons_zero, List.set_cons_succ]
        refine wpList_run (v := strV q.1) (wanted_none rfl) (exec_load1 rfl rfl (by kernel_rfl) (HR2j.out.1.el0 (r := encP q) (by rw [List.getElem?_map, HQ2.out]; rfl) 0 _ rfl)) ?_
        simp only [Act.put, List.setIfInBounds_toArray, List.set_cons_zero, List.set_cons_succ]
        refine wpList_op rfl fun K9 HK9 => ?_
        go_wp2_with fail
        refine (HD.out).mono ?_
        rintro e w12 ⟨rfl, H12, hi12, ht12, hf12⟩
        refine HK9.out _ _ ?_
        clear HK9
        try simp only [Act.put, List.setIfInBounds_toArray, List.set_cons_zero, List.set_cons_succ]
        have HI12 := Lib.hid hi12
        have HR1k := Lib.hid (HR1j.out.to ht12 hf12)
        have HR2k := Lib.hid (HR2j.out.to ht12 hf12)
        have HF12 := Lib.hid (HFj.out.to ht12 hf12)
        clear hi12 ht12 hf12 HD
        refine wpList_run (v := .tuple #[.int .i64 q.2, .bool true]) (wanted_none rfl) (exec_move rfl rfl) ?_
        simp only [Act.put, List.setIfInBounds_toArray, List.set_cons_zero, List.set_cons_succ]
        refine wpList_run (v := .int .i64 q.2) (wanted_none rfl) (ix_extract rfl rfl rfl) ?_
        simp only [Act.put, List.setIfInBounds_toArray, List.set_cons_zero, List.set_cons_succ]
        refine wpList_run (v := .bool true) (wanted_none rfl) (ix_extract rfl rfl rfl) ?_
        simp only [Act.put, List.setIfInBounds_toArray, List.set_cons_zero, List.set_cons_succ]
        refine wpList_run (v := .int .i64 q.2) (wanted_none rfl) (gx_assign rfl rfl) ?_
        simp only [Act.put, List.setIfInBounds_toArray, List.set_cons_zero, List.set_cons_succ]
        refine wpList_run (v := .bool true) (wanted_none rfl) (gx_assign rfl rfl) ?_
        simp only [Act.put, List.setIfInBounds_toArray, List.set_cons_zero, List.set_cons_succ]
        go_upto_region 15 with fail
        refine wp_region_lit ?_
        refine wpList_run (v := .bool true) (wanted_none rfl) (exec_move rfl rfl) ?_
        simp only [Act.put, List.setIfInBounds_toArray, List.set_cons_zero, List.set_cons_succ]
        refine wpList_run (v := .bool false) (wanted_none rfl) (ix_not (b := true) rfl rfl) ?_
        simp only [Act.put, List.setIfInBounds_toArray, List.set_cons_zero, List.set_cons_succ]
        refine wpList_run (v := .bool false) (wanted_none rfl) (exec_move rfl rfl) ?_
        simp only [Act.put, List.setIfInBounds_toArray, List.set_cons_zero, List.set_cons_succ]
        refine wpList_run (v := .int .i64 q.2) rfl (exec_move rfl rfl) ?_
        simp only [Act.put, List.setIfInBounds_toArray, List.set_cons_zero, List.set_cons_succ]
        refine wpList_run (v := .slice (some ⟨b2, 0, none⟩) n2 c2) rfl (exec_move rfl rfl) ?_
        simp only [Act.put, List.setIfInBounds_toArray, List.set_cons_zero, List.set_cons_succ]
        refine wpList_run (v := .int .i64 (j : Int)) rfl (exec_move rfl rfl) ?_
        simp only [Act.put, List.setIfInBounds_toArray, List.set_cons_zero, List.set_cons_succ]
        refine wpList_run (v := .pointer (some ⟨b2, 0 + j * 2, none⟩)) rfl (gx_iaddr (i := j) (sz := 2) rfl rfl rfl Try.underlying29 size_ref HLT.out rfl) ?_
        simp only [Act.put, List.setIfInBounds_toArray, List.set_cons_zero, List.set_cons_succ]
        refine wpList_run (v := .pointer (some ⟨b2, 0 + j * 2 + 1, none⟩)) rfl (exec_field (off := 0 + j * 2) (d := 1) rfl rfl (by kernel_rfl)) ?_
        simp only [Act.put, List.setIfInBounds_toArray, List.set_cons_zero, List.set_cons_succ]
        refine wpList_run (v := .int .i64 q.2) rfl (exec_load1 rfl rfl (by kernel_rfl) (HR2k.out.1.el0 (r := encP q) (by rw [List.getElem?_map, HQ2.out]; rfl) 1 _ rfl)) ?_
        simp only [Act.put, List.setIfInBounds_toArray, List.set_cons_zero, List.set_cons_succ]
        refine wpList_run (v := .bool false) rfl (ix_neq rfl rfl rfl (decide_eq_false (fun e => e rfl))) ?_
        simp only [Act.put, List.setIfInBounds_toArray, List.set_cons_zero, List.set_cons_succ]
        refine wpList_run (v := .bool false) (wanted_none rfl) (ix_pickF rfl rfl rfl) ?_
        simp only [Act.put, List.setIfInBounds_toArray, List.set_cons_zero, List.set_cons_succ]
        go_upto_region 13 with fail
        refine wp_region_lit ?_
        refine wpList_run (v := .int .i64 (j : Int)) (wanted_none rfl) (exec_move rfl rfl) ?_
        simp only [Act.put, List.setIfInBounds_toArray, List.set_cons_zero, List.set_cons_succ]
        refine wpList_run (v := .int .i64 ((j + 1 : Nat) : Int)) (wanted_none rfl) (ix_add rfl rfl rfl (by omega) (by omega)) ?_
        simp only [Act.put, List.setIfInBounds_toArray, List.set_cons_zero, List.set_cons_succ]
        refine wpList_run (v := .int .i64 ((j + 1 : Nat) : Int)) (wanted_none rfl) (gx_assign rfl rfl) ?_
        simp only [Act.put, List.setIfInBounds_toArray, List.set_cons_zero, List.set_cons_succ]
        go_wp2_with fail
        go_roundg (n2 - (j + 1))
        case measure => have := HGKj.out; have := HLT.out; omega
        case rel => exact ⟨j + 1, H12, rfl, by have := HLT.out; omega, HI12.out, HR1k.out, HR2k.out, HF12.out⟩
      · obtain rfl : n2 = j := by omega
        clear hlt hjle
        have HDL := Lib.hid (show dropL (ss.take n2) l1 = l1.filter fun p => !inR e0 e1 p from by
          rw [List.take_of_length_le (by rw [← HLE2.out, ← HN2.out]; exact Nat.le_refl _), HSS.out]
          exact drop_rest)
        obtain ⟨lr, hlr⟩ : ∃ s, s = l1.filter fun p => !inR e0 e1 p := ⟨_, rfl⟩
        rw [← hlr] at HDL
        rw [HDL.out] at HIj
        have HLR := Lib.hid hlr
        have HSL := Lib.hid (show Srt lr from by rw [hlr]; exact List.Pairwise.sublist List.filter_sublist HS.out)
        have HLL := Lib.hid (show lr.length + n2 = n1 from by
          have := rest_len (inR e0 e1) l1
          rw [← hlr, ← HSS.out] at this
          rw [HN2.out, HLE2.out, HN1.out, HLE1.out]
          exact this)
        clear hlr
        go_upto_region 12 with fail
        refine wp_region_lit ?_
        refine wpList_run (v := .int .i64 (n2 : Int)) (wanted_none rfl) (exec_move rfl rfl) ?_
        simp only [Act.put, List.setIfInBounds_toArray, List.set_cons_zero, List.set_cons_succ]
        refine wpList_run (v := .slice A2 n2 c2) (wanted_none rfl) (exec_move rfl rfl) ?_
        simp only [Act.put, List.setIfInBounds_toArray, List.set_cons_zero, List.set_cons_succ]
        refine wpList_run (v := .int .i64 (n2 : Int)) (wanted_none rfl) (gx_len rfl rfl Try.underlying29) ?_
        simp only [Act.put, List.setIfInBounds_toArray, List.set_cons_zero, List.set_cons_succ]
        refine wpList_run (v := .bool false) (wanted_none rfl) (ix_lss rfl rfl rfl (decide_eq_false (by omega))) ?_
        simp only [Act.put, List.setIfInBounds_toArray, List.set_cons_zero, List.set_cons_succ]
        have hBj := HB.out.turn HFj.out.1 fun e => e
        have hc0 : wr.cell? ⟨g0, 0, none⟩ = some (strV e0) := hBj.cell 0
        have hc1 : wr.cell? ⟨g0, 1, none⟩ = some (strV e1) := hBj.cell 1
        clear hBj
        go_wp2_with fail
        refine (ranged_walk (fr := e0) (to := e1) (most := -1) HIj.out).mono ?_
        rintro e w13 ⟨vc, rfl, hvc, ht13⟩
        clear hc0 hc1
        rw [cut_neg, rngOf_rng HSL.out, HLR.out, rest_rng] at hvc
        have HR3 := Lib.hid (show RowO w13 x Hj vc [] from RowO.new HIj.out hvc)
        have HI13 := Lib.hid (HIj.out.still ht13)
        have HF13 := Lib.hid (HFj.out.still ht13)
        clear hvc ht13
        obtain ⟨A3, c3, e9, _⟩ := HR3.out.1.form
        rw [List.map_nil, List.length_nil] at e9
        subst e9
        go_wp2_with fail
        refine (ranged_walk (fr := []) (to := []) (most := -1) HI13.out).mono ?_
        rintro e w14 ⟨vd, rfl, hvd, ht14⟩
        rw [cut_neg, rngOf_all HSL.out] at hvd
        have HR4 := Lib.hid (RowO.new HI13.out hvd)
        have HI14 := Lib.hid (HI13.out.still ht14)
        have HF14 := Lib.hid (HF13.out.still ht14)
        obtain ⟨L4, hL4⟩ : ∃ L, L = lr := ⟨_, rfl⟩
        rw [← hL4] at HR4
        have HLE4 := Lib.hid hL4
        clear hvd ht14 hL4
        obtain ⟨A4, c4, e9, _⟩ := HR4.out.1.form
        obtain ⟨n4, hn9⟩ : ∃ q, q = (L4).length := ⟨_, rfl⟩
        rw [List.length_map] at e9
        replace e9 := e9.trans (show _ = Value.slice A4 n4 c4 from by rw [hn9])
        subst e9
        have HN4 := Lib.hid hn9
        clear hn9
        have HL4 := Lib.hid (show n4 + n2 = n1 from by rw [HN4.out, HLE4.out]; exact HLL.out)
        have y41 : (n4 : Int) + (n2 : Int) ≤ (n1 : Int) := by have := HL4.out; omega
        have y42 : (n1 : Int) ≤ (n4 : Int) + (n2 : Int) := by have := HL4.out; omega
        have y43 : (n4 : Int) ≤ 200 := by omega
        go_upto_region 19 with fail
        refine wp_region_lit ?_
        refine wpList_run (v := .slice A3 0 c3) (wanted_none rfl) (exec_move rfl rfl) ?_
        simp only [Act.put, List.setIfInBounds_toArray, List.set_cons_zero, List.set_cons_succ]
        refine wpList_run (v := .int .i64 ((0 : Nat) : Int)) (wanted_none rfl) (gx_len rfl rfl Try.underlying29) ?_
        simp only [Act.put, List.setIfInBounds_toArray, List.set_cons_zero, List.set_cons_succ]
        refine wpList_run (v := .bool false) (wanted_none rfl) (ix_neq rfl rfl rfl (decide_eq_false (fun e => e rfl))) ?_
        simp only [Act.put, List.setIfInBounds_toArray, List.set_cons_zero, List.set_cons_succ]
        refine wpList_run (v := .bool false) (wanted_none rfl) (exec_move rfl rfl) ?_
        simp only [Act.put, List.setIfInBounds_toArray, List.set_cons_zero, List.set_cons_succ]
        refine wpList_run (v := .slice A4 n4 c4) rfl (exec_move rfl rfl) ?_
        simp only [Act.put, List.setIfInBounds_toArray, List.set_cons_zero, List.set_cons_succ]
        refine wpList_run (v := .int .i64 (n4 : Int)) rfl (gx_len rfl rfl Try.underlying29) ?_
        simp only [Act.put, List.setIfInBounds_toArray, List.set_cons_zero, List.set_cons_succ]
        refine wpList_run (v := .slice A2 n2 c2) rfl (exec_move rfl rfl) ?_
        simp only [Act.put, List.setIfInBounds_toArray, List.set_cons_zero, List.set_cons_succ]
        refine wpList_run (v := .int .i64 (n2 : Int)) rfl (gx_len rfl rfl Try.underlying29) ?_
        simp only [Act.put, List.setIfInBounds_toArray, List.set_cons_zero, List.set_cons_succ]
        refine wpList_run (v := .int .i64 (n1 : Int)) rfl (ix_add rfl rfl rfl (by omega) (by omega)) ?_
        simp only [Act.put, List.setIfInBounds_toArray, List.set_cons_zero, List.set_cons_succ]
        refine wpList_run (v := .slice A1 n1 c1) rfl (exec_move rfl rfl) ?_
        simp only [Act.put, List.setIfInBounds_toArray, List.set_cons_zero, List.set_cons_succ]
        refine wpList_run (v := .int .i64 (n1 : Int)) rfl (gx_len rfl rfl Try.underlying29) ?_
        simp only [Act.put, List.setIfInBounds_toArray, List.set_cons_zero, List.set_cons_succ]
        refine wpList_run (v := .bool false) rfl (ix_neq rfl rfl rfl (decide_eq_false (fun e => e rfl))) ?_
        simp only [Act.put, List.setIfInBounds_toArray, List.set_cons_zero, List.set_cons_succ]
        refine wpList_run (v := .bool false) (wanted_none rfl) (ix_pickF rfl rfl rfl) ?_
        simp only [Act.put, List.setIfInBounds_toArray, List.set_cons_zero, List.set_cons_succ]
        refine wpList_run (v := .bool false) (wanted_none rfl) (exec_move rfl rfl) ?_
        simp only [Act.put, List.setIfInBounds_toArray, List.set_cons_zero, List.set_cons_succ]
        refine wpList_run (v := .pointer (some ⟨x, 0, none⟩)) rfl (exec_move rfl rfl) ?_
        simp only [Act.put, List.setIfInBounds_toArray, List.set_cons_zero, List.set_cons_succ]
        have HLN := Lib.hid (show Calls Try.prog 22 #[.pointer (some ⟨x, 0, none⟩)] w14 fun e w' => e = .returned (.int .i64 (n4 : Int)) ∧ w' = w14 from by rw [HN4.out, HLE4.out]; exact Len_walk HI14.out)
        refine wpList_op (by go_simp) fun K9 HK9 => ?_
        go_wp2_with fail
        refine (HLN.out).mono ?_
        rintro e w15 ⟨rfl, hw15⟩
        refine HK9.out _ _ ?_
        clear HK9
        try simp only [Act.put, List.setIfInBounds_toArray, List.set_cons_zero, List.set_cons_succ]
        replace hw15 := hw15.symm
        subst hw15
        refine wpList_run (v := .slice A4 n4 c4) rfl (exec_move rfl rfl) ?_
        simp only [Act.put, List.setIfInBounds_toArray, List.set_cons_zero, List.set_cons_succ]
        refine wpList_run (v := .int .i64 (n4 : Int)) rfl (gx_len rfl rfl Try.underlying29) ?_
        simp only [Act.put, List.setIfInBounds_toArray, List.set_cons_zero, List.set_cons_succ]
        refine wpList_run (v := .bool false) rfl (ix_neq rfl rfl rfl (decide_eq_false (fun e => e rfl))) ?_
        simp only [Act.put, List.setIfInBounds_toArray, List.set_cons_zero, List.set_cons_succ]
        refine wpList_run (v := .bool false) (wanted_none rfl) (ix_pickF rfl rfl rfl) ?_
        simp only [Act.put, List.setIfInBounds_toArray, List.set_cons_zero, List.set_cons_succ]
        go_upto_region 21 with fail
        refine wp_region_lit ?_
        refine wpList_run (v := .int .i64 0) (wanted_none rfl) (gx_assign rfl rfl) ?_
        simp only [Act.put, List.setIfInBounds_toArray, List.set_cons_zero, List.set_cons_succ]
        go_wp2_with fail
        go_loopg [18] n4 (fun gk iv wr => ∃ (i : Nat), iv = .int .i64 (i : Int) ∧ i + gk = n4 ∧ Turn nowhere w14 wr)
        case atStart => exact ⟨0, rfl, by omega, Turn.refl _ _⟩
        obtain ⟨i4, rfl, hgk, htr⟩ := hrel
        have HGK4 := Lib.hid hgk
        have HTR4 := Lib.hid htr
        have y5 : (i4 : Int) ≤ (n4 : Int) := by omega
        clear hgk htr
        by_cases hlt : i4 < n4
        · have HLT4 := Lib.hid hlt
          have y6 : (i4 : Int) < (n4 : Int) := by omega
          obtain ⟨q, hq⟩ : ∃ q, lr[i4]? = some q := ⟨_, List.getElem?_eq_getElem (by rw [← HLE4.out, ← HN4.out]; exact hlt)⟩
          have HQ4 := Lib.hid (show L4[i4]? = some q from by rw [HLE4.out]; exact hq)
          obtain ⟨b4, d4, e9, _, _⟩ := HR4.out.1.some_ (by rw [List.length_map, ← HN4.out]; omega)
          injection e9 with e8 e7 e6
          subst e8
          have HG := Lib.hid (show Calls Try.prog 15 #[.pointer (some ⟨x, 0, none⟩), strV q.1] wr fun e w' => e = .returned (.tuple #[.int .i64 q.2, .bool true]) ∧ Turn nowhere wr w' from by
            have h := Get_walk (k := q.1) (HI14.out.still HTR4.out)
            rw [lget_mem HSL.out (List.mem_of_getElem? hq)] at h
            exact h)
          have HR4a := Lib.hid (HR4.out.still HTR4.out)
          clear e7 e6 hlt hq
          go_upto_region 22 with fail
          refine wp_region_lit ?_
          refine wpList_run (v := .int .i64 (i4 : Int)) (wanted_none rfl) (exec_move rfl rfl) ?_
          simp only [Act.put, List.setIfInBounds_toArray, List.set_cons_zero, List.set_cons_succ]
          refine wpList_run (v := .slice (some ⟨b4, 0, none⟩) n4 c4) (wanted_none rfl) (exec_move rfl rfl) ?_
          simp only [Act.put, List.setIfInBounds_toArray, List.set_cons_zero, List.set_cons_succ]
          refine wpList_run (v := .int .i64 (n4 : Int)) (wanted_none rfl) (gx_len rfl rfl Try.underlying29) ?_
          simp only [Act.put, List.setIfInBounds_toArray, List.set_cons_zero, List.set_cons_succ]
          refine wpList_run (v := .bool true) (wanted_none rfl) (ix_lss rfl rfl rfl (decide_eq_true y6)) ?_
          simp only [Act.put, List.setIfInBounds_toArray, List.set_cons_zero, List.set_cons_succ]
          go_upto_region 24 with fail
          refine wp_region_lit ?_
          refine wpList_run (v := .pointer (some ⟨x, 0, none⟩)) (wanted_none rfl) (exec_move rfl rfl) ?_
          simp only [Act.put, List.setIfInBounds_toArray, List.set_cons_zero, List.set_cons_succ]
          refine wpList_run (v := .slice (some ⟨b4, 0, none⟩) n4 c4) (wanted_none rfl) (exec_move rfl rfl) ?_
          simp only [Act.put, List.setIfInBounds_toArray, List.set_cons_zero, List.set_cons_succ]
          refine wpList_run (v := .int .i64 (i4 : Int)) (wanted_none rfl) (exec_move rfl rfl) ?_
          simp only [Act.put, List.setIfInBounds_toArray, List.set_cons_zero, List.set_cons_succ]
          refine wpList_run (v := .pointer (some ⟨b4, 0 + i4 * 2, none⟩)) (wanted_none rfl) (gx_iaddr (i := i4) (sz := 2) rfl rfl rfl Try.underlying29 size_ref HLT4.out rfl) ?_
          simp only [Act.put, List.setIfInBounds_toArray, List.set_cons_zero, List.set_cons_succ]
          refine wpList_run (v := .pointer (some ⟨b4, 0 + i4 * 2 + 0, none⟩)) (wanted_none rfl) (exec_field (off := 0 + i4 * 2) (d := 0) rfl rfl (by kernel_rfl)) ?_
          simp only [Act.put, List.setIfInBounds_toArray, List.set_cons_zero, List.set_cons_succ]
          refine wpList_run (v := strV q.1) (wanted_none rfl) (exec_load1 rfl rfl (by kernel_rfl) (HR4a.out.1.el0 (r := encP q) (by rw [List.getElem?_map, HQ4.out]; rfl) 0 _ rfl)) ?_
          simp only [Act.put, List.setIfInBounds_toArray, List.set_cons_zero, List.set_cons_succ]
          refine wpList_op rfl fun K9 HK9 => ?_
          go_wp2_with fail
          refine (HG.out).mono ?_
          rintro e w16 ⟨rfl, ht16⟩
          refine HK9.out _ _ ?_
          clear HK9
          try simp only [Act.put, List.setIfInBounds_toArray, List.set_cons_zero, List.set_cons_succ]
          have HR4k := Lib.hid (HR4a.out.still ht16)
          have HT16 := Lib.hid (HTR4.out.trans ht16 fun _ _ e => e)
          clear ht16 HG
          refine wpList_run (v := .tuple #[.int .i64 q.2, .bool true]) (wanted_none rfl) (exec_move rfl rfl) ?_
          simp only [Act.put, List.setIfInBounds_toArray, List.set_cons_zero, List.set_cons_succ]
          refine wpList_run (v := .int .i64 q.2) (wanted_none rfl) (ix_extract rfl rfl rfl) ?_
          simp only [Act.put, List.setIfInBounds_toArray, List.set_cons_zero, List.set_cons_succ]
          refine wpList_run (v := .bool true) (wanted_none rfl) (ix_extract rfl rfl rfl) ?_
          simp only [Act.put, List.setIfInBounds_toArray, List.set_cons_zero, List.set_cons_succ]
          refine wpList_run (v := .int .i64 q.2) (wanted_none rfl) (gx_assign rfl rfl) ?_
          simp only [Act.put, List.setIfInBounds_toArray, List.set_cons_zero, List.set_cons_succ]
          refine wpList_run (v := .bool true) (wanted_none rfl) (gx_assign rfl rfl) ?_
          simp only [Act.put, List.setIfInBounds_toArray, List.set_cons_zero, List.set_cons_succ]
          go_upto_region 25 with fail
          refine wp_region_lit ?_
          refine wpList_run (v := .bool true) (wanted_none rfl) (exec_move rfl rfl) ?_
          simp only [Act.put, List.setIfInBounds_toArray, List.set_cons_zero, List.set_cons_succ]
          refine wpList_run (v := .bool false) (wanted_none rfl) (ix_not (b := true) rfl rfl) ?_
          simp only [Act.put, List.setIfInBounds_toArray, List.set_cons_zero, List.set_cons_succ]
          refine wpList_run (v := .bool false) (wanted_none rfl) (exec_move rfl rfl) ?_
          simp only [Act.put, List.setIfInBounds_toArray, List.set_cons_zero, List.set_cons_succ]
          refine wpList_run (v := .int .i64 q.2) rfl (exec_move rfl rfl) ?_
          simp only [Act.put, List.setIfInBounds_toArray, List.set_cons_zero, List.set_cons_succ]
          refine wpList_run (v := .slice (some ⟨b4, 0, none⟩) n4 c4) rfl (exec_move rfl rfl) ?_
          simp only [Act.put, List.setIfInBounds_toArray, List.set_cons_zero, List.set_cons_succ]
          refine wpList_run (v := .int .i64 (i4 : Int)) rfl (exec_move rfl rfl) ?_
          simp only [Act.put, List.setIfInBounds_toArray, List.set_cons_zero, List.set_cons_succ]
          refine wpList_run (v := .pointer (some ⟨b4, 0 + i4 * 2, none⟩)) rfl (gx_iaddr (i := i4) (sz := 2) rfl rfl rfl Try.underlying29 size_ref HLT4.out rfl) ?_
          simp only [Act.put, List.setIfInBounds_toArray, List.set_cons_zero, List.set_cons_succ]
          refine wpList_run (v := .pointer (some ⟨b4, 0 + i4 * 2 + 1, none⟩)) rfl (exec_field (off := 0 + i4 * 2) (d := 1) rfl rfl (by kernel_rfl)) ?_
          simp only [Act.put, List.setIfInBounds_toArray, List.set_cons_zero, List.set_cons_succ]
          refine wpList_run (v := .int .i64 q.2) rfl (exec_load1 rfl rfl (by kernel_rfl) (HR4k.out.1.el0 (r := encP q) (by rw [List.getElem?_map, HQ4.out]; rfl) 1 _ rfl)) ?_
          simp only [Act.put, List.setIfInBounds_toArray, List.set_cons_zero, List.set_cons_succ]
          refine wpList_run (v := .bool false) rfl (ix_neq rfl rfl rfl (decide_eq_false (fun e => e rfl))) ?_
          simp only [Act.put, List.setIfInBounds_toArray, List.set_cons_zero, List.set_cons_succ]
          refine wpList_run (v := .bool false) (wanted_none rfl) (ix_pickF rfl rfl rfl) ?_
          simp only [Act.put, List.setIfInBounds_toArray, List.set_cons_zero, List.set_cons_succ]
          go_upto_region 23 with fail
          refine wp_region_lit ?_
          refine wpList_run (v := .int .i64 (i4 : Int)) (wanted_none rfl) (exec_move rfl rfl) ?_
          simp only [Act.put, List.setIfInBounds_toArray, List.set_cons_zero, List.set_cons_succ]
          refine wpList_run (v := .int .i64 ((i4 + 1 : Nat) : Int)) (wanted_none rfl) (ix_add rfl rfl rfl (by omega) (by omega)) ?_
          simp only [Act.put, List.setIfInBounds_toArray, List.set_cons_zero, List.set_cons_succ]
          refine wpList_run (v := .int .i64 ((i4 + 1 : Nat) : Int)) (wanted_none rfl) (gx_assign rfl rfl) ?_
          simp only [Act.put, List.setIfInBounds_toArray, List.set_cons_zero, List.set_cons_succ]
          go_wp2_with fail
          go_roundg (n4 - (i4 + 1))
          case measure => have := HGK4.out; have := HLT4.out; omega
          case rel => exact ⟨i4 + 1, rfl, by have := HLT4.out; omega, HT16.out⟩
        · go_upto_region 22 with fail
          refine wp_region_lit ?_
          refine wpList_run (v := .int .i64 (i4 : Int)) (wanted_none rfl) (exec_move rfl rfl) ?_
          simp only [Act.put, List.setIfInBounds_toArray, List.set_cons_zero, List.set_cons_succ]
          refine wpList_run (v := .slice A4 n4 c4) (wanted_none rfl) (exec_move rfl rfl) ?_
          simp only [Act.put, List.setIfInBounds_toArray, List.set_cons_zero, List.set_cons_succ]
          refine wpList_run (v := .int .i64 (n4 : Int)) (wanted_none rfl) (gx_len rfl rfl Try.underlying29) ?_
          simp only [Act.put, List.setIfInBounds_toArray, List.set_cons_zero, List.set_cons_succ]
          refine wpList_run (v := .bool false) (wanted_none rfl) (ix_lss rfl rfl rfl (decide_eq_false (by omega))) ?_
          simp only [Act.put, List.setIfInBounds_toArray, List.set_cons_zero, List.set_cons_succ]
          go_upto_region 27 with fail
          refine wp_region_lit ?_
          refine wpList_run (v := .bool true) (wanted_none rfl) (gx_assign rfl rfl) ?_
          simp only [Act.put, List.setIfInBounds_toArray, List.set_cons_zero, List.set_cons_succ]
          go_wp2_with fail
          go_ret
          exact ⟨rfl, HT0.out.trans (HF14.out.1.trans HTR4.out fun _ _ e => e) fun _ _ e => e⟩
    · have y5 : ¬ (i : Int) < (m : Int) := by omega
      clear him
      refine wpList_run (v := .int .i64 (i : Int)) (wanted_none rfl) (exec_move rfl rfl) ?_
      simp only [Act.put, List.setIfInBounds_toArray, List.set_cons_zero, List.set_cons_succ]
      refine wpList_run (v := .slice A m cap) (wanted_none rfl) (exec_move rfl rfl) ?_
      simp only [Act.put, List.setIfInBounds_toArray, List.set_cons_zero, List.set_cons_succ]
      refine wpList_run (v := .int .i64 (m : Int)) (wanted_none rfl) (gx_len rfl rfl Try.underlying51) ?_
      simp only [Act.put, List.setIfInBounds_toArray, List.set_cons_zero, List.set_cons_succ]
      refine wpList_run (v := .bool false) (wanted_none rfl) (ix_lss rfl rfl rfl (decide_eq_false y5)) ?_
      simp only [Act.put, List.setIfInBounds_toArray, List.set_cons_zero, List.set_cons_succ]
      refine wpList_run (v := .bool false) (wanted_none rfl) (exec_move rfl rfl) ?_
      simp only [Act.put, List.setIfInBounds_toArray, List.set_cons_zero, List.set_cons_succ]
      go_wp2_with fail
      refine HKC.out _ _ ?_
      have HSR := Lib.hid (rngOf_all HS.out)
      have HL200 := Lib.hid (show l1.length ≤ 200 from by have := HI.out.cnt; have := HM1.out; omega)
      go_upto_region 9 with fail
      refine wp_region_lit ?_
      refine wpList_run (v := .pointer (some ⟨x, 0, none⟩)) (wanted_none rfl) (exec_move rfl rfl) ?_
      simp only [Act.put, List.setIfInBounds_toArray, List.set_cons_zero, List.set_cons_succ]
      refine wpList_op rfl fun K9 HK9 => ?_
      go_wp2_with fail
      refine ((ranged_walk (fr := []) (to := []) (most := -1) HI3.out)).mono ?_
      rintro e w10 ⟨va, rfl, hva, ht10⟩
      refine HK9.out _ _ ?_
      clear HK9
      try simp only [Act.put, List.setIfInBounds_toArray, List.set_cons_zero, List.set_cons_succ]
      rw [cut_neg, HSR.out] at hva
      have HR1 := Lib.hid (RowO.new HI3.out hva)
      have HI4 := Lib.hid (HI3.out.still ht10)
      have HF4 := Lib.hid (HF.out.still ht10)
      obtain ⟨L1, hL1⟩ : ∃ L, L = l1 := ⟨_, rfl⟩
      rw [← hL1] at HR1
      have HLE1 := Lib.hid hL1
      clear hva ht10 hL1
      obtain ⟨A1, c1, e9, _⟩ := HR1.out.1.form
      obtain ⟨n1, hn9⟩ : ∃ q, q = (L1).length := ⟨_, rfl⟩
      rw [List.length_map] at e9
      replace e9 := e9.trans (show _ = Value.slice A1 n1 c1 from by rw [hn9])
      subst e9
      have HN1 := Lib.hid hn9
      clear hn9
      refine wpList_run (v := .slice A1 n1 c1) (wanted_none rfl) (gx_assign rfl rfl) ?_
      simp only [Act.put, List.setIfInBounds_toArray, List.set_cons_zero, List.set_cons_succ]
      have hB4 := HB.out.turn HF4.out.1 fun e => e
      have hc0 : w10.cell? ⟨g0, 0, none⟩ = some (strV e0) := hB4.cell 0
      have hc1 : w10.cell? ⟨g0, 1, none⟩ = some (strV e1) := hB4.cell 1
      clear hB4
      go_wp2_with fail
      refine (ranged_walk (fr := e0) (to := e1) (most := -1) HI4.out).mono ?_
      rintro e w11 ⟨vb, rfl, hvb, ht11⟩
      clear hc0 hc1
      obtain ⟨ss, hss⟩ : ∃ s, s = l1.filter (inR e0 e1) := ⟨_, rfl⟩
      rw [cut_neg, rngOf_rng HS.out, ← hss] at hvb
      have HSS := Lib.hid hss
      have HR2 := Lib.hid (RowO.new HI4.out hvb)
      have HR1b := Lib.hid (HR1.out.still ht11)
      have HI5 := Lib.hid (HI4.out.still ht11)
      have HF5 := Lib.hid (HF4.out.still ht11)
      obtain ⟨L2, hL2⟩ : ∃ L, L = ss := ⟨_, rfl⟩
      rw [← hL2] at HR2
      have HLE2 := Lib.hid hL2
      clear hvb ht11 hL2 hss
      obtain ⟨A2, c2, e9, _⟩ := HR2.out.1.form
      obtain ⟨n2, hn9⟩ : ∃ q, q = (L2).length := ⟨_, rfl⟩
      rw [List.length_map] at e9
      replace e9 := e9.trans (show _ = Value.slice A2 n2 c2 from by rw [hn9])
      subst e9
      have HN2 := Lib.hid hn9
      clear hn9
      have HL2 := Lib.hid (show n2 ≤ 200 from by rw [HN2.out, HLE2.out, HSS.out]; exact Nat.le_trans (List.filter_sublist (l := l1)).length_le HL200.out)
      have yn2 : (n2 : Int) ≤ 200 := by have := HL2.out; omega
      have yn1 : (n1 : Int) ≤ 200 := by have := HL200.out; have := HN1.out; rw [HLE1.out] at this; omega
      go_wp2_with fail
      go_loopg [13] n2 (fun gk iv wr => ∃ (i : Nat) (H : Hp), iv = .int .i64 (i : Int) ∧ i + gk = n2 ∧ Idx wr x H (m0 + 2) (dropL (ss.take i) l1) (200 + i) ∧ RowO wr x H (.slice A1 n1 c1) L1 ∧ RowO wr x H (.slice A2 n2 c2) L2 ∧ Fr w0 x H wr)
      case atStart => exact ⟨0, _, rfl, by omega, by rw [List.take_zero, dropL_nil]; exact HI5.out, HR1b.out, HR2.out, HF5.out⟩
      obtain ⟨j, Hj, rfl, hgk, hi, hr1, hr2, hf⟩ := hrel
      have HGKj := Lib.hid hgk
      have HIj := Lib.hid hi
      have HR1j := Lib.hid hr1
      have HR2j := Lib.hid hr2
      have HFj := Lib.hid hf
      have hjle : j ≤ n2 := by omega
      have yj : (j : Int) ≤ (n2 : Int) := by omega
      clear hgk hi hr1 hr2 hf
      by_cases hlt : j < n2
      · have HLT := Lib.hid hlt
        have y3 : (j : Int) < (n2 : Int) := by omega
        obtain ⟨q, hq⟩ : ∃ q, ss[j]? = some q := ⟨_, List.getElem?_eq_getElem (by rw [← HLE2.out, ← HN2.out]; exact hlt)⟩
        have HQ2 := Lib.hid (show L2[j]? = some q from by rw [HLE2.out]; exact hq)
        obtain ⟨b2, d2, e9, _, _⟩ := HR2j.out.1.some_ (by rw [List.length_map, ← HN2.out]; omega)
        injection e9 with e8 e7 e6
        subst e8
        have HD := Lib.hid (show Calls Try.prog 13 #[.pointer (some ⟨x, 0, none⟩), strV q.1] wr fun e w' => e = .returned (.tuple #[.int .i64 q.2, .bool true]) ∧ IdxTo wr x Hj (m0 + 2) (dropL (ss.take (j + 1)) l1) (200 + j + 1) w' from by
          have h := Drop_walk (k := q.1) HIj.out (by have := HL2.out; omega)
          rw [drop_take hq] at h
          rw [HSS.out] at hq
          have h2 := drop_next HS.out hq
          rw [← HSS.out] at h2
          rw [h2] at h
          exact h)
        clear e7 e6 hlt hq
        go_upto_region 12 with fail
        refine wp_region_lit ?_
        refine wpList_run (v := .int .i64 (j : Int)) (wanted_none rfl) (exec_move rfl rfl) ?_
        simp only [Act.put, List.setIfInBounds_toArray, List.set_cons_zero, List.set_cons_succ]
        refine wpList_run (v := .slice (some ⟨b2, 0, none⟩) n2 c2) (wanted_none rfl) (exec_move rfl rfl) ?_
        simp only [Act.put, List.setIfInBounds_toArray, List.set_cons_zero, List.set_cons_succ]
        refine wpList_run (v := .int .i64 (n2 : Int)) (wanted_none rfl) (gx_len rfl rfl Try.underlying29) ?_
        simp only [Act.put, List.setIfInBounds_toArray, List.set_cons_zero, List.set_cons_succ]
        refine wpList_run (v := .bool true) (wanted_none rfl) (ix_lss rfl rfl rfl (decide_eq_true y3)) ?_
        simp only [Act.put, List.setIfInBounds_toArray, List.set_cons_zero, List.set_cons_succ]
        go_upto_region 14 with fail
        refine wp_region_lit ?_
        refine wpList_run (v := .pointer (some ⟨x, 0, none⟩)) (wanted_none rfl) (exec_move rfl rfl) ?_
        simp only [Act.put, List.setIfInBounds_toArray, List.set_cons_zero, List.set_cons_succ]
        refine wpList_run (v := .slice (some ⟨b2, 0, none⟩) n2 c2) (wanted_none rfl) (exec_move rfl rfl) ?_
        simp only [Act.put, List.setIfInBounds_toArray, List.set_cons_zero, List.set_cons_succ]
        refine wpList_run (v := .int .i64 (j : Int)) (wanted_none rfl) (exec_move rfl rfl) ?_
        simp only [Act.put, List.setIfInBounds_toArray, List.set_cons_zero, List.set_cons_succ]
        refine wpList_run (v := .pointer (some ⟨b2, 0 + j * 2, none⟩)) (wanted_none rfl) (gx_iaddr (i := j) (sz := 2) rfl rfl rfl Try.underlying29 size_ref HLT.out rfl) ?_
        simp only [Act.put, List.setIfInBounds_toArray, List.set_cons_zero, List.set_cons_succ]
        refine wpList_run (v := .pointer (some ⟨b2, 0 + j * 2 + 0, none⟩)) (wanted_none rfl) (exec_field (off := 0 + j * 2) (d := 0) rfl rfl (by kernel_rfl)) ?_
        simp only [Act.put, List.setIfInBounds_toArray, List.set_cons_zero, List.set_cons_succ]
        refine wpList_run (v := strV q.1) (wanted_none rfl) (exec_load1 rfl rfl (by kernel_rfl) (HR2j.out.1.el0 (r := encP q) (by rw [List.getElem?_map, HQ2.out]; rfl) 0 _ rfl)) ?_
        simp only [Act.put, List.setIfInBounds_toArray, List.set_cons_zero, List.set_cons_succ]
        refine wpList_op rfl fun K9 HK9 => ?_
        go_wp2_with fail
        refine (HD.out).mono ?_
        rintro e w12 ⟨rfl, H12, hi12, ht12, hf12⟩
        refine HK9.out _ _ ?_
        clear HK9
        try simp only [Act.put, List.setIfInBounds_toArray, List.set_cons_zero, List.set_cons_succ]
        have HI12 := Lib.hid hi12
        have HR1k := Lib.hid (HR1j.out.to ht12 hf12)
        have HR2k := Lib.hid (HR2j.out.to ht12 hf12)
        have HF12 := Lib.hid (HFj.out.to ht12 hf12)
        clear hi12 ht12 hf12 HD
        refine wpList_run (v := .tuple #[.int .i64 q.2, .bool true]) (wanted_none rfl) (exec_move rfl rfl) ?_
        simp only [Act.put, List.setIfInBounds_toArray, List.set_cons_zero, List.set_cons_succ]
        refine wpList_run (v := .int .i64 q.2) (wanted_none rfl) (ix_extract rfl rfl rfl) ?_
        simp only [Act.put, List.setIfInBounds_toArray, List.set_cons_zero, List.set_cons_succ]
        refine wpList_run (v := .bool true) (wanted_none rfl) (ix_extract rfl rfl rfl) ?_
        simp only [Act.put, List.setIfInBounds_toArray, List.set_cons_zero, List.set_cons_succ]
        refine wpList_run (v := .int .i64 q.2) (wanted_none rfl) (gx_assign rfl rfl) ?_
        simp only [Act.put, List.setIfInBounds_toArray, List.set_cons_zero, List.set_cons_succ]
        refine wpList_run (v := .bool true) (wanted_none rfl) (gx_assign rfl rfl) ?_
        simp only [Act.put, List.setIfInBounds_toArray, List.set_cons_zero, List.set_cons_succ]
        go_upto_region 15 with fail
        refine wp_region_lit ?_
        refine wpList_run (v := .bool true) (wanted_none rfl) (exec_move rfl rfl) ?_
        simp only [Act.put, List.setIfInBounds_toArray, List.set_cons_zero, List.set_cons_succ]
        refine wpList_run (v := .bool false) (wanted_none rfl) (ix_not (b := true) rfl rfl) ?_
        simp only [Act.put, List.setIfInBounds_toArray, List.set_cons_zero, List.set_cons_succ]
        refine wpList_run (v := .bool false) (wanted_none rfl) (exec_move rfl rfl) ?_
        simp only [Act.put, List.setIfInBounds_toArray, List.set_cons_zero, List.set_cons_succ]
        refine wpList_run (v := .int .i64 q.2) rfl (exec_move rfl rfl) ?_
        simp only [Act.put, List.setIfInBounds_toArray, List.set_cons_zero, List.set_cons_succ]
        refine wpList_run (v := .slice (some ⟨b2, 0, none⟩) n2 c2) rfl (exec_move rfl rfl) ?_
        simp only [Act.put, List.setIfInBounds_toArray, List.set_cons_zero, List.set_cons_succ]
        refine wpList_run (v := .int .i64 (j : Int)) rfl (exec_move rfl rfl) ?_
        simp only [Act.put, List.setIfInBounds_toArray, List.set_cons_zero, List.set_cons_succ]
        refine wpList_run (v := .pointer (some ⟨b2, 0 + j * 2, none⟩)) rfl (gx_iaddr (i := j) (sz := 2) rfl rfl rfl Try.underlying29 size_ref HLT.out rfl) ?_
        simp only [Act.put, List.setIfInBounds_toArray, List.set_cons_zero, List.set_cons_succ]
        refine wpList_run (v := .pointer (some ⟨b2, 0 + j * 2 + 1, none⟩)) rfl (exec_field (off := 0 + j * 2) (d := 1) rfl rfl (by kernel_rfl)) ?_
        simp only [Act.put, List.setIfInBounds_toArray, List.set_cons_zero, List.set_cons_succ]
        refine wpList_run (v := .int .i64 q.2) rfl (exec_load1 rfl rfl (by kernel_rfl) (HR2k.out.1.el0 (r := encP q) (by rw [List.getElem?_map, HQ2.out]; rfl) 1 _ rfl)) ?_
        simp only [Act.put, List.setIfInBounds_toArray, List.set_cons_zero, List.set_cons_succ]
        refine wpList_run (v := .bool false) rfl (ix_neq rfl rfl rfl (decide_eq_false (fun e => e rfl))) ?_
        simp only [Act.put, List.setIfInBounds_toArray, List.set_cons_zero, List.set_cons_succ]
        refine wpList_run (v := .bool false) (wanted_none rfl) (ix_pickF rfl rfl rfl) ?_
        simp only [Act.put, List.setIfInBounds_toArray, List.set_cons_zero, List.set_cons_succ]
        go_upto_region 13 with fail
        refine wp_region_lit ?_
        refine wpList_run (v := .int .i64 (j : Int)) (wanted_none rfl) (exec_move rfl rfl) ?_
        simp only [Act.put, List.setIfInBounds_toArray, List.set_cons_zero, List.set_cons_succ]
        refine wpList_run (v := .int .i64 ((j + 1 : Nat) : Int)) (wanted_none rfl) (ix_add rfl rfl rfl (by omega) (by omega)) ?_
        simp only [Act.put, List.setIfInBounds_toArray, List.set_cons_zero, List.set_cons_succ]
        refine wpList_run (v := .int .i64 ((j + 1 : Nat) : Int)) (wanted_none rfl) (gx_assign rfl rfl) ?_
        simp only [Act.put, List.setIfInBounds_toArray, List.set_cons_zero, List.set_cons_succ]
        go_wp2_with fail
        go_roundg (n2 - (j + 1))
        case measure => have := HGKj.out; have := HLT.out; omega
        case rel => exact ⟨j + 1, H12, rfl, by have := HLT.out; omega, HI12.out, HR1k.out, HR2k.out, HF12.out⟩
      · obtain rfl : n2 = j := by omega
        clear hlt hjle
        have HDL := Lib.hid (show dropL (ss.take n2) l1 = l1.filter fun p => !inR e0 e1 p from by
          rw [List.take_of_length_le (by rw [← HLE2.out, ← HN2.out]; exact Nat.le_refl _), HSS.out]
          exact drop_rest)
        obtain ⟨lr, hlr⟩ : ∃ s, s = l1.filter fun p => !inR e0 e1 p := ⟨_, rfl⟩
        rw [← hlr] at HDL
        rw [HDL.out] at HIj
        have HLR := Lib.hid hlr
        have HSL := Lib.hid (show Srt lr from by rw [hlr]; exact List.Pairwise.sublist List.filter_sublist HS.out)
        have HLL := Lib.hid (show lr.length + n2 = n1 from by
          have := rest_len (inR e0 e1) l1
          rw [← hlr, ← HSS.out] at this
          rw [HN2.out, HLE2.out, HN1.out, HLE1.out]
          exact this)
        clear hlr
        go_upto_region 12 with fail
        refine wp_region_lit ?_
        refine wpList_run (v := .int .i64 (n2 : Int)) (wanted_none rfl) (exec_move rfl rfl) ?_
        simp only [Act.put, List.setIfInBounds_toArray, List.set_cons_zero, List.set_cons_succ]
        refine wpList_run (v := .slice A2 n2 c2) (wanted_none rfl) (exec_move rfl rfl) ?_
        simp only [Act.put, List.setIfInBounds_toArray, List.set_cons_zero, List.set_cons_succ]
        refine wpList_run (v := .int .i64 (n2 : Int)) (wanted_none rfl) (gx_len rfl rfl Try.underlying29) ?_
        simp only [Act.put, List.setIfInBounds_toArray, List.set_cons_zero, List.set_cons_succ]
        refine wpList_run (v := .bool false) (wanted_none rfl) (ix_lss rfl rfl rfl (decide_eq_false (by omega))) ?_
        simp only [Act.put, List.setIfInBounds_toArray, List.set_cons_zero, List.set_cons_succ]
        have hBj := HB.out.turn HFj.out.1 fun e => e
        have hc0 : wr.cell? ⟨g0, 0, none⟩ = some (strV e0) := hBj.cell 0
        have hc1 : wr.cell? ⟨g0, 1, none⟩ = some (strV e1) := hBj.cell 1
        clear hBj
        go_wp2_with fail
        refine (ranged_walk (fr := e0) (to := e1) (most := -1) HIj.out).mono ?_
        rintro e w13 ⟨vc, rfl, hvc, ht13⟩
        clear hc0 hc1
        rw [cut_neg, rngOf_rng HSL.out, HLR.out, rest_rng] at hvc
        have HR3 := Lib.hid (show RowO w13 x Hj vc [] from RowO.new HIj.out hvc)
        have HI13 := Lib.hid (HIj.out.still ht13)
        have HF13 := Lib.hid (HFj.out.still ht13)
        clear hvc ht13
        obtain ⟨A3, c3, e9, _⟩ := HR3.out.1.form
        rw [List.map_nil, List.length_nil] at e9
        subst e9
        go_wp2_with fail
        refine (ranged_walk (fr := []) (to := []) (most := -1) HI13.out).mono ?_
        rintro e w14 ⟨vd, rfl, hvd, ht14⟩
        rw [cut_neg, rngOf_all HSL.out] at hvd
        have HR4 := Lib.hid (RowO.new HI13.out hvd)
        have HI14 := Lib.hid (HI13.out.still ht14)
        have HF14 := Lib.hid (HF13.out.still ht14)
        obtain ⟨L4, hL4⟩ : ∃ L, L = lr := ⟨_, rfl⟩
        rw [← hL4] at HR4
        have HLE4 := Lib.hid hL4
        clear hvd ht14 hL4
        obtain ⟨A4, c4, e9, _⟩ := HR4.out.1.form
        obtain ⟨n4, hn9⟩ : ∃ q, q = (L4).length := ⟨_, rfl⟩
        rw [List.length_map] at e9
        replace e9 := e9.trans (show _ = Value.slice A4 n4 c4 from by rw [hn9])
        subst e9
        have HN4 := Lib.hid hn9
        clear hn9
        have HL4 := Lib.hid (show n4 + n2 = n1 from by rw [HN4.out, HLE4.out]; exact HLL.out)
        have y41 : (n4 : Int) + (n2 : Int) ≤ (n1 : Int) := by have := HL4.out; omega
        have y42 : (n1 : Int) ≤ (n4 : Int) + (n2 : Int) := by have := HL4.out; omega
        have y43 : (n4 : Int) ≤ 200 := by omega
        go_upto_region 19 with fail
        refine wp_region_lit ?_
        refine wpList_run (v := .slice A3 0 c3) (wanted_none rfl) (exec_move rfl rfl) ?_
        simp only [Act.put, List.setIfInBounds_toArray, List.set_cons_zero, List.set_cons_succ]
        refine wpList_run (v := .int .i64 ((0 : Nat) : Int)) (wanted_none rfl) (gx_len rfl rfl Try.underlying29) ?_
        simp only [Act.put, List.setIfInBounds_toArray, List.set_cons_zero, List.set_cons_succ]
        refine wpList_run (v := .bool false) (wanted_none rfl) (ix_neq rfl rfl rfl (decide_eq_false (fun e => e rfl))) ?_
        simp only [Act.put, List.setIfInBounds_toArray, List.set_cons_zero, List.set_cons_succ]
        refine wpList_run (v := .bool false) (wanted_none rfl) (exec_move rfl rfl) ?_
        simp only [Act.put, List.setIfInBounds_toArray, List.set_cons_zero, List.set_cons_succ]
        refine wpList_run (v := .slice A4 n4 c4) rfl (exec_move rfl rfl) ?_
        simp only [Act.put, List.setIfInBounds_toArray, List.set_cons_zero, List.set_cons_succ]
        refine wpList_run (v := .int .i64 (n4 : Int)) rfl (gx_len rfl rfl Try.underlying29) ?_
        simp only [Act.put, List.setIfInBounds_toArray, List.set_cons_zero, List.set_cons_succ]
        refine wpList_run (v := .slice A2 n2 c2) rfl (exec_move rfl rfl) ?_
        simp only [Act.put, List.setIfInBounds_toArray, List.set_cons_zero, List.set_cons_succ]
        refine wpList_run (v := .int .i64 (n2 : Int)) rfl (gx_len rfl rfl Try.underlying29) ?_
        simp only [Act.put, List.setIfInBounds_toArray, List.set_cons_zero, List.set_cons_succ]
        refine wpList_run (v := .int .i64 (n1 : Int)) rfl (ix_add rfl rfl rfl (by omega) (by omega)) ?_
        simp only [Act.put, List.setIfInBounds_toArray, List.set_cons_zero, List.set_cons_succ]
        refine wpList_run (v := .slice A1 n1 c1) rfl (exec_move rfl rfl) ?_
        simp only [Act.put, List.setIfInBounds_toArray, List.set_cons_zero, List.set_cons_succ]
        refine wpList_run (v := .int .i64 (n1 : Int)) rfl (gx_len rfl rfl Try.underlying29) ?_
        simp only [Act.put, List.setIfInBounds_toArray, List.set_cons_zero, List.set_cons_succ]
        refine wpList_run (v := .bool false) rfl (ix_neq rfl rfl rfl (decide_eq_false (fun e => e rfl))) ?_
        simp only [Act.put, List.setIfInBounds_toArray, List.set_cons_zero, List.set_cons_succ]
        refine wpList_run (v := .bool false) (wanted_none rfl) (ix_pickF rfl rfl rfl) ?_
        simp only [Act.put, List.setIfInBounds_toArray, List.set_cons_zero, List.set_cons_succ]
        refine wpList_run (v := .bool false) (wanted_none rfl) (exec_move rfl rfl) ?_
        simp only [Act.put, List.setIfInBounds_toArray, List.set_cons_zero, List.set_cons_succ]
        refine wpList_run (v := .pointer (some ⟨x, 0, none⟩)) rfl (exec_move rfl rfl) ?_
        simp only [Act.put, List.setIfInBounds_toArray, List.set_cons_zero, List.set_cons_succ]
        have HLN := Lib.hid (show Calls Try.prog 22 #[.pointer (some ⟨x, 0, none⟩)] w14 fun e w' => e = .returned (.int .i64 (n4 : Int)) ∧ w' = w14 from by rw [HN4.out, HLE4.out]; exact Len_walk HI14.out)
        refine wpList_op (by go_simp) fun K9 HK9 => ?_
        go_wp2_with fail
        refine (HLN.out).mono ?_
        rintro e w15 ⟨rfl, hw15⟩
        refine HK9.out _ _ ?_
        clear HK9
        try simp only [Act.put, List.setIfInBounds_toArray, List.set_cons_zero, List.set_cons_succ]
        replace hw15 := hw15.symm
        subst hw15
        refine wpList_run (v := .slice A4 n4 c4) rfl (exec_move rfl rfl) ?_
        simp only [Act.put, List.setIfInBounds_toArray, List.set_cons_zero, List.set_cons_succ]
        refine wpList_run (v := .int .i64 (n4 : Int)) rfl (gx_len rfl rfl Try.underlying29) ?_
        simp only [Act.put, List.setIfInBounds_toArray, List.set_cons_zero, List.set_cons_succ]
        refine wpList_run (v := .bool false) rfl (ix_neq rfl rfl rfl (decide_eq_false (fun e => e rfl))) ?_
        simp only [Act.put, List.setIfInBounds_toArray, List.set_cons_zero, List.set_cons_succ]
        refine wpList_run (v := .bool false) (wanted_none rfl) (ix_pickF rfl rfl rfl) ?_
        simp only [Act.put, List.setIfInBounds_toArray, List.set_cons_zero, List.set_cons_succ]
        go_upto_region 21 with fail
        refine wp_region_lit ?_
        refine wpList_run (v := .int .i64 0) (wanted_none rfl) (gx_assign rfl rfl) ?_
        simp only [Act.put, List.setIfInBounds_toArray, List.set_cons_zero, List.set_cons_succ]
        go_wp2_with fail
        go_loopg [18] n4 (fun gk iv wr => ∃ (i : Nat), iv = .int .i64 (i : Int) ∧ i + gk = n4 ∧ Turn nowhere w14 wr)
        case atStart => exact ⟨0, rfl, by omega, Turn.refl _ _⟩
        obtain ⟨i4, rfl, hgk, htr⟩ := hrel
        have HGK4 := Lib.hid hgk
        have HTR4 := Lib.hid htr
        have y5 : (i4 : Int) ≤ (n4 : Int) := by omega
        clear hgk htr
        by_cases hlt : i4 < n4
        · have HLT4 := Lib.hid hlt
          have y6 : (i4 : Int) < (n4 : Int) := by omega
          obtain ⟨q, hq⟩ : ∃ q, lr[i4]? = some q := ⟨_, List.getElem?_eq_getElem (by rw [← HLE4.out, ← HN4.out]; exact hlt)⟩
          have HQ4 := Lib.hid (show L4[i4]? = some q from by rw [HLE4.out]; exact hq)
          obtain ⟨b4, d4, e9, _, _⟩ := HR4.out.1.some_ (by rw [List.length_map, ← HN4.out]; omega)
          injection e9 with e8 e7 e6
          subst e8
          have HG := Lib.hid (show Calls Try.prog 15 #[.pointer (some ⟨x, 0, none⟩), strV q.1] wr fun e w' => e = .returned (.tuple #[.int .i64 q.2, .bool true]) ∧ Turn nowhere wr w' from by
            have h := Get_walk (k := q.1) (HI14.out.still HTR4.out)
            rw [lget_mem HSL.out (List.mem_of_getElem? hq)] at h
            exact h)
          have HR4a := Lib.hid (HR4.out.still HTR4.out)
          clear e7 e6 hlt hq
          go_upto_region 22 with fail
          refine wp_region_lit ?_
          refine wpList_run (v := .int .i64 (i4 : Int)) (wanted_none rfl) (exec_move rfl rfl) ?_
          simp only [Act.put, List.setIfInBounds_toArray, List.set_cons_zero, List.set_cons_succ]
          refine wpList_run (v := .slice (some ⟨b4, 0, none⟩) n4 c4) (wanted_none rfl) (exec_move rfl rfl) ?_
          simp only [Act.put, List.setIfInBounds_toArray, List.set_cons_zero, List.set_cons_succ]
          refine wpList_run (v := .int .i64 (n4 : Int)) (wanted_none rfl) (gx_len rfl rfl Try.underlying29) ?_
          simp only [Act.put, List.setIfInBounds_toArray, List.set_cons_zero, List.set_cons_succ]
          refine wpList_run (v := .bool true) (wanted_none rfl) (ix_lss rfl rfl rfl (decide_eq_true y6)) ?_
          simp only [Act.put, List.setIfInBounds_toArray, List.set_cons_zero, List.set_cons_succ]
          go_upto_region 24 with fail
          refine wp_region_lit ?_
          refine wpList_run (v := .pointer (some ⟨x, 0, none⟩)) (wanted_none rfl) (exec_move rfl rfl) ?_
          simp only [Act.put, List.setIfInBounds_toArray, List.set_cons_zero, List.set_cons_succ]
          refine wpList_run (v := .slice (some ⟨b4, 0, none⟩) n4 c4) (wanted_none rfl) (exec_move rfl rfl) ?_
          simp only [Act.put, List.setIfInBounds_toArray, List.set_cons_zero, List.set_cons_succ]
          refine wpList_run (v := .int .i64 (i4 : Int)) (wanted_none rfl) (exec_move rfl rfl) ?_
          simp only [Act.put, List.setIfInBounds_toArray, List.set_cons_zero, List.set_cons_succ]
          refine wpList_run (v := .pointer (some ⟨b4, 0 + i4 * 2, none⟩)) (wanted_none rfl) (gx_iaddr (i := i4) (sz := 2) rfl rfl rfl Try.underlying29 size_ref HLT4.out rfl) ?_
          simp only [Act.put, List.setIfInBounds_toArray, List.set_cons_zero, List.set_cons_succ]
          refine wpList_run (v := .pointer (some ⟨b4, 0 + i4 * 2 + 0, none⟩)) (wanted_none rfl) (exec_field (off := 0 + i4 * 2) (d := 0) rfl rfl (by kernel_rfl)) ?_
          simp only [Act.put, List.setIfInBounds_toArray, List.set_cons_zero, List.set_cons_succ]
          refine wpList_run (v := strV q.1) (wanted_none rfl) (exec_load1 rfl rfl (by kernel_rfl) (HR4a.out.1.el0 (r := encP q) (by rw [List.getElem?_map, HQ4.out]; rfl) 0 _ rfl)) ?_
          simp only [Act.put, List.setIfInBounds_toArray, List.set_cons_zero, List.set_cons_succ]
          refine wpList_op rfl fun K9 HK9 => ?_
          go_wp2_with fail
          refine (HG.out).mono ?_
          rintro e w16 ⟨rfl, ht16⟩
          refine HK9.out _ _ ?_
          clear HK9
          try simp only [Act.put, List.setIfInBounds_toArray, List.set_cons_zero, List.set_cons_succ]
          have HR4k := Lib.hid (HR4a.out.still ht16)
          have HT16 := Lib.hid (HTR4.out.trans ht16 fun _ _ e => e)
          clear ht16 HG
          refine wpList_run (v := .tuple #[.int .i64 q.2, .bool true]) (wanted_none rfl) (exec_move rfl rfl) ?_
          simp only [Act.put, List.setIfInBounds_toArray, List.set_cons_zero, List.set_cons_succ]
          refine wpList_run (v := .int .i64 q.2) (wanted_none rfl) (ix_extract rfl rfl rfl) ?_
          simp only [Act.put, List.setIfInBounds_toArray, List.set_cons_zero, List.set_cons_succ]
          refine wpList_run (v := .bool true) (wanted_none rfl) (ix_extract rfl rfl rfl) ?_
          simp only [Act.put, List.setIfInBounds_toArray, List.set_cons_zero, List.set_cons_succ]
          refine wpList_run (v := .int .i64 q.2) (wanted_none rfl) (gx_assign rfl rfl) ?_
          simp only [Act.put, List.setIfInBounds_toArray, List.set_cons_zero, List.set_cons_succ]
          refine wpList_run (v := .bool true) (wanted_none rfl) (gx_assign rfl rfl) ?_
          simp only [Act.put, List.setIfInBounds_toArray, List.set_cons_zero, List.set_cons_succ]
          go_upto_region 25 with fail
          refine wp_region_lit ?_
          refine wpList_run (v := .bool true) (wanted_none rfl) (exec_move rfl rfl) ?_
          simp only [Act.put, List.setIfInBounds_toArray, List.set_cons_zero, List.set_cons_succ]
          refine wpList_run (v := .bool false) (wanted_none rfl) (ix_not (b := true) rfl rfl) ?_
          simp only [Act.put, List.setIfInBounds_toArray, List.set_cons_zero, List.set_cons_succ]
          refine wpList_run (v := .bool false) (wanted_none rfl) (exec_move rfl rfl) ?_
          simp only [Act.put, List.setIfInBounds_toArray, List.set_cons_zero, List.set_cons_succ]
          refine wpList_run (v := .int .i64 q.2) rfl (exec_move rfl rfl) ?_
          simp only [Act.put, List.setIfInBounds_toArray, List.set_cons_zero, List.set_cons_succ]
          refine wpList_run (v := .slice (some ⟨b4, 0, none⟩) n4 c4) rfl (exec_move rfl rfl) ?_
          simp only [Act.put, List.setIfInBounds_toArray, List.set_cons_zero, List.set_cons_succ]
          refine wpList_run (v := .int .i64 (i4 : Int)) rfl (exec_move rfl rfl) ?_
          simp only [Act.put, List.setIfInBounds_toArray, List.set_cons_zero, List.set_cons_succ]
          refine wpList_run (v := .pointer (some ⟨b4, 0 + i4 * 2, none⟩)) rfl (gx_iaddr (i := i4) (sz := 2) rfl rfl rfl Try.underlying29 size_ref HLT4.out rfl) ?_
          simp only [Act.put, List.setIfInBounds_toArray, List.set_cons_zero, List.set_cons_succ]
          refine wpList_run (v := .pointer (some ⟨b4, 0 + i4 * 2 + 1, none⟩)) rfl (exec_field (off := 0 + i4 * 2) (d := 1) rfl rfl (by kernel_rfl)) ?_
          simp only [Act.put, List.setIfInBounds_toArray, List.set_cons_zero, List.set_cons_succ]
          refine wpList_run (v := .int .i64 q.2) rfl (exec_load1 rfl rfl (by kernel_rfl) (HR4k.out.1.el0 (r := encP q) (by rw [List.getElem?_map, HQ4.out]; rfl) 1 _ rfl)) ?_
          simp only [Act.put, List.setIfInBounds_toArray, List.set_cons_zero, List.set_cons_succ]
          refine wpList_run (v := .bool false) rfl (ix_neq rfl rfl rfl (decide_eq_false (fun e => e rfl))) ?_
          simp only [Act.put, List.setIfInBounds_toArray, List.set_cons_zero, List.set_cons_succ]
          refine wpList_run (v := .bool false) (wanted_none rfl) (ix_pickF rfl rfl rfl) ?_
          simp only [Act.put, List.setIfInBounds_toArray, List.set_cons_zero, List.set_cons_succ]
          go_upto_region 23 with fail
          refine wp_region_lit ?_
          refine wpList_run (v := .int .i64 (i4 : Int)) (wanted_none rfl) (exec_move rfl rfl) ?_
          simp only [Act.put, List.setIfInBounds_toArray, List.set_cons_zero, List.set_cons_succ]
          refine wpList_run (v := .int .i64 ((i4 + 1 : Nat) : Int)) (wanted_none rfl) (ix_add rfl rfl rfl (by omega) (by omega)) ?_
          simp only [Act.put, List.setIfInBounds_toArray, List.set_cons_zero, List.set_cons_succ]
          refine wpList_run (v := .int .i64 ((i4 + 1 : Nat) : Int)) (wanted_none rfl) (gx_assign rfl rfl) ?_
          simp only [Act.put, List.setIfInBounds_toArray, List.set_cons_zero, List.set_cons_succ]
          go_wp2_with fail
          go_roundg (n4 - (i4 + 1))
          case measure => have := HGK4.out; have := HLT4.out; omega
          case rel => exact ⟨i4 + 1, rfl, by have := HLT4.out; omega, HT16.out⟩
        · go_upto_region 22 with fail
          refine wp_region_lit ?_
          refine wpList_run (v := .int .i64 (i4 : Int)) (wanted_none rfl) (exec_move rfl rfl) ?_
          simp only [Act.put, List.setIfInBounds_toArray, List.set_cons_zero, List.set_cons_succ]
          refine wpList_run (v := .slice A4 n4 c4) (wanted_none rfl) (exec_move rfl rfl) ?_
          simp only [Act.put, List.setIfInBounds_toArray, List.set_cons_zero, List.set_cons_succ]
          refine wpList_run (v := .int .i64 (n4 : Int)) (wanted_none rfl) (gx_len rfl rfl Try.underlying29) ?_
          simp only [Act.put, List.setIfInBounds_toArray, List.set_cons_zero, List.set_cons_succ]
          refine wpList_run (v := .bool false) (wanted_none rfl) (ix_lss rfl rfl rfl (decide_eq_false (by omega))) ?_
          simp only [Act.put, List.setIfInBounds_toArray, List.set_cons_zero, List.set_cons_succ]
          go_upto_region 27 with fail
          refine wp_region_lit ?_
          refine wpList_run (v := .bool true) (wanted_none rfl) (gx_assign rfl rfl) ?_
          simp only [Act.put, List.setIfInBounds_toArray, List.set_cons_zero, List.set_cons_succ]
          go_wp2_with fail
          go_ret
          exact ⟨rfl, HT0.out.trans (HF14.out.1.trans HTR4.out fun _ _ e => e) fun _ _ e => e⟩
end Go.Proofs.Ytagpnfoindeadaa
