/-
  Index: IndexRanges: the walk. No conditions.
-/
import Derived.Test.YtmlkdkbpbleilaaIyT
import Derived.Deep.QuietTactic
import Derived.BigQuiet
import Derived.Deep.Cut
import Derived.Deep.DeepCutAuto
import Derived.Deep.CutRange
namespace Go.Proofs.Ytmlkdkbpbleilaa
open Go.RowKit
open Ix
set_option linter.unusedVariables false
set_option linter.unusedSimpArgs false
theorem exec_seqlr {a : Act} {o : Oper} {W : World} {x y : Operand} {l m : List UInt8} {t u : TypeId} {r : Bool} (ho : o.op = .binOp .eql t x y u) (hx : a.eval x = strV l) (hy : a.eval y = strV m) (hr : (l == m) = r) : (execOp a.eval o).run Try.prog W = .ok (.value (.bool r)) W := hr ▸ exec_seql ho hx hy
theorem build0R (w : World) : (Instr.buildSlice 29 0 #[]).run Try.prog w = .ok (.slice (some ⟨w.heap.size, 0, none⟩) 0 0) (w.alloc (.cells #[] 54)) := by kernel_rfl
theorem key_eq_nil {k : Key} (h : k = []) : (k == []) = true := by rw [h]; rfl
theorem key_ne_nil {k : Key} (h : ¬ k = []) : (k == []) = false := by cases k with
  | nil => exact absurd rfl h
  | cons a l => rfl
theorem geq_trans {a b c : Key} (h : klt b a = false) (g : klt c b = false) : klt c a = false := by
  cases e : klt c a with
  | false => rfl
  | true =>
    have := klt_le e h
    rw [g] at this
    cases this
set_option maxRecDepth 20000 in
set_option maxHeartbeats 16000000 in
theorem ranges_walk {w : World} {A : Option Addr} {m cap : Nat} {ks : List Key} {e0 e1 e2 : Key} (hk : Rws w 1 A m (ks.map fun k => [strV k])) (hkl : ∀ k ∈ ks, k.length ≤ 281474976710656) :
    Calls Try.prog 6 #[.slice A m cap, .agg #[strV e0, strV e1, strV e2]] w fun e w' => e = .returned (.bool true) ∧ Turn nowhere w w' := by
  have HK := Lib.hid hk
  have HKL := Lib.hid hkl
  clear hk hkl
  go_enter Try.func6, Try.ntmps6
  go_upto_region 1 with fail
  have hb0 := Blk.new w 52 #[strV e0, strV e1, strV e2]
  have ht0 := (Turn.refl nowhere w).alloc (.cells #[strV e0, strV e1, strV e2] 52)
  obtain ⟨w0, hw0⟩ : ∃ v, v = w.alloc (.cells #[strV e0, strV e1, strV e2] 52) := ⟨_, rfl⟩
  obtain ⟨g0, hg0⟩ : ∃ g, g = w.heap.size := ⟨_, rfl⟩
  rw [← hw0] at hb0 ht0 ⊢
  rw [← hg0] at hb0 ⊢
  have HB := Lib.hid hb0
  have HT0 := Lib.hid ht0
  clear hb0 ht0 hw0 hg0
  refine wp_region_lit ?_
  refine wpList_op rfl fun K9 HK9 => ?_
  go_wp2_with fail
  refine ((shown_walk (w := w0))).mono ?_
  rintro e w1 ⟨rfl, ht1⟩
  refine HK9.out _ _ ?_
  clear HK9
  try simp only [Act.put, List.setIfInBounds_toArray, List.set_cons_zero, List.set_cons_succ]
  have HT1 := Lib.hid ht1
  clear ht1
  refine wpList_run (v := .bool true) (wanted_none rfl) (gx_assign rfl rfl) ?_
  simp only [Act.put, List.setIfInBounds_toArray, List.set_cons_zero, List.set_cons_succ]
  have HNW := Lib.hid (show Calls Try.prog 8 #[.int .i64 3] w1 _ from new_walk (w := w1) (M := 3) (by decide) (by decide))
  go_upto_region 2 with fail
  refine wp_region_lit ?_
  refine wpList_op rfl fun K9 HK9 => ?_
  go_wp2_with fail
  refine (HNW.out).mono ?_
  rintro e w2 ⟨x, rfl, hx, ht2, hi2⟩
  refine HK9.out _ _ ?_
  clear HK9
  try simp only [Act.put, List.setIfInBounds_toArray, List.set_cons_zero, List.set_cons_succ]
  have HF2 := Lib.hid (Fr.still (w := w0) (Fr.new (HT1.out.trans ht2 fun _ _ e => e) (Nat.le_trans HT1.out.size hx)) (Turn.refl nowhere w2))
  have HI2 := Lib.hid hi2
  clear hx ht2 hi2 HNW
  refine wpList_run (v := .tuple #[.pointer (some ⟨x, 0, none⟩), .int .i64 0]) (wanted_none rfl) (exec_move rfl rfl) ?_
  simp only [Act.put, List.setIfInBounds_toArray, List.set_cons_zero, List.set_cons_succ]
  refine wpList_run (v := .pointer (some ⟨x, 0, none⟩)) (wanted_none rfl) (ix_extract rfl rfl rfl) ?_
  simp only [Act.put, List.setIfInBounds_toArray, List.set_cons_zero, List.set_cons_succ]
  refine wpList_run (v := .int .i64 0) (wanted_none rfl) (ix_extract rfl rfl rfl) ?_
  simp only [Act.put, List.setIfInBounds_toArray, List.set_cons_zero, List.set_cons_succ]
  refine wpList_run (v := .pointer (some ⟨x, 0, none⟩)) (wanted_none rfl) (gx_assign rfl rfl) ?_
  simp only [Act.put, List.setIfInBounds_toArray, List.set_cons_zero, List.set_cons_succ]
  refine wpList_run (v := .int .i64 0) (wanted_none rfl) (gx_assign rfl rfl) ?_
  simp only [Act.put, List.setIfInBounds_toArray, List.set_cons_zero, List.set_cons_succ]
  go_upto_region 3 with fail
  refine wp_region_lit ?_
  refine wpList_run (v := .bool true) (wanted_none rfl) (exec_move rfl rfl) ?_
  simp only [Act.put, List.setIfInBounds_toArray, List.set_cons_zero, List.set_cons_succ]
  refine wpList_run (v := .bool false) (wanted_none rfl) (ix_not (b := true) rfl rfl) ?_
  simp only [Act.put, List.setIfInBounds_toArray, List.set_cons_zero, List.set_cons_succ]
  refine wpList_run (v := .bool false) (wanted_none rfl) (exec_move rfl rfl) ?_
  simp only [Act.put, List.setIfInBounds_toArray, List.set_cons_zero, List.set_cons_succ]
  refine wpList_run (v := .pointer (some ⟨x, 0, none⟩)) rfl (exec_move rfl rfl) ?_
  simp only [Act.put, List.setIfInBounds_toArray, List.set_cons_zero, List.set_cons_succ]
  refine wpList_run (v := .bool false) rfl (ixp_some rfl rfl rfl rfl) ?_
  simp only [Act.put, List.setIfInBounds_toArray, List.set_cons_zero, List.set_cons_succ]
  refine wpList_run (v := .bool false) (wanted_none rfl) (ix_pickF rfl rfl rfl) ?_
  simp only [Act.put, List.setIfInBounds_toArray, List.set_cons_zero, List.set_cons_succ]
  refine wpList_run (v := .bool false) (wanted_none rfl) (exec_move rfl rfl) ?_
  simp only [Act.put, List.setIfInBounds_toArray, List.set_cons_zero, List.set_cons_succ]
  refine wpList_run (v := .int .i64 0) rfl (exec_move rfl rfl) ?_
  simp only [Act.put, List.setIfInBounds_toArray, List.set_cons_zero, List.set_cons_succ]
  refine wpList_run (v := .bool false) rfl (ix_neq rfl rfl rfl (by decide)) ?_
  simp only [Act.put, List.setIfInBounds_toArray, List.set_cons_zero, List.set_cons_succ]
  refine wpList_run (v := .bool false) (wanted_none rfl) (ix_pickF rfl rfl rfl) ?_
  simp only [Act.put, List.setIfInBounds_toArray, List.set_cons_zero, List.set_cons_succ]
  go_upto_region 5 with fail
  refine wp_region_lit ?_
  refine wpList_run (v := .int .i64 0) (wanted_none rfl) (gx_assign rfl rfl) ?_
  simp only [Act.put, List.setIfInBounds_toArray, List.set_cons_zero, List.set_cons_succ]
  obtain ⟨mm, hmm⟩ : ∃ q, q = min m 200 := ⟨_, rfl⟩
  have HM1 := Lib.hid (show mm ≤ m ∧ mm ≤ 200 ∧ (∀ i, i < m → i < 200 → i < mm) from ⟨by omega, by omega, fun i h1 h2 => by omega⟩)
  clear hmm
  have ym : (m : Int) ≤ 140737488355328 := by have := HK.out.2.2.1; omega
  go_wp2_with fail
  go_loopg [8] mm (fun gk iv wr => ∃ (i : Nat) (H : Hp) (l : List Pr), iv = .int .i64 (i : Int) ∧ i + gk = mm ∧ Idx wr x H 3 l i ∧ Srt l ∧ Fr w0 x H wr)
  case atStart => exact ⟨0, _, [], rfl, by omega, HI2.out, List.Pairwise.nil, HF2.out⟩
  obtain ⟨i, H, l1, rfl, hgk, hi, hs, hf⟩ := hrel
  have HGK := Lib.hid hgk
  have HI := Lib.hid hi
  have HS := Lib.hid hs
  have HF := Lib.hid hf
  have hile : i ≤ mm := by omega
  have yi : (i : Int) ≤ 200 := by have := HM1.out; omega
  clear hgk hi hs hf
  by_cases hlt : i < mm
  · have HLT := Lib.hid hlt
    have him : i < m := by have := HM1.out; omega
    have y3 : (i : Int) < (m : Int) := by omega
    have y4 : (i : Int) < 200 := by have := HM1.out; omega
    obtain ⟨bF, oF, hA, hr⟩ := HK.out.2.2.2 (by omega)
    subst hA
    obtain ⟨k, hkk⟩ : ∃ k, ks[i]? = some k := ⟨_, List.getElem?_eq_getElem (by have := HK.out.1; rw [List.length_map] at this; omega)⟩
    have HIM := Lib.hid him
    have HKM := Lib.hid (HKL.out k (List.mem_of_getElem? hkk))
    have hcell := hr i [strV k] (by rw [List.getElem?_map, hkk]; rfl) 0 _ rfl
    rw [Nat.add_zero] at hcell
    have HCE := Lib.hid (((HT0.out.trans HF.out.1 fun _ _ e => e).cell (World.block_lt_of_cell? _ _ hcell) fun e => e).trans hcell)
    clear hr hkk hcell him hlt
    go_upto_region 6 with fail
    refine wp_region_lit ?_
    refine wpList_run (v := .int .i64 (i : Int)) (wanted_none rfl) (exec_move rfl rfl) ?_
    simp only [Act.put, List.setIfInBounds_toArray, List.set_cons_zero, List.set_cons_succ]
    refine wpList_run (v := .slice (some ⟨bF, oF, none⟩) m cap) (wanted_none rfl) (exec_move rfl rfl) ?_
    simp only [Act.put, List.setIfInBounds_toArray, List.set_cons_zero, List.set_cons_succ]
    refine wpList_run (v := .int .i64 (m : Int)) (wanted_none rfl) (gx_len rfl rfl Try.underlying51) ?_
    simp only [Act.put, List.setIfInBounds_toArray, List.set_cons_zero, List.set_cons_succ]
    refine wpList_run (v := .bool true) (wanted_none rfl) (ix_lss rfl rfl rfl (decide_eq_true y3)) ?_
    simp only [Act.put, List.setIfInBounds_toArray, List.set_cons_zero, List.set_cons_succ]
    refine wpList_run (v := .bool true) (wanted_none rfl) (exec_move rfl rfl) ?_
    simp only [Act.put, List.setIfInBounds_toArray, List.set_cons_zero, List.set_cons_succ]
    refine wpList_run (v := .int .i64 (i : Int)) rfl (exec_move rfl rfl) ?_
    simp only [Act.put, List.setIfInBounds_toArray, List.set_cons_zero, List.set_cons_succ]
    refine wpList_run (v := .bool true) rfl (ix_lss rfl rfl rfl (decide_eq_true y4)) ?_
    simp only [Act.put, List.setIfInBounds_toArray, List.set_cons_zero, List.set_cons_succ]
    refine wpList_run (v := .bool true) (wanted_none rfl) (ix_pickT rfl rfl rfl) ?_
    simp only [Act.put, List.setIfInBounds_toArray, List.set_cons_zero, List.set_cons_succ]
    go_upto_region 8 with fail
    refine wp_region_lit ?_
    refine wpList_run (v := .pointer (some ⟨x, 0, none⟩)) (wanted_none rfl) (exec_move rfl rfl) ?_
    simp only [Act.put, List.setIfInBounds_toArray, List.set_cons_zero, List.set_cons_succ]
    refine wpList_run (v := .slice (some ⟨bF, oF, none⟩) m cap) (wanted_none rfl) (exec_move rfl rfl) ?_
    simp only [Act.put, List.setIfInBounds_toArray, List.set_cons_zero, List.set_cons_succ]
    refine wpList_run (v := .int .i64 (i : Int)) (wanted_none rfl) (exec_move rfl rfl) ?_
    simp only [Act.put, List.setIfInBounds_toArray, List.set_cons_zero, List.set_cons_succ]
    refine wpList_run (v := .pointer (some ⟨bF, oF + i * 1, none⟩)) (wanted_none rfl) (gx_iaddr (i := i) (sz := 1) rfl rfl rfl Try.underlying51 size_str HIM.out rfl) ?_
    simp only [Act.put, List.setIfInBounds_toArray, List.set_cons_zero, List.set_cons_succ]
    refine wpList_run (v := strV k) (wanted_none rfl) (exec_load1 rfl rfl (by kernel_rfl) HCE.out) ?_
    simp only [Act.put, List.setIfInBounds_toArray, List.set_cons_zero, List.set_cons_succ]
    refine wpList_run (v := .int .i64 (i : Int)) (wanted_none rfl) (exec_move rfl rfl) ?_
    simp only [Act.put, List.setIfInBounds_toArray, List.set_cons_zero, List.set_cons_succ]
    refine wpList_op rfl fun K9 HK9 => ?_
    go_wp2_with fail
    refine ((Put_walk (k := k) (v := (i : Int)) HI.out (by have := HLT.out; have := HM1.out; omega) HKM.out)).mono ?_
    rintro e w9 ⟨rfl, H9, hi9, ht9, hf9⟩
    refine HK9.out _ _ ?_
    clear HK9
    try simp only [Act.put, List.setIfInBounds_toArray, List.set_cons_zero, List.set_cons_succ]
    have HI9 := Lib.hid hi9
    have HF9 := Lib.hid (HF.out.to ht9 hf9)
    clear hi9 ht9 hf9
    go_upto_region 7 with fail
    refine wp_region_lit ?_
    refine wpList_run (v := .int .i64 (i : Int)) (wanted_none rfl) (exec_move rfl rfl) ?_
    simp only [Act.put, List.setIfInBounds_toArray, List.set_cons_zero, List.set_cons_succ]
    refine wpList_run (v := .int .i64 ((i + 1 : Nat) : Int)) (wanted_none rfl) (ix_add rfl rfl rfl (by omega) (by omega)) ?_
    simp only [Act.put, List.setIfInBounds_toArray, List.set_cons_zero, List.set_cons_succ]
    refine wpList_run (v := .int .i64 ((i + 1 : Nat) : Int)) (wanted_none rfl) (gx_assign rfl rfl) ?_
    simp only [Act.put, List.setIfInBounds_toArray, List.set_cons_zero, List.set_cons_succ]
    go_wp2_with fail
    go_roundg (mm - (i + 1))
    case measure => have := HGK.out; have := HLT.out; omega
    case rel => exact ⟨i + 1, H9, _, rfl, by have := HLT.out; omega, HI9.out, lput_srt HS.out, HF9.out⟩
  · obtain rfl : i = mm := by omega
    clear hlt hile
    have HI3 := Lib.hid (show Idx wr x H 3 l1 200 from ⟨HI.out.hin, HI.out.ord, by obtain ⟨t, ch, h1, h2, h3⟩ := HI.out.blk; exact ⟨t, ch, h1, by have := HM1.out; omega, h3⟩, by have := HI.out.cnt; have := HM1.out; omega, by decide⟩)
    have HL200 := Lib.hid (show l1.length ≤ 200 from by have := HI.out.cnt; have := HM1.out; omega)
    go_upto_region 6 with fail
    rename_i K9 hK9
    have HKC := Lib.hid hK9
    clear hK9
    refine wp_region_lit ?_
    by_cases him : i < m
    · have y5 : (i : Int) < (m : Int) := by omega
      have y6 : ¬ (i : Int) < 200 := by have := HM1.out.2.2 i him; have := HM1.out; omega
      clear him
      refine wpList_run (v := .int .i64 (i : Int)) (wanted_none rfl) (exec_move rfl rfl) ?_
      simp only [Act.put, List.setIfInBounds_toArray, List.set_cons_zero, List.set_cons_succ]
      refine wpList_run (v := .slice A m cap) (wanted_none rfl) (exec_move rfl rfl) ?_
      simp only [Act.put, List.setIfInBounds_toArray, List.set_cons_zero, List.set_cons_succ]
      refine wpList_run (v := .int .i64 (m : Int)) (wanted_none rfl) (gx_len rfl rfl Try.underlying51) ?_
      simp only [Act.put, List.setIfInBounds_toArray, List.set_cons_zero, List.set_cons_succ]
      refine wpList_run (v := .bool true) (wanted_none rfl) (ix_lss rfl rfl rfl (decide_eq_true y5)) ?_
      simp only [Act.put, List.setIfInBounds_toArray, List.set_cons_zero, List.set_cons_succ]
      refine wpList_run (v := .bool true) (wanted_none rfl) (exec_move rfl rfl) ?_
      simp only [Act.put, List.setIfInBounds_toArray, List.set_cons_zero, List.set_cons_succ]
      refine wpList_run (v := .int .i64 (i : Int)) rfl (exec_move rfl rfl) ?_
      simp only [Act.put, List.setIfInBounds_toArray, List.set_cons_zero, List.set_cons_succ]
      refine wpList_run (v := .bool false) rfl (ix_lss rfl rfl rfl (decide_eq_false y6)) ?_
      simp only [Act.put, List.setIfInBounds_toArray, List.set_cons_zero, List.set_cons_succ]
      refine wpList_run (v := .bool false) (wanted_none rfl) (ix_pickT rfl rfl rfl) ?_
      simp only [Act.put, List.setIfInBounds_toArray, List.set_cons_zero, List.set_cons_succ]
      refine wpList_nil ?_
      refine HKC.out _ _ ?_
      have hBj := HB.out.turn HF.out.1 fun e => e
      have hc0 : wr.cell? ⟨g0, 0, none⟩ = some (strV e0) := hBj.cell 0
      have hc1 : wr.cell? ⟨g0, 1, none⟩ = some (strV e1) := hBj.cell 1
      have hc2 : wr.cell? ⟨g0, 2, none⟩ = some (strV e2) := hBj.cell 2
      clear hBj
      go_upto_region 9 with fail
      go_quiet (fail)
      obtain ⟨w9, hw9⟩ : ∃ v, v = wr.drewN nq := ⟨_, rfl⟩
      have HT9 := Lib.hid (show Turn nowhere wr w9 from by rw [hw9]; exact (Turn.refl _ _).drewN _)
      rw [← hw9]
      clear hw9 hc0 hc1 hc2
      have HI9 := Lib.hid (HI3.out.still HT9.out)
      have HF9 := Lib.hid (HF.out.still HT9.out)
      go_upto_region 10 with fail
      refine wp_region_lit ?_
      refine wpList_run (v := strV e0) (wanted_none rfl) (exec_move rfl rfl) ?_
      simp only [Act.put, List.setIfInBounds_toArray, List.set_cons_zero, List.set_cons_succ]
      refine wpList_run (v := strV e1) (wanted_none rfl) (exec_move rfl rfl) ?_
      simp only [Act.put, List.setIfInBounds_toArray, List.set_cons_zero, List.set_cons_succ]
      refine wpList_run (v := .bool (klt e1 e0)) (wanted_none rfl) (exec_sgtr rfl rfl rfl rfl) ?_
      simp only [Act.put, List.setIfInBounds_toArray, List.set_cons_zero, List.set_cons_succ]
      go_upto_if 59 with fail
      go_cut [9, 10] from 59 to 61 (fun av bv wx => ∃ a1 b1 : Key, av = strV a1 ∧ bv = strV b1 ∧ klt b1 a1 = false ∧ w9 = wx)
      case first =>
        cases hq : klt e1 e0 with
        | true =>
          have HQ := Lib.hid hq
          clear hq
          go_upto_region 11 with fail
          refine wp_region_lit ?_
          refine wpList_run (v := strV e1) (wanted_none rfl) (exec_move rfl rfl) ?_
          simp only [Act.put, List.setIfInBounds_toArray, List.set_cons_zero, List.set_cons_succ]
          refine wpList_run (v := strV e0) (wanted_none rfl) (exec_move rfl rfl) ?_
          simp only [Act.put, List.setIfInBounds_toArray, List.set_cons_zero, List.set_cons_succ]
          refine wpList_run (v := strV e1) (wanted_none rfl) (gx_assign rfl rfl) ?_
          simp only [Act.put, List.setIfInBounds_toArray, List.set_cons_zero, List.set_cons_succ]
          refine wpList_run (v := strV e0) (wanted_none rfl) (gx_assign rfl rfl) ?_
          simp only [Act.put, List.setIfInBounds_toArray, List.set_cons_zero, List.set_cons_succ]
          go_wp2_with fail
          go_meet
          exact ⟨e1, e0, rfl, rfl, klt_as HQ.out, rfl⟩
        | false =>
          have HQ := Lib.hid hq
          clear hq
          go_wp2_with fail
          go_meet
          exact ⟨e0, e1, rfl, rfl, HQ.out, rfl⟩
      obtain ⟨a1, b1, rfl, rfl, hab, hw9⟩ := hcut
      subst hw9
      have HAB := Lib.hid hab
      clear hab
      go_upto_region 12 with fail
      refine wp_region_lit ?_
      refine wpList_run (v := strV b1) (wanted_none rfl) (exec_move rfl rfl) ?_
      simp only [Act.put, List.setIfInBounds_toArray, List.set_cons_zero, List.set_cons_succ]
      refine wpList_run (v := strV e2) (wanted_none rfl) (exec_move rfl rfl) ?_
      simp only [Act.put, List.setIfInBounds_toArray, List.set_cons_zero, List.set_cons_succ]
      refine wpList_run (v := .bool (klt e2 b1)) (wanted_none rfl) (exec_sgtr rfl rfl rfl rfl) ?_
      simp only [Act.put, List.setIfInBounds_toArray, List.set_cons_zero, List.set_cons_succ]
      go_upto_if 64 with fail
      go_cut [10, 11] from 64 to 66 (fun av bv wx => ∃ b2 c1 : Key, av = strV b2 ∧ bv = strV c1 ∧ (klt c1 b2 = false ∧ klt c1 a1 = false) ∧ w9 = wx)
      case first =>
        cases hq : klt e2 b1 with
        | true =>
          have HQ := Lib.hid hq
          clear hq
          go_upto_region 13 with fail
          refine wp_region_lit ?_
          refine wpList_run (v := strV e2) (wanted_none rfl) (exec_move rfl rfl) ?_
          simp only [Act.put, List.setIfInBounds_toArray, List.set_cons_zero, List.set_cons_succ]
          refine wpList_run (v := strV b1) (wanted_none rfl) (exec_move rfl rfl) ?_
          simp only [Act.put, List.setIfInBounds_toArray, List.set_cons_zero, List.set_cons_succ]
          refine wpList_run (v := strV e2) (wanted_none rfl) (gx_assign rfl rfl) ?_
          simp only [Act.put, List.setIfInBounds_toArray, List.set_cons_zero, List.set_cons_succ]
          refine wpList_run (v := strV b1) (wanted_none rfl) (gx_assign rfl rfl) ?_
          simp only [Act.put, List.setIfInBounds_toArray, List.set_cons_zero, List.set_cons_succ]
          go_wp2_with fail
          go_meet
          exact ⟨e2, b1, rfl, rfl, ⟨klt_as HQ.out, HAB.out⟩, rfl⟩
        | false =>
          have HQ := Lib.hid hq
          clear hq
          go_wp2_with fail
          go_meet
          exact ⟨b1, e2, rfl, rfl, ⟨HQ.out, geq_trans HAB.out HQ.out⟩, rfl⟩
      obtain ⟨b2, c1, rfl, rfl, hbc, hw9⟩ := hcut
      subst hw9
      have HBC := Lib.hid hbc
      clear hbc
      go_upto_region 14 with fail
      refine wp_region_lit ?_
      refine wpList_run (v := strV a1) (wanted_none rfl) (exec_move rfl rfl) ?_
      simp only [Act.put, List.setIfInBounds_toArray, List.set_cons_zero, List.set_cons_succ]
      refine wpList_run (v := strV b2) (wanted_none rfl) (exec_move rfl rfl) ?_
      simp only [Act.put, List.setIfInBounds_toArray, List.set_cons_zero, List.set_cons_succ]
      refine wpList_run (v := .bool (klt b2 a1)) (wanted_none rfl) (exec_sgtr rfl rfl rfl rfl) ?_
      simp only [Act.put, List.setIfInBounds_toArray, List.set_cons_zero, List.set_cons_succ]
      go_upto_if 69 with fail
      go_cut [9, 10] from 69 to 71 (fun av bv wx => ∃ a3 b3 : Key, av = strV a3 ∧ bv = strV b3 ∧ (klt b3 a3 = false ∧ klt c1 b3 = false) ∧ w9 = wx)
      case first =>
        cases hq : klt b2 a1 with
        | true =>
          have HQ := Lib.hid hq
          clear hq
          go_upto_region 15 with fail
          refine wp_region_lit ?_
          refine wpList_run (v := strV b2) (wanted_none rfl) (exec_move rfl rfl) ?_
          simp only [Act.put, List.setIfInBounds_toArray, List.set_cons_zero, List.set_cons_succ]
          refine wpList_run (v := strV a1) (wanted_none rfl) (exec_move rfl rfl) ?_
          simp only [Act.put, List.setIfInBounds_toArray, List.set_cons_zero, List.set_cons_succ]
          refine wpList_run (v := strV b2) (wanted_none rfl) (gx_assign rfl rfl) ?_
          simp only [Act.put, List.setIfInBounds_toArray, List.set_cons_zero, List.set_cons_succ]
          refine wpList_run (v := strV a1) (wanted_none rfl) (gx_assign rfl rfl) ?_
          simp only [Act.put, List.setIfInBounds_toArray, List.set_cons_zero, List.set_cons_succ]
          go_wp2_with fail
          go_meet
          exact ⟨b2, a1, rfl, rfl, ⟨klt_as HQ.out, HBC.out.2⟩, rfl⟩
        | false =>
          have HQ := Lib.hid hq
          clear hq
          go_wp2_with fail
          go_meet
          exact ⟨a1, b2, rfl, rfl, ⟨HQ.out, HBC.out.1⟩, rfl⟩
      obtain ⟨a3, b3, rfl, rfl, habc, hw9⟩ := hcut
      subst hw9
      have HA := Lib.hid habc
      clear habc
      by_cases hb : b3 = []
      · have HB3 := Lib.hid hb
        clear hb
        go_upto_region 16 with fail
        refine wp_region_lit ?_
        refine wpList_run (v := strV b3) (wanted_none rfl) (exec_move rfl rfl) ?_
        simp only [Act.put, List.setIfInBounds_toArray, List.set_cons_zero, List.set_cons_succ]
        refine wpList_run (v := .bool true) (wanted_none rfl) (exec_seqlr rfl rfl rfl (key_eq_nil HB3.out)) ?_
        simp only [Act.put, List.setIfInBounds_toArray, List.set_cons_zero, List.set_cons_succ]
        refine wpList_run (v := .bool true) (wanted_none rfl) (exec_move rfl rfl) ?_
        simp only [Act.put, List.setIfInBounds_toArray, List.set_cons_zero, List.set_cons_succ]
        refine wpList_skip (by go_simp) ?_
        simp only [Act.put, List.setIfInBounds_toArray, List.set_cons_zero, List.set_cons_succ]
        refine wpList_skip (by go_simp) ?_
        simp only [Act.put, List.setIfInBounds_toArray, List.set_cons_zero, List.set_cons_succ]
        refine wpList_run (v := .bool true) (wanted_none rfl) (ix_pickT rfl rfl rfl) ?_
        simp only [Act.put, List.setIfInBounds_toArray, List.set_cons_zero, List.set_cons_succ]
        go_upto_region 17 with fail
        refine wp_region_lit ?_
        refine wpList_run (v := .bool true) (wanted_none rfl) (gx_assign rfl rfl) ?_
        simp only [Act.put, List.setIfInBounds_toArray, List.set_cons_zero, List.set_cons_succ]
        go_wp2_with fail
        go_ret
        exact ⟨rfl, HT0.out.trans HF9.out.1 fun _ _ e => e⟩
      · have HB3 := Lib.hid hb
        clear hb
        by_cases hc : c1 = []
        · have HC1 := Lib.hid hc
          clear hc
          go_upto_region 16 with fail
          refine wp_region_lit ?_
          refine wpList_run (v := strV b3) (wanted_none rfl) (exec_move rfl rfl) ?_
          simp only [Act.put, List.setIfInBounds_toArray, List.set_cons_zero, List.set_cons_succ]
          refine wpList_run (v := .bool false) (wanted_none rfl) (exec_seqlr rfl rfl rfl (key_ne_nil HB3.out)) ?_
          simp only [Act.put, List.setIfInBounds_toArray, List.set_cons_zero, List.set_cons_succ]
          refine wpList_run (v := .bool false) (wanted_none rfl) (exec_move rfl rfl) ?_
          simp only [Act.put, List.setIfInBounds_toArray, List.set_cons_zero, List.set_cons_succ]
          refine wpList_run (v := strV c1) rfl (exec_move rfl rfl) ?_
          simp only [Act.put, List.setIfInBounds_toArray, List.set_cons_zero, List.set_cons_succ]
          refine wpList_run (v := .bool true) rfl (exec_seqlr rfl rfl rfl (key_eq_nil HC1.out)) ?_
          simp only [Act.put, List.setIfInBounds_toArray, List.set_cons_zero, List.set_cons_succ]
          refine wpList_run (v := .bool true) (wanted_none rfl) (ix_pickF rfl rfl rfl) ?_
          simp only [Act.put, List.setIfInBounds_toArray, List.set_cons_zero, List.set_cons_succ]
          go_upto_region 17 with fail
          refine wp_region_lit ?_
          refine wpList_run (v := .bool true) (wanted_none rfl) (gx_assign rfl rfl) ?_
          simp only [Act.put, List.setIfInBounds_toArray, List.set_cons_zero, List.set_cons_succ]
          go_wp2_with fail
          go_ret
          exact ⟨rfl, HT0.out.trans HF9.out.1 fun _ _ e => e⟩
        · have HC1 := Lib.hid hc
          clear hc
          go_upto_region 16 with fail
          refine wp_region_lit ?_
          refine wpList_run (v := strV b3) (wanted_none rfl) (exec_move rfl rfl) ?_
          simp only [Act.put, List.setIfInBounds_toArray, List.set_cons_zero, List.set_cons_succ]
          refine wpList_run (v := .bool false) (wanted_none rfl) (exec_seqlr rfl rfl rfl (key_ne_nil HB3.out)) ?_
          simp only [Act.put, List.setIfInBounds_toArray, List.set_cons_zero, List.set_cons_succ]
          refine wpList_run (v := .bool false) (wanted_none rfl) (exec_move rfl rfl) ?_
          simp only [Act.put, List.setIfInBounds_toArray, List.set_cons_zero, List.set_cons_succ]
          refine wpList_run (v := strV c1) rfl (exec_move rfl rfl) ?_
          simp only [Act.put, List.setIfInBounds_toArray, List.set_cons_zero, List.set_cons_succ]
          refine wpList_run (v := .bool false) rfl (exec_seqlr rfl rfl rfl (key_ne_nil HC1.out)) ?_
          simp only [Act.put, List.setIfInBounds_toArray, List.set_cons_zero, List.set_cons_succ]
          refine wpList_run (v := .bool false) (wanted_none rfl) (ix_pickF rfl rfl rfl) ?_
          simp only [Act.put, List.setIfInBounds_toArray, List.set_cons_zero, List.set_cons_succ]
          go_upto_region 18 with fail
          refine wp_region_lit ?_
          refine wpList_run (v := .pointer (some ⟨x, 0, none⟩)) (wanted_none rfl) (exec_move rfl rfl) ?_
          simp only [Act.put, List.setIfInBounds_toArray, List.set_cons_zero, List.set_cons_succ]
          refine wpList_run (v := strV a3) (wanted_none rfl) (exec_move rfl rfl) ?_
          simp only [Act.put, List.setIfInBounds_toArray, List.set_cons_zero, List.set_cons_succ]
          refine wpList_run (v := strV c1) (wanted_none rfl) (exec_move rfl rfl) ?_
          simp only [Act.put, List.setIfInBounds_toArray, List.set_cons_zero, List.set_cons_succ]
          refine wpList_op rfl fun K9 HK9 => ?_
          go_wp2_with fail
          refine ((ranged_walk (fr := a3) («to» := c1) (most := -1) HI9.out)).mono ?_
          rintro e w10 ⟨va, rfl, hva, ht10⟩
          refine HK9.out _ _ ?_
          clear HK9
          try simp only [Act.put, List.setIfInBounds_toArray, List.set_cons_zero, List.set_cons_succ]
          rw [cut_neg, rngOf_rng HS.out] at hva
          have HR1 := Lib.hid (RowO.new HI9.out hva)
          have HI10 := Lib.hid (HI9.out.still ht10)
          have HF10 := Lib.hid (HF9.out.still ht10)
          obtain ⟨L1, hL9⟩ : ∃ L, L = l1.filter (inR a3 c1) := ⟨_, rfl⟩
          rw [← hL9] at HR1
          have HLE1 := Lib.hid hL9
          have hl9 : L1.length ≤ 200 := by rw [hL9]; exact Nat.le_trans (List.filter_sublist (l := l1)).length_le HL200.out
          clear hva hL9
          obtain ⟨A1, cc1, e9, _, _, hz9, _⟩ := HR1.out.1.form
          obtain ⟨n1, hn9⟩ : ∃ q, q = (L1).length := ⟨_, rfl⟩
          rw [List.length_map] at e9
          replace e9 := e9.trans (show _ = Value.slice A1 n1 cc1 from by rw [hn9])
          subst e9
          have HN1 := Lib.hid hn9
          have HZ1 := Lib.hid hz9
          clear hn9 hz9
          have yn1 : (n1 : Int) ≤ 200 := by have := HN1.out; omega
          clear hl9
          refine wpList_run (v := .slice A1 n1 cc1) (wanted_none rfl) (gx_assign rfl rfl) ?_
          simp only [Act.put, List.setIfInBounds_toArray, List.set_cons_zero, List.set_cons_succ]
          go_upto_region 19 with fail
          refine wp_region_lit ?_
          refine wpList_run (v := .pointer (some ⟨x, 0, none⟩)) (wanted_none rfl) (exec_move rfl rfl) ?_
          simp only [Act.put, List.setIfInBounds_toArray, List.set_cons_zero, List.set_cons_succ]
          refine wpList_run (v := strV a3) (wanted_none rfl) (exec_move rfl rfl) ?_
          simp only [Act.put, List.setIfInBounds_toArray, List.set_cons_zero, List.set_cons_succ]
          refine wpList_run (v := strV b3) (wanted_none rfl) (exec_move rfl rfl) ?_
          simp only [Act.put, List.setIfInBounds_toArray, List.set_cons_zero, List.set_cons_succ]
          refine wpList_op rfl fun K9 HK9 => ?_
          go_wp2_with fail
          refine ((ranged_walk (fr := a3) («to» := b3) (most := -1) HI10.out)).mono ?_
          rintro e w11 ⟨va, rfl, hva, ht11⟩
          refine HK9.out _ _ ?_
          clear HK9
          try simp only [Act.put, List.setIfInBounds_toArray, List.set_cons_zero, List.set_cons_succ]
          rw [cut_neg, rngOf_rng HS.out] at hva
          have HR2 := Lib.hid (RowO.new HI10.out hva)
          have HI11 := Lib.hid (HI10.out.still ht11)
          have HF11 := Lib.hid (HF10.out.still ht11)
          obtain ⟨L2, hL9⟩ : ∃ L, L = l1.filter (inR a3 b3) := ⟨_, rfl⟩
          rw [← hL9] at HR2
          have HLE2 := Lib.hid hL9
          have hl9 : L2.length ≤ 200 := by rw [hL9]; exact Nat.le_trans (List.filter_sublist (l := l1)).length_le HL200.out
          clear hva hL9
          obtain ⟨A2, cc2, e9, _, _, hz9, _⟩ := HR2.out.1.form
          obtain ⟨n2, hn9⟩ : ∃ q, q = (L2).length := ⟨_, rfl⟩
          rw [List.length_map] at e9
          replace e9 := e9.trans (show _ = Value.slice A2 n2 cc2 from by rw [hn9])
          subst e9
          have HN2 := Lib.hid hn9
          have HZ2 := Lib.hid hz9
          clear hn9 hz9
          have yn2 : (n2 : Int) ≤ 200 := by have := HN2.out; omega
          clear hl9
          refine wpList_run (v := .slice A2 n2 cc2) (wanted_none rfl) (gx_assign rfl rfl) ?_
          simp only [Act.put, List.setIfInBounds_toArray, List.set_cons_zero, List.set_cons_succ]
          have HR1b := Lib.hid (HR1.out.still ht11)
          go_upto_region 20 with fail
          refine wp_region_lit ?_
          refine wpList_run (v := .pointer (some ⟨x, 0, none⟩)) (wanted_none rfl) (exec_move rfl rfl) ?_
          simp only [Act.put, List.setIfInBounds_toArray, List.set_cons_zero, List.set_cons_succ]
          refine wpList_run (v := strV b3) (wanted_none rfl) (exec_move rfl rfl) ?_
          simp only [Act.put, List.setIfInBounds_toArray, List.set_cons_zero, List.set_cons_succ]
          refine wpList_run (v := strV c1) (wanted_none rfl) (exec_move rfl rfl) ?_
          simp only [Act.put, List.setIfInBounds_toArray, List.set_cons_zero, List.set_cons_succ]
          refine wpList_op rfl fun K9 HK9 => ?_
          go_wp2_with fail
          refine ((ranged_walk (fr := b3) («to» := c1) (most := -1) HI11.out)).mono ?_
          rintro e w12 ⟨va, rfl, hva, ht12⟩
          refine HK9.out _ _ ?_
          clear HK9
          try simp only [Act.put, List.setIfInBounds_toArray, List.set_cons_zero, List.set_cons_succ]
          rw [cut_neg, rngOf_rng HS.out] at hva
          have HR3 := Lib.hid (RowO.new HI11.out hva)
          have HI12 := Lib.hid (HI11.out.still ht12)
          have HF12 := Lib.hid (HF11.out.still ht12)
          obtain ⟨L3, hL9⟩ : ∃ L, L = l1.filter (inR b3 c1) := ⟨_, rfl⟩
          rw [← hL9] at HR3
          have HLE3 := Lib.hid hL9
          have hl9 : L3.length ≤ 200 := by rw [hL9]; exact Nat.le_trans (List.filter_sublist (l := l1)).length_le HL200.out
          clear hva hL9
          obtain ⟨A3, cc3, e9, _, _, hz9, _⟩ := HR3.out.1.form
          obtain ⟨n3, hn9⟩ : ∃ q, q = (L3).length := ⟨_, rfl⟩
          rw [List.length_map] at e9
          replace e9 := e9.trans (show _ = Value.slice A3 n3 cc3 from by rw [hn9])
          subst e9
          have HN3 := Lib.hid hn9
          have HZ3 := Lib.hid hz9
          clear hn9 hz9
          have yn3 : (n3 : Int) ≤ 200 := by have := HN3.out; omega
          clear hl9
          refine wpList_run (v := .slice A3 n3 cc3) (wanted_none rfl) (gx_assign rfl rfl) ?_
          simp only [Act.put, List.setIfInBounds_toArray, List.set_cons_zero, List.set_cons_succ]
          have HR1c := Lib.hid (HR1b.out.still ht12)
          have HR2c := Lib.hid (HR2.out.still ht12)
          have HSP := Lib.hid (show L1 = L2 ++ L3 from by rw [HLE1.out, HLE2.out, HLE3.out]; exact rng_split HS.out HA.out.1 HA.out.2 HB3.out HC1.out)
          clear ht10 ht11 ht12
          have hlm : n2 = (L2.map encP).length := by rw [List.length_map]; exact HN2.out
          have hlm3 : n3 = (L3.map encP).length := by rw [List.length_map]; exact HN3.out
          have hr2 : Rws w12 2 A2 n2 (L2.map encP) := HR2c.out.1.rws (by omega) (by decide)
          obtain ⟨A7, c7, w7, hrun, hrow, ht7⟩ := copy_rws elmR (ty := 29) (c := cc2) hr2 HR2c.out.1.1 HZ2.out (by omega)
          have HR3d := HR3.out.still ht7
          have hr3 : Rws w7 2 A3 n3 (L3.map encP) := HR3d.1.rws (by omega) (by decide)
          obtain ⟨A8, c8, w8, hrun8, hrow8, ht8⟩ := orw_more elmR (ty := 29) (W1 := w12) (c := cc3) hrow ht7 hr3 HR3d.1.1 HZ3.out (by rw [← hlm]; omega)
          rw [← hlm] at hrun8 hrow8
          rw [← List.map_append, ← HSP.out] at hrow8
          obtain ⟨n8, hn8⟩ : ∃ q, q = n2 + n3 := ⟨_, rfl⟩
          rw [← hn8] at hrun8 hrow8
          have HRUN := Lib.hid hrun
          have HRUN8 := Lib.hid hrun8
          have HROW8 := Lib.hid hrow8
          have HT8 := Lib.hid ht8
          have HI8 := Lib.hid (HI12.out.still ht8)
          have HF8 := Lib.hid (HF12.out.still ht8)
          have HR1d := Lib.hid (HR1c.out.still ht8)
          clear hlm hlm3 hr2 hrun hrow ht7 HR3d hr3 hrun8 hrow8 ht8 hn8
          go_upto_region 21 with fail
          refine wp_region_lit ?_
          refine wpList_run (v := .slice (some ⟨w12.heap.size, 0, none⟩) 0 0) (w' := w12.alloc (.cells #[] 54)) (wanted_none rfl) (bx_slice0 rfl (build0R _)) ?_
          simp only [Act.put, List.setIfInBounds_toArray, List.set_cons_zero, List.set_cons_succ]
          refine wpList_run (v := .slice A2 n2 cc2) (wanted_none rfl) (exec_move rfl rfl) ?_
          simp only [Act.put, List.setIfInBounds_toArray, List.set_cons_zero, List.set_cons_succ]
          refine wpList_run (v := .slice A7 n2 c7) (w' := w7) (wanted_none rfl) (exec_append rfl rfl rfl HRUN.out) ?_
          simp only [Act.put, List.setIfInBounds_toArray, List.set_cons_zero, List.set_cons_succ]
          refine wpList_run (v := .slice A3 n3 cc3) (wanted_none rfl) (exec_move rfl rfl) ?_
          simp only [Act.put, List.setIfInBounds_toArray, List.set_cons_zero, List.set_cons_succ]
          refine wpList_run (v := .slice A8 n8 c8) (w' := w8) (wanted_none rfl) (exec_append rfl rfl rfl HRUN8.out) ?_
          simp only [Act.put, List.setIfInBounds_toArray, List.set_cons_zero, List.set_cons_succ]
          refine wpList_run (v := .slice A8 n8 c8) (wanted_none rfl) (gx_assign rfl rfl) ?_
          simp only [Act.put, List.setIfInBounds_toArray, List.set_cons_zero, List.set_cons_succ]
          go_upto_region 22 with fail
          refine wp_region_lit ?_
          refine wpList_run (v := .int .i64 0) (wanted_none rfl) (gx_assign rfl rfl) ?_
          simp only [Act.put, List.setIfInBounds_toArray, List.set_cons_zero, List.set_cons_succ]
          go_wp2_with fail
          go_loopg [16] n1 (fun gk iv wr => ∃ (i : Nat), iv = .int .i64 (i : Int) ∧ i + gk = n1 ∧ Turn nowhere w8 wr)
          case atStart => exact ⟨0, rfl, by omega, Turn.refl _ _⟩
          obtain ⟨i4, rfl, hgk, htr⟩ := hrel
          have HGK4 := Lib.hid hgk
          have HTR4 := Lib.hid htr
          have y5 : (i4 : Int) ≤ (n1 : Int) := by omega
          clear hgk htr
          by_cases hlt : i4 < n1
          · have HLT4 := Lib.hid hlt
            have y6 : (i4 : Int) < (n1 : Int) := by omega
            obtain ⟨q, hq⟩ : ∃ q, L1[i4]? = some q := ⟨_, List.getElem?_eq_getElem (by rw [← HN1.out]; exact hlt)⟩
            have HQ4 := Lib.hid hq
            have hq2 := hq
            rw [HLE1.out] at hq2
            obtain ⟨hm1, hm2⟩ := List.mem_filter.1 (List.mem_of_getElem? hq2)
            rw [inR_def HC1.out] at hm2
            have HIN := Lib.hid (show klt q.1 a3 = false ∧ klt q.1 c1 = true from by simpa using hm2)
            obtain ⟨b4, d4, e9, _, _⟩ := HR1d.out.1.some_ (by rw [List.length_map, ← HN1.out]; omega)
            injection e9 with e8 e7 e6
            subst e8
            have HG := Lib.hid (show Calls Try.prog 14 #[.pointer (some ⟨x, 0, none⟩), strV q.1] wr fun e w' => e = .returned (.tuple #[.int .i64 q.2, .bool true]) ∧ Turn nowhere wr w' from by
              have h := Get_walk (k := q.1) (HI8.out.still HTR4.out)
              rw [lget_mem HS.out hm1] at h
              exact h)
            have HR4a := Lib.hid (HR1d.out.still HTR4.out)
            clear e7 e6 hlt hq hq2 hm1 hm2
            go_upto_region 23 with fail
            refine wp_region_lit ?_
            refine wpList_run (v := .int .i64 (i4 : Int)) (wanted_none rfl) (exec_move rfl rfl) ?_
            simp only [Act.put, List.setIfInBounds_toArray, List.set_cons_zero, List.set_cons_succ]
            refine wpList_run (v := .slice (some ⟨b4, 0, none⟩) n1 cc1) (wanted_none rfl) (exec_move rfl rfl) ?_
            simp only [Act.put, List.setIfInBounds_toArray, List.set_cons_zero, List.set_cons_succ]
            refine wpList_run (v := .int .i64 (n1 : Int)) (wanted_none rfl) (gx_len rfl rfl Try.underlying29) ?_
            simp only [Act.put, List.setIfInBounds_toArray, List.set_cons_zero, List.set_cons_succ]
            refine wpList_run (v := .bool true) (wanted_none rfl) (ix_lss rfl rfl rfl (decide_eq_true y6)) ?_
            simp only [Act.put, List.setIfInBounds_toArray, List.set_cons_zero, List.set_cons_succ]
            go_upto_region 25 with fail
            refine wp_region_lit ?_
            refine wpList_run (v := .pointer (some ⟨x, 0, none⟩)) (wanted_none rfl) (exec_move rfl rfl) ?_
            simp only [Act.put, List.setIfInBounds_toArray, List.set_cons_zero, List.set_cons_succ]
            refine wpList_run (v := .slice (some ⟨b4, 0, none⟩) n1 cc1) (wanted_none rfl) (exec_move rfl rfl) ?_
            simp only [Act.put, List.setIfInBounds_toArray, List.set_cons_zero, List.set_cons_succ]
            refine wpList_run (v := .int .i64 (i4 : Int)) (wanted_none rfl) (exec_move rfl rfl) ?_
            simp only [Act.put, List.setIfInBounds_toArray, List.set_cons_zero, List.set_cons_succ]
            refine wpList_run (v := .pointer (some ⟨b4, 0 + i4 * 2, none⟩)) (wanted_none rfl) (gx_iaddr (i := i4) (sz := 2) rfl rfl rfl Try.underlying29 size_ref HLT4.out rfl) ?_
            simp only [Act.put, List.setIfInBounds_toArray, List.set_cons_zero, List.set_cons_succ]
            refine wpList_run (v := .pointer (some ⟨b4, 0 + i4 * 2 + 0, none⟩)) (wanted_none rfl) (exec_field (off := 0 + i4 * 2) (d := 0) rfl rfl (by kernel_rfl)) ?_
            simp only [Act.put, List.setIfInBounds_toArray, List.set_cons_zero, List.set_cons_succ]
            refine wpList_run (v := strV q.1) (wanted_none rfl) (exec_load1 rfl rfl (by kernel_rfl) (HR4a.out.1.el0 (r := encP q) (by rw [List.getElem?_map, HQ4.out]; rfl) 0 _ rfl)) ?_
            simp only [Act.put, List.setIfInBounds_toArray, List.set_cons_zero, List.set_cons_succ]
            refine wpList_op rfl fun K9 HK9 => ?_
            go_wp2_with fail
            refine (HG.out).mono ?_
            rintro e w16 ⟨rfl, ht16⟩
            refine HK9.out _ _ ?_
            clear HK9
            try simp only [Act.put, List.setIfInBounds_toArray, List.set_cons_zero, List.set_cons_succ]
            have HR4k := Lib.hid (HR4a.out.still ht16)
            have HT16 := Lib.hid (HTR4.out.trans ht16 fun _ _ e => e)
            clear ht16 HG
            refine wpList_run (v := .tuple #[.int .i64 q.2, .bool true]) (wanted_none rfl) (exec_move rfl rfl) ?_
            simp only [Act.put, List.setIfInBounds_toArray, List.set_cons_zero, List.set_cons_succ]
            refine wpList_run (v := .int .i64 q.2) (wanted_none rfl) (ix_extract rfl rfl rfl) ?_
            simp only [Act.put, List.setIfInBounds_toArray, List.set_cons_zero, List.set_cons_succ]
            refine wpList_run (v := .bool true) (wanted_none rfl) (ix_extract rfl rfl rfl) ?_
            simp only [Act.put, List.setIfInBounds_toArray, List.set_cons_zero, List.set_cons_succ]
            refine wpList_run (v := .int .i64 q.2) (wanted_none rfl) (gx_assign rfl rfl) ?_
            simp only [Act.put, List.setIfInBounds_toArray, List.set_cons_zero, List.set_cons_succ]
            refine wpList_run (v := .bool true) (wanted_none rfl) (gx_assign rfl rfl) ?_
            simp only [Act.put, List.setIfInBounds_toArray, List.set_cons_zero, List.set_cons_succ]
            by_cases h0 : 0 < i4
            · obtain ⟨j4, rfl⟩ : ∃ j, i4 = j + 1 := ⟨i4 - 1, by omega⟩
              clear h0
              have yj : (0 : Int) ≤ (j4 : Int) := by omega
              have HLTJ := Lib.hid (show j4 < n1 from by have := HLT4.out; omega)
              obtain ⟨p, hp⟩ : ∃ p, L1[j4]? = some p := ⟨_, List.getElem?_eq_getElem (by rw [← HN1.out]; exact HLTJ.out)⟩
              have HPQ := Lib.hid (show klt p.1 q.1 = true from by
                have hsf : Srt L1 := by rw [HLE1.out]; exact List.Pairwise.sublist List.filter_sublist HS.out
                obtain ⟨g1, rfl⟩ := List.getElem?_eq_some_iff.1 hp
                obtain ⟨g2, rfl⟩ := List.getElem?_eq_some_iff.1 HQ4.out
                exact List.pairwise_iff_getElem.1 hsf j4 (j4 + 1) g1 g2 (by omega))
              have HP4 := Lib.hid hp
              clear hp
              go_upto_region 26 with fail
              refine wp_region_alw (fun W => W.cell? ⟨b4, 0 + (j4 + 1) * 2 + 0, none⟩ = some (strV q.1) ∧ W.cell? ⟨b4, 0 + (j4 + 1) * 2 + 1, none⟩ = some (.int .i64 q.2) ∧ W.cell? ⟨b4, 0 + j4 * 2 + 0, none⟩ = some (strV p.1)) (by kernel_rfl) ?_
              have hS0 := And.intro (HR4k.out.1.el0 (r := encP q) (by rw [List.getElem?_map, HQ4.out]; rfl) 0 _ rfl) (And.intro (HR4k.out.1.el0 (r := encP q) (by rw [List.getElem?_map, HQ4.out]; rfl) 1 _ rfl) (HR4k.out.1.el0 (r := encP p) (by rw [List.getElem?_map, HP4.out]; rfl) 0 _ rfl))
              refine alw_take (i := 0) (v := .bool true) rfl (by kernel_rfl) (by kernel_rfl) (fun _ _ _ h => h) (.inl ⟨by rfl, fun W hW => exec_move rfl rfl⟩) hS0 ?_
              simp only [Act.put, List.setIfInBounds_toArray, List.set_cons_zero, List.set_cons_succ]
              refine alw_take (i := 1) (v := .bool false) rfl (by kernel_rfl) (by kernel_rfl) (fun _ _ _ h => h) (.inl ⟨by rfl, fun W hW => ix_not (b := true) rfl rfl⟩) hS0 ?_
              simp only [Act.put, List.setIfInBounds_toArray, List.set_cons_zero, List.set_cons_succ]
              refine alw_take (i := 2) (v := .bool false) rfl (by kernel_rfl) (by kernel_rfl) (fun _ _ _ h => h) (.inl ⟨by rfl, fun W hW => exec_move rfl rfl⟩) hS0 ?_
              simp only [Act.put, List.setIfInBounds_toArray, List.set_cons_zero, List.set_cons_succ]
              refine alw_take (i := 3) (v := .int .i64 q.2) rfl (by kernel_rfl) (by kernel_rfl) (fun _ _ _ h => h) (.inl ⟨by rfl, fun W hW => exec_move rfl rfl⟩) hS0 ?_
              simp only [Act.put, List.setIfInBounds_toArray, List.set_cons_zero, List.set_cons_succ]
              refine alw_take (i := 4) (v := .slice (some ⟨b4, 0, none⟩) n1 cc1) rfl (by kernel_rfl) (by kernel_rfl) (fun _ _ _ h => h) (.inl ⟨by rfl, fun W hW => exec_move rfl rfl⟩) hS0 ?_
              simp only [Act.put, List.setIfInBounds_toArray, List.set_cons_zero, List.set_cons_succ]
              refine alw_take (i := 5) (v := .int .i64 ((j4 + 1) : Int)) rfl (by kernel_rfl) (by kernel_rfl) (fun _ _ _ h => h) (.inl ⟨by rfl, fun W hW => exec_move rfl rfl⟩) hS0 ?_
              simp only [Act.put, List.setIfInBounds_toArray, List.set_cons_zero, List.set_cons_succ]
              refine alw_take (i := 6) (v := .pointer (some ⟨b4, 0 + (j4 + 1) * 2, none⟩)) rfl (by kernel_rfl) (by kernel_rfl) (fun _ _ _ h => h) (.inl ⟨by rfl, fun W hW => gx_iaddr (i := (j4 + 1)) (sz := 2) rfl rfl rfl Try.underlying29 size_ref HLT4.out rfl⟩) hS0 ?_
              simp only [Act.put, List.setIfInBounds_toArray, List.set_cons_zero, List.set_cons_succ]
              refine alw_take (i := 7) (v := .pointer (some ⟨b4, 0 + (j4 + 1) * 2 + 1, none⟩)) rfl (by kernel_rfl) (by kernel_rfl) (fun _ _ _ h => h) (.inl ⟨by rfl, fun W hW => exec_field (off := 0 + (j4 + 1) * 2) (d := 1) rfl rfl (by kernel_rfl)⟩) hS0 ?_
              simp only [Act.put, List.setIfInBounds_toArray, List.set_cons_zero, List.set_cons_succ]
              refine alw_take (i := 8) (v := .int .i64 q.2) rfl (by kernel_rfl) (by kernel_rfl) (fun _ _ _ h => h) (.inl ⟨by rfl, fun W hW => exec_load1 rfl rfl (by kernel_rfl) hW.2.1⟩) hS0 ?_
              simp only [Act.put, List.setIfInBounds_toArray, List.set_cons_zero, List.set_cons_succ]
              refine alw_take (i := 9) (v := .bool false) rfl (by kernel_rfl) (by kernel_rfl) (fun _ _ _ h => h) (.inl ⟨by rfl, fun W hW => ix_neq rfl rfl rfl (decide_eq_false (fun e => e rfl))⟩) hS0 ?_
              simp only [Act.put, List.setIfInBounds_toArray, List.set_cons_zero, List.set_cons_succ]
              refine alw_take (i := 10) (v := .bool false) rfl (by kernel_rfl) (by kernel_rfl) (fun _ _ _ h => h) (.inl ⟨by rfl, fun W hW => ix_pickF rfl rfl rfl⟩) hS0 ?_
              simp only [Act.put, List.setIfInBounds_toArray, List.set_cons_zero, List.set_cons_succ]
              refine alw_take (i := 11) (v := .bool false) rfl (by kernel_rfl) (by kernel_rfl) (fun _ _ _ h => h) (.inl ⟨by rfl, fun W hW => exec_move rfl rfl⟩) hS0 ?_
              simp only [Act.put, List.setIfInBounds_toArray, List.set_cons_zero, List.set_cons_succ]
              refine alw_take (i := 12) (v := .slice (some ⟨b4, 0, none⟩) n1 cc1) rfl (by kernel_rfl) (by kernel_rfl) (fun _ _ _ h => h) (.inl ⟨by rfl, fun W hW => exec_move rfl rfl⟩) hS0 ?_
              simp only [Act.put, List.setIfInBounds_toArray, List.set_cons_zero, List.set_cons_succ]
              refine alw_take (i := 13) (v := .int .i64 ((j4 + 1) : Int)) rfl (by kernel_rfl) (by kernel_rfl) (fun _ _ _ h => h) (.inl ⟨by rfl, fun W hW => exec_move rfl rfl⟩) hS0 ?_
              simp only [Act.put, List.setIfInBounds_toArray, List.set_cons_zero, List.set_cons_succ]
              refine alw_take (i := 14) (v := .pointer (some ⟨b4, 0 + (j4 + 1) * 2, none⟩)) rfl (by kernel_rfl) (by kernel_rfl) (fun _ _ _ h => h) (.inl ⟨by rfl, fun W hW => gx_iaddr (i := (j4 + 1)) (sz := 2) rfl rfl rfl Try.underlying29 size_ref HLT4.out rfl⟩) hS0 ?_
              simp only [Act.put, List.setIfInBounds_toArray, List.set_cons_zero, List.set_cons_succ]
              refine alw_take (i := 15) (v := .pointer (some ⟨b4, 0 + (j4 + 1) * 2 + 0, none⟩)) rfl (by kernel_rfl) (by kernel_rfl) (fun _ _ _ h => h) (.inl ⟨by rfl, fun W hW => exec_field (off := 0 + (j4 + 1) * 2) (d := 0) rfl rfl (by kernel_rfl)⟩) hS0 ?_
              simp only [Act.put, List.setIfInBounds_toArray, List.set_cons_zero, List.set_cons_succ]
              refine alw_take (i := 16) (v := strV q.1) rfl (by kernel_rfl) (by kernel_rfl) (fun _ _ _ h => h) (.inl ⟨by rfl, fun W hW => exec_load1 rfl rfl (by kernel_rfl) hW.1⟩) hS0 ?_
              simp only [Act.put, List.setIfInBounds_toArray, List.set_cons_zero, List.set_cons_succ]
              refine alw_take (i := 17) (v := strV a3) rfl (by kernel_rfl) (by kernel_rfl) (fun _ _ _ h => h) (.inl ⟨by rfl, fun W hW => exec_move rfl rfl⟩) hS0 ?_
              simp only [Act.put, List.setIfInBounds_toArray, List.set_cons_zero, List.set_cons_succ]
              refine alw_take (i := 18) (v := .bool false) rfl (by kernel_rfl) (by kernel_rfl) (fun _ _ _ h => h) (.inl ⟨by rfl, fun W hW => exec_slss rfl rfl rfl HIN.out.1⟩) hS0 ?_
              simp only [Act.put, List.setIfInBounds_toArray, List.set_cons_zero, List.set_cons_succ]
              refine alw_take (i := 19) (v := .bool false) rfl (by kernel_rfl) (by kernel_rfl) (fun _ _ _ h => h) (.inl ⟨by rfl, fun W hW => ix_pickF rfl rfl rfl⟩) hS0 ?_
              simp only [Act.put, List.setIfInBounds_toArray, List.set_cons_zero, List.set_cons_succ]
              refine alw_take (i := 20) (v := .bool false) rfl (by kernel_rfl) (by kernel_rfl) (fun _ _ _ h => h) (.inl ⟨by rfl, fun W hW => exec_move rfl rfl⟩) hS0 ?_
              simp only [Act.put, List.setIfInBounds_toArray, List.set_cons_zero, List.set_cons_succ]
              refine alw_take (i := 21) (v := .slice (some ⟨b4, 0, none⟩) n1 cc1) rfl (by kernel_rfl) (by kernel_rfl) (fun _ _ _ h => h) (.inl ⟨by rfl, fun W hW => exec_move rfl rfl⟩) hS0 ?_
              simp only [Act.put, List.setIfInBounds_toArray, List.set_cons_zero, List.set_cons_succ]
              refine alw_take (i := 22) (v := .int .i64 ((j4 + 1) : Int)) rfl (by kernel_rfl) (by kernel_rfl) (fun _ _ _ h => h) (.inl ⟨by rfl, fun W hW => exec_move rfl rfl⟩) hS0 ?_
              simp only [Act.put, List.setIfInBounds_toArray, List.set_cons_zero, List.set_cons_succ]
              refine alw_take (i := 23) (v := .pointer (some ⟨b4, 0 + (j4 + 1) * 2, none⟩)) rfl (by kernel_rfl) (by kernel_rfl) (fun _ _ _ h => h) (.inl ⟨by rfl, fun W hW => gx_iaddr (i := (j4 + 1)) (sz := 2) rfl rfl rfl Try.underlying29 size_ref HLT4.out rfl⟩) hS0 ?_
              simp only [Act.put, List.setIfInBounds_toArray, List.set_cons_zero, List.set_cons_succ]
              refine alw_take (i := 24) (v := .pointer (some ⟨b4, 0 + (j4 + 1) * 2 + 0, none⟩)) rfl (by kernel_rfl) (by kernel_rfl) (fun _ _ _ h => h) (.inl ⟨by rfl, fun W hW => exec_field (off := 0 + (j4 + 1) * 2) (d := 0) rfl rfl (by kernel_rfl)⟩) hS0 ?_
              simp only [Act.put, List.setIfInBounds_toArray, List.set_cons_zero, List.set_cons_succ]
              refine alw_take (i := 25) (v := strV q.1) rfl (by kernel_rfl) (by kernel_rfl) (fun _ _ _ h => h) (.inl ⟨by rfl, fun W hW => exec_load1 rfl rfl (by kernel_rfl) hW.1⟩) hS0 ?_
              simp only [Act.put, List.setIfInBounds_toArray, List.set_cons_zero, List.set_cons_succ]
              refine alw_take (i := 26) (v := strV c1) rfl (by kernel_rfl) (by kernel_rfl) (fun _ _ _ h => h) (.inl ⟨by rfl, fun W hW => exec_move rfl rfl⟩) hS0 ?_
              simp only [Act.put, List.setIfInBounds_toArray, List.set_cons_zero, List.set_cons_succ]
              refine alw_take (i := 27) (v := .bool false) rfl (by kernel_rfl) (by kernel_rfl) (fun _ _ _ h => h) (.inl ⟨by rfl, fun W hW => exec_sgeq rfl rfl rfl (by rw [HIN.out.2]; rfl)⟩) hS0 ?_
              simp only [Act.put, List.setIfInBounds_toArray, List.set_cons_zero, List.set_cons_succ]
              refine alw_take (i := 28) (v := .bool false) rfl (by kernel_rfl) (by kernel_rfl) (fun _ _ _ h => h) (.inl ⟨by rfl, fun W hW => ix_pickF rfl rfl rfl⟩) hS0 ?_
              simp only [Act.put, List.setIfInBounds_toArray, List.set_cons_zero, List.set_cons_succ]
              refine alw_take (i := 29) (v := .bool false) rfl (by kernel_rfl) (by kernel_rfl) (fun _ _ _ h => h) (.inl ⟨by rfl, fun W hW => exec_move rfl rfl⟩) hS0 ?_
              simp only [Act.put, List.setIfInBounds_toArray, List.set_cons_zero, List.set_cons_succ]
              refine alw_take (i := 30) (v := .int .i64 ((j4 + 1) : Int)) rfl (by kernel_rfl) (by kernel_rfl) (fun _ _ _ h => h) (.inl ⟨by rfl, fun W hW => exec_move rfl rfl⟩) hS0 ?_
              simp only [Act.put, List.setIfInBounds_toArray, List.set_cons_zero, List.set_cons_succ]
              refine alw_take (i := 31) (v := .bool true) rfl (by kernel_rfl) (by kernel_rfl) (fun _ _ _ h => h) (.inl ⟨by rfl, fun W hW => ix_gtr rfl rfl rfl (decide_eq_true (by omega))⟩) hS0 ?_
              simp only [Act.put, List.setIfInBounds_toArray, List.set_cons_zero, List.set_cons_succ]
              refine alw_take (i := 32) (v := .bool true) rfl (by kernel_rfl) (by kernel_rfl) (fun _ _ _ h => h) (.inl ⟨by rfl, fun W hW => exec_move rfl rfl⟩) hS0 ?_
              simp only [Act.put, List.setIfInBounds_toArray, List.set_cons_zero, List.set_cons_succ]
              refine alw_take (i := 33) (v := .slice (some ⟨b4, 0, none⟩) n1 cc1) rfl (by kernel_rfl) (by kernel_rfl) (fun _ _ _ h => h) (.inl ⟨by rfl, fun W hW => exec_move rfl rfl⟩) hS0 ?_
              simp only [Act.put, List.setIfInBounds_toArray, List.set_cons_zero, List.set_cons_succ]
              refine alw_take (i := 34) (v := .int .i64 ((j4 + 1) : Int)) rfl (by kernel_rfl) (by kernel_rfl) (fun _ _ _ h => h) (.inl ⟨by rfl, fun W hW => exec_move rfl rfl⟩) hS0 ?_
              simp only [Act.put, List.setIfInBounds_toArray, List.set_cons_zero, List.set_cons_succ]
              refine alw_take (i := 35) (v := .pointer (some ⟨b4, 0 + (j4 + 1) * 2, none⟩)) rfl (by kernel_rfl) (by kernel_rfl) (fun _ _ _ h => h) (.inl ⟨by rfl, fun W hW => gx_iaddr (i := (j4 + 1)) (sz := 2) rfl rfl rfl Try.underlying29 size_ref HLT4.out rfl⟩) hS0 ?_
              simp only [Act.put, List.setIfInBounds_toArray, List.set_cons_zero, List.set_cons_succ]
              refine alw_take (i := 36) (v := .pointer (some ⟨b4, 0 + (j4 + 1) * 2 + 0, none⟩)) rfl (by kernel_rfl) (by kernel_rfl) (fun _ _ _ h => h) (.inl ⟨by rfl, fun W hW => exec_field (off := 0 + (j4 + 1) * 2) (d := 0) rfl rfl (by kernel_rfl)⟩) hS0 ?_
              simp only [Act.put, List.setIfInBounds_toArray, List.set_cons_zero, List.set_cons_succ]
              refine alw_take (i := 37) (v := strV q.1) rfl (by kernel_rfl) (by kernel_rfl) (fun _ _ _ h => h) (.inl ⟨by rfl, fun W hW => exec_load1 rfl rfl (by kernel_rfl) hW.1⟩) hS0 ?_
              simp only [Act.put, List.setIfInBounds_toArray, List.set_cons_zero, List.set_cons_succ]
              refine alw_take (i := 38) (v := .slice (some ⟨b4, 0, none⟩) n1 cc1) rfl (by kernel_rfl) (by kernel_rfl) (fun _ _ _ h => h) (.inl ⟨by rfl, fun W hW => exec_move rfl rfl⟩) hS0 ?_
              simp only [Act.put, List.setIfInBounds_toArray, List.set_cons_zero, List.set_cons_succ]
              refine alw_take (i := 39) (v := .int .i64 ((j4 + 1) : Int)) rfl (by kernel_rfl) (by kernel_rfl) (fun _ _ _ h => h) (.inl ⟨by rfl, fun W hW => exec_move rfl rfl⟩) hS0 ?_
              simp only [Act.put, List.setIfInBounds_toArray, List.set_cons_zero, List.set_cons_succ]
              refine alw_take (i := 40) (v := .int .i64 (j4 : Int)) rfl (by kernel_rfl) (by kernel_rfl) (fun _ _ _ h => h) (.inl ⟨by rfl, fun W hW => ix_sub rfl rfl rfl (by omega) (by omega)⟩) hS0 ?_
              simp only [Act.put, List.setIfInBounds_toArray, List.set_cons_zero, List.set_cons_succ]
              refine alw_take (i := 41) (v := .pointer (some ⟨b4, 0 + j4 * 2, none⟩)) rfl (by kernel_rfl) (by kernel_rfl) (fun _ _ _ h => h) (.inl ⟨by rfl, fun W hW => gx_iaddr (i := j4) (sz := 2) rfl rfl rfl Try.underlying29 size_ref HLTJ.out rfl⟩) hS0 ?_
              simp only [Act.put, List.setIfInBounds_toArray, List.set_cons_zero, List.set_cons_succ]
              refine alw_take (i := 42) (v := .pointer (some ⟨b4, 0 + j4 * 2 + 0, none⟩)) rfl (by kernel_rfl) (by kernel_rfl) (fun _ _ _ h => h) (.inl ⟨by rfl, fun W hW => exec_field (off := 0 + j4 * 2) (d := 0) rfl rfl (by kernel_rfl)⟩) hS0 ?_
              simp only [Act.put, List.setIfInBounds_toArray, List.set_cons_zero, List.set_cons_succ]
              refine alw_take (i := 43) (v := strV p.1) rfl (by kernel_rfl) (by kernel_rfl) (fun _ _ _ h => h) (.inl ⟨by rfl, fun W hW => exec_load1 rfl rfl (by kernel_rfl) hW.2.2⟩) hS0 ?_
              simp only [Act.put, List.setIfInBounds_toArray, List.set_cons_zero, List.set_cons_succ]
              refine alw_take (i := 44) (v := .bool false) rfl (by kernel_rfl) (by kernel_rfl) (fun _ _ _ h => h) (.inl ⟨by rfl, fun W hW => exec_sleq rfl rfl rfl (by rw [HPQ.out]; rfl)⟩) hS0 ?_
              simp only [Act.put, List.setIfInBounds_toArray, List.set_cons_zero, List.set_cons_succ]
              refine alw_take (i := 45) (v := .bool false) rfl (by kernel_rfl) (by kernel_rfl) (fun _ _ _ h => h) (.inl ⟨by rfl, fun W hW => ix_pickT rfl rfl rfl⟩) hS0 ?_
              simp only [Act.put, List.setIfInBounds_toArray, List.set_cons_zero, List.set_cons_succ]
              refine alw_take (i := 46) (v := .bool false) rfl (by kernel_rfl) (by kernel_rfl) (fun _ _ _ h => h) (.inl ⟨by rfl, fun W hW => ix_pickF rfl rfl rfl⟩) hS0 ?_
              simp only [Act.put, List.setIfInBounds_toArray, List.set_cons_zero, List.set_cons_succ]
              refine alw_done rfl ?_
              refine NoPanic.normal ?_
              clear hS0
              try simp only [Act.put, List.setIfInBounds_toArray, List.set_cons_zero, List.set_cons_succ]
              have HT16d := Lib.hid (HT16.out.drew)
              go_upto_region 24 with fail
              refine wp_region_lit ?_
              refine wpList_run (v := .int .i64 ((j4 + 1) : Int)) (wanted_none rfl) (exec_move rfl rfl) ?_
              simp only [Act.put, List.setIfInBounds_toArray, List.set_cons_zero, List.set_cons_succ]
              refine wpList_run (v := .int .i64 (((j4 + 1) + 1 : Nat) : Int)) (wanted_none rfl) (ix_add rfl rfl rfl (by omega) (by omega)) ?_
              simp only [Act.put, List.setIfInBounds_toArray, List.set_cons_zero, List.set_cons_succ]
              refine wpList_run (v := .int .i64 (((j4 + 1) + 1 : Nat) : Int)) (wanted_none rfl) (gx_assign rfl rfl) ?_
              simp only [Act.put, List.setIfInBounds_toArray, List.set_cons_zero, List.set_cons_succ]
              go_wp2_with fail
              go_roundg (n1 - ((j4 + 1) + 1))
              case measure => have := HGK4.out; have := HLT4.out; omega
              case rel => exact ⟨(j4 + 1) + 1, rfl, by have := HLT4.out; omega, HT16d.out⟩
            · obtain rfl : i4 = 0 := by omega
              clear h0
              go_upto_region 26 with fail
              refine wp_region_alw (fun W => W.cell? ⟨b4, 0 + 0 * 2 + 0, none⟩ = some (strV q.1) ∧ W.cell? ⟨b4, 0 + 0 * 2 + 1, none⟩ = some (.int .i64 q.2)) (by kernel_rfl) ?_
              have hS0 := And.intro (HR4k.out.1.el0 (r := encP q) (by rw [List.getElem?_map, HQ4.out]; rfl) 0 _ rfl) (HR4k.out.1.el0 (r := encP q) (by rw [List.getElem?_map, HQ4.out]; rfl) 1 _ rfl)
              refine alw_take (i := 0) (v := .bool true) rfl (by kernel_rfl) (by kernel_rfl) (fun _ _ _ h => h) (.inl ⟨by rfl, fun W hW => exec_move rfl rfl⟩) hS0 ?_
              simp only [Act.put, List.setIfInBounds_toArray, List.set_cons_zero, List.set_cons_succ]
              refine alw_take (i := 1) (v := .bool false) rfl (by kernel_rfl) (by kernel_rfl) (fun _ _ _ h => h) (.inl ⟨by rfl, fun W hW => ix_not (b := true) rfl rfl⟩) hS0 ?_
              simp only [Act.put, List.setIfInBounds_toArray, List.set_cons_zero, List.set_cons_succ]
              refine alw_take (i := 2) (v := .bool false) rfl (by kernel_rfl) (by kernel_rfl) (fun _ _ _ h => h) (.inl ⟨by rfl, fun W hW => exec_move rfl rfl⟩) hS0 ?_
              simp only [Act.put, List.setIfInBounds_toArray, List.set_cons_zero, List.set_cons_succ]
              refine alw_take (i := 3) (v := .int .i64 q.2) rfl (by kernel_rfl) (by kernel_rfl) (fun _ _ _ h => h) (.inl ⟨by rfl, fun W hW => exec_move rfl rfl⟩) hS0 ?_
              simp only [Act.put, List.setIfInBounds_toArray, List.set_cons_zero, List.set_cons_succ]
              refine alw_take (i := 4) (v := .slice (some ⟨b4, 0, none⟩) n1 cc1) rfl (by kernel_rfl) (by kernel_rfl) (fun _ _ _ h => h) (.inl ⟨by rfl, fun W hW => exec_move rfl rfl⟩) hS0 ?_
              simp only [Act.put, List.setIfInBounds_toArray, List.set_cons_zero, List.set_cons_succ]
              refine alw_take (i := 5) (v := .int .i64 ((0 : Nat) : Int)) rfl (by kernel_rfl) (by kernel_rfl) (fun _ _ _ h => h) (.inl ⟨by rfl, fun W hW => exec_move rfl rfl⟩) hS0 ?_
              simp only [Act.put, List.setIfInBounds_toArray, List.set_cons_zero, List.set_cons_succ]
              refine alw_take (i := 6) (v := .pointer (some ⟨b4, 0 + 0 * 2, none⟩)) rfl (by kernel_rfl) (by kernel_rfl) (fun _ _ _ h => h) (.inl ⟨by rfl, fun W hW => gx_iaddr (i := 0) (sz := 2) rfl rfl rfl Try.underlying29 size_ref HLT4.out rfl⟩) hS0 ?_
              simp only [Act.put, List.setIfInBounds_toArray, List.set_cons_zero, List.set_cons_succ]
              refine alw_take (i := 7) (v := .pointer (some ⟨b4, 0 + 0 * 2 + 1, none⟩)) rfl (by kernel_rfl) (by kernel_rfl) (fun _ _ _ h => h) (.inl ⟨by rfl, fun W hW => exec_field (off := 0 + 0 * 2) (d := 1) rfl rfl (by kernel_rfl)⟩) hS0 ?_
              simp only [Act.put, List.setIfInBounds_toArray, List.set_cons_zero, List.set_cons_succ]
              refine alw_take (i := 8) (v := .int .i64 q.2) rfl (by kernel_rfl) (by kernel_rfl) (fun _ _ _ h => h) (.inl ⟨by rfl, fun W hW => exec_load1 rfl rfl (by kernel_rfl) hW.2⟩) hS0 ?_
              simp only [Act.put, List.setIfInBounds_toArray, List.set_cons_zero, List.set_cons_succ]
              refine alw_take (i := 9) (v := .bool false) rfl (by kernel_rfl) (by kernel_rfl) (fun _ _ _ h => h) (.inl ⟨by rfl, fun W hW => ix_neq rfl rfl rfl (decide_eq_false (fun e => e rfl))⟩) hS0 ?_
              simp only [Act.put, List.setIfInBounds_toArray, List.set_cons_zero, List.set_cons_succ]
              refine alw_take (i := 10) (v := .bool false) rfl (by kernel_rfl) (by kernel_rfl) (fun _ _ _ h => h) (.inl ⟨by rfl, fun W hW => ix_pickF rfl rfl rfl⟩) hS0 ?_
              simp only [Act.put, List.setIfInBounds_toArray, List.set_cons_zero, List.set_cons_succ]
              refine alw_take (i := 11) (v := .bool false) rfl (by kernel_rfl) (by kernel_rfl) (fun _ _ _ h => h) (.inl ⟨by rfl, fun W hW => exec_move rfl rfl⟩) hS0 ?_
              simp only [Act.put, List.setIfInBounds_toArray, List.set_cons_zero, List.set_cons_succ]
              refine alw_take (i := 12) (v := .slice (some ⟨b4, 0, none⟩) n1 cc1) rfl (by kernel_rfl) (by kernel_rfl) (fun _ _ _ h => h) (.inl ⟨by rfl, fun W hW => exec_move rfl rfl⟩) hS0 ?_
              simp only [Act.put, List.setIfInBounds_toArray, List.set_cons_zero, List.set_cons_succ]
              refine alw_take (i := 13) (v := .int .i64 ((0 : Nat) : Int)) rfl (by kernel_rfl) (by kernel_rfl) (fun _ _ _ h => h) (.inl ⟨by rfl, fun W hW => exec_move rfl rfl⟩) hS0 ?_
              simp only [Act.put, List.setIfInBounds_toArray, List.set_cons_zero, List.set_cons_succ]
              refine alw_take (i := 14) (v := .pointer (some ⟨b4, 0 + 0 * 2, none⟩)) rfl (by kernel_rfl) (by kernel_rfl) (fun _ _ _ h => h) (.inl ⟨by rfl, fun W hW => gx_iaddr (i := 0) (sz := 2) rfl rfl rfl Try.underlying29 size_ref HLT4.out rfl⟩) hS0 ?_
              simp only [Act.put, List.setIfInBounds_toArray, List.set_cons_zero, List.set_cons_succ]
              refine alw_take (i := 15) (v := .pointer (some ⟨b4, 0 + 0 * 2 + 0, none⟩)) rfl (by kernel_rfl) (by kernel_rfl) (fun _ _ _ h => h) (.inl ⟨by rfl, fun W hW => exec_field (off := 0 + 0 * 2) (d := 0) rfl rfl (by kernel_rfl)⟩) hS0 ?_
              simp only [Act.put, List.setIfInBounds_toArray, List.set_cons_zero, List.set_cons_succ]
              refine alw_take (i := 16) (v := strV q.1) rfl (by kernel_rfl) (by kernel_rfl) (fun _ _ _ h => h) (.inl ⟨by rfl, fun W hW => exec_load1 rfl rfl (by kernel_rfl) hW.1⟩) hS0 ?_
              simp only [Act.put, List.setIfInBounds_toArray, List.set_cons_zero, List.set_cons_succ]
              refine alw_take (i := 17) (v := strV a3) rfl (by kernel_rfl) (by kernel_rfl) (fun _ _ _ h => h) (.inl ⟨by rfl, fun W hW => exec_move rfl rfl⟩) hS0 ?_
              simp only [Act.put, List.setIfInBounds_toArray, List.set_cons_zero, List.set_cons_succ]
              refine alw_take (i := 18) (v := .bool false) rfl (by kernel_rfl) (by kernel_rfl) (fun _ _ _ h => h) (.inl ⟨by rfl, fun W hW => exec_slss rfl rfl rfl HIN.out.1⟩) hS0 ?_
              simp only [Act.put, List.setIfInBounds_toArray, List.set_cons_zero, List.set_cons_succ]
              refine alw_take (i := 19) (v := .bool false) rfl (by kernel_rfl) (by kernel_rfl) (fun _ _ _ h => h) (.inl ⟨by rfl, fun W hW => ix_pickF rfl rfl rfl⟩) hS0 ?_
              simp only [Act.put, List.setIfInBounds_toArray, List.set_cons_zero, List.set_cons_succ]
              refine alw_take (i := 20) (v := .bool false) rfl (by kernel_rfl) (by kernel_rfl) (fun _ _ _ h => h) (.inl ⟨by rfl, fun W hW => exec_move rfl rfl⟩) hS0 ?_
              simp only [Act.put, List.setIfInBounds_toArray, List.set_cons_zero, List.set_cons_succ]
              refine alw_take (i := 21) (v := .slice (some ⟨b4, 0, none⟩) n1 cc1) rfl (by kernel_rfl) (by kernel_rfl) (fun _ _ _ h => h) (.inl ⟨by rfl, fun W hW => exec_move rfl rfl⟩) hS0 ?_
              simp only [Act.put, List.setIfInBounds_toArray, List.set_cons_zero, List.set_cons_succ]
              refine alw_take (i := 22) (v := .int .i64 ((0 : Nat) : Int)) rfl (by kernel_rfl) (by kernel_rfl) (fun _ _ _ h => h) (.inl ⟨by rfl, fun W hW => exec_move rfl rfl⟩) hS0 ?_
              simp only [Act.put, List.setIfInBounds_toArray, List.set_cons_zero, List.set_cons_succ]
              refine alw_take (i := 23) (v := .pointer (some ⟨b4, 0 + 0 * 2, none⟩)) rfl (by kernel_rfl) (by kernel_rfl) (fun _ _ _ h => h) (.inl ⟨by rfl, fun W hW => gx_iaddr (i := 0) (sz := 2) rfl rfl rfl Try.underlying29 size_ref HLT4.out rfl⟩) hS0 ?_
              simp only [Act.put, List.setIfInBounds_toArray, List.set_cons_zero, List.set_cons_succ]
              refine alw_take (i := 24) (v := .pointer (some ⟨b4, 0 + 0 * 2 + 0, none⟩)) rfl (by kernel_rfl) (by kernel_rfl) (fun _ _ _ h => h) (.inl ⟨by rfl, fun W hW => exec_field (off := 0 + 0 * 2) (d := 0) rfl rfl (by kernel_rfl)⟩) hS0 ?_
              simp only [Act.put, List.setIfInBounds_toArray, List.set_cons_zero, List.set_cons_succ]
              refine alw_take (i := 25) (v := strV q.1) rfl (by kernel_rfl) (by kernel_rfl) (fun _ _ _ h => h) (.inl ⟨by rfl, fun W hW => exec_load1 rfl rfl (by kernel_rfl) hW.1⟩) hS0 ?_
              simp only [Act.put, List.setIfInBounds_toArray, List.set_cons_zero, List.set_cons_succ]
              refine alw_take (i := 26) (v := strV c1) rfl (by kernel_rfl) (by kernel_rfl) (fun _ _ _ h => h) (.inl ⟨by rfl, fun W hW => exec_move rfl rfl⟩) hS0 ?_
              simp only [Act.put, List.setIfInBounds_toArray, List.set_cons_zero, List.set_cons_succ]
              refine alw_take (i := 27) (v := .bool false) rfl (by kernel_rfl) (by kernel_rfl) (fun _ _ _ h => h) (.inl ⟨by rfl, fun W hW => exec_sgeq rfl rfl rfl (by rw [HIN.out.2]; rfl)⟩) hS0 ?_
              simp only [Act.put, List.setIfInBounds_toArray, List.set_cons_zero, List.set_cons_succ]
              refine alw_take (i := 28) (v := .bool false) rfl (by kernel_rfl) (by kernel_rfl) (fun _ _ _ h => h) (.inl ⟨by rfl, fun W hW => ix_pickF rfl rfl rfl⟩) hS0 ?_
              simp only [Act.put, List.setIfInBounds_toArray, List.set_cons_zero, List.set_cons_succ]
              refine alw_take (i := 29) (v := .bool false) rfl (by kernel_rfl) (by kernel_rfl) (fun _ _ _ h => h) (.inl ⟨by rfl, fun W hW => exec_move rfl rfl⟩) hS0 ?_
              simp only [Act.put, List.setIfInBounds_toArray, List.set_cons_zero, List.set_cons_succ]
              refine alw_take (i := 30) (v := .int .i64 ((0 : Nat) : Int)) rfl (by kernel_rfl) (by kernel_rfl) (fun _ _ _ h => h) (.inl ⟨by rfl, fun W hW => exec_move rfl rfl⟩) hS0 ?_
              simp only [Act.put, List.setIfInBounds_toArray, List.set_cons_zero, List.set_cons_succ]
              refine alw_take (i := 31) (v := .bool false) rfl (by kernel_rfl) (by kernel_rfl) (fun _ _ _ h => h) (.inl ⟨by rfl, fun W hW => ix_gtr rfl rfl rfl (by decide)⟩) hS0 ?_
              simp only [Act.put, List.setIfInBounds_toArray, List.set_cons_zero, List.set_cons_succ]
              refine alw_take (i := 32) (v := .bool false) rfl (by kernel_rfl) (by kernel_rfl) (fun _ _ _ h => h) (.inl ⟨by rfl, fun W hW => exec_move rfl rfl⟩) hS0 ?_
              simp only [Act.put, List.setIfInBounds_toArray, List.set_cons_zero, List.set_cons_succ]
              refine alw_take (i := 33) (v := undef) rfl (by kernel_rfl) (by kernel_rfl) (fun _ _ _ h => h) (.inr ⟨by rfl, rfl⟩) hS0 ?_
              simp only [Act.put, List.setIfInBounds_toArray, List.set_cons_zero, List.set_cons_succ]
              refine alw_take (i := 34) (v := undef) rfl (by kernel_rfl) (by kernel_rfl) (fun _ _ _ h => h) (.inr ⟨by rfl, rfl⟩) hS0 ?_
              simp only [Act.put, List.setIfInBounds_toArray, List.set_cons_zero, List.set_cons_succ]
              refine alw_take (i := 35) (v := undef) rfl (by kernel_rfl) (by kernel_rfl) (fun _ _ _ h => h) (.inr ⟨by rfl, rfl⟩) hS0 ?_
              simp only [Act.put, List.setIfInBounds_toArray, List.set_cons_zero, List.set_cons_succ]
              refine alw_take (i := 36) (v := undef) rfl (by kernel_rfl) (by kernel_rfl) (fun _ _ _ h => h) (.inr ⟨by rfl, rfl⟩) hS0 ?_
              simp only [Act.put, List.setIfInBounds_toArray, List.set_cons_zero, List.set_cons_succ]
              refine alw_take (i := 37) (v := undef) rfl (by kernel_rfl) (by kernel_rfl) (fun _ _ _ h => h) (.inr ⟨by rfl, rfl⟩) hS0 ?_
              simp only [Act.put, List.setIfInBounds_toArray, List.set_cons_zero, List.set_cons_succ]
              refine alw_take (i := 38) (v := undef) rfl (by kernel_rfl) (by kernel_rfl) (fun _ _ _ h => h) (.inr ⟨by rfl, rfl⟩) hS0 ?_
              simp only [Act.put, List.setIfInBounds_toArray, List.set_cons_zero, List.set_cons_succ]
              refine alw_take (i := 39) (v := undef) rfl (by kernel_rfl) (by kernel_rfl) (fun _ _ _ h => h) (.inr ⟨by rfl, rfl⟩) hS0 ?_
              simp only [Act.put, List.setIfInBounds_toArray, List.set_cons_zero, List.set_cons_succ]
              refine alw_take (i := 40) (v := undef) rfl (by kernel_rfl) (by kernel_rfl) (fun _ _ _ h => h) (.inr ⟨by rfl, rfl⟩) hS0 ?_
              simp only [Act.put, List.setIfInBounds_toArray, List.set_cons_zero, List.set_cons_succ]
              refine alw_take (i := 41) (v := undef) rfl (by kernel_rfl) (by kernel_rfl) (fun _ _ _ h => h) (.inr ⟨by rfl, rfl⟩) hS0 ?_
              simp only [Act.put, List.setIfInBounds_toArray, List.set_cons_zero, List.set_cons_succ]
              refine alw_take (i := 42) (v := undef) rfl (by kernel_rfl) (by kernel_rfl) (fun _ _ _ h => h) (.inr ⟨by rfl, rfl⟩) hS0 ?_
              simp only [Act.put, List.setIfInBounds_toArray, List.set_cons_zero, List.set_cons_succ]
              refine alw_take (i := 43) (v := undef) rfl (by kernel_rfl) (by kernel_rfl) (fun _ _ _ h => h) (.inr ⟨by rfl, rfl⟩) hS0 ?_
              simp only [Act.put, List.setIfInBounds_toArray, List.set_cons_zero, List.set_cons_succ]
              refine alw_take (i := 44) (v := undef) rfl (by kernel_rfl) (by kernel_rfl) (fun _ _ _ h => h) (.inr ⟨by rfl, rfl⟩) hS0 ?_
              simp only [Act.put, List.setIfInBounds_toArray, List.set_cons_zero, List.set_cons_succ]
              refine alw_take (i := 45) (v := .bool false) rfl (by kernel_rfl) (by kernel_rfl) (fun _ _ _ h => h) (.inl ⟨by rfl, fun W hW => ix_pickF rfl rfl rfl⟩) hS0 ?_
              simp only [Act.put, List.setIfInBounds_toArray, List.set_cons_zero, List.set_cons_succ]
              refine alw_take (i := 46) (v := .bool false) rfl (by kernel_rfl) (by kernel_rfl) (fun _ _ _ h => h) (.inl ⟨by rfl, fun W hW => ix_pickF rfl rfl rfl⟩) hS0 ?_
              simp only [Act.put, List.setIfInBounds_toArray, List.set_cons_zero, List.set_cons_succ]
              refine alw_done rfl ?_
              refine NoPanic.normal ?_
              clear hS0
              try simp only [Act.put, List.setIfInBounds_toArray, List.set_cons_zero, List.set_cons_succ]
              have HT16d := Lib.hid (HT16.out.drew)
              go_upto_region 24 with fail
              refine wp_region_lit ?_
              refine wpList_run (v := .int .i64 ((0 : Nat) : Int)) (wanted_none rfl) (exec_move rfl rfl) ?_
              simp only [Act.put, List.setIfInBounds_toArray, List.set_cons_zero, List.set_cons_succ]
              refine wpList_run (v := .int .i64 ((0 + 1 : Nat) : Int)) (wanted_none rfl) (ix_add rfl rfl rfl (by omega) (by omega)) ?_
              simp only [Act.put, List.setIfInBounds_toArray, List.set_cons_zero, List.set_cons_succ]
              refine wpList_run (v := .int .i64 ((0 + 1 : Nat) : Int)) (wanted_none rfl) (gx_assign rfl rfl) ?_
              simp only [Act.put, List.setIfInBounds_toArray, List.set_cons_zero, List.set_cons_succ]
              go_wp2_with fail
              go_roundg (n1 - (0 + 1))
              case measure => have := HGK4.out; have := HLT4.out; omega
              case rel => exact ⟨0 + 1, rfl, by have := HLT4.out; omega, HT16d.out⟩
          · obtain rfl : n1 = i4 := by have := HGK4.out; omega
            clear hlt
            go_upto_region 23 with fail
            refine wp_region_lit ?_
            refine wpList_run (v := .int .i64 (n1 : Int)) (wanted_none rfl) (exec_move rfl rfl) ?_
            simp only [Act.put, List.setIfInBounds_toArray, List.set_cons_zero, List.set_cons_succ]
            refine wpList_run (v := .slice A1 n1 cc1) (wanted_none rfl) (exec_move rfl rfl) ?_
            simp only [Act.put, List.setIfInBounds_toArray, List.set_cons_zero, List.set_cons_succ]
            refine wpList_run (v := .int .i64 (n1 : Int)) (wanted_none rfl) (gx_len rfl rfl Try.underlying29) ?_
            simp only [Act.put, List.setIfInBounds_toArray, List.set_cons_zero, List.set_cons_succ]
            refine wpList_run (v := .bool false) (wanted_none rfl) (ix_lss rfl rfl rfl (decide_eq_false (by omega))) ?_
            simp only [Act.put, List.setIfInBounds_toArray, List.set_cons_zero, List.set_cons_succ]
            have HSM := Lib.hid (same_walk (HR1d.out.1.still HTR4.out) (HROW8.out.still HTR4.out) (by rw [← HN1.out]; omega))
            go_upto_region 28 with fail
            refine wp_region_lit ?_
            refine wpList_run (v := .slice A1 n1 cc1) (wanted_none rfl) (exec_move rfl rfl) ?_
            simp only [Act.put, List.setIfInBounds_toArray, List.set_cons_zero, List.set_cons_succ]
            refine wpList_run (v := .slice A8 n8 c8) (wanted_none rfl) (exec_move rfl rfl) ?_
            simp only [Act.put, List.setIfInBounds_toArray, List.set_cons_zero, List.set_cons_succ]
            refine wpList_op rfl fun K9 HK9 => ?_
            go_wp2_with fail
            refine (HSM.out).mono ?_
            rintro e w17 ⟨rfl, ht17⟩
            refine HK9.out _ _ ?_
            clear HK9
            try simp only [Act.put, List.setIfInBounds_toArray, List.set_cons_zero, List.set_cons_succ]
            have HT17 := Lib.hid (HTR4.out.trans ht17 fun _ _ e => e)
            clear ht17 HSM
            refine wpList_run (v := .bool true) (wanted_none rfl) (gx_assign rfl rfl) ?_
            simp only [Act.put, List.setIfInBounds_toArray, List.set_cons_zero, List.set_cons_succ]
            go_wp2_with fail
            go_ret
            exact ⟨rfl, HT0.out.trans (HF8.out.1.trans HT17.out fun _ _ e => e) fun _ _ e => e⟩
    · have y5 : ¬ (i : Int) < (m : Int) := by omega
      clear him
      refine wpList_run (v := .int .i64 (i : Int)) (wanted_none rfl) (exec_move rfl rfl) ?_
      simp only [Act.put, List.setIfInBounds_toArray, List.set_cons_zero, List.set_cons_succ]
      refine wpList_run (v := .slice A m cap) (wanted_none rfl) (exec_move rfl rfl) ?_
      simp only [Act.put, List.setIfInBounds_toArray, List.set_cons_zero, List.set_cons_succ]
      refine wpList_run (v := .int .i64 (m : Int)) (wanted_none rfl) (gx_len rfl rfl Try.underlying51) ?_
      simp only [Act.put, List.setIfInBounds_toArray, List.set_cons_zero, List.set_cons_succ]
      refine wpList_run (v := .bool false) (wanted_none rfl) (ix_lss rfl rfl rfl (decide_eq_false y5)) ?_
      simp only [Act.put, List.setIfInBounds_toArray, List.set_cons_zero, List.set_cons_succ]
      refine wpList_run (v := .bool false) (wanted_none rfl) (exec_move rfl rfl) ?_
      simp only [Act.put, List.setIfInBounds_toArray, List.set_cons_zero, List.set_cons_succ]
      go_wp2_with fail
      refine HKC.out _ _ ?_
      have hBj := HB.out.turn HF.out.1 fun e => e
      have hc0 : wr.cell? ⟨g0, 0, none⟩ = some (strV e0) := hBj.cell 0
      have hc1 : wr.cell? ⟨g0, 1, none⟩ = some (strV e1) := hBj.cell 1
      have hc2 : wr.cell? ⟨g0, 2, none⟩ = some (strV e2) := hBj.cell 2
      clear hBj
      go_upto_region 9 with fail
      go_quiet (fail)
      obtain ⟨w9, hw9⟩ : ∃ v, v = wr.drewN nq := ⟨_, rfl⟩
      have HT9 := Lib.hid (show Turn nowhere wr w9 from by rw [hw9]; exact (Turn.refl _ _).drewN _)
      rw [← hw9]
      clear hw9 hc0 hc1 hc2
      have HI9 := Lib.hid (HI3.out.still HT9.out)
      have HF9 := Lib.hid (HF.out.still HT9.out)
      go_upto_region 10 with fail
      refine wp_region_lit ?_
      refine wpList_run (v := strV e0) (wanted_none rfl) (exec_move rfl rfl) ?_
      simp only [Act.put, List.setIfInBounds_toArray, List.set_cons_zero, List.set_cons_succ]
      refine wpList_run (v := strV e1) (wanted_none rfl) (exec_move rfl rfl) ?_
      simp only [Act.put, List.setIfInBounds_toArray, List.set_cons_zero, List.set_cons_succ]
      refine wpList_run (v := .bool (klt e1 e0)) (wanted_none rfl) (exec_sgtr rfl rfl rfl rfl) ?_
      simp only [Act.put, List.setIfInBounds_toArray, List.set_cons_zero, List.set_cons_succ]
      go_upto_if 59 with fail
      go_cut [9, 10] from 59 to 61 (fun av bv wx => ∃ a1 b1 : Key, av = strV a1 ∧ bv = strV b1 ∧ klt b1 a1 = false ∧ w9 = wx)
      case first =>
        cases hq : klt e1 e0 with
        | true =>
          have HQ := Lib.hid hq
          clear hq
          go_upto_region 11 with fail
          refine wp_region_lit ?_
          refine wpList_run (v := strV e1) (wanted_none rfl) (exec_move rfl rfl) ?_
          simp only [Act.put, List.setIfInBounds_toArray, List.set_cons_zero, List.set_cons_succ]
          refine wpList_run (v := strV e0) (wanted_none rfl) (exec_move rfl rfl) ?_
          simp only [Act.put, List.setIfInBounds_toArray, List.set_cons_zero, List.set_cons_succ]
          refine wpList_run (v := strV e1) (wanted_none rfl) (gx_assign rfl rfl) ?_
          simp only [Act.put, List.setIfInBounds_toArray, List.set_cons_zero, List.set_cons_succ]
          refine wpList_run (v := strV e0) (wanted_none rfl) (gx_assign rfl rfl) ?_
          simp only [Act.put, List.setIfInBounds_toArray, List.set_cons_zero, List.set_cons_succ]
          go_wp2_with fail
          go_meet
          exact ⟨e1, e0, rfl, rfl, klt_as HQ.out, rfl⟩
        | false =>
          have HQ := Lib.hid hq
          clear hq
          go_wp2_with fail
          go_meet
          exact ⟨e0, e1, rfl, rfl, HQ.out, rfl⟩
      obtain ⟨a1, b1, rfl, rfl, hab, hw9⟩ := hcut
      subst hw9
      have HAB := Lib.hid hab
      clear hab
      go_upto_region 12 with fail
      refine wp_region_lit ?_
      refine wpList_run (v := strV b1) (wanted_none rfl) (exec_move rfl rfl) ?_
      simp only [Act.put, List.setIfInBounds_toArray, List.set_cons_zero, List.set_cons_succ]
      refine wpList_run (v := strV e2) (wanted_none rfl) (exec_move rfl rfl) ?_
      simp only [Act.put, List.setIfInBounds_toArray, List.set_cons_zero, List.set_cons_succ]
      refine wpList_run (v := .bool (klt e2 b1)) (wanted_none rfl) (exec_sgtr rfl rfl rfl rfl) ?_
      simp only [Act.put, List.setIfInBounds_toArray, List.set_cons_zero, List.set_cons_succ]
      go_upto_if 64 with fail
      go_cut [10, 11] from 64 to 66 (fun av bv wx => ∃ b2 c1 : Key, av = strV b2 ∧ bv = strV c1 ∧ (klt c1 b2 = false ∧ klt c1 a1 = false) ∧ w9 = wx)
      case first =>
        cases hq : klt e2 b1 with
        | true =>
          have HQ := Lib.hid hq
          clear hq
          go_upto_region 13 with fail
          refine wp_region_lit ?_
          refine wpList_run (v := strV e2) (wanted_none rfl) (exec_move rfl rfl) ?_
          simp only [Act.put, List.setIfInBounds_toArray, List.set_cons_zero, List.set_cons_succ]
          refine wpList_run (v := strV b1) (wanted_none rfl) (exec_move rfl rfl) ?_
          simp only [Act.put, List.setIfInBounds_toArray, List.set_cons_zero, List.set_cons_succ]
          refine wpList_run (v := strV e2) (wanted_none rfl) (gx_assign rfl rfl) ?_
          simp only [Act.put, List.setIfInBounds_toArray, List.set_cons_zero, List.set_cons_succ]
          refine wpList_run (v := strV b1) (wanted_none rfl) (gx_assign rfl rfl) ?_
          simp only [Act.put, List.setIfInBounds_toArray, List.set_cons_zero, List.set_cons_succ]
          go_wp2_with fail
          go_meet
          exact ⟨e2, b1, rfl, rfl, ⟨klt_as HQ.out, HAB.out⟩, rfl⟩
        | false =>
          have HQ := Lib.hid hq
          clear hq
          go_wp2_with fail
          go_meet
          exact ⟨b1, e2, rfl, rfl, ⟨HQ.out, geq_trans HAB.out HQ.out⟩, rfl⟩
      obtain ⟨b2, c1, rfl, rfl, hbc, hw9⟩ := hcut
      subst hw9
      have HBC := Lib.hid hbc
      clear hbc
      go_upto_region 14 with fail
      refine wp_region_lit ?_
      refine wpList_run (v := strV a1) (wanted_none rfl) (exec_move rfl rfl) ?_
      simp only [Act.put, List.setIfInBounds_toArray, List.set_cons_zero, List.set_cons_succ]
      refine wpList_run (v := strV b2) (wanted_none rfl) (exec_move rfl rfl) ?_
      simp only [Act.put, List.setIfInBounds_toArray, List.set_cons_zero, List.set_cons_succ]
      refine wpList_run (v := .bool (klt b2 a1)) (wanted_none rfl) (exec_sgtr rfl rfl rfl rfl) ?_
      simp only [Act.put, List.setIfInBounds_toArray, List.set_cons_zero, List.set_cons_succ]
      go_upto_if 69 with fail
      go_cut [9, 10] from 69 to 71 (fun av bv wx => ∃ a3 b3 : Key, av = strV a3 ∧ bv = strV b3 ∧ (klt b3 a3 = false ∧ klt c1 b3 = false) ∧ w9 = wx)
      case first =>
        cases hq : klt b2 a1 with
        | true =>
          have HQ := Lib.hid hq
          clear hq
          go_upto_region 15 with fail
          refine wp_region_lit ?_
          refine wpList_run (v := strV b2) (wanted_none rfl) (exec_move rfl rfl) ?_
          simp only [Act.put, List.setIfInBounds_toArray, List.set_cons_zero, List.set_cons_succ]
          refine wpList_run (v := strV a1) (wanted_none rfl) (exec_move rfl rfl) ?_
          simp only [Act.put, List.setIfInBounds_toArray, List.set_cons_zero, List.set_cons_succ]
          refine wpList_run (v := strV b2) (wanted_none rfl) (gx_assign rfl rfl) ?_
          simp only [Act.put, List.setIfInBounds_toArray, List.set_cons_zero, List.set_cons_succ]
          refine wpList_run (v := strV a1) (wanted_none rfl) (gx_assign rfl rfl) ?_
          simp only [Act.put, List.setIfInBounds_toArray, List.set_cons_zero, List.set_cons_succ]
          go_wp2_with fail
          go_meet
          exact ⟨b2, a1, rfl, rfl, ⟨klt_as HQ.out, HBC.out.2⟩, rfl⟩
        | false =>
          have HQ := Lib.hid hq
          clear hq
          go_wp2_with fail
          go_meet
          exact ⟨a1, b2, rfl, rfl, ⟨HQ.out, HBC.out.1⟩, rfl⟩
      obtain ⟨a3, b3, rfl, rfl, habc, hw9⟩ := hcut
      subst hw9
      have HA := Lib.hid habc
      clear habc
      by_cases hb : b3 = []
      · have HB3 := Lib.hid hb
        clear hb
        go_upto_region 16 with fail
        refine wp_region_lit ?_
        refine wpList_run (v := strV b3) (wanted_none rfl) (exec_move rfl rfl) ?_
        simp only [Act.put, List.setIfInBounds_toArray, List.set_cons_zero, List.set_cons_succ]
        refine wpList_run (v := .bool true) (wanted_none rfl) (exec_seqlr rfl rfl rfl (key_eq_nil HB3.out)) ?_
        simp only [Act.put, List.setIfInBounds_toArray, List.set_cons_zero, List.set_cons_succ]
        refine wpList_run (v := .bool true) (wanted_none rfl) (exec_move rfl rfl) ?_
        simp only [Act.put, List.setIfInBounds_toArray, List.set_cons_zero, List.set_cons_succ]
        refine wpList_skip (by go_simp) ?_
        simp only [Act.put, List.setIfInBounds_toArray, List.set_cons_zero, List.set_cons_succ]
        refine wpList_skip (by go_simp) ?_
        simp only [Act.put, List.setIfInBounds_toArray, List.set_cons_zero, List.set_cons_succ]
        refine wpList_run (v := .bool true) (wanted_none rfl) (ix_pickT rfl rfl rfl) ?_
        simp only [Act.put, List.setIfInBounds_toArray, List.set_cons_zero, List.set_cons_succ]
        go_upto_region 17 with fail
        refine wp_region_lit ?_
        refine wpList_run (v := .bool true) (wanted_none rfl) (gx_assign rfl rfl) ?_
        simp only [Act.put, List.setIfInBounds_toArray, List.set_cons_zero, List.set_cons_succ]
        go_wp2_with fail
        go_ret
        exact ⟨rfl, HT0.out.trans HF9.out.1 fun _ _ e => e⟩
      · have HB3 := Lib.hid hb
        clear hb
        by_cases hc : c1 = []
        · have HC1 := Lib.hid hc
          clear hc
          go_upto_region 16 with fail
          refine wp_region_lit ?_
          refine wpList_run (v := strV b3) (wanted_none rfl) (exec_move rfl rfl) ?_
          simp only [Act.put, List.setIfInBounds_toArray, List.set_cons_zero, List.set_cons_succ]
          refine wpList_run (v := .bool false) (wanted_none rfl) (exec_seqlr rfl rfl rfl (key_ne_nil HB3.out)) ?_
          simp only [Act.put, List.setIfInBounds_toArray, List.set_cons_zero, List.set_cons_succ]
          refine wpList_run (v := .bool false) (wanted_none rfl) (exec_move rfl rfl) ?_
          simp only [Act.put, List.setIfInBounds_toArray, List.set_cons_zero, List.set_cons_succ]
          refine wpList_run (v := strV c1) rfl (exec_move rfl rfl) ?_
          simp only [Act.put, List.setIfInBounds_toArray, List.set_cons_zero, List.set_cons_succ]
          refine wpList_run (v := .bool true) rfl (exec_seqlr rfl rfl rfl (key_eq_nil HC1.out)) ?_
          simp only [Act.put, List.setIfInBounds_toArray, List.set_cons_zero, List.set_cons_succ]
          refine wpList_run (v := .bool true) (wanted_none rfl) (ix_pickF rfl rfl rfl) ?_
          simp only [Act.put, List.setIfInBounds_toArray, List.set_cons_zero, List.set_cons_succ]
          go_upto_region 17 with fail
          refine wp_region_lit ?_
          refine wpList_run (v := .bool true) (wanted_none rfl) (gx_assign rfl rfl) ?_
          simp only [Act.put, List.setIfInBounds_toArray, List.set_cons_zero, List.set_cons_succ]
          go_wp2_with fail
          go_ret
          exact ⟨rfl, HT0.out.trans HF9.out.1 fun _ _ e => e⟩
        · have HC1 := Lib.hid hc
          clear hc
          go_upto_region 16 with fail
          refine wp_region_lit ?_
          refine wpList_run (v := strV b3) (wanted_none rfl) (exec_move rfl rfl) ?_
          simp only [Act.put, List.setIfInBounds_toArray, List.set_cons_zero, List.set_cons_succ]
          refine wpList_run (v := .bool false) (wanted_none rfl) (exec_seqlr rfl rfl rfl (key_ne_nil HB3.out)) ?_
          simp only [Act.put, List.setIfInBounds_toArray, List.set_cons_zero, List.set_cons_succ]
          refine wpList_run (v := .bool false) (wanted_none rfl) (exec_move rfl rfl) ?_
          simp only [Act.put, List.setIfInBounds_toArray, List.set_cons_zero, List.set_cons_succ]
          refine wpList_run (v := strV c1) rfl (exec_move rfl rfl) ?_
          simp only [Act.put, List.setIfInBounds_toArray, List.set_cons_zero, List.set_cons_succ]
          refine wpList_run (v := .bool false) rfl (exec_seqlr rfl rfl rfl (key_ne_nil HC1.out)) ?_
          simp only [Act.put, List.setIfInBounds_toArray, List.set_cons_zero, List.set_cons_succ]
          refine wpList_run (v := .bool false) (wanted_none rfl) (ix_pickF rfl rfl rfl) ?_
          simp only [Act.put, List.setIfInBounds_toArray, List.set_cons_zero, List.set_cons_succ]
          go_upto_region 18 with fail
          refine wp_region_lit ?_
          refine wpList_run (v := .pointer (some ⟨x, 0, none⟩)) (wanted_none rfl) (exec_move rfl rfl) ?_
          simp only [Act.put, List.setIfInBounds_toArray, List.set_cons_zero, List.set_cons_succ]
          refine wpList_run (v := strV a3) (wanted_none rfl) (exec_move rfl rfl) ?_
          simp only [Act.put, List.setIfInBounds_toArray, List.set_cons_zero, List.set_cons_succ]
          refine wpList_run (v := strV c1) (wanted_none rfl) (exec_move rfl rfl) ?_
          simp only [Act.put, List.setIfInBounds_toArray, List.set_cons_zero, List.set_cons_succ]
          refine wpList_op rfl fun K9 HK9 => ?_
          go_wp2_with fail
          refine ((ranged_walk (fr := a3) («to» := c1) (most := -1) HI9.out)).mono ?_
          rintro e w10 ⟨va, rfl, hva, ht10⟩
          refine HK9.out _ _ ?_
          clear HK9
          try simp only [Act.put, List.setIfInBounds_toArray, List.set_cons_zero, List.set_cons_succ]
          rw [cut_neg, rngOf_rng HS.out] at hva
          have HR1 := Lib.hid (RowO.new HI9.out hva)
          have HI10 := Lib.hid (HI9.out.still ht10)
          have HF10 := Lib.hid (HF9.out.still ht10)
          obtain ⟨L1, hL9⟩ : ∃ L, L = l1.filter (inR a3 c1) := ⟨_, rfl⟩
          rw [← hL9] at HR1
          have HLE1 := Lib.hid hL9
          have hl9 : L1.length ≤ 200 := by rw [hL9]; exact Nat.le_trans (List.filter_sublist (l := l1)).length_le HL200.out
          clear hva hL9
          obtain ⟨A1, cc1, e9, _, _, hz9, _⟩ := HR1.out.1.form
          obtain ⟨n1, hn9⟩ : ∃ q, q = (L1).length := ⟨_, rfl⟩
          rw [List.length_map] at e9
          replace e9 := e9.trans (show _ = Value.slice A1 n1 cc1 from by rw [hn9])
          subst e9
          have HN1 := Lib.hid hn9
          have HZ1 := Lib.hid hz9
          clear hn9 hz9
          have yn1 : (n1 : Int) ≤ 200 := by have := HN1.out; omega
          clear hl9
          refine wpList_run (v := .slice A1 n1 cc1) (wanted_none rfl) (gx_assign rfl rfl) ?_
          simp only [Act.put, List.setIfInBounds_toArray, List.set_cons_zero, List.set_cons_succ]
          go_upto_region 19 with fail
          refine wp_region_lit ?_
          refine wpList_run (v := .pointer (some ⟨x, 0, none⟩)) (wanted_none rfl) (exec_move rfl rfl) ?_
          simp only [Act.put, List.setIfInBounds_toArray, List.set_cons_zero, List.set_cons_succ]
          refine wpList_run (v := strV a3) (wanted_none rfl) (exec_move rfl rfl) ?_
          simp only [Act.put, List.setIfInBounds_toArray, List.set_cons_zero, List.set_cons_succ]
          refine wpList_run (v := strV b3) (wanted_none rfl) (exec_move rfl rfl) ?_
          simp only [Act.put, List.setIfInBounds_toArray, List.set_cons_zero, List.set_cons_succ]
          refine wpList_op rfl fun K9 HK9 => ?_
          go_wp2_with fail
          refine ((ranged_walk (fr := a3) («to» := b3) (most := -1) HI10.out)).mono ?_
          rintro e w11 ⟨va, rfl, hva, ht11⟩
          refine HK9.out _ _ ?_
          clear HK9
          try simp only [Act.put, List.setIfInBounds_toArray, List.set_cons_zero, List.set_cons_succ]
          rw [cut_neg, rngOf_rng HS.out] at hva
          have HR2 := Lib.hid (RowO.new HI10.out hva)
          have HI11 := Lib.hid (HI10.out.still ht11)
          have HF11 := Lib.hid (HF10.out.still ht11)
          obtain ⟨L2, hL9⟩ : ∃ L, L = l1.filter (inR a3 b3) := ⟨_, rfl⟩
          rw [← hL9] at HR2
          have HLE2 := Lib.hid hL9
          have hl9 : L2.length ≤ 200 := by rw [hL9]; exact Nat.le_trans (List.filter_sublist (l := l1)).length_le HL200.out
          clear hva hL9
          obtain ⟨A2, cc2, e9, _, _, hz9, _⟩ := HR2.out.1.form
          obtain ⟨n2, hn9⟩ : ∃ q, q = (L2).length := ⟨_, rfl⟩
          rw [List.length_map] at e9
          replace e9 := e9.trans (show _ = Value.slice A2 n2 cc2 from by rw [hn9])
          subst e9
          have HN2 := Lib.hid hn9
          have HZ2 := Lib.hid hz9
          clear hn9 hz9
          have yn2 : (n2 : Int) ≤ 200 := by have := HN2.out; omega
          clear hl9
          refine wpList_run (v := .slice A2 n2 cc2) (wanted_none rfl) (gx_assign rfl rfl) ?_
          simp only [Act.put, List.setIfInBounds_toArray, List.set_cons_zero, List.set_cons_succ]
          have HR1b := Lib.hid (HR1.out.still ht11)
          go_upto_region 20 with fail
          refine wp_region_lit ?_
          refine wpList_run (v := .pointer (some ⟨x, 0, none⟩)) (wanted_none rfl) (exec_move rfl rfl) ?_
          simp only [Act.put, List.setIfInBounds_toArray, List.set_cons_zero, List.set_cons_succ]
          refine wpList_run (v := strV b3) (wanted_none rfl) (exec_move rfl rfl) ?_
          simp only [Act.put, List.setIfInBounds_toArray, List.set_cons_zero, List.set_cons_succ]
          refine wpList_run (v := strV c1) (wanted_none rfl) (exec_move rfl rfl) ?_
          simp only [Act.put, List.setIfInBounds_toArray, List.set_cons_zero, List.set_cons_succ]
          refine wpList_op rfl fun K9 HK9 => ?_
          go_wp2_with fail
          refine ((ranged_walk (fr := b3) («to» := c1) (most := -1) HI11.out)).mono ?_
          rintro e w12 ⟨va, rfl, hva, ht12⟩
          refine HK9.out _ _ ?_
          clear HK9
          try simp only [Act.put, List.setIfInBounds_toArray, List.set_cons_zero, List.set_cons_succ]
          rw [cut_neg, rngOf_rng HS.out] at hva
          have HR3 := Lib.hid (RowO.new HI11.out hva)
          have HI12 := Lib.hid (HI11.out.still ht12)
          have HF12 := Lib.hid (HF11.out.still ht12)
          obtain ⟨L3, hL9⟩ : ∃ L, L = l1.filter (inR b3 c1) := ⟨_, rfl⟩
          rw [← hL9] at HR3
          have HLE3 := Lib.hid hL9
          have hl9 : L3.length ≤ 200 := by rw [hL9]; exact Nat.le_trans (List.filter_sublist (l := l1)).length_le HL200.out
          clear hva hL9
          obtain ⟨A3, cc3, e9, _, _, hz9, _⟩ := HR3.out.1.form
          obtain ⟨n3, hn9⟩ : ∃ q, q = (L3).length := ⟨_, rfl⟩
          rw [List.length_map] at e9
          replace e9 := e9.trans (show _ = Value.slice A3 n3 cc3 from by rw [hn9])
          subst e9
          have HN3 := Lib.hid hn9
          have HZ3 := Lib.hid hz9
          clear hn9 hz9
          have yn3 : (n3 : Int) ≤ 200 := by have := HN3.out; omega
          clear hl9
          refine wpList_run (v := .slice A3 n3 cc3) (wanted_none rfl) (gx_assign rfl rfl) ?_
          simp only [Act.put, List.setIfInBounds_toArray, List.set_cons_zero, List.set_cons_succ]
          have HR1c := Lib.hid (HR1b.out.still ht12)
          have HR2c := Lib.hid (HR2.out.still ht12)
          have HSP := Lib.hid (show L1 = L2 ++ L3 from by rw [HLE1.out, HLE2.out, HLE3.out]; exact rng_split HS.out HA.out.1 HA.out.2 HB3.out HC1.out)
          clear ht10 ht11 ht12
          have hlm : n2 = (L2.map encP).length := by rw [List.length_map]; exact HN2.out
          have hlm3 : n3 = (L3.map encP).length := by rw [List.length_map]; exact HN3.out
          have hr2 : Rws w12 2 A2 n2 (L2.map encP) := HR2c.out.1.rws (by omega) (by decide)
          obtain ⟨A7, c7, w7, hrun, hrow, ht7⟩ := copy_rws elmR (ty := 29) (c := cc2) hr2 HR2c.out.1.1 HZ2.out (by omega)
          have HR3d := HR3.out.still ht7
          have hr3 : Rws w7 2 A3 n3 (L3.map encP) := HR3d.1.rws (by omega) (by decide)
          obtain ⟨A8, c8, w8, hrun8, hrow8, ht8⟩ := orw_more elmR (ty := 29) (W1 := w12) (c := cc3) hrow ht7 hr3 HR3d.1.1 HZ3.out (by rw [← hlm]; omega)
          rw [← hlm] at hrun8 hrow8
          rw [← List.map_append, ← HSP.out] at hrow8
          obtain ⟨n8, hn8⟩ : ∃ q, q = n2 + n3 := ⟨_, rfl⟩
          rw [← hn8] at hrun8 hrow8
          have HRUN := Lib.hid hrun
          have HRUN8 := Lib.hid hrun8
          have HROW8 := Lib.hid hrow8
          have HT8 := Lib.hid ht8
          have HI8 := Lib.hid (HI12.out.still ht8)
          have HF8 := Lib.hid (HF12.out.still ht8)
          have HR1d := Lib.hid (HR1c.out.still ht8)
          clear hlm hlm3 hr2 hrun hrow ht7 HR3d hr3 hrun8 hrow8 ht8 hn8
          go_upto_region 21 with fail
          refine wp_region_lit ?_
          refine wpList_run (v := .slice (some ⟨w12.heap.size, 0, none⟩) 0 0) (w' := w12.alloc (.cells #[] 54)) (wanted_none rfl) (bx_slice0 rfl (build0R _)) ?_
          simp only [Act.put, List.setIfInBounds_toArray, List.set_cons_zero, List.set_cons_succ]
          refine wpList_run (v := .slice A2 n2 cc2) (wanted_none rfl) (exec_move rfl rfl) ?_
          simp only [Act.put, List.setIfInBounds_toArray, List.set_cons_zero, List.set_cons_succ]
          refine wpList_run (v := .slice A7 n2 c7) (w' := w7) (wanted_none rfl) (exec_append rfl rfl rfl HRUN.out) ?_
          simp only [Act.put, List.setIfInBounds_toArray, List.set_cons_zero, List.set_cons_succ]
          refine wpList_run (v := .slice A3 n3 cc3) (wanted_none rfl) (exec_move rfl rfl) ?_
          simp only [Act.put, List.setIfInBounds_toArray, List.set_cons_zero, List.set_cons_succ]
          refine wpList_run (v := .slice A8 n8 c8) (w' := w8) (wanted_none rfl) (exec_append rfl rfl rfl HRUN8.out) ?_
          simp only [Act.put, List.setIfInBounds_toArray, List.set_cons_zero, List.set_cons_succ]
          refine wpList_run (v := .slice A8 n8 c8) (wanted_none rfl) (gx_assign rfl rfl) ?_
          simp only [Act.put, List.setIfInBounds_toArray, List.set_cons_zero, List.set_cons_succ]
          go_upto_region 22 with fail
          refine wp_region_lit ?_
          refine wpList_run (v := .int .i64 0) (wanted_none rfl) (gx_assign rfl rfl) ?_
          simp only [Act.put, List.setIfInBounds_toArray, List.set_cons_zero, List.set_cons_succ]
          go_wp2_with fail
          go_loopg [16] n1 (fun gk iv wr => ∃ (i : Nat), iv = .int .i64 (i : Int) ∧ i + gk = n1 ∧ Turn nowhere w8 wr)
          case atStart => exact ⟨0, rfl, by omega, Turn.refl _ _⟩
          obtain ⟨i4, rfl, hgk, htr⟩ := hrel
          have HGK4 := Lib.hid hgk
          have HTR4 := Lib.hid htr
          have y5 : (i4 : Int) ≤ (n1 : Int) := by omega
          clear hgk htr
          by_cases hlt : i4 < n1
          · have HLT4 := Lib.hid hlt
            have y6 : (i4 : Int) < (n1 : Int) := by omega
            obtain ⟨q, hq⟩ : ∃ q, L1[i4]? = some q := ⟨_, List.getElem?_eq_getElem (by rw [← HN1.out]; exact hlt)⟩
            have HQ4 := Lib.hid hq
            have hq2 := hq
            rw [HLE1.out] at hq2
            obtain ⟨hm1, hm2⟩ := List.mem_filter.1 (List.mem_of_getElem? hq2)
            rw [inR_def HC1.out] at hm2
            have HIN := Lib.hid (show klt q.1 a3 = false ∧ klt q.1 c1 = true from by simpa using hm2)
            obtain ⟨b4, d4, e9, _, _⟩ := HR1d.out.1.some_ (by rw [List.length_map, ← HN1.out]; omega)
            injection e9 with e8 e7 e6
            subst e8
            have HG := Lib.hid (show Calls Try.prog 14 #[.pointer (some ⟨x, 0, none⟩), strV q.1] wr fun e w' => e = .returned (.tuple #[.int .i64 q.2, .bool true]) ∧ Turn nowhere wr w' from by
              have h := Get_walk (k := q.1) (HI8.out.still HTR4.out)
              rw [lget_mem HS.out hm1] at h
              exact h)
            have HR4a := Lib.hid (HR1d.out.still HTR4.out)
            clear e7 e6 hlt hq hq2 hm1 hm2
            go_upto_region 23 with fail
            refine wp_region_lit ?_
            refine wpList_run (v := .int .i64 (i4 : Int)) (wanted_none rfl) (exec_move rfl rfl) ?_
            simp only [Act.put, List.setIfInBounds_toArray, List.set_cons_zero, List.set_cons_succ]
            refine wpList_run (v := .slice (some ⟨b4, 0, none⟩) n1 cc1) (wanted_none rfl) (exec_move rfl rfl) ?_
            simp only [Act.put, List.setIfInBounds_toArray, List.set_cons_zero, List.set_cons_succ]
            refine wpList_run (v := .int .i64 (n1 : Int)) (wanted_none rfl) (gx_len rfl rfl Try.underlying29) ?_
            simp only [Act.put, List.setIfInBounds_toArray, List.set_cons_zero, List.set_cons_succ]
            refine wpList_run (v := .bool true) (wanted_none rfl) (ix_lss rfl rfl rfl (decide_eq_true y6)) ?_
            simp only [Act.put, List.setIfInBounds_toArray, List.set_cons_zero, List.set_cons_succ]
            go_upto_region 25 with fail
            refine wp_region_lit ?_
            refine wpList_run (v := .pointer (some ⟨x, 0, none⟩)) (wanted_none rfl) (exec_move rfl rfl) ?_
            simp only [Act.put, List.setIfInBounds_toArray, List.set_cons_zero, List.set_cons_succ]
            refine wpList_run (v := .slice (some ⟨b4, 0, none⟩) n1 cc1) (wanted_none rfl) (exec_move rfl rfl) ?_
            simp only [Act.put, List.setIfInBounds_toArray, List.set_cons_zero, List.set_cons_succ]
            refine wpList_run (v := .int .i64 (i4 : Int)) (wanted_none rfl) (exec_move rfl rfl) ?_
            simp only [Act.put, List.setIfInBounds_toArray, List.set_cons_zero, List.set_cons_succ]
            refine wpList_run (v := .pointer (some ⟨b4, 0 + i4 * 2, none⟩)) (wanted_none rfl) (gx_iaddr (i := i4) (sz := 2) rfl rfl rfl Try.underlying29 size_ref HLT4.out rfl) ?_
            simp only [Act.put, List.setIfInBounds_toArray, List.set_cons_zero, List.set_cons_succ]
            refine wpList_run (v := .pointer (some ⟨b4, 0 + i4 * 2 + 0, none⟩)) (wanted_none rfl) (exec_field (off := 0 + i4 * 2) (d := 0) rfl rfl (by kernel_rfl)) ?_
            simp only [Act.put, List.setIfInBounds_toArray, List.set_cons_zero, List.set_cons_succ]
            refine wpList_run (v := strV q.1) (wanted_none rfl) (exec_load1 rfl rfl (by kernel_rfl) (HR4a.out.1.el0 (r := encP q) (by rw [List.getElem?_map, HQ4.out]; rfl) 0 _ rfl)) ?_
            simp only [Act.put, List.setIfInBounds_toArray, List.set_cons_zero, List.set_cons_succ]
            refine wpList_op rfl fun K9 HK9 => ?_
            go_wp2_with fail
            refine (HG.out).mono ?_
            rintro e w16 ⟨rfl, ht16⟩
            refine HK9.out _ _ ?_
            clear HK9
            try simp only [Act.put, List.setIfInBounds_toArray, List.set_cons_zero, List.set_cons_succ]
            have HR4k := Lib.hid (HR4a.out.still ht16)
            have HT16 := Lib.hid (HTR4.out.trans ht16 fun _ _ e => e)
            clear ht16 HG
            refine wpList_run (v := .tuple #[.int .i64 q.2, .bool true]) (wanted_none rfl) (exec_move rfl rfl) ?_
            simp only [Act.put, List.setIfInBounds_toArray, List.set_cons_zero, List.set_cons_succ]
            refine wpList_run (v := .int .i64 q.2) (wanted_none rfl) (ix_extract rfl rfl rfl) ?_
            simp only [Act.put, List.setIfInBounds_toArray, List.set_cons_zero, List.set_cons_succ]
            refine wpList_run (v := .bool true) (wanted_none rfl) (ix_extract rfl rfl rfl) ?_
            simp only [Act.put, List.setIfInBounds_toArray, List.set_cons_zero, List.set_cons_succ]
            refine wpList_run (v := .int .i64 q.2) (wanted_none rfl) (gx_assign rfl rfl) ?_
            simp only [Act.put, List.setIfInBounds_toArray, List.set_cons_zero, List.set_cons_succ]
            refine wpList_run (v := .bool true) (wanted_none rfl) (gx_assign rfl rfl) ?_
            simp only [Act.put, List.setIfInBounds_toArray, List.set_cons_zero, List.set_cons_succ]
            by_cases h0 : 0 < i4
            · obtain ⟨j4, rfl⟩ : ∃ j, i4 = j + 1 := ⟨i4 - 1, by omega⟩
              clear h0
              have yj : (0 : Int) ≤ (j4 : Int) := by omega
              have HLTJ := Lib.hid (show j4 < n1 from by have := HLT4.out; omega)
              obtain ⟨p, hp⟩ : ∃ p, L1[j4]? = some p := ⟨_, List.getElem?_eq_getElem (by rw [← HN1.out]; exact HLTJ.out)⟩
              have HPQ := Lib.hid (show klt p.1 q.1 = true from by
                have hsf : Srt L1 := by rw [HLE1.out]; exact List.Pairwise.sublist List.filter_sublist HS.out
                obtain ⟨g1, rfl⟩ := List.getElem?_eq_some_iff.1 hp
                obtain ⟨g2, rfl⟩ := List.getElem?_eq_some_iff.1 HQ4.out
                exact List.pairwise_iff_getElem.1 hsf j4 (j4 + 1) g1 g2 (by omega))
              have HP4 := Lib.hid hp
              clear hp
              go_upto_region 26 with fail
              refine wp_region_alw (fun W => W.cell? ⟨b4, 0 + (j4 + 1) * 2 + 0, none⟩ = some (strV q.1) ∧ W.cell? ⟨b4, 0 + (j4 + 1) * 2 + 1, none⟩ = some (.int .i64 q.2) ∧ W.cell? ⟨b4, 0 + j4 * 2 + 0, none⟩ = some (strV p.1)) (by kernel_rfl) ?_
              have hS0 := And.intro (HR4k.out.1.el0 (r := encP q) (by rw [List.getElem?_map, HQ4.out]; rfl) 0 _ rfl) (And.intro (HR4k.out.1.el0 (r := encP q) (by rw [List.getElem?_map, HQ4.out]; rfl) 1 _ rfl) (HR4k.out.1.el0 (r := encP p) (by rw [List.getElem?_map, HP4.out]; rfl) 0 _ rfl))
              refine alw_take (i := 0) (v := .bool true) rfl (by kernel_rfl) (by kernel_rfl) (fun _ _ _ h => h) (.inl ⟨by rfl, fun W hW => exec_move rfl rfl⟩) hS0 ?_
              simp only [Act.put, List.setIfInBounds_toArray, List.set_cons_zero, List.set_cons_succ]
              refine alw_take (i := 1) (v := .bool false) rfl (by kernel_rfl) (by kernel_rfl) (fun _ _ _ h => h) (.inl ⟨by rfl, fun W hW => ix_not (b := true) rfl rfl⟩) hS0 ?_
              simp only [Act.put, List.setIfInBounds_toArray, List.set_cons_zero, List.set_cons_succ]
              refine alw_take (i := 2) (v := .bool false) rfl (by kernel_rfl) (by kernel_rfl) (fun _ _ _ h => h) (.inl ⟨by rfl, fun W hW => exec_move rfl rfl⟩) hS0 ?_
              simp only [Act.put, List.setIfInBounds_toArray, List.set_cons_zero, List.set_cons_succ]
              refine alw_take (i := 3) (v := .int .i64 q.2) rfl (by kernel_rfl) (by kernel_rfl) (fun _ _ _ h => h) (.inl ⟨by rfl, fun W hW => exec_move rfl rfl⟩) hS0 ?_
              simp only [Act.put, List.setIfInBounds_toArray, List.set_cons_zero, List.set_cons_succ]
              refine alw_take (i := 4) (v := .slice (some ⟨b4, 0, none⟩) n1 cc1) rfl (by kernel_rfl) (by kernel_rfl) (fun _ _ _ h => h) (.inl ⟨by rfl, fun W hW => exec_move rfl rfl⟩) hS0 ?_
              simp only [Act.put, List.setIfInBounds_toArray, List.set_cons_zero, List.set_cons_succ]
              refine alw_take (i := 5) (v := .int .i64 ((j4 + 1) : Int)) rfl (by kernel_rfl) (by kernel_rfl) (fun _ _ _ h => h) (.inl ⟨by rfl, fun W hW => exec_move rfl rfl⟩) hS0 ?_
              simp only [Act.put, List.setIfInBounds_toArray, List.set_cons_zero, List.set_cons_succ]
              refine alw_take (i := 6) (v := .pointer (some ⟨b4, 0 + (j4 + 1) * 2, none⟩)) rfl (by kernel_rfl) (by kernel_rfl) (fun _ _ _ h => h) (.inl ⟨by rfl, fun W hW => gx_iaddr (i := (j4 + 1)) (sz := 2) rfl rfl rfl Try.underlying29 size_ref HLT4.out rfl⟩) hS0 ?_
              simp only [Act.put, List.setIfInBounds_toArray, List.set_cons_zero, List.set_cons_succ]
              refine alw_take (i := 7) (v := .pointer (some ⟨b4, 0 + (j4 + 1) * 2 + 1, none⟩)) rfl (by kernel_rfl) (by kernel_rfl) (fun _ _ _ h => h) (.inl ⟨by rfl, fun W hW => exec_field (off := 0 + (j4 + 1) * 2) (d := 1) rfl rfl (by kernel_rfl)⟩) hS0 ?_
              simp only [Act.put, List.setIfInBounds_toArray, List.set_cons_zero, List.set_cons_succ]
              refine alw_take (i := 8) (v := .int .i64 q.2) rfl (by kernel_rfl) (by kernel_rfl) (fun _ _ _ h => h) (.inl ⟨by rfl, fun W hW => exec_load1 rfl rfl (by kernel_rfl) hW.2.1⟩) hS0 ?_
              simp only [Act.put, List.setIfInBounds_toArray, List.set_cons_zero, List.set_cons_succ]
              refine alw_take (i := 9) (v := .bool false) rfl (by kernel_rfl) (by kernel_rfl) (fun _ _ _ h => h) (.inl ⟨by rfl, fun W hW => ix_neq rfl rfl rfl (decide_eq_false (fun e => e rfl))⟩) hS0 ?_
              simp only [Act.put, List.setIfInBounds_toArray, List.set_cons_zero, List.set_cons_succ]
              refine alw_take (i := 10) (v := .bool false) rfl (by kernel_rfl) (by kernel_rfl) (fun _ _ _ h => h) (.inl ⟨by rfl, fun W hW => ix_pickF rfl rfl rfl⟩) hS0 ?_
              simp only [Act.put, List.setIfInBounds_toArray, List.set_cons_zero, List.set_cons_succ]
              refine alw_take (i := 11) (v := .bool false) rfl (by kernel_rfl) (by kernel_rfl) (fun _ _ _ h => h) (.inl ⟨by rfl, fun W hW => exec_move rfl rfl⟩) hS0 ?_
              simp only [Act.put, List.setIfInBounds_toArray, List.set_cons_zero, List.set_cons_succ]
              refine alw_take (i := 12) (v := .slice (some ⟨b4, 0, none⟩) n1 cc1) rfl (by kernel_rfl) (by kernel_rfl) (fun _ _ _ h => h) (.inl ⟨by rfl, fun W hW => exec_move rfl rfl⟩) hS0 ?_
              simp only [Act.put, List.setIfInBounds_toArray, List.set_cons_zero, List.set_cons_succ]
              refine alw_take (i := 13) (v := .int .i64 ((j4 + 1) : Int)) rfl (by kernel_rfl) (by kernel_rfl) (fun _ _ _ h => h) (.inl ⟨by rfl, fun W hW => exec_move rfl rfl⟩) hS0 ?_
              simp only [Act.put, List.setIfInBounds_toArray, List.set_cons_zero, List.set_cons_succ]
              refine alw_take (i := 14) (v := .pointer (some ⟨b4, 0 + (j4 + 1) * 2, none⟩)) rfl (by kernel_rfl) (by kernel_rfl) (fun _ _ _ h => h) (.inl ⟨by rfl, fun W hW => gx_iaddr (i := (j4 + 1)) (sz := 2) rfl rfl rfl Try.underlying29 size_ref HLT4.out rfl⟩) hS0 ?_
              simp only [Act.put, List.setIfInBounds_toArray, List.set_cons_zero, List.set_cons_succ]
              refine alw_take (i := 15) (v := .pointer (some ⟨b4, 0 + (j4 + 1) * 2 + 0, none⟩)) rfl (by kernel_rfl) (by kernel_rfl) (fun _ _ _ h => h) (.inl ⟨by rfl, fun W hW => exec_field (off := 0 + (j4 + 1) * 2) (d := 0) rfl rfl (by kernel_rfl)⟩) hS0 ?_
              simp only [Act.put, List.setIfInBounds_toArray, List.set_cons_zero, List.set_cons_succ]
              refine alw_take (i := 16) (v := strV q.1) rfl (by kernel_rfl) (by kernel_rfl) (fun _ _ _ h => h) (.inl ⟨by rfl, fun W hW => exec_load1 rfl rfl (by kernel_rfl) hW.1⟩) hS0 ?_
              simp only [Act.put, List.setIfInBounds_toArray, List.set_cons_zero, List.set_cons_succ]
              refine alw_take (i := 17) (v := strV a3) rfl (by kernel_rfl) (by kernel_rfl) (fun _ _ _ h => h) (.inl ⟨by rfl, fun W hW => exec_move rfl rfl⟩) hS0 ?_
              simp only [Act.put, List.setIfInBounds_toArray, List.set_cons_zero, List.set_cons_succ]
              refine alw_take (i := 18) (v := .bool false) rfl (by kernel_rfl) (by kernel_rfl) (fun _ _ _ h => h) (.inl ⟨by rfl, fun W hW => exec_slss rfl rfl rfl HIN.out.1⟩) hS0 ?_
              simp only [Act.put, List.setIfInBounds_toArray, List.set_cons_zero, List.set_cons_succ]
              refine alw_take (i := 19) (v := .bool false) rfl (by kernel_rfl) (by kernel_rfl) (fun _ _ _ h => h) (.inl ⟨by rfl, fun W hW => ix_pickF rfl rfl rfl⟩) hS0 ?_
              simp only [Act.put, List.setIfInBounds_toArray, List.set_cons_zero, List.set_cons_succ]
              refine alw_take (i := 20) (v := .bool false) rfl (by kernel_rfl) (by kernel_rfl) (fun _ _ _ h => h) (.inl ⟨by rfl, fun W hW => exec_move rfl rfl⟩) hS0 ?_
              simp only [Act.put, List.setIfInBounds_toArray, List.set_cons_zero, List.set_cons_succ]
              refine alw_take (i := 21) (v := .slice (some ⟨b4, 0, none⟩) n1 cc1) rfl (by kernel_rfl) (by kernel_rfl) (fun _ _ _ h => h) (.inl ⟨by rfl, fun W hW => exec_move rfl rfl⟩) hS0 ?_
              simp only [Act.put, List.setIfInBounds_toArray, List.set_cons_zero, List.set_cons_succ]
              refine alw_take (i := 22) (v := .int .i64 ((j4 + 1) : Int)) rfl (by kernel_rfl) (by kernel_rfl) (fun _ _ _ h => h) (.inl ⟨by rfl, fun W hW => exec_move rfl rfl⟩) hS0 ?_
              simp only [Act.put, List.setIfInBounds_toArray, List.set_cons_zero, List.set_cons_succ]
              refine alw_take (i := 23) (v := .pointer (some ⟨b4, 0 + (j4 + 1) * 2, none⟩)) rfl (by kernel_rfl) (by kernel_rfl) (fun _ _ _ h => h) (.inl ⟨by rfl, fun W hW => gx_iaddr (i := (j4 + 1)) (sz := 2) rfl rfl rfl Try.underlying29 size_ref HLT4.out rfl⟩) hS0 ?_
              simp only [Act.put, List.setIfInBounds_toArray, List.set_cons_zero, List.set_cons_succ]
              refine alw_take (i := 24) (v := .pointer (some ⟨b4, 0 + (j4 + 1) * 2 + 0, none⟩)) rfl (by kernel_rfl) (by kernel_rfl) (fun _ _ _ h => h) (.inl ⟨by rfl, fun W hW => exec_field (off := 0 + (j4 + 1) * 2) (d := 0) rfl rfl (by kernel_rfl)⟩) hS0 ?_
              simp only [Act.put, List.setIfInBounds_toArray, List.set_cons_zero, List.set_cons_succ]
              refine alw_take (i := 25) (v := strV q.1) rfl (by kernel_rfl) (by kernel_rfl) (fun _ _ _ h => h) (.inl ⟨by rfl, fun W hW => exec_load1 rfl rfl (by kernel_rfl) hW.1⟩) hS0 ?_
              simp only [Act.put, List.setIfInBounds_toArray, List.set_cons_zero, List.set_cons_succ]
              refine alw_take (i := 26) (v := strV c1) rfl (by kernel_rfl) (by kernel_rfl) (fun _ _ _ h => h) (.inl ⟨by rfl, fun W hW => exec_move rfl rfl⟩) hS0 ?_
              simp only [Act.put, List.setIfInBounds_toArray, List.set_cons_zero, List.set_cons_succ]
              refine alw_take (i := 27) (v := .bool false) rfl (by kernel_rfl) (by kernel_rfl) (fun _ _ _ h => h) (.inl ⟨by rfl, fun W hW => exec_sgeq rfl rfl rfl (by rw [HIN.out.2]; rfl)⟩) hS0 ?_
              simp only [Act.put, List.setIfInBounds_toArray, List.set_cons_zero, List.set_cons_succ]
              refine alw_take (i := 28) (v := .bool false) rfl (by kernel_rfl) (by kernel_rfl) (fun _ _ _ h => h) (.inl ⟨by rfl, fun W hW => ix_pickF rfl rfl rfl⟩) hS0 ?_
              simp only [Act.put, List.setIfInBounds_toArray, List.set_cons_zero, List.set_cons_succ]
              refine alw_take (i := 29) (v := .bool false) rfl (by kernel_rfl) (by kernel_rfl) (fun _ _ _ h => h) (.inl ⟨by rfl, fun W hW => exec_move rfl rfl⟩) hS0 ?_
              simp only [Act.put, List.setIfInBounds_toArray, List.set_cons_zero, List.set_cons_succ]
              refine alw_take (i := 30) (v := .int .i64 ((j4 + 1) : Int)) rfl (by kernel_rfl) (by kernel_rfl) (fun _ _ _ h => h) (.inl ⟨by rfl, fun W hW => exec_move rfl rfl⟩) hS0 ?_
              simp only [Act.put, List.setIfInBounds_toArray, List.set_cons_zero, List.set_cons_succ]
              refine alw_take (i := 31) (v := .bool true) rfl (by kernel_rfl) (by kernel_rfl) (fun _ _ _ h => h) (.inl ⟨by rfl, fun W hW => ix_gtr rfl rfl rfl (decide_eq_true (by omega))⟩) hS0 ?_
              simp only [Act.put, List.setIfInBounds_toArray, List.set_cons_zero, List.set_cons_succ]
              refine alw_take (i := 32) (v := .bool true) rfl (by kernel_rfl) (by kernel_rfl) (fun _ _ _ h => h) (.inl ⟨by rfl, fun W hW => exec_move rfl rfl⟩) hS0 ?_
              simp only [Act.put, List.setIfInBounds_toArray, List.set_cons_zero, List.set_cons_succ]
              refine alw_take (i := 33) (v := .slice (some ⟨b4, 0, none⟩) n1 cc1) rfl (by kernel_rfl) (by kernel_rfl) (fun _ _ _ h => h) (.inl ⟨by rfl, fun W hW => exec_move rfl rfl⟩) hS0 ?_
              simp only [Act.put, List.setIfInBounds_toArray, List.set_cons_zero, List.set_cons_succ]
              refine alw_take (i := 34) (v := .int .i64 ((j4 + 1) : Int)) rfl (by kernel_rfl) (by kernel_rfl) (fun _ _ _ h => h) (.inl ⟨by rfl, fun W hW => exec_move rfl rfl⟩) hS0 ?_
              simp only [Act.put, List.setIfInBounds_toArray, List.set_cons_zero, List.set_cons_succ]
              refine alw_take (i := 35) (v := .pointer (some ⟨b4, 0 + (j4 + 1) * 2, none⟩)) rfl (by kernel_rfl) (by kernel_rfl) (fun _ _ _ h => h) (.inl ⟨by rfl, fun W hW => gx_iaddr (i := (j4 + 1)) (sz := 2) rfl rfl rfl Try.underlying29 size_ref HLT4.out rfl⟩) hS0 ?_
              simp only [Act.put, List.setIfInBounds_toArray, List.set_cons_zero, List.set_cons_succ]
              refine alw_take (i := 36) (v := .pointer (some ⟨b4, 0 + (j4 + 1) * 2 + 0, none⟩)) rfl (by kernel_rfl) (by kernel_rfl) (fun _ _ _ h => h) (.inl ⟨by rfl, fun W hW => exec_field (off := 0 + (j4 + 1) * 2) (d := 0) rfl rfl (by kernel_rfl)⟩) hS0 ?_
              simp only [Act.put, List.setIfInBounds_toArray, List.set_cons_zero, List.set_cons_succ]
              refine alw_take (i := 37) (v := strV q.1) rfl (by kernel_rfl) (by kernel_rfl) (fun _ _ _ h => h) (.inl ⟨by rfl, fun W hW => exec_load1 rfl rfl (by kernel_rfl) hW.1⟩) hS0 ?_
              simp only [Act.put, List.setIfInBounds_toArray, List.set_cons_zero, List.set_cons_succ]
              refine alw_take (i := 38) (v := .slice (some ⟨b4, 0, none⟩) n1 cc1) rfl (by kernel_rfl) (by kernel_rfl) (fun _ _ _ h => h) (.inl ⟨by rfl, fun W hW => exec_move rfl rfl⟩) hS0 ?_
              simp only [Act.put, List.setIfInBounds_toArray, List.set_cons_zero, List.set_cons_succ]
              refine alw_take (i := 39) (v := .int .i64 ((j4 + 1) : Int)) rfl (by kernel_rfl) (by kernel_rfl) (fun _ _ _ h => h) (.inl ⟨by rfl, fun W hW => exec_move rfl rfl⟩) hS0 ?_
              simp only [Act.put, List.setIfInBounds_toArray, List.set_cons_zero, List.set_cons_succ]
              refine alw_take (i := 40) (v := .int .i64 (j4 : Int)) rfl (by kernel_rfl) (by kernel_rfl) (fun _ _ _ h => h) (.inl ⟨by rfl, fun W hW => ix_sub rfl rfl rfl (by omega) (by omega)⟩) hS0 ?_
              simp only [Act.put, List.setIfInBounds_toArray, List.set_cons_zero, List.set_cons_succ]
              refine alw_take (i := 41) (v := .pointer (some ⟨b4, 0 + j4 * 2, none⟩)) rfl (by kernel_rfl) (by kernel_rfl) (fun _ _ _ h => h) (.inl ⟨by rfl, fun W hW => gx_iaddr (i := j4) (sz := 2) rfl rfl rfl Try.underlying29 size_ref HLTJ.out rfl⟩) hS0 ?_
              simp only [Act.put, List.setIfInBounds_toArray, List.set_cons_zero, List.set_cons_succ]
              refine alw_take (i := 42) (v := .pointer (some ⟨b4, 0 + j4 * 2 + 0, none⟩)) rfl (by kernel_rfl) (by kernel_rfl) (fun _ _ _ h => h) (.inl ⟨by rfl, fun W hW => exec_field (off := 0 + j4 * 2) (d := 0) rfl rfl (by kernel_rfl)⟩) hS0 ?_
              simp only [Act.put, List.setIfInBounds_toArray, List.set_cons_zero, List.set_cons_succ]
              refine alw_take (i := 43) (v := strV p.1) rfl (by kernel_rfl) (by kernel_rfl) (fun _ _ _ h => h) (.inl ⟨by rfl, fun W hW => exec_load1 rfl rfl (by kernel_rfl) hW.2.2⟩) hS0 ?_
              simp only [Act.put, List.setIfInBounds_toArray, List.set_cons_zero, List.set_cons_succ]
              refine alw_take (i := 44) (v := .bool false) rfl (by kernel_rfl) (by kernel_rfl) (fun _ _ _ h => h) (.inl ⟨by rfl, fun W hW => exec_sleq rfl rfl rfl (by rw [HPQ.out]; rfl)⟩) hS0 ?_
              simp only [Act.put, List.setIfInBounds_toArray, List.set_cons_zero, List.set_cons_succ]
              refine alw_take (i := 45) (v := .bool false) rfl (by kernel_rfl) (by kernel_rfl) (fun _ _ _ h => h) (.inl ⟨by rfl, fun W hW => ix_pickT rfl rfl rfl⟩) hS0 ?_
              simp only [Act.put, List.setIfInBounds_toArray, List.set_cons_zero, List.set_cons_succ]
              refine alw_take (i := 46) (v := .bool false) rfl (by kernel_rfl) (by kernel_rfl) (fun _ _ _ h => h) (.inl ⟨by rfl, fun W hW => ix_pickF rfl rfl rfl⟩) hS0 ?_
              simp only [Act.put, List.setIfInBounds_toArray, List.set_cons_zero, List.set_cons_succ]
              refine alw_done rfl ?_
              refine NoPanic.normal ?_
              clear hS0
              try simp only [Act.put, List.setIfInBounds_toArray, List.set_cons_zero, List.set_cons_succ]
              have HT16d := Lib.hid (HT16.out.drew)
              go_upto_region 24 with fail
              refine wp_region_lit ?_
              refine wpList_run (v := .int .i64 ((j4 + 1) : Int)) (wanted_none rfl) (exec_move rfl rfl) ?_
              simp only [Act.put, List.setIfInBounds_toArray, List.set_cons_zero, List.set_cons_succ]
              refine wpList_run (v := .int .i64 (((j4 + 1) + 1 : Nat) : Int)) (wanted_none rfl) (ix_add rfl rfl rfl (by omega) (by omega)) ?_
              simp only [Act.put, List.setIfInBounds_toArray, List.set_cons_zero, List.set_cons_succ]
              refine wpList_run (v := .int .i64 (((j4 + 1) + 1 : Nat) : Int)) (wanted_none rfl) (gx_assign rfl rfl) ?_
              simp only [Act.put, List.setIfInBounds_toArray, List.set_cons_zero, List.set_cons_succ]
              go_wp2_with fail
              go_roundg (n1 - ((j4 + 1) + 1))
              case measure => have := HGK4.out; have := HLT4.out; omega
              case rel => exact ⟨(j4 + 1) + 1, rfl, by have := HLT4.out; omega, HT16d.out⟩
            · obtain rfl : i4 = 0 := by omega
              clear h0
              go_upto_region 26 with fail
              refine wp_region_alw (fun W => W.cell? ⟨b4, 0 + 0 * 2 + 0, none⟩ = some (strV q.1) ∧ W.cell? ⟨b4, 0 + 0 * 2 + 1, none⟩ = some (.int .i64 q.2)) (by kernel_rfl) ?_
              have hS0 := And.intro (HR4k.out.1.el0 (r := encP q) (by rw [List.getElem?_map, HQ4.out]; rfl) 0 _ rfl) (HR4k.out.1.el0 (r := encP q) (by rw [List.getElem?_map, HQ4.out]; rfl) 1 _ rfl)
              refine alw_take (i := 0) (v := .bool true) rfl (by kernel_rfl) (by kernel_rfl) (fun _ _ _ h => h) (.inl ⟨by rfl, fun W hW => exec_move rfl rfl⟩) hS0 ?_
              simp only [Act.put, List.setIfInBounds_toArray, List.set_cons_zero, List.set_cons_succ]
              refine alw_take (i := 1) (v := .bool false) rfl (by kernel_rfl) (by kernel_rfl) (fun _ _ _ h => h) (.inl ⟨by rfl, fun W hW => ix_not (b := true) rfl rfl⟩) hS0 ?_
              simp only [Act.put, List.setIfInBounds_toArray, List.set_cons_zero, List.set_cons_succ]
              refine alw_take (i := 2) (v := .bool false) rfl (by kernel_rfl) (by kernel_rfl) (fun _ _ _ h => h) (.inl ⟨by rfl, fun W hW => exec_move rfl rfl⟩) hS0 ?_
              simp only [Act.put, List.setIfInBounds_toArray, List.set_cons_zero, List.set_cons_succ]
              refine alw_take (i := 3) (v := .int .i64 q.2) rfl (by kernel_rfl) (by kernel_rfl) (fun _ _ _ h => h) (.inl ⟨by rfl, fun W hW => exec_move rfl rfl⟩) hS0 ?_
              simp only [Act.put, List.setIfInBounds_toArray, List.set_cons_zero, List.set_cons_succ]
              refine alw_take (i := 4) (v := .slice (some ⟨b4, 0, none⟩) n1 cc1) rfl (by kernel_rfl) (by kernel_rfl) (fun _ _ _ h => h) (.inl ⟨by rfl, fun W hW => exec_move rfl rfl⟩) hS0 ?_
              simp only [Act.put, List.setIfInBounds_toArray, List.set_cons_zero, List.set_cons_succ]
              refine alw_take (i := 5) (v := .int .i64 ((0 : Nat) : Int)) rfl (by kernel_rfl) (by kernel_rfl) (fun _ _ _ h => h) (.inl ⟨by rfl, fun W hW => exec_move rfl rfl⟩) hS0 ?_
              simp only [Act.put, List.setIfInBounds_toArray, List.set_cons_zero, List.set_cons_succ]
              refine alw_take (i := 6) (v := .pointer (some ⟨b4, 0 + 0 * 2, none⟩)) rfl (by kernel_rfl) (by kernel_rfl) (fun _ _ _ h => h) (.inl ⟨by rfl, fun W hW => gx_iaddr (i := 0) (sz := 2) rfl rfl rfl Try.underlying29 size_ref HLT4.out rfl⟩) hS0 ?_
              simp only [Act.put, List.setIfInBounds_toArray, List.set_cons_zero, List.set_cons_succ]
              refine alw_take (i := 7) (v := .pointer (some ⟨b4, 0 + 0 * 2 + 1, none⟩)) rfl (by kernel_rfl) (by kernel_rfl) (fun _ _ _ h => h) (.inl ⟨by rfl, fun W hW => exec_field (off := 0 + 0 * 2) (d := 1) rfl rfl (by kernel_rfl)⟩) hS0 ?_
              simp only [Act.put, List.setIfInBounds_toArray, List.set_cons_zero, List.set_cons_succ]
              refine alw_take (i := 8) (v := .int .i64 q.2) rfl (by kernel_rfl) (by kernel_rfl) (fun _ _ _ h => h) (.inl ⟨by rfl, fun W hW => exec_load1 rfl rfl (by kernel_rfl) hW.2⟩) hS0 ?_
              simp only [Act.put, List.setIfInBounds_toArray, List.set_cons_zero, List.set_cons_succ]
              refine alw_take (i := 9) (v := .bool false) rfl (by kernel_rfl) (by kernel_rfl) (fun _ _ _ h => h) (.inl ⟨by rfl, fun W hW => ix_neq rfl rfl rfl (decide_eq_false (fun e => e rfl))⟩) hS0 ?_
              simp only [Act.put, List.setIfInBounds_toArray, List.set_cons_zero, List.set_cons_succ]
              refine alw_take (i := 10) (v := .bool false) rfl (by kernel_rfl) (by kernel_rfl) (fun _ _ _ h => h) (.inl ⟨by rfl, fun W hW => ix_pickF rfl rfl rfl⟩) hS0 ?_
              simp only [Act.put, List.setIfInBounds_toArray, List.set_cons_zero, List.set_cons_succ]
              refine alw_take (i := 11) (v := .bool false) rfl (by kernel_rfl) (by kernel_rfl) (fun _ _ _ h => h) (.inl ⟨by rfl, fun W hW => exec_move rfl rfl⟩) hS0 ?_
              simp only [Act.put, List.setIfInBounds_toArray, List.set_cons_zero, List.set_cons_succ]
              refine alw_take (i := 12) (v := .slice (some ⟨b4, 0, none⟩) n1 cc1) rfl (by kernel_rfl) (by kernel_rfl) (fun _ _ _ h => h) (.inl ⟨by rfl, fun W hW => exec_move rfl rfl⟩) hS0 ?_
              simp only [Act.put, List.setIfInBounds_toArray, List.set_cons_zero, List.set_cons_succ]
              refine alw_take (i := 13) (v := .int .i64 ((0 : Nat) : Int)) rfl (by kernel_rfl) (by kernel_rfl) (fun _ _ _ h => h) (.inl ⟨by rfl, fun W hW => exec_move rfl rfl⟩) hS0 ?_
              simp only [Act.put, List.setIfInBounds_toArray, List.set_cons_zero, List.set_cons_succ]
              refine alw_take (i := 14) (v := .pointer (some ⟨b4, 0 + 0 * 2, none⟩)) rfl (by kernel_rfl) (by kernel_rfl) (fun _ _ _ h => h) (.inl ⟨by rfl, fun W hW => gx_iaddr (i := 0) (sz := 2) rfl rfl rfl Try.underlying29 size_ref HLT4.out rfl⟩) hS0 ?_
              simp only [Act.put, List.setIfInBounds_toArray, List.set_cons_zero, List.set_cons_succ]
              refine alw_take (i := 15) (v := .pointer (some ⟨b4, 0 + 0 * 2 + 0, none⟩)) rfl (by kernel_rfl) (by kernel_rfl) (fun _ _ _ h => h) (.inl ⟨by rfl, fun W hW => exec_field (off := 0 + 0 * 2) (d := 0) rfl rfl (by kernel_rfl)⟩) hS0 ?_
              simp only [Act.put, List.setIfInBounds_toArray, List.set_cons_zero, List.set_cons_succ]
              refine alw_take (i := 16) (v := strV q.1) rfl (by kernel_rfl) (by kernel_rfl) (fun _ _ _ h => h) (.inl ⟨by rfl, fun W hW => exec_load1 rfl rfl (by kernel_rfl) hW.1⟩) hS0 ?_
              simp only [Act.put, List.setIfInBounds_toArray, List.set_cons_zero, List.set_cons_succ]
              refine alw_take (i := 17) (v := strV a3) rfl (by kernel_rfl) (by kernel_rfl) (fun _ _ _ h => h) (.inl ⟨by rfl, fun W hW => exec_move rfl rfl⟩) hS0 ?_
              simp only [Act.put, List.setIfInBounds_toArray, List.set_cons_zero, List.set_cons_succ]
              refine alw_take (i := 18) (v := .bool false) rfl (by kernel_rfl) (by kernel_rfl) (fun _ _ _ h => h) (.inl ⟨by rfl, fun W hW => exec_slss rfl rfl rfl HIN.out.1⟩) hS0 ?_
              simp only [Act.put, List.setIfInBounds_toArray, List.set_cons_zero, List.set_cons_succ]
              refine alw_take (i := 19) (v := .bool false) rfl (by kernel_rfl) (by kernel_rfl) (fun _ _ _ h => h) (.inl ⟨by rfl, fun W hW => ix_pickF rfl rfl rfl⟩) hS0 ?_
              simp only [Act.put, List.setIfInBounds_toArray, List.set_cons_zero, List.set_cons_succ]
              refine alw_take (i := 20) (v := .bool false) rfl (by kernel_rfl) (by kernel_rfl) (fun _ _ _ h => h) (.inl ⟨by rfl, fun W hW => exec_move rfl rfl⟩) hS0 ?_
              simp only [Act.put, List.setIfInBounds_toArray, List.set_cons_zero, List.set_cons_succ]
              refine alw_take (i := 21) (v := .slice (some ⟨b4, 0, none⟩) n1 cc1) rfl (by kernel_rfl) (by kernel_rfl) (fun _ _ _ h => h) (.inl ⟨by rfl, fun W hW => exec_move rfl rfl⟩) hS0 ?_
              simp only [Act.put, List.setIfInBounds_toArray, List.set_cons_zero, List.set_cons_succ]
              refine alw_take (i := 22) (v := .int .i64 ((0 : Nat) : Int)) rfl (by kernel_rfl) (by kernel_rfl) (fun _ _ _ h => h) (.inl ⟨by rfl, fun W hW => exec_move rfl rfl⟩) hS0 ?_
              simp only [Act.put, List.setIfInBounds_toArray, List.set_cons_zero, List.set_cons_succ]
              refine alw_take (i := 23) (v := .pointer (some ⟨b4, 0 + 0 * 2, none⟩)) rfl (by kernel_rfl) (by kernel_rfl) (fun _ _ _ h => h) (.inl ⟨by rfl, fun W hW => gx_iaddr (i := 0) (sz := 2) rfl rfl rfl Try.underlying29 size_ref HLT4.out rfl⟩) hS0 ?_
              simp only [Act.put, List.setIfInBounds_toArray, List.set_cons_zero, List.set_cons_succ]
              refine alw_take (i := 24) (v := .pointer (some ⟨b4, 0 + 0 * 2 + 0, none⟩)) rfl (by kernel_rfl) (by kernel_rfl) (fun _ _ _ h => h) (.inl ⟨by rfl, fun W hW => exec_field (off := 0 + 0 * 2) (d := 0) rfl rfl (by kernel_rfl)⟩) hS0 ?_
              simp only [Act.put, List.setIfInBounds_toArray, List.set_cons_zero, List.set_cons_succ]
              refine alw_take (i := 25) (v := strV q.1) rfl (by kernel_rfl) (by kernel_rfl) (fun _ _ _ h => h) (.inl ⟨by rfl, fun W hW => exec_load1 rfl rfl (by kernel_rfl) hW.1⟩) hS0 ?_
              simp only [Act.put, List.setIfInBounds_toArray, List.set_cons_zero, List.set_cons_succ]
              refine alw_take (i := 26) (v := strV c1) rfl (by kernel_rfl) (by kernel_rfl) (fun _ _ _ h => h) (.inl ⟨by rfl, fun W hW => exec_move rfl rfl⟩) hS0 ?_
              simp only [Act.put, List.setIfInBounds_toArray, List.set_cons_zero, List.set_cons_succ]
              refine alw_take (i := 27) (v := .bool false) rfl (by kernel_rfl) (by kernel_rfl) (fun _ _ _ h => h) (.inl ⟨by rfl, fun W hW => exec_sgeq rfl rfl rfl (by rw [HIN.out.2]; rfl)⟩) hS0 ?_
              simp only [Act.put, List.setIfInBounds_toArray, List.set_cons_zero, List.set_cons_succ]
              refine alw_take (i := 28) (v := .bool false) rfl (by kernel_rfl) (by kernel_rfl) (fun _ _ _ h => h) (.inl ⟨by rfl, fun W hW => ix_pickF rfl rfl rfl⟩) hS0 ?_
              simp only [Act.put, List.setIfInBounds_toArray, List.set_cons_zero, List.set_cons_succ]
              refine alw_take (i := 29) (v := .bool false) rfl (by kernel_rfl) (by kernel_rfl) (fun _ _ _ h => h) (.inl ⟨by rfl, fun W hW => exec_move rfl rfl⟩) hS0 ?_
              simp only [Act.put, List.setIfInBounds_toArray, List.set_cons_zero, List.set_cons_succ]
              refine alw_take (i := 30) (v := .int .i64 ((0 : Nat) : Int)) rfl (by kernel_rfl) (by kernel_rfl) (fun _ _ _ h => h) (.inl ⟨by rfl, fun W hW => exec_move rfl rfl⟩) hS0 ?_
              simp only [Act.put, List.setIfInBounds_toArray, List.set_cons_zero, List.set_cons_succ]
              refine alw_take (i := 31) (v := .bool false) rfl (by kernel_rfl) (by kernel_rfl) (fun _ _ _ h => h) (.inl ⟨by rfl, fun W hW => ix_gtr rfl rfl rfl (by decide)⟩) hS0 ?_
              simp only [Act.put, List.setIfInBounds_toArray, List.set_cons_zero, List.set_cons_succ]
              refine alw_take (i := 32) (v := .bool false) rfl (by kernel_rfl) (by kernel_rfl) (fun _ _ _ h => h) (.inl ⟨by rfl, fun W hW => exec_move rfl rfl⟩) hS0 ?_
              simp only [Act.put, List.setIfInBounds_toArray, List.set_cons_zero, List.set_cons_succ]
              refine alw_take (i := 33) (v := undef) rfl (by kernel_rfl) (by kernel_rfl) (fun _ _ _ h => h) (.inr ⟨by rfl, rfl⟩) hS0 ?_
              simp only [Act.put, List.setIfInBounds_toArray, List.set_cons_zero, List.set_cons_succ]
              refine alw_take (i := 34) (v := undef) rfl (by kernel_rfl) (by kernel_rfl) (fun _ _ _ h => h) (.inr ⟨by rfl, rfl⟩) hS0 ?_
              simp only [Act.put, List.setIfInBounds_toArray, List.set_cons_zero, List.set_cons_succ]
              refine alw_take (i := 35) (v := undef) rfl (by kernel_rfl) (by kernel_rfl) (fun _ _ _ h => h) (.inr ⟨by rfl, rfl⟩) hS0 ?_
              simp only [Act.put, List.setIfInBounds_toArray, List.set_cons_zero, List.set_cons_succ]
              refine alw_take (i := 36) (v := undef) rfl (by kernel_rfl) (by kernel_rfl) (fun _ _ _ h => h) (.inr ⟨by rfl, rfl⟩) hS0 ?_
              simp only [Act.put, List.setIfInBounds_toArray, List.set_cons_zero, List.set_cons_succ]
              refine alw_take (i := 37) (v := undef) rfl (by kernel_rfl) (by kernel_rfl) (fun _ _ _ h => h) (.inr ⟨by rfl, rfl⟩) hS0 ?_
              simp only [Act.put, List.setIfInBounds_toArray, List.set_cons_zero, List.set_cons_succ]
              refine alw_take (i := 38) (v := undef) rfl (by kernel_rfl) (by kernel_rfl) (fun _ _ _ h => h) (.inr ⟨by rfl, rfl⟩) hS0 ?_
              simp only [Act.put, List.setIfInBounds_toArray, List.set_cons_zero, List.set_cons_succ]
              refine alw_take (i := 39) (v := undef) rfl (by kernel_rfl) (by kernel_rfl) (fun _ _ _ h => h) (.inr ⟨by rfl, rfl⟩) hS0 ?_
              simp only [Act.put, List.setIfInBounds_toArray, List.set_cons_zero, List.set_cons_succ]
              refine alw_take (i := 40) (v := undef) rfl (by kernel_rfl) (by kernel_rfl) (fun _ _ _ h => h) (.inr ⟨by rfl, rfl⟩) hS0 ?_
              simp only [Act.put, List.setIfInBounds_toArray, List.set_cons_zero, List.set_cons_succ]
              refine alw_take (i := 41) (v := undef) rfl (by kernel_rfl) (by kernel_rfl) (fun _ _ _ h => h) (.inr ⟨by rfl, rfl⟩) hS0 ?_
              simp only [Act.put, List.setIfInBounds_toArray, List.set_cons_zero, List.set_cons_succ]
              refine alw_take (i := 42) (v := undef) rfl (by kernel_rfl) (by kernel_rfl) (fun _ _ _ h => h) (.inr ⟨by rfl, rfl⟩) hS0 ?_
              simp only [Act.put, List.setIfInBounds_toArray, List.set_cons_zero, List.set_cons_succ]
              refine alw_take (i := 43) (v := undef) rfl (by kernel_rfl) (by kernel_rfl) (fun _ _ _ h => h) (.inr ⟨by rfl, rfl⟩) hS0 ?_
              simp only [Act.put, List.setIfInBounds_toArray, List.set_cons_zero, List.set_cons_succ]
              refine alw_take (i := 44) (v := undef) rfl (by kernel_rfl) (by kernel_rfl) (fun _ _ _ h => h) (.inr ⟨by rfl, rfl⟩) hS0 ?_
              simp only [Act.put, List.setIfInBounds_toArray, List.set_cons_zero, List.set_cons_succ]
              refine alw_take (i := 45) (v := .bool false) rfl (by kernel_rfl) (by kernel_rfl) (fun _ _ _ h => h) (.inl ⟨by rfl, fun W hW => ix_pickF rfl rfl rfl⟩) hS0 ?_
              simp only [Act.put, List.setIfInBounds_toArray, List.set_cons_zero, List.set_cons_succ]
              refine alw_take (i := 46) (v := .bool false) rfl (by kernel_rfl) (by kernel_rfl) (fun _ _ _ h => h) (.inl ⟨by rfl, fun W hW => ix_pickF rfl rfl rfl⟩) hS0 ?_
              simp only [Act.put, List.setIfInBounds_toArray, List.set_cons_zero, List.set_cons_succ]
              refine alw_done rfl ?_
              refine NoPanic.normal ?_
              clear hS0
              try simp only [Act.put, List.setIfInBounds_toArray, List.set_cons_zero, List.set_cons_succ]
              have HT16d := Lib.hid (HT16.out.drew)
              go_upto_region 24 with fail
              refine wp_region_lit ?_
              refine wpList_run (v := .int .i64 ((0 : Nat) : Int)) (wanted_none rfl) (exec_move rfl rfl) ?_
              simp only [Act.put, List.setIfInBounds_toArray, List.set_cons_zero, List.set_cons_succ]
              refine wpList_run (v := .int .i64 ((0 + 1 : Nat) : Int)) (wanted_none rfl) (ix_add rfl rfl rfl (by omega) (by omega)) ?_
              simp only [Act.put, List.setIfInBounds_toArray, List.set_cons_zero, List.set_cons_succ]
              refine wpList_run (v := .int .i64 ((0 + 1 : Nat) : Int)) (wanted_none rfl) (gx_assign rfl rfl) ?_
              simp only [Act.put, List.setIfInBounds_toArray, List.set_cons_zero, List.set_cons_succ]
              go_wp2_with fail
              go_roundg (n1 - (0 + 1))
              case measure => have := HGK4.out; have := HLT4.out; omega
              case rel => exact ⟨0 + 1, rfl, by have := HLT4.out; omega, HT16d.out⟩
          · obtain rfl : n1 = i4 := by have := HGK4.out; omega
            clear hlt
            go_upto_region 23 with fail
            refine wp_region_lit ?_
            refine wpList_run (v := .int .i64 (n1 : Int)) (wanted_none rfl) (exec_move rfl rfl) ?_
            simp only [Act.put, List.setIfInBounds_toArray, List.set_cons_zero, List.set_cons_succ]
            refine wpList_run (v := .slice A1 n1 cc1) (wanted_none rfl) (exec_move rfl rfl) ?_
            simp only [Act.put, List.setIfInBounds_toArray, List.set_cons_zero, List.set_cons_succ]
            refine wpList_run (v := .int .i64 (n1 : Int)) (wanted_none rfl) (gx_len rfl rfl Try.underlying29) ?_
            simp only [Act.put, List.setIfInBounds_toArray, List.set_cons_zero, List.set_cons_succ]
            refine wpList_run (v := .bool false) (wanted_none rfl) (ix_lss rfl rfl rfl (decide_eq_false (by omega))) ?_
            simp only [Act.put, List.setIfInBounds_toArray, List.set_cons_zero, List.set_cons_succ]
            have HSM := Lib.hid (same_walk (HR1d.out.1.still HTR4.out) (HROW8.out.still HTR4.out) (by rw [← HN1.out]; omega))
            go_upto_region 28 with fail
            refine wp_region_lit ?_
            refine wpList_run (v := .slice A1 n1 cc1) (wanted_none rfl) (exec_move rfl rfl) ?_
            simp only [Act.put, List.setIfInBounds_toArray, List.set_cons_zero, List.set_cons_succ]
            refine wpList_run (v := .slice A8 n8 c8) (wanted_none rfl) (exec_move rfl rfl) ?_
            simp only [Act.put, List.setIfInBounds_toArray, List.set_cons_zero, List.set_cons_succ]
            refine wpList_op rfl fun K9 HK9 => ?_
            go_wp2_with fail
            refine (HSM.out).mono ?_
            rintro e w17 ⟨rfl, ht17⟩
            refine HK9.out _ _ ?_
            clear HK9
            try simp only [Act.put, List.setIfInBounds_toArray, List.set_cons_zero, List.set_cons_succ]
            have HT17 := Lib.hid (HTR4.out.trans ht17 fun _ _ e => e)
            clear ht17 HSM
            refine wpList_run (v := .bool true) (wanted_none rfl) (gx_assign rfl rfl) ?_
            simp only [Act.put, List.setIfInBounds_toArray, List.set_cons_zero, List.set_cons_succ]
            go_wp2_with fail
            go_ret
            exact ⟨rfl, HT0.out.trans (HF8.out.1.trans HT17.out fun _ _ e => e) fun _ _ e => e⟩
theorem indexRanges_walk (A : Option Addr) (m cap : Nat) (ks : List (List UInt8)) (e0 e1 e2 : List UInt8) (W : World) (hk : Rws W 1 A m (ks.map fun k => [strV k])) (hkl : ∀ k ∈ ks, k.length ≤ 281474976710656) :
    Calls Try.prog 6 #[.slice A m cap, .agg #[strV e0, strV e1, strV e2]] W fun e W' => e = .returned (.bool true) ∧ Below W.heap.size W W' :=
  (ranges_walk hk hkl).mono fun e W' h => ⟨h.1, h.2.below (Nat.le_refl _) fun _ _ e => e⟩
end Go.Proofs.Ytmlkdkbpbleilaa
