/-
  Index: slices.BinarySearchFunc at a node's pairs. No conditions.
-/
import Derived.Test.YtmlkdkbpbleilaaIxB
namespace Go.Proofs.Ytmlkdkbpbleilaa
open Go.RowKit
open Ix
set_option linter.unusedVariables false
set_option linter.unusedSimpArgs false
def hit (k : Key) (l : List Pr) : Bool := decide ((l[fnd k l]?).map (·.1) = some k)
def fndV : Value := .func (.func 48) #[] #[]
set_option maxRecDepth 20000 in
set_option maxHeartbeats 1000000 in
theorem search_walk {w : World} {A : Option Addr} {n c : Nat} {l : List Pr} {k : Key} (hb : Rws w 2 A n (l.map encP)) (hs : Srt l) :
    Calls Try.prog 47 #[.slice A n c, strV k, fndV] w fun e w' => e = .returned (.tuple #[.int .i64 (fnd k l : Int), .bool (hit k l)]) ∧ Turn nowhere w w' := by
  have hn : l.length = n := by have := hb.1; rwa [List.length_map] at this
  have HB := Lib.hid hb
  have HS := Lib.hid hs
  have HN := Lib.hid hn
  have HFL := Lib.hid (fnd_le k l)
  have y9 : (n : Int) ≤ 140737488355328 := by
    have := hb.2.2.1
    omega
  clear hb hs hn
  unfold fndV
  go_enter Try.func47, Try.ntmps47
  go_upto_region 1 with fail
  refine wp_region_lit ?_
  refine wpList_run (v := .slice A n c) rfl (exec_move rfl rfl) ?_
  simp only [Act.put, List.setIfInBounds_toArray, List.set_cons_zero, List.set_cons_succ]
  refine wpList_run (v := .int .i64 (n : Int)) rfl (gx_len rfl rfl Try.underlying59) ?_
  simp only [Act.put, List.setIfInBounds_toArray, List.set_cons_zero, List.set_cons_succ]
  refine wpList_run (v := .int .i64 (n : Int)) rfl (gx_assign rfl rfl) ?_
  simp only [Act.put, List.setIfInBounds_toArray, List.set_cons_zero, List.set_cons_succ]
  go_upto_region 2 with fail
  refine wp_region_lit ?_
  refine wpList_run (v := .int .i64 (n : Int)) rfl (exec_move rfl rfl) ?_
  simp only [Act.put, List.setIfInBounds_toArray, List.set_cons_zero, List.set_cons_succ]
  refine wpList_run (v := .int .i64 0) rfl (gx_assign rfl rfl) ?_
  simp only [Act.put, List.setIfInBounds_toArray, List.set_cons_zero, List.set_cons_succ]
  refine wpList_run (v := .int .i64 (n : Int)) rfl (gx_assign rfl rfl) ?_
  simp only [Act.put, List.setIfInBounds_toArray, List.set_cons_zero, List.set_cons_succ]
  go_wp2_with fail
  go_loopg [9, 10] n (fun gk iv jv wr => ∃ i j : Nat, j - i = gk ∧ iv = .int .i64 (i : Int) ∧ jv = .int .i64 (j : Int) ∧ i ≤ fnd k l ∧ fnd k l ≤ j ∧ j ≤ n ∧ Turn nowhere w wr)
  case atStart => exact ⟨0, n, by omega, rfl, rfl, Nat.zero_le _, by have := HFL.out; rw [HN.out] at this; exact this, Nat.le_refl _, Turn.refl _ _⟩
  obtain ⟨i, j, hgk, rfl, rfl, hif, hfj, hjn, htr⟩ := hrel
  have HGK := Lib.hid hgk
  have HTR := Lib.hid htr
  have HIF := Lib.hid hif
  have HFJ := Lib.hid hfj
  have HJN := Lib.hid hjn
  have z1 : (i : Int) ≤ (j : Int) := by omega
  have z2 : (j : Int) ≤ (n : Int) := by omega
  clear hgk htr hif hfj hjn
  go_upto_region 3 with fail
  refine wp_region_lit ?_
  by_cases hlt : i < j
  · have HLT := Lib.hid hlt
    have z3 : (i : Int) < (j : Int) := by omega
    obtain ⟨m, hm⟩ : ∃ m, m = (i + j) / 2 := ⟨_, rfl⟩
    have HMI := Lib.hid (show i ≤ m from by omega)
    have HMJ := Lib.hid (show m < j from by omega)
    have HM := Lib.hid hm
    obtain ⟨bF, oF, hA, hr⟩ := HB.out.2.2.2 (by have := HJN.out; omega)
    subst hA
    obtain ⟨p, hp⟩ : ∃ p, l[m]? = some p := ⟨_, List.getElem?_eq_getElem (show m < l.length from by rw [HN.out]; have := HMJ.out; have := HJN.out; omega)⟩
    have HRR := Lib.hid (show wr.rangeAt bF (oF + m * 2) (encP p) from fun q v hv => (HTR.out.cell (World.block_lt_of_cell? _ _ (hr m (encP p) (by rw [List.getElem?_map, hp]; rfl) q v hv)) (fun e => e)).trans (hr m (encP p) (by rw [List.getElem?_map, hp]; rfl) q v hv))
    have HST := Lib.hid (fnd_lt (k := k) HS.out hp)
    have HMN := Lib.hid (show m < n from by have := HMJ.out; have := HJN.out; omega)
    clear hr hp hlt hm
    refine wpList_run (v := .int .i64 (i : Int)) rfl (exec_move rfl rfl) ?_
    simp only [Act.put, List.setIfInBounds_toArray, List.set_cons_zero, List.set_cons_succ]
    refine wpList_run (v := .int .i64 (j : Int)) rfl (exec_move rfl rfl) ?_
    simp only [Act.put, List.setIfInBounds_toArray, List.set_cons_zero, List.set_cons_succ]
    refine wpList_run (v := .bool true) rfl (ix_lss rfl rfl rfl (decide_eq_true z3)) ?_
    simp only [Act.put, List.setIfInBounds_toArray, List.set_cons_zero, List.set_cons_succ]
    go_upto_region 4 with fail
    refine wp_region_lit ?_
    refine wpList_run (v := .int .i64 (i : Int)) rfl (exec_move rfl rfl) ?_
    simp only [Act.put, List.setIfInBounds_toArray, List.set_cons_zero, List.set_cons_succ]
    refine wpList_run (v := .int .i64 (j : Int)) rfl (exec_move rfl rfl) ?_
    simp only [Act.put, List.setIfInBounds_toArray, List.set_cons_zero, List.set_cons_succ]
    refine wpList_run (v := .int .i64 ((i + j : Nat) : Int)) rfl (ix_add rfl rfl rfl (by omega) (by omega)) ?_
    simp only [Act.put, List.setIfInBounds_toArray, List.set_cons_zero, List.set_cons_succ]
    refine wpList_run (v := .int .u64 ((i + j : Nat) : Int)) rfl (ix_mid rfl rfl (by omega)) ?_
    simp only [Act.put, List.setIfInBounds_toArray, List.set_cons_zero, List.set_cons_succ]
    refine wpList_run (v := .int .u64 (((i + j) / 2 : Nat) : Int)) rfl (ix_shr1 rfl rfl rfl (by omega)) ?_
    simp only [Act.put, List.setIfInBounds_toArray, List.set_cons_zero, List.set_cons_succ]
    refine wpList_run (v := .int .i64 (m : Int)) rfl (by rw [HM.out]; exact ix_back rfl rfl (by omega)) ?_
    simp only [Act.put, List.setIfInBounds_toArray, List.set_cons_zero, List.set_cons_succ]
    refine wpList_run (v := .int .i64 (m : Int)) rfl (gx_assign rfl rfl) ?_
    simp only [Act.put, List.setIfInBounds_toArray, List.set_cons_zero, List.set_cons_succ]
    go_upto_region 5 with fail
    refine wp_region_lit ?_
    refine wpList_run (v := .func (.func 48) #[] #[]) rfl (exec_move rfl rfl) ?_
    simp only [Act.put, List.setIfInBounds_toArray, List.set_cons_zero, List.set_cons_succ]
    refine wpList_run (v := .slice (some ⟨bF, oF, none⟩) n c) rfl (exec_move rfl rfl) ?_
    simp only [Act.put, List.setIfInBounds_toArray, List.set_cons_zero, List.set_cons_succ]
    refine wpList_run (v := .int .i64 (m : Int)) rfl (exec_move rfl rfl) ?_
    simp only [Act.put, List.setIfInBounds_toArray, List.set_cons_zero, List.set_cons_succ]
    refine wpList_run (v := .pointer (some ⟨bF, oF + m * 2, none⟩)) rfl (gx_iaddr (i := m) (sz := 2) rfl rfl rfl Try.underlying59 size_pair HMN.out rfl) ?_
    simp only [Act.put, List.setIfInBounds_toArray, List.set_cons_zero, List.set_cons_succ]
    refine wpList_run (v := .agg (encP p).toArray) rfl (gx_loads rfl rfl HRR.out Try.underlying65 rfl (by rw [size_pair]; rfl)) ?_
    simp only [Act.put, List.setIfInBounds_toArray, List.set_cons_zero, List.set_cons_succ]
    refine wpList_run (v := strV k) rfl (exec_move rfl rfl) ?_
    simp only [Act.put, List.setIfInBounds_toArray, List.set_cons_zero, List.set_cons_succ]
    refine wpList_op rfl fun K9 HK9 => ?_
    go_wp2_with fail
    refine (find1_walk p k _).mono ?_
    rintro e w3 ⟨rfl, ht3⟩
    refine HK9.out _ _ ?_
    clear HK9
    try simp only [Act.put, List.setIfInBounds_toArray, List.set_cons_zero, List.set_cons_succ]
    have HT3 := Lib.hid (HTR.out.trans ht3 (fun _ _ e => e))
    clear ht3
    by_cases hc : klt p.1 k = true
    · have HC := Lib.hid (HST.out.2 hc)
      refine wpList_run (v := .bool true) rfl (ix_lss rfl rfl rfl (decide_eq_true (cmpV_lt.2 hc))) ?_
      simp only [Act.put, List.setIfInBounds_toArray, List.set_cons_zero, List.set_cons_succ]
      clear hc
      go_upto_region 6 with fail
      refine wp_region_lit ?_
      refine wpList_run (v := .int .i64 (m : Int)) rfl (exec_move rfl rfl) ?_
      simp only [Act.put, List.setIfInBounds_toArray, List.set_cons_zero, List.set_cons_succ]
      refine wpList_run (v := .int .i64 ((m + 1 : Nat) : Int)) rfl (ix_add rfl rfl rfl (by omega) (by have := HMN.out; omega)) ?_
      simp only [Act.put, List.setIfInBounds_toArray, List.set_cons_zero, List.set_cons_succ]
      refine wpList_run (v := .int .i64 ((m + 1 : Nat) : Int)) rfl (gx_assign rfl rfl) ?_
      simp only [Act.put, List.setIfInBounds_toArray, List.set_cons_zero, List.set_cons_succ]
      go_wp2_with fail
      go_roundg (j - (m + 1))
      case measure => have := HGK.out; have := HMI.out; have := HMJ.out; omega
      case rel => exact ⟨m + 1, j, rfl, rfl, rfl, HC.out, HFJ.out, HJN.out, HT3.out⟩
    · have HC := Lib.hid (show fnd k l ≤ m from Nat.le_of_not_lt fun h => hc (HST.out.1 h))
      refine wpList_run (v := .bool false) rfl (ix_lss rfl rfl rfl (decide_eq_false (fun h => hc (cmpV_lt.1 h)))) ?_
      simp only [Act.put, List.setIfInBounds_toArray, List.set_cons_zero, List.set_cons_succ]
      clear hc
      go_upto_region 7 with fail
      refine wp_region_lit ?_
      refine wpList_run (v := .int .i64 (m : Int)) rfl (exec_move rfl rfl) ?_
      simp only [Act.put, List.setIfInBounds_toArray, List.set_cons_zero, List.set_cons_succ]
      refine wpList_run (v := .int .i64 (m : Int)) rfl (gx_assign rfl rfl) ?_
      simp only [Act.put, List.setIfInBounds_toArray, List.set_cons_zero, List.set_cons_succ]
      go_wp2_with fail
      go_roundg (m - i)
      case measure => have := HGK.out; have := HMI.out; have := HMJ.out; omega
      case rel => exact ⟨i, m, rfl, rfl, rfl, HIF.out, HC.out, by have := HMN.out; omega, HT3.out⟩
  · obtain rfl : i = j := by omega
    have HI := Lib.hid (show fnd k l = i from by have := HIF.out; have := HFJ.out; omega)
    clear hlt
    refine wpList_run (v := .int .i64 (i : Int)) rfl (exec_move rfl rfl) ?_
    simp only [Act.put, List.setIfInBounds_toArray, List.set_cons_zero, List.set_cons_succ]
    refine wpList_run (v := .int .i64 (i : Int)) rfl (exec_move rfl rfl) ?_
    simp only [Act.put, List.setIfInBounds_toArray, List.set_cons_zero, List.set_cons_succ]
    refine wpList_run (v := .bool false) rfl (ix_lss rfl rfl rfl (decide_eq_false (by omega))) ?_
    simp only [Act.put, List.setIfInBounds_toArray, List.set_cons_zero, List.set_cons_succ]
    go_upto_region 8 with fail
    refine wp_region_lit ?_
    refine wpList_run (v := .int .i64 (i : Int)) rfl (exec_move rfl rfl) ?_
    simp only [Act.put, List.setIfInBounds_toArray, List.set_cons_zero, List.set_cons_succ]
    refine wpList_run (v := .int .i64 (i : Int)) rfl (exec_move rfl rfl) ?_
    simp only [Act.put, List.setIfInBounds_toArray, List.set_cons_zero, List.set_cons_succ]
    refine wpList_run (v := .int .i64 (n : Int)) rfl (exec_move rfl rfl) ?_
    simp only [Act.put, List.setIfInBounds_toArray, List.set_cons_zero, List.set_cons_succ]
    by_cases hin : i < n
    · have y8 : (i : Int) < (n : Int) := by omega
      have HIN := Lib.hid hin
      obtain ⟨bF, oF, hA, hr⟩ := HB.out.2.2.2 (by omega)
      subst hA
      obtain ⟨p, hp⟩ : ∃ p, l[i]? = some p := ⟨_, List.getElem?_eq_getElem (show i < l.length from by rw [HN.out]; exact hin)⟩
      have HRR := Lib.hid (show wr.rangeAt bF (oF + i * 2) (encP p) from fun q v hv => (HTR.out.cell (World.block_lt_of_cell? _ _ (hr i (encP p) (by rw [List.getElem?_map, hp]; rfl) q v hv)) (fun e => e)).trans (hr i (encP p) (by rw [List.getElem?_map, hp]; rfl) q v hv))
      have HH := Lib.hid (show decide (cmpV p.1 k = 0) = hit k l from by
        unfold hit
        rw [HI.out, hp]
        exact decide_eq_decide.2 (cmpV_eq.trans (by simp)))
      clear hr hp hin
      refine wpList_run (v := .bool true) rfl (ix_lss rfl rfl rfl (decide_eq_true y8)) ?_
      simp only [Act.put, List.setIfInBounds_toArray, List.set_cons_zero, List.set_cons_succ]
      refine wpList_run (v := .bool true) rfl (exec_move rfl rfl) ?_
      simp only [Act.put, List.setIfInBounds_toArray, List.set_cons_zero, List.set_cons_succ]
      refine wpList_run (v := .func (.func 48) #[] #[]) rfl (exec_move rfl rfl) ?_
      simp only [Act.put, List.setIfInBounds_toArray, List.set_cons_zero, List.set_cons_succ]
      refine wpList_run (v := .slice (some ⟨bF, oF, none⟩) n c) rfl (exec_move rfl rfl) ?_
      simp only [Act.put, List.setIfInBounds_toArray, List.set_cons_zero, List.set_cons_succ]
      refine wpList_run (v := .int .i64 (i : Int)) rfl (exec_move rfl rfl) ?_
      simp only [Act.put, List.setIfInBounds_toArray, List.set_cons_zero, List.set_cons_succ]
      refine wpList_run (v := .pointer (some ⟨bF, oF + i * 2, none⟩)) rfl (gx_iaddr (i := i) (sz := 2) rfl rfl rfl Try.underlying59 size_pair HIN.out rfl) ?_
      simp only [Act.put, List.setIfInBounds_toArray, List.set_cons_zero, List.set_cons_succ]
      refine wpList_run (v := .agg (encP p).toArray) rfl (gx_loads rfl rfl HRR.out Try.underlying65 rfl (by rw [size_pair]; rfl)) ?_
      simp only [Act.put, List.setIfInBounds_toArray, List.set_cons_zero, List.set_cons_succ]
      refine wpList_run (v := strV k) rfl (exec_move rfl rfl) ?_
      simp only [Act.put, List.setIfInBounds_toArray, List.set_cons_zero, List.set_cons_succ]
      refine wpList_op rfl fun K9 HK9 => ?_
      go_wp2_with fail
      refine (find1_walk p k _).mono ?_
      rintro e w3 ⟨rfl, ht3⟩
      refine HK9.out _ _ ?_
      clear HK9
      try simp only [Act.put, List.setIfInBounds_toArray, List.set_cons_zero, List.set_cons_succ]
      have HT3 := Lib.hid (HTR.out.trans ht3 (fun _ _ e => e))
      clear ht3
      refine wpList_run (v := .bool (hit k l)) rfl (ix_eql rfl rfl rfl HH.out) ?_
      simp only [Act.put, List.setIfInBounds_toArray, List.set_cons_zero, List.set_cons_succ]
      refine wpList_run (v := .bool (hit k l)) rfl (ix_pickT rfl rfl rfl) ?_
      simp only [Act.put, List.setIfInBounds_toArray, List.set_cons_zero, List.set_cons_succ]
      refine wpList_run (v := .int .i64 (i : Int)) rfl (gx_assign rfl rfl) ?_
      simp only [Act.put, List.setIfInBounds_toArray, List.set_cons_zero, List.set_cons_succ]
      refine wpList_run (v := .bool (hit k l)) rfl (gx_assign rfl rfl) ?_
      simp only [Act.put, List.setIfInBounds_toArray, List.set_cons_zero, List.set_cons_succ]
      go_wp2_with fail
      go_ret2
      rw [HI.out]
      exact ⟨rfl, HT3.out⟩
    · have HH := Lib.hid (show false = hit k l from by
        unfold hit
        rw [HI.out, List.getElem?_eq_none (by rw [HN.out]; omega)]
        simp)
      refine wpList_run (v := .bool false) rfl (ix_lss rfl rfl rfl (decide_eq_false (by omega))) ?_
      simp only [Act.put, List.setIfInBounds_toArray, List.set_cons_zero, List.set_cons_succ]
      go_wp2_with fail
      go_ret2
      rw [HI.out, ← HH.out]
      exact ⟨rfl, HTR.out⟩
/-- a node in memory: its two rows -/
structure NodeAt (w : World) (p : Nat) (vp vk : Value) (ps : List Pr) (ks : List Nat) : Prop where
  blk : Blk w p 62 #[vp, vk]
  prs : Orw w 0 65 2 vp (ps.map encP)
  kds : Orw w 0 56 1 vk (ks.map encK)
theorem rows_of {w : World} {vp : Value} {ps : List Pr} (h : Orw w 0 65 2 vp (ps.map encP)) (hl : ps.length ≤ 100000) : ∃ A c, vp = .slice A ps.length c ∧ Rws w 2 A ps.length (ps.map encP) ∧ (A = none → c = 0) := by
  obtain ⟨A, c, rfl, _, _, hz, _⟩ := h.form
  rw [List.length_map] at h ⊢
  exact ⟨A, c, rfl, h.rws (by rw [List.length_map]; omega) (by decide), hz⟩
theorem krows_of {w : World} {vk : Value} {ks : List Nat} (h : Orw w 0 56 1 vk (ks.map encK)) : ∃ A c, vk = .slice A ks.length c ∧ (A = none → c = 0) := by
  obtain ⟨A, c, rfl, _, _, hz, _⟩ := h.form
  rw [List.length_map]
  exact ⟨A, c, rfl, hz⟩
set_option maxRecDepth 20000 in
theorem find_walk {w : World} {p : Nat} {vp vk : Value} {ps : List Pr} {ks : List Nat} {k : Key} (h : NodeAt w p vp vk ps ks) (hs : Srt ps) (hl : ps.length ≤ 100000) :
    Calls Try.prog 31 #[.pointer (some ⟨p, 0, none⟩), strV k] w fun e w' => e = .returned (.tuple #[.int .i64 (fnd k ps : Int), .bool (hit k ps)]) ∧ Turn nowhere w w' := by
  obtain ⟨A, c, rfl, hr, hz⟩ := rows_of h.prs hl
  have HB := Lib.hid h.blk
  have HR := Lib.hid hr
  have HS := Lib.hid hs
  obtain ⟨n, hn⟩ : ∃ n, n = ps.length := ⟨_, rfl⟩
  rw [← hn] at HB HR
  clear h hs hl hr hz hn
  go_enter Try.func31, Try.ntmps31
  go_upto_region 1 with fail
  refine wp_region_lit ?_
  refine wpList_run (v := .pointer (some ⟨p, 0, none⟩)) rfl (exec_move rfl rfl) ?_
  simp only [Act.put, List.setIfInBounds_toArray, List.set_cons_zero, List.set_cons_succ]
  refine wpList_run (v := .pointer (some ⟨p, 0, none⟩)) rfl (exec_nil rfl rfl) ?_
  simp only [Act.put, List.setIfInBounds_toArray, List.set_cons_zero, List.set_cons_succ]
  refine wpList_run (v := .pointer (some ⟨p, 0, none⟩)) rfl (exec_field (off := 0) (d := 0) rfl rfl (by kernel_rfl)) ?_
  simp only [Act.put, List.setIfInBounds_toArray, List.set_cons_zero, List.set_cons_succ]
  refine wpList_run (v := .slice A n c) rfl (exec_load1 rfl rfl (by kernel_rfl) (HB.out.cell 0)) ?_
  simp only [Act.put, List.setIfInBounds_toArray, List.set_cons_zero, List.set_cons_succ]
  refine wpList_run (v := strV k) rfl (exec_move rfl rfl) ?_
  simp only [Act.put, List.setIfInBounds_toArray, List.set_cons_zero, List.set_cons_succ]
  have hw := search_walk (c := c) (k := k) HR.out HS.out
  unfold fndV at hw
  have HW := Lib.hid hw
  clear hw
  refine wpList_op rfl fun K9 HK9 => ?_
  go_wp2_with fail
  refine (HW.out).mono ?_
  rintro e w1 ⟨rfl, ht⟩
  refine HK9.out _ _ ?_
  clear HK9
  try simp only [Act.put, List.setIfInBounds_toArray, List.set_cons_zero, List.set_cons_succ]
  refine wpList_run (v := .int .i64 (fnd k ps : Int)) rfl (ix_extract rfl rfl rfl) ?_
  simp only [Act.put, List.setIfInBounds_toArray, List.set_cons_zero, List.set_cons_succ]
  refine wpList_run (v := .bool (hit k ps)) rfl (ix_extract rfl rfl rfl) ?_
  simp only [Act.put, List.setIfInBounds_toArray, List.set_cons_zero, List.set_cons_succ]
  refine wpList_run (v := .int .i64 (fnd k ps : Int)) rfl (gx_assign rfl rfl) ?_
  simp only [Act.put, List.setIfInBounds_toArray, List.set_cons_zero, List.set_cons_succ]
  refine wpList_run (v := .bool (hit k ps)) rfl (gx_assign rfl rfl) ?_
  simp only [Act.put, List.setIfInBounds_toArray, List.set_cons_zero, List.set_cons_succ]
  go_wp2_with fail
  go_ret2
  exact ⟨rfl, ht⟩
theorem lowest_walk {w : World} {p : Nat} {vp vk : Value} {ps : List Pr} {ks : List Nat} (h : NodeAt w p vp vk ps ks) :
    Calls Try.prog 32 #[.pointer (some ⟨p, 0, none⟩)] w fun e w' => e = .returned (.bool (decide (ks = []))) ∧ w' = w := by
  obtain ⟨A, c, rfl, hz⟩ := krows_of h.kds
  have HB := Lib.hid h.blk
  have HE := Lib.hid (show decide ((ks.length : Int) = 0) = decide (ks = []) from decide_eq_decide.2 (by cases ks <;> simp <;> omega))
  clear h hz
  go_enter Try.func32, Try.ntmps32
  go_upto_region 1 with fail
  refine wp_region_lit ?_
  refine wpList_run (v := .pointer (some ⟨p, 0, none⟩)) rfl (exec_move rfl rfl) ?_
  simp only [Act.put, List.setIfInBounds_toArray, List.set_cons_zero, List.set_cons_succ]
  refine wpList_run (v := .pointer (some ⟨p, 0, none⟩)) rfl (exec_nil rfl rfl) ?_
  simp only [Act.put, List.setIfInBounds_toArray, List.set_cons_zero, List.set_cons_succ]
  refine wpList_run (v := .pointer (some ⟨p, 1, none⟩)) rfl (exec_field (off := 0) (d := 1) rfl rfl (by kernel_rfl)) ?_
  simp only [Act.put, List.setIfInBounds_toArray, List.set_cons_zero, List.set_cons_succ]
  refine wpList_run (v := .slice A ks.length c) rfl (exec_load1 rfl rfl (by kernel_rfl) (HB.out.cell 1)) ?_
  simp only [Act.put, List.setIfInBounds_toArray, List.set_cons_zero, List.set_cons_succ]
  refine wpList_run (v := .int .i64 (ks.length : Int)) rfl (gx_len rfl rfl Try.underlying60) ?_
  simp only [Act.put, List.setIfInBounds_toArray, List.set_cons_zero, List.set_cons_succ]
  refine wpList_run (v := .bool (decide (ks = []))) rfl (ix_eql rfl rfl rfl HE.out) ?_
  simp only [Act.put, List.setIfInBounds_toArray, List.set_cons_zero, List.set_cons_succ]
  refine wpList_run (v := .bool (decide (ks = []))) rfl (gx_assign rfl rfl) ?_
  simp only [Act.put, List.setIfInBounds_toArray, List.set_cons_zero, List.set_cons_succ]
  go_wp2_with fail
  go_ret
  exact ⟨rfl, rfl⟩
end Go.Proofs.Ytmlkdkbpbleilaa
