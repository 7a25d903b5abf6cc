/-
  Ledgers: the sum of all balances is nought: the law's walk. No conditions.
-/
import Derived.Test.YthoefjaapjaeeaaLgT
namespace Go.Proofs.Ythoefjaapjaeeaa
open Go.RowKit
open Lg (Ent)
set_option linter.unusedVariables false
set_option linter.unusedSimpArgs false
theorem bx_neb {a : Act} {o : Oper} {W : World} {x y : Operand} {t u : TypeId} {p q r : Bool} (ho : o.op = .binOp .neq t x y u) (hx : a.eval x = .bool p) (hy : a.eval y = .bool q) (hr : (!(p == q)) = r) (ht : t = 4) : (execOp a.eval o).run Try.prog W = .ok (.value (.bool r)) W := by
  subst ht
  unfold execOp
  simp only [ho, hx, hy]
  go_simp
  try exact hr
def lowS (n : Nat) (b : Nat → Int) : Int := Lg.sumB n fun a => b a % 4294967296
def highS (n : Nat) (b : Nat → Int) : Int := Lg.sumB n fun a => b a / 4294967296
theorem lowS_succ (n : Nat) (b : Nat → Int) : lowS (n + 1) b = lowS n b + b n % 4294967296 := Lg.sumB_succ _ _
theorem highS_succ (n : Nat) (b : Nat → Int) : highS (n + 1) b = highS n b + b n / 4294967296 := Lg.sumB_succ _ _
theorem halves (n : Nat) (b : Nat → Int) : Lg.sumB n b = highS n b * 4294967296 + lowS n b := by
  induction n with
  | zero => rfl
  | succ n ih => rw [Lg.sumB_succ, lowS_succ, highS_succ, ih]; omega
theorem low_in (n : Nat) (b : Nat → Int) : 0 ≤ lowS n b ∧ lowS n b ≤ 4294967296 * (n : Int) := by
  induction n with
  | zero => exact ⟨Int.le_refl _, Int.le_refl _⟩
  | succ n ih => rw [lowS_succ]; omega
theorem high_in (n : Nat) {b : Nat → Int} (h : ∀ a, Mn.in64 (b a)) : -(2147483648 * (n : Int)) ≤ highS n b ∧ highS n b ≤ 2147483648 * (n : Int) := by
  induction n with
  | zero => exact ⟨Int.le_refl _, Int.le_refl _⟩
  | succ n ih =>
    have := n_h (h n)
    rw [highS_succ]; omega
theorem halves_zero {n : Nat} {b : Nat → Int} (h : Lg.sumB n b = 0) : highS n b + lowS n b / 4294967296 = 0 ∧ lowS n b % 4294967296 = 0 := by
  rw [halves] at h
  omega
theorem pay_small {c : Cfg} {acq iss amt : Int} (h0 : payE c acq iss amt = 0) : (∀ e ∈ payR c acq iss amt, (0 ≤ e.1 ∧ e.1 < (c.n : Int) + 1) ∧ e.2 ≠ -9223372036854775808) ∧ Lg.tot (payR c acq iss amt) = 0 := by
  have hr : payR c acq iss amt = kp (payW c acq iss amt) := if_pos h0
  have h1 : (isIn c acq && isIn c iss) = true ∧ Mn.feeE c.ip c.il c.im amt = 0 ∧ Mn.feeE c.fp c.fl c.fm amt = 0 := by
    unfold payE at h0
    split at h0
    · cases h0
    · rename_i hi
      split at h0
      · rename_i h; exact absurd h0 h
      · rename_i h; exact ⟨by simpa using hi, Classical.not_not.1 h, h0⟩
  have f1 := fee_range h1.2.1
  have f2 := fee_range h1.2.2
  have hi := h1.1
  unfold isIn at hi
  simp only [Bool.and_eq_true, decide_eq_true_eq] at hi
  refine ⟨fun e he => ?_, ?_⟩
  · rw [hr] at he
    unfold kp at he
    have hm := (List.mem_filter.1 he).1
    unfold payW Lg.payL at hm
    simp only [List.mem_cons, List.not_mem_nil, or_false] at hm
    generalize Mn.feeV c.ip c.il c.im amt = iv at *
    generalize Mn.feeV c.fp c.fl c.fm amt = fv at *
    rcases hm with rfl | rfl | rfl | rfl | rfl | rfl <;> (dsimp only; omega)
  · rw [hr]
    exact Lg.tot_pay (c.n : Int) acq iss amt (Mn.feeV c.ip c.il c.im amt) (Mn.feeV c.fp c.fl c.fm amt)
theorem post_two {n : Nat} {b : Nat → Int} {es : List Ent} (h : Lg.accB n es = true) (g : Lg.tot es = 0) : Lg.postE n b es = 0 ∨ Lg.postE n b es = 100 := by
  unfold Lg.postE
  rw [if_neg (by rw [h]; decide), if_neg (fun c => c g)]
  split
  · exact .inr rfl
  · exact .inl rfl
theorem inull (w : World) : (Instr.buildSlice 32 0 #[]).run Try.prog w = .ok (.slice (some ⟨w.heap.size, 0, none⟩) 0 0) (w.alloc (.cells #[] 3)) := by kernel_rfl
set_option maxRecDepth 20000 in
set_option maxHeartbeats 4000000 in
theorem nought_walk {w : World} {k : Cfg} {A : Option Addr} {n c : Nat} {vs : List EnV} {acq iss amt : Int} (hq : Mn.in64 acq ∧ Mn.in64 iss) (hn : k.n ≤ 140737488355328) (hv : EnsAt w A n vs) (hm : n ≤ 140737488355328) : Calls Try.prog 5 #[.agg k.cells, .slice A n c, .agg (a3A acq iss amt)] w fun e w' => e = .returned (.bool true) ∧ Turn nowhere w w' := by
  have HQ := Lib.hid hq
  have HN := Lib.hid hn
  have HV := Lib.hid hv
  have HLEN := Lib.hid hv.len
  have ym : (n : Int) ≤ 140737488355328 := by omega
  obtain ⟨kn, hkn⟩ : ∃ x, x = k.n := ⟨_, rfl⟩
  have HKN := Lib.hid hkn
  have yk : (kn : Int) ≤ 140737488355328 := by omega
  clear hq hn hv hm hkn
  go_enter Try.func5, Try.ntmps5
  go_upto_region 0 with fail
  refine wp_region_lit ?_
  refine wpList_run (v := .pointer (some ⟨(w).heap.size, 0, none⟩)) (w' := (w).alloc (.cells k.cells 45)) (wanted_none rfl) (gx_box rfl rfl (box_cfg k _)) ?_
  simp only [Act.put, List.setIfInBounds_toArray, List.set_cons_zero, List.set_cons_succ]
  refine wpList_run (v := .pointer (some ⟨((w).alloc (.cells k.cells 45)).heap.size, 0, none⟩)) (w' := ((w).alloc (.cells k.cells 45)).alloc (.cells (a3A acq iss amt) 46)) (wanted_none rfl) (gx_box rfl rfl (box_a3 acq iss amt _)) ?_
  simp only [Act.put, List.setIfInBounds_toArray, List.set_cons_zero, List.set_cons_succ]
  refine wpList_run (v := .bool false) (wanted_none rfl) (gx_assign rfl rfl) ?_
  simp only [Act.put, List.setIfInBounds_toArray, List.set_cons_zero, List.set_cons_succ]
  have hb_gc := (Blk.new (w) 45 k.cells).alloc (.cells (a3A acq iss amt) 46)
  have hb_ga := Blk.new ((w).alloc (.cells k.cells 45)) 46 (a3A acq iss amt)
  have ht_ := ((Turn.refl nowhere (w)).alloc (.cells k.cells 45)).alloc (.cells (a3A acq iss amt) 46)
  obtain ⟨n0_, hn0_⟩ : ∃ n, n = (w).heap.size := ⟨_, rfl⟩
  have hz_gc : (w).heap.size = n0_ + 0 := by rw [hn0_]; simp
  have hz_ga : ((w).alloc (.cells k.cells 45)).heap.size = n0_ + 1 := by rw [hn0_]; simp
  obtain ⟨ga, hg_⟩ : ∃ g, g = ((w).alloc (.cells k.cells 45)).heap.size := ⟨_, rfl⟩
  rw [← hg_] at hb_ga hz_ga ⊢
  clear hg_
  obtain ⟨gc, hg_⟩ : ∃ g, g = (w).heap.size := ⟨_, rfl⟩
  rw [← hg_] at hb_gc hz_gc ⊢
  clear hg_
  generalize ((w).alloc (.cells k.cells 45)).alloc (.cells (a3A acq iss amt) 46) = w0 at *
  have HT0 := Lib.hid ht_
  clear ht_
  have HBgc := Lib.hid hb_gc
  have HLgc := Lib.hid (show (w).heap.size ≤ gc from by omega)
  clear hb_gc
  have HBga := Lib.hid hb_ga
  have HLga := Lib.hid (show (w).heap.size ≤ ga from by omega)
  clear hb_ga
  have HNgcga := Lib.hid (show gc ≠ ga from by omega)
  clear hn0_ hz_gc hz_ga
  clear n0_
  go_upto_region 1 with fail
  refine wp_region_lit ?_
  refine wpList_op rfl fun K9 HK9 => ?_
  go_wp2_with fail
  refine (shown_walk w0).mono ?_
  rintro e w1 ⟨rfl, ht⟩
  refine HK9.out _ _ ?_
  clear HK9
  try simp only [Act.put, List.setIfInBounds_toArray, List.set_cons_zero, List.set_cons_succ]
  have HT1 := Lib.hid (HT0.out.trans ht fun _ _ e => e)
  have HBC1 := Lib.hid (HBgc.out.turn ht fun e => e)
  have HBA1 := Lib.hid (HBga.out.turn ht fun e => e)
  clear ht
  refine wpList_run (v := .bool true) (wanted_none rfl) (gx_assign rfl rfl) ?_
  simp only [Act.put, List.setIfInBounds_toArray, List.set_cons_zero, List.set_cons_succ]
  by_cases h7 : kn + 1 ≤ 7
  · obtain ⟨N, hN⟩ : ∃ N, N = kn + 1 := ⟨_, rfl⟩
    rw [← hN] at h7
    have HNN := Lib.hid hN
    have hNi : (kn : Int) + 1 = (N : Int) := by omega
    have HNI := Lib.hid hNi
    have HN7 := Lib.hid (show 1 ≤ N ∧ N ≤ 7 from by omega)
    have yN : (N : Int) ≤ 7 := by omega
    clear hN hNi h7
    go_upto_region 2 with fail
    refine wp_region_lit ?_
    refine wpList_run (v := .pointer (some ⟨gc, 0, none⟩)) (wanted_none rfl) (exec_field (off := 0) (d := 0) rfl rfl (by kernel_rfl)) ?_
    simp only [Act.put, List.setIfInBounds_toArray, List.set_cons_zero, List.set_cons_succ]
    refine wpList_run (v := .slice k.A kn k.c) (wanted_none rfl) (exec_load1 rfl rfl (by kernel_rfl) (by rw [HKN.out]; exact HBC1.out.cell 0)) ?_
    simp only [Act.put, List.setIfInBounds_toArray, List.set_cons_zero, List.set_cons_succ]
    refine wpList_run (v := .int .i64 (kn : Int)) (wanted_none rfl) (gx_len rfl rfl Try.underlying40) ?_
    simp only [Act.put, List.setIfInBounds_toArray, List.set_cons_zero, List.set_cons_succ]
    refine wpList_run (v := .int .i64 (N : Int)) (wanted_none rfl) (ix_add rfl rfl rfl HNI.out (by omega)) ?_
    simp only [Act.put, List.setIfInBounds_toArray, List.set_cons_zero, List.set_cons_succ]
    refine wpList_op rfl fun K9 HK9 => ?_
    go_wp2_with fail
    refine (New_ok (n := N) HN7.out).mono ?_
    rintro e w2 ⟨p, rfl, hp, hpl, ht⟩
    refine HK9.out _ _ ?_
    clear HK9
    try simp only [Act.put, List.setIfInBounds_toArray, List.set_cons_zero, List.set_cons_succ]
    have HP2 := Lib.hid hp
    have HPL := Lib.hid (show w.heap.size ≤ p from Nat.le_trans HT1.out.size hpl)
    have HPL1 := Lib.hid hpl
    have HT12 := Lib.hid ht
    have HT2 := Lib.hid (HT1.out.trans ht fun _ _ e => e)
    clear hp hpl ht
    refine wpList_run (v := .tuple #[.pointer (some ⟨p, 0, none⟩), .int .i64 0]) (wanted_none rfl) (exec_move rfl rfl) ?_
    simp only [Act.put, List.setIfInBounds_toArray, List.set_cons_zero, List.set_cons_succ]
    refine wpList_run (v := .pointer (some ⟨p, 0, none⟩)) (wanted_none rfl) (ix_extract rfl rfl rfl) ?_
    simp only [Act.put, List.setIfInBounds_toArray, List.set_cons_zero, List.set_cons_succ]
    refine wpList_run (v := .int .i64 0) (wanted_none rfl) (ix_extract rfl rfl rfl) ?_
    simp only [Act.put, List.setIfInBounds_toArray, List.set_cons_zero, List.set_cons_succ]
    refine wpList_run (v := .pointer (some ⟨p, 0, none⟩)) (wanted_none rfl) (gx_assign rfl rfl) ?_
    simp only [Act.put, List.setIfInBounds_toArray, List.set_cons_zero, List.set_cons_succ]
    refine wpList_run (v := .int .i64 0) (wanted_none rfl) (gx_assign rfl rfl) ?_
    simp only [Act.put, List.setIfInBounds_toArray, List.set_cons_zero, List.set_cons_succ]
    go_upto_region 3 with fail
    refine wp_region_lit ?_
    refine wpList_run (v := .bool true) (wanted_none rfl) (exec_move rfl rfl) ?_
    simp only [Act.put, List.setIfInBounds_toArray, List.set_cons_zero, List.set_cons_succ]
    refine wpList_run (v := .bool false) (wanted_none rfl) (ix_not (b := true) rfl rfl) ?_
    simp only [Act.put, List.setIfInBounds_toArray, List.set_cons_zero, List.set_cons_succ]
    refine wpList_run (v := .bool false) (wanted_none rfl) (exec_move rfl rfl) ?_
    simp only [Act.put, List.setIfInBounds_toArray, List.set_cons_zero, List.set_cons_succ]
    refine wpList_run (v := .pointer (some ⟨p, 0, none⟩)) rfl (exec_move rfl rfl) ?_
    simp only [Act.put, List.setIfInBounds_toArray, List.set_cons_zero, List.set_cons_succ]
    refine wpList_run (v := .bool false) rfl (ptr_eqn (by decide) rfl rfl rfl) ?_
    simp only [Act.put, List.setIfInBounds_toArray, List.set_cons_zero, List.set_cons_succ]
    refine wpList_run (v := .int .i64 0) rfl (exec_move rfl rfl) ?_
    simp only [Act.put, List.setIfInBounds_toArray, List.set_cons_zero, List.set_cons_succ]
    refine wpList_run (v := .bool false) rfl (ix_neq rfl rfl rfl (by decide)) ?_
    simp only [Act.put, List.setIfInBounds_toArray, List.set_cons_zero, List.set_cons_succ]
    refine wpList_run (v := .bool false) rfl (bx_neb rfl rfl rfl rfl rfl) ?_
    simp only [Act.put, List.setIfInBounds_toArray, List.set_cons_zero, List.set_cons_succ]
    refine wpList_run (v := .bool false) (wanted_none rfl) (ix_pickF rfl rfl rfl) ?_
    simp only [Act.put, List.setIfInBounds_toArray, List.set_cons_zero, List.set_cons_succ]
    go_upto_region 5 with fail
    refine wp_region_lit ?_
    refine wpList_run (v := .pointer (some ⟨p, 0, none⟩)) (wanted_none rfl) (exec_move rfl rfl) ?_
    simp only [Act.put, List.setIfInBounds_toArray, List.set_cons_zero, List.set_cons_succ]
    refine wpList_run (v := .bool false) (wanted_none rfl) (ptr_eqn (by decide) rfl rfl rfl) ?_
    simp only [Act.put, List.setIfInBounds_toArray, List.set_cons_zero, List.set_cons_succ]
    go_upto_region 7 with fail
    refine wp_region_lit ?_
    refine wpList_run (v := .int .i64 0) (wanted_none rfl) (gx_assign rfl rfl) ?_
    simp only [Act.put, List.setIfInBounds_toArray, List.set_cons_zero, List.set_cons_succ]
    go_wp2_with fail
    go_loopg [10] n (fun gk iv wr => ∃ (i : Nat) (b : Nat → Int), iv = .int .i64 (i : Int) ∧ i + gk = n ∧ Led wr p N b ∧ Lg.sumB N b = 0 ∧ Turn nowhere w1 wr)
    case atStart => exact ⟨0, _, rfl, by omega, HP2.out, Lg.sumB_zero N, HT12.out⟩
    obtain ⟨i, b, rfl, hgk, hp, hs, htr⟩ := hrel
    have HGK := Lib.hid hgk
    have HP := Lib.hid hp
    have HS := Lib.hid hs
    have HTR := Lib.hid htr
    have HTw := Lib.hid (HT1.out.trans htr fun _ _ e => e)
    have yi : (i : Int) ≤ (n : Int) := by omega
    clear hgk hp hs htr
    rcases (by omega : (i < n ∧ i < 60) ∨ ¬ i < n ∨ (i < n ∧ ¬ i < 60)) with hlt | hlt | hlt
    · have HLT := Lib.hid hlt.1
      have y3 : (i : Int) < (n : Int) := by omega
      have y4 : (i : Int) < 60 := by omega
      obtain ⟨v, hvi⟩ := ens_some HLEN.out hlt.1
      have HVI := Lib.hid hvi
      obtain ⟨b1, o1, e1, hcc⟩ := (HV.out.still HTw.out).rng hvi
      have HC := Lib.hid hcc
      have HVO := Lib.hid (((HV.out.still HTw.out).ok v (List.mem_of_getElem? hvi)))
      subst e1
      clear hvi hcc hlt
      go_upto_region 8 with fail
      refine wp_region_lit ?_
      refine wpList_run (v := .int .i64 (i : Int)) (wanted_none rfl) (exec_move rfl rfl) ?_
      simp only [Act.put, List.setIfInBounds_toArray, List.set_cons_zero, List.set_cons_succ]
      refine wpList_run (v := .slice (some ⟨b1, o1, none⟩) n c) (wanted_none rfl) (exec_move rfl rfl) ?_
      simp only [Act.put, List.setIfInBounds_toArray, List.set_cons_zero, List.set_cons_succ]
      refine wpList_run (v := .int .i64 (n : Int)) (wanted_none rfl) (gx_len rfl rfl Try.underlying22) ?_
      simp only [Act.put, List.setIfInBounds_toArray, List.set_cons_zero, List.set_cons_succ]
      refine wpList_run (v := .bool true) (wanted_none rfl) (ix_lss rfl rfl rfl (decide_eq_true y3)) ?_
      simp only [Act.put, List.setIfInBounds_toArray, List.set_cons_zero, List.set_cons_succ]
      refine wpList_run (v := .bool true) (wanted_none rfl) (exec_move rfl rfl) ?_
      simp only [Act.put, List.setIfInBounds_toArray, List.set_cons_zero, List.set_cons_succ]
      refine wpList_run (v := .int .i64 (i : Int)) rfl (exec_move rfl rfl) ?_
      simp only [Act.put, List.setIfInBounds_toArray, List.set_cons_zero, List.set_cons_succ]
      refine wpList_run (v := .bool true) rfl (ix_lss rfl rfl rfl (decide_eq_true y4)) ?_
      simp only [Act.put, List.setIfInBounds_toArray, List.set_cons_zero, List.set_cons_succ]
      refine wpList_run (v := .bool true) (wanted_none rfl) (ix_pickT rfl rfl rfl) ?_
      simp only [Act.put, List.setIfInBounds_toArray, List.set_cons_zero, List.set_cons_succ]
      go_upto_region 10 with fail
      refine wp_region_lit ?_
      refine wpList_run (v := .pointer (some ⟨p, 0, none⟩)) (wanted_none rfl) (exec_move rfl rfl) ?_
      simp only [Act.put, List.setIfInBounds_toArray, List.set_cons_zero, List.set_cons_succ]
      refine wpList_run (v := .slice (some ⟨b1, o1, none⟩) n c) (wanted_none rfl) (exec_move rfl rfl) ?_
      simp only [Act.put, List.setIfInBounds_toArray, List.set_cons_zero, List.set_cons_succ]
      refine wpList_run (v := .int .i64 (i : Int)) (wanted_none rfl) (exec_move rfl rfl) ?_
      simp only [Act.put, List.setIfInBounds_toArray, List.set_cons_zero, List.set_cons_succ]
      refine wpList_run (v := .pointer (some ⟨b1, o1 + i * 1, none⟩)) (wanted_none rfl) (gx_iaddr (i := i) (sz := 1) rfl rfl rfl Try.underlying22 (by kernel_rfl) HLT.out rfl) ?_
      simp only [Act.put, List.setIfInBounds_toArray, List.set_cons_zero, List.set_cons_succ]
      refine wpList_run (v := .slice v.A v.n v.c) (wanted_none rfl) (exec_load1 rfl rfl (by kernel_rfl) HC.out) ?_
      simp only [Act.put, List.setIfInBounds_toArray, List.set_cons_zero, List.set_cons_succ]
      refine wpList_op rfl fun K9 HK9 => ?_
      go_wp2_with fail
      refine (Post_walk HP.out HVO.out.at_ (by have := HVO.out.room; omega)).mono ?_
      rintro e w3 ⟨rfl, hp, ht⟩
      refine HK9.out _ _ ?_
      clear HK9
      try simp only [Act.put, List.setIfInBounds_toArray, List.set_cons_zero, List.set_cons_succ]
      have HP3 := Lib.hid hp
      have HS3 := Lib.hid (Lg.sumB_post v.es HS.out)
      have HT3 := Lib.hid (HTR.out.newer HPL1.out ht)
      clear hp ht
      go_upto_region 9 with fail
      refine wp_region_lit ?_
      refine wpList_run (v := .int .i64 (i : Int)) (wanted_none rfl) (exec_move rfl rfl) ?_
      simp only [Act.put, List.setIfInBounds_toArray, List.set_cons_zero, List.set_cons_succ]
      refine wpList_run (v := .int .i64 ((i + 1 : Nat) : Int)) (wanted_none rfl) (ix_add rfl rfl rfl (by omega) (by omega)) ?_
      simp only [Act.put, List.setIfInBounds_toArray, List.set_cons_zero, List.set_cons_succ]
      refine wpList_run (v := .int .i64 ((i + 1 : Nat) : Int)) (wanted_none rfl) (gx_assign rfl rfl) ?_
      simp only [Act.put, List.setIfInBounds_toArray, List.set_cons_zero, List.set_cons_succ]
      go_wp2_with fail
      go_roundg (n - (i + 1))
      case measure => have := HGK.out; have := HLT.out; omega
      case rel => exact ⟨i + 1, _, rfl, by have := HLT.out; omega, HP3.out, HS3.out, HT3.out⟩
    · have y3 : ¬ (i : Int) < (n : Int) := by omega
      clear hlt
      go_upto_region 8 with fail
      first
      | (rename_i K9 hK9; have HKC := Lib.hid hK9; clear hK9)
      | (rename_i K9 hK9 K8; have HKC := Lib.hid hK9; clear hK9)
      refine wp_region_lit ?_
      refine wpList_run (v := .int .i64 (i : Int)) (wanted_none rfl) (exec_move rfl rfl) ?_
      simp only [Act.put, List.setIfInBounds_toArray, List.set_cons_zero, List.set_cons_succ]
      refine wpList_run (v := .slice A n c) (wanted_none rfl) (exec_move rfl rfl) ?_
      simp only [Act.put, List.setIfInBounds_toArray, List.set_cons_zero, List.set_cons_succ]
      refine wpList_run (v := .int .i64 (n : Int)) (wanted_none rfl) (gx_len rfl rfl Try.underlying22) ?_
      simp only [Act.put, List.setIfInBounds_toArray, List.set_cons_zero, List.set_cons_succ]
      refine wpList_run (v := .bool false) (wanted_none rfl) (ix_lss rfl rfl rfl (decide_eq_false (by omega))) ?_
      simp only [Act.put, List.setIfInBounds_toArray, List.set_cons_zero, List.set_cons_succ]
      refine wpList_run (v := .bool false) (wanted_none rfl) (exec_move rfl rfl) ?_
      simp only [Act.put, List.setIfInBounds_toArray, List.set_cons_zero, List.set_cons_succ]
      go_wp2_with fail
      refine HKC.out _ _ ?_
      clear HKC
      obtain ⟨wz, hwz⟩ : ∃ z, z = wr := ⟨_, rfl⟩
      rw [← hwz] at HP HTR HTw ⊢
      clear hwz HGK
      have HB6 := Lib.hid HP.out.ok
      have HT11 := Lib.hid ((Turn.refl nowhere wz).alloc (.cells #[] 3))
      have hown : Orw (wz.alloc (.cells #[] 3)) wz.heap.size 3 1 (.slice (some ⟨wz.heap.size, 0, none⟩) 0 0) [] := ⟨Fit.nil 1, World.ownsRow_made wz #[] 0 (Nat.le_refl _) (by decide) (by simp)⟩
      go_upto_region 11 with fail
      refine wp_region_lit ?_
      refine wpList_run (v := .slice (some ⟨wz.heap.size, 0, none⟩) 0 0) (w' := wz.alloc (.cells #[] 3)) (wanted_none rfl) (bx_slice0 rfl (inull wz)) ?_
      simp only [Act.put, List.setIfInBounds_toArray, List.set_cons_zero, List.set_cons_succ]
      have HOW := Lib.hid hown
      clear hown
      obtain ⟨g8, hg8⟩ : ∃ g, g = wz.heap.size := ⟨_, rfl⟩
      rw [← hg8] at HOW ⊢
      have HG8 := Lib.hid hg8
      clear hg8
      generalize wz.alloc (.cells #[] 3) = w8 at *
      refine wpList_run (v := .slice (some ⟨g8, 0, none⟩) 0 0) (wanted_none rfl) (gx_assign rfl rfl) ?_
      simp only [Act.put, List.setIfInBounds_toArray, List.set_cons_zero, List.set_cons_succ]
      go_upto_region 12 with fail
      refine wp_region_lit ?_
      refine wpList_run (v := .int .i64 0) (wanted_none rfl) (gx_assign rfl rfl) ?_
      simp only [Act.put, List.setIfInBounds_toArray, List.set_cons_zero, List.set_cons_succ]
      refine wpList_run (v := .int .i64 0) (wanted_none rfl) (gx_assign rfl rfl) ?_
      simp only [Act.put, List.setIfInBounds_toArray, List.set_cons_zero, List.set_cons_succ]
      go_upto_region 13 with fail
      refine wp_region_lit ?_
      refine wpList_run (v := .int .i64 0) (wanted_none rfl) (gx_assign rfl rfl) ?_
      simp only [Act.put, List.setIfInBounds_toArray, List.set_cons_zero, List.set_cons_succ]
      go_wp2_with fail
      go_loopg [11, 12, 13, 14] N (fun gk sv lv hv iv wr => ∃ (i : Nat), iv = .int .i64 (i : Int) ∧ lv = .int .i64 (lowS i b) ∧ hv = .int .i64 (highS i b) ∧ i + gk = N ∧ Orw wr g8 3 1 sv (nums i b) ∧ Turn nowhere wz wr)
      case atStart => exact ⟨0, rfl, rfl, rfl, by omega, HOW.out, HT11.out⟩
      obtain ⟨a, rfl, rfl, rfl, hga, hor, hta⟩ := hrel
      have HGA := Lib.hid hga
      have HOR := Lib.hid hor
      have HTA := Lib.hid hta
      have HLW := Lib.hid (low_in a b)
      have HHI := Lib.hid (high_in a HB6.out.1)
      have ya : (a : Int) ≤ (N : Int) := by omega
      obtain ⟨A9, c9, rfl, _⟩ := hor.form
      clear hga hor hta
      rw [nums_len] at HOR ⊢
      by_cases hlt : a < N
      · have HLA := Lib.hid hlt
        have HVv := Lib.hid (bal_at N b hlt)
        have y3 : (a : Int) < (N : Int) := by omega
        clear hlt
        go_upto_region 14 with fail
        refine wp_region_lit ?_
        refine wpList_run (v := .int .i64 (a : Int)) (wanted_none rfl) (exec_move rfl rfl) ?_
        simp only [Act.put, List.setIfInBounds_toArray, List.set_cons_zero, List.set_cons_succ]
        refine wpList_run (v := .pointer (some ⟨p, 0, none⟩)) (wanted_none rfl) (exec_move rfl rfl) ?_
        simp only [Act.put, List.setIfInBounds_toArray, List.set_cons_zero, List.set_cons_succ]
        refine wpList_op rfl fun K9 HK9 => ?_
        go_wp2_with fail
        refine (Len_walk (HP.out.still HTA.out)).mono ?_
        rintro e wr ⟨rfl, rfl⟩
        refine HK9.out _ _ ?_
        clear HK9
        try simp only [Act.put, List.setIfInBounds_toArray, List.set_cons_zero, List.set_cons_succ]
        refine wpList_run (v := .bool true) (wanted_none rfl) (ix_lss rfl rfl rfl (decide_eq_true y3)) ?_
        simp only [Act.put, List.setIfInBounds_toArray, List.set_cons_zero, List.set_cons_succ]
        go_upto_region 16 with fail
        refine wp_region_lit ?_
        refine wpList_run (v := .pointer (some ⟨p, 0, none⟩)) (wanted_none rfl) (exec_move rfl rfl) ?_
        simp only [Act.put, List.setIfInBounds_toArray, List.set_cons_zero, List.set_cons_succ]
        refine wpList_run (v := .int .i64 (a : Int)) (wanted_none rfl) (exec_move rfl rfl) ?_
        simp only [Act.put, List.setIfInBounds_toArray, List.set_cons_zero, List.set_cons_succ]
        refine wpList_op rfl fun K9 HK9 => ?_
        go_wp2_with fail
        refine (Balance_walk (HP.out.still HTA.out)).mono ?_
        rintro e wr ⟨rfl, rfl⟩
        refine HK9.out _ _ ?_
        clear HK9
        try simp only [Act.put, List.setIfInBounds_toArray, List.set_cons_zero, List.set_cons_succ]
        rw [HVv.out.1, HVv.out.2]
        refine wpList_run (v := .tuple #[.int .i64 (b a), .int .i64 0]) (wanted_none rfl) (exec_move rfl rfl) ?_
        simp only [Act.put, List.setIfInBounds_toArray, List.set_cons_zero, List.set_cons_succ]
        refine wpList_run (v := .int .i64 (b a)) (wanted_none rfl) (ix_extract rfl rfl rfl) ?_
        simp only [Act.put, List.setIfInBounds_toArray, List.set_cons_zero, List.set_cons_succ]
        refine wpList_run (v := .int .i64 0) (wanted_none rfl) (ix_extract rfl rfl rfl) ?_
        simp only [Act.put, List.setIfInBounds_toArray, List.set_cons_zero, List.set_cons_succ]
        refine wpList_run (v := .int .i64 (b a)) (wanted_none rfl) (gx_assign rfl rfl) ?_
        simp only [Act.put, List.setIfInBounds_toArray, List.set_cons_zero, List.set_cons_succ]
        refine wpList_run (v := .int .i64 0) (wanted_none rfl) (gx_assign rfl rfl) ?_
        simp only [Act.put, List.setIfInBounds_toArray, List.set_cons_zero, List.set_cons_succ]
        go_upto_region 17 with fail
        refine wp_region_lit ?_
        refine wpList_run (v := .int .i64 0) (wanted_none rfl) (exec_move rfl rfl) ?_
        simp only [Act.put, List.setIfInBounds_toArray, List.set_cons_zero, List.set_cons_succ]
        refine wpList_run (v := .bool false) (wanted_none rfl) (ix_neq rfl rfl rfl (by decide)) ?_
        simp only [Act.put, List.setIfInBounds_toArray, List.set_cons_zero, List.set_cons_succ]
        obtain ⟨Aa, ca, wa, haa, hoa, hta⟩ := orw_add elmN (ty := 32) (W1 := wz) (by rw [← HG8.out]; exact HOR.out) HTA.out (one1 (b a)) rfl (one1_one (b a)) (by rw [nums_len]; have := HN7.out; have := HLA.out; omega)
        rw [nums_len] at haa hoa
        rw [← nums_snoc, ← HG8.out] at hoa
        have HAA := Lib.hid haa
        have HOA := Lib.hid hoa
        have HTAa := Lib.hid hta
        have HBN := Lib.hid (n_h (HB6.out.1 a))
        clear haa hoa hta
        go_upto_region 19 with fail
        refine wp_region_lit ?_
        refine wpList_run (v := .slice A9 a c9) (wanted_none rfl) (exec_move rfl rfl) ?_
        simp only [Act.put, List.setIfInBounds_toArray, List.set_cons_zero, List.set_cons_succ]
        refine wpList_run (v := .int .i64 (b a)) (wanted_none rfl) (exec_move rfl rfl) ?_
        simp only [Act.put, List.setIfInBounds_toArray, List.set_cons_zero, List.set_cons_succ]
        refine wpList_run (v := .slice (some ⟨wr.heap.size, 0, none⟩) 1 1) (w' := wr.alloc (.cells (one1 (b a)).toArray 3)) (wanted_none rfl) (exec_buildSlice1 rfl rfl (build_one elmN (one1 (b a)) rfl (by decide) _ rfl wr)) ?_
        simp only [Act.put, List.setIfInBounds_toArray, List.set_cons_zero, List.set_cons_succ]
        refine wpList_run (v := .slice Aa (a + 1) ca) (w' := wa) (wanted_none rfl) (exec_append rfl rfl rfl HAA.out) ?_
        simp only [Act.put, List.setIfInBounds_toArray, List.set_cons_zero, List.set_cons_succ]
        refine wpList_run (v := .slice Aa (a + 1) ca) (wanted_none rfl) (gx_assign rfl rfl) ?_
        simp only [Act.put, List.setIfInBounds_toArray, List.set_cons_zero, List.set_cons_succ]
        go_upto_region 20 with fail
        refine wp_region_lit ?_
        refine wpList_run (v := .int .i64 (lowS a b)) (wanted_none rfl) (exec_move rfl rfl) ?_
        simp only [Act.put, List.setIfInBounds_toArray, List.set_cons_zero, List.set_cons_succ]
        refine wpList_run (v := .int .i64 (b a)) (wanted_none rfl) (exec_move rfl rfl) ?_
        simp only [Act.put, List.setIfInBounds_toArray, List.set_cons_zero, List.set_cons_succ]
        refine wpList_run (v := .int .i64 (b a % 4294967296)) (wanted_none rfl) (ix_and32 rfl rfl) ?_
        simp only [Act.put, List.setIfInBounds_toArray, List.set_cons_zero, List.set_cons_succ]
        refine wpList_run (v := .int .i64 (lowS (a + 1) b)) (wanted_none rfl) (ix_add rfl rfl rfl (lowS_succ a b).symm (by have := low_in (a + 1) b; have := HN7.out; have := HLA.out; omega)) ?_
        simp only [Act.put, List.setIfInBounds_toArray, List.set_cons_zero, List.set_cons_succ]
        refine wpList_run (v := .int .i64 (lowS (a + 1) b)) (wanted_none rfl) (gx_assign rfl rfl) ?_
        simp only [Act.put, List.setIfInBounds_toArray, List.set_cons_zero, List.set_cons_succ]
        go_upto_region 21 with fail
        refine wp_region_lit ?_
        refine wpList_run (v := .int .i64 (highS a b)) (wanted_none rfl) (exec_move rfl rfl) ?_
        simp only [Act.put, List.setIfInBounds_toArray, List.set_cons_zero, List.set_cons_succ]
        refine wpList_run (v := .int .i64 (b a)) (wanted_none rfl) (exec_move rfl rfl) ?_
        simp only [Act.put, List.setIfInBounds_toArray, List.set_cons_zero, List.set_cons_succ]
        refine wpList_run (v := .int .i64 (b a / 4294967296)) (wanted_none rfl) (ix_shr32 rfl rfl) ?_
        simp only [Act.put, List.setIfInBounds_toArray, List.set_cons_zero, List.set_cons_succ]
        refine wpList_run (v := .int .i64 (highS (a + 1) b)) (wanted_none rfl) (ix_add rfl rfl rfl (highS_succ a b).symm (by have := high_in (a + 1) HB6.out.1; have := HN7.out; have := HLA.out; omega)) ?_
        simp only [Act.put, List.setIfInBounds_toArray, List.set_cons_zero, List.set_cons_succ]
        refine wpList_run (v := .int .i64 (highS (a + 1) b)) (wanted_none rfl) (gx_assign rfl rfl) ?_
        simp only [Act.put, List.setIfInBounds_toArray, List.set_cons_zero, List.set_cons_succ]
        go_upto_region 15 with fail
        refine wp_region_lit ?_
        refine wpList_run (v := .int .i64 (a : Int)) (wanted_none rfl) (exec_move rfl rfl) ?_
        simp only [Act.put, List.setIfInBounds_toArray, List.set_cons_zero, List.set_cons_succ]
        refine wpList_run (v := .int .i64 ((a + 1 : Nat) : Int)) (wanted_none rfl) (ix_add rfl rfl rfl (by omega) (by omega)) ?_
        simp only [Act.put, List.setIfInBounds_toArray, List.set_cons_zero, List.set_cons_succ]
        refine wpList_run (v := .int .i64 ((a + 1 : Nat) : Int)) (wanted_none rfl) (gx_assign rfl rfl) ?_
        simp only [Act.put, List.setIfInBounds_toArray, List.set_cons_zero, List.set_cons_succ]
        go_wp2_with fail
        go_roundg (N - (a + 1))
        case measure => have := HGA.out; have := HLA.out; omega
        case rel => exact ⟨a + 1, rfl, rfl, rfl, by have := HLA.out; omega, HOA.out, HTAa.out⟩
      · obtain rfl : a = N := by omega
        have y3 : ¬ (a : Int) < (a : Int) := by omega
        have HZ := Lib.hid (halves_zero HS.out)
        clear hlt
        obtain ⟨L, hL⟩ : ∃ x, x = lowS a b := ⟨_, rfl⟩
        obtain ⟨Hh, hH⟩ : ∃ x, x = highS a b := ⟨_, rfl⟩
        rw [← hL, ← hH] at HZ
        rw [← hL] at HLW ⊢
        rw [← hH] at HHI ⊢
        clear hL hH
        go_upto_region 14 with fail
        refine wp_region_lit ?_
        refine wpList_run (v := .int .i64 (a : Int)) (wanted_none rfl) (exec_move rfl rfl) ?_
        simp only [Act.put, List.setIfInBounds_toArray, List.set_cons_zero, List.set_cons_succ]
        refine wpList_run (v := .pointer (some ⟨p, 0, none⟩)) (wanted_none rfl) (exec_move rfl rfl) ?_
        simp only [Act.put, List.setIfInBounds_toArray, List.set_cons_zero, List.set_cons_succ]
        refine wpList_op rfl fun K9 HK9 => ?_
        go_wp2_with fail
        refine (Len_walk (HP.out.still HTA.out)).mono ?_
        rintro e wr ⟨rfl, rfl⟩
        refine HK9.out _ _ ?_
        clear HK9
        try simp only [Act.put, List.setIfInBounds_toArray, List.set_cons_zero, List.set_cons_succ]
        refine wpList_run (v := .bool false) (wanted_none rfl) (ix_lss rfl rfl rfl (decide_eq_false (by omega))) ?_
        simp only [Act.put, List.setIfInBounds_toArray, List.set_cons_zero, List.set_cons_succ]
        go_upto_region 22 with fail
        refine wp_region_lit ?_
        refine wpList_run (v := .int .i64 Hh) (wanted_none rfl) (exec_move rfl rfl) ?_
        simp only [Act.put, List.setIfInBounds_toArray, List.set_cons_zero, List.set_cons_succ]
        refine wpList_run (v := .int .i64 L) (wanted_none rfl) (exec_move rfl rfl) ?_
        simp only [Act.put, List.setIfInBounds_toArray, List.set_cons_zero, List.set_cons_succ]
        refine wpList_run (v := .int .i64 (L / 4294967296)) (wanted_none rfl) (ix_shr32 rfl rfl) ?_
        simp only [Act.put, List.setIfInBounds_toArray, List.set_cons_zero, List.set_cons_succ]
        refine wpList_run (v := .int .i64 0) (wanted_none rfl) (ix_add rfl rfl rfl HZ.out.1 (by decide)) ?_
        simp only [Act.put, List.setIfInBounds_toArray, List.set_cons_zero, List.set_cons_succ]
        refine wpList_run (v := .bool false) (wanted_none rfl) (ix_neq rfl rfl rfl (by decide)) ?_
        simp only [Act.put, List.setIfInBounds_toArray, List.set_cons_zero, List.set_cons_succ]
        refine wpList_run (v := .bool false) (wanted_none rfl) (exec_move rfl rfl) ?_
        simp only [Act.put, List.setIfInBounds_toArray, List.set_cons_zero, List.set_cons_succ]
        refine wpList_run (v := .int .i64 L) rfl (exec_move rfl rfl) ?_
        simp only [Act.put, List.setIfInBounds_toArray, List.set_cons_zero, List.set_cons_succ]
        refine wpList_run (v := .int .i64 0) rfl ((ix_and32 rfl rfl).trans (by rw [HZ.out.2])) ?_
        simp only [Act.put, List.setIfInBounds_toArray, List.set_cons_zero, List.set_cons_succ]
        refine wpList_run (v := .bool false) rfl (ix_neq rfl rfl rfl (by decide)) ?_
        simp only [Act.put, List.setIfInBounds_toArray, List.set_cons_zero, List.set_cons_succ]
        refine wpList_run (v := .bool false) (wanted_none rfl) (ix_pickF rfl rfl rfl) ?_
        simp only [Act.put, List.setIfInBounds_toArray, List.set_cons_zero, List.set_cons_succ]
        obtain ⟨w9, hw9⟩ : ∃ z, z = wr := ⟨_, rfl⟩
        rw [← hw9] at HOR HTA ⊢
        clear hw9 HGA
        have HP9 := Lib.hid (HP.out.still HTA.out)
        have HTz := Lib.hid (HTw.out.trans HTA.out fun _ _ e => e)
        have HT1z := Lib.hid (HTR.out.trans HTA.out fun _ _ e => e)
        go_upto_region 24 with fail
        refine wp_region_lit ?_
        refine wpList_run (v := .agg k.cells) (wanted_none rfl) (gx_loads rfl rfl (blk_range (HBC1.out.turn HT1z.out fun e => e)) Try.underlying45 rfl (by rw [size_cfg]; rfl)) ?_
        simp only [Act.put, List.setIfInBounds_toArray, List.set_cons_zero, List.set_cons_succ]
        refine wpList_run (v := .pointer (some ⟨ga, 0 + 0 * 1, none⟩)) (wanted_none rfl) (gx_aaddr (i := 0) (sz := 1) rfl rfl rfl Try.underlying46 (by kernel_rfl) (by decide) rfl) ?_
        simp only [Act.put, List.setIfInBounds_toArray, List.set_cons_zero, List.set_cons_succ]
        refine wpList_run (v := .int .i64 acq) (wanted_none rfl) (exec_load1 rfl rfl (by kernel_rfl) ((HBA1.out.turn HT1z.out fun e => e).cell 0)) ?_
        simp only [Act.put, List.setIfInBounds_toArray, List.set_cons_zero, List.set_cons_succ]
        refine wpList_run (v := .pointer (some ⟨ga, 0 + 1 * 1, none⟩)) (wanted_none rfl) (gx_aaddr (i := 1) (sz := 1) rfl rfl rfl Try.underlying46 (by kernel_rfl) (by decide) rfl) ?_
        simp only [Act.put, List.setIfInBounds_toArray, List.set_cons_zero, List.set_cons_succ]
        refine wpList_run (v := .int .i64 iss) (wanted_none rfl) (exec_load1 rfl rfl (by kernel_rfl) ((HBA1.out.turn HT1z.out fun e => e).cell 1)) ?_
        simp only [Act.put, List.setIfInBounds_toArray, List.set_cons_zero, List.set_cons_succ]
        refine wpList_run (v := .pointer (some ⟨ga, 0 + 2 * 1, none⟩)) (wanted_none rfl) (gx_aaddr (i := 2) (sz := 1) rfl rfl rfl Try.underlying46 (by kernel_rfl) (by decide) rfl) ?_
        simp only [Act.put, List.setIfInBounds_toArray, List.set_cons_zero, List.set_cons_succ]
        refine wpList_run (v := .int .i64 amt) (wanted_none rfl) (exec_load1 rfl rfl (by kernel_rfl) ((HBA1.out.turn HT1z.out fun e => e).cell 2)) ?_
        simp only [Act.put, List.setIfInBounds_toArray, List.set_cons_zero, List.set_cons_succ]
        refine wpList_op rfl fun K9 HK9 => ?_
        go_wp2_with fail
        refine (Payment_walk (w := w9) HQ.out HN.out).mono ?_
        rintro e wp ⟨v1, rfl, ho, ht⟩
        refine HK9.out _ _ ?_
        clear HK9
        try simp only [Act.put, List.setIfInBounds_toArray, List.set_cons_zero, List.set_cons_succ]
        obtain ⟨Ap, np, cp, hv, hnp, _, hea⟩ := EntAt.of_v ho (pay_wf HQ.out HN.out) (Nat.le_trans (pay_len _ _ _ _) (by decide))
        subst hv
        obtain ⟨pe, hpe⟩ : ∃ x, x = payE k acq iss amt := ⟨_, rfl⟩
        obtain ⟨ps, hps⟩ : ∃ x, x = payR k acq iss amt := ⟨_, rfl⟩
        have HNP := Lib.hid (show np ≤ 6 from by rw [hnp]; exact pay_len _ _ _ _)
        have HSM := Lib.hid (show pe = 0 → (∀ e ∈ ps, (0 ≤ e.1 ∧ e.1 < (k.n : Int) + 1) ∧ e.2 ≠ -9223372036854775808) ∧ Lg.tot ps = 0 from fun h => by rw [hps]; exact pay_small (by rw [← hpe]; exact h))
        rw [← hpe]
        rw [← hps] at hea
        have HWP := Lib.hid (show ∀ e ∈ ps, Mn.in64 e.1 ∧ Mn.in64 e.2 from by rw [hps]; exact pay_wf HQ.out HN.out)
        have HE := Lib.hid hea
        have HTp := Lib.hid (HTz.out.trans ht fun _ _ e => e)
        have HPp := Lib.hid (HP9.out.still ht)
        have HOp := Lib.hid (HOR.out.still ht)
        clear ho hea ht hnp hpe hps HP9 HOR
        by_cases he : pe = 0
        · have HE0 := Lib.hid he
          have hsm := HSM.out he
          have HTE := Lib.hid (turnE_ok fun e hx => (hsm.1 e hx).2)
          have HAC := Lib.hid (show Lg.accB (a : Int) ps = true from Lg.accB_iff.2 fun e hx => by have := (hsm.1 e hx).1; have := HNI.out; have := HKN.out; omega)
          have HTO := Lib.hid hsm.2
          clear he hsm
          refine wpList_run (v := .tuple #[.slice Ap np cp, .int .i64 pe]) (wanted_none rfl) (exec_move rfl rfl) ?_
          simp only [Act.put, List.setIfInBounds_toArray, List.set_cons_zero, List.set_cons_succ]
          refine wpList_run (v := .slice Ap np cp) (wanted_none rfl) (ix_extract rfl rfl rfl) ?_
          simp only [Act.put, List.setIfInBounds_toArray, List.set_cons_zero, List.set_cons_succ]
          refine wpList_run (v := .int .i64 pe) (wanted_none rfl) (ix_extract rfl rfl rfl) ?_
          simp only [Act.put, List.setIfInBounds_toArray, List.set_cons_zero, List.set_cons_succ]
          refine wpList_run (v := .slice Ap np cp) (wanted_none rfl) (gx_assign rfl rfl) ?_
          simp only [Act.put, List.setIfInBounds_toArray, List.set_cons_zero, List.set_cons_succ]
          refine wpList_run (v := .int .i64 pe) (wanted_none rfl) (gx_assign rfl rfl) ?_
          simp only [Act.put, List.setIfInBounds_toArray, List.set_cons_zero, List.set_cons_succ]
          go_upto_region 25 with fail
          refine wp_region_lit ?_
          refine wpList_run (v := .int .i64 pe) (wanted_none rfl) (exec_move rfl rfl) ?_
          simp only [Act.put, List.setIfInBounds_toArray, List.set_cons_zero, List.set_cons_succ]
          refine wpList_run (v := .bool false) (wanted_none rfl) (ix_neq rfl rfl rfl (by rw [HE0.out]; rfl)) ?_
          simp only [Act.put, List.setIfInBounds_toArray, List.set_cons_zero, List.set_cons_succ]
          go_upto_region 27 with fail
          refine wp_region_lit ?_
          refine wpList_run (v := .slice Ap np cp) (wanted_none rfl) (exec_move rfl rfl) ?_
          simp only [Act.put, List.setIfInBounds_toArray, List.set_cons_zero, List.set_cons_succ]
          refine wpList_op rfl fun K9 HK9 => ?_
          go_wp2_with fail
          refine (Turned_walk HE.out (by have := HNP.out; omega)).mono ?_
          rintro e wt ⟨v2, rfl, ho, ht⟩
          refine HK9.out _ _ ?_
          clear HK9
          try simp only [Act.put, List.setIfInBounds_toArray, List.set_cons_zero, List.set_cons_succ]
          rw [HTE.out]
          obtain ⟨At, nt, ct, hv, hnt, _, hea⟩ := EntAt.of_v ho (turn_wf HWP.out) (Nat.le_trans (turn_len ps) (by have := HE.out.len; have := HNP.out; omega))
          subst hv
          have HNT := Lib.hid (show nt ≤ 6 from by rw [hnt]; have h1 := turn_len ps; have h2 := HE.out.len; have h3 := HNP.out; omega)
          have htl : turnR ps = Lg.turnL ps := if_pos HTE.out
          rw [htl] at hea
          have HEt := Lib.hid hea
          have HE2 := Lib.hid (HE.out.still ht)
          have HTt := Lib.hid (HTp.out.trans ht fun _ _ e => e)
          have HPt := Lib.hid (HPp.out.still ht)
          have HOt := Lib.hid (HOp.out.still ht)
          have HNE := Lib.hid (show ∀ b0 o0 s0, At = some ⟨b0, o0, s0⟩ → b0 ≠ p from fun b0 o0 s0 hb => ho.ne (HPp.out.still ht).blk (by decide) b0 (by rw [hb]; rfl))
          clear ho hea ht hnt htl HPp HOp HE
          refine wpList_run (v := .tuple #[.slice At nt ct, .int .i64 0]) (wanted_none rfl) (exec_move rfl rfl) ?_
          simp only [Act.put, List.setIfInBounds_toArray, List.set_cons_zero, List.set_cons_succ]
          refine wpList_run (v := .slice At nt ct) (wanted_none rfl) (ix_extract rfl rfl rfl) ?_
          simp only [Act.put, List.setIfInBounds_toArray, List.set_cons_zero, List.set_cons_succ]
          refine wpList_run (v := .int .i64 0) (wanted_none rfl) (ix_extract rfl rfl rfl) ?_
          simp only [Act.put, List.setIfInBounds_toArray, List.set_cons_zero, List.set_cons_succ]
          refine wpList_run (v := .slice At nt ct) (wanted_none rfl) (gx_assign rfl rfl) ?_
          simp only [Act.put, List.setIfInBounds_toArray, List.set_cons_zero, List.set_cons_succ]
          refine wpList_run (v := .int .i64 0) (wanted_none rfl) (gx_assign rfl rfl) ?_
          simp only [Act.put, List.setIfInBounds_toArray, List.set_cons_zero, List.set_cons_succ]
          rcases post_two (b := b) HAC.out HTO.out with h0 | h0
          · have HU := Lib.hid (Lg.undo HB6.out h0)
            have H0 := Lib.hid h0
            clear h0
            go_upto_region 28 with fail
            refine wp_region_lit ?_
            refine wpList_run (v := .pointer (some ⟨p, 0, none⟩)) (wanted_none rfl) (exec_move rfl rfl) ?_
            simp only [Act.put, List.setIfInBounds_toArray, List.set_cons_zero, List.set_cons_succ]
            refine wpList_run (v := .slice Ap np cp) (wanted_none rfl) (exec_move rfl rfl) ?_
            simp only [Act.put, List.setIfInBounds_toArray, List.set_cons_zero, List.set_cons_succ]
            refine wpList_op rfl fun K9 HK9 => ?_
            go_wp2_with fail
            refine (Post_is (E := 0) (g := Lg.postB a b ps) HPt.out HE2.out (by have := HNP.out; omega) H0.out rfl).mono ?_
            rintro e wx ⟨rfl, hp, ht⟩
            refine HK9.out _ _ ?_
            clear HK9
            try simp only [Act.put, List.setIfInBounds_toArray, List.set_cons_zero, List.set_cons_succ]
            have HPx := Lib.hid hp
            have HTx := Lib.hid (HTt.out.newer HPL.out ht)
            have HOx := Lib.hid (HOt.out.turn ht fun g hg e => HOt.out.ne HPt.out.blk (by decide) g hg (show g = p from e))
            have HEx := Lib.hid (HEt.out.turn ht fun b0 o0 s0 hb hn0 hl e => HNE.out b0 o0 s0 hb (show b0 = p from e))
            clear hp ht
            refine wpList_run (v := .int .i64 0) (wanted_none rfl) (gx_assign rfl rfl) ?_
            simp only [Act.put, List.setIfInBounds_toArray, List.set_cons_zero, List.set_cons_succ]
            go_upto_region 29 with fail
            refine wp_region_lit ?_
            refine wpList_run (v := .int .i64 0) (wanted_none rfl) (exec_move rfl rfl) ?_
            simp only [Act.put, List.setIfInBounds_toArray, List.set_cons_zero, List.set_cons_succ]
            refine wpList_run (v := .bool false) (wanted_none rfl) (ix_neq rfl rfl rfl (by decide)) ?_
            simp only [Act.put, List.setIfInBounds_toArray, List.set_cons_zero, List.set_cons_succ]
            refine wpList_run (v := .bool false) (wanted_none rfl) (exec_move rfl rfl) ?_
            simp only [Act.put, List.setIfInBounds_toArray, List.set_cons_zero, List.set_cons_succ]
            refine wpList_run (v := .int .i64 0) rfl (exec_move rfl rfl) ?_
            simp only [Act.put, List.setIfInBounds_toArray, List.set_cons_zero, List.set_cons_succ]
            refine wpList_run (v := .bool false) rfl (ix_neq rfl rfl rfl (by decide)) ?_
            simp only [Act.put, List.setIfInBounds_toArray, List.set_cons_zero, List.set_cons_succ]
            refine wpList_run (v := .bool false) rfl (exec_move rfl rfl) ?_
            simp only [Act.put, List.setIfInBounds_toArray, List.set_cons_zero, List.set_cons_succ]
            refine wpList_skip (by go_simp) ?_
            simp only [Act.put, List.setIfInBounds_toArray, List.set_cons_zero, List.set_cons_succ]
            refine wpList_skip (by go_simp) ?_
            simp only [Act.put, List.setIfInBounds_toArray, List.set_cons_zero, List.set_cons_succ]
            refine wpList_run (v := .bool false) rfl (ix_pickF rfl rfl rfl) ?_
            simp only [Act.put, List.setIfInBounds_toArray, List.set_cons_zero, List.set_cons_succ]
            refine wpList_run (v := .bool false) (wanted_none rfl) (ix_pickF rfl rfl rfl) ?_
            simp only [Act.put, List.setIfInBounds_toArray, List.set_cons_zero, List.set_cons_succ]
            go_upto_region 31 with fail
            refine wp_region_lit ?_
            refine wpList_run (v := .int .i64 0) (wanted_none rfl) (exec_move rfl rfl) ?_
            simp only [Act.put, List.setIfInBounds_toArray, List.set_cons_zero, List.set_cons_succ]
            refine wpList_run (v := .bool true) (wanted_none rfl) (ix_eql rfl rfl rfl (by decide)) ?_
            simp only [Act.put, List.setIfInBounds_toArray, List.set_cons_zero, List.set_cons_succ]
            go_upto_region 32 with fail
            refine wp_region_lit ?_
            refine wpList_run (v := .pointer (some ⟨p, 0, none⟩)) (wanted_none rfl) (exec_move rfl rfl) ?_
            simp only [Act.put, List.setIfInBounds_toArray, List.set_cons_zero, List.set_cons_succ]
            refine wpList_run (v := .slice At nt ct) (wanted_none rfl) (exec_move rfl rfl) ?_
            simp only [Act.put, List.setIfInBounds_toArray, List.set_cons_zero, List.set_cons_succ]
            refine wpList_op rfl fun K9 HK9 => ?_
            go_wp2_with fail
            refine (Post_is (E := 0) (g := b) HPx.out HEx.out (by have := HNT.out; omega) HU.out.1 HU.out.2).mono ?_
            rintro e wy ⟨rfl, hp, ht⟩
            refine HK9.out _ _ ?_
            clear HK9
            try simp only [Act.put, List.setIfInBounds_toArray, List.set_cons_zero, List.set_cons_succ]
            have HPe := Lib.hid hp
            have HTe := Lib.hid (HTx.out.newer HPL.out ht)
            have HOe := Lib.hid (HOx.out.turn ht fun g hg e => HOx.out.ne HPx.out.blk (by decide) g hg (show g = p from e))
            clear hp ht
            refine wpList_run (v := .int .i64 0) (wanted_none rfl) (gx_assign rfl rfl) ?_
            simp only [Act.put, List.setIfInBounds_toArray, List.set_cons_zero, List.set_cons_succ]
            go_upto_region 33 with fail
            refine wp_region_lit ?_
            refine wpList_run (v := .int .i64 0) (wanted_none rfl) (exec_move rfl rfl) ?_
            simp only [Act.put, List.setIfInBounds_toArray, List.set_cons_zero, List.set_cons_succ]
            refine wpList_run (v := .bool false) (wanted_none rfl) (ix_neq rfl rfl rfl (by decide)) ?_
            simp only [Act.put, List.setIfInBounds_toArray, List.set_cons_zero, List.set_cons_succ]
            go_upto_region 35 with fail
            refine wp_region_lit ?_
            refine wpList_run (v := .int .i64 0) (wanted_none rfl) (gx_assign rfl rfl) ?_
            simp only [Act.put, List.setIfInBounds_toArray, List.set_cons_zero, List.set_cons_succ]
            obtain ⟨we, hwe⟩ : ∃ z, z = wy := ⟨_, rfl⟩
            rw [← hwe] at HPe HTe HOe ⊢
            clear hwe
            obtain ⟨N, hN⟩ : ∃ z, z = a := ⟨_, rfl⟩
            rw [← hN] at HN7 HPe HOe ⊢
            have HNA := Lib.hid hN
            clear hN
            go_wp2_with fail
            go_loopg [23] N (fun gk iv wr => ∃ i : Nat, iv = .int .i64 (i : Int) ∧ i + gk = N ∧ wr = we)
            case atStart => exact ⟨0, rfl, by omega, rfl⟩
            obtain ⟨i, rfl, hgi, rfl⟩ := hrel
            have HGI := Lib.hid hgi
            have yi2 : (i : Int) ≤ (N : Int) := by omega
            have yN2 : (N : Int) ≤ 7 := by have := HN7.out; omega
            clear hgi
            by_cases hlt : i < N
            · have HLI := Lib.hid hlt
              have HVi := Lib.hid (bal_at N b hlt)
              have y3 : (i : Int) < (N : Int) := by omega
              obtain ⟨g9, c10, hsv, _⟩ := HOe.out.some_ (by rw [nums_len]; omega)
              rw [nums_len] at hsv
              injection hsv with h1 h2 h3
              subst h1 h3
              have HEL := Lib.hid (show wr.cell? ⟨g9, i, none⟩ = some (.int .i64 (b i)) from by have := HOe.out.el0 (i := i) (nums_at b hlt) 0 _ rfl; simpa using this)
              clear hlt h2
              go_upto_region 36 with fail
              refine wp_region_lit ?_
              refine wpList_run (v := .int .i64 (i : Int)) (wanted_none rfl) (exec_move rfl rfl) ?_
              simp only [Act.put, List.setIfInBounds_toArray, List.set_cons_zero, List.set_cons_succ]
              refine wpList_run (v := .pointer (some ⟨p, 0, none⟩)) (wanted_none rfl) (exec_move rfl rfl) ?_
              simp only [Act.put, List.setIfInBounds_toArray, List.set_cons_zero, List.set_cons_succ]
              refine wpList_op rfl fun K9 HK9 => ?_
              go_wp2_with fail
              refine (Len_walk HPe.out).mono ?_
              rintro e wr ⟨rfl, rfl⟩
              refine HK9.out _ _ ?_
              clear HK9
              try simp only [Act.put, List.setIfInBounds_toArray, List.set_cons_zero, List.set_cons_succ]
              refine wpList_run (v := .bool true) (wanted_none rfl) (ix_lss rfl rfl rfl (decide_eq_true y3)) ?_
              simp only [Act.put, List.setIfInBounds_toArray, List.set_cons_zero, List.set_cons_succ]
              go_upto_region 38 with fail
              refine wp_region_lit ?_
              refine wpList_run (v := .pointer (some ⟨p, 0, none⟩)) (wanted_none rfl) (exec_move rfl rfl) ?_
              simp only [Act.put, List.setIfInBounds_toArray, List.set_cons_zero, List.set_cons_succ]
              refine wpList_run (v := .int .i64 (i : Int)) (wanted_none rfl) (exec_move rfl rfl) ?_
              simp only [Act.put, List.setIfInBounds_toArray, List.set_cons_zero, List.set_cons_succ]
              refine wpList_op rfl fun K9 HK9 => ?_
              go_wp2_with fail
              refine (Balance_walk HPe.out).mono ?_
              rintro e wr ⟨rfl, rfl⟩
              refine HK9.out _ _ ?_
              clear HK9
              try simp only [Act.put, List.setIfInBounds_toArray, List.set_cons_zero, List.set_cons_succ]
              rw [HVi.out.1, HVi.out.2]
              refine wpList_run (v := .tuple #[.int .i64 (b i), .int .i64 0]) (wanted_none rfl) (exec_move rfl rfl) ?_
              simp only [Act.put, List.setIfInBounds_toArray, List.set_cons_zero, List.set_cons_succ]
              refine wpList_run (v := .int .i64 (b i)) (wanted_none rfl) (ix_extract rfl rfl rfl) ?_
              simp only [Act.put, List.setIfInBounds_toArray, List.set_cons_zero, List.set_cons_succ]
              refine wpList_run (v := .int .i64 0) (wanted_none rfl) (ix_extract rfl rfl rfl) ?_
              simp only [Act.put, List.setIfInBounds_toArray, List.set_cons_zero, List.set_cons_succ]
              refine wpList_run (v := .int .i64 (b i)) (wanted_none rfl) (gx_assign rfl rfl) ?_
              simp only [Act.put, List.setIfInBounds_toArray, List.set_cons_zero, List.set_cons_succ]
              refine wpList_run (v := .int .i64 0) (wanted_none rfl) (gx_assign rfl rfl) ?_
              simp only [Act.put, List.setIfInBounds_toArray, List.set_cons_zero, List.set_cons_succ]
              go_upto_region 39 with fail
              refine wp_region_lit ?_
              refine wpList_run (v := .int .i64 0) (wanted_none rfl) (exec_move rfl rfl) ?_
              simp only [Act.put, List.setIfInBounds_toArray, List.set_cons_zero, List.set_cons_succ]
              refine wpList_run (v := .bool false) (wanted_none rfl) (ix_neq rfl rfl rfl (by decide)) ?_
              simp only [Act.put, List.setIfInBounds_toArray, List.set_cons_zero, List.set_cons_succ]
              refine wpList_run (v := .bool false) (wanted_none rfl) (exec_move rfl rfl) ?_
              simp only [Act.put, List.setIfInBounds_toArray, List.set_cons_zero, List.set_cons_succ]
              refine wpList_run (v := .int .i64 (b i)) rfl (exec_move rfl rfl) ?_
              simp only [Act.put, List.setIfInBounds_toArray, List.set_cons_zero, List.set_cons_succ]
              refine wpList_run (v := .slice (some ⟨g9, 0, none⟩) N c9) rfl (exec_move rfl rfl) ?_
              simp only [Act.put, List.setIfInBounds_toArray, List.set_cons_zero, List.set_cons_succ]
              refine wpList_run (v := .int .i64 (i : Int)) rfl (exec_move rfl rfl) ?_
              simp only [Act.put, List.setIfInBounds_toArray, List.set_cons_zero, List.set_cons_succ]
              refine wpList_run (v := .pointer (some ⟨g9, i, none⟩)) rfl (gx_iaddr (i := i) (sz := 1) rfl rfl rfl Try.underlying32 size_n HLI.out (by omega)) ?_
              simp only [Act.put, List.setIfInBounds_toArray, List.set_cons_zero, List.set_cons_succ]
              refine wpList_run (v := .int .i64 (b i)) rfl (exec_load1 rfl rfl (by kernel_rfl) HEL.out) ?_
              simp only [Act.put, List.setIfInBounds_toArray, List.set_cons_zero, List.set_cons_succ]
              refine wpList_run (v := .bool false) rfl (ix_neq rfl rfl rfl (by simp)) ?_
              simp only [Act.put, List.setIfInBounds_toArray, List.set_cons_zero, List.set_cons_succ]
              refine wpList_run (v := .bool false) (wanted_none rfl) (ix_pickF rfl rfl rfl) ?_
              simp only [Act.put, List.setIfInBounds_toArray, List.set_cons_zero, List.set_cons_succ]
              go_upto_region 37 with fail
              refine wp_region_lit ?_
              refine wpList_run (v := .int .i64 (i : Int)) (wanted_none rfl) (exec_move rfl rfl) ?_
              simp only [Act.put, List.setIfInBounds_toArray, List.set_cons_zero, List.set_cons_succ]
              refine wpList_run (v := .int .i64 ((i + 1 : Nat) : Int)) (wanted_none rfl) (ix_add rfl rfl rfl (by omega) (by omega)) ?_
              simp only [Act.put, List.setIfInBounds_toArray, List.set_cons_zero, List.set_cons_succ]
              refine wpList_run (v := .int .i64 ((i + 1 : Nat) : Int)) (wanted_none rfl) (gx_assign rfl rfl) ?_
              simp only [Act.put, List.setIfInBounds_toArray, List.set_cons_zero, List.set_cons_succ]
              go_wp2_with fail
              go_roundg (N - (i + 1))
              case measure => have := HGI.out; have := HLI.out; omega
              case rel => exact ⟨i + 1, rfl, by have := HLI.out; omega, rfl⟩
            · have y3 : ¬ (i : Int) < (N : Int) := by omega
              clear hlt
              go_upto_region 36 with fail
              refine wp_region_lit ?_
              refine wpList_run (v := .int .i64 (i : Int)) (wanted_none rfl) (exec_move rfl rfl) ?_
              simp only [Act.put, List.setIfInBounds_toArray, List.set_cons_zero, List.set_cons_succ]
              refine wpList_run (v := .pointer (some ⟨p, 0, none⟩)) (wanted_none rfl) (exec_move rfl rfl) ?_
              simp only [Act.put, List.setIfInBounds_toArray, List.set_cons_zero, List.set_cons_succ]
              refine wpList_op rfl fun K9 HK9 => ?_
              go_wp2_with fail
              refine (Len_walk HPe.out).mono ?_
              rintro e wr ⟨rfl, rfl⟩
              refine HK9.out _ _ ?_
              clear HK9
              try simp only [Act.put, List.setIfInBounds_toArray, List.set_cons_zero, List.set_cons_succ]
              refine wpList_run (v := .bool false) (wanted_none rfl) (ix_lss rfl rfl rfl (decide_eq_false (by omega))) ?_
              simp only [Act.put, List.setIfInBounds_toArray, List.set_cons_zero, List.set_cons_succ]
              go_upto_region 41 with fail
              refine wp_region_lit ?_
              refine wpList_run (v := .bool true) (wanted_none rfl) (gx_assign rfl rfl) ?_
              simp only [Act.put, List.setIfInBounds_toArray, List.set_cons_zero, List.set_cons_succ]
              go_wp2_with fail
              go_ret
              exact ⟨rfl, HTe.out⟩
          · have H0 := Lib.hid h0
            clear h0
            go_upto_region 28 with fail
            refine wp_region_lit ?_
            refine wpList_run (v := .pointer (some ⟨p, 0, none⟩)) (wanted_none rfl) (exec_move rfl rfl) ?_
            simp only [Act.put, List.setIfInBounds_toArray, List.set_cons_zero, List.set_cons_succ]
            refine wpList_run (v := .slice Ap np cp) (wanted_none rfl) (exec_move rfl rfl) ?_
            simp only [Act.put, List.setIfInBounds_toArray, List.set_cons_zero, List.set_cons_succ]
            refine wpList_op rfl fun K9 HK9 => ?_
            go_wp2_with fail
            refine (Post_is (E := 100) (g := b) HPt.out HE2.out (by have := HNP.out; omega) H0.out (Lg.postB_bad (by rw [H0.out]; decide))).mono ?_
            rintro e wx ⟨rfl, hp, ht⟩
            refine HK9.out _ _ ?_
            clear HK9
            try simp only [Act.put, List.setIfInBounds_toArray, List.set_cons_zero, List.set_cons_succ]
            have HPe := Lib.hid hp
            have HTe := Lib.hid (HTt.out.newer HPL.out ht)
            have HOe := Lib.hid (HOt.out.turn ht fun g hg e => HOt.out.ne HPt.out.blk (by decide) g hg (show g = p from e))
            clear hp ht
            refine wpList_run (v := .int .i64 100) (wanted_none rfl) (gx_assign rfl rfl) ?_
            simp only [Act.put, List.setIfInBounds_toArray, List.set_cons_zero, List.set_cons_succ]
            go_upto_region 29 with fail
            refine wp_region_lit ?_
            refine wpList_run (v := .int .i64 0) (wanted_none rfl) (exec_move rfl rfl) ?_
            simp only [Act.put, List.setIfInBounds_toArray, List.set_cons_zero, List.set_cons_succ]
            refine wpList_run (v := .bool false) (wanted_none rfl) (ix_neq rfl rfl rfl (by decide)) ?_
            simp only [Act.put, List.setIfInBounds_toArray, List.set_cons_zero, List.set_cons_succ]
            refine wpList_run (v := .bool false) (wanted_none rfl) (exec_move rfl rfl) ?_
            simp only [Act.put, List.setIfInBounds_toArray, List.set_cons_zero, List.set_cons_succ]
            refine wpList_run (v := .int .i64 100) rfl (exec_move rfl rfl) ?_
            simp only [Act.put, List.setIfInBounds_toArray, List.set_cons_zero, List.set_cons_succ]
            refine wpList_run (v := .bool true) rfl (ix_neq rfl rfl rfl (by decide)) ?_
            simp only [Act.put, List.setIfInBounds_toArray, List.set_cons_zero, List.set_cons_succ]
            refine wpList_run (v := .bool true) rfl (exec_move rfl rfl) ?_
            simp only [Act.put, List.setIfInBounds_toArray, List.set_cons_zero, List.set_cons_succ]
            refine wpList_run (v := .int .i64 100) rfl (exec_move rfl rfl) ?_
            simp only [Act.put, List.setIfInBounds_toArray, List.set_cons_zero, List.set_cons_succ]
            refine wpList_run (v := .bool false) rfl (ix_neq rfl rfl rfl (by decide)) ?_
            simp only [Act.put, List.setIfInBounds_toArray, List.set_cons_zero, List.set_cons_succ]
            refine wpList_run (v := .bool false) rfl (ix_pickT rfl rfl rfl) ?_
            simp only [Act.put, List.setIfInBounds_toArray, List.set_cons_zero, List.set_cons_succ]
            refine wpList_run (v := .bool false) (wanted_none rfl) (ix_pickF rfl rfl rfl) ?_
            simp only [Act.put, List.setIfInBounds_toArray, List.set_cons_zero, List.set_cons_succ]
            go_upto_region 31 with fail
            refine wp_region_lit ?_
            refine wpList_run (v := .int .i64 100) (wanted_none rfl) (exec_move rfl rfl) ?_
            simp only [Act.put, List.setIfInBounds_toArray, List.set_cons_zero, List.set_cons_succ]
            refine wpList_run (v := .bool false) (wanted_none rfl) (ix_eql rfl rfl rfl (by decide)) ?_
            simp only [Act.put, List.setIfInBounds_toArray, List.set_cons_zero, List.set_cons_succ]
            go_upto_region 35 with fail
            refine wp_region_lit ?_
            refine wpList_run (v := .int .i64 0) (wanted_none rfl) (gx_assign rfl rfl) ?_
            simp only [Act.put, List.setIfInBounds_toArray, List.set_cons_zero, List.set_cons_succ]
            obtain ⟨we, hwe⟩ : ∃ z, z = wx := ⟨_, rfl⟩
            rw [← hwe] at HPe HTe HOe ⊢
            clear hwe
            obtain ⟨N, hN⟩ : ∃ z, z = a := ⟨_, rfl⟩
            rw [← hN] at HN7 HPe HOe ⊢
            have HNA := Lib.hid hN
            clear hN
            go_wp2_with fail
            go_loopg [23] N (fun gk iv wr => ∃ i : Nat, iv = .int .i64 (i : Int) ∧ i + gk = N ∧ wr = we)
            case atStart => exact ⟨0, rfl, by omega, rfl⟩
            obtain ⟨i, rfl, hgi, rfl⟩ := hrel
            have HGI := Lib.hid hgi
            have yi2 : (i : Int) ≤ (N : Int) := by omega
            have yN2 : (N : Int) ≤ 7 := by have := HN7.out; omega
            clear hgi
            by_cases hlt : i < N
            · have HLI := Lib.hid hlt
              have HVi := Lib.hid (bal_at N b hlt)
              have y3 : (i : Int) < (N : Int) := by omega
              obtain ⟨g9, c10, hsv, _⟩ := HOe.out.some_ (by rw [nums_len]; omega)
              rw [nums_len] at hsv
              injection hsv with h1 h2 h3
              subst h1 h3
              have HEL := Lib.hid (show wr.cell? ⟨g9, i, none⟩ = some (.int .i64 (b i)) from by have := HOe.out.el0 (i := i) (nums_at b hlt) 0 _ rfl; simpa using this)
              clear hlt h2
              go_upto_region 36 with fail
              refine wp_region_lit ?_
              refine wpList_run (v := .int .i64 (i : Int)) (wanted_none rfl) (exec_move rfl rfl) ?_
              simp only [Act.put, List.setIfInBounds_toArray, List.set_cons_zero, List.set_cons_succ]
              refine wpList_run (v := .pointer (some ⟨p, 0, none⟩)) (wanted_none rfl) (exec_move rfl rfl) ?_
              simp only [Act.put, List.setIfInBounds_toArray, List.set_cons_zero, List.set_cons_succ]
              refine wpList_op rfl fun K9 HK9 => ?_
              go_wp2_with fail
              refine (Len_walk HPe.out).mono ?_
              rintro e wr ⟨rfl, rfl⟩
              refine HK9.out _ _ ?_
              clear HK9
              try simp only [Act.put, List.setIfInBounds_toArray, List.set_cons_zero, List.set_cons_succ]
              refine wpList_run (v := .bool true) (wanted_none rfl) (ix_lss rfl rfl rfl (decide_eq_true y3)) ?_
              simp only [Act.put, List.setIfInBounds_toArray, List.set_cons_zero, List.set_cons_succ]
              go_upto_region 38 with fail
              refine wp_region_lit ?_
              refine wpList_run (v := .pointer (some ⟨p, 0, none⟩)) (wanted_none rfl) (exec_move rfl rfl) ?_
              simp only [Act.put, List.setIfInBounds_toArray, List.set_cons_zero, List.set_cons_succ]
              refine wpList_run (v := .int .i64 (i : Int)) (wanted_none rfl) (exec_move rfl rfl) ?_
              simp only [Act.put, List.setIfInBounds_toArray, List.set_cons_zero, List.set_cons_succ]
              refine wpList_op rfl fun K9 HK9 => ?_
              go_wp2_with fail
              refine (Balance_walk HPe.out).mono ?_
              rintro e wr ⟨rfl, rfl⟩
              refine HK9.out _ _ ?_
              clear HK9
              try simp only [Act.put, List.setIfInBounds_toArray, List.set_cons_zero, List.set_cons_succ]
              rw [HVi.out.1, HVi.out.2]
              refine wpList_run (v := .tuple #[.int .i64 (b i), .int .i64 0]) (wanted_none rfl) (exec_move rfl rfl) ?_
              simp only [Act.put, List.setIfInBounds_toArray, List.set_cons_zero, List.set_cons_succ]
              refine wpList_run (v := .int .i64 (b i)) (wanted_none rfl) (ix_extract rfl rfl rfl) ?_
              simp only [Act.put, List.setIfInBounds_toArray, List.set_cons_zero, List.set_cons_succ]
              refine wpList_run (v := .int .i64 0) (wanted_none rfl) (ix_extract rfl rfl rfl) ?_
              simp only [Act.put, List.setIfInBounds_toArray, List.set_cons_zero, List.set_cons_succ]
              refine wpList_run (v := .int .i64 (b i)) (wanted_none rfl) (gx_assign rfl rfl) ?_
              simp only [Act.put, List.setIfInBounds_toArray, List.set_cons_zero, List.set_cons_succ]
              refine wpList_run (v := .int .i64 0) (wanted_none rfl) (gx_assign rfl rfl) ?_
              simp only [Act.put, List.setIfInBounds_toArray, List.set_cons_zero, List.set_cons_succ]
              go_upto_region 39 with fail
              refine wp_region_lit ?_
              refine wpList_run (v := .int .i64 0) (wanted_none rfl) (exec_move rfl rfl) ?_
              simp only [Act.put, List.setIfInBounds_toArray, List.set_cons_zero, List.set_cons_succ]
              refine wpList_run (v := .bool false) (wanted_none rfl) (ix_neq rfl rfl rfl (by decide)) ?_
              simp only [Act.put, List.setIfInBounds_toArray, List.set_cons_zero, List.set_cons_succ]
              refine wpList_run (v := .bool false) (wanted_none rfl) (exec_move rfl rfl) ?_
              simp only [Act.put, List.setIfInBounds_toArray, List.set_cons_zero, List.set_cons_succ]
              refine wpList_run (v := .int .i64 (b i)) rfl (exec_move rfl rfl) ?_
              simp only [Act.put, List.setIfInBounds_toArray, List.set_cons_zero, List.set_cons_succ]
              refine wpList_run (v := .slice (some ⟨g9, 0, none⟩) N c9) rfl (exec_move rfl rfl) ?_
              simp only [Act.put, List.setIfInBounds_toArray, List.set_cons_zero, List.set_cons_succ]
              refine wpList_run (v := .int .i64 (i : Int)) rfl (exec_move rfl rfl) ?_
              simp only [Act.put, List.setIfInBounds_toArray, List.set_cons_zero, List.set_cons_succ]
              refine wpList_run (v := .pointer (some ⟨g9, i, none⟩)) rfl (gx_iaddr (i := i) (sz := 1) rfl rfl rfl Try.underlying32 size_n HLI.out (by omega)) ?_
              simp only [Act.put, List.setIfInBounds_toArray, List.set_cons_zero, List.set_cons_succ]
              refine wpList_run (v := .int .i64 (b i)) rfl (exec_load1 rfl rfl (by kernel_rfl) HEL.out) ?_
              simp only [Act.put, List.setIfInBounds_toArray, List.set_cons_zero, List.set_cons_succ]
              refine wpList_run (v := .bool false) rfl (ix_neq rfl rfl rfl (by simp)) ?_
              simp only [Act.put, List.setIfInBounds_toArray, List.set_cons_zero, List.set_cons_succ]
              refine wpList_run (v := .bool false) (wanted_none rfl) (ix_pickF rfl rfl rfl) ?_
              simp only [Act.put, List.setIfInBounds_toArray, List.set_cons_zero, List.set_cons_succ]
              go_upto_region 37 with fail
              refine wp_region_lit ?_
              refine wpList_run (v := .int .i64 (i : Int)) (wanted_none rfl) (exec_move rfl rfl) ?_
              simp only [Act.put, List.setIfInBounds_toArray, List.set_cons_zero, List.set_cons_succ]
              refine wpList_run (v := .int .i64 ((i + 1 : Nat) : Int)) (wanted_none rfl) (ix_add rfl rfl rfl (by omega) (by omega)) ?_
              simp only [Act.put, List.setIfInBounds_toArray, List.set_cons_zero, List.set_cons_succ]
              refine wpList_run (v := .int .i64 ((i + 1 : Nat) : Int)) (wanted_none rfl) (gx_assign rfl rfl) ?_
              simp only [Act.put, List.setIfInBounds_toArray, List.set_cons_zero, List.set_cons_succ]
              go_wp2_with fail
              go_roundg (N - (i + 1))
              case measure => have := HGI.out; have := HLI.out; omega
              case rel => exact ⟨i + 1, rfl, by have := HLI.out; omega, rfl⟩
            · have y3 : ¬ (i : Int) < (N : Int) := by omega
              clear hlt
              go_upto_region 36 with fail
              refine wp_region_lit ?_
              refine wpList_run (v := .int .i64 (i : Int)) (wanted_none rfl) (exec_move rfl rfl) ?_
              simp only [Act.put, List.setIfInBounds_toArray, List.set_cons_zero, List.set_cons_succ]
              refine wpList_run (v := .pointer (some ⟨p, 0, none⟩)) (wanted_none rfl) (exec_move rfl rfl) ?_
              simp only [Act.put, List.setIfInBounds_toArray, List.set_cons_zero, List.set_cons_succ]
              refine wpList_op rfl fun K9 HK9 => ?_
              go_wp2_with fail
              refine (Len_walk HPe.out).mono ?_
              rintro e wr ⟨rfl, rfl⟩
              refine HK9.out _ _ ?_
              clear HK9
              try simp only [Act.put, List.setIfInBounds_toArray, List.set_cons_zero, List.set_cons_succ]
              refine wpList_run (v := .bool false) (wanted_none rfl) (ix_lss rfl rfl rfl (decide_eq_false (by omega))) ?_
              simp only [Act.put, List.setIfInBounds_toArray, List.set_cons_zero, List.set_cons_succ]
              go_upto_region 41 with fail
              refine wp_region_lit ?_
              refine wpList_run (v := .bool true) (wanted_none rfl) (gx_assign rfl rfl) ?_
              simp only [Act.put, List.setIfInBounds_toArray, List.set_cons_zero, List.set_cons_succ]
              go_wp2_with fail
              go_ret
              exact ⟨rfl, HTe.out⟩
        · have HE0 := Lib.hid he
          clear he
          refine wpList_run (v := .tuple #[.slice Ap np cp, .int .i64 pe]) (wanted_none rfl) (exec_move rfl rfl) ?_
          simp only [Act.put, List.setIfInBounds_toArray, List.set_cons_zero, List.set_cons_succ]
          refine wpList_run (v := .slice Ap np cp) (wanted_none rfl) (ix_extract rfl rfl rfl) ?_
          simp only [Act.put, List.setIfInBounds_toArray, List.set_cons_zero, List.set_cons_succ]
          refine wpList_run (v := .int .i64 pe) (wanted_none rfl) (ix_extract rfl rfl rfl) ?_
          simp only [Act.put, List.setIfInBounds_toArray, List.set_cons_zero, List.set_cons_succ]
          refine wpList_run (v := .slice Ap np cp) (wanted_none rfl) (gx_assign rfl rfl) ?_
          simp only [Act.put, List.setIfInBounds_toArray, List.set_cons_zero, List.set_cons_succ]
          refine wpList_run (v := .int .i64 pe) (wanted_none rfl) (gx_assign rfl rfl) ?_
          simp only [Act.put, List.setIfInBounds_toArray, List.set_cons_zero, List.set_cons_succ]
          go_upto_region 25 with fail
          refine wp_region_lit ?_
          refine wpList_run (v := .int .i64 pe) (wanted_none rfl) (exec_move rfl rfl) ?_
          simp only [Act.put, List.setIfInBounds_toArray, List.set_cons_zero, List.set_cons_succ]
          refine wpList_run (v := .bool true) (wanted_none rfl) (ix_neq rfl rfl rfl (decide_eq_true HE0.out)) ?_
          simp only [Act.put, List.setIfInBounds_toArray, List.set_cons_zero, List.set_cons_succ]
          go_upto_region 26 with fail
          refine wp_region_lit ?_
          refine wpList_run (v := .bool true) (wanted_none rfl) (gx_assign rfl rfl) ?_
          simp only [Act.put, List.setIfInBounds_toArray, List.set_cons_zero, List.set_cons_succ]
          go_wp2_with fail
          go_ret
          exact ⟨rfl, HTp.out⟩
    · have y3 : (i : Int) < (n : Int) := by omega
      have y4 : ¬ (i : Int) < 60 := by omega
      clear hlt
      go_upto_region 8 with fail
      refine wp_region_lit ?_
      refine wpList_run (v := .int .i64 (i : Int)) (wanted_none rfl) (exec_move rfl rfl) ?_
      simp only [Act.put, List.setIfInBounds_toArray, List.set_cons_zero, List.set_cons_succ]
      refine wpList_run (v := .slice A n c) (wanted_none rfl) (exec_move rfl rfl) ?_
      simp only [Act.put, List.setIfInBounds_toArray, List.set_cons_zero, List.set_cons_succ]
      refine wpList_run (v := .int .i64 (n : Int)) (wanted_none rfl) (gx_len rfl rfl Try.underlying22) ?_
      simp only [Act.put, List.setIfInBounds_toArray, List.set_cons_zero, List.set_cons_succ]
      refine wpList_run (v := .bool true) (wanted_none rfl) (ix_lss rfl rfl rfl (decide_eq_true y3)) ?_
      simp only [Act.put, List.setIfInBounds_toArray, List.set_cons_zero, List.set_cons_succ]
      refine wpList_run (v := .bool true) (wanted_none rfl) (exec_move rfl rfl) ?_
      simp only [Act.put, List.setIfInBounds_toArray, List.set_cons_zero, List.set_cons_succ]
      refine wpList_run (v := .int .i64 (i : Int)) rfl (exec_move rfl rfl) ?_
      simp only [Act.put, List.setIfInBounds_toArray, List.set_cons_zero, List.set_cons_succ]
      refine wpList_run (v := .bool false) rfl (ix_lss rfl rfl rfl (decide_eq_false y4)) ?_
      simp only [Act.put, List.setIfInBounds_toArray, List.set_cons_zero, List.set_cons_succ]
      refine wpList_run (v := .bool false) (wanted_none rfl) (ix_pickT rfl rfl rfl) ?_
      simp only [Act.put, List.setIfInBounds_toArray, List.set_cons_zero, List.set_cons_succ]
      obtain ⟨wz, hwz⟩ : ∃ z, z = wr := ⟨_, rfl⟩
      rw [← hwz] at HP HTR HTw ⊢
      clear hwz HGK
      have HB6 := Lib.hid HP.out.ok
      have HT11 := Lib.hid ((Turn.refl nowhere wz).alloc (.cells #[] 3))
      have hown : Orw (wz.alloc (.cells #[] 3)) wz.heap.size 3 1 (.slice (some ⟨wz.heap.size, 0, none⟩) 0 0) [] := ⟨Fit.nil 1, World.ownsRow_made wz #[] 0 (Nat.le_refl _) (by decide) (by simp)⟩
      go_upto_region 11 with fail
      refine wp_region_lit ?_
      refine wpList_run (v := .slice (some ⟨wz.heap.size, 0, none⟩) 0 0) (w' := wz.alloc (.cells #[] 3)) (wanted_none rfl) (bx_slice0 rfl (inull wz)) ?_
      simp only [Act.put, List.setIfInBounds_toArray, List.set_cons_zero, List.set_cons_succ]
      have HOW := Lib.hid hown
      clear hown
      obtain ⟨g8, hg8⟩ : ∃ g, g = wz.heap.size := ⟨_, rfl⟩
      rw [← hg8] at HOW ⊢
      have HG8 := Lib.hid hg8
      clear hg8
      generalize wz.alloc (.cells #[] 3) = w8 at *
      refine wpList_run (v := .slice (some ⟨g8, 0, none⟩) 0 0) (wanted_none rfl) (gx_assign rfl rfl) ?_
      simp only [Act.put, List.setIfInBounds_toArray, List.set_cons_zero, List.set_cons_succ]
      go_upto_region 12 with fail
      refine wp_region_lit ?_
      refine wpList_run (v := .int .i64 0) (wanted_none rfl) (gx_assign rfl rfl) ?_
      simp only [Act.put, List.setIfInBounds_toArray, List.set_cons_zero, List.set_cons_succ]
      refine wpList_run (v := .int .i64 0) (wanted_none rfl) (gx_assign rfl rfl) ?_
      simp only [Act.put, List.setIfInBounds_toArray, List.set_cons_zero, List.set_cons_succ]
      go_upto_region 13 with fail
      refine wp_region_lit ?_
      refine wpList_run (v := .int .i64 0) (wanted_none rfl) (gx_assign rfl rfl) ?_
      simp only [Act.put, List.setIfInBounds_toArray, List.set_cons_zero, List.set_cons_succ]
      go_wp2_with fail
      go_loopg [11, 12, 13, 14] N (fun gk sv lv hv iv wr => ∃ (i : Nat), iv = .int .i64 (i : Int) ∧ lv = .int .i64 (lowS i b) ∧ hv = .int .i64 (highS i b) ∧ i + gk = N ∧ Orw wr g8 3 1 sv (nums i b) ∧ Turn nowhere wz wr)
      case atStart => exact ⟨0, rfl, rfl, rfl, by omega, HOW.out, HT11.out⟩
      obtain ⟨a, rfl, rfl, rfl, hga, hor, hta⟩ := hrel
      have HGA := Lib.hid hga
      have HOR := Lib.hid hor
      have HTA := Lib.hid hta
      have HLW := Lib.hid (low_in a b)
      have HHI := Lib.hid (high_in a HB6.out.1)
      have ya : (a : Int) ≤ (N : Int) := by omega
      obtain ⟨A9, c9, rfl, _⟩ := hor.form
      clear hga hor hta
      rw [nums_len] at HOR ⊢
      by_cases hlt : a < N
      · have HLA := Lib.hid hlt
        have HVv := Lib.hid (bal_at N b hlt)
        have y3 : (a : Int) < (N : Int) := by omega
        clear hlt
        go_upto_region 14 with fail
        refine wp_region_lit ?_
        refine wpList_run (v := .int .i64 (a : Int)) (wanted_none rfl) (exec_move rfl rfl) ?_
        simp only [Act.put, List.setIfInBounds_toArray, List.set_cons_zero, List.set_cons_succ]
        refine wpList_run (v := .pointer (some ⟨p, 0, none⟩)) (wanted_none rfl) (exec_move rfl rfl) ?_
        simp only [Act.put, List.setIfInBounds_toArray, List.set_cons_zero, List.set_cons_succ]
        refine wpList_op rfl fun K9 HK9 => ?_
        go_wp2_with fail
        refine (Len_walk (HP.out.still HTA.out)).mono ?_
        rintro e wr ⟨rfl, rfl⟩
        refine HK9.out _ _ ?_
        clear HK9
        try simp only [Act.put, List.setIfInBounds_toArray, List.set_cons_zero, List.set_cons_succ]
        refine wpList_run (v := .bool true) (wanted_none rfl) (ix_lss rfl rfl rfl (decide_eq_true y3)) ?_
        simp only [Act.put, List.setIfInBounds_toArray, List.set_cons_zero, List.set_cons_succ]
        go_upto_region 16 with fail
        refine wp_region_lit ?_
        refine wpList_run (v := .pointer (some ⟨p, 0, none⟩)) (wanted_none rfl) (exec_move rfl rfl) ?_
        simp only [Act.put, List.setIfInBounds_toArray, List.set_cons_zero, List.set_cons_succ]
        refine wpList_run (v := .int .i64 (a : Int)) (wanted_none rfl) (exec_move rfl rfl) ?_
        simp only [Act.put, List.setIfInBounds_toArray, List.set_cons_zero, List.set_cons_succ]
        refine wpList_op rfl fun K9 HK9 => ?_
        go_wp2_with fail
        refine (Balance_walk (HP.out.still HTA.out)).mono ?_
        rintro e wr ⟨rfl, rfl⟩
        refine HK9.out _ _ ?_
        clear HK9
        try simp only [Act.put, List.setIfInBounds_toArray, List.set_cons_zero, List.set_cons_succ]
        rw [HVv.out.1, HVv.out.2]
        refine wpList_run (v := .tuple #[.int .i64 (b a), .int .i64 0]) (wanted_none rfl) (exec_move rfl rfl) ?_
        simp only [Act.put, List.setIfInBounds_toArray, List.set_cons_zero, List.set_cons_succ]
        refine wpList_run (v := .int .i64 (b a)) (wanted_none rfl) (ix_extract rfl rfl rfl) ?_
        simp only [Act.put, List.setIfInBounds_toArray, List.set_cons_zero, List.set_cons_succ]
        refine wpList_run (v := .int .i64 0) (wanted_none rfl) (ix_extract rfl rfl rfl) ?_
        simp only [Act.put, List.setIfInBounds_toArray, List.set_cons_zero, List.set_cons_succ]
        refine wpList_run (v := .int .i64 (b a)) (wanted_none rfl) (gx_assign rfl rfl) ?_
        simp only [Act.put, List.setIfInBounds_toArray, List.set_cons_zero, List.set_cons_succ]
        refine wpList_run (v := .int .i64 0) (wanted_none rfl) (gx_assign rfl rfl) ?_
        simp only [Act.put, List.setIfInBounds_toArray, List.set_cons_zero, List.set_cons_succ]
        go_upto_region 17 with fail
        refine wp_region_lit ?_
        refine wpList_run (v := .int .i64 0) (wanted_none rfl) (exec_move rfl rfl) ?_
        simp only [Act.put, List.setIfInBounds_toArray, List.set_cons_zero, List.set_cons_succ]
        refine wpList_run (v := .bool false) (wanted_none rfl) (ix_neq rfl rfl rfl (by decide)) ?_
        simp only [Act.put, List.setIfInBounds_toArray, List.set_cons_zero, List.set_cons_succ]
        obtain ⟨Aa, ca, wa, haa, hoa, hta⟩ := orw_add elmN (ty := 32) (W1 := wz) (by rw [← HG8.out]; exact HOR.out) HTA.out (one1 (b a)) rfl (one1_one (b a)) (by rw [nums_len]; have := HN7.out; have := HLA.out; omega)
        rw [nums_len] at haa hoa
        rw [← nums_snoc, ← HG8.out] at hoa
        have HAA := Lib.hid haa
        have HOA := Lib.hid hoa
        have HTAa := Lib.hid hta
        have HBN := Lib.hid (n_h (HB6.out.1 a))
        clear haa hoa hta
        go_upto_region 19 with fail
        refine wp_region_lit ?_
        refine wpList_run (v := .slice A9 a c9) (wanted_none rfl) (exec_move rfl rfl) ?_
        simp only [Act.put, List.setIfInBounds_toArray, List.set_cons_zero, List.set_cons_succ]
        refine wpList_run (v := .int .i64 (b a)) (wanted_none rfl) (exec_move rfl rfl) ?_
        simp only [Act.put, List.setIfInBounds_toArray, List.set_cons_zero, List.set_cons_succ]
        refine wpList_run (v := .slice (some ⟨wr.heap.size, 0, none⟩) 1 1) (w' := wr.alloc (.cells (one1 (b a)).toArray 3)) (wanted_none rfl) (exec_buildSlice1 rfl rfl (build_one elmN (one1 (b a)) rfl (by decide) _ rfl wr)) ?_
        simp only [Act.put, List.setIfInBounds_toArray, List.set_cons_zero, List.set_cons_succ]
        refine wpList_run (v := .slice Aa (a + 1) ca) (w' := wa) (wanted_none rfl) (exec_append rfl rfl rfl HAA.out) ?_
        simp only [Act.put, List.setIfInBounds_toArray, List.set_cons_zero, List.set_cons_succ]
        refine wpList_run (v := .slice Aa (a + 1) ca) (wanted_none rfl) (gx_assign rfl rfl) ?_
        simp only [Act.put, List.setIfInBounds_toArray, List.set_cons_zero, List.set_cons_succ]
        go_upto_region 20 with fail
        refine wp_region_lit ?_
        refine wpList_run (v := .int .i64 (lowS a b)) (wanted_none rfl) (exec_move rfl rfl) ?_
        simp only [Act.put, List.setIfInBounds_toArray, List.set_cons_zero, List.set_cons_succ]
        refine wpList_run (v := .int .i64 (b a)) (wanted_none rfl) (exec_move rfl rfl) ?_
        simp only [Act.put, List.setIfInBounds_toArray, List.set_cons_zero, List.set_cons_succ]
        refine wpList_run (v := .int .i64 (b a % 4294967296)) (wanted_none rfl) (ix_and32 rfl rfl) ?_
        simp only [Act.put, List.setIfInBounds_toArray, List.set_cons_zero, List.set_cons_succ]
        refine wpList_run (v := .int .i64 (lowS (a + 1) b)) (wanted_none rfl) (ix_add rfl rfl rfl (lowS_succ a b).symm (by have := low_in (a + 1) b; have := HN7.out; have := HLA.out; omega)) ?_
        simp only [Act.put, List.setIfInBounds_toArray, List.set_cons_zero, List.set_cons_succ]
        refine wpList_run (v := .int .i64 (lowS (a + 1) b)) (wanted_none rfl) (gx_assign rfl rfl) ?_
        simp only [Act.put, List.setIfInBounds_toArray, List.set_cons_zero, List.set_cons_succ]
        go_upto_region 21 with fail
        refine wp_region_lit ?_
        refine wpList_run (v := .int .i64 (highS a b)) (wanted_none rfl) (exec_move rfl rfl) ?_
        simp only [Act.put, List.setIfInBounds_toArray, List.set_cons_zero, List.set_cons_succ]
        refine wpList_run (v := .int .i64 (b a)) (wanted_none rfl) (exec_move rfl rfl) ?_
        simp only [Act.put, List.setIfInBounds_toArray, List.set_cons_zero, List.set_cons_succ]
        refine wpList_run (v := .int .i64 (b a / 4294967296)) (wanted_none rfl) (ix_shr32 rfl rfl) ?_
        simp only [Act.put, List.setIfInBounds_toArray, List.set_cons_zero, List.set_cons_succ]
        refine wpList_run (v := .int .i64 (highS (a + 1) b)) (wanted_none rfl) (ix_add rfl rfl rfl (highS_succ a b).symm (by have := high_in (a + 1) HB6.out.1; have := HN7.out; have := HLA.out; omega)) ?_
        simp only [Act.put, List.setIfInBounds_toArray, List.set_cons_zero, List.set_cons_succ]
        refine wpList_run (v := .int .i64 (highS (a + 1) b)) (wanted_none rfl) (gx_assign rfl rfl) ?_
        simp only [Act.put, List.setIfInBounds_toArray, List.set_cons_zero, List.set_cons_succ]
        go_upto_region 15 with fail
        refine wp_region_lit ?_
        refine wpList_run (v := .int .i64 (a : Int)) (wanted_none rfl) (exec_move rfl rfl) ?_
        simp only [Act.put, List.setIfInBounds_toArray, List.set_cons_zero, List.set_cons_succ]
        refine wpList_run (v := .int .i64 ((a + 1 : Nat) : Int)) (wanted_none rfl) (ix_add rfl rfl rfl (by omega) (by omega)) ?_
        simp only [Act.put, List.setIfInBounds_toArray, List.set_cons_zero, List.set_cons_succ]
        refine wpList_run (v := .int .i64 ((a + 1 : Nat) : Int)) (wanted_none rfl) (gx_assign rfl rfl) ?_
        simp only [Act.put, List.setIfInBounds_toArray, List.set_cons_zero, List.set_cons_succ]
        go_wp2_with fail
        go_roundg (N - (a + 1))
        case measure => have := HGA.out; have := HLA.out; omega
        case rel => exact ⟨a + 1, rfl, rfl, rfl, by have := HLA.out; omega, HOA.out, HTAa.out⟩
      · obtain rfl : a = N := by omega
        have y3 : ¬ (a : Int) < (a : Int) := by omega
        have HZ := Lib.hid (halves_zero HS.out)
        clear hlt
        obtain ⟨L, hL⟩ : ∃ x, x = lowS a b := ⟨_, rfl⟩
        obtain ⟨Hh, hH⟩ : ∃ x, x = highS a b := ⟨_, rfl⟩
        rw [← hL, ← hH] at HZ
        rw [← hL] at HLW ⊢
        rw [← hH] at HHI ⊢
        clear hL hH
        go_upto_region 14 with fail
        refine wp_region_lit ?_
        refine wpList_run (v := .int .i64 (a : Int)) (wanted_none rfl) (exec_move rfl rfl) ?_
        simp only [Act.put, List.setIfInBounds_toArray, List.set_cons_zero, List.set_cons_succ]
        refine wpList_run (v := .pointer (some ⟨p, 0, none⟩)) (wanted_none rfl) (exec_move rfl rfl) ?_
        simp only [Act.put, List.setIfInBounds_toArray, List.set_cons_zero, List.set_cons_succ]
        refine wpList_op rfl fun K9 HK9 => ?_
        go_wp2_with fail
        refine (Len_walk (HP.out.still HTA.out)).mono ?_
        rintro e wr ⟨rfl, rfl⟩
        refine HK9.out _ _ ?_
        clear HK9
        try simp only [Act.put, List.setIfInBounds_toArray, List.set_cons_zero, List.set_cons_succ]
        refine wpList_run (v := .bool false) (wanted_none rfl) (ix_lss rfl rfl rfl (decide_eq_false (by omega))) ?_
        simp only [Act.put, List.setIfInBounds_toArray, List.set_cons_zero, List.set_cons_succ]
        go_upto_region 22 with fail
        refine wp_region_lit ?_
        refine wpList_run (v := .int .i64 Hh) (wanted_none rfl) (exec_move rfl rfl) ?_
        simp only [Act.put, List.setIfInBounds_toArray, List.set_cons_zero, List.set_cons_succ]
        refine wpList_run (v := .int .i64 L) (wanted_none rfl) (exec_move rfl rfl) ?_
        simp only [Act.put, List.setIfInBounds_toArray, List.set_cons_zero, List.set_cons_succ]
        refine wpList_run (v := .int .i64 (L / 4294967296)) (wanted_none rfl) (ix_shr32 rfl rfl) ?_
        simp only [Act.put, List.setIfInBounds_toArray, List.set_cons_zero, List.set_cons_succ]
        refine wpList_run (v := .int .i64 0) (wanted_none rfl) (ix_add rfl rfl rfl HZ.out.1 (by decide)) ?_
        simp only [Act.put, List.setIfInBounds_toArray, List.set_cons_zero, List.set_cons_succ]
        refine wpList_run (v := .bool false) (wanted_none rfl) (ix_neq rfl rfl rfl (by decide)) ?_
        simp only [Act.put, List.setIfInBounds_toArray, List.set_cons_zero, List.set_cons_succ]
        refine wpList_run (v := .bool false) (wanted_none rfl) (exec_move rfl rfl) ?_
        simp only [Act.put, List.setIfInBounds_toArray, List.set_cons_zero, List.set_cons_succ]
        refine wpList_run (v := .int .i64 L) rfl (exec_move rfl rfl) ?_
        simp only [Act.put, List.setIfInBounds_toArray, List.set_cons_zero, List.set_cons_succ]
        refine wpList_run (v := .int .i64 0) rfl ((ix_and32 rfl rfl).trans (by rw [HZ.out.2])) ?_
        simp only [Act.put, List.setIfInBounds_toArray, List.set_cons_zero, List.set_cons_succ]
        refine wpList_run (v := .bool false) rfl (ix_neq rfl rfl rfl (by decide)) ?_
        simp only [Act.put, List.setIfInBounds_toArray, List.set_cons_zero, List.set_cons_succ]
        refine wpList_run (v := .bool false) (wanted_none rfl) (ix_pickF rfl rfl rfl) ?_
        simp only [Act.put, List.setIfInBounds_toArray, List.set_cons_zero, List.set_cons_succ]
        obtain ⟨w9, hw9⟩ : ∃ z, z = wr := ⟨_, rfl⟩
        rw [← hw9] at HOR HTA ⊢
        clear hw9 HGA
        have HP9 := Lib.hid (HP.out.still HTA.out)
        have HTz := Lib.hid (HTw.out.trans HTA.out fun _ _ e => e)
        have HT1z := Lib.hid (HTR.out.trans HTA.out fun _ _ e => e)
        go_upto_region 24 with fail
        refine wp_region_lit ?_
        refine wpList_run (v := .agg k.cells) (wanted_none rfl) (gx_loads rfl rfl (blk_range (HBC1.out.turn HT1z.out fun e => e)) Try.underlying45 rfl (by rw [size_cfg]; rfl)) ?_
        simp only [Act.put, List.setIfInBounds_toArray, List.set_cons_zero, List.set_cons_succ]
        refine wpList_run (v := .pointer (some ⟨ga, 0 + 0 * 1, none⟩)) (wanted_none rfl) (gx_aaddr (i := 0) (sz := 1) rfl rfl rfl Try.underlying46 (by kernel_rfl) (by decide) rfl) ?_
        simp only [Act.put, List.setIfInBounds_toArray, List.set_cons_zero, List.set_cons_succ]
        refine wpList_run (v := .int .i64 acq) (wanted_none rfl) (exec_load1 rfl rfl (by kernel_rfl) ((HBA1.out.turn HT1z.out fun e => e).cell 0)) ?_
        simp only [Act.put, List.setIfInBounds_toArray, List.set_cons_zero, List.set_cons_succ]
        refine wpList_run (v := .pointer (some ⟨ga, 0 + 1 * 1, none⟩)) (wanted_none rfl) (gx_aaddr (i := 1) (sz := 1) rfl rfl rfl Try.underlying46 (by kernel_rfl) (by decide) rfl) ?_
        simp only [Act.put, List.setIfInBounds_toArray, List.set_cons_zero, List.set_cons_succ]
        refine wpList_run (v := .int .i64 iss) (wanted_none rfl) (exec_load1 rfl rfl (by kernel_rfl) ((HBA1.out.turn HT1z.out fun e => e).cell 1)) ?_
        simp only [Act.put, List.setIfInBounds_toArray, List.set_cons_zero, List.set_cons_succ]
        refine wpList_run (v := .pointer (some ⟨ga, 0 + 2 * 1, none⟩)) (wanted_none rfl) (gx_aaddr (i := 2) (sz := 1) rfl rfl rfl Try.underlying46 (by kernel_rfl) (by decide) rfl) ?_
        simp only [Act.put, List.setIfInBounds_toArray, List.set_cons_zero, List.set_cons_succ]
        refine wpList_run (v := .int .i64 amt) (wanted_none rfl) (exec_load1 rfl rfl (by kernel_rfl) ((HBA1.out.turn HT1z.out fun e => e).cell 2)) ?_
        simp only [Act.put, List.setIfInBounds_toArray, List.set_cons_zero, List.set_cons_succ]
        refine wpList_op rfl fun K9 HK9 => ?_
        go_wp2_with fail
        refine (Payment_walk (w := w9) HQ.out HN.out).mono ?_
        rintro e wp ⟨v1, rfl, ho, ht⟩
        refine HK9.out _ _ ?_
        clear HK9
        try simp only [Act.put, List.setIfInBounds_toArray, List.set_cons_zero, List.set_cons_succ]
        obtain ⟨Ap, np, cp, hv, hnp, _, hea⟩ := EntAt.of_v ho (pay_wf HQ.out HN.out) (Nat.le_trans (pay_len _ _ _ _) (by decide))
        subst hv
        obtain ⟨pe, hpe⟩ : ∃ x, x = payE k acq iss amt := ⟨_, rfl⟩
        obtain ⟨ps, hps⟩ : ∃ x, x = payR k acq iss amt := ⟨_, rfl⟩
        have HNP := Lib.hid (show np ≤ 6 from by rw [hnp]; exact pay_len _ _ _ _)
        have HSM := Lib.hid (show pe = 0 → (∀ e ∈ ps, (0 ≤ e.1 ∧ e.1 < (k.n : Int) + 1) ∧ e.2 ≠ -9223372036854775808) ∧ Lg.tot ps = 0 from fun h => by rw [hps]; exact pay_small (by rw [← hpe]; exact h))
        rw [← hpe]
        rw [← hps] at hea
        have HWP := Lib.hid (show ∀ e ∈ ps, Mn.in64 e.1 ∧ Mn.in64 e.2 from by rw [hps]; exact pay_wf HQ.out HN.out)
        have HE := Lib.hid hea
        have HTp := Lib.hid (HTz.out.trans ht fun _ _ e => e)
        have HPp := Lib.hid (HP9.out.still ht)
        have HOp := Lib.hid (HOR.out.still ht)
        clear ho hea ht hnp hpe hps HP9 HOR
        by_cases he : pe = 0
        · have HE0 := Lib.hid he
          have hsm := HSM.out he
          have HTE := Lib.hid (turnE_ok fun e hx => (hsm.1 e hx).2)
          have HAC := Lib.hid (show Lg.accB (a : Int) ps = true from Lg.accB_iff.2 fun e hx => by have := (hsm.1 e hx).1; have := HNI.out; have := HKN.out; omega)
          have HTO := Lib.hid hsm.2
          clear he hsm
          refine wpList_run (v := .tuple #[.slice Ap np cp, .int .i64 pe]) (wanted_none rfl) (exec_move rfl rfl) ?_
          simp only [Act.put, List.setIfInBounds_toArray, List.set_cons_zero, List.set_cons_succ]
          refine wpList_run (v := .slice Ap np cp) (wanted_none rfl) (ix_extract rfl rfl rfl) ?_
          simp only [Act.put, List.setIfInBounds_toArray, List.set_cons_zero, List.set_cons_succ]
          refine wpList_run (v := .int .i64 pe) (wanted_none rfl) (ix_extract rfl rfl rfl) ?_
          simp only [Act.put, List.setIfInBounds_toArray, List.set_cons_zero, List.set_cons_succ]
          refine wpList_run (v := .slice Ap np cp) (wanted_none rfl) (gx_assign rfl rfl) ?_
          simp only [Act.put, List.setIfInBounds_toArray, List.set_cons_zero, List.set_cons_succ]
          refine wpList_run (v := .int .i64 pe) (wanted_none rfl) (gx_assign rfl rfl) ?_
          simp only [Act.put, List.setIfInBounds_toArray, List.set_cons_zero, List.set_cons_succ]
          go_upto_region 25 with fail
          refine wp_region_lit ?_
          refine wpList_run (v := .int .i64 pe) (wanted_none rfl) (exec_move rfl rfl) ?_
          simp only [Act.put, List.setIfInBounds_toArray, List.set_cons_zero, List.set_cons_succ]
          refine wpList_run (v := .bool false) (wanted_none rfl) (ix_neq rfl rfl rfl (by rw [HE0.out]; rfl)) ?_
          simp only [Act.put, List.setIfInBounds_toArray, List.set_cons_zero, List.set_cons_succ]
          go_upto_region 27 with fail
          refine wp_region_lit ?_
          refine wpList_run (v := .slice Ap np cp) (wanted_none rfl) (exec_move rfl rfl) ?_
          simp only [Act.put, List.setIfInBounds_toArray, List.set_cons_zero, List.set_cons_succ]
          refine wpList_op rfl fun K9 HK9 => ?_
          go_wp2_with fail
          refine (Turned_walk HE.out (by have := HNP.out; omega)).mono ?_
          rintro e wt ⟨v2, rfl, ho, ht⟩
          refine HK9.out _ _ ?_
          clear HK9
          try simp only [Act.put, List.setIfInBounds_toArray, List.set_cons_zero, List.set_cons_succ]
          rw [HTE.out]
          obtain ⟨At, nt, ct, hv, hnt, _, hea⟩ := EntAt.of_v ho (turn_wf HWP.out) (Nat.le_trans (turn_len ps) (by have := HE.out.len; have := HNP.out; omega))
          subst hv
          have HNT := Lib.hid (show nt ≤ 6 from by rw [hnt]; have h1 := turn_len ps; have h2 := HE.out.len; have h3 := HNP.out; omega)
          have htl : turnR ps = Lg.turnL ps := if_pos HTE.out
          rw [htl] at hea
          have HEt := Lib.hid hea
          have HE2 := Lib.hid (HE.out.still ht)
          have HTt := Lib.hid (HTp.out.trans ht fun _ _ e => e)
          have HPt := Lib.hid (HPp.out.still ht)
          have HOt := Lib.hid (HOp.out.still ht)
          have HNE := Lib.hid (show ∀ b0 o0 s0, At = some ⟨b0, o0, s0⟩ → b0 ≠ p from fun b0 o0 s0 hb => ho.ne (HPp.out.still ht).blk (by decide) b0 (by rw [hb]; rfl))
          clear ho hea ht hnt htl HPp HOp HE
          refine wpList_run (v := .tuple #[.slice At nt ct, .int .i64 0]) (wanted_none rfl) (exec_move rfl rfl) ?_
          simp only [Act.put, List.setIfInBounds_toArray, List.set_cons_zero, List.set_cons_succ]
          refine wpList_run (v := .slice At nt ct) (wanted_none rfl) (ix_extract rfl rfl rfl) ?_
          simp only [Act.put, List.setIfInBounds_toArray, List.set_cons_zero, List.set_cons_succ]
          refine wpList_run (v := .int .i64 0) (wanted_none rfl) (ix_extract rfl rfl rfl) ?_
          simp only [Act.put, List.setIfInBounds_toArray, List.set_cons_zero, List.set_cons_succ]
          refine wpList_run (v := .slice At nt ct) (wanted_none rfl) (gx_assign rfl rfl) ?_
          simp only [Act.put, List.setIfInBounds_toArray, List.set_cons_zero, List.set_cons_succ]
          refine wpList_run (v := .int .i64 0) (wanted_none rfl) (gx_assign rfl rfl) ?_
          simp only [Act.put, List.setIfInBounds_toArray, List.set_cons_zero, List.set_cons_succ]
          rcases post_two (b := b) HAC.out HTO.out with h0 | h0
          · have HU := Lib.hid (Lg.undo HB6.out h0)
            have H0 := Lib.hid h0
            clear h0
            go_upto_region 28 with fail
            refine wp_region_lit ?_
            refine wpList_run (v := .pointer (some ⟨p, 0, none⟩)) (wanted_none rfl) (exec_move rfl rfl) ?_
            simp only [Act.put, List.setIfInBounds_toArray, List.set_cons_zero, List.set_cons_succ]
            refine wpList_run (v := .slice Ap np cp) (wanted_none rfl) (exec_move rfl rfl) ?_
            simp only [Act.put, List.setIfInBounds_toArray, List.set_cons_zero, List.set_cons_succ]
            refine wpList_op rfl fun K9 HK9 => ?_
            go_wp2_with fail
            refine (Post_is (E := 0) (g := Lg.postB a b ps) HPt.out HE2.out (by have := HNP.out; omega) H0.out rfl).mono ?_
            rintro e wx ⟨rfl, hp, ht⟩
            refine HK9.out _ _ ?_
            clear HK9
            try simp only [Act.put, List.setIfInBounds_toArray, List.set_cons_zero, List.set_cons_succ]
            have HPx := Lib.hid hp
            have HTx := Lib.hid (HTt.out.newer HPL.out ht)
            have HOx := Lib.hid (HOt.out.turn ht fun g hg e => HOt.out.ne HPt.out.blk (by decide) g hg (show g = p from e))
            have HEx := Lib.hid (HEt.out.turn ht fun b0 o0 s0 hb hn0 hl e => HNE.out b0 o0 s0 hb (show b0 = p from e))
            clear hp ht
            refine wpList_run (v := .int .i64 0) (wanted_none rfl) (gx_assign rfl rfl) ?_
            simp only [Act.put, List.setIfInBounds_toArray, List.set_cons_zero, List.set_cons_succ]
            go_upto_region 29 with fail
            refine wp_region_lit ?_
            refine wpList_run (v := .int .i64 0) (wanted_none rfl) (exec_move rfl rfl) ?_
            simp only [Act.put, List.setIfInBounds_toArray, List.set_cons_zero, List.set_cons_succ]
            refine wpList_run (v := .bool false) (wanted_none rfl) (ix_neq rfl rfl rfl (by decide)) ?_
            simp only [Act.put, List.setIfInBounds_toArray, List.set_cons_zero, List.set_cons_succ]
            refine wpList_run (v := .bool false) (wanted_none rfl) (exec_move rfl rfl) ?_
            simp only [Act.put, List.setIfInBounds_toArray, List.set_cons_zero, List.set_cons_succ]
            refine wpList_run (v := .int .i64 0) rfl (exec_move rfl rfl) ?_
            simp only [Act.put, List.setIfInBounds_toArray, List.set_cons_zero, List.set_cons_succ]
            refine wpList_run (v := .bool false) rfl (ix_neq rfl rfl rfl (by decide)) ?_
            simp only [Act.put, List.setIfInBounds_toArray, List.set_cons_zero, List.set_cons_succ]
            refine wpList_run (v := .bool false) rfl (exec_move rfl rfl) ?_
            simp only [Act.put, List.setIfInBounds_toArray, List.set_cons_zero, List.set_cons_succ]
            refine wpList_skip (by go_simp) ?_
            simp only [Act.put, List.setIfInBounds_toArray, List.set_cons_zero, List.set_cons_succ]
            refine wpList_skip (by go_simp) ?_
            simp only [Act.put, List.setIfInBounds_toArray, List.set_cons_zero, List.set_cons_succ]
            refine wpList_run (v := .bool false) rfl (ix_pickF rfl rfl rfl) ?_
            simp only [Act.put, List.setIfInBounds_toArray, List.set_cons_zero, List.set_cons_succ]
            refine wpList_run (v := .bool false) (wanted_none rfl) (ix_pickF rfl rfl rfl) ?_
            simp only [Act.put, List.setIfInBounds_toArray, List.set_cons_zero, List.set_cons_succ]
            go_upto_region 31 with fail
            refine wp_region_lit ?_
            refine wpList_run (v := .int .i64 0) (wanted_none rfl) (exec_move rfl rfl) ?_
            simp only [Act.put, List.setIfInBounds_toArray, List.set_cons_zero, List.set_cons_succ]
            refine wpList_run (v := .bool true) (wanted_none rfl) (ix_eql rfl rfl rfl (by decide)) ?_
            simp only [Act.put, List.setIfInBounds_toArray, List.set_cons_zero, List.set_cons_succ]
            go_upto_region 32 with fail
            refine wp_region_lit ?_
            refine wpList_run (v := .pointer (some ⟨p, 0, none⟩)) (wanted_none rfl) (exec_move rfl rfl) ?_
            simp only [Act.put, List.setIfInBounds_toArray, List.set_cons_zero, List.set_cons_succ]
            refine wpList_run (v := .slice At nt ct) (wanted_none rfl) (exec_move rfl rfl) ?_
            simp only [Act.put, List.setIfInBounds_toArray, List.set_cons_zero, List.set_cons_succ]
            refine wpList_op rfl fun K9 HK9 => ?_
            go_wp2_with fail
            refine (Post_is (E := 0) (g := b) HPx.out HEx.out (by have := HNT.out; omega) HU.out.1 HU.out.2).mono ?_
            rintro e wy ⟨rfl, hp, ht⟩
            refine HK9.out _ _ ?_
            clear HK9
            try simp only [Act.put, List.setIfInBounds_toArray, List.set_cons_zero, List.set_cons_succ]
            have HPe := Lib.hid hp
            have HTe := Lib.hid (HTx.out.newer HPL.out ht)
            have HOe := Lib.hid (HOx.out.turn ht fun g hg e => HOx.out.ne HPx.out.blk (by decide) g hg (show g = p from e))
            clear hp ht
            refine wpList_run (v := .int .i64 0) (wanted_none rfl) (gx_assign rfl rfl) ?_
            simp only [Act.put, List.setIfInBounds_toArray, List.set_cons_zero, List.set_cons_succ]
            go_upto_region 33 with fail
            refine wp_region_lit ?_
            refine wpList_run (v := .int .i64 0) (wanted_none rfl) (exec_move rfl rfl) ?_
            simp only [Act.put, List.setIfInBounds_toArray, List.set_cons_zero, List.set_cons_succ]
            refine wpList_run (v := .bool false) (wanted_none rfl) (ix_neq rfl rfl rfl (by decide)) ?_
            simp only [Act.put, List.setIfInBounds_toArray, List.set_cons_zero, List.set_cons_succ]
            go_upto_region 35 with fail
            refine wp_region_lit ?_
            refine wpList_run (v := .int .i64 0) (wanted_none rfl) (gx_assign rfl rfl) ?_
            simp only [Act.put, List.setIfInBounds_toArray, List.set_cons_zero, List.set_cons_succ]
            obtain ⟨we, hwe⟩ : ∃ z, z = wy := ⟨_, rfl⟩
            rw [← hwe] at HPe HTe HOe ⊢
            clear hwe
            obtain ⟨N, hN⟩ : ∃ z, z = a := ⟨_, rfl⟩
            rw [← hN] at HN7 HPe HOe ⊢
            have HNA := Lib.hid hN
            clear hN
            go_wp2_with fail
            go_loopg [23] N (fun gk iv wr => ∃ i : Nat, iv = .int .i64 (i : Int) ∧ i + gk = N ∧ wr = we)
            case atStart => exact ⟨0, rfl, by omega, rfl⟩
            obtain ⟨i, rfl, hgi, rfl⟩ := hrel
            have HGI := Lib.hid hgi
            have yi2 : (i : Int) ≤ (N : Int) := by omega
            have yN2 : (N : Int) ≤ 7 := by have := HN7.out; omega
            clear hgi
            by_cases hlt : i < N
            · have HLI := Lib.hid hlt
              have HVi := Lib.hid (bal_at N b hlt)
              have y3 : (i : Int) < (N : Int) := by omega
              obtain ⟨g9, c10, hsv, _⟩ := HOe.out.some_ (by rw [nums_len]; omega)
              rw [nums_len] at hsv
              injection hsv with h1 h2 h3
              subst h1 h3
              have HEL := Lib.hid (show wr.cell? ⟨g9, i, none⟩ = some (.int .i64 (b i)) from by have := HOe.out.el0 (i := i) (nums_at b hlt) 0 _ rfl; simpa using this)
              clear hlt h2
              go_upto_region 36 with fail
              refine wp_region_lit ?_
              refine wpList_run (v := .int .i64 (i : Int)) (wanted_none rfl) (exec_move rfl rfl) ?_
              simp only [Act.put, List.setIfInBounds_toArray, List.set_cons_zero, List.set_cons_succ]
              refine wpList_run (v := .pointer (some ⟨p, 0, none⟩)) (wanted_none rfl) (exec_move rfl rfl) ?_
              simp only [Act.put, List.setIfInBounds_toArray, List.set_cons_zero, List.set_cons_succ]
              refine wpList_op rfl fun K9 HK9 => ?_
              go_wp2_with fail
              refine (Len_walk HPe.out).mono ?_
              rintro e wr ⟨rfl, rfl⟩
              refine HK9.out _ _ ?_
              clear HK9
              try simp only [Act.put, List.setIfInBounds_toArray, List.set_cons_zero, List.set_cons_succ]
              refine wpList_run (v := .bool true) (wanted_none rfl) (ix_lss rfl rfl rfl (decide_eq_true y3)) ?_
              simp only [Act.put, List.setIfInBounds_toArray, List.set_cons_zero, List.set_cons_succ]
              go_upto_region 38 with fail
              refine wp_region_lit ?_
              refine wpList_run (v := .pointer (some ⟨p, 0, none⟩)) (wanted_none rfl) (exec_move rfl rfl) ?_
              simp only [Act.put, List.setIfInBounds_toArray, List.set_cons_zero, List.set_cons_succ]
              refine wpList_run (v := .int .i64 (i : Int)) (wanted_none rfl) (exec_move rfl rfl) ?_
              simp only [Act.put, List.setIfInBounds_toArray, List.set_cons_zero, List.set_cons_succ]
              refine wpList_op rfl fun K9 HK9 => ?_
              go_wp2_with fail
              refine (Balance_walk HPe.out).mono ?_
              rintro e wr ⟨rfl, rfl⟩
              refine HK9.out _ _ ?_
              clear HK9
              try simp only [Act.put, List.setIfInBounds_toArray, List.set_cons_zero, List.set_cons_succ]
              rw [HVi.out.1, HVi.out.2]
              refine wpList_run (v := .tuple #[.int .i64 (b i), .int .i64 0]) (wanted_none rfl) (exec_move rfl rfl) ?_
              simp only [Act.put, List.setIfInBounds_toArray, List.set_cons_zero, List.set_cons_succ]
              refine wpList_run (v := .int .i64 (b i)) (wanted_none rfl) (ix_extract rfl rfl rfl) ?_
              simp only [Act.put, List.setIfInBounds_toArray, List.set_cons_zero, List.set_cons_succ]
              refine wpList_run (v := .int .i64 0) (wanted_none rfl) (ix_extract rfl rfl rfl) ?_
              simp only [Act.put, List.setIfInBounds_toArray, List.set_cons_zero, List.set_cons_succ]
              refine wpList_run (v := .int .i64 (b i)) (wanted_none rfl) (gx_assign rfl rfl) ?_
              simp only [Act.put, List.setIfInBounds_toArray, List.set_cons_zero, List.set_cons_succ]
              refine wpList_run (v := .int .i64 0) (wanted_none rfl) (gx_assign rfl rfl) ?_
              simp only [Act.put, List.setIfInBounds_toArray, List.set_cons_zero, List.set_cons_succ]
              go_upto_region 39 with fail
              refine wp_region_lit ?_
              refine wpList_run (v := .int .i64 0) (wanted_none rfl) (exec_move rfl rfl) ?_
              simp only [Act.put, List.setIfInBounds_toArray, List.set_cons_zero, List.set_cons_succ]
              refine wpList_run (v := .bool false) (wanted_none rfl) (ix_neq rfl rfl rfl (by decide)) ?_
              simp only [Act.put, List.setIfInBounds_toArray, List.set_cons_zero, List.set_cons_succ]
              refine wpList_run (v := .bool false) (wanted_none rfl) (exec_move rfl rfl) ?_
              simp only [Act.put, List.setIfInBounds_toArray, List.set_cons_zero, List.set_cons_succ]
              refine wpList_run (v := .int .i64 (b i)) rfl (exec_move rfl rfl) ?_
              simp only [Act.put, List.setIfInBounds_toArray, List.set_cons_zero, List.set_cons_succ]
              refine wpList_run (v := .slice (some ⟨g9, 0, none⟩) N c9) rfl (exec_move rfl rfl) ?_
              simp only [Act.put, List.setIfInBounds_toArray, List.set_cons_zero, List.set_cons_succ]
              refine wpList_run (v := .int .i64 (i : Int)) rfl (exec_move rfl rfl) ?_
              simp only [Act.put, List.setIfInBounds_toArray, List.set_cons_zero, List.set_cons_succ]
              refine wpList_run (v := .pointer (some ⟨g9, i, none⟩)) rfl (gx_iaddr (i := i) (sz := 1) rfl rfl rfl Try.underlying32 size_n HLI.out (by omega)) ?_
              simp only [Act.put, List.setIfInBounds_toArray, List.set_cons_zero, List.set_cons_succ]
              refine wpList_run (v := .int .i64 (b i)) rfl (exec_load1 rfl rfl (by kernel_rfl) HEL.out) ?_
              simp only [Act.put, List.setIfInBounds_toArray, List.set_cons_zero, List.set_cons_succ]
              refine wpList_run (v := .bool false) rfl (ix_neq rfl rfl rfl (by simp)) ?_
              simp only [Act.put, List.setIfInBounds_toArray, List.set_cons_zero, List.set_cons_succ]
              refine wpList_run (v := .bool false) (wanted_none rfl) (ix_pickF rfl rfl rfl) ?_
              simp only [Act.put, List.setIfInBounds_toArray, List.set_cons_zero, List.set_cons_succ]
              go_upto_region 37 with fail
              refine wp_region_lit ?_
              refine wpList_run (v := .int .i64 (i : Int)) (wanted_none rfl) (exec_move rfl rfl) ?_
              simp only [Act.put, List.setIfInBounds_toArray, List.set_cons_zero, List.set_cons_succ]
              refine wpList_run (v := .int .i64 ((i + 1 : Nat) : Int)) (wanted_none rfl) (ix_add rfl rfl rfl (by omega) (by omega)) ?_
              simp only [Act.put, List.setIfInBounds_toArray, List.set_cons_zero, List.set_cons_succ]
              refine wpList_run (v := .int .i64 ((i + 1 : Nat) : Int)) (wanted_none rfl) (gx_assign rfl rfl) ?_
              simp only [Act.put, List.setIfInBounds_toArray, List.set_cons_zero, List.set_cons_succ]
              go_wp2_with fail
              go_roundg (N - (i + 1))
              case measure => have := HGI.out; have := HLI.out; omega
              case rel => exact ⟨i + 1, rfl, by have := HLI.out; omega, rfl⟩
            · have y3 : ¬ (i : Int) < (N : Int) := by omega
              clear hlt
              go_upto_region 36 with fail
              refine wp_region_lit ?_
              refine wpList_run (v := .int .i64 (i : Int)) (wanted_none rfl) (exec_move rfl rfl) ?_
              simp only [Act.put, List.setIfInBounds_toArray, List.set_cons_zero, List.set_cons_succ]
              refine wpList_run (v := .pointer (some ⟨p, 0, none⟩)) (wanted_none rfl) (exec_move rfl rfl) ?_
              simp only [Act.put, List.setIfInBounds_toArray, List.set_cons_zero, List.set_cons_succ]
              refine wpList_op rfl fun K9 HK9 => ?_
              go_wp2_with fail
              refine (Len_walk HPe.out).mono ?_
              rintro e wr ⟨rfl, rfl⟩
              refine HK9.out _ _ ?_
              clear HK9
              try simp only [Act.put, List.setIfInBounds_toArray, List.set_cons_zero, List.set_cons_succ]
              refine wpList_run (v := .bool false) (wanted_none rfl) (ix_lss rfl rfl rfl (decide_eq_false (by omega))) ?_
              simp only [Act.put, List.setIfInBounds_toArray, List.set_cons_zero, List.set_cons_succ]
              go_upto_region 41 with fail
              refine wp_region_lit ?_
              refine wpList_run (v := .bool true) (wanted_none rfl) (gx_assign rfl rfl) ?_
              simp only [Act.put, List.setIfInBounds_toArray, List.set_cons_zero, List.set_cons_succ]
              go_wp2_with fail
              go_ret
              exact ⟨rfl, HTe.out⟩
          · have H0 := Lib.hid h0
            clear h0
            go_upto_region 28 with fail
            refine wp_region_lit ?_
            refine wpList_run (v := .pointer (some ⟨p, 0, none⟩)) (wanted_none rfl) (exec_move rfl rfl) ?_
            simp only [Act.put, List.setIfInBounds_toArray, List.set_cons_zero, List.set_cons_succ]
            refine wpList_run (v := .slice Ap np cp) (wanted_none rfl) (exec_move rfl rfl) ?_
            simp only [Act.put, List.setIfInBounds_toArray, List.set_cons_zero, List.set_cons_succ]
            refine wpList_op rfl fun K9 HK9 => ?_
            go_wp2_with fail
            refine (Post_is (E := 100) (g := b) HPt.out HE2.out (by have := HNP.out; omega) H0.out (Lg.postB_bad (by rw [H0.out]; decide))).mono ?_
            rintro e wx ⟨rfl, hp, ht⟩
            refine HK9.out _ _ ?_
            clear HK9
            try simp only [Act.put, List.setIfInBounds_toArray, List.set_cons_zero, List.set_cons_succ]
            have HPe := Lib.hid hp
            have HTe := Lib.hid (HTt.out.newer HPL.out ht)
            have HOe := Lib.hid (HOt.out.turn ht fun g hg e => HOt.out.ne HPt.out.blk (by decide) g hg (show g = p from e))
            clear hp ht
            refine wpList_run (v := .int .i64 100) (wanted_none rfl) (gx_assign rfl rfl) ?_
            simp only [Act.put, List.setIfInBounds_toArray, List.set_cons_zero, List.set_cons_succ]
            go_upto_region 29 with fail
            refine wp_region_lit ?_
            refine wpList_run (v := .int .i64 0) (wanted_none rfl) (exec_move rfl rfl) ?_
            simp only [Act.put, List.setIfInBounds_toArray, List.set_cons_zero, List.set_cons_succ]
            refine wpList_run (v := .bool false) (wanted_none rfl) (ix_neq rfl rfl rfl (by decide)) ?_
            simp only [Act.put, List.setIfInBounds_toArray, List.set_cons_zero, List.set_cons_succ]
            refine wpList_run (v := .bool false) (wanted_none rfl) (exec_move rfl rfl) ?_
            simp only [Act.put, List.setIfInBounds_toArray, List.set_cons_zero, List.set_cons_succ]
            refine wpList_run (v := .int .i64 100) rfl (exec_move rfl rfl) ?_
            simp only [Act.put, List.setIfInBounds_toArray, List.set_cons_zero, List.set_cons_succ]
            refine wpList_run (v := .bool true) rfl (ix_neq rfl rfl rfl (by decide)) ?_
            simp only [Act.put, List.setIfInBounds_toArray, List.set_cons_zero, List.set_cons_succ]
            refine wpList_run (v := .bool true) rfl (exec_move rfl rfl) ?_
            simp only [Act.put, List.setIfInBounds_toArray, List.set_cons_zero, List.set_cons_succ]
            refine wpList_run (v := .int .i64 100) rfl (exec_move rfl rfl) ?_
            simp only [Act.put, List.setIfInBounds_toArray, List.set_cons_zero, List.set_cons_succ]
            refine wpList_run (v := .bool false) rfl (ix_neq rfl rfl rfl (by decide)) ?_
            simp only [Act.put, List.setIfInBounds_toArray, List.set_cons_zero, List.set_cons_succ]
            refine wpList_run (v := .bool false) rfl (ix_pickT rfl rfl rfl) ?_
            simp only [Act.put, List.setIfInBounds_toArray, List.set_cons_zero, List.set_cons_succ]
            refine wpList_run (v := .bool false) (wanted_none rfl) (ix_pickF rfl rfl rfl) ?_
            simp only [Act.put, List.setIfInBounds_toArray, List.set_cons_zero, List.set_cons_succ]
            go_upto_region 31 with fail
            refine wp_region_lit ?_
            refine wpList_run (v := .int .i64 100) (wanted_none rfl) (exec_move rfl rfl) ?_
            simp only [Act.put, List.setIfInBounds_toArray, List.set_cons_zero, List.set_cons_succ]
            refine wpList_run (v := .bool false) (wanted_none rfl) (ix_eql rfl rfl rfl (by decide)) ?_
            simp only [Act.put, List.setIfInBounds_toArray, List.set_cons_zero, List.set_cons_succ]
            go_upto_region 35 with fail
            refine wp_region_lit ?_
            refine wpList_run (v := .int .i64 0) (wanted_none rfl) (gx_assign rfl rfl) ?_
            simp only [Act.put, List.setIfInBounds_toArray, List.set_cons_zero, List.set_cons_succ]
            obtain ⟨we, hwe⟩ : ∃ z, z = wx := ⟨_, rfl⟩
            rw [← hwe] at HPe HTe HOe ⊢
            clear hwe
            obtain ⟨N, hN⟩ : ∃ z, z = a := ⟨_, rfl⟩
            rw [← hN] at HN7 HPe HOe ⊢
            have HNA := Lib.hid hN
            clear hN
            go_wp2_with fail
            go_loopg [23] N (fun gk iv wr => ∃ i : Nat, iv = .int .i64 (i : Int) ∧ i + gk = N ∧ wr = we)
            case atStart => exact ⟨0, rfl, by omega, rfl⟩
            obtain ⟨i, rfl, hgi, rfl⟩ := hrel
            have HGI := Lib.hid hgi
            have yi2 : (i : Int) ≤ (N : Int) := by omega
            have yN2 : (N : Int) ≤ 7 := by have := HN7.out; omega
            clear hgi
            by_cases hlt : i < N
            · have HLI := Lib.hid hlt
              have HVi := Lib.hid (bal_at N b hlt)
              have y3 : (i : Int) < (N : Int) := by omega
              obtain ⟨g9, c10, hsv, _⟩ := HOe.out.some_ (by rw [nums_len]; omega)
              rw [nums_len] at hsv
              injection hsv with h1 h2 h3
              subst h1 h3
              have HEL := Lib.hid (show wr.cell? ⟨g9, i, none⟩ = some (.int .i64 (b i)) from by have := HOe.out.el0 (i := i) (nums_at b hlt) 0 _ rfl; simpa using this)
              clear hlt h2
              go_upto_region 36 with fail
              refine wp_region_lit ?_
              refine wpList_run (v := .int .i64 (i : Int)) (wanted_none rfl) (exec_move rfl rfl) ?_
              simp only [Act.put, List.setIfInBounds_toArray, List.set_cons_zero, List.set_cons_succ]
              refine wpList_run (v := .pointer (some ⟨p, 0, none⟩)) (wanted_none rfl) (exec_move rfl rfl) ?_
              simp only [Act.put, List.setIfInBounds_toArray, List.set_cons_zero, List.set_cons_succ]
              refine wpList_op rfl fun K9 HK9 => ?_
              go_wp2_with fail
              refine (Len_walk HPe.out).mono ?_
              rintro e wr ⟨rfl, rfl⟩
              refine HK9.out _ _ ?_
              clear HK9
              try simp only [Act.put, List.setIfInBounds_toArray, List.set_cons_zero, List.set_cons_succ]
              refine wpList_run (v := .bool true) (wanted_none rfl) (ix_lss rfl rfl rfl (decide_eq_true y3)) ?_
              simp only [Act.put, List.setIfInBounds_toArray, List.set_cons_zero, List.set_cons_succ]
              go_upto_region 38 with fail
              refine wp_region_lit ?_
              refine wpList_run (v := .pointer (some ⟨p, 0, none⟩)) (wanted_none rfl) (exec_move rfl rfl) ?_
              simp only [Act.put, List.setIfInBounds_toArray, List.set_cons_zero, List.set_cons_succ]
              refine wpList_run (v := .int .i64 (i : Int)) (wanted_none rfl) (exec_move rfl rfl) ?_
              simp only [Act.put, List.setIfInBounds_toArray, List.set_cons_zero, List.set_cons_succ]
              refine wpList_op rfl fun K9 HK9 => ?_
              go_wp2_with fail
              refine (Balance_walk HPe.out).mono ?_
              rintro e wr ⟨rfl, rfl⟩
              refine HK9.out _ _ ?_
              clear HK9
              try simp only [Act.put, List.setIfInBounds_toArray, List.set_cons_zero, List.set_cons_succ]
              rw [HVi.out.1, HVi.out.2]
              refine wpList_run (v := .tuple #[.int .i64 (b i), .int .i64 0]) (wanted_none rfl) (exec_move rfl rfl) ?_
              simp only [Act.put, List.setIfInBounds_toArray, List.set_cons_zero, List.set_cons_succ]
              refine wpList_run (v := .int .i64 (b i)) (wanted_none rfl) (ix_extract rfl rfl rfl) ?_
              simp only [Act.put, List.setIfInBounds_toArray, List.set_cons_zero, List.set_cons_succ]
              refine wpList_run (v := .int .i64 0) (wanted_none rfl) (ix_extract rfl rfl rfl) ?_
              simp only [Act.put, List.setIfInBounds_toArray, List.set_cons_zero, List.set_cons_succ]
              refine wpList_run (v := .int .i64 (b i)) (wanted_none rfl) (gx_assign rfl rfl) ?_
              simp only [Act.put, List.setIfInBounds_toArray, List.set_cons_zero, List.set_cons_succ]
              refine wpList_run (v := .int .i64 0) (wanted_none rfl) (gx_assign rfl rfl) ?_
              simp only [Act.put, List.setIfInBounds_toArray, List.set_cons_zero, List.set_cons_succ]
              go_upto_region 39 with fail
              refine wp_region_lit ?_
              refine wpList_run (v := .int .i64 0) (wanted_none rfl) (exec_move rfl rfl) ?_
              simp only [Act.put, List.setIfInBounds_toArray, List.set_cons_zero, List.set_cons_succ]
              refine wpList_run (v := .bool false) (wanted_none rfl) (ix_neq rfl rfl rfl (by decide)) ?_
              simp only [Act.put, List.setIfInBounds_toArray, List.set_cons_zero, List.set_cons_succ]
              refine wpList_run (v := .bool false) (wanted_none rfl) (exec_move rfl rfl) ?_
              simp only [Act.put, List.setIfInBounds_toArray, List.set_cons_zero, List.set_cons_succ]
              refine wpList_run (v := .int .i64 (b i)) rfl (exec_move rfl rfl) ?_
              simp only [Act.put, List.setIfInBounds_toArray, List.set_cons_zero, List.set_cons_succ]
              refine wpList_run (v := .slice (some ⟨g9, 0, none⟩) N c9) rfl (exec_move rfl rfl) ?_
              simp only [Act.put, List.setIfInBounds_toArray, List.set_cons_zero, List.set_cons_succ]
              refine wpList_run (v := .int .i64 (i : Int)) rfl (exec_move rfl rfl) ?_
              simp only [Act.put, List.setIfInBounds_toArray, List.set_cons_zero, List.set_cons_succ]
              refine wpList_run (v := .pointer (some ⟨g9, i, none⟩)) rfl (gx_iaddr (i := i) (sz := 1) rfl rfl rfl Try.underlying32 size_n HLI.out (by omega)) ?_
              simp only [Act.put, List.setIfInBounds_toArray, List.set_cons_zero, List.set_cons_succ]
              refine wpList_run (v := .int .i64 (b i)) rfl (exec_load1 rfl rfl (by kernel_rfl) HEL.out) ?_
              simp only [Act.put, List.setIfInBounds_toArray, List.set_cons_zero, List.set_cons_succ]
              refine wpList_run (v := .bool false) rfl (ix_neq rfl rfl rfl (by simp)) ?_
              simp only [Act.put, List.setIfInBounds_toArray, List.set_cons_zero, List.set_cons_succ]
              refine wpList_run (v := .bool false) (wanted_none rfl) (ix_pickF rfl rfl rfl) ?_
              simp only [Act.put, List.setIfInBounds_toArray, List.set_cons_zero, List.set_cons_succ]
              go_upto_region 37 with fail
              refine wp_region_lit ?_
              refine wpList_run (v := .int .i64 (i : Int)) (wanted_none rfl) (exec_move rfl rfl) ?_
              simp only [Act.put, List.setIfInBounds_toArray, List.set_cons_zero, List.set_cons_succ]
              refine wpList_run (v := .int .i64 ((i + 1 : Nat) : Int)) (wanted_none rfl) (ix_add rfl rfl rfl (by omega) (by omega)) ?_
              simp only [Act.put, List.setIfInBounds_toArray, List.set_cons_zero, List.set_cons_succ]
              refine wpList_run (v := .int .i64 ((i + 1 : Nat) : Int)) (wanted_none rfl) (gx_assign rfl rfl) ?_
              simp only [Act.put, List.setIfInBounds_toArray, List.set_cons_zero, List.set_cons_succ]
              go_wp2_with fail
              go_roundg (N - (i + 1))
              case measure => have := HGI.out; have := HLI.out; omega
              case rel => exact ⟨i + 1, rfl, by have := HLI.out; omega, rfl⟩
            · have y3 : ¬ (i : Int) < (N : Int) := by omega
              clear hlt
              go_upto_region 36 with fail
              refine wp_region_lit ?_
              refine wpList_run (v := .int .i64 (i : Int)) (wanted_none rfl) (exec_move rfl rfl) ?_
              simp only [Act.put, List.setIfInBounds_toArray, List.set_cons_zero, List.set_cons_succ]
              refine wpList_run (v := .pointer (some ⟨p, 0, none⟩)) (wanted_none rfl) (exec_move rfl rfl) ?_
              simp only [Act.put, List.setIfInBounds_toArray, List.set_cons_zero, List.set_cons_succ]
              refine wpList_op rfl fun K9 HK9 => ?_
              go_wp2_with fail
              refine (Len_walk HPe.out).mono ?_
              rintro e wr ⟨rfl, rfl⟩
              refine HK9.out _ _ ?_
              clear HK9
              try simp only [Act.put, List.setIfInBounds_toArray, List.set_cons_zero, List.set_cons_succ]
              refine wpList_run (v := .bool false) (wanted_none rfl) (ix_lss rfl rfl rfl (decide_eq_false (by omega))) ?_
              simp only [Act.put, List.setIfInBounds_toArray, List.set_cons_zero, List.set_cons_succ]
              go_upto_region 41 with fail
              refine wp_region_lit ?_
              refine wpList_run (v := .bool true) (wanted_none rfl) (gx_assign rfl rfl) ?_
              simp only [Act.put, List.setIfInBounds_toArray, List.set_cons_zero, List.set_cons_succ]
              go_wp2_with fail
              go_ret
              exact ⟨rfl, HTe.out⟩
        · have HE0 := Lib.hid he
          clear he
          refine wpList_run (v := .tuple #[.slice Ap np cp, .int .i64 pe]) (wanted_none rfl) (exec_move rfl rfl) ?_
          simp only [Act.put, List.setIfInBounds_toArray, List.set_cons_zero, List.set_cons_succ]
          refine wpList_run (v := .slice Ap np cp) (wanted_none rfl) (ix_extract rfl rfl rfl) ?_
          simp only [Act.put, List.setIfInBounds_toArray, List.set_cons_zero, List.set_cons_succ]
          refine wpList_run (v := .int .i64 pe) (wanted_none rfl) (ix_extract rfl rfl rfl) ?_
          simp only [Act.put, List.setIfInBounds_toArray, List.set_cons_zero, List.set_cons_succ]
          refine wpList_run (v := .slice Ap np cp) (wanted_none rfl) (gx_assign rfl rfl) ?_
          simp only [Act.put, List.setIfInBounds_toArray, List.set_cons_zero, List.set_cons_succ]
          refine wpList_run (v := .int .i64 pe) (wanted_none rfl) (gx_assign rfl rfl) ?_
          simp only [Act.put, List.setIfInBounds_toArray, List.set_cons_zero, List.set_cons_succ]
          go_upto_region 25 with fail
          refine wp_region_lit ?_
          refine wpList_run (v := .int .i64 pe) (wanted_none rfl) (exec_move rfl rfl) ?_
          simp only [Act.put, List.setIfInBounds_toArray, List.set_cons_zero, List.set_cons_succ]
          refine wpList_run (v := .bool true) (wanted_none rfl) (ix_neq rfl rfl rfl (decide_eq_true HE0.out)) ?_
          simp only [Act.put, List.setIfInBounds_toArray, List.set_cons_zero, List.set_cons_succ]
          go_upto_region 26 with fail
          refine wp_region_lit ?_
          refine wpList_run (v := .bool true) (wanted_none rfl) (gx_assign rfl rfl) ?_
          simp only [Act.put, List.setIfInBounds_toArray, List.set_cons_zero, List.set_cons_succ]
          go_wp2_with fail
          go_ret
          exact ⟨rfl, HTp.out⟩
  · have H7 := Lib.hid h7
    clear h7
    go_upto_region 2 with fail
    refine wp_region_lit ?_
    refine wpList_run (v := .pointer (some ⟨gc, 0, none⟩)) (wanted_none rfl) (exec_field (off := 0) (d := 0) rfl rfl (by kernel_rfl)) ?_
    simp only [Act.put, List.setIfInBounds_toArray, List.set_cons_zero, List.set_cons_succ]
    refine wpList_run (v := .slice k.A kn k.c) (wanted_none rfl) (exec_load1 rfl rfl (by kernel_rfl) (by rw [HKN.out]; exact HBC1.out.cell 0)) ?_
    simp only [Act.put, List.setIfInBounds_toArray, List.set_cons_zero, List.set_cons_succ]
    refine wpList_run (v := .int .i64 (kn : Int)) (wanted_none rfl) (gx_len rfl rfl Try.underlying40) ?_
    simp only [Act.put, List.setIfInBounds_toArray, List.set_cons_zero, List.set_cons_succ]
    refine wpList_run (v := .int .i64 ((kn : Int) + 1)) (wanted_none rfl) (ix_add rfl rfl rfl rfl (by omega)) ?_
    simp only [Act.put, List.setIfInBounds_toArray, List.set_cons_zero, List.set_cons_succ]
    refine wpList_op rfl fun K9 HK9 => ?_
    go_wp2_with fail
    refine (New_bad (k := (kn : Int) + 1) (by have := H7.out; omega)).mono ?_
    rintro e w2 ⟨rfl, ht⟩
    refine HK9.out _ _ ?_
    clear HK9
    try simp only [Act.put, List.setIfInBounds_toArray, List.set_cons_zero, List.set_cons_succ]
    have HT2 := Lib.hid (HT1.out.trans ht fun _ _ e => e)
    clear ht
    refine wpList_run (v := .tuple #[.pointer none, .int .i64 1]) (wanted_none rfl) (exec_move rfl rfl) ?_
    simp only [Act.put, List.setIfInBounds_toArray, List.set_cons_zero, List.set_cons_succ]
    refine wpList_run (v := .pointer none) (wanted_none rfl) (ix_extract rfl rfl rfl) ?_
    simp only [Act.put, List.setIfInBounds_toArray, List.set_cons_zero, List.set_cons_succ]
    refine wpList_run (v := .int .i64 1) (wanted_none rfl) (ix_extract rfl rfl rfl) ?_
    simp only [Act.put, List.setIfInBounds_toArray, List.set_cons_zero, List.set_cons_succ]
    refine wpList_run (v := .pointer none) (wanted_none rfl) (gx_assign rfl rfl) ?_
    simp only [Act.put, List.setIfInBounds_toArray, List.set_cons_zero, List.set_cons_succ]
    refine wpList_run (v := .int .i64 1) (wanted_none rfl) (gx_assign rfl rfl) ?_
    simp only [Act.put, List.setIfInBounds_toArray, List.set_cons_zero, List.set_cons_succ]
    go_upto_region 3 with fail
    refine wp_region_lit ?_
    refine wpList_run (v := .bool true) (wanted_none rfl) (exec_move rfl rfl) ?_
    simp only [Act.put, List.setIfInBounds_toArray, List.set_cons_zero, List.set_cons_succ]
    refine wpList_run (v := .bool false) (wanted_none rfl) (ix_not (b := true) rfl rfl) ?_
    simp only [Act.put, List.setIfInBounds_toArray, List.set_cons_zero, List.set_cons_succ]
    refine wpList_run (v := .bool false) (wanted_none rfl) (exec_move rfl rfl) ?_
    simp only [Act.put, List.setIfInBounds_toArray, List.set_cons_zero, List.set_cons_succ]
    refine wpList_run (v := .pointer none) rfl (exec_move rfl rfl) ?_
    simp only [Act.put, List.setIfInBounds_toArray, List.set_cons_zero, List.set_cons_succ]
    refine wpList_run (v := .bool true) rfl (ptr_eqt (by decide) rfl rfl rfl) ?_
    simp only [Act.put, List.setIfInBounds_toArray, List.set_cons_zero, List.set_cons_succ]
    refine wpList_run (v := .int .i64 1) rfl (exec_move rfl rfl) ?_
    simp only [Act.put, List.setIfInBounds_toArray, List.set_cons_zero, List.set_cons_succ]
    refine wpList_run (v := .bool true) rfl (ix_neq rfl rfl rfl (by decide)) ?_
    simp only [Act.put, List.setIfInBounds_toArray, List.set_cons_zero, List.set_cons_succ]
    refine wpList_run (v := .bool false) rfl (bx_neb rfl rfl rfl rfl rfl) ?_
    simp only [Act.put, List.setIfInBounds_toArray, List.set_cons_zero, List.set_cons_succ]
    refine wpList_run (v := .bool false) (wanted_none rfl) (ix_pickF rfl rfl rfl) ?_
    simp only [Act.put, List.setIfInBounds_toArray, List.set_cons_zero, List.set_cons_succ]
    go_upto_region 5 with fail
    refine wp_region_lit ?_
    refine wpList_run (v := .pointer none) (wanted_none rfl) (exec_move rfl rfl) ?_
    simp only [Act.put, List.setIfInBounds_toArray, List.set_cons_zero, List.set_cons_succ]
    refine wpList_run (v := .bool true) (wanted_none rfl) (ptr_eqt (by decide) rfl rfl rfl) ?_
    simp only [Act.put, List.setIfInBounds_toArray, List.set_cons_zero, List.set_cons_succ]
    go_upto_region 6 with fail
    refine wp_region_lit ?_
    refine wpList_run (v := .bool true) (wanted_none rfl) (gx_assign rfl rfl) ?_
    simp only [Act.put, List.setIfInBounds_toArray, List.set_cons_zero, List.set_cons_succ]
    go_wp2_with fail
    go_ret
    exact ⟨rfl, HT2.out⟩
end Go.Proofs.Ythoefjaapjaeeaa
