/-
  Ledgers: rows of entries are posted whole, or refused whole: the law's walk. No conditions.
-/
import Derived.Test.YthoefjaapjaeeaaLgR
namespace Go.Proofs.Ythoefjaapjaeeaa
open Go.RowKit
open Lg (Ent)
set_option linter.unusedVariables false
set_option linter.unusedSimpArgs false
/-- a ledger, the reference's beside it; and two others of their own -/
structure Duo (w : World) (p y q u N : Nat) (b d : Nat → Int) : Prop where
  lx : Led w p N b
  ry : ∃ v, RLed w y N b v
  lz : Led w q N d
  rw_ : ∃ v, RLed w u N d v
  npq : p ≠ q
  nyu : y ≠ u
theorem Duo.still {w w' : World} {p y q u N : Nat} {b d : Nat → Int} (h : Duo w p y q u N b d) (ht : Turn nowhere w w') : Duo w' p y q u N b d := by
  obtain ⟨v, hv⟩ := h.ry
  obtain ⟨v2, hv2⟩ := h.rw_
  exact ⟨h.lx.still ht, ⟨v, hv.still ht⟩, h.lz.still ht, ⟨v2, hv2.still ht⟩, h.npq, h.nyu⟩
theorem RLed.offL {w w' : World} {y n p m : Nat} {b c : Nat → Int} {v : Value} (h : RLed w y n b v) (ht : Turn (only p) w w') (hp : Led w p m c) : RLed w' y n b v := h.off ht hp.blk (by decide) (by decide)
theorem Led.offR {w w' : World} {y n p m : Nat} {b c : Nat → Int} {v : Value} (h : Led w p n b) (ht : Turn (only y) w w') (hy : RLed w y m c v) : Led w' p n b := h.turn ht fun e => h.blk.ne_ hy.blk (by decide) e
/-- both have done a posting -/
theorem Duo.both {w w1 w2 : World} {p y q u N : Nat} {b d g : Nat → Int} (h : Duo w p y q u N b d) (t1 : Turn (only p) w w1) (h1 : Led w1 p N g) (t2 : Turn (only y) w1 w2) (h2 : ∃ v, RLed w2 y N g v) : Duo w2 p y q u N g d := by
  obtain ⟨v, hv⟩ := h.ry
  obtain ⟨v2, hv2⟩ := h.rw_
  have hy1 := hv.offL t1 h.lx
  have hz1 := h.lz.turn t1 fun e => h.npq (show q = p from e).symm
  have hu1 := hv2.offL t1 h.lx
  exact ⟨h1.offR t2 hy1, h2, hz1.offR t2 hy1, ⟨v2, hu1.off2 t2 hy1.blk fun e => h.nyu e.symm⟩, h.npq, h.nyu⟩
theorem duoY {w w1 : World} {p y q u N : Nat} {b d : Nat → Int} (h : Duo w p y q u N b d) (t1 : Turn (only p) w w1) : ∃ v, RLed w1 y N b v := by
  obtain ⟨v, hv⟩ := h.ry
  exact ⟨v, hv.offL t1 h.lx⟩
/-- what New tells of both -/
theorem rNew_ok {w : World} {n : Nat} (hn : 1 ≤ n ∧ n ≤ 7) : Calls Try.prog 10 #[.int .i64 (n : Int)] w fun e w' => ∃ y v, e = .returned (.tuple #[.pointer (some ⟨y, 0, none⟩), .int .i64 0]) ∧ RLed w' y n (fun _ => 0) v ∧ w.heap.size ≤ y ∧ Turn nowhere w w' := rNew_walk.mono fun e w' h => by
  rcases h with ⟨h, _⟩ | ⟨m, y, v, e1, h⟩
  · omega
  · obtain rfl : n = m := by omega
    exact ⟨y, v, h⟩
theorem rNew_bad {w : World} {k : Int} (hk : ¬ (1 ≤ k ∧ k ≤ 7)) : Calls Try.prog 10 #[.int .i64 k] w fun e w' => e = .returned (.tuple #[.pointer none, .int .i64 1]) ∧ Turn nowhere w w' := rNew_walk.mono fun e w' h => by
  rcases h with ⟨_, h1, h2⟩ | ⟨m, y, v, e1, _, h, _⟩
  · exact ⟨h1, h2 ▸ Turn.refl _ _⟩
  · have := h.ac; omega
theorem fitN (n : Nat) (b : Nat → Int) : Fit 1 (nums n b) := fun r hr => by
  unfold nums at hr
  obtain ⟨a, _, rfl⟩ := List.mem_map.1 hr
  exact ⟨rfl, one1_one _⟩
set_option maxRecDepth 20000 in
set_option maxHeartbeats 4000000 in
theorem posts_walk {w : World} {ac : Int} {A : Option Addr} {n c : Nat} {vs : List EnV} {cl : Int} (hv : EnsAt w A n vs) (hm : n ≤ 140737488355328) (hs : ∀ v ∈ vs, v.n ≤ 1048576) : Calls Try.prog 3 #[.int .i64 ac, .slice A n c, .int .i64 cl] w fun e w' => e = .returned (.bool true) ∧ Turn nowhere w w' := by
  have HV := Lib.hid hv
  have HSM := Lib.hid hs
  have HLEN := Lib.hid hv.len
  have ym : (n : Int) ≤ 140737488355328 := by omega
  clear hv hm hs
  go_enter Try.func3, Try.ntmps3
  go_upto_region 0 with fail
  refine wp_region_lit ?_
  refine wpList_run (v := .bool false) (wanted_none rfl) (gx_assign rfl rfl) ?_
  simp only [Act.put, List.setIfInBounds_toArray, List.set_cons_zero, List.set_cons_succ]
  go_upto_region 1 with fail
  refine wp_region_lit ?_
  refine wpList_op rfl fun K9 HK9 => ?_
  go_wp2_with fail
  refine (shown_walk w).mono ?_
  rintro e w1 ⟨rfl, ht⟩
  refine HK9.out _ _ ?_
  clear HK9
  try simp only [Act.put, List.setIfInBounds_toArray, List.set_cons_zero, List.set_cons_succ]
  have HT1 := Lib.hid ht
  clear ht
  refine wpList_run (v := .bool true) (wanted_none rfl) (gx_assign rfl rfl) ?_
  simp only [Act.put, List.setIfInBounds_toArray, List.set_cons_zero, List.set_cons_succ]
  by_cases h7 : 1 ≤ ac ∧ ac ≤ 7
  · obtain ⟨N, rfl⟩ := Int.eq_ofNat_of_zero_le (show 0 ≤ ac by omega)
    have HN7 := Lib.hid (show 1 ≤ N ∧ N ≤ 7 from by omega)
    clear h7
    go_upto_region 2 with fail
    refine wp_region_lit ?_
    refine wpList_run (v := .int .i64 (N : Int)) (wanted_none rfl) (exec_move rfl rfl) ?_
    simp only [Act.put, List.setIfInBounds_toArray, List.set_cons_zero, List.set_cons_succ]
    refine wpList_op rfl fun K9 HK9 => ?_
    go_wp2_with fail
    refine (New_ok HN7.out).mono ?_
    rintro e w2 ⟨p, rfl, hp, hpl, ht⟩
    refine HK9.out _ _ ?_
    clear HK9
    try simp only [Act.put, List.setIfInBounds_toArray, List.set_cons_zero, List.set_cons_succ]
    have HP2 := Lib.hid hp
    have HPL := Lib.hid (show w.heap.size ≤ p from Nat.le_trans HT1.out.size hpl)
    have HT2 := Lib.hid (HT1.out.trans ht fun _ _ e => e)
    clear hp hpl ht
    refine wpList_run (v := .tuple #[.pointer (some ⟨p, 0, none⟩), .int .i64 0]) (wanted_none rfl) (exec_move rfl rfl) ?_
    simp only [Act.put, List.setIfInBounds_toArray, List.set_cons_zero, List.set_cons_succ]
    refine wpList_run (v := .pointer (some ⟨p, 0, none⟩)) (wanted_none rfl) (ix_extract rfl rfl rfl) ?_
    simp only [Act.put, List.setIfInBounds_toArray, List.set_cons_zero, List.set_cons_succ]
    refine wpList_run (v := .int .i64 0) (wanted_none rfl) (ix_extract rfl rfl rfl) ?_
    simp only [Act.put, List.setIfInBounds_toArray, List.set_cons_zero, List.set_cons_succ]
    refine wpList_run (v := .pointer (some ⟨p, 0, none⟩)) (wanted_none rfl) (gx_assign rfl rfl) ?_
    simp only [Act.put, List.setIfInBounds_toArray, List.set_cons_zero, List.set_cons_succ]
    refine wpList_run (v := .int .i64 0) (wanted_none rfl) (gx_assign rfl rfl) ?_
    simp only [Act.put, List.setIfInBounds_toArray, List.set_cons_zero, List.set_cons_succ]
    go_upto_region 3 with fail
    refine wp_region_lit ?_
    refine wpList_run (v := .int .i64 (N : Int)) (wanted_none rfl) (exec_move rfl rfl) ?_
    simp only [Act.put, List.setIfInBounds_toArray, List.set_cons_zero, List.set_cons_succ]
    refine wpList_op rfl fun K9 HK9 => ?_
    go_wp2_with fail
    refine (rNew_ok HN7.out).mono ?_
    rintro e w3 ⟨y, v, rfl, hy, hyl, ht⟩
    refine HK9.out _ _ ?_
    clear HK9
    try simp only [Act.put, List.setIfInBounds_toArray, List.set_cons_zero, List.set_cons_succ]
    have HY3 := Lib.hid hy
    have HYL := Lib.hid (show w.heap.size ≤ y from Nat.le_trans HT2.out.size hyl)
    have HP3 := Lib.hid (HP2.out.still ht)
    have HT3 := Lib.hid (HT2.out.trans ht fun _ _ e => e)
    clear hy hyl ht HP2
    refine wpList_run (v := .tuple #[.pointer (some ⟨y, 0, none⟩), .int .i64 0]) (wanted_none rfl) (exec_move rfl rfl) ?_
    simp only [Act.put, List.setIfInBounds_toArray, List.set_cons_zero, List.set_cons_succ]
    refine wpList_run (v := .pointer (some ⟨y, 0, none⟩)) (wanted_none rfl) (ix_extract rfl rfl rfl) ?_
    simp only [Act.put, List.setIfInBounds_toArray, List.set_cons_zero, List.set_cons_succ]
    refine wpList_run (v := .int .i64 0) (wanted_none rfl) (ix_extract rfl rfl rfl) ?_
    simp only [Act.put, List.setIfInBounds_toArray, List.set_cons_zero, List.set_cons_succ]
    refine wpList_run (v := .pointer (some ⟨y, 0, none⟩)) (wanted_none rfl) (gx_assign rfl rfl) ?_
    simp only [Act.put, List.setIfInBounds_toArray, List.set_cons_zero, List.set_cons_succ]
    refine wpList_run (v := .int .i64 0) (wanted_none rfl) (gx_assign rfl rfl) ?_
    simp only [Act.put, List.setIfInBounds_toArray, List.set_cons_zero, List.set_cons_succ]
    go_upto_region 4 with fail
    refine wp_region_lit ?_
    refine wpList_run (v := .bool true) (wanted_none rfl) (exec_move rfl rfl) ?_
    simp only [Act.put, List.setIfInBounds_toArray, List.set_cons_zero, List.set_cons_succ]
    refine wpList_run (v := .bool false) (wanted_none rfl) (ix_not (b := true) rfl rfl) ?_
    simp only [Act.put, List.setIfInBounds_toArray, List.set_cons_zero, List.set_cons_succ]
    refine wpList_run (v := .bool false) (wanted_none rfl) (exec_move rfl rfl) ?_
    simp only [Act.put, List.setIfInBounds_toArray, List.set_cons_zero, List.set_cons_succ]
    refine wpList_run (v := .int .i64 0) rfl (exec_move rfl rfl) ?_
    simp only [Act.put, List.setIfInBounds_toArray, List.set_cons_zero, List.set_cons_succ]
    refine wpList_run (v := .int .i64 0) rfl (exec_move rfl rfl) ?_
    simp only [Act.put, List.setIfInBounds_toArray, List.set_cons_zero, List.set_cons_succ]
    refine wpList_run (v := .bool false) rfl (ix_neq rfl rfl rfl (by decide)) ?_
    simp only [Act.put, List.setIfInBounds_toArray, List.set_cons_zero, List.set_cons_succ]
    refine wpList_run (v := .bool false) (wanted_none rfl) (ix_pickF rfl rfl rfl) ?_
    simp only [Act.put, List.setIfInBounds_toArray, List.set_cons_zero, List.set_cons_succ]
    refine wpList_run (v := .bool false) (wanted_none rfl) (exec_move rfl rfl) ?_
    simp only [Act.put, List.setIfInBounds_toArray, List.set_cons_zero, List.set_cons_succ]
    refine wpList_run (v := .pointer (some ⟨p, 0, none⟩)) rfl (exec_move rfl rfl) ?_
    simp only [Act.put, List.setIfInBounds_toArray, List.set_cons_zero, List.set_cons_succ]
    refine wpList_run (v := .bool false) rfl (ptr_eqn (by decide) rfl rfl rfl) ?_
    simp only [Act.put, List.setIfInBounds_toArray, List.set_cons_zero, List.set_cons_succ]
    refine wpList_run (v := .pointer (some ⟨y, 0, none⟩)) rfl (exec_move rfl rfl) ?_
    simp only [Act.put, List.setIfInBounds_toArray, List.set_cons_zero, List.set_cons_succ]
    refine wpList_run (v := .bool false) rfl (ptr_eqn (by decide) rfl rfl rfl) ?_
    simp only [Act.put, List.setIfInBounds_toArray, List.set_cons_zero, List.set_cons_succ]
    refine wpList_run (v := .bool false) rfl (bx_neb rfl rfl rfl rfl rfl) ?_
    simp only [Act.put, List.setIfInBounds_toArray, List.set_cons_zero, List.set_cons_succ]
    refine wpList_run (v := .bool false) (wanted_none rfl) (ix_pickF rfl rfl rfl) ?_
    simp only [Act.put, List.setIfInBounds_toArray, List.set_cons_zero, List.set_cons_succ]
    go_upto_region 6 with fail
    refine wp_region_lit ?_
    refine wpList_run (v := .pointer (some ⟨y, 0, none⟩)) (wanted_none rfl) (exec_move rfl rfl) ?_
    simp only [Act.put, List.setIfInBounds_toArray, List.set_cons_zero, List.set_cons_succ]
    refine wpList_run (v := .bool false) (wanted_none rfl) (ptr_eqn (by decide) rfl rfl rfl) ?_
    simp only [Act.put, List.setIfInBounds_toArray, List.set_cons_zero, List.set_cons_succ]
    go_upto_region 8 with fail
    refine wp_region_lit ?_
    refine wpList_run (v := .pointer (some ⟨p, 0, none⟩)) (wanted_none rfl) (exec_move rfl rfl) ?_
    simp only [Act.put, List.setIfInBounds_toArray, List.set_cons_zero, List.set_cons_succ]
    refine wpList_op rfl fun K9 HK9 => ?_
    go_wp2_with fail
    refine (Clone_walk HP3.out).mono ?_
    rintro e w4 ⟨q0, rfl, hq, hql, ht⟩
    refine HK9.out _ _ ?_
    clear HK9
    try simp only [Act.put, List.setIfInBounds_toArray, List.set_cons_zero, List.set_cons_succ]
    have HQ4 := Lib.hid hq
    have HNq := Lib.hid (show p ≠ q0 from by have := HP3.out.blk.lt; omega)
    have HP4 := Lib.hid (HP3.out.still ht)
    have HY4 := Lib.hid (HY3.out.still ht)
    have HT4 := Lib.hid (HT3.out.trans ht fun _ _ e => e)
    clear hq hql ht
    obtain ⟨gv, cv, hv, _⟩ := HY4.out.row.some_ (by rw [nums_len]; have := HN7.out; omega)
    rw [nums_len] at hv
    subst hv
    obtain ⟨A6, c6, w5, ha, ho, ht⟩ := copy_rws elmN (w := w4) (c := cv) (ty := 32) (HY4.out.row.rws (by rw [nums_len]; have := HN7.out; omega) (by decide)) (fitN N _) (fun h => by cases h) (by have := HN7.out; omega)
    have HA := Lib.hid ha
    have HO5 := Lib.hid ho
    have HT5 := Lib.hid ht
    clear ha ho ht
    have htb := (Turn.refl nowhere w5).alloc (.cells #[.slice A6 N c6] 34)
    have hbb := Blk.new w5 34 #[.slice A6 N c6]
    refine wpList_run (v := .pointer (some ⟨q0, 0, none⟩)) (wanted_none rfl) (gx_assign rfl rfl) ?_
    simp only [Act.put, List.setIfInBounds_toArray, List.set_cons_zero, List.set_cons_succ]
    go_upto_region 9 with fail
    refine wp_region_lit ?_
    refine wpList_run (v := .slice (some ⟨w4.heap.size, 0, none⟩) 0 0) (w' := w4.alloc (.cells #[] 3)) (wanted_none rfl) (bx_slice0 rfl (inull w4)) ?_
    simp only [Act.put, List.setIfInBounds_toArray, List.set_cons_zero, List.set_cons_succ]
    refine wpList_run (v := .pointer (some ⟨y, 0, none⟩)) (wanted_none rfl) (exec_move rfl rfl) ?_
    simp only [Act.put, List.setIfInBounds_toArray, List.set_cons_zero, List.set_cons_succ]
    refine wpList_run (v := .pointer (some ⟨y, 0, none⟩)) (wanted_none rfl) (exec_nil rfl rfl) ?_
    simp only [Act.put, List.setIfInBounds_toArray, List.set_cons_zero, List.set_cons_succ]
    refine wpList_run (v := .pointer (some ⟨y, 0, none⟩)) (wanted_none rfl) (exec_field (off := 0) (d := 0) rfl rfl (by kernel_rfl)) ?_
    simp only [Act.put, List.setIfInBounds_toArray, List.set_cons_zero, List.set_cons_succ]
    refine wpList_run (v := .slice (some ⟨gv, 0, none⟩) N cv) (wanted_none rfl) (exec_load1 rfl rfl (by kernel_rfl) ((HY4.out.still ((Turn.refl nowhere w4).alloc (.cells #[] 3))).blk.cell 0)) ?_
    simp only [Act.put, List.setIfInBounds_toArray, List.set_cons_zero, List.set_cons_succ]
    refine wpList_run (v := .slice A6 N c6) (w' := w5) (wanted_none rfl) (exec_append rfl rfl rfl HA.out) ?_
    simp only [Act.put, List.setIfInBounds_toArray, List.set_cons_zero, List.set_cons_succ]
    refine wpList_run (v := .agg #[.slice A6 N c6]) (wanted_none rfl) (gx_build1 rfl rfl (build_lr _ _ _ _)) ?_
    simp only [Act.put, List.setIfInBounds_toArray, List.set_cons_zero, List.set_cons_succ]
    refine wpList_run (v := .pointer (some ⟨w5.heap.size, 0, none⟩)) (w' := w5.alloc (.cells #[.slice A6 N c6] 34)) (wanted_none rfl) (gx_box rfl rfl (box_lr _ _ _ _)) ?_
    simp only [Act.put, List.setIfInBounds_toArray, List.set_cons_zero, List.set_cons_succ]
    obtain ⟨u0, hun⟩ : ∃ g, g = w5.heap.size := ⟨_, rfl⟩
    rw [← hun] at hbb ⊢
    have HNu := Lib.hid (show y ≠ u0 from by have h1 := HY4.out.blk.lt; have h2 := HT5.out.size; omega)
    clear hun
    generalize w5.alloc (.cells #[.slice A6 N c6] 34) = w6 at *
    have HU6 := Lib.hid (show RLed w6 u0 N _ (.slice A6 N c6) from ⟨hbb, (HO5.out.still htb).less (Nat.zero_le _), HN7.out, HY4.out.ok⟩)
    have ht46 := HT5.out.trans htb fun _ _ e => e
    have HP6 := Lib.hid (HP4.out.still ht46)
    have HY6 := Lib.hid (HY4.out.still ht46)
    have HQ6 := Lib.hid (HQ4.out.still ht46)
    have HT6 := Lib.hid (HT4.out.trans ht46 fun _ _ e => e)
    clear hbb htb ht46 HA HO5 HT5 HP4 HY4 HQ4 HT4
    refine wpList_run (v := .pointer (some ⟨u0, 0, none⟩)) (wanted_none rfl) (gx_assign rfl rfl) ?_
    simp only [Act.put, List.setIfInBounds_toArray, List.set_cons_zero, List.set_cons_succ]
    go_upto_region 10 with fail
    refine wp_region_lit ?_
    refine wpList_run (v := .pointer (some ⟨q0, 0, none⟩)) (wanted_none rfl) (exec_move rfl rfl) ?_
    simp only [Act.put, List.setIfInBounds_toArray, List.set_cons_zero, List.set_cons_succ]
    refine wpList_run (v := .bool false) (wanted_none rfl) (ptr_eqn (by decide) rfl rfl rfl) ?_
    simp only [Act.put, List.setIfInBounds_toArray, List.set_cons_zero, List.set_cons_succ]
    have HD0 := Lib.hid (show Duo w6 p y q0 u0 N (fun _ => 0) (fun _ => 0) from ⟨HP6.out, ⟨_, HY6.out⟩, HQ6.out, ⟨_, HU6.out⟩, HNq.out, HNu.out⟩)
    clear HP6 HY6 HQ6 HU6 HNq HNu HP3 HY3
    go_upto_region 12 with fail
    refine wp_region_lit ?_
    refine wpList_run (v := .int .i64 0) (wanted_none rfl) (gx_assign rfl rfl) ?_
    simp only [Act.put, List.setIfInBounds_toArray, List.set_cons_zero, List.set_cons_succ]
    go_wp2_with fail
    go_loopg [12, 13, 14] n (fun gk zv uv iv wr => ∃ (i q u : Nat) (b d : Nat → Int), iv = .int .i64 (i : Int) ∧ zv = .pointer (some ⟨q, 0, none⟩) ∧ uv = .pointer (some ⟨u, 0, none⟩) ∧ i + gk = n ∧ Duo wr p y q u N b d ∧ Turn nowhere w wr)
    case atStart => exact ⟨0, q0, u0, _, _, rfl, rfl, rfl, by omega, HD0.out, HT6.out⟩
    obtain ⟨i, q, u, b, d, rfl, rfl, rfl, hgk, hd, htr⟩ := hrel
    have HGK := Lib.hid hgk
    have HD := Lib.hid hd
    have HTR := Lib.hid htr
    have yi : (i : Int) ≤ (n : Int) := by omega
    clear hgk hd htr
    rcases (by omega : (i < n ∧ i < 60) ∨ ¬ i < n ∨ (i < n ∧ ¬ i < 60)) with hlt | hlt | hlt
    · have HLT := Lib.hid hlt.1
      have y3 : (i : Int) < (n : Int) := by omega
      have y4 : (i : Int) < 60 := by omega
      obtain ⟨v, hvi⟩ := ens_some HLEN.out hlt.1
      have HVI := Lib.hid hvi
      obtain ⟨b1, o1, e1, hcc⟩ := HV.out.rng hvi
      have HC := Lib.hid hcc
      have HVO := Lib.hid (HV.out.ok v (List.mem_of_getElem? hvi))
      have HV20 := Lib.hid (HSM.out v (List.mem_of_getElem? hvi))
      subst e1
      clear hvi hcc hlt
      go_upto_region 13 with fail
      refine wp_region_lit ?_
      refine wpList_run (v := .int .i64 (i : Int)) (wanted_none rfl) (exec_move rfl rfl) ?_
      simp only [Act.put, List.setIfInBounds_toArray, List.set_cons_zero, List.set_cons_succ]
      refine wpList_run (v := .slice (some ⟨b1, o1, none⟩) n c) (wanted_none rfl) (exec_move rfl rfl) ?_
      simp only [Act.put, List.setIfInBounds_toArray, List.set_cons_zero, List.set_cons_succ]
      refine wpList_run (v := .int .i64 (n : Int)) (wanted_none rfl) (gx_len rfl rfl Try.underlying22) ?_
      simp only [Act.put, List.setIfInBounds_toArray, List.set_cons_zero, List.set_cons_succ]
      refine wpList_run (v := .bool true) (wanted_none rfl) (ix_lss rfl rfl rfl (decide_eq_true y3)) ?_
      simp only [Act.put, List.setIfInBounds_toArray, List.set_cons_zero, List.set_cons_succ]
      refine wpList_run (v := .bool true) (wanted_none rfl) (exec_move rfl rfl) ?_
      simp only [Act.put, List.setIfInBounds_toArray, List.set_cons_zero, List.set_cons_succ]
      refine wpList_run (v := .int .i64 (i : Int)) rfl (exec_move rfl rfl) ?_
      simp only [Act.put, List.setIfInBounds_toArray, List.set_cons_zero, List.set_cons_succ]
      refine wpList_run (v := .bool true) rfl (ix_lss rfl rfl rfl (decide_eq_true y4)) ?_
      simp only [Act.put, List.setIfInBounds_toArray, List.set_cons_zero, List.set_cons_succ]
      refine wpList_run (v := .bool true) (wanted_none rfl) (ix_pickT rfl rfl rfl) ?_
      simp only [Act.put, List.setIfInBounds_toArray, List.set_cons_zero, List.set_cons_succ]
      by_cases hcl : (i : Int) = cl
      · have HCL := Lib.hid hcl
        clear hcl
        go_upto_region 15 with fail
        refine wp_region_lit ?_
        refine wpList_run (v := .int .i64 (i : Int)) (wanted_none rfl) (exec_move rfl rfl) ?_
        simp only [Act.put, List.setIfInBounds_toArray, List.set_cons_zero, List.set_cons_succ]
        refine wpList_run (v := .int .i64 cl) (wanted_none rfl) (exec_move rfl rfl) ?_
        simp only [Act.put, List.setIfInBounds_toArray, List.set_cons_zero, List.set_cons_succ]
        refine wpList_run (v := .bool true) (wanted_none rfl) (ix_eql rfl rfl rfl (decide_eq_true HCL.out)) ?_
        simp only [Act.put, List.setIfInBounds_toArray, List.set_cons_zero, List.set_cons_succ]
        obtain ⟨vy, hvy⟩ := HD.out.ry
        have HYr := Lib.hid hvy
        have HPr := Lib.hid HD.out.lx
        clear hvy
        go_upto_region 16 with fail
        refine wp_region_lit ?_
        refine wpList_run (v := .pointer (some ⟨p, 0, none⟩)) (wanted_none rfl) (exec_move rfl rfl) ?_
        simp only [Act.put, List.setIfInBounds_toArray, List.set_cons_zero, List.set_cons_succ]
        refine wpList_op rfl fun K9 HK9 => ?_
        go_wp2_with fail
        refine (Clone_walk HPr.out).mono ?_
        rintro e w4 ⟨q1, rfl, hq, hql, ht⟩
        refine HK9.out _ _ ?_
        clear HK9
        try simp only [Act.put, List.setIfInBounds_toArray, List.set_cons_zero, List.set_cons_succ]
        have HQ4 := Lib.hid hq
        have HNq := Lib.hid (show p ≠ q1 from by have := HPr.out.blk.lt; omega)
        have HP4 := Lib.hid (HPr.out.still ht)
        have HY4 := Lib.hid (HYr.out.still ht)
        have HT4 := Lib.hid (HTR.out.trans ht fun _ _ e => e)
        clear hq hql ht
        obtain ⟨gv, cv, hv, _⟩ := HY4.out.row.some_ (by rw [nums_len]; have := HN7.out; omega)
        rw [nums_len] at hv
        subst hv
        obtain ⟨A6, c6, w5, ha, ho, ht⟩ := copy_rws elmN (w := w4) (c := cv) (ty := 32) (HY4.out.row.rws (by rw [nums_len]; have := HN7.out; omega) (by decide)) (fitN N _) (fun h => by cases h) (by have := HN7.out; omega)
        have HA := Lib.hid ha
        have HO5 := Lib.hid ho
        have HT5 := Lib.hid ht
        clear ha ho ht
        have htb := (Turn.refl nowhere w5).alloc (.cells #[.slice A6 N c6] 34)
        have hbb := Blk.new w5 34 #[.slice A6 N c6]
        refine wpList_run (v := .pointer (some ⟨q1, 0, none⟩)) (wanted_none rfl) (gx_assign rfl rfl) ?_
        simp only [Act.put, List.setIfInBounds_toArray, List.set_cons_zero, List.set_cons_succ]
        go_upto_region 17 with fail
        refine wp_region_lit ?_
        refine wpList_run (v := .slice (some ⟨w4.heap.size, 0, none⟩) 0 0) (w' := w4.alloc (.cells #[] 3)) (wanted_none rfl) (bx_slice0 rfl (inull w4)) ?_
        simp only [Act.put, List.setIfInBounds_toArray, List.set_cons_zero, List.set_cons_succ]
        refine wpList_run (v := .pointer (some ⟨y, 0, none⟩)) (wanted_none rfl) (exec_move rfl rfl) ?_
        simp only [Act.put, List.setIfInBounds_toArray, List.set_cons_zero, List.set_cons_succ]
        refine wpList_run (v := .pointer (some ⟨y, 0, none⟩)) (wanted_none rfl) (exec_nil rfl rfl) ?_
        simp only [Act.put, List.setIfInBounds_toArray, List.set_cons_zero, List.set_cons_succ]
        refine wpList_run (v := .pointer (some ⟨y, 0, none⟩)) (wanted_none rfl) (exec_field (off := 0) (d := 0) rfl rfl (by kernel_rfl)) ?_
        simp only [Act.put, List.setIfInBounds_toArray, List.set_cons_zero, List.set_cons_succ]
        refine wpList_run (v := .slice (some ⟨gv, 0, none⟩) N cv) (wanted_none rfl) (exec_load1 rfl rfl (by kernel_rfl) ((HY4.out.still ((Turn.refl nowhere w4).alloc (.cells #[] 3))).blk.cell 0)) ?_
        simp only [Act.put, List.setIfInBounds_toArray, List.set_cons_zero, List.set_cons_succ]
        refine wpList_run (v := .slice A6 N c6) (w' := w5) (wanted_none rfl) (exec_append rfl rfl rfl HA.out) ?_
        simp only [Act.put, List.setIfInBounds_toArray, List.set_cons_zero, List.set_cons_succ]
        refine wpList_run (v := .agg #[.slice A6 N c6]) (wanted_none rfl) (gx_build1 rfl rfl (build_lr _ _ _ _)) ?_
        simp only [Act.put, List.setIfInBounds_toArray, List.set_cons_zero, List.set_cons_succ]
        refine wpList_run (v := .pointer (some ⟨w5.heap.size, 0, none⟩)) (w' := w5.alloc (.cells #[.slice A6 N c6] 34)) (wanted_none rfl) (gx_box rfl rfl (box_lr _ _ _ _)) ?_
        simp only [Act.put, List.setIfInBounds_toArray, List.set_cons_zero, List.set_cons_succ]
        obtain ⟨u1, hun⟩ : ∃ g, g = w5.heap.size := ⟨_, rfl⟩
        rw [← hun] at hbb ⊢
        have HNu := Lib.hid (show y ≠ u1 from by have h1 := HY4.out.blk.lt; have h2 := HT5.out.size; omega)
        clear hun
        generalize w5.alloc (.cells #[.slice A6 N c6] 34) = w6 at *
        have HU6 := Lib.hid (show RLed w6 u1 N _ (.slice A6 N c6) from ⟨hbb, (HO5.out.still htb).less (Nat.zero_le _), HN7.out, HY4.out.ok⟩)
        have ht46 := HT5.out.trans htb fun _ _ e => e
        have HP6 := Lib.hid (HP4.out.still ht46)
        have HY6 := Lib.hid (HY4.out.still ht46)
        have HQ6 := Lib.hid (HQ4.out.still ht46)
        have HT6 := Lib.hid (HT4.out.trans ht46 fun _ _ e => e)
        clear hbb htb ht46 HA HO5 HT5 HP4 HY4 HQ4 HT4
        refine wpList_run (v := .pointer (some ⟨u1, 0, none⟩)) (wanted_none rfl) (gx_assign rfl rfl) ?_
        simp only [Act.put, List.setIfInBounds_toArray, List.set_cons_zero, List.set_cons_succ]
        go_upto_region 18 with fail
        refine wp_region_lit ?_
        refine wpList_run (v := .pointer (some ⟨q1, 0, none⟩)) (wanted_none rfl) (exec_move rfl rfl) ?_
        simp only [Act.put, List.setIfInBounds_toArray, List.set_cons_zero, List.set_cons_succ]
        refine wpList_run (v := .bool false) (wanted_none rfl) (ptr_eqn (by decide) rfl rfl rfl) ?_
        simp only [Act.put, List.setIfInBounds_toArray, List.set_cons_zero, List.set_cons_succ]
        have HD9 := Lib.hid (show Duo w6 p y q1 u1 N b b from ⟨HP6.out, ⟨_, HY6.out⟩, HQ6.out, ⟨_, HU6.out⟩, HNq.out, HNu.out⟩)
        have HT9 := Lib.hid HT6.out
        clear HP6 HY6 HQ6 HU6 HNq HNu HPr HYr HD HT6
        obtain ⟨w9, hw9⟩ : ∃ z, z = w6 := ⟨_, rfl⟩
        rw [← hw9] at HD9 HT9 ⊢
        clear hw9
        obtain ⟨q, hq⟩ : ∃ z, z = q1 := ⟨_, rfl⟩
        rw [← hq] at HD9 ⊢
        clear hq
        obtain ⟨u, hu⟩ : ∃ z, z = u1 := ⟨_, rfl⟩
        rw [← hu] at HD9 ⊢
        clear hu
        obtain ⟨d, hd⟩ : ∃ z, z = b := ⟨_, rfl⟩
        have HD9 := Lib.hid (show Duo w9 p y q u N b d from by rw [hd]; exact HD9.out)
        clear hd
        obtain ⟨A5, c5, wa, haa, hoa, hta⟩ := copy_rws elmE (w := w9) (c := v.c) (ty := 35) (HVO.out.at_.still HT9.out).row (fitE_ v.es) HVO.out.nil (by have := HVO.out.room; omega)
        have HAA := Lib.hid haa
        have HOWN := Lib.hid (EntAt.of_orw hoa HVO.out.at_.wf (by have := HVO.out.at_.len; have := HVO.out.room; omega))
        have hna : ∀ g t cs, Blk wa g t cs → t ≠ 57 → ∀ b0 o0 s0, A5 = some ⟨b0, o0, s0⟩ → b0 ≠ g := fun g t cs hb ht b0 o0 s0 h => hoa.ne hb ht b0 (by rw [h]; rfl)
        have HNA := Lib.hid hna
        have HDa := Lib.hid (HD9.out.still hta)
        have HTa := Lib.hid (HT9.out.trans hta fun _ _ e => e)
        have HC9 := Lib.hid ((HT9.out.cell (World.block_lt_of_cell? _ _ HC.out) fun e => e).trans HC.out)
        have HCa := Lib.hid ((HTa.out.cell (World.block_lt_of_cell? _ _ HC.out) fun e => e).trans HC.out)
        clear haa hoa hta hna
        go_upto_region 20 with fail
        refine wp_region_lit ?_
        refine wpList_run (v := .slice (some ⟨w9.heap.size, 0, none⟩) 0 0) (w' := w9.alloc (.cells #[] 57)) (wanted_none rfl) (bx_slice0 rfl (ebuild0 w9)) ?_
        simp only [Act.put, List.setIfInBounds_toArray, List.set_cons_zero, List.set_cons_succ]
        refine wpList_run (v := .slice (some ⟨b1, o1, none⟩) n c) (wanted_none rfl) (exec_move rfl rfl) ?_
        simp only [Act.put, List.setIfInBounds_toArray, List.set_cons_zero, List.set_cons_succ]
        refine wpList_run (v := .int .i64 (i : Int)) (wanted_none rfl) (exec_move rfl rfl) ?_
        simp only [Act.put, List.setIfInBounds_toArray, List.set_cons_zero, List.set_cons_succ]
        refine wpList_run (v := .pointer (some ⟨b1, o1 + i * 1, none⟩)) (wanted_none rfl) (gx_iaddr (i := i) (sz := 1) rfl rfl rfl Try.underlying22 (by kernel_rfl) HLT.out rfl) ?_
        simp only [Act.put, List.setIfInBounds_toArray, List.set_cons_zero, List.set_cons_succ]
        refine wpList_run (v := .slice v.A v.n v.c) (wanted_none rfl) (exec_load1 rfl rfl (by kernel_rfl) (show (w9.alloc (.cells #[] 57)).cell? _ = _ from (((Turn.refl nowhere w9).alloc _).cell (World.block_lt_of_cell? _ _ HC9.out) fun e => e).trans HC9.out)) ?_
        simp only [Act.put, List.setIfInBounds_toArray, List.set_cons_zero, List.set_cons_succ]
        refine wpList_run (v := .slice A5 v.n c5) (w' := wa) (wanted_none rfl) (exec_append rfl rfl rfl HAA.out) ?_
        simp only [Act.put, List.setIfInBounds_toArray, List.set_cons_zero, List.set_cons_succ]
        refine wpList_run (v := .slice A5 v.n c5) (wanted_none rfl) (gx_assign rfl rfl) ?_
        simp only [Act.put, List.setIfInBounds_toArray, List.set_cons_zero, List.set_cons_succ]
        go_upto_region 21 with fail
        refine wp_region_lit ?_
        refine wpList_run (v := .pointer (some ⟨p, 0, none⟩)) (wanted_none rfl) (exec_move rfl rfl) ?_
        simp only [Act.put, List.setIfInBounds_toArray, List.set_cons_zero, List.set_cons_succ]
        refine wpList_run (v := .slice A5 v.n c5) (wanted_none rfl) (exec_move rfl rfl) ?_
        simp only [Act.put, List.setIfInBounds_toArray, List.set_cons_zero, List.set_cons_succ]
        refine wpList_op rfl fun K9 HK9 => ?_
        go_wp2_with fail
        refine (Post_walk HDa.out.lx HOWN.out (by have := HV20.out; omega)).mono ?_
        rintro e wb ⟨rfl, hp, ht⟩
        refine HK9.out _ _ ?_
        clear HK9
        try simp only [Act.put, List.setIfInBounds_toArray, List.set_cons_zero, List.set_cons_succ]
        obtain ⟨E, hE⟩ : ∃ x, x = Lg.postE N b v.es := ⟨_, rfl⟩
        obtain ⟨g, hg⟩ : ∃ x, x = Lg.postB N b v.es := ⟨_, rfl⟩
        rw [← hE]
        rw [← hg] at hp
        have HE := Lib.hid hE
        have HG := Lib.hid hg
        have HPb := Lib.hid hp
        have HTb1 := Lib.hid ht
        have HTb := Lib.hid (HTa.out.newer HPL.out ht)
        have HOb := Lib.hid (HOWN.out.turn ht fun b0 o0 s0 h _ _ e => HNA.out p _ _ HDa.out.lx.blk (by decide) b0 o0 s0 h e)
        obtain ⟨vy, hvy⟩ := duoY HDa.out ht
        have HYb := Lib.hid hvy
        have HCb := Lib.hid ((HTb.out.cell (World.block_lt_of_cell? _ _ HC.out) fun e => e).trans HC.out)
        have hyne : ∀ b0 o0 s0, A5 = some ⟨b0, o0, s0⟩ → b0 ≠ y := fun b0 o0 s0 h => by
          obtain ⟨vq, hvq⟩ := HDa.out.ry
          exact HNA.out y _ _ hvq.blk (by decide) b0 o0 s0 h
        have HYNE := Lib.hid hyne
        clear hE hg hp ht hvy hyne
        refine wpList_run (v := .int .i64 E) (wanted_none rfl) (gx_assign rfl rfl) ?_
        simp only [Act.put, List.setIfInBounds_toArray, List.set_cons_zero, List.set_cons_succ]
        go_upto_region 22 with fail
        refine wp_region_lit ?_
        refine wpList_run (v := .pointer (some ⟨y, 0, none⟩)) (wanted_none rfl) (exec_move rfl rfl) ?_
        simp only [Act.put, List.setIfInBounds_toArray, List.set_cons_zero, List.set_cons_succ]
        refine wpList_run (v := .slice (some ⟨b1, o1, none⟩) n c) (wanted_none rfl) (exec_move rfl rfl) ?_
        simp only [Act.put, List.setIfInBounds_toArray, List.set_cons_zero, List.set_cons_succ]
        refine wpList_run (v := .int .i64 (i : Int)) (wanted_none rfl) (exec_move rfl rfl) ?_
        simp only [Act.put, List.setIfInBounds_toArray, List.set_cons_zero, List.set_cons_succ]
        refine wpList_run (v := .pointer (some ⟨b1, o1 + i * 1, none⟩)) (wanted_none rfl) (gx_iaddr (i := i) (sz := 1) rfl rfl rfl Try.underlying22 (by kernel_rfl) HLT.out rfl) ?_
        simp only [Act.put, List.setIfInBounds_toArray, List.set_cons_zero, List.set_cons_succ]
        refine wpList_run (v := .slice v.A v.n v.c) (wanted_none rfl) (exec_load1 rfl rfl (by kernel_rfl) HCb.out) ?_
        simp only [Act.put, List.setIfInBounds_toArray, List.set_cons_zero, List.set_cons_succ]
        refine wpList_op rfl fun K9 HK9 => ?_
        go_wp2_with fail
        refine (rPost_walk HYb.out (HVO.out.at_.still HTb.out) HV20.out).mono ?_
        rintro e wc ⟨rfl, hy, ht⟩
        refine HK9.out _ _ ?_
        clear HK9
        try simp only [Act.put, List.setIfInBounds_toArray, List.set_cons_zero, List.set_cons_succ]
        rw [← HE.out]
        rw [← HG.out] at hy
        have HDc := Lib.hid (HDa.out.both HTb1.out HPb.out ht hy)
        have HTc := Lib.hid (HTb.out.newer HYL.out ht)
        have HOc := Lib.hid (HOb.out.turn ht fun b0 o0 s0 h _ _ e => HYNE.out b0 o0 s0 h e)
        have HCc := Lib.hid ((HTc.out.cell (World.block_lt_of_cell? _ _ HC.out) fun e => e).trans HC.out)
        clear hy ht HOb HPb HYb
        refine wpList_run (v := .int .i64 E) (wanted_none rfl) (gx_assign rfl rfl) ?_
        simp only [Act.put, List.setIfInBounds_toArray, List.set_cons_zero, List.set_cons_succ]
        go_upto_region 23 with fail
        refine wp_region_lit ?_
        refine wpList_run (v := .slice A5 v.n c5) (wanted_none rfl) (exec_move rfl rfl) ?_
        simp only [Act.put, List.setIfInBounds_toArray, List.set_cons_zero, List.set_cons_succ]
        refine wpList_run (v := .slice (some ⟨b1, o1, none⟩) n c) (wanted_none rfl) (exec_move rfl rfl) ?_
        simp only [Act.put, List.setIfInBounds_toArray, List.set_cons_zero, List.set_cons_succ]
        refine wpList_run (v := .int .i64 (i : Int)) (wanted_none rfl) (exec_move rfl rfl) ?_
        simp only [Act.put, List.setIfInBounds_toArray, List.set_cons_zero, List.set_cons_succ]
        refine wpList_run (v := .pointer (some ⟨b1, o1 + i * 1, none⟩)) (wanted_none rfl) (gx_iaddr (i := i) (sz := 1) rfl rfl rfl Try.underlying22 (by kernel_rfl) HLT.out rfl) ?_
        simp only [Act.put, List.setIfInBounds_toArray, List.set_cons_zero, List.set_cons_succ]
        refine wpList_run (v := .slice v.A v.n v.c) (wanted_none rfl) (exec_load1 rfl rfl (by kernel_rfl) HCc.out) ?_
        simp only [Act.put, List.setIfInBounds_toArray, List.set_cons_zero, List.set_cons_succ]
        refine wpList_op rfl fun K9 HK9 => ?_
        go_wp2_with fail
        refine (same_walk HOc.out (HVO.out.at_.still HTc.out)).mono ?_
        rintro e wd ⟨rfl, ht⟩
        refine HK9.out _ _ ?_
        clear HK9
        try simp only [Act.put, List.setIfInBounds_toArray, List.set_cons_zero, List.set_cons_succ]
        have HDd := Lib.hid (HDc.out.still ht)
        have HTd := Lib.hid (HTc.out.trans ht fun _ _ e => e)
        clear ht
        obtain ⟨vd, hvd⟩ := HDd.out.ry
        have HRd := Lib.hid hvd
        clear hvd
        refine wpList_run (v := .bool true) (wanted_none rfl) (gx_assign rfl rfl) ?_
        simp only [Act.put, List.setIfInBounds_toArray, List.set_cons_zero, List.set_cons_succ]
        go_upto_region 24 with fail
        refine wp_region_lit ?_
        refine wpList_run (v := .pointer (some ⟨p, 0, none⟩)) (wanted_none rfl) (exec_move rfl rfl) ?_
        simp only [Act.put, List.setIfInBounds_toArray, List.set_cons_zero, List.set_cons_succ]
        refine wpList_run (v := .pointer (some ⟨y, 0, none⟩)) (wanted_none rfl) (exec_move rfl rfl) ?_
        simp only [Act.put, List.setIfInBounds_toArray, List.set_cons_zero, List.set_cons_succ]
        refine wpList_op rfl fun K9 HK9 => ?_
        go_wp2_with fail
        refine (like_walk HDd.out.lx HRd.out).mono ?_
        rintro e we ⟨rfl, ht⟩
        refine HK9.out _ _ ?_
        clear HK9
        try simp only [Act.put, List.setIfInBounds_toArray, List.set_cons_zero, List.set_cons_succ]
        have HDe := Lib.hid (HDd.out.still ht)
        have HTe := Lib.hid (HTd.out.trans ht fun _ _ e => e)
        clear ht
        obtain ⟨ve, hve⟩ := HDe.out.rw_
        have HRe := Lib.hid hve
        clear hve
        refine wpList_run (v := .bool true) (wanted_none rfl) (gx_assign rfl rfl) ?_
        simp only [Act.put, List.setIfInBounds_toArray, List.set_cons_zero, List.set_cons_succ]
        go_upto_region 25 with fail
        refine wp_region_lit ?_
        refine wpList_run (v := .pointer (some ⟨q, 0, none⟩)) (wanted_none rfl) (exec_move rfl rfl) ?_
        simp only [Act.put, List.setIfInBounds_toArray, List.set_cons_zero, List.set_cons_succ]
        refine wpList_run (v := .pointer (some ⟨u, 0, none⟩)) (wanted_none rfl) (exec_move rfl rfl) ?_
        simp only [Act.put, List.setIfInBounds_toArray, List.set_cons_zero, List.set_cons_succ]
        refine wpList_op rfl fun K9 HK9 => ?_
        go_wp2_with fail
        refine (like_walk HDe.out.lz HRe.out).mono ?_
        rintro e wf ⟨rfl, ht⟩
        refine HK9.out _ _ ?_
        clear HK9
        try simp only [Act.put, List.setIfInBounds_toArray, List.set_cons_zero, List.set_cons_succ]
        have HDf := Lib.hid (HDe.out.still ht)
        have HTf := Lib.hid (HTe.out.trans ht fun _ _ e => e)
        clear ht
        refine wpList_run (v := .bool true) (wanted_none rfl) (gx_assign rfl rfl) ?_
        simp only [Act.put, List.setIfInBounds_toArray, List.set_cons_zero, List.set_cons_succ]
        go_upto_region 26 with fail
        refine wp_region_lit ?_
        refine wpList_run (v := .int .i64 E) (wanted_none rfl) (exec_move rfl rfl) ?_
        simp only [Act.put, List.setIfInBounds_toArray, List.set_cons_zero, List.set_cons_succ]
        refine wpList_run (v := .int .i64 E) (wanted_none rfl) (exec_move rfl rfl) ?_
        simp only [Act.put, List.setIfInBounds_toArray, List.set_cons_zero, List.set_cons_succ]
        refine wpList_run (v := .bool false) (wanted_none rfl) (ix_neq rfl rfl rfl (by simp)) ?_
        simp only [Act.put, List.setIfInBounds_toArray, List.set_cons_zero, List.set_cons_succ]
        refine wpList_run (v := .bool false) (wanted_none rfl) (exec_move rfl rfl) ?_
        simp only [Act.put, List.setIfInBounds_toArray, List.set_cons_zero, List.set_cons_succ]
        refine wpList_run (v := .bool true) rfl (exec_move rfl rfl) ?_
        simp only [Act.put, List.setIfInBounds_toArray, List.set_cons_zero, List.set_cons_succ]
        refine wpList_run (v := .bool false) rfl (ix_not (b := true) rfl rfl) ?_
        simp only [Act.put, List.setIfInBounds_toArray, List.set_cons_zero, List.set_cons_succ]
        refine wpList_run (v := .bool false) (wanted_none rfl) (ix_pickF rfl rfl rfl) ?_
        simp only [Act.put, List.setIfInBounds_toArray, List.set_cons_zero, List.set_cons_succ]
        refine wpList_run (v := .bool false) (wanted_none rfl) (exec_move rfl rfl) ?_
        simp only [Act.put, List.setIfInBounds_toArray, List.set_cons_zero, List.set_cons_succ]
        refine wpList_run (v := .bool true) rfl (exec_move rfl rfl) ?_
        simp only [Act.put, List.setIfInBounds_toArray, List.set_cons_zero, List.set_cons_succ]
        refine wpList_run (v := .bool false) rfl (ix_not (b := true) rfl rfl) ?_
        simp only [Act.put, List.setIfInBounds_toArray, List.set_cons_zero, List.set_cons_succ]
        refine wpList_run (v := .bool false) (wanted_none rfl) (ix_pickF rfl rfl rfl) ?_
        simp only [Act.put, List.setIfInBounds_toArray, List.set_cons_zero, List.set_cons_succ]
        refine wpList_run (v := .bool false) (wanted_none rfl) (exec_move rfl rfl) ?_
        simp only [Act.put, List.setIfInBounds_toArray, List.set_cons_zero, List.set_cons_succ]
        refine wpList_run (v := .bool true) rfl (exec_move rfl rfl) ?_
        simp only [Act.put, List.setIfInBounds_toArray, List.set_cons_zero, List.set_cons_succ]
        refine wpList_run (v := .bool false) rfl (ix_not (b := true) rfl rfl) ?_
        simp only [Act.put, List.setIfInBounds_toArray, List.set_cons_zero, List.set_cons_succ]
        refine wpList_run (v := .bool false) (wanted_none rfl) (ix_pickF rfl rfl rfl) ?_
        simp only [Act.put, List.setIfInBounds_toArray, List.set_cons_zero, List.set_cons_succ]
        go_upto_region 14 with fail
        refine wp_region_lit ?_
        refine wpList_run (v := .int .i64 (i : Int)) (wanted_none rfl) (exec_move rfl rfl) ?_
        simp only [Act.put, List.setIfInBounds_toArray, List.set_cons_zero, List.set_cons_succ]
        refine wpList_run (v := .int .i64 ((i + 1 : Nat) : Int)) (wanted_none rfl) (ix_add rfl rfl rfl (by omega) (by omega)) ?_
        simp only [Act.put, List.setIfInBounds_toArray, List.set_cons_zero, List.set_cons_succ]
        refine wpList_run (v := .int .i64 ((i + 1 : Nat) : Int)) (wanted_none rfl) (gx_assign rfl rfl) ?_
        simp only [Act.put, List.setIfInBounds_toArray, List.set_cons_zero, List.set_cons_succ]
        go_wp2_with fail
        go_roundg (n - (i + 1))
        case measure => have := HGK.out; have := HLT.out; omega
        case rel => exact ⟨i + 1, q, u, g, d, rfl, rfl, rfl, by have := HLT.out; omega, HDf.out, HTf.out⟩
      · have HCL := Lib.hid hcl
        clear hcl
        go_upto_region 15 with fail
        refine wp_region_lit ?_
        refine wpList_run (v := .int .i64 (i : Int)) (wanted_none rfl) (exec_move rfl rfl) ?_
        simp only [Act.put, List.setIfInBounds_toArray, List.set_cons_zero, List.set_cons_succ]
        refine wpList_run (v := .int .i64 cl) (wanted_none rfl) (exec_move rfl rfl) ?_
        simp only [Act.put, List.setIfInBounds_toArray, List.set_cons_zero, List.set_cons_succ]
        refine wpList_run (v := .bool false) (wanted_none rfl) (ix_eql rfl rfl rfl (decide_eq_false HCL.out)) ?_
        simp only [Act.put, List.setIfInBounds_toArray, List.set_cons_zero, List.set_cons_succ]
        obtain ⟨w9, hw9⟩ : ∃ z, z = wr := ⟨_, rfl⟩
        rw [← hw9] at HD HTR ⊢
        clear hw9
        have HD9 := Lib.hid HD.out
        have HT9 := Lib.hid HTR.out
        obtain ⟨A5, c5, wa, haa, hoa, hta⟩ := copy_rws elmE (w := w9) (c := v.c) (ty := 35) (HVO.out.at_.still HT9.out).row (fitE_ v.es) HVO.out.nil (by have := HVO.out.room; omega)
        have HAA := Lib.hid haa
        have HOWN := Lib.hid (EntAt.of_orw hoa HVO.out.at_.wf (by have := HVO.out.at_.len; have := HVO.out.room; omega))
        have hna : ∀ g t cs, Blk wa g t cs → t ≠ 57 → ∀ b0 o0 s0, A5 = some ⟨b0, o0, s0⟩ → b0 ≠ g := fun g t cs hb ht b0 o0 s0 h => hoa.ne hb ht b0 (by rw [h]; rfl)
        have HNA := Lib.hid hna
        have HDa := Lib.hid (HD9.out.still hta)
        have HTa := Lib.hid (HT9.out.trans hta fun _ _ e => e)
        have HC9 := Lib.hid ((HT9.out.cell (World.block_lt_of_cell? _ _ HC.out) fun e => e).trans HC.out)
        have HCa := Lib.hid ((HTa.out.cell (World.block_lt_of_cell? _ _ HC.out) fun e => e).trans HC.out)
        clear haa hoa hta hna
        go_upto_region 20 with fail
        refine wp_region_lit ?_
        refine wpList_run (v := .slice (some ⟨w9.heap.size, 0, none⟩) 0 0) (w' := w9.alloc (.cells #[] 57)) (wanted_none rfl) (bx_slice0 rfl (ebuild0 w9)) ?_
        simp only [Act.put, List.setIfInBounds_toArray, List.set_cons_zero, List.set_cons_succ]
        refine wpList_run (v := .slice (some ⟨b1, o1, none⟩) n c) (wanted_none rfl) (exec_move rfl rfl) ?_
        simp only [Act.put, List.setIfInBounds_toArray, List.set_cons_zero, List.set_cons_succ]
        refine wpList_run (v := .int .i64 (i : Int)) (wanted_none rfl) (exec_move rfl rfl) ?_
        simp only [Act.put, List.setIfInBounds_toArray, List.set_cons_zero, List.set_cons_succ]
        refine wpList_run (v := .pointer (some ⟨b1, o1 + i * 1, none⟩)) (wanted_none rfl) (gx_iaddr (i := i) (sz := 1) rfl rfl rfl Try.underlying22 (by kernel_rfl) HLT.out rfl) ?_
        simp only [Act.put, List.setIfInBounds_toArray, List.set_cons_zero, List.set_cons_succ]
        refine wpList_run (v := .slice v.A v.n v.c) (wanted_none rfl) (exec_load1 rfl rfl (by kernel_rfl) (show (w9.alloc (.cells #[] 57)).cell? _ = _ from (((Turn.refl nowhere w9).alloc _).cell (World.block_lt_of_cell? _ _ HC9.out) fun e => e).trans HC9.out)) ?_
        simp only [Act.put, List.setIfInBounds_toArray, List.set_cons_zero, List.set_cons_succ]
        refine wpList_run (v := .slice A5 v.n c5) (w' := wa) (wanted_none rfl) (exec_append rfl rfl rfl HAA.out) ?_
        simp only [Act.put, List.setIfInBounds_toArray, List.set_cons_zero, List.set_cons_succ]
        refine wpList_run (v := .slice A5 v.n c5) (wanted_none rfl) (gx_assign rfl rfl) ?_
        simp only [Act.put, List.setIfInBounds_toArray, List.set_cons_zero, List.set_cons_succ]
        go_upto_region 21 with fail
        refine wp_region_lit ?_
        refine wpList_run (v := .pointer (some ⟨p, 0, none⟩)) (wanted_none rfl) (exec_move rfl rfl) ?_
        simp only [Act.put, List.setIfInBounds_toArray, List.set_cons_zero, List.set_cons_succ]
        refine wpList_run (v := .slice A5 v.n c5) (wanted_none rfl) (exec_move rfl rfl) ?_
        simp only [Act.put, List.setIfInBounds_toArray, List.set_cons_zero, List.set_cons_succ]
        refine wpList_op rfl fun K9 HK9 => ?_
        go_wp2_with fail
        refine (Post_walk HDa.out.lx HOWN.out (by have := HV20.out; omega)).mono ?_
        rintro e wb ⟨rfl, hp, ht⟩
        refine HK9.out _ _ ?_
        clear HK9
        try simp only [Act.put, List.setIfInBounds_toArray, List.set_cons_zero, List.set_cons_succ]
        obtain ⟨E, hE⟩ : ∃ x, x = Lg.postE N b v.es := ⟨_, rfl⟩
        obtain ⟨g, hg⟩ : ∃ x, x = Lg.postB N b v.es := ⟨_, rfl⟩
        rw [← hE]
        rw [← hg] at hp
        have HE := Lib.hid hE
        have HG := Lib.hid hg
        have HPb := Lib.hid hp
        have HTb1 := Lib.hid ht
        have HTb := Lib.hid (HTa.out.newer HPL.out ht)
        have HOb := Lib.hid (HOWN.out.turn ht fun b0 o0 s0 h _ _ e => HNA.out p _ _ HDa.out.lx.blk (by decide) b0 o0 s0 h e)
        obtain ⟨vy, hvy⟩ := duoY HDa.out ht
        have HYb := Lib.hid hvy
        have HCb := Lib.hid ((HTb.out.cell (World.block_lt_of_cell? _ _ HC.out) fun e => e).trans HC.out)
        have hyne : ∀ b0 o0 s0, A5 = some ⟨b0, o0, s0⟩ → b0 ≠ y := fun b0 o0 s0 h => by
          obtain ⟨vq, hvq⟩ := HDa.out.ry
          exact HNA.out y _ _ hvq.blk (by decide) b0 o0 s0 h
        have HYNE := Lib.hid hyne
        clear hE hg hp ht hvy hyne
        refine wpList_run (v := .int .i64 E) (wanted_none rfl) (gx_assign rfl rfl) ?_
        simp only [Act.put, List.setIfInBounds_toArray, List.set_cons_zero, List.set_cons_succ]
        go_upto_region 22 with fail
        refine wp_region_lit ?_
        refine wpList_run (v := .pointer (some ⟨y, 0, none⟩)) (wanted_none rfl) (exec_move rfl rfl) ?_
        simp only [Act.put, List.setIfInBounds_toArray, List.set_cons_zero, List.set_cons_succ]
        refine wpList_run (v := .slice (some ⟨b1, o1, none⟩) n c) (wanted_none rfl) (exec_move rfl rfl) ?_
        simp only [Act.put, List.setIfInBounds_toArray, List.set_cons_zero, List.set_cons_succ]
        refine wpList_run (v := .int .i64 (i : Int)) (wanted_none rfl) (exec_move rfl rfl) ?_
        simp only [Act.put, List.setIfInBounds_toArray, List.set_cons_zero, List.set_cons_succ]
        refine wpList_run (v := .pointer (some ⟨b1, o1 + i * 1, none⟩)) (wanted_none rfl) (gx_iaddr (i := i) (sz := 1) rfl rfl rfl Try.underlying22 (by kernel_rfl) HLT.out rfl) ?_
        simp only [Act.put, List.setIfInBounds_toArray, List.set_cons_zero, List.set_cons_succ]
        refine wpList_run (v := .slice v.A v.n v.c) (wanted_none rfl) (exec_load1 rfl rfl (by kernel_rfl) HCb.out) ?_
        simp only [Act.put, List.setIfInBounds_toArray, List.set_cons_zero, List.set_cons_succ]
        refine wpList_op rfl fun K9 HK9 => ?_
        go_wp2_with fail
        refine (rPost_walk HYb.out (HVO.out.at_.still HTb.out) HV20.out).mono ?_
        rintro e wc ⟨rfl, hy, ht⟩
        refine HK9.out _ _ ?_
        clear HK9
        try simp only [Act.put, List.setIfInBounds_toArray, List.set_cons_zero, List.set_cons_succ]
        rw [← HE.out]
        rw [← HG.out] at hy
        have HDc := Lib.hid (HDa.out.both HTb1.out HPb.out ht hy)
        have HTc := Lib.hid (HTb.out.newer HYL.out ht)
        have HOc := Lib.hid (HOb.out.turn ht fun b0 o0 s0 h _ _ e => HYNE.out b0 o0 s0 h e)
        have HCc := Lib.hid ((HTc.out.cell (World.block_lt_of_cell? _ _ HC.out) fun e => e).trans HC.out)
        clear hy ht HOb HPb HYb
        refine wpList_run (v := .int .i64 E) (wanted_none rfl) (gx_assign rfl rfl) ?_
        simp only [Act.put, List.setIfInBounds_toArray, List.set_cons_zero, List.set_cons_succ]
        go_upto_region 23 with fail
        refine wp_region_lit ?_
        refine wpList_run (v := .slice A5 v.n c5) (wanted_none rfl) (exec_move rfl rfl) ?_
        simp only [Act.put, List.setIfInBounds_toArray, List.set_cons_zero, List.set_cons_succ]
        refine wpList_run (v := .slice (some ⟨b1, o1, none⟩) n c) (wanted_none rfl) (exec_move rfl rfl) ?_
        simp only [Act.put, List.setIfInBounds_toArray, List.set_cons_zero, List.set_cons_succ]
        refine wpList_run (v := .int .i64 (i : Int)) (wanted_none rfl) (exec_move rfl rfl) ?_
        simp only [Act.put, List.setIfInBounds_toArray, List.set_cons_zero, List.set_cons_succ]
        refine wpList_run (v := .pointer (some ⟨b1, o1 + i * 1, none⟩)) (wanted_none rfl) (gx_iaddr (i := i) (sz := 1) rfl rfl rfl Try.underlying22 (by kernel_rfl) HLT.out rfl) ?_
        simp only [Act.put, List.setIfInBounds_toArray, List.set_cons_zero, List.set_cons_succ]
        refine wpList_run (v := .slice v.A v.n v.c) (wanted_none rfl) (exec_load1 rfl rfl (by kernel_rfl) HCc.out) ?_
        simp only [Act.put, List.setIfInBounds_toArray, List.set_cons_zero, List.set_cons_succ]
        refine wpList_op rfl fun K9 HK9 => ?_
        go_wp2_with fail
        refine (same_walk HOc.out (HVO.out.at_.still HTc.out)).mono ?_
        rintro e wd ⟨rfl, ht⟩
        refine HK9.out _ _ ?_
        clear HK9
        try simp only [Act.put, List.setIfInBounds_toArray, List.set_cons_zero, List.set_cons_succ]
        have HDd := Lib.hid (HDc.out.still ht)
        have HTd := Lib.hid (HTc.out.trans ht fun _ _ e => e)
        clear ht
        obtain ⟨vd, hvd⟩ := HDd.out.ry
        have HRd := Lib.hid hvd
        clear hvd
        refine wpList_run (v := .bool true) (wanted_none rfl) (gx_assign rfl rfl) ?_
        simp only [Act.put, List.setIfInBounds_toArray, List.set_cons_zero, List.set_cons_succ]
        go_upto_region 24 with fail
        refine wp_region_lit ?_
        refine wpList_run (v := .pointer (some ⟨p, 0, none⟩)) (wanted_none rfl) (exec_move rfl rfl) ?_
        simp only [Act.put, List.setIfInBounds_toArray, List.set_cons_zero, List.set_cons_succ]
        refine wpList_run (v := .pointer (some ⟨y, 0, none⟩)) (wanted_none rfl) (exec_move rfl rfl) ?_
        simp only [Act.put, List.setIfInBounds_toArray, List.set_cons_zero, List.set_cons_succ]
        refine wpList_op rfl fun K9 HK9 => ?_
        go_wp2_with fail
        refine (like_walk HDd.out.lx HRd.out).mono ?_
        rintro e we ⟨rfl, ht⟩
        refine HK9.out _ _ ?_
        clear HK9
        try simp only [Act.put, List.setIfInBounds_toArray, List.set_cons_zero, List.set_cons_succ]
        have HDe := Lib.hid (HDd.out.still ht)
        have HTe := Lib.hid (HTd.out.trans ht fun _ _ e => e)
        clear ht
        obtain ⟨ve, hve⟩ := HDe.out.rw_
        have HRe := Lib.hid hve
        clear hve
        refine wpList_run (v := .bool true) (wanted_none rfl) (gx_assign rfl rfl) ?_
        simp only [Act.put, List.setIfInBounds_toArray, List.set_cons_zero, List.set_cons_succ]
        go_upto_region 25 with fail
        refine wp_region_lit ?_
        refine wpList_run (v := .pointer (some ⟨q, 0, none⟩)) (wanted_none rfl) (exec_move rfl rfl) ?_
        simp only [Act.put, List.setIfInBounds_toArray, List.set_cons_zero, List.set_cons_succ]
        refine wpList_run (v := .pointer (some ⟨u, 0, none⟩)) (wanted_none rfl) (exec_move rfl rfl) ?_
        simp only [Act.put, List.setIfInBounds_toArray, List.set_cons_zero, List.set_cons_succ]
        refine wpList_op rfl fun K9 HK9 => ?_
        go_wp2_with fail
        refine (like_walk HDe.out.lz HRe.out).mono ?_
        rintro e wf ⟨rfl, ht⟩
        refine HK9.out _ _ ?_
        clear HK9
        try simp only [Act.put, List.setIfInBounds_toArray, List.set_cons_zero, List.set_cons_succ]
        have HDf := Lib.hid (HDe.out.still ht)
        have HTf := Lib.hid (HTe.out.trans ht fun _ _ e => e)
        clear ht
        refine wpList_run (v := .bool true) (wanted_none rfl) (gx_assign rfl rfl) ?_
        simp only [Act.put, List.setIfInBounds_toArray, List.set_cons_zero, List.set_cons_succ]
        go_upto_region 26 with fail
        refine wp_region_lit ?_
        refine wpList_run (v := .int .i64 E) (wanted_none rfl) (exec_move rfl rfl) ?_
        simp only [Act.put, List.setIfInBounds_toArray, List.set_cons_zero, List.set_cons_succ]
        refine wpList_run (v := .int .i64 E) (wanted_none rfl) (exec_move rfl rfl) ?_
        simp only [Act.put, List.setIfInBounds_toArray, List.set_cons_zero, List.set_cons_succ]
        refine wpList_run (v := .bool false) (wanted_none rfl) (ix_neq rfl rfl rfl (by simp)) ?_
        simp only [Act.put, List.setIfInBounds_toArray, List.set_cons_zero, List.set_cons_succ]
        refine wpList_run (v := .bool false) (wanted_none rfl) (exec_move rfl rfl) ?_
        simp only [Act.put, List.setIfInBounds_toArray, List.set_cons_zero, List.set_cons_succ]
        refine wpList_run (v := .bool true) rfl (exec_move rfl rfl) ?_
        simp only [Act.put, List.setIfInBounds_toArray, List.set_cons_zero, List.set_cons_succ]
        refine wpList_run (v := .bool false) rfl (ix_not (b := true) rfl rfl) ?_
        simp only [Act.put, List.setIfInBounds_toArray, List.set_cons_zero, List.set_cons_succ]
        refine wpList_run (v := .bool false) (wanted_none rfl) (ix_pickF rfl rfl rfl) ?_
        simp only [Act.put, List.setIfInBounds_toArray, List.set_cons_zero, List.set_cons_succ]
        refine wpList_run (v := .bool false) (wanted_none rfl) (exec_move rfl rfl) ?_
        simp only [Act.put, List.setIfInBounds_toArray, List.set_cons_zero, List.set_cons_succ]
        refine wpList_run (v := .bool true) rfl (exec_move rfl rfl) ?_
        simp only [Act.put, List.setIfInBounds_toArray, List.set_cons_zero, List.set_cons_succ]
        refine wpList_run (v := .bool false) rfl (ix_not (b := true) rfl rfl) ?_
        simp only [Act.put, List.setIfInBounds_toArray, List.set_cons_zero, List.set_cons_succ]
        refine wpList_run (v := .bool false) (wanted_none rfl) (ix_pickF rfl rfl rfl) ?_
        simp only [Act.put, List.setIfInBounds_toArray, List.set_cons_zero, List.set_cons_succ]
        refine wpList_run (v := .bool false) (wanted_none rfl) (exec_move rfl rfl) ?_
        simp only [Act.put, List.setIfInBounds_toArray, List.set_cons_zero, List.set_cons_succ]
        refine wpList_run (v := .bool true) rfl (exec_move rfl rfl) ?_
        simp only [Act.put, List.setIfInBounds_toArray, List.set_cons_zero, List.set_cons_succ]
        refine wpList_run (v := .bool false) rfl (ix_not (b := true) rfl rfl) ?_
        simp only [Act.put, List.setIfInBounds_toArray, List.set_cons_zero, List.set_cons_succ]
        refine wpList_run (v := .bool false) (wanted_none rfl) (ix_pickF rfl rfl rfl) ?_
        simp only [Act.put, List.setIfInBounds_toArray, List.set_cons_zero, List.set_cons_succ]
        go_upto_region 14 with fail
        refine wp_region_lit ?_
        refine wpList_run (v := .int .i64 (i : Int)) (wanted_none rfl) (exec_move rfl rfl) ?_
        simp only [Act.put, List.setIfInBounds_toArray, List.set_cons_zero, List.set_cons_succ]
        refine wpList_run (v := .int .i64 ((i + 1 : Nat) : Int)) (wanted_none rfl) (ix_add rfl rfl rfl (by omega) (by omega)) ?_
        simp only [Act.put, List.setIfInBounds_toArray, List.set_cons_zero, List.set_cons_succ]
        refine wpList_run (v := .int .i64 ((i + 1 : Nat) : Int)) (wanted_none rfl) (gx_assign rfl rfl) ?_
        simp only [Act.put, List.setIfInBounds_toArray, List.set_cons_zero, List.set_cons_succ]
        go_wp2_with fail
        go_roundg (n - (i + 1))
        case measure => have := HGK.out; have := HLT.out; omega
        case rel => exact ⟨i + 1, q, u, g, d, rfl, rfl, rfl, by have := HLT.out; omega, HDf.out, HTf.out⟩
    · have y3 : ¬ (i : Int) < (n : Int) := by omega
      clear hlt
      go_upto_region 13 with fail
      first
      | (rename_i K9 hK9; have HKC := Lib.hid hK9; clear hK9)
      | (rename_i K9 hK9 K8; have HKC := Lib.hid hK9; clear hK9)
      refine wp_region_lit ?_
      refine wpList_run (v := .int .i64 (i : Int)) (wanted_none rfl) (exec_move rfl rfl) ?_
      simp only [Act.put, List.setIfInBounds_toArray, List.set_cons_zero, List.set_cons_succ]
      refine wpList_run (v := .slice A n c) (wanted_none rfl) (exec_move rfl rfl) ?_
      simp only [Act.put, List.setIfInBounds_toArray, List.set_cons_zero, List.set_cons_succ]
      refine wpList_run (v := .int .i64 (n : Int)) (wanted_none rfl) (gx_len rfl rfl Try.underlying22) ?_
      simp only [Act.put, List.setIfInBounds_toArray, List.set_cons_zero, List.set_cons_succ]
      refine wpList_run (v := .bool false) (wanted_none rfl) (ix_lss rfl rfl rfl (decide_eq_false (by omega))) ?_
      simp only [Act.put, List.setIfInBounds_toArray, List.set_cons_zero, List.set_cons_succ]
      refine wpList_run (v := .bool false) (wanted_none rfl) (exec_move rfl rfl) ?_
      simp only [Act.put, List.setIfInBounds_toArray, List.set_cons_zero, List.set_cons_succ]
      go_wp2_with fail
      refine HKC.out _ _ ?_
      clear HKC
      go_upto_region 28 with fail
      refine wp_region_lit ?_
      refine wpList_run (v := .bool true) (wanted_none rfl) (gx_assign rfl rfl) ?_
      simp only [Act.put, List.setIfInBounds_toArray, List.set_cons_zero, List.set_cons_succ]
      go_wp2_with fail
      go_ret
      exact ⟨rfl, HTR.out⟩
    · have y3 : (i : Int) < (n : Int) := by omega
      have y4 : 60 ≤ (i : Int) := by omega
      clear hlt
      go_upto_region 13 with fail
      refine wp_region_lit ?_
      refine wpList_run (v := .int .i64 (i : Int)) (wanted_none rfl) (exec_move rfl rfl) ?_
      simp only [Act.put, List.setIfInBounds_toArray, List.set_cons_zero, List.set_cons_succ]
      refine wpList_run (v := .slice A n c) (wanted_none rfl) (exec_move rfl rfl) ?_
      simp only [Act.put, List.setIfInBounds_toArray, List.set_cons_zero, List.set_cons_succ]
      refine wpList_run (v := .int .i64 (n : Int)) (wanted_none rfl) (gx_len rfl rfl Try.underlying22) ?_
      simp only [Act.put, List.setIfInBounds_toArray, List.set_cons_zero, List.set_cons_succ]
      refine wpList_run (v := .bool true) (wanted_none rfl) (ix_lss rfl rfl rfl (decide_eq_true y3)) ?_
      simp only [Act.put, List.setIfInBounds_toArray, List.set_cons_zero, List.set_cons_succ]
      refine wpList_run (v := .bool true) (wanted_none rfl) (exec_move rfl rfl) ?_
      simp only [Act.put, List.setIfInBounds_toArray, List.set_cons_zero, List.set_cons_succ]
      refine wpList_run (v := .int .i64 (i : Int)) rfl (exec_move rfl rfl) ?_
      simp only [Act.put, List.setIfInBounds_toArray, List.set_cons_zero, List.set_cons_succ]
      refine wpList_run (v := .bool false) rfl (ix_lss rfl rfl rfl (decide_eq_false (by omega))) ?_
      simp only [Act.put, List.setIfInBounds_toArray, List.set_cons_zero, List.set_cons_succ]
      refine wpList_run (v := .bool false) (wanted_none rfl) (ix_pickT rfl rfl rfl) ?_
      simp only [Act.put, List.setIfInBounds_toArray, List.set_cons_zero, List.set_cons_succ]
      go_upto_region 28 with fail
      refine wp_region_lit ?_
      refine wpList_run (v := .bool true) (wanted_none rfl) (gx_assign rfl rfl) ?_
      simp only [Act.put, List.setIfInBounds_toArray, List.set_cons_zero, List.set_cons_succ]
      go_wp2_with fail
      go_ret
      exact ⟨rfl, HTR.out⟩
  · have H7 := Lib.hid h7
    clear h7
    go_upto_region 2 with fail
    refine wp_region_lit ?_
    refine wpList_run (v := .int .i64 ac) (wanted_none rfl) (exec_move rfl rfl) ?_
    simp only [Act.put, List.setIfInBounds_toArray, List.set_cons_zero, List.set_cons_succ]
    refine wpList_op rfl fun K9 HK9 => ?_
    go_wp2_with fail
    refine (New_bad H7.out).mono ?_
    rintro e w2 ⟨rfl, ht⟩
    refine HK9.out _ _ ?_
    clear HK9
    try simp only [Act.put, List.setIfInBounds_toArray, List.set_cons_zero, List.set_cons_succ]
    have HT2 := Lib.hid (HT1.out.trans ht fun _ _ e => e)
    clear ht
    refine wpList_run (v := .tuple #[.pointer none, .int .i64 1]) (wanted_none rfl) (exec_move rfl rfl) ?_
    simp only [Act.put, List.setIfInBounds_toArray, List.set_cons_zero, List.set_cons_succ]
    refine wpList_run (v := .pointer none) (wanted_none rfl) (ix_extract rfl rfl rfl) ?_
    simp only [Act.put, List.setIfInBounds_toArray, List.set_cons_zero, List.set_cons_succ]
    refine wpList_run (v := .int .i64 1) (wanted_none rfl) (ix_extract rfl rfl rfl) ?_
    simp only [Act.put, List.setIfInBounds_toArray, List.set_cons_zero, List.set_cons_succ]
    refine wpList_run (v := .pointer none) (wanted_none rfl) (gx_assign rfl rfl) ?_
    simp only [Act.put, List.setIfInBounds_toArray, List.set_cons_zero, List.set_cons_succ]
    refine wpList_run (v := .int .i64 1) (wanted_none rfl) (gx_assign rfl rfl) ?_
    simp only [Act.put, List.setIfInBounds_toArray, List.set_cons_zero, List.set_cons_succ]
    go_upto_region 3 with fail
    refine wp_region_lit ?_
    refine wpList_run (v := .int .i64 ac) (wanted_none rfl) (exec_move rfl rfl) ?_
    simp only [Act.put, List.setIfInBounds_toArray, List.set_cons_zero, List.set_cons_succ]
    refine wpList_op rfl fun K9 HK9 => ?_
    go_wp2_with fail
    refine (rNew_bad H7.out).mono ?_
    rintro e w3 ⟨rfl, ht⟩
    refine HK9.out _ _ ?_
    clear HK9
    try simp only [Act.put, List.setIfInBounds_toArray, List.set_cons_zero, List.set_cons_succ]
    have HT3 := Lib.hid (HT2.out.trans ht fun _ _ e => e)
    clear ht
    refine wpList_run (v := .tuple #[.pointer none, .int .i64 1]) (wanted_none rfl) (exec_move rfl rfl) ?_
    simp only [Act.put, List.setIfInBounds_toArray, List.set_cons_zero, List.set_cons_succ]
    refine wpList_run (v := .pointer none) (wanted_none rfl) (ix_extract rfl rfl rfl) ?_
    simp only [Act.put, List.setIfInBounds_toArray, List.set_cons_zero, List.set_cons_succ]
    refine wpList_run (v := .int .i64 1) (wanted_none rfl) (ix_extract rfl rfl rfl) ?_
    simp only [Act.put, List.setIfInBounds_toArray, List.set_cons_zero, List.set_cons_succ]
    refine wpList_run (v := .pointer none) (wanted_none rfl) (gx_assign rfl rfl) ?_
    simp only [Act.put, List.setIfInBounds_toArray, List.set_cons_zero, List.set_cons_succ]
    refine wpList_run (v := .int .i64 1) (wanted_none rfl) (gx_assign rfl rfl) ?_
    simp only [Act.put, List.setIfInBounds_toArray, List.set_cons_zero, List.set_cons_succ]
    go_upto_region 4 with fail
    refine wp_region_lit ?_
    refine wpList_run (v := .bool true) (wanted_none rfl) (exec_move rfl rfl) ?_
    simp only [Act.put, List.setIfInBounds_toArray, List.set_cons_zero, List.set_cons_succ]
    refine wpList_run (v := .bool false) (wanted_none rfl) (ix_not (b := true) rfl rfl) ?_
    simp only [Act.put, List.setIfInBounds_toArray, List.set_cons_zero, List.set_cons_succ]
    refine wpList_run (v := .bool false) (wanted_none rfl) (exec_move rfl rfl) ?_
    simp only [Act.put, List.setIfInBounds_toArray, List.set_cons_zero, List.set_cons_succ]
    refine wpList_run (v := .int .i64 1) rfl (exec_move rfl rfl) ?_
    simp only [Act.put, List.setIfInBounds_toArray, List.set_cons_zero, List.set_cons_succ]
    refine wpList_run (v := .int .i64 1) rfl (exec_move rfl rfl) ?_
    simp only [Act.put, List.setIfInBounds_toArray, List.set_cons_zero, List.set_cons_succ]
    refine wpList_run (v := .bool false) rfl (ix_neq rfl rfl rfl (by decide)) ?_
    simp only [Act.put, List.setIfInBounds_toArray, List.set_cons_zero, List.set_cons_succ]
    refine wpList_run (v := .bool false) (wanted_none rfl) (ix_pickF rfl rfl rfl) ?_
    simp only [Act.put, List.setIfInBounds_toArray, List.set_cons_zero, List.set_cons_succ]
    refine wpList_run (v := .bool false) (wanted_none rfl) (exec_move rfl rfl) ?_
    simp only [Act.put, List.setIfInBounds_toArray, List.set_cons_zero, List.set_cons_succ]
    refine wpList_run (v := .pointer none) rfl (exec_move rfl rfl) ?_
    simp only [Act.put, List.setIfInBounds_toArray, List.set_cons_zero, List.set_cons_succ]
    refine wpList_run (v := .bool true) rfl (ptr_eqt (by decide) rfl rfl rfl) ?_
    simp only [Act.put, List.setIfInBounds_toArray, List.set_cons_zero, List.set_cons_succ]
    refine wpList_run (v := .pointer none) rfl (exec_move rfl rfl) ?_
    simp only [Act.put, List.setIfInBounds_toArray, List.set_cons_zero, List.set_cons_succ]
    refine wpList_run (v := .bool true) rfl (ptr_eqt (by decide) rfl rfl rfl) ?_
    simp only [Act.put, List.setIfInBounds_toArray, List.set_cons_zero, List.set_cons_succ]
    refine wpList_run (v := .bool false) rfl (bx_neb rfl rfl rfl rfl rfl) ?_
    simp only [Act.put, List.setIfInBounds_toArray, List.set_cons_zero, List.set_cons_succ]
    refine wpList_run (v := .bool false) (wanted_none rfl) (ix_pickF rfl rfl rfl) ?_
    simp only [Act.put, List.setIfInBounds_toArray, List.set_cons_zero, List.set_cons_succ]
    go_upto_region 6 with fail
    refine wp_region_lit ?_
    refine wpList_run (v := .pointer none) (wanted_none rfl) (exec_move rfl rfl) ?_
    simp only [Act.put, List.setIfInBounds_toArray, List.set_cons_zero, List.set_cons_succ]
    refine wpList_run (v := .bool true) (wanted_none rfl) (ptr_eqt (by decide) rfl rfl rfl) ?_
    simp only [Act.put, List.setIfInBounds_toArray, List.set_cons_zero, List.set_cons_succ]
    go_upto_region 7 with fail
    refine wp_region_lit ?_
    refine wpList_run (v := .bool true) (wanted_none rfl) (gx_assign rfl rfl) ?_
    simp only [Act.put, List.setIfInBounds_toArray, List.set_cons_zero, List.set_cons_succ]
    go_wp2_with fail
    go_ret
    exact ⟨rfl, HT3.out⟩
end Go.Proofs.Ythoefjaapjaeeaa
