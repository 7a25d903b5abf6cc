/-
  saf's reference: New, Stop, Clone, Names, Again, Send, Done: the walks. No conditions.
-/
import Derived.Test.YtkcedcllefcboaaSfF
namespace Go.Proofs.Ytkcedcllefcboaa
open Go.RowKit
set_option linter.unusedVariables false
set_option linter.unusedSimpArgs false
set_option maxRecDepth 20000
theorem rbuild_q1 (m : Nat) (W : World) : (Instr.build 59 #[(0, .int .i64 (m : Int))]).run Try.prog W = .ok (.agg #[.int .i64 (m : Int), .slice none 0 0, .bool false]) W := by kernel_rfl
theorem rbuild_q3 (m : Nat) (A : Option Addr) (n c : Nat) (s : Bool) (W : World) : (Instr.build 59 #[(0, .int .i64 (m : Int)), (1, .slice A n c), (2, .bool s)]).run Try.prog W = .ok (.agg #[.int .i64 (m : Int), .slice A n c, .bool s]) W := by kernel_rfl
theorem rbox_q (m : Nat) (A : Option Addr) (n c : Nat) (s : Bool) (w : World) : (Instr.box 59 (.agg #[.int .i64 (m : Int), .slice A n c, .bool s])).run Try.prog w = .ok (.pointer (some ⟨w.heap.size, 0, none⟩)) (w.alloc (.cells #[.int .i64 (m : Int), .slice A n c, .bool s] 59)) := by kernel_rfl
theorem size_ra : (Try.prog.info? 66).map (·.size) = some 3 := by kernel_rfl
theorem build0_ra (W : World) : (Instr.buildSlice 57 0 #[]).run Try.prog W = .ok (.slice (some ⟨W.heap.size, 0, none⟩) 0 0) (W.alloc (.cells #[] 66)) := by kernel_rfl
theorem RQue.off {w : World} {Z : Nat → Prop} {y m : Nat} {l : List Adv} {s : Bool} (q : RQue w Z y m l s) : ∀ k t cur, Blk w k t cur → t ≠ 59 → ¬ only y k := fun k t cur hk ht e => by
  obtain ⟨cs, hc⟩ := q.box
  have e : k = y := e
  subst e
  exact hk.ne_ hc ht rfl
theorem RQue.sets {w w' : World} {Z : Nat → Prop} {y m : Nat} {l : List Adv} {s s' : Bool} {A : Option Addr} {n c : Nat} (q : RQue w Z y m l s) (hb : Blk w y 59 #[.int .i64 (m : Int), .slice A n c, .bool s]) (hb' : Blk w' y 59 #[.int .i64 (m : Int), .slice A n c, .bool s']) (ht : Turn (only y) w w') (hs : s' = true → l ≠ []) : RQue w' Z y m l s' := by
  have hoff := q.off
  obtain ⟨⟨A', c', xs, h1, h2, h4, h5⟩, h6, h7, h8⟩ := q
  have e := h1.inj hb
  simp only [Array.mk.injEq, List.cons.injEq, Value.slice.injEq, and_true, true_and] at e
  obtain ⟨rfl, rfl, rfl⟩ := e
  refine ⟨⟨A', c', xs, hb', h2.turn ht fun b hb2 e => ?_, h4, fun x hx => (h5 x hx).turn ht fun k cur hk _ e => hoff k _ cur hk (by decide) e⟩, h6, h7, hs⟩
  obtain ⟨cur, hc⟩ := Orw.own_blk h2 hb2
  exact hoff b _ cur hc (by decide) e
set_option maxRecDepth 20000 in
set_option maxHeartbeats 2000000 in
theorem rNew_bad {x : Int} (h : ¬ okN x) (w : World) : Calls Try.prog 8 #[.int .i64 x] w fun e w' => e = .returned (.tuple #[.pointer none, .int .i64 1]) ∧ w' = w := by
  unfold okN at h
  go_enter Try.func8, Try.ntmps8
  go_upto_region 0 with fail
  refine wp_region_lit ?_
  refine wpList_run (v := .pointer none) (wanted_none rfl) (gx_assign rfl rfl) ?_
  simp only [Act.put, List.setIfInBounds_toArray, List.set_cons_zero, List.set_cons_succ]
  refine wpList_run (v := .int .i64 0) (wanted_none rfl) (gx_assign rfl rfl) ?_
  simp only [Act.put, List.setIfInBounds_toArray, List.set_cons_zero, List.set_cons_succ]
  by_cases h0 : x < 1
  · go_upto_region 1 with fail
    refine wp_region_lit ?_
    refine wpList_run (v := .int .i64 x) (wanted_none rfl) (exec_move rfl rfl) ?_
    simp only [Act.put, List.setIfInBounds_toArray, List.set_cons_zero, List.set_cons_succ]
    refine wpList_run (v := .bool true) (wanted_none rfl) (ix_lss rfl rfl rfl (decide_eq_true h0)) ?_
    simp only [Act.put, List.setIfInBounds_toArray, List.set_cons_zero, List.set_cons_succ]
    refine wpList_run (v := .bool true) (wanted_none rfl) (exec_move rfl rfl) ?_
    simp only [Act.put, List.setIfInBounds_toArray, List.set_cons_zero, List.set_cons_succ]
    refine wpList_skip (by go_simp) ?_
    simp only [Act.put, List.setIfInBounds_toArray, List.set_cons_zero, List.set_cons_succ]
    refine wpList_skip (by go_simp) ?_
    simp only [Act.put, List.setIfInBounds_toArray, List.set_cons_zero, List.set_cons_succ]
    refine wpList_run (v := .bool true) (wanted_none rfl) (ix_pickT rfl rfl rfl) ?_
    simp only [Act.put, List.setIfInBounds_toArray, List.set_cons_zero, List.set_cons_succ]
    go_upto_region 2 with fail
    refine wp_region_lit ?_
    refine wpList_run (v := .pointer none) (wanted_none rfl) (gx_assign rfl rfl) ?_
    simp only [Act.put, List.setIfInBounds_toArray, List.set_cons_zero, List.set_cons_succ]
    refine wpList_run (v := .int .i64 1) (wanted_none rfl) (gx_assign rfl rfl) ?_
    simp only [Act.put, List.setIfInBounds_toArray, List.set_cons_zero, List.set_cons_succ]
    go_wp2_with fail
    go_ret2
    exact ⟨rfl, rfl⟩
  · go_upto_region 1 with fail
    refine wp_region_lit ?_
    refine wpList_run (v := .int .i64 x) (wanted_none rfl) (exec_move rfl rfl) ?_
    simp only [Act.put, List.setIfInBounds_toArray, List.set_cons_zero, List.set_cons_succ]
    refine wpList_run (v := .bool false) (wanted_none rfl) (ix_lss rfl rfl rfl (decide_eq_false h0)) ?_
    simp only [Act.put, List.setIfInBounds_toArray, List.set_cons_zero, List.set_cons_succ]
    refine wpList_run (v := .bool false) (wanted_none rfl) (exec_move rfl rfl) ?_
    simp only [Act.put, List.setIfInBounds_toArray, List.set_cons_zero, List.set_cons_succ]
    refine wpList_run (v := .int .i64 x) rfl (exec_move rfl rfl) ?_
    simp only [Act.put, List.setIfInBounds_toArray, List.set_cons_zero, List.set_cons_succ]
    refine wpList_run (v := .bool true) rfl (ix_gtr rfl rfl rfl (decide_eq_true (by omega))) ?_
    simp only [Act.put, List.setIfInBounds_toArray, List.set_cons_zero, List.set_cons_succ]
    refine wpList_run (v := .bool true) (wanted_none rfl) (ix_pickF rfl rfl rfl) ?_
    simp only [Act.put, List.setIfInBounds_toArray, List.set_cons_zero, List.set_cons_succ]
    go_upto_region 2 with fail
    refine wp_region_lit ?_
    refine wpList_run (v := .pointer none) (wanted_none rfl) (gx_assign rfl rfl) ?_
    simp only [Act.put, List.setIfInBounds_toArray, List.set_cons_zero, List.set_cons_succ]
    refine wpList_run (v := .int .i64 1) (wanted_none rfl) (gx_assign rfl rfl) ?_
    simp only [Act.put, List.setIfInBounds_toArray, List.set_cons_zero, List.set_cons_succ]
    go_wp2_with fail
    go_ret2
    exact ⟨rfl, rfl⟩
set_option maxRecDepth 20000 in
set_option maxHeartbeats 2000000 in
theorem rNew_ok {m : Nat} (h : 1 ≤ m ∧ m ≤ 16) (w : World) : Calls Try.prog 8 #[.int .i64 (m : Int)] w fun e w' => ∃ y : Nat, e = .returned (.tuple #[.pointer (some ⟨y, 0, none⟩), .int .i64 0]) ∧ w.heap.size ≤ y ∧ (∀ Z, RQue w' Z y m [] false) ∧ Turn nowhere w w' := by
  have HM := Lib.hid h
  go_enter Try.func8, Try.ntmps8
  go_upto_region 0 with fail
  refine wp_region_lit ?_
  refine wpList_run (v := .pointer none) (wanted_none rfl) (gx_assign rfl rfl) ?_
  simp only [Act.put, List.setIfInBounds_toArray, List.set_cons_zero, List.set_cons_succ]
  refine wpList_run (v := .int .i64 0) (wanted_none rfl) (gx_assign rfl rfl) ?_
  simp only [Act.put, List.setIfInBounds_toArray, List.set_cons_zero, List.set_cons_succ]
  go_upto_region 1 with fail
  refine wp_region_lit ?_
  refine wpList_run (v := .int .i64 (m : Int)) (wanted_none rfl) (exec_move rfl rfl) ?_
  simp only [Act.put, List.setIfInBounds_toArray, List.set_cons_zero, List.set_cons_succ]
  refine wpList_run (v := .bool false) (wanted_none rfl) (ix_lss rfl rfl rfl (decide_eq_false (by omega))) ?_
  simp only [Act.put, List.setIfInBounds_toArray, List.set_cons_zero, List.set_cons_succ]
  refine wpList_run (v := .bool false) (wanted_none rfl) (exec_move rfl rfl) ?_
  simp only [Act.put, List.setIfInBounds_toArray, List.set_cons_zero, List.set_cons_succ]
  refine wpList_run (v := .int .i64 (m : Int)) rfl (exec_move rfl rfl) ?_
  simp only [Act.put, List.setIfInBounds_toArray, List.set_cons_zero, List.set_cons_succ]
  refine wpList_run (v := .bool false) rfl (ix_gtr rfl rfl rfl (decide_eq_false (by omega))) ?_
  simp only [Act.put, List.setIfInBounds_toArray, List.set_cons_zero, List.set_cons_succ]
  refine wpList_run (v := .bool false) (wanted_none rfl) (ix_pickF rfl rfl rfl) ?_
  simp only [Act.put, List.setIfInBounds_toArray, List.set_cons_zero, List.set_cons_succ]
  go_upto_region 3 with fail
  refine wp_region_lit ?_
  refine wpList_run (v := .int .i64 (m : Int)) (wanted_none rfl) (exec_move rfl rfl) ?_
  simp only [Act.put, List.setIfInBounds_toArray, List.set_cons_zero, List.set_cons_succ]
  refine wpList_run (v := .agg #[.int .i64 (m : Int), .slice none 0 0, .bool false]) (wanted_none rfl) (gx_build1 rfl rfl (rbuild_q1 m _)) ?_
  simp only [Act.put, List.setIfInBounds_toArray, List.set_cons_zero, List.set_cons_succ]
  refine wpList_run (v := .pointer (some ⟨w.heap.size, 0, none⟩)) (w' := w.alloc (.cells #[.int .i64 (m : Int), .slice none 0 0, .bool false] 59)) (wanted_none rfl) (gx_box rfl rfl (rbox_q m none 0 0 false w)) ?_
  simp only [Act.put, List.setIfInBounds_toArray, List.set_cons_zero, List.set_cons_succ]
  have hb := Blk.new w 59 #[.int .i64 (m : Int), .slice none 0 0, .bool false]
  have ht := (Turn.refl nowhere w).alloc (.cells #[.int .i64 (m : Int), .slice none 0 0, .bool false] 59)
  obtain ⟨a, ha⟩ : ∃ a, a = w.heap.size := ⟨_, rfl⟩
  rw [← ha] at hb ⊢
  have HA := Lib.hid (show w.heap.size ≤ a from by omega)
  clear ha
  generalize w.alloc (.cells #[.int .i64 (m : Int), .slice none 0 0, .bool false] 59) = w1 at *
  have HB := Lib.hid hb
  have HT := Lib.hid ht
  clear hb ht h
  refine wpList_run (v := .pointer (some ⟨a, 0, none⟩)) (wanted_none rfl) (gx_assign rfl rfl) ?_
  simp only [Act.put, List.setIfInBounds_toArray, List.set_cons_zero, List.set_cons_succ]
  refine wpList_run (v := .int .i64 0) (wanted_none rfl) (gx_assign rfl rfl) ?_
  simp only [Act.put, List.setIfInBounds_toArray, List.set_cons_zero, List.set_cons_succ]
  go_wp2_with fail
  go_ret2
  exact ⟨a, rfl, HA.out, fun Z => ⟨⟨none, 0, [], HB.out, Orw.nil _ _ _ _, rfl, fun x hx => by cases hx⟩, Nat.zero_le _, HM.out, fun e => by cases e⟩, HT.out⟩
set_option maxRecDepth 20000 in
set_option maxHeartbeats 2000000 in
theorem rStop_walk {w : World} {Z : Nat → Prop} {y m : Nat} {l : List Adv} {s : Bool} (q : RQue w Z y m l s) : Calls Try.prog 22 #[.pointer (some ⟨y, 0, none⟩)] w fun e w' => e = .returned (.tuple #[]) ∧ RQue w' Z y m l false ∧ Turn (only y) w w' := by
  have HQ := Lib.hid q
  obtain ⟨⟨A, c, xs, hb, hr, hx, hz⟩, hlen, hmax, hway⟩ := q
  obtain ⟨n, hn⟩ : ∃ n, n = l.length := ⟨_, rfl⟩
  rw [← hn] at hb hr hlen
  have hxl : xs.length = n := by rw [hn, ← hx, List.length_map]
  have HB := Lib.hid hb
  clear hb hr hx hz hlen hmax hway hn hxl
  go_enter Try.func22, Try.ntmps22
  go_upto_region 0 with fail
  refine wp_region_lit ?_
  refine wpList_run (v := .pointer (some ⟨y, 0, none⟩)) (wanted_none rfl) (exec_move rfl rfl) ?_
  simp only [Act.put, List.setIfInBounds_toArray, List.set_cons_zero, List.set_cons_succ]
  refine wpList_run (v := .pointer (some ⟨y, 0, none⟩)) (wanted_none rfl) (exec_nil rfl rfl) ?_
  simp only [Act.put, List.setIfInBounds_toArray, List.set_cons_zero, List.set_cons_succ]
  refine wpList_run (v := .pointer (some ⟨y, 2, none⟩)) (wanted_none rfl) (exec_field (off := 0) (d := 2) rfl rfl (by kernel_rfl)) ?_
  simp only [Act.put, List.setIfInBounds_toArray, List.set_cons_zero, List.set_cons_succ]
  refine wpList_storeU 2 (.bool false) (wanted_none rfl) 4 _ _ rfl HB.out rfl rfl (by show 2 < 3; omega) ⟨rfl, rfl⟩ size_bool ?_
  intro w1 hb1 ht1
  simp only [Act.put, List.setIfInBounds_toArray, List.set_cons_zero, List.set_cons_succ]
  have HB1 := Lib.hid (show Blk w1 y 59 #[.int .i64 (m : Int), .slice A n c, .bool false] from hb1)
  have HT1 := Lib.hid ht1
  clear hb1 ht1
  go_wp2_with fail
  go_end0
  exact ⟨rfl, HQ.out.sets HB.out HB1.out HT1.out fun e => (by cases e), HT1.out⟩
set_option maxRecDepth 20000 in
set_option maxHeartbeats 2000000 in
theorem rClone_walk {w : World} {Z : Nat → Prop} {y m : Nat} {l : List Adv} {s : Bool} (q : RQue w Z y m l s) : Calls Try.prog 10 #[.pointer (some ⟨y, 0, none⟩)] w fun e w' => ∃ u : Nat, e = .returned (.pointer (some ⟨u, 0, none⟩)) ∧ RQue w' Z u m l s ∧ w.heap.size ≤ u ∧ Turn nowhere w w' := by
  obtain ⟨⟨A, c, xs, hb, hr, hx, hz⟩, hlen, hmax, hway⟩ := q
  obtain ⟨n, hn⟩ : ∃ n, n = l.length := ⟨_, rfl⟩
  rw [← hn] at hb hr hlen
  have hxl : xs.length = n := by rw [hn, ← hx, List.length_map]
  have hbx := rbox_q m A n c s w.drew
  have hbn := Blk.new w.drew 59 #[.int .i64 (m : Int), .slice A n c, .bool s]
  have ht := ((Turn.refl nowhere w).drew).alloc (.cells #[.int .i64 (m : Int), .slice A n c, .bool s] 59)
  obtain ⟨u, hu⟩ : ∃ u, u = w.drew.heap.size := ⟨_, rfl⟩
  have hlu : w.heap.size ≤ u := by rw [hu]; exact Nat.le_refl _
  rw [← hu] at hbx hbn
  have HBD2 := Lib.hid ((show Blk w.drew y 59 #[.int .i64 (m : Int), .slice A n c, .bool s] from hb).alloc (.cells #[.int .i64 (m : Int), .slice A n c, .bool s] 59))
  generalize w.drew.alloc (.cells #[.int .i64 (m : Int), .slice A n c, .bool s] 59) = w2 at *
  have HF := Lib.hid (show RQue w2 Z u m l s from ⟨⟨A, c, xs, by rw [← hn]; exact hbn, by rw [← hn]; exact hr.still ht, hx, fun x hx => (hz x hx).still ht⟩, by omega, hmax, hway⟩)
  have HLU := Lib.hid hlu
  have HT := Lib.hid ht
  have HBX := Lib.hid hbx
  have HBD := Lib.hid (show Blk w.drew y 59 #[.int .i64 (m : Int), .slice A n c, .bool s] from hb)
  clear hb hr hx hz hlen hmax hway hn hxl hbx hbn ht hu hlu
  go_enter Try.func10, Try.ntmps10
  go_upto_region 0 with fail
  refine wp_region_lit ?_
  refine wpList_run (v := .pointer none) (wanted_none rfl) (gx_assign rfl rfl) ?_
  simp only [Act.put, List.setIfInBounds_toArray, List.set_cons_zero, List.set_cons_succ]
  go_upto_region 1 with fail
  refine wp_region_alw (fun W => Blk W y 59 #[.int .i64 (m : Int), .slice A n c, .bool s]) (by kernel_rfl) ?_
  have hS0 := HBD.out
  refine alw_take (i := 0) (v := .pointer (some ⟨y, 0, none⟩)) rfl (by kernel_rfl) (by kernel_rfl) (fun _ _ _ h => h) (.inl ⟨by rfl, fun W hW => exec_move rfl rfl⟩) hS0 ?_
  simp only [Act.put, List.setIfInBounds_toArray, List.set_cons_zero, List.set_cons_succ]
  refine alw_take (i := 1) (v := .pointer (some ⟨y, 0, none⟩)) rfl (by kernel_rfl) (by kernel_rfl) (fun _ _ _ h => h) (.inl ⟨by rfl, fun W hW => exec_nil rfl rfl⟩) hS0 ?_
  simp only [Act.put, List.setIfInBounds_toArray, List.set_cons_zero, List.set_cons_succ]
  refine alw_take (i := 2) (v := .pointer (some ⟨y, 0, none⟩)) rfl (by kernel_rfl) (by kernel_rfl) (fun _ _ _ h => h) (.inl ⟨by rfl, fun W hW => exec_field (off := 0) (d := 0) rfl rfl (by kernel_rfl)⟩) hS0 ?_
  simp only [Act.put, List.setIfInBounds_toArray, List.set_cons_zero, List.set_cons_succ]
  refine alw_take (i := 3) (v := .int .i64 (m : Int)) rfl (by kernel_rfl) (by kernel_rfl) (fun _ _ _ h => h) (.inl ⟨by rfl, fun W hW => exec_load1 rfl rfl (by kernel_rfl) (hW.cell 0)⟩) hS0 ?_
  simp only [Act.put, List.setIfInBounds_toArray, List.set_cons_zero, List.set_cons_succ]
  refine alw_take (i := 4) (v := .pointer (some ⟨y, 0, none⟩)) rfl (by kernel_rfl) (by kernel_rfl) (fun _ _ _ h => h) (.inl ⟨by rfl, fun W hW => exec_move rfl rfl⟩) hS0 ?_
  simp only [Act.put, List.setIfInBounds_toArray, List.set_cons_zero, List.set_cons_succ]
  refine alw_take (i := 5) (v := .pointer (some ⟨y, 0, none⟩)) rfl (by kernel_rfl) (by kernel_rfl) (fun _ _ _ h => h) (.inl ⟨by rfl, fun W hW => exec_nil rfl rfl⟩) hS0 ?_
  simp only [Act.put, List.setIfInBounds_toArray, List.set_cons_zero, List.set_cons_succ]
  refine alw_take (i := 6) (v := .pointer (some ⟨y, 1, none⟩)) rfl (by kernel_rfl) (by kernel_rfl) (fun _ _ _ h => h) (.inl ⟨by rfl, fun W hW => exec_field (off := 0) (d := 1) rfl rfl (by kernel_rfl)⟩) hS0 ?_
  simp only [Act.put, List.setIfInBounds_toArray, List.set_cons_zero, List.set_cons_succ]
  refine alw_take (i := 7) (v := .slice A n c) rfl (by kernel_rfl) (by kernel_rfl) (fun _ _ _ h => h) (.inl ⟨by rfl, fun W hW => exec_load1 rfl rfl (by kernel_rfl) (hW.cell 1)⟩) hS0 ?_
  simp only [Act.put, List.setIfInBounds_toArray, List.set_cons_zero, List.set_cons_succ]
  refine alw_take (i := 8) (v := .pointer (some ⟨y, 0, none⟩)) rfl (by kernel_rfl) (by kernel_rfl) (fun _ _ _ h => h) (.inl ⟨by rfl, fun W hW => exec_move rfl rfl⟩) hS0 ?_
  simp only [Act.put, List.setIfInBounds_toArray, List.set_cons_zero, List.set_cons_succ]
  refine alw_take (i := 9) (v := .pointer (some ⟨y, 0, none⟩)) rfl (by kernel_rfl) (by kernel_rfl) (fun _ _ _ h => h) (.inl ⟨by rfl, fun W hW => exec_nil rfl rfl⟩) hS0 ?_
  simp only [Act.put, List.setIfInBounds_toArray, List.set_cons_zero, List.set_cons_succ]
  refine alw_take (i := 10) (v := .pointer (some ⟨y, 2, none⟩)) rfl (by kernel_rfl) (by kernel_rfl) (fun _ _ _ h => h) (.inl ⟨by rfl, fun W hW => exec_field (off := 0) (d := 2) rfl rfl (by kernel_rfl)⟩) hS0 ?_
  simp only [Act.put, List.setIfInBounds_toArray, List.set_cons_zero, List.set_cons_succ]
  refine alw_take (i := 11) (v := .bool s) rfl (by kernel_rfl) (by kernel_rfl) (fun _ _ _ h => h) (.inl ⟨by rfl, fun W hW => exec_load1 rfl rfl (by kernel_rfl) (hW.cell 2)⟩) hS0 ?_
  simp only [Act.put, List.setIfInBounds_toArray, List.set_cons_zero, List.set_cons_succ]
  refine alw_take (i := 12) (v := .agg #[.int .i64 (m : Int), .slice A n c, .bool s]) rfl (by kernel_rfl) (by kernel_rfl) (fun _ _ _ h => h) (.inl ⟨by rfl, fun W hW => gx_build3 rfl rfl rfl rfl (rbuild_q3 m A n c s _)⟩) hS0 ?_
  simp only [Act.put, List.setIfInBounds_toArray, List.set_cons_zero, List.set_cons_succ]
  clear hS0
  refine alw_step (i := 13) (by kernel_rfl) rfl rfl ?_
  intro K1 HK1
  refine wp_run (v := .pointer (some ⟨u, 0, none⟩)) (w' := w2) (gx_box rfl rfl HBX.out) ?_
  refine HK1.out _ _ ⟨HBD2.out, ?_⟩
  clear HK1
  try simp only [Act.put, List.setIfInBounds_toArray, List.set_cons_zero, List.set_cons_succ]
  have hS0 := HBD2.out
  refine alw_take (i := 14) (v := .pointer (some ⟨u, 0, none⟩)) rfl (by kernel_rfl) (by kernel_rfl) (fun _ _ _ h => h) (.inl ⟨by rfl, fun W hW => gx_assign rfl rfl⟩) hS0 ?_
  simp only [Act.put, List.setIfInBounds_toArray, List.set_cons_zero, List.set_cons_succ]
  refine alw_done rfl ?_
  refine NoPanic.normal ?_
  clear hS0
  try simp only [Act.put, List.setIfInBounds_toArray, List.set_cons_zero, List.set_cons_succ]
  go_wp2_with fail
  go_ret
  exact ⟨u, rfl, HF.out, HLU.out, HT.out⟩
set_option maxRecDepth 20000 in
set_option maxHeartbeats 2000000 in
theorem rNames_walk {w : World} {Z : Nat → Prop} {y m : Nat} {l : List Adv} {s : Bool} (q : RQue w Z y m l s) : Calls Try.prog 31 #[.pointer (some ⟨y, 0, none⟩)] w fun e w' => ∃ A c, e = .returned (.slice A l.length c) ∧ Orw w' w.heap.size 9 1 (.slice A l.length c) ((Sf.names l).map strL) ∧ Turn nowhere w w' := by
  obtain ⟨⟨A, c, xs, hb, hr, hx, hz⟩, hlen, hmax, hway⟩ := q
  obtain ⟨n, hn⟩ : ∃ n, n = l.length := ⟨_, rfl⟩
  rw [← hn] at hb hr hlen
  have hxl : xs.length = n := by rw [hn, ← hx, List.length_map]
  have hnm : (Sf.names l).length = n := by unfold Sf.names; rw [List.length_map]; omega
  have HNM := Lib.hid hnm
  have HTK := Lib.hid (show (Sf.names l).take n = Sf.names l from List.take_of_length_le (by omega))
  have hrw := hr.rws (by rw [List.length_map]; omega) (by decide)
  rw [← hn]
  have HB := Lib.hid hb
  have HRW := Lib.hid hrw
  have HX := Lib.hid hx
  have HXL := Lib.hid hxl
  have yn : n ≤ 16 := by omega
  clear hb hr hx hz hlen hmax hway hn hrw hxl hnm
  go_enter Try.func31, Try.ntmps31
  go_upto_region 0 with fail
  refine wp_region_lit ?_
  refine wpList_run (v := .slice none 0 0) (wanted_none rfl) (gx_assign rfl rfl) ?_
  simp only [Act.put, List.setIfInBounds_toArray, List.set_cons_zero, List.set_cons_succ]
  go_upto_region 1 with fail
  refine wp_region_lit ?_
  refine wpList_run (v := .slice none 0 0) (wanted_none rfl) (gx_assign rfl rfl) ?_
  simp only [Act.put, List.setIfInBounds_toArray, List.set_cons_zero, List.set_cons_succ]
  go_upto_region 2 with fail
  refine wp_region_lit ?_
  refine wpList_run (v := .int .i64 0) (wanted_none rfl) (gx_assign rfl rfl) ?_
  simp only [Act.put, List.setIfInBounds_toArray, List.set_cons_zero, List.set_cons_succ]
  go_wp2_with fail
  go_loopg [3, 4] n (fun gk lv iv wr => ∃ j : Nat, iv = .int .i64 (j : Int) ∧ j + gk = n ∧ Turn nowhere w wr ∧ Orw wr w.heap.size 9 1 lv (((Sf.names l).take j).map strL))
  case atStart => exact ⟨0, rfl, by omega, Turn.refl _ _, Orw.nil _ _ _ _⟩
  obtain ⟨j, rfl, hjl, htr, how⟩ := hrel
  have HJL := Lib.hid hjl
  have HTR := Lib.hid htr
  have hll : (((Sf.names l).take j).map strL).length = j := by
    rw [List.length_map, List.length_take, HNM.out]
    omega
  obtain ⟨A5, c5, e5, _⟩ := how.form
  rw [hll] at e5
  subst e5
  have HLL := Lib.hid hll
  have HOW := Lib.hid how
  have HBR := Lib.hid (HB.out.turn htr fun e => e)
  clear hjl htr how hll
  by_cases hlt : j < n
  · have HLT := Lib.hid hlt
    have y1 : (j : Int) < (n : Int) := by omega
    obtain ⟨x, hx⟩ : ∃ x, xs[j]? = some x := ⟨xs[j]'(by rw [HXL.out]; omega), List.getElem?_eq_getElem (by rw [HXL.out]; omega)⟩
    obtain ⟨b, off, rfl, hat⟩ := ad_at (HRW.out.still HTR.out) hx
    have HAT := Lib.hid (hat 0 _ rfl)
    have HTN := Lib.hid (take_names HX.out hx)
    obtain ⟨A', c', w4, hrun, how, htt⟩ := orw_add elmS (ty := 52) HOW.out HTR.out (strL x.nm) rfl (fun u hu => by
      obtain rfl : u = strV x.nm := by simpa [strL] using hu
      rfl) (by
      rw [HLL.out]
      omega)
    rw [HLL.out] at hrun how
    have HRUN := Lib.hid hrun
    have HOW4 := Lib.hid (show Orw w4 w.heap.size 9 1 (.slice A' (j + 1) c') (((Sf.names l).take (j + 1)).map strL) from by rw [HTN.out, List.map_append]; exact how)
    have HT4 := Lib.hid htt
    clear hat hx hlt hrun how htt
    go_upto_region 3 with fail
    refine wp_region_lit ?_
    refine wpList_run (v := .int .i64 (j : Int)) (wanted_none rfl) (exec_move rfl rfl) ?_
    simp only [Act.put, List.setIfInBounds_toArray, List.set_cons_zero, List.set_cons_succ]
    refine wpList_run (v := .pointer (some ⟨y, 0, none⟩)) (wanted_none rfl) (exec_move rfl rfl) ?_
    simp only [Act.put, List.setIfInBounds_toArray, List.set_cons_zero, List.set_cons_succ]
    refine wpList_run (v := .pointer (some ⟨y, 0, none⟩)) (wanted_none rfl) (exec_nil rfl rfl) ?_
    simp only [Act.put, List.setIfInBounds_toArray, List.set_cons_zero, List.set_cons_succ]
    refine wpList_run (v := .pointer (some ⟨y, 1, none⟩)) (wanted_none rfl) (exec_field (off := 0) (d := 1) rfl rfl (by kernel_rfl)) ?_
    simp only [Act.put, List.setIfInBounds_toArray, List.set_cons_zero, List.set_cons_succ]
    refine wpList_run (v := .slice (some ⟨b, off, none⟩) n c) (wanted_none rfl) (exec_load1 rfl rfl (by kernel_rfl) (HBR.out.cell 1)) ?_
    simp only [Act.put, List.setIfInBounds_toArray, List.set_cons_zero, List.set_cons_succ]
    refine wpList_run (v := .int .i64 (n : Int)) (wanted_none rfl) (gx_len rfl rfl Try.underlying57) ?_
    simp only [Act.put, List.setIfInBounds_toArray, List.set_cons_zero, List.set_cons_succ]
    refine wpList_run (v := .bool true) (wanted_none rfl) (ix_lss rfl rfl rfl (decide_eq_true y1)) ?_
    simp only [Act.put, List.setIfInBounds_toArray, List.set_cons_zero, List.set_cons_succ]
    go_upto_region 5 with fail
    refine wp_region_lit ?_
    refine wpList_run (v := .slice A5 j c5) (wanted_none rfl) (exec_move rfl rfl) ?_
    simp only [Act.put, List.setIfInBounds_toArray, List.set_cons_zero, List.set_cons_succ]
    refine wpList_run (v := .pointer (some ⟨y, 0, none⟩)) (wanted_none rfl) (exec_move rfl rfl) ?_
    simp only [Act.put, List.setIfInBounds_toArray, List.set_cons_zero, List.set_cons_succ]
    refine wpList_run (v := .pointer (some ⟨y, 0, none⟩)) (wanted_none rfl) (exec_nil rfl rfl) ?_
    simp only [Act.put, List.setIfInBounds_toArray, List.set_cons_zero, List.set_cons_succ]
    refine wpList_run (v := .pointer (some ⟨y, 1, none⟩)) (wanted_none rfl) (exec_field (off := 0) (d := 1) rfl rfl (by kernel_rfl)) ?_
    simp only [Act.put, List.setIfInBounds_toArray, List.set_cons_zero, List.set_cons_succ]
    refine wpList_run (v := .slice (some ⟨b, off, none⟩) n c) (wanted_none rfl) (exec_load1 rfl rfl (by kernel_rfl) (HBR.out.cell 1)) ?_
    simp only [Act.put, List.setIfInBounds_toArray, List.set_cons_zero, List.set_cons_succ]
    refine wpList_run (v := .int .i64 (j : Int)) (wanted_none rfl) (exec_move rfl rfl) ?_
    simp only [Act.put, List.setIfInBounds_toArray, List.set_cons_zero, List.set_cons_succ]
    refine wpList_run (v := .pointer (some ⟨b, off + j * 3, none⟩)) (wanted_none rfl) (gx_iaddr (i := j) (sz := 3) rfl rfl rfl Try.underlying57 size_ra HLT.out (by omega)) ?_
    simp only [Act.put, List.setIfInBounds_toArray, List.set_cons_zero, List.set_cons_succ]
    refine wpList_run (v := .pointer (some ⟨b, off + j * 3, none⟩)) (wanted_none rfl) (exec_field (off := off + j * 3) (d := 0) rfl rfl (by kernel_rfl)) ?_
    simp only [Act.put, List.setIfInBounds_toArray, List.set_cons_zero, List.set_cons_succ]
    refine wpList_run (v := strV x.nm) (wanted_none rfl) (exec_load1 rfl rfl (by kernel_rfl) HAT.out) ?_
    simp only [Act.put, List.setIfInBounds_toArray, List.set_cons_zero, List.set_cons_succ]
    refine wpList_run (v := .slice (some ⟨wr.heap.size, 0, none⟩) 1 1) (w' := wr.alloc (.cells #[strV x.nm] 9)) (wanted_none rfl) (exec_buildSlice1 rfl rfl (build_str1 _ _)) ?_
    simp only [Act.put, List.setIfInBounds_toArray, List.set_cons_zero, List.set_cons_succ]
    refine wpList_run (v := (.slice A' (j + 1) c')) (w' := w4) (wanted_none rfl) (exec_append rfl rfl rfl HRUN.out) ?_
    simp only [Act.put, List.setIfInBounds_toArray, List.set_cons_zero, List.set_cons_succ]
    refine wpList_run (v := (.slice A' (j + 1) c')) (wanted_none rfl) (gx_assign rfl rfl) ?_
    simp only [Act.put, List.setIfInBounds_toArray, List.set_cons_zero, List.set_cons_succ]
    go_upto_region 4 with fail
    refine wp_region_lit ?_
    refine wpList_run (v := .int .i64 (j : Int)) (wanted_none rfl) (exec_move rfl rfl) ?_
    simp only [Act.put, List.setIfInBounds_toArray, List.set_cons_zero, List.set_cons_succ]
    refine wpList_run (v := .int .i64 ((j + 1 : Nat) : Int)) (wanted_none rfl) (ix_add rfl rfl rfl (by omega) (by omega)) ?_
    simp only [Act.put, List.setIfInBounds_toArray, List.set_cons_zero, List.set_cons_succ]
    refine wpList_run (v := .int .i64 ((j + 1 : Nat) : Int)) (wanted_none rfl) (gx_assign rfl rfl) ?_
    simp only [Act.put, List.setIfInBounds_toArray, List.set_cons_zero, List.set_cons_succ]
    go_wp2_with fail
    go_roundg (gk - 1)
    case measure => have := HJL.out; have := HLT.out; omega
    case rel => exact ⟨j + 1, rfl, by have := HJL.out; have := HLT.out; omega, HT4.out, HOW4.out⟩
  · have y1 : ¬ (j : Int) < (n : Int) := by omega
    obtain rfl : j = n := by have := HJL.out; omega
    clear hlt
    go_upto_region 3 with fail
    refine wp_region_lit ?_
    refine wpList_run (v := .int .i64 (j : Int)) (wanted_none rfl) (exec_move rfl rfl) ?_
    simp only [Act.put, List.setIfInBounds_toArray, List.set_cons_zero, List.set_cons_succ]
    refine wpList_run (v := .pointer (some ⟨y, 0, none⟩)) (wanted_none rfl) (exec_move rfl rfl) ?_
    simp only [Act.put, List.setIfInBounds_toArray, List.set_cons_zero, List.set_cons_succ]
    refine wpList_run (v := .pointer (some ⟨y, 0, none⟩)) (wanted_none rfl) (exec_nil rfl rfl) ?_
    simp only [Act.put, List.setIfInBounds_toArray, List.set_cons_zero, List.set_cons_succ]
    refine wpList_run (v := .pointer (some ⟨y, 1, none⟩)) (wanted_none rfl) (exec_field (off := 0) (d := 1) rfl rfl (by kernel_rfl)) ?_
    simp only [Act.put, List.setIfInBounds_toArray, List.set_cons_zero, List.set_cons_succ]
    refine wpList_run (v := .slice A j c) (wanted_none rfl) (exec_load1 rfl rfl (by kernel_rfl) (HBR.out.cell 1)) ?_
    simp only [Act.put, List.setIfInBounds_toArray, List.set_cons_zero, List.set_cons_succ]
    refine wpList_run (v := .int .i64 (j : Int)) (wanted_none rfl) (gx_len rfl rfl Try.underlying57) ?_
    simp only [Act.put, List.setIfInBounds_toArray, List.set_cons_zero, List.set_cons_succ]
    refine wpList_run (v := .bool false) (wanted_none rfl) (ix_lss rfl rfl rfl (decide_eq_false (by omega))) ?_
    simp only [Act.put, List.setIfInBounds_toArray, List.set_cons_zero, List.set_cons_succ]
    go_upto_region 6 with fail
    refine wp_region_lit ?_
    refine wpList_run (v := .slice A5 j c5) (wanted_none rfl) (exec_move rfl rfl) ?_
    simp only [Act.put, List.setIfInBounds_toArray, List.set_cons_zero, List.set_cons_succ]
    refine wpList_run (v := .slice A5 j c5) (wanted_none rfl) (gx_assign rfl rfl) ?_
    simp only [Act.put, List.setIfInBounds_toArray, List.set_cons_zero, List.set_cons_succ]
    have HF := Lib.hid (show Orw wr w.heap.size 9 1 (.slice A5 j c5) ((Sf.names l).map strL) from by
      have h9 := HOW.out
      rwa [HTK.out] at h9)
    go_wp2_with fail
    go_ret
    exact ⟨A5, c5, rfl, HF.out, HTR.out⟩
/-- the first one as the reference tells it, and true -/
def RSomeE (Z : Nat → Prop) (x : Adv) (e : Ending) (w' : World) : Prop := ∃ A c, e = .returned (.tuple #[strV x.1, .agg #[.int .i64 x.2.1, .slice A x.2.2.length c], .bool true]) ∧ Fr w' 0 (.slice A x.2.2.length c) x.2.2 ∧ x.2.2.length * 24 ≤ 140737488355328
set_option maxRecDepth 20000 in
set_option maxHeartbeats 2000000 in
theorem rAgain_no {w : World} {Z : Nat → Prop} {y m : Nat} {l : List Adv} (q : RQue w Z y m l false) : Calls Try.prog 15 #[.pointer (some ⟨y, 0, none⟩)] w fun e w' => e = noneE ∧ Turn nowhere w w' := by
  obtain ⟨⟨A, c, xs, hb, hr, hx, hz⟩, hlen, hmax, hway⟩ := q
  obtain ⟨n, hn⟩ : ∃ n, n = l.length := ⟨_, rfl⟩
  rw [← hn] at hb hr hlen
  have hxl : xs.length = n := by rw [hn, ← hx, List.length_map]
  have HB := Lib.hid hb
  clear hb hr hx hz hlen hmax hway hn hxl
  go_enter Try.func15, Try.ntmps15
  go_upto_region 0 with fail
  refine wp_region_lit ?_
  refine wpList_run (v := strV []) (wanted_none rfl) (gx_assign rfl rfl) ?_
  simp only [Act.put, List.setIfInBounds_toArray, List.set_cons_zero, List.set_cons_succ]
  refine wpList_run (v := .pointer (some ⟨w.heap.size, 0, none⟩)) (w' := w.alloc (.cells #[.int .i64 0, .slice none 0 0] 35)) (wanted_none rfl) (gx_alloc rfl (zero_msg _)) ?_
  simp only [Act.put, List.setIfInBounds_toArray, List.set_cons_zero, List.set_cons_succ]
  have hb_ := Blk.new w 35 #[.int .i64 0, .slice none 0 0]
  have ht_ := (Turn.refl nowhere w).alloc (.cells #[.int .i64 0, .slice none 0 0] 35)
  obtain ⟨r, hg_⟩ : ∃ g, g = w.heap.size := ⟨_, rfl⟩
  rw [← hg_] at hb_ ⊢
  have HLr := Lib.hid (show w.heap.size ≤ r from by omega)
  clear hg_
  generalize w.alloc (.cells #[.int .i64 0, .slice none 0 0] 35) = w1 at *
  have HBr := Lib.hid hb_
  have HT1 := Lib.hid ht_
  clear hb_ ht_
  refine wpList_run (v := .bool false) (wanted_none rfl) (gx_assign rfl rfl) ?_
  simp only [Act.put, List.setIfInBounds_toArray, List.set_cons_zero, List.set_cons_succ]
  have HB1 := Lib.hid (HB.out.turn HT1.out fun e => e)
  go_upto_region 1 with fail
  refine wp_region_lit ?_
  refine wpList_run (v := .pointer (some ⟨y, 0, none⟩)) (wanted_none rfl) (exec_move rfl rfl) ?_
  simp only [Act.put, List.setIfInBounds_toArray, List.set_cons_zero, List.set_cons_succ]
  refine wpList_run (v := .pointer (some ⟨y, 0, none⟩)) (wanted_none rfl) (exec_nil rfl rfl) ?_
  simp only [Act.put, List.setIfInBounds_toArray, List.set_cons_zero, List.set_cons_succ]
  refine wpList_run (v := .pointer (some ⟨y, 2, none⟩)) (wanted_none rfl) (exec_field (off := 0) (d := 2) rfl rfl (by kernel_rfl)) ?_
  simp only [Act.put, List.setIfInBounds_toArray, List.set_cons_zero, List.set_cons_succ]
  refine wpList_run (v := .bool false) (wanted_none rfl) (exec_load1 rfl rfl (by kernel_rfl) (HB1.out.cell 2)) ?_
  simp only [Act.put, List.setIfInBounds_toArray, List.set_cons_zero, List.set_cons_succ]
  refine wpList_run (v := .bool true) (wanted_none rfl) (ix_not (b := false) rfl rfl) ?_
  simp only [Act.put, List.setIfInBounds_toArray, List.set_cons_zero, List.set_cons_succ]
  go_upto_region 2 with fail
  refine wp_region_lit ?_
  refine wpList_run (v := .agg #[.int .i64 0, .slice none 0 0]) (wanted_none rfl) (gx_build0 rfl (build_m0 _)) ?_
  simp only [Act.put, List.setIfInBounds_toArray, List.set_cons_zero, List.set_cons_succ]
  refine wpList_run (v := strV []) (wanted_none rfl) (gx_assign rfl rfl) ?_
  simp only [Act.put, List.setIfInBounds_toArray, List.set_cons_zero, List.set_cons_succ]
  refine wpList_store_row (wanted_none rfl) 35 (.tmp 3) (.tmp 10) rfl (#[.int .i64 0, .slice none 0 0]) HBr.out rfl rfl (rfl) (by rw [size_msg] <;> rfl) (msgA_one _ _ _ _) ?_
  intro w2 hb_ ht_
  have HBr2 := Lib.hid hb_
  have HT2 := Lib.hid ht_
  clear hb_ ht_
  simp only [Act.put, List.setIfInBounds_toArray, List.set_cons_zero, List.set_cons_succ]
  refine wpList_run (v := .bool false) (wanted_none rfl) (gx_assign rfl rfl) ?_
  simp only [Act.put, List.setIfInBounds_toArray, List.set_cons_zero, List.set_cons_succ]
  go_wp2_with fail
  refine bodyPost_ret (v := .tuple #[strV [], .agg #[.int .i64 0, .slice none 0 0], .bool false]) (ret_cell3 rfl _ _ r _ _ _ rfl rfl rfl HBr2.out Try.underlying35 rfl (by rw [size_msg] <;> rfl)) rfl ?_
  exact ⟨rfl, newer HT1.out HLr.out HT2.out⟩
set_option maxRecDepth 20000 in
set_option maxHeartbeats 2000000 in
theorem rAgain_yes {w : World} {Z : Nat → Prop} {y m : Nat} {v9 : Adv} {r' : List Adv} (q : RQue w Z y m (v9 :: r') true) : Calls Try.prog 15 #[.pointer (some ⟨y, 0, none⟩)] w fun e w' => RSomeE Z v9 e w' ∧ Turn nowhere w w' := by
  obtain ⟨l, hl⟩ : ∃ l, l = v9 :: r' := ⟨_, rfl⟩
  rw [← hl] at q
  have hoff := q.off
  obtain ⟨⟨A, c, xs, hb, hr, hx, hz⟩, hlen, hmax, hway⟩ := q
  obtain ⟨n, hn⟩ : ∃ n, n = l.length := ⟨_, rfl⟩
  rw [← hn] at hb hr hlen
  have hxl : xs.length = n := by rw [hn, ← hx, List.length_map]
  obtain ⟨x, xs', hxs⟩ : ∃ x xs', xs = x :: xs' := by
    cases xs with
    | nil => rw [← hx] at hl; cases hl
    | cons x xs' => exact ⟨x, xs', rfl⟩
  have hxy : x.pl = v9 ∧ xs'.map Adx.pl = r' := by
    rw [hxs, List.map_cons, hl] at hx
    injection hx with h1 h2
    exact ⟨h1, h2⟩
  have hfz := hz x (by rw [hxs]; exact List.mem_cons_self ..)
  have hrw := hr.rws (by rw [List.length_map]; omega) (by decide)
  obtain ⟨b, off, rfl, hat⟩ := ad_at (j := 0) (x := x) hrw (by rw [hxs]; rfl)
  rw [Nat.zero_mul, Nat.add_zero] at hat
  have hn1 : 0 < n := by rw [← hxl, hxs]; exact Nat.succ_pos _
  have HB := Lib.hid hb
  have HAT := Lib.hid hat
  have HN1 := Lib.hid hn1
  have HE := Lib.hid (show ∀ (e : Ending) (w' : World), e = .returned (.tuple #[strV x.nm, .agg #[.int .i64 x.ty, .slice x.A x.k x.c], .bool true]) → Turn nowhere w w' → RSomeE Z v9 e w' from fun e w' h1 h2 => by
    rw [← hxy.1]
    have hfz2 := hfz.turn h2 fun k cur hk _ e => e
    have hq := hfz2.row
    have hrm := hfz2.room
    rw [hfz.len] at h1 hq hrm
    exact ⟨x.A, x.c, h1, hq, hrm⟩)
  clear hb hr hx hz hlen hmax hway hn hxl hl hxs hxy hfz hrw hat hn1 hoff
  go_enter Try.func15, Try.ntmps15
  go_upto_region 0 with fail
  refine wp_region_lit ?_
  refine wpList_run (v := strV []) (wanted_none rfl) (gx_assign rfl rfl) ?_
  simp only [Act.put, List.setIfInBounds_toArray, List.set_cons_zero, List.set_cons_succ]
  refine wpList_run (v := .pointer (some ⟨w.heap.size, 0, none⟩)) (w' := w.alloc (.cells #[.int .i64 0, .slice none 0 0] 35)) (wanted_none rfl) (gx_alloc rfl (zero_msg _)) ?_
  simp only [Act.put, List.setIfInBounds_toArray, List.set_cons_zero, List.set_cons_succ]
  have hb_ := Blk.new w 35 #[.int .i64 0, .slice none 0 0]
  have ht_ := (Turn.refl nowhere w).alloc (.cells #[.int .i64 0, .slice none 0 0] 35)
  obtain ⟨r, hg_⟩ : ∃ g, g = w.heap.size := ⟨_, rfl⟩
  rw [← hg_] at hb_ ⊢
  have HLr := Lib.hid (show w.heap.size ≤ r from by omega)
  clear hg_
  generalize w.alloc (.cells #[.int .i64 0, .slice none 0 0] 35) = w1 at *
  have HBr := Lib.hid hb_
  have HT1 := Lib.hid ht_
  clear hb_ ht_
  refine wpList_run (v := .bool false) (wanted_none rfl) (gx_assign rfl rfl) ?_
  simp only [Act.put, List.setIfInBounds_toArray, List.set_cons_zero, List.set_cons_succ]
  have HB1 := Lib.hid (HB.out.turn HT1.out fun e => e)
  have HAT1 := Lib.hid (show w1.rangeAt b off x.cs from fun j v hv => (HT1.out.cell (World.block_lt_of_cell? _ _ (HAT.out j v hv)) (fun e => e)).trans (HAT.out j v hv))
  have HBR0 := Lib.hid (show ¬ b = r from by have := World.block_lt_of_cell? _ _ (HAT.out 0 _ rfl); have : b < w.heap.size := this; have := HLr.out; omega)
  go_upto_region 1 with fail
  refine wp_region_lit ?_
  refine wpList_run (v := .pointer (some ⟨y, 0, none⟩)) (wanted_none rfl) (exec_move rfl rfl) ?_
  simp only [Act.put, List.setIfInBounds_toArray, List.set_cons_zero, List.set_cons_succ]
  refine wpList_run (v := .pointer (some ⟨y, 0, none⟩)) (wanted_none rfl) (exec_nil rfl rfl) ?_
  simp only [Act.put, List.setIfInBounds_toArray, List.set_cons_zero, List.set_cons_succ]
  refine wpList_run (v := .pointer (some ⟨y, 2, none⟩)) (wanted_none rfl) (exec_field (off := 0) (d := 2) rfl rfl (by kernel_rfl)) ?_
  simp only [Act.put, List.setIfInBounds_toArray, List.set_cons_zero, List.set_cons_succ]
  refine wpList_run (v := .bool true) (wanted_none rfl) (exec_load1 rfl rfl (by kernel_rfl) (HB1.out.cell 2)) ?_
  simp only [Act.put, List.setIfInBounds_toArray, List.set_cons_zero, List.set_cons_succ]
  refine wpList_run (v := .bool false) (wanted_none rfl) (ix_not (b := true) rfl rfl) ?_
  simp only [Act.put, List.setIfInBounds_toArray, List.set_cons_zero, List.set_cons_succ]
  have HBd := Lib.hid (show Blk w1.drew y 59 #[.int .i64 (m : Int), .slice (some ⟨b, off, none⟩) n c, .bool true] from HB1.out)
  have HAd := Lib.hid (show w1.drew.rangeAt b off x.cs from HAT1.out)
  have HD := Lib.hid ((Turn.refl nowhere w1).drew)
  have HBrd := Lib.hid (show Blk w1.drew r 35 #[.int .i64 0, .slice none 0 0] from HBr.out)
  go_upto_region 3 with fail
  refine wp_region_alw (fun W => Blk W y 59 #[.int .i64 (m : Int), .slice (some ⟨b, off, none⟩) n c, .bool true] ∧ W.rangeAt b off x.cs) (by kernel_rfl) ?_
  have hS0 : (fun W => Blk W y 59 #[.int .i64 (m : Int), .slice (some ⟨b, off, none⟩) n c, .bool true] ∧ W.rangeAt b off x.cs) w1.drew := ⟨HBd.out, HAd.out⟩
  generalize w1.drew = wd at *
  refine alw_take (i := 0) (v := .pointer (some ⟨y, 0, none⟩)) rfl (by kernel_rfl) (by kernel_rfl) (fun _ _ _ h => h) (.inl ⟨by rfl, fun W hW => exec_move rfl rfl⟩) hS0 ?_
  simp only [Act.put, List.setIfInBounds_toArray, List.set_cons_zero, List.set_cons_succ]
  refine alw_take (i := 1) (v := .pointer (some ⟨y, 0, none⟩)) rfl (by kernel_rfl) (by kernel_rfl) (fun _ _ _ h => h) (.inl ⟨by rfl, fun W hW => exec_nil rfl rfl⟩) hS0 ?_
  simp only [Act.put, List.setIfInBounds_toArray, List.set_cons_zero, List.set_cons_succ]
  refine alw_take (i := 2) (v := .pointer (some ⟨y, 1, none⟩)) rfl (by kernel_rfl) (by kernel_rfl) (fun _ _ _ h => h) (.inl ⟨by rfl, fun W hW => exec_field (off := 0) (d := 1) rfl rfl (by kernel_rfl)⟩) hS0 ?_
  simp only [Act.put, List.setIfInBounds_toArray, List.set_cons_zero, List.set_cons_succ]
  refine alw_take (i := 3) (v := .slice (some ⟨b, off, none⟩) n c) rfl (by kernel_rfl) (by kernel_rfl) (fun _ _ _ h => h) (.inl ⟨by rfl, fun W hW => exec_load1 rfl rfl (by kernel_rfl) (hW.1.cell 1)⟩) hS0 ?_
  simp only [Act.put, List.setIfInBounds_toArray, List.set_cons_zero, List.set_cons_succ]
  refine alw_take (i := 4) (v := .pointer (some ⟨b, off, none⟩)) rfl (by kernel_rfl) (by kernel_rfl) (fun _ _ _ h => h) (.inl ⟨by rfl, fun W hW => gx_iaddr (i := 0) (sz := 3) rfl rfl rfl Try.underlying57 size_ra HN1.out (by omega)⟩) hS0 ?_
  simp only [Act.put, List.setIfInBounds_toArray, List.set_cons_zero, List.set_cons_succ]
  refine alw_take (i := 5) (v := .pointer (some ⟨b, off, none⟩)) rfl (by kernel_rfl) (by kernel_rfl) (fun _ _ _ h => h) (.inl ⟨by rfl, fun W hW => exec_field (off := off) (d := 0) rfl rfl (by kernel_rfl)⟩) hS0 ?_
  simp only [Act.put, List.setIfInBounds_toArray, List.set_cons_zero, List.set_cons_succ]
  refine alw_take (i := 6) (v := strV x.nm) rfl (by kernel_rfl) (by kernel_rfl) (fun _ _ _ h => h) (.inl ⟨by rfl, fun W hW => exec_load1 rfl rfl (by kernel_rfl) (hW.2 0 _ rfl)⟩) hS0 ?_
  simp only [Act.put, List.setIfInBounds_toArray, List.set_cons_zero, List.set_cons_succ]
  refine alw_take (i := 7) (v := .pointer (some ⟨y, 0, none⟩)) rfl (by kernel_rfl) (by kernel_rfl) (fun _ _ _ h => h) (.inl ⟨by rfl, fun W hW => exec_move rfl rfl⟩) hS0 ?_
  simp only [Act.put, List.setIfInBounds_toArray, List.set_cons_zero, List.set_cons_succ]
  refine alw_take (i := 8) (v := .pointer (some ⟨y, 0, none⟩)) rfl (by kernel_rfl) (by kernel_rfl) (fun _ _ _ h => h) (.inl ⟨by rfl, fun W hW => exec_nil rfl rfl⟩) hS0 ?_
  simp only [Act.put, List.setIfInBounds_toArray, List.set_cons_zero, List.set_cons_succ]
  refine alw_take (i := 9) (v := .pointer (some ⟨y, 1, none⟩)) rfl (by kernel_rfl) (by kernel_rfl) (fun _ _ _ h => h) (.inl ⟨by rfl, fun W hW => exec_field (off := 0) (d := 1) rfl rfl (by kernel_rfl)⟩) hS0 ?_
  simp only [Act.put, List.setIfInBounds_toArray, List.set_cons_zero, List.set_cons_succ]
  refine alw_take (i := 10) (v := .slice (some ⟨b, off, none⟩) n c) rfl (by kernel_rfl) (by kernel_rfl) (fun _ _ _ h => h) (.inl ⟨by rfl, fun W hW => exec_load1 rfl rfl (by kernel_rfl) (hW.1.cell 1)⟩) hS0 ?_
  simp only [Act.put, List.setIfInBounds_toArray, List.set_cons_zero, List.set_cons_succ]
  refine alw_take (i := 11) (v := .pointer (some ⟨b, off, none⟩)) rfl (by kernel_rfl) (by kernel_rfl) (fun _ _ _ h => h) (.inl ⟨by rfl, fun W hW => gx_iaddr (i := 0) (sz := 3) rfl rfl rfl Try.underlying57 size_ra HN1.out (by omega)⟩) hS0 ?_
  simp only [Act.put, List.setIfInBounds_toArray, List.set_cons_zero, List.set_cons_succ]
  refine alw_take (i := 12) (v := .pointer (some ⟨b, off + 1, none⟩)) rfl (by kernel_rfl) (by kernel_rfl) (fun _ _ _ h => h) (.inl ⟨by rfl, fun W hW => exec_field (off := off) (d := 1) rfl rfl (by kernel_rfl)⟩) hS0 ?_
  simp only [Act.put, List.setIfInBounds_toArray, List.set_cons_zero, List.set_cons_succ]
  refine alw_take (i := 13) (v := .agg #[.int .i64 x.ty, .slice x.A x.k x.c]) rfl (by kernel_rfl) (by kernel_rfl) (fun _ _ _ h => h) (.inl ⟨by rfl, fun W hW => gx_loads (cs := [.int .i64 x.ty, .slice x.A x.k x.c]) rfl rfl (fun j v2 hj => by have := hW.2 (j + 1) v2 (by simpa [Adx.cs] using hj); rwa [show off + (j + 1) = off + 1 + j from by omega] at this) Try.underlying35 rfl (by rw [size_msg]; rfl)⟩) hS0 ?_
  simp only [Act.put, List.setIfInBounds_toArray, List.set_cons_zero, List.set_cons_succ]
  refine alw_take (i := 14) (v := strV x.nm) rfl (by kernel_rfl) (by kernel_rfl) (fun _ _ _ h => h) (.inl ⟨by rfl, fun W hW => gx_assign rfl rfl⟩) hS0 ?_
  simp only [Act.put, List.setIfInBounds_toArray, List.set_cons_zero, List.set_cons_succ]
  clear hS0
  refine alw_step (i := 15) (by kernel_rfl) rfl rfl ?_
  intro K1 HK1
  refine wp_store_rowU 35 (.tmp 3) (.tmp 24) rfl (#[.int .i64 x.ty, .slice x.A x.k x.c]) HBrd.out rfl rfl rfl (by rw [size_msg] <;> rfl) (msgA_one _ _ _ _) ?_
  intro w7 hb_ ht_
  have HBr7 := Lib.hid hb_
  have HT7 := Lib.hid ht_
  clear hb_ ht_
  have HS7 := Lib.hid (And.intro (HBd.out.turn HT7.out fun e => (show ¬ y = r from HBd.out.ne_ HBrd.out (by decide)) e) (show w7.rangeAt b off x.cs from fun j v2 hj => (HT7.out.cell (World.block_lt_of_cell? _ _ (HAd.out j v2 hj)) fun e => HBR0.out (show b = r from e)).trans (HAd.out j v2 hj)))
  refine HK1.out _ _ ⟨HS7.out, ?_⟩
  clear HK1
  try simp only [Act.put, List.setIfInBounds_toArray, List.set_cons_zero, List.set_cons_succ]
  have hS0 := HS7.out
  refine alw_take (i := 16) (v := .bool true) rfl (by kernel_rfl) (by kernel_rfl) (fun _ _ _ h => h) (.inl ⟨by rfl, fun W hW => gx_assign rfl rfl⟩) hS0 ?_
  simp only [Act.put, List.setIfInBounds_toArray, List.set_cons_zero, List.set_cons_succ]
  refine alw_done rfl ?_
  refine NoPanic.normal ?_
  clear hS0
  try simp only [Act.put, List.setIfInBounds_toArray, List.set_cons_zero, List.set_cons_succ]
  have HT8 := Lib.hid (newer (HT1.out.trans HD.out fun _ _ e => e) HLr.out HT7.out)
  go_wp2_with fail
  refine bodyPost_ret (v := .tuple #[strV x.nm, .agg #[.int .i64 x.ty, .slice x.A x.k x.c], .bool true]) (ret_cell3 rfl _ _ r _ _ _ rfl rfl rfl HBr7.out Try.underlying35 rfl (by rw [size_msg] <;> rfl)) rfl ?_
  exact ⟨HE.out _ _ rfl HT8.out, HT8.out⟩
set_option maxRecDepth 20000 in
set_option maxHeartbeats 2000000 in
theorem rSend_no {w : World} {Z : Nat → Prop} {y m : Nat} {l : List Adv} {s : Bool} (q : RQue w Z y m l s) (hs : s = true ∨ l = []) : Calls Try.prog 17 #[.pointer (some ⟨y, 0, none⟩)] w fun e w' => e = noneE ∧ Turn nowhere w w' := by
  obtain ⟨⟨A, c, xs, hb, hr, hx, hz⟩, hlen, hmax, hway⟩ := q
  obtain ⟨n, hn⟩ : ∃ n, n = l.length := ⟨_, rfl⟩
  rw [← hn] at hb hr hlen
  have hxl : xs.length = n := by rw [hn, ← hx, List.length_map]
  have HB := Lib.hid hb
  have HS := Lib.hid (show s = false → n = 0 from fun e => by
    rcases hs with h | h
    · rw [e] at h; cases h
    · rw [hn, h]; rfl)
  clear hb hr hx hz hlen hmax hway hn hxl hs
  go_enter Try.func17, Try.ntmps17
  go_upto_region 0 with fail
  refine wp_region_lit ?_
  refine wpList_run (v := strV []) (wanted_none rfl) (gx_assign rfl rfl) ?_
  simp only [Act.put, List.setIfInBounds_toArray, List.set_cons_zero, List.set_cons_succ]
  refine wpList_run (v := .pointer (some ⟨w.heap.size, 0, none⟩)) (w' := w.alloc (.cells #[.int .i64 0, .slice none 0 0] 35)) (wanted_none rfl) (gx_alloc rfl (zero_msg _)) ?_
  simp only [Act.put, List.setIfInBounds_toArray, List.set_cons_zero, List.set_cons_succ]
  have hb_ := Blk.new w 35 #[.int .i64 0, .slice none 0 0]
  have ht_ := (Turn.refl nowhere w).alloc (.cells #[.int .i64 0, .slice none 0 0] 35)
  obtain ⟨r, hg_⟩ : ∃ g, g = w.heap.size := ⟨_, rfl⟩
  rw [← hg_] at hb_ ⊢
  have HLr := Lib.hid (show w.heap.size ≤ r from by omega)
  clear hg_
  generalize w.alloc (.cells #[.int .i64 0, .slice none 0 0] 35) = w1 at *
  have HBr := Lib.hid hb_
  have HT1 := Lib.hid ht_
  clear hb_ ht_
  refine wpList_run (v := .bool false) (wanted_none rfl) (gx_assign rfl rfl) ?_
  simp only [Act.put, List.setIfInBounds_toArray, List.set_cons_zero, List.set_cons_succ]
  have HB1 := Lib.hid (HB.out.turn HT1.out fun e => e)
  clear HB
  by_cases h0 : n = 0
  · subst h0
    go_upto_region 1 with fail
    refine wp_region_lit ?_
    refine wpList_run (v := .pointer (some ⟨y, 0, none⟩)) (wanted_none rfl) (exec_move rfl rfl) ?_
    simp only [Act.put, List.setIfInBounds_toArray, List.set_cons_zero, List.set_cons_succ]
    refine wpList_run (v := .pointer (some ⟨y, 0, none⟩)) (wanted_none rfl) (exec_nil rfl rfl) ?_
    simp only [Act.put, List.setIfInBounds_toArray, List.set_cons_zero, List.set_cons_succ]
    refine wpList_run (v := .pointer (some ⟨y, 1, none⟩)) (wanted_none rfl) (exec_field (off := 0) (d := 1) rfl rfl (by kernel_rfl)) ?_
    simp only [Act.put, List.setIfInBounds_toArray, List.set_cons_zero, List.set_cons_succ]
    refine wpList_run (v := .slice A 0 c) (wanted_none rfl) (exec_load1 rfl rfl (by kernel_rfl) (HB1.out.cell 1)) ?_
    simp only [Act.put, List.setIfInBounds_toArray, List.set_cons_zero, List.set_cons_succ]
    refine wpList_run (v := .int .i64 ((0 : Nat) : Int)) (wanted_none rfl) (gx_len rfl rfl Try.underlying57) ?_
    simp only [Act.put, List.setIfInBounds_toArray, List.set_cons_zero, List.set_cons_succ]
    refine wpList_run (v := .bool true) (wanted_none rfl) (ix_eql rfl rfl rfl (by decide)) ?_
    simp only [Act.put, List.setIfInBounds_toArray, List.set_cons_zero, List.set_cons_succ]
    refine wpList_run (v := .bool true) (wanted_none rfl) (exec_move rfl rfl) ?_
    simp only [Act.put, List.setIfInBounds_toArray, List.set_cons_zero, List.set_cons_succ]
    refine wpList_skip (by go_simp) ?_
    simp only [Act.put, List.setIfInBounds_toArray, List.set_cons_zero, List.set_cons_succ]
    refine wpList_skip (by go_simp) ?_
    simp only [Act.put, List.setIfInBounds_toArray, List.set_cons_zero, List.set_cons_succ]
    refine wpList_skip (by go_simp) ?_
    simp only [Act.put, List.setIfInBounds_toArray, List.set_cons_zero, List.set_cons_succ]
    refine wpList_skip (by go_simp) ?_
    simp only [Act.put, List.setIfInBounds_toArray, List.set_cons_zero, List.set_cons_succ]
    refine wpList_run (v := .bool true) (wanted_none rfl) (ix_pickT rfl rfl rfl) ?_
    simp only [Act.put, List.setIfInBounds_toArray, List.set_cons_zero, List.set_cons_succ]
    go_upto_region 2 with fail
    refine wp_region_lit ?_
    refine wpList_run (v := .agg #[.int .i64 0, .slice none 0 0]) (wanted_none rfl) (gx_build0 rfl (build_m0 _)) ?_
    simp only [Act.put, List.setIfInBounds_toArray, List.set_cons_zero, List.set_cons_succ]
    refine wpList_run (v := strV []) (wanted_none rfl) (gx_assign rfl rfl) ?_
    simp only [Act.put, List.setIfInBounds_toArray, List.set_cons_zero, List.set_cons_succ]
    refine wpList_store_row (wanted_none rfl) 35 (.tmp 3) (.tmp 17) rfl (#[.int .i64 0, .slice none 0 0]) HBr.out rfl rfl (rfl) (by rw [size_msg] <;> rfl) (msgA_one _ _ _ _) ?_
    intro w2 hb_ ht_
    have HBr2 := Lib.hid hb_
    have HT2 := Lib.hid ht_
    clear hb_ ht_
    simp only [Act.put, List.setIfInBounds_toArray, List.set_cons_zero, List.set_cons_succ]
    refine wpList_run (v := .bool false) (wanted_none rfl) (gx_assign rfl rfl) ?_
    simp only [Act.put, List.setIfInBounds_toArray, List.set_cons_zero, List.set_cons_succ]
    go_wp2_with fail
    refine bodyPost_ret (v := .tuple #[strV [], .agg #[.int .i64 0, .slice none 0 0], .bool false]) (ret_cell3 rfl _ _ r _ _ _ rfl rfl rfl HBr2.out Try.underlying35 rfl (by rw [size_msg] <;> rfl)) rfl ?_
    exact ⟨rfl, newer HT1.out HLr.out HT2.out⟩
  · have hst : s = true := by
      cases s with
      | true => rfl
      | false => exact absurd (HS.out rfl) h0
    subst hst
    have HN0 := Lib.hid (show ¬ (n : Int) = 0 from by omega)
    clear h0
    go_upto_region 1 with fail
    refine wp_region_lit ?_
    refine wpList_run (v := .pointer (some ⟨y, 0, none⟩)) (wanted_none rfl) (exec_move rfl rfl) ?_
    simp only [Act.put, List.setIfInBounds_toArray, List.set_cons_zero, List.set_cons_succ]
    refine wpList_run (v := .pointer (some ⟨y, 0, none⟩)) (wanted_none rfl) (exec_nil rfl rfl) ?_
    simp only [Act.put, List.setIfInBounds_toArray, List.set_cons_zero, List.set_cons_succ]
    refine wpList_run (v := .pointer (some ⟨y, 1, none⟩)) (wanted_none rfl) (exec_field (off := 0) (d := 1) rfl rfl (by kernel_rfl)) ?_
    simp only [Act.put, List.setIfInBounds_toArray, List.set_cons_zero, List.set_cons_succ]
    refine wpList_run (v := .slice A n c) (wanted_none rfl) (exec_load1 rfl rfl (by kernel_rfl) (HB1.out.cell 1)) ?_
    simp only [Act.put, List.setIfInBounds_toArray, List.set_cons_zero, List.set_cons_succ]
    refine wpList_run (v := .int .i64 (n : Int)) (wanted_none rfl) (gx_len rfl rfl Try.underlying57) ?_
    simp only [Act.put, List.setIfInBounds_toArray, List.set_cons_zero, List.set_cons_succ]
    refine wpList_run (v := .bool false) (wanted_none rfl) (ix_eql rfl rfl rfl (decide_eq_false HN0.out)) ?_
    simp only [Act.put, List.setIfInBounds_toArray, List.set_cons_zero, List.set_cons_succ]
    refine wpList_run (v := .bool false) (wanted_none rfl) (exec_move rfl rfl) ?_
    simp only [Act.put, List.setIfInBounds_toArray, List.set_cons_zero, List.set_cons_succ]
    refine wpList_run (v := .pointer (some ⟨y, 0, none⟩)) rfl (exec_move rfl rfl) ?_
    simp only [Act.put, List.setIfInBounds_toArray, List.set_cons_zero, List.set_cons_succ]
    refine wpList_run (v := .pointer (some ⟨y, 0, none⟩)) rfl (exec_nil rfl rfl) ?_
    simp only [Act.put, List.setIfInBounds_toArray, List.set_cons_zero, List.set_cons_succ]
    refine wpList_run (v := .pointer (some ⟨y, 2, none⟩)) rfl (exec_field (off := 0) (d := 2) rfl rfl (by kernel_rfl)) ?_
    simp only [Act.put, List.setIfInBounds_toArray, List.set_cons_zero, List.set_cons_succ]
    refine wpList_run (v := .bool true) rfl (exec_load1 rfl rfl (by kernel_rfl) (HB1.out.cell 2)) ?_
    simp only [Act.put, List.setIfInBounds_toArray, List.set_cons_zero, List.set_cons_succ]
    refine wpList_run (v := .bool true) (wanted_none rfl) (ix_pickF rfl rfl rfl) ?_
    simp only [Act.put, List.setIfInBounds_toArray, List.set_cons_zero, List.set_cons_succ]
    go_upto_region 2 with fail
    refine wp_region_lit ?_
    refine wpList_run (v := .agg #[.int .i64 0, .slice none 0 0]) (wanted_none rfl) (gx_build0 rfl (build_m0 _)) ?_
    simp only [Act.put, List.setIfInBounds_toArray, List.set_cons_zero, List.set_cons_succ]
    refine wpList_run (v := strV []) (wanted_none rfl) (gx_assign rfl rfl) ?_
    simp only [Act.put, List.setIfInBounds_toArray, List.set_cons_zero, List.set_cons_succ]
    refine wpList_store_row (wanted_none rfl) 35 (.tmp 3) (.tmp 17) rfl (#[.int .i64 0, .slice none 0 0]) HBr.out rfl rfl (rfl) (by rw [size_msg] <;> rfl) (msgA_one _ _ _ _) ?_
    intro w2 hb_ ht_
    have HBr2 := Lib.hid hb_
    have HT2 := Lib.hid ht_
    clear hb_ ht_
    simp only [Act.put, List.setIfInBounds_toArray, List.set_cons_zero, List.set_cons_succ]
    refine wpList_run (v := .bool false) (wanted_none rfl) (gx_assign rfl rfl) ?_
    simp only [Act.put, List.setIfInBounds_toArray, List.set_cons_zero, List.set_cons_succ]
    go_wp2_with fail
    refine bodyPost_ret (v := .tuple #[strV [], .agg #[.int .i64 0, .slice none 0 0], .bool false]) (ret_cell3 rfl _ _ r _ _ _ rfl rfl rfl HBr2.out Try.underlying35 rfl (by rw [size_msg] <;> rfl)) rfl ?_
    exact ⟨rfl, newer HT1.out HLr.out HT2.out⟩
set_option maxRecDepth 20000 in
set_option maxHeartbeats 2000000 in
theorem rSend_yes {w : World} {Z : Nat → Prop} {y m : Nat} {v9 : Adv} {r' : List Adv} (q : RQue w Z y m (v9 :: r') false) : Calls Try.prog 17 #[.pointer (some ⟨y, 0, none⟩)] w fun e w' => RSomeE Z v9 e w' ∧ RQue w' Z y m (v9 :: r') true ∧ Turn (only y) w w' := by
  have HQ := Lib.hid q
  obtain ⟨l, hl⟩ : ∃ l, l = v9 :: r' := ⟨_, rfl⟩
  rw [← hl] at q
  have hoff := q.off
  obtain ⟨⟨A, c, xs, hb, hr, hx, hz⟩, hlen, hmax, hway⟩ := q
  obtain ⟨n, hn⟩ : ∃ n, n = l.length := ⟨_, rfl⟩
  rw [← hn] at hb hr hlen
  have hxl : xs.length = n := by rw [hn, ← hx, List.length_map]
  obtain ⟨x, xs', hxs⟩ : ∃ x xs', xs = x :: xs' := by
    cases xs with
    | nil => rw [← hx] at hl; cases hl
    | cons x xs' => exact ⟨x, xs', rfl⟩
  have hxy : x.pl = v9 ∧ xs'.map Adx.pl = r' := by
    rw [hxs, List.map_cons, hl] at hx
    injection hx with h1 h2
    exact ⟨h1, h2⟩
  have hfz := hz x (by rw [hxs]; exact List.mem_cons_self ..)
  have hrw := hr.rws (by rw [List.length_map]; omega) (by decide)
  obtain ⟨b, off, rfl, hat⟩ := ad_at (j := 0) (x := x) hrw (by rw [hxs]; rfl)
  rw [Nat.zero_mul, Nat.add_zero] at hat
  have hn1 : 0 < n := by rw [← hxl, hxs]; exact Nat.succ_pos _
  have HB := Lib.hid hb
  have HAT := Lib.hid hat
  have HN1 := Lib.hid hn1
  have HE := Lib.hid (show ∀ (e : Ending) (w' : World), e = .returned (.tuple #[strV x.nm, .agg #[.int .i64 x.ty, .slice x.A x.k x.c], .bool true]) → Turn (only y) w w' → RSomeE Z v9 e w' from fun e w' h1 h2 => by
    rw [← hxy.1]
    have hfz2 := hfz.turn h2 fun k cur hk _ e => hoff k _ cur hk (by decide) e
    have hq := hfz2.row
    have hrm := hfz2.room
    rw [hfz.len] at h1 hq hrm
    exact ⟨x.A, x.c, h1, hq, hrm⟩)
  have HNA := Lib.hid (show ¬ b = y from fun e => by
    obtain ⟨b2, c2, e2, _⟩ := hr.some_ (by rw [List.length_map]; omega)
    obtain ⟨cur, hc⟩ := Orw.own_blk hr (b := b2) (by rw [e2]; rfl)
    injection e2 with e2
    injection e2 with e2
    injection e2 with e2
    rw [← e2, e] at hc
    exact hc.ne_ hb (by decide) rfl)
  have HN0 := Lib.hid (show ¬ (n : Int) = 0 from by omega)
  clear hb hr hx hz hlen hmax hway hn hxl hl hxs hxy hfz hrw hat hn1 hoff
  go_enter Try.func17, Try.ntmps17
  go_upto_region 0 with fail
  refine wp_region_lit ?_
  refine wpList_run (v := strV []) (wanted_none rfl) (gx_assign rfl rfl) ?_
  simp only [Act.put, List.setIfInBounds_toArray, List.set_cons_zero, List.set_cons_succ]
  refine wpList_run (v := .pointer (some ⟨w.heap.size, 0, none⟩)) (w' := w.alloc (.cells #[.int .i64 0, .slice none 0 0] 35)) (wanted_none rfl) (gx_alloc rfl (zero_msg _)) ?_
  simp only [Act.put, List.setIfInBounds_toArray, List.set_cons_zero, List.set_cons_succ]
  have hb_ := Blk.new w 35 #[.int .i64 0, .slice none 0 0]
  have ht_ := (Turn.refl nowhere w).alloc (.cells #[.int .i64 0, .slice none 0 0] 35)
  obtain ⟨r, hg_⟩ : ∃ g, g = w.heap.size := ⟨_, rfl⟩
  rw [← hg_] at hb_ ⊢
  have HLr := Lib.hid (show w.heap.size ≤ r from by omega)
  clear hg_
  generalize w.alloc (.cells #[.int .i64 0, .slice none 0 0] 35) = w1 at *
  have HBr := Lib.hid hb_
  have HT1 := Lib.hid ht_
  clear hb_ ht_
  refine wpList_run (v := .bool false) (wanted_none rfl) (gx_assign rfl rfl) ?_
  simp only [Act.put, List.setIfInBounds_toArray, List.set_cons_zero, List.set_cons_succ]
  have HB1 := Lib.hid (HB.out.turn HT1.out fun e => e)
  have HAT1 := Lib.hid (show w1.rangeAt b off x.cs from fun j v hv => (HT1.out.cell (World.block_lt_of_cell? _ _ (HAT.out j v hv)) (fun e => e)).trans (HAT.out j v hv))
  have HBR0 := Lib.hid (show ¬ b = r from by have := World.block_lt_of_cell? _ _ (HAT.out 0 _ rfl); have : b < w.heap.size := this; have := HLr.out; omega)
  go_upto_region 1 with fail
  refine wp_region_lit ?_
  refine wpList_run (v := .pointer (some ⟨y, 0, none⟩)) (wanted_none rfl) (exec_move rfl rfl) ?_
  simp only [Act.put, List.setIfInBounds_toArray, List.set_cons_zero, List.set_cons_succ]
  refine wpList_run (v := .pointer (some ⟨y, 0, none⟩)) (wanted_none rfl) (exec_nil rfl rfl) ?_
  simp only [Act.put, List.setIfInBounds_toArray, List.set_cons_zero, List.set_cons_succ]
  refine wpList_run (v := .pointer (some ⟨y, 1, none⟩)) (wanted_none rfl) (exec_field (off := 0) (d := 1) rfl rfl (by kernel_rfl)) ?_
  simp only [Act.put, List.setIfInBounds_toArray, List.set_cons_zero, List.set_cons_succ]
  refine wpList_run (v := .slice (some ⟨b, off, none⟩) n c) (wanted_none rfl) (exec_load1 rfl rfl (by kernel_rfl) (HB1.out.cell 1)) ?_
  simp only [Act.put, List.setIfInBounds_toArray, List.set_cons_zero, List.set_cons_succ]
  refine wpList_run (v := .int .i64 (n : Int)) (wanted_none rfl) (gx_len rfl rfl Try.underlying57) ?_
  simp only [Act.put, List.setIfInBounds_toArray, List.set_cons_zero, List.set_cons_succ]
  refine wpList_run (v := .bool false) (wanted_none rfl) (ix_eql rfl rfl rfl (decide_eq_false HN0.out)) ?_
  simp only [Act.put, List.setIfInBounds_toArray, List.set_cons_zero, List.set_cons_succ]
  refine wpList_run (v := .bool false) (wanted_none rfl) (exec_move rfl rfl) ?_
  simp only [Act.put, List.setIfInBounds_toArray, List.set_cons_zero, List.set_cons_succ]
  refine wpList_run (v := .pointer (some ⟨y, 0, none⟩)) rfl (exec_move rfl rfl) ?_
  simp only [Act.put, List.setIfInBounds_toArray, List.set_cons_zero, List.set_cons_succ]
  refine wpList_run (v := .pointer (some ⟨y, 0, none⟩)) rfl (exec_nil rfl rfl) ?_
  simp only [Act.put, List.setIfInBounds_toArray, List.set_cons_zero, List.set_cons_succ]
  refine wpList_run (v := .pointer (some ⟨y, 2, none⟩)) rfl (exec_field (off := 0) (d := 2) rfl rfl (by kernel_rfl)) ?_
  simp only [Act.put, List.setIfInBounds_toArray, List.set_cons_zero, List.set_cons_succ]
  refine wpList_run (v := .bool false) rfl (exec_load1 rfl rfl (by kernel_rfl) (HB1.out.cell 2)) ?_
  simp only [Act.put, List.setIfInBounds_toArray, List.set_cons_zero, List.set_cons_succ]
  refine wpList_run (v := .bool false) (wanted_none rfl) (ix_pickF rfl rfl rfl) ?_
  simp only [Act.put, List.setIfInBounds_toArray, List.set_cons_zero, List.set_cons_succ]
  go_upto_region 3 with fail
  refine wp_region_lit ?_
  refine wpList_run (v := .pointer (some ⟨y, 0, none⟩)) (wanted_none rfl) (exec_move rfl rfl) ?_
  simp only [Act.put, List.setIfInBounds_toArray, List.set_cons_zero, List.set_cons_succ]
  refine wpList_run (v := .pointer (some ⟨y, 0, none⟩)) (wanted_none rfl) (exec_nil rfl rfl) ?_
  simp only [Act.put, List.setIfInBounds_toArray, List.set_cons_zero, List.set_cons_succ]
  refine wpList_run (v := .pointer (some ⟨y, 2, none⟩)) (wanted_none rfl) (exec_field (off := 0) (d := 2) rfl rfl (by kernel_rfl)) ?_
  simp only [Act.put, List.setIfInBounds_toArray, List.set_cons_zero, List.set_cons_succ]
  refine wpList_storeU 2 (.bool true) (wanted_none rfl) 4 _ _ rfl HB1.out rfl rfl (by show 2 < 3; omega) ⟨rfl, rfl⟩ size_bool ?_
  intro w2 hb2 ht2
  simp only [Act.put, List.setIfInBounds_toArray, List.set_cons_zero, List.set_cons_succ]
  have HB2 := Lib.hid (show Blk w2 y 59 #[.int .i64 (m : Int), .slice (some ⟨b, off, none⟩) n c, .bool true] from hb2)
  have HQ2 := Lib.hid ((HQ.out.still HT1.out).sets HB1.out HB2.out ht2 fun _ e => by cases e)
  have HBr2 := Lib.hid (HBr.out.turn ht2 fun e => (show ¬ r = y from HBr.out.ne_ HB1.out (by decide)) e)
  have HT2 := Lib.hid ((HT1.out.mono (G := only y) fun _ _ e => e.elim).trans ht2 fun _ _ e => e)
  have HAT2 := Lib.hid (show w2.rangeAt b off x.cs from fun j v hv => (ht2.cell (World.block_lt_of_cell? _ _ (HAT1.out j v hv)) fun e => HNA.out (show b = y from e)).trans (HAT1.out j v hv))
  clear hb2 ht2
  have HBd := Lib.hid (show Blk w2.drew y 59 #[.int .i64 (m : Int), .slice (some ⟨b, off, none⟩) n c, .bool true] from HB2.out)
  have HAd := Lib.hid (show w2.drew.rangeAt b off x.cs from HAT2.out)
  have HD := Lib.hid ((Turn.refl nowhere w2).drew)
  have HBrd := Lib.hid (show Blk w2.drew r 35 #[.int .i64 0, .slice none 0 0] from HBr2.out)
  go_upto_region 4 with fail
  refine wp_region_alw (fun W => Blk W y 59 #[.int .i64 (m : Int), .slice (some ⟨b, off, none⟩) n c, .bool true] ∧ W.rangeAt b off x.cs) (by kernel_rfl) ?_
  have hS0 : (fun W => Blk W y 59 #[.int .i64 (m : Int), .slice (some ⟨b, off, none⟩) n c, .bool true] ∧ W.rangeAt b off x.cs) w2.drew := ⟨HBd.out, HAd.out⟩
  generalize w2.drew = wd at *
  refine alw_take (i := 0) (v := .pointer (some ⟨y, 0, none⟩)) rfl (by kernel_rfl) (by kernel_rfl) (fun _ _ _ h => h) (.inl ⟨by rfl, fun W hW => exec_move rfl rfl⟩) hS0 ?_
  simp only [Act.put, List.setIfInBounds_toArray, List.set_cons_zero, List.set_cons_succ]
  refine alw_take (i := 1) (v := .pointer (some ⟨y, 0, none⟩)) rfl (by kernel_rfl) (by kernel_rfl) (fun _ _ _ h => h) (.inl ⟨by rfl, fun W hW => exec_nil rfl rfl⟩) hS0 ?_
  simp only [Act.put, List.setIfInBounds_toArray, List.set_cons_zero, List.set_cons_succ]
  refine alw_take (i := 2) (v := .pointer (some ⟨y, 1, none⟩)) rfl (by kernel_rfl) (by kernel_rfl) (fun _ _ _ h => h) (.inl ⟨by rfl, fun W hW => exec_field (off := 0) (d := 1) rfl rfl (by kernel_rfl)⟩) hS0 ?_
  simp only [Act.put, List.setIfInBounds_toArray, List.set_cons_zero, List.set_cons_succ]
  refine alw_take (i := 3) (v := .slice (some ⟨b, off, none⟩) n c) rfl (by kernel_rfl) (by kernel_rfl) (fun _ _ _ h => h) (.inl ⟨by rfl, fun W hW => exec_load1 rfl rfl (by kernel_rfl) (hW.1.cell 1)⟩) hS0 ?_
  simp only [Act.put, List.setIfInBounds_toArray, List.set_cons_zero, List.set_cons_succ]
  refine alw_take (i := 4) (v := .pointer (some ⟨b, off, none⟩)) rfl (by kernel_rfl) (by kernel_rfl) (fun _ _ _ h => h) (.inl ⟨by rfl, fun W hW => gx_iaddr (i := 0) (sz := 3) rfl rfl rfl Try.underlying57 size_ra HN1.out (by omega)⟩) hS0 ?_
  simp only [Act.put, List.setIfInBounds_toArray, List.set_cons_zero, List.set_cons_succ]
  refine alw_take (i := 5) (v := .pointer (some ⟨b, off, none⟩)) rfl (by kernel_rfl) (by kernel_rfl) (fun _ _ _ h => h) (.inl ⟨by rfl, fun W hW => exec_field (off := off) (d := 0) rfl rfl (by kernel_rfl)⟩) hS0 ?_
  simp only [Act.put, List.setIfInBounds_toArray, List.set_cons_zero, List.set_cons_succ]
  refine alw_take (i := 6) (v := strV x.nm) rfl (by kernel_rfl) (by kernel_rfl) (fun _ _ _ h => h) (.inl ⟨by rfl, fun W hW => exec_load1 rfl rfl (by kernel_rfl) (hW.2 0 _ rfl)⟩) hS0 ?_
  simp only [Act.put, List.setIfInBounds_toArray, List.set_cons_zero, List.set_cons_succ]
  refine alw_take (i := 7) (v := .pointer (some ⟨y, 0, none⟩)) rfl (by kernel_rfl) (by kernel_rfl) (fun _ _ _ h => h) (.inl ⟨by rfl, fun W hW => exec_move rfl rfl⟩) hS0 ?_
  simp only [Act.put, List.setIfInBounds_toArray, List.set_cons_zero, List.set_cons_succ]
  refine alw_take (i := 8) (v := .pointer (some ⟨y, 0, none⟩)) rfl (by kernel_rfl) (by kernel_rfl) (fun _ _ _ h => h) (.inl ⟨by rfl, fun W hW => exec_nil rfl rfl⟩) hS0 ?_
  simp only [Act.put, List.setIfInBounds_toArray, List.set_cons_zero, List.set_cons_succ]
  refine alw_take (i := 9) (v := .pointer (some ⟨y, 1, none⟩)) rfl (by kernel_rfl) (by kernel_rfl) (fun _ _ _ h => h) (.inl ⟨by rfl, fun W hW => exec_field (off := 0) (d := 1) rfl rfl (by kernel_rfl)⟩) hS0 ?_
  simp only [Act.put, List.setIfInBounds_toArray, List.set_cons_zero, List.set_cons_succ]
  refine alw_take (i := 10) (v := .slice (some ⟨b, off, none⟩) n c) rfl (by kernel_rfl) (by kernel_rfl) (fun _ _ _ h => h) (.inl ⟨by rfl, fun W hW => exec_load1 rfl rfl (by kernel_rfl) (hW.1.cell 1)⟩) hS0 ?_
  simp only [Act.put, List.setIfInBounds_toArray, List.set_cons_zero, List.set_cons_succ]
  refine alw_take (i := 11) (v := .pointer (some ⟨b, off, none⟩)) rfl (by kernel_rfl) (by kernel_rfl) (fun _ _ _ h => h) (.inl ⟨by rfl, fun W hW => gx_iaddr (i := 0) (sz := 3) rfl rfl rfl Try.underlying57 size_ra HN1.out (by omega)⟩) hS0 ?_
  simp only [Act.put, List.setIfInBounds_toArray, List.set_cons_zero, List.set_cons_succ]
  refine alw_take (i := 12) (v := .pointer (some ⟨b, off + 1, none⟩)) rfl (by kernel_rfl) (by kernel_rfl) (fun _ _ _ h => h) (.inl ⟨by rfl, fun W hW => exec_field (off := off) (d := 1) rfl rfl (by kernel_rfl)⟩) hS0 ?_
  simp only [Act.put, List.setIfInBounds_toArray, List.set_cons_zero, List.set_cons_succ]
  refine alw_take (i := 13) (v := .agg #[.int .i64 x.ty, .slice x.A x.k x.c]) rfl (by kernel_rfl) (by kernel_rfl) (fun _ _ _ h => h) (.inl ⟨by rfl, fun W hW => gx_loads (cs := [.int .i64 x.ty, .slice x.A x.k x.c]) rfl rfl (fun j v2 hj => by have := hW.2 (j + 1) v2 (by simpa [Adx.cs] using hj); rwa [show off + (j + 1) = off + 1 + j from by omega] at this) Try.underlying35 rfl (by rw [size_msg]; rfl)⟩) hS0 ?_
  simp only [Act.put, List.setIfInBounds_toArray, List.set_cons_zero, List.set_cons_succ]
  refine alw_take (i := 14) (v := strV x.nm) rfl (by kernel_rfl) (by kernel_rfl) (fun _ _ _ h => h) (.inl ⟨by rfl, fun W hW => gx_assign rfl rfl⟩) hS0 ?_
  simp only [Act.put, List.setIfInBounds_toArray, List.set_cons_zero, List.set_cons_succ]
  clear hS0
  refine alw_step (i := 15) (by kernel_rfl) rfl rfl ?_
  intro K1 HK1
  refine wp_store_rowU 35 (.tmp 3) (.tmp 34) rfl (#[.int .i64 x.ty, .slice x.A x.k x.c]) HBrd.out rfl rfl rfl (by rw [size_msg] <;> rfl) (msgA_one _ _ _ _) ?_
  intro w7 hb_ ht_
  have HBr7 := Lib.hid hb_
  have HT7 := Lib.hid ht_
  clear hb_ ht_
  have HS7 := Lib.hid (And.intro (HBd.out.turn HT7.out fun e => (show ¬ y = r from HBd.out.ne_ HBrd.out (by decide)) e) (show w7.rangeAt b off x.cs from fun j v2 hj => (HT7.out.cell (World.block_lt_of_cell? _ _ (HAd.out j v2 hj)) fun e => HBR0.out (show b = r from e)).trans (HAd.out j v2 hj)))
  refine HK1.out _ _ ⟨HS7.out, ?_⟩
  clear HK1
  try simp only [Act.put, List.setIfInBounds_toArray, List.set_cons_zero, List.set_cons_succ]
  have hS0 := HS7.out
  refine alw_take (i := 16) (v := .bool true) rfl (by kernel_rfl) (by kernel_rfl) (fun _ _ _ h => h) (.inl ⟨by rfl, fun W hW => gx_assign rfl rfl⟩) hS0 ?_
  simp only [Act.put, List.setIfInBounds_toArray, List.set_cons_zero, List.set_cons_succ]
  refine alw_done rfl ?_
  refine NoPanic.normal ?_
  clear hS0
  try simp only [Act.put, List.setIfInBounds_toArray, List.set_cons_zero, List.set_cons_succ]
  have HT8 := Lib.hid ((HT2.out.trans HD.out fun _ _ e => e.elim).trans HT7.out fun k hk e => by
    have e : k = r := e
    have := HLr.out
    omega)
  have HQ8 := Lib.hid ((HQ2.out.still HD.out).turn HT7.out (fun e => (show ¬ y = r from HBd.out.ne_ HBrd.out (by decide)) e) (fun k cur hk e => (show ¬ k = r from hk.ne_ HBrd.out (by decide)) e) fun k cur hk _ e => (show ¬ k = r from hk.ne_ HBrd.out (by decide)) e)
  go_wp2_with fail
  refine bodyPost_ret (v := .tuple #[strV x.nm, .agg #[.int .i64 x.ty, .slice x.A x.k x.c], .bool true]) (ret_cell3 rfl _ _ r _ _ _ rfl rfl rfl HBr7.out Try.underlying35 rfl (by rw [size_msg] <;> rfl)) rfl ?_
  exact ⟨HE.out _ _ rfl HT8.out, HQ8.out, HT8.out⟩
end Go.Proofs.Ytkcedcllefcboaa
