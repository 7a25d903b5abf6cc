/-
  SafPlays: the walk. No conditions.
-/
import Derived.Test.YtkcedcllefcboaaSfP
import Derived.Deep.Cut
namespace Go.Proofs.Ytkcedcllefcboaa
open Go.RowKit
set_option linter.unusedVariables false
set_option linter.unusedSimpArgs false
set_option maxRecDepth 20000
theorem size_sop : (Try.prog.info? 37).map (·.size) = some 4 := by kernel_rfl
theorem zero_sop (w : World) : (zeroValue 37).run Try.prog w = .ok (.agg #[.int .i64 0, strV [], .int .i64 0, .slice none 0 0]) w := by kernel_rfl
theorem sop_one (o : SOp) : ∀ v ∈ o.cells.toArray.toList, v.oneCell' = true := fun v hv => by
  have hv : v ∈ [Value.int .i64 o.kd, strV o.nm, .int .i64 o.ty, .slice o.A o.n o.c] := hv
  simp only [List.mem_cons, List.not_mem_nil, or_false] at hv
  rcases hv with rfl | rfl | rfl | rfl <;> rfl
theorem bx_neb {a : Act} {o : Oper} {W : World} {x y : Operand} {p q : Bool} (ho : o.op = .binOp .neq 4 x y 4) (hx : a.eval x = .bool p) (hy : a.eval y = .bool q) : (execOp a.eval o).run Try.prog W = .ok (.value (.bool (!(p == q)))) W := by
  unfold execOp
  simp only [ho, hx, hy]
  cases p <;> cases q <;> go_simp
theorem ptr_eqz {a : Act} {o : Oper} {W : World} {x y : Operand} {t u : TypeId} (ht : t = 24 ∨ t = 28) (ho : o.op = .binOp .eql t x y u) (hx : a.eval x = .pointer none) (hy : a.eval y = .pointer none) : (execOp a.eval o).run Try.prog W = .ok (.value (.bool true)) W := by
  unfold execOp
  simp only [ho, hx, hy]
  rcases ht with rfl | rfl <;> go_simp
def NQ (N M : Nat) : Nat → Prop := fun k => k < N ∨ M ≤ k
set_option maxRecDepth 20000 in
set_option maxHeartbeats 4000000 in
theorem plays_main (m0 : Int) (A : Option Addr) (n c : Nat) (os : List SOp) (w : World) (ho : OpAt w A n os) : Calls Try.prog 3 #[.int .i64 m0, .slice A n c] w fun e w' => e = .returned (.bool true) ∧ Turn nowhere w w' := by
  have HO := Lib.hid ho
  have HOL := Lib.hid ho.len
  have yn : n ≤ 140737488355328 := ho.row.2.2.1
  clear ho
  go_enter Try.func3, Try.ntmps3
  go_upto_region 0 with fail
  refine wp_region_lit ?_
  refine wpList_run (v := .bool false) (wanted_none rfl) (gx_assign rfl rfl) ?_
  simp only [Act.put, List.setIfInBounds_toArray, List.set_cons_zero, List.set_cons_succ]
  go_upto_region 1 with fail
  refine wp_region_lit ?_
  refine wpList_op (wanted_none rfl) fun K9 HK9 => ?_
  go_wp2_with fail
  refine (shown_walk w).mono ?_
  rintro e w1 ⟨rfl, ht⟩
  refine HK9.out _ _ ?_
  clear HK9
  try simp only [Act.put, List.setIfInBounds_toArray, List.set_cons_zero, List.set_cons_succ]
  have HT1 := Lib.hid ht
  clear ht
  refine wpList_run (v := .bool true) (wanted_none rfl) (gx_assign rfl rfl) ?_
  simp only [Act.put, List.setIfInBounds_toArray, List.set_cons_zero, List.set_cons_succ]
  by_cases hok : okN m0
  · obtain ⟨m, rfl⟩ : ∃ m : Nat, m0 = (m : Int) := ⟨m0.toNat, by have := hok.1; omega⟩
    have ym : 1 ≤ m ∧ m ≤ 16 := by unfold okN at hok; omega
    clear hok
    go_upto_region 2 with fail
    refine wp_region_lit ?_
    refine wpList_run (v := .int .i64 (m : Int)) (wanted_none rfl) (exec_move rfl rfl) ?_
    simp only [Act.put, List.setIfInBounds_toArray, List.set_cons_zero, List.set_cons_succ]
    refine wpList_op (wanted_none rfl) fun K9 HK9 => ?_
    go_wp2_with fail
    refine (New_ok ym w1).mono ?_
    rintro e w2 ⟨x0, rfl, hx1, hx2, hx3⟩
    refine HK9.out _ _ ?_
    clear HK9
    try simp only [Act.put, List.setIfInBounds_toArray, List.set_cons_zero, List.set_cons_succ]
    have HX1 := Lib.hid hx1
    have HX2 := Lib.hid (hx2 (fun _ => True))
    have HT2 := Lib.hid (HT1.out.trans hx3 fun _ _ e => e)
    clear hx1 hx2 hx3
    refine wpList_run (v := .tuple #[.pointer (some ⟨x0, 0, none⟩), .int .i64 0]) (wanted_none rfl) (exec_move rfl rfl) ?_
    simp only [Act.put, List.setIfInBounds_toArray, List.set_cons_zero, List.set_cons_succ]
    refine wpList_run (v := .pointer (some ⟨x0, 0, none⟩)) (wanted_none rfl) (ix_extract rfl rfl rfl) ?_
    simp only [Act.put, List.setIfInBounds_toArray, List.set_cons_zero, List.set_cons_succ]
    refine wpList_run (v := .int .i64 0) (wanted_none rfl) (ix_extract rfl rfl rfl) ?_
    simp only [Act.put, List.setIfInBounds_toArray, List.set_cons_zero, List.set_cons_succ]
    refine wpList_run (v := .pointer (some ⟨x0, 0, none⟩)) (wanted_none rfl) (gx_assign rfl rfl) ?_
    simp only [Act.put, List.setIfInBounds_toArray, List.set_cons_zero, List.set_cons_succ]
    refine wpList_run (v := .int .i64 0) (wanted_none rfl) (gx_assign rfl rfl) ?_
    simp only [Act.put, List.setIfInBounds_toArray, List.set_cons_zero, List.set_cons_succ]
    go_upto_region 3 with fail
    refine wp_region_lit ?_
    refine wpList_run (v := .int .i64 (m : Int)) (wanted_none rfl) (exec_move rfl rfl) ?_
    simp only [Act.put, List.setIfInBounds_toArray, List.set_cons_zero, List.set_cons_succ]
    refine wpList_op (wanted_none rfl) fun K9 HK9 => ?_
    go_wp2_with fail
    refine (rNew_ok ym w2).mono ?_
    rintro e w3 ⟨y0, rfl, hy1, hy2, hy3⟩
    refine HK9.out _ _ ?_
    clear HK9
    try simp only [Act.put, List.setIfInBounds_toArray, List.set_cons_zero, List.set_cons_succ]
    have HY1 := Lib.hid hy1
    have HY2 := Lib.hid (hy2 (fun _ => True))
    have HX3 := Lib.hid (HX2.out.still hy3)
    have HT3 := Lib.hid (HT2.out.trans hy3 fun _ _ e => e)
    clear hy1 hy2 hy3
    refine wpList_run (v := .tuple #[.pointer (some ⟨y0, 0, none⟩), .int .i64 0]) (wanted_none rfl) (exec_move rfl rfl) ?_
    simp only [Act.put, List.setIfInBounds_toArray, List.set_cons_zero, List.set_cons_succ]
    refine wpList_run (v := .pointer (some ⟨y0, 0, none⟩)) (wanted_none rfl) (ix_extract rfl rfl rfl) ?_
    simp only [Act.put, List.setIfInBounds_toArray, List.set_cons_zero, List.set_cons_succ]
    refine wpList_run (v := .int .i64 0) (wanted_none rfl) (ix_extract rfl rfl rfl) ?_
    simp only [Act.put, List.setIfInBounds_toArray, List.set_cons_zero, List.set_cons_succ]
    refine wpList_run (v := .pointer (some ⟨y0, 0, none⟩)) (wanted_none rfl) (gx_assign rfl rfl) ?_
    simp only [Act.put, List.setIfInBounds_toArray, List.set_cons_zero, List.set_cons_succ]
    refine wpList_run (v := .int .i64 0) (wanted_none rfl) (gx_assign rfl rfl) ?_
    simp only [Act.put, List.setIfInBounds_toArray, List.set_cons_zero, List.set_cons_succ]
    go_upto_region 4 with fail
    refine wp_region_lit ?_
    refine wpList_run (v := .bool true) (wanted_none rfl) (exec_move rfl rfl) ?_
    simp only [Act.put, List.setIfInBounds_toArray, List.set_cons_zero, List.set_cons_succ]
    refine wpList_run (v := .bool false) (wanted_none rfl) (ix_not (b := true) rfl rfl) ?_
    simp only [Act.put, List.setIfInBounds_toArray, List.set_cons_zero, List.set_cons_succ]
    refine wpList_run (v := .bool false) (wanted_none rfl) (exec_move rfl rfl) ?_
    simp only [Act.put, List.setIfInBounds_toArray, List.set_cons_zero, List.set_cons_succ]
    refine wpList_run (v := .int .i64 0) rfl (exec_move rfl rfl) ?_
    simp only [Act.put, List.setIfInBounds_toArray, List.set_cons_zero, List.set_cons_succ]
    refine wpList_run (v := .int .i64 0) rfl (exec_move rfl rfl) ?_
    simp only [Act.put, List.setIfInBounds_toArray, List.set_cons_zero, List.set_cons_succ]
    refine wpList_run (v := .bool false) rfl (ix_neq rfl rfl rfl (by decide)) ?_
    simp only [Act.put, List.setIfInBounds_toArray, List.set_cons_zero, List.set_cons_succ]
    refine wpList_run (v := .bool false) (wanted_none rfl) (ix_pickF rfl rfl rfl) ?_
    simp only [Act.put, List.setIfInBounds_toArray, List.set_cons_zero, List.set_cons_succ]
    refine wpList_run (v := .bool false) (wanted_none rfl) (exec_move rfl rfl) ?_
    simp only [Act.put, List.setIfInBounds_toArray, List.set_cons_zero, List.set_cons_succ]
    refine wpList_run (v := .pointer (some ⟨x0, 0, none⟩)) rfl (exec_move rfl rfl) ?_
    simp only [Act.put, List.setIfInBounds_toArray, List.set_cons_zero, List.set_cons_succ]
    refine wpList_run (v := .bool false) rfl (ptr_eqf (by decide) rfl rfl rfl) ?_
    simp only [Act.put, List.setIfInBounds_toArray, List.set_cons_zero, List.set_cons_succ]
    refine wpList_run (v := .pointer (some ⟨y0, 0, none⟩)) rfl (exec_move rfl rfl) ?_
    simp only [Act.put, List.setIfInBounds_toArray, List.set_cons_zero, List.set_cons_succ]
    refine wpList_run (v := .bool false) rfl (ptr_eqf (by decide) rfl rfl rfl) ?_
    simp only [Act.put, List.setIfInBounds_toArray, List.set_cons_zero, List.set_cons_succ]
    refine wpList_run (v := .bool false) rfl (bx_neb (p := false) (q := false) rfl rfl rfl) ?_
    simp only [Act.put, List.setIfInBounds_toArray, List.set_cons_zero, List.set_cons_succ]
    refine wpList_run (v := .bool false) (wanted_none rfl) (ix_pickF rfl rfl rfl) ?_
    simp only [Act.put, List.setIfInBounds_toArray, List.set_cons_zero, List.set_cons_succ]
    go_upto_region 6 with fail
    refine wp_region_lit ?_
    refine wpList_run (v := .pointer (some ⟨y0, 0, none⟩)) (wanted_none rfl) (exec_move rfl rfl) ?_
    simp only [Act.put, List.setIfInBounds_toArray, List.set_cons_zero, List.set_cons_succ]
    refine wpList_run (v := .bool false) (wanted_none rfl) (ptr_eqf (by decide) rfl rfl rfl) ?_
    simp only [Act.put, List.setIfInBounds_toArray, List.set_cons_zero, List.set_cons_succ]
    go_upto_region 8 with fail
    refine wp_region_lit ?_
    refine wpList_run (v := .pointer (some ⟨x0, 0, none⟩)) (wanted_none rfl) (exec_move rfl rfl) ?_
    simp only [Act.put, List.setIfInBounds_toArray, List.set_cons_zero, List.set_cons_succ]
    refine wpList_op (wanted_none rfl) fun K9 HK9 => ?_
    go_wp2_with fail
    refine (Clone_walk HX3.out).mono ?_
    rintro e w4 ⟨z0, g0, rfl, hz1, hz2, hz3, hz4⟩
    refine HK9.out _ _ ?_
    clear HK9
    try simp only [Act.put, List.setIfInBounds_toArray, List.set_cons_zero, List.set_cons_succ]
    have HZ1 := Lib.hid hz1
    have HZ2 := Lib.hid hz2
    have HZ3 := Lib.hid hz3
    have HX4 := Lib.hid (HX3.out.still hz4)
    have HY4 := Lib.hid (HY2.out.still hz4)
    have HT4 := Lib.hid (HT3.out.trans hz4 fun _ _ e => e)
    clear hz1 hz2 hz3 hz4
    refine wpList_run (v := .pointer (some ⟨z0, 0, none⟩)) (wanted_none rfl) (gx_assign rfl rfl) ?_
    simp only [Act.put, List.setIfInBounds_toArray, List.set_cons_zero, List.set_cons_succ]
    go_upto_region 9 with fail
    refine wp_region_lit ?_
    refine wpList_run (v := .pointer (some ⟨y0, 0, none⟩)) (wanted_none rfl) (exec_move rfl rfl) ?_
    simp only [Act.put, List.setIfInBounds_toArray, List.set_cons_zero, List.set_cons_succ]
    refine wpList_op (wanted_none rfl) fun K9 HK9 => ?_
    go_wp2_with fail
    refine (rClone_walk HY4.out).mono ?_
    rintro e w5 ⟨u0, rfl, hu1, hu2, hu3⟩
    refine HK9.out _ _ ?_
    clear HK9
    try simp only [Act.put, List.setIfInBounds_toArray, List.set_cons_zero, List.set_cons_succ]
    have HF0 := Lib.hid (show Fo w w5 (fun _ => True) x0 none z0 (some g0) y0 u0 m ([], false) ([], false) ([], false) ([], false) from by
      obtain ⟨_, hxb⟩ := HX4.out.box
      obtain ⟨_, hxb3⟩ := HX3.out.box
      obtain ⟨_, hyb⟩ := HY4.out.box
      have h1 := hxb3.lt
      have h2 := hyb.lt
      have h3 := HT1.out.size
      have h4 := HT2.out.size
      have h5 := HT3.out.size
      have h6 := HT4.out.size
      have h7 := HX1.out
      have h8 := HY1.out
      have h9 := HZ2.out
      have h10 := HZ3.out
      exact ⟨HX4.out.still hu3, HZ1.out.still hu3, HY4.out.still hu3, hu1, by omega, by omega, fun k hk => (by cases hk), ⟨by omega, by omega, by omega, by omega, fun k hk => (by cases hk), fun k hk => by injection hk with hk; omega⟩, HT4.out.trans hu3 fun _ _ e => e⟩)
    clear hu1 hu2 hu3 HX1 HX2 HX3 HX4 HY1 HY2 HY4 HZ1 HZ2 HZ3 HT1 HT2 HT3 HT4
    refine wpList_run (v := .pointer (some ⟨u0, 0, none⟩)) (wanted_none rfl) (gx_assign rfl rfl) ?_
    simp only [Act.put, List.setIfInBounds_toArray, List.set_cons_zero, List.set_cons_succ]
    go_upto_region 10 with fail
    refine wp_region_lit ?_
    refine wpList_run (v := .pointer (some ⟨z0, 0, none⟩)) (wanted_none rfl) (exec_move rfl rfl) ?_
    simp only [Act.put, List.setIfInBounds_toArray, List.set_cons_zero, List.set_cons_succ]
    refine wpList_run (v := .bool false) (wanted_none rfl) (ptr_eqf (by decide) rfl rfl rfl) ?_
    simp only [Act.put, List.setIfInBounds_toArray, List.set_cons_zero, List.set_cons_succ]
    go_upto_region 12 with fail
    refine wp_region_lit ?_
    refine wpList_run (v := .int .i64 0) (wanted_none rfl) (gx_assign rfl rfl) ?_
    simp only [Act.put, List.setIfInBounds_toArray, List.set_cons_zero, List.set_cons_succ]
    obtain ⟨mm, hmm⟩ : ∃ mm, mm = min n 100 := ⟨_, rfl⟩
    have ymm : mm ≤ 100 ∧ mm ≤ n ∧ (mm = n ∨ mm = 100) := by omega
    clear hmm
    go_wp2_with fail
    go_loopg [6, 8, 10, 11, 12] mm (fun gk xv yv zv uv iv wr => ∃ (j x : Nat) (gx : Option Nat) (z : Nat) (gz : Option Nat) (y u : Nat) (a b : Qs), xv = .pointer (some ⟨x, 0, none⟩) ∧ yv = .pointer (some ⟨y, 0, none⟩) ∧ zv = .pointer (some ⟨z, 0, none⟩) ∧ uv = .pointer (some ⟨u, 0, none⟩) ∧ iv = .int .i64 (j : Int) ∧ j + gk = mm ∧ Fo w wr (fun _ => True) x gx z gz y u m a b a b)
    case atStart => exact ⟨0, x0, none, z0, some g0, y0, u0, _, _, rfl, rfl, rfl, rfl, rfl, by omega, HF0.out⟩
    clear HF0
    obtain ⟨j, x, gx, z, gz, y, u, a, b, rfl, rfl, rfl, rfl, rfl, hjl, hf⟩ := hrel
    have HJL := Lib.hid hjl
    have HF := Lib.hid hf
    clear hjl hf
    by_cases hlt : j < mm
    · go_upto_region 13 with fail
      refine wp_region_lit ?_
      refine wpList_run (v := .int .i64 (j : Int)) (wanted_none rfl) (exec_move rfl rfl) ?_
      simp only [Act.put, List.setIfInBounds_toArray, List.set_cons_zero, List.set_cons_succ]
      refine wpList_run (v := .slice A n c) (wanted_none rfl) (exec_move rfl rfl) ?_
      simp only [Act.put, List.setIfInBounds_toArray, List.set_cons_zero, List.set_cons_succ]
      refine wpList_run (v := .int .i64 (n : Int)) (wanted_none rfl) (gx_len rfl rfl Try.underlying22) ?_
      simp only [Act.put, List.setIfInBounds_toArray, List.set_cons_zero, List.set_cons_succ]
      refine wpList_run (v := .bool true) (wanted_none rfl) (ix_lss rfl rfl rfl (decide_eq_true (by omega))) ?_
      simp only [Act.put, List.setIfInBounds_toArray, List.set_cons_zero, List.set_cons_succ]
      refine wpList_run (v := .bool true) (wanted_none rfl) (exec_move rfl rfl) ?_
      simp only [Act.put, List.setIfInBounds_toArray, List.set_cons_zero, List.set_cons_succ]
      refine wpList_run (v := .int .i64 (j : Int)) rfl (exec_move rfl rfl) ?_
      simp only [Act.put, List.setIfInBounds_toArray, List.set_cons_zero, List.set_cons_succ]
      refine wpList_run (v := .bool true) rfl (ix_lss rfl rfl rfl (decide_eq_true (by omega))) ?_
      simp only [Act.put, List.setIfInBounds_toArray, List.set_cons_zero, List.set_cons_succ]
      refine wpList_run (v := .bool true) (wanted_none rfl) (ix_pickT rfl rfl rfl) ?_
      simp only [Act.put, List.setIfInBounds_toArray, List.set_cons_zero, List.set_cons_succ]
      have HLT := Lib.hid (show j < n from by omega)
      have HLX := Lib.hid hlt
      have yj : j < mm := hlt
      obtain ⟨o, ho⟩ : ∃ o, os[j]? = some o := ⟨os[j]'(by rw [HOL.out]; omega), List.getElem?_eq_getElem (by rw [HOL.out]; omega)⟩
      obtain ⟨bA, oA, rfl, hc⟩ := (HO.out.still HF.out.tn).rng ho
      have HC := Lib.hid hc
      have HOK := Lib.hid (HO.out.ok o (List.mem_of_getElem? ho))
      clear hlt ho hc
      go_upto_region 15 with fail
      refine wp_region_lit ?_
      refine wpList_run (v := .slice (some ⟨bA, oA, none⟩) n c) (wanted_none rfl) (exec_move rfl rfl) ?_
      simp only [Act.put, List.setIfInBounds_toArray, List.set_cons_zero, List.set_cons_succ]
      refine wpList_run (v := .int .i64 (j : Int)) (wanted_none rfl) (exec_move rfl rfl) ?_
      simp only [Act.put, List.setIfInBounds_toArray, List.set_cons_zero, List.set_cons_succ]
      refine wpList_run (v := .pointer (some ⟨bA, oA + j * 4, none⟩)) (wanted_none rfl) (gx_iaddr (i := j) (sz := 4) rfl rfl rfl Try.underlying22 size_sop HLT.out (by omega)) ?_
      simp only [Act.put, List.setIfInBounds_toArray, List.set_cons_zero, List.set_cons_succ]
      refine wpList_run (v := .agg o.cells.toArray) (wanted_none rfl) (gx_loads rfl rfl HC.out Try.underlying37 rfl (by rw [size_sop]; rfl)) ?_
      simp only [Act.put, List.setIfInBounds_toArray, List.set_cons_zero, List.set_cons_succ]
      refine wpList_new 37 (.tmp 13) (.tmp 76) o.cells.toArray (wanted_none rfl) rfl (zero_sop _) rfl (wanted_none rfl) rfl rfl rfl rfl (by rw [size_sop]; rfl) (sop_one o) ?_
      intro w3 v hvl hbx hux
      simp only [Act.put, List.setIfInBounds_toArray, List.set_cons_zero, List.set_cons_succ]
      have HBv := Lib.hid hbx
      obtain ⟨N, hN⟩ : ∃ N, N = w3.heap.size := ⟨_, rfl⟩
      have HNS := Lib.hid hN
      have HF3 := Lib.hid ((HF.out.still hux).mono (Z' := fun k => k < N) fun k hk _ => by rw [hN]; exact hk)
      have HWN := Lib.hid (show w.heap.size ≤ N from by rw [hN]; exact HF3.out.tn.size)
      clear hbx hux HC HF hvl hN
      go_upto_region 16 with fail
      refine wp_region_lit ?_
      refine wpList_run (v := .pointer (some ⟨v, 0, none⟩)) (wanted_none rfl) (exec_field (off := 0) (d := 0) rfl rfl (by kernel_rfl)) ?_
      simp only [Act.put, List.setIfInBounds_toArray, List.set_cons_zero, List.set_cons_succ]
      refine wpList_run (v := .int .i64 o.kd) (wanted_none rfl) (exec_load1 rfl rfl (by kernel_rfl) (HBv.out.cell 0)) ?_
      simp only [Act.put, List.setIfInBounds_toArray, List.set_cons_zero, List.set_cons_succ]
      refine wpList_op (wanted_none rfl) fun K9 HK9 => ?_
      go_wp2_with fail
      refine (kind_walk o.kd w3 HOK.out.kd).mono ?_
      rintro e w3 ⟨kk, rfl, hk8, rfl⟩
      refine HK9.out _ _ ?_
      clear HK9
      try simp only [Act.put, List.setIfInBounds_toArray, List.set_cons_zero, List.set_cons_succ]
      have yk8 : kk < 8 := hk8
      have HKW := Lib.hid (fun W => kind_walk o.kd W HOK.out.kd)
      clear hk8
      go_upto_region 17 with fail
      refine wp_region_lit ?_
      refine wpList_run (v := .bool (decide ((kk : Int) = 0))) (wanted_none rfl) (ix_eql rfl rfl rfl rfl) ?_
      simp only [Act.put, List.setIfInBounds_toArray, List.set_cons_zero, List.set_cons_succ]
      refine wpList_run (v := .bool (decide ((kk : Int) = 0))) (wanted_none rfl) (gx_assign rfl rfl) ?_
      simp only [Act.put, List.setIfInBounds_toArray, List.set_cons_zero, List.set_cons_succ]
      go_upto_if 80 with fail
      go_cut [80] from 81 to 83 (fun kv wx => kv = .bool (decide (0 ≤ kk ∧ kk ≤ 2)) ∧ w3 = wx)
      case first =>
        by_cases hc0 : (kk : Int) = 0
        · rw [decide_eq_true hc0]
          go_wp2_with fail
          go_meet
          exact ⟨by rw [decide_eq_true (by omega)], rfl⟩
        · rw [decide_eq_false hc0]
          go_upto_region 18 with fail
          refine wp_region_lit ?_
          refine wpList_run (v := .bool (decide ((kk : Int) = 1))) (wanted_none rfl) (ix_eql rfl rfl rfl rfl) ?_
          simp only [Act.put, List.setIfInBounds_toArray, List.set_cons_zero, List.set_cons_succ]
          refine wpList_run (v := .bool (decide ((kk : Int) = 1))) (wanted_none rfl) (gx_assign rfl rfl) ?_
          simp only [Act.put, List.setIfInBounds_toArray, List.set_cons_zero, List.set_cons_succ]
          by_cases hc1 : (kk : Int) = 1
          · rw [decide_eq_true hc1]
            go_wp2_with fail
            go_meet
            exact ⟨by rw [decide_eq_true (by omega)], rfl⟩
          · rw [decide_eq_false hc1]
            go_upto_region 19 with fail
            refine wp_region_lit ?_
            refine wpList_run (v := .bool (decide ((kk : Int) = 2))) (wanted_none rfl) (ix_eql rfl rfl rfl rfl) ?_
            simp only [Act.put, List.setIfInBounds_toArray, List.set_cons_zero, List.set_cons_succ]
            refine wpList_run (v := .bool (decide ((kk : Int) = 2))) (wanted_none rfl) (gx_assign rfl rfl) ?_
            simp only [Act.put, List.setIfInBounds_toArray, List.set_cons_zero, List.set_cons_succ]
            by_cases hc2 : (kk : Int) = 2
            · rw [decide_eq_true hc2]
              go_wp2_with fail
              go_meet
              exact ⟨by rw [decide_eq_true (by omega)], rfl⟩
            · rw [decide_eq_false hc2]
              go_wp2_with fail
              go_meet
              exact ⟨by rw [decide_eq_false (by omega)], rfl⟩
      obtain ⟨rfl, hw⟩ := hcut
      subst hw
      by_cases h02 : 0 ≤ kk ∧ kk ≤ 2
      · as_aux_lemma =>
          rw [decide_eq_true h02]
          clear h02
          have HOK3 := Lib.hid (HOK.out.still HF3.out.tn)
          have HRM := Lib.hid (show o.n * 24 ≤ 140737488355328 from HOK.out.fs.2)
          go_upto_region 20 with fail
          go_cut [14] from 84 to 92 (fun ov wx => ∃ (go : Nat) (A7 : Option Addr) (c7 : Nat), ov = .pointer (some ⟨go, 0, none⟩) ∧ Blk wx go 35 #[.int .i64 o.ty, .slice A7 o.n c7] ∧ Fr wx w3.heap.size (.slice A7 o.n c7) o.fs ∧ Turn nowhere w3 wx ∧ w3.heap.size ≤ go)
          case first =>
            have HD := Lib.hid ((Turn.refl nowhere w3).drew)
            refine wp_region_alw (fun W => Blk W v 37 o.cells.toArray) (by kernel_rfl) ?_
            have hS0 : (fun W => Blk W v 37 o.cells.toArray) w3.drew := HBv.out.drew
            have HFd := Lib.hid ((Lib.hid HOK3.out.fs).out.still HD.out)
            have HSd := Lib.hid hS0
            have HSZ := Lib.hid (show w3.drew.heap.size = w3.heap.size from rfl)
            have HST := Lib.hid (show ∀ w', Turn nowhere w3.drew w' → (fun W => Blk W v 37 o.cells.toArray) w' from fun w' ht => hS0.turn ht fun e => e)
            generalize w3.drew = wd at *
            refine alw_take (i := 0) (v := .pointer (some ⟨v, 2, none⟩)) rfl (by kernel_rfl) (by kernel_rfl) (fun _ _ _ h => h) (.inl ⟨by rfl, fun W hW => exec_field (off := 0) (d := 2) rfl rfl (by kernel_rfl)⟩) hS0 ?_
            simp only [Act.put, List.setIfInBounds_toArray, List.set_cons_zero, List.set_cons_succ]
            refine alw_take (i := 1) (v := .pointer (some ⟨v, 2, none⟩)) rfl (by kernel_rfl) (by kernel_rfl) (fun _ _ _ h => h) (.inl ⟨by rfl, fun W hW => exec_field (off := 2) (d := 0) rfl rfl (by kernel_rfl)⟩) hS0 ?_
            simp only [Act.put, List.setIfInBounds_toArray, List.set_cons_zero, List.set_cons_succ]
            refine alw_take (i := 2) (v := .int .i64 o.ty) rfl (by kernel_rfl) (by kernel_rfl) (fun _ _ _ h => h) (.inl ⟨by rfl, fun W hW => exec_load1 rfl rfl (by kernel_rfl) (hW.cell 2)⟩) hS0 ?_
            simp only [Act.put, List.setIfInBounds_toArray, List.set_cons_zero, List.set_cons_succ]
            refine alw_take (i := 4) (v := .pointer (some ⟨v, 2, none⟩)) rfl (by kernel_rfl) (by kernel_rfl) (fun _ _ _ h => h) (.inl ⟨by rfl, fun W hW => exec_field (off := 0) (d := 2) rfl rfl (by kernel_rfl)⟩) hS0 ?_
            simp only [Act.put, List.setIfInBounds_toArray, List.set_cons_zero, List.set_cons_succ]
            refine alw_take (i := 5) (v := .pointer (some ⟨v, 3, none⟩)) rfl (by kernel_rfl) (by kernel_rfl) (fun _ _ _ h => h) (.inl ⟨by rfl, fun W hW => exec_field (off := 2) (d := 1) rfl rfl (by kernel_rfl)⟩) hS0 ?_
            simp only [Act.put, List.setIfInBounds_toArray, List.set_cons_zero, List.set_cons_succ]
            refine alw_take (i := 6) (v := .slice o.A o.n o.c) rfl (by kernel_rfl) (by kernel_rfl) (fun _ _ _ h => h) (.inl ⟨by rfl, fun W hW => exec_load1 rfl rfl (by kernel_rfl) (hW.cell 3)⟩) hS0 ?_
            simp only [Act.put, List.setIfInBounds_toArray, List.set_cons_zero, List.set_cons_succ]
            have HE1 := Lib.hid ((Turn.refl nowhere wd).alloc (.cells #[] 41))
            have HZ1 := Lib.hid ((Turn.refl nowhere wd).alloc (.cells #[.int .i64 0, .slice none 0 0] 35))
            refine alw_two (i := 3) (k := 9) (by kernel_rfl) rfl rfl rfl rfl ?_ ?_
            · intro K1 HK1
              refine wp_run (bx_slice0 rfl (build_f0 _)) ?_
              refine HK1.out _ _ ⟨HST.out _ HE1.out, ?_⟩
              clear HK1
              try simp only [Act.put, List.setIfInBounds_toArray, List.set_cons_zero, List.set_cons_succ]
              have HR1 := Lib.hid (own_madeQ (Turn.refl nowhere wd))
              refine alw_two (i := 7) (k := 9) (by kernel_rfl) rfl rfl rfl rfl ?_ ?_
              · obtain ⟨A5, c5, w5, hrun, hrow, ht5, hgr⟩ := own_appQ (c := o.c) HR1.out HE1.out HFd.out HOK3.out.nil
                intro K1 HK1
                refine wp_run (exec_append rfl rfl rfl hrun) ?_
                refine HK1.out _ _ ⟨HST.out _ ht5, ?_⟩
                clear HK1
                try simp only [Act.put, List.setIfInBounds_toArray, List.set_cons_zero, List.set_cons_succ]
                have hS9 := HST.out _ ht5
                refine alw_take (i := 8) (v := .agg #[.int .i64 o.ty, .slice A5 o.n c5]) rfl (by kernel_rfl) (by kernel_rfl) (fun _ _ _ h => h) (.inl ⟨by rfl, fun W hW => gx_build2 rfl rfl rfl (build_msg2 o.ty A5 o.n c5 W)⟩) hS9 ?_
                simp only [Act.put, List.setIfInBounds_toArray, List.set_cons_zero, List.set_cons_succ]
                refine alw_step (i := 9) (by kernel_rfl) rfl rfl ?_
                intro K1 HK1
                refine wp_run (gx_alloc rfl (zero_msg _)) ?_
                have hta := ht5.alloc (.cells #[.int .i64 0, .slice none 0 0] 35)
                refine HK1.out _ _ ⟨HST.out _ hta, ?_⟩
                clear HK1
                try simp only [Act.put, List.setIfInBounds_toArray, List.set_cons_zero, List.set_cons_succ]
                have hb6 := Blk.new w5 35 #[.int .i64 0, .slice none 0 0]
                have hr6 := Orw.still hrow ((Turn.refl nowhere w5).alloc (.cells #[.int .i64 0, .slice none 0 0] 35))
                refine alw_step (i := 10) (by kernel_rfl) rfl rfl ?_
                intro K1 HK1
                refine wp_store_rowU 35 (.tmp 14) (.tmp 92) rfl #[.int .i64 o.ty, .slice A5 o.n c5] hb6 rfl rfl rfl (by rw [size_msg]; rfl) (msgA_one _ _ _ _) ?_
                intro w7 hb7 hu7
                have hend := own_endQ hr6 hb6 hta ht5.size hu7
                refine HK1.out _ _ ⟨HST.out _ hend.2.1, ?_⟩
                clear HK1
                try simp only [Act.put, List.setIfInBounds_toArray, List.set_cons_zero, List.set_cons_succ]
                refine alw_done rfl ?_
                refine NoPanic.normal ?_
                go_wp2_with fail
                go_meet
                exact ⟨_, A5, c5, rfl, by first | exact hb7 | simpa using hb7, by rw [← HSZ.out]; exact hend.1, HD.out.trans hend.2.1 (fun _ _ e => e), by have := hend.2.2; first | (rw [← HSZ.out]; exact this) | (rw [← HSZ.out]; omega)⟩
              · have hta := HE1.out.alloc (.cells #[.int .i64 0, .slice none 0 0] 35)
                intro K1 HK1
                refine wp_run (gx_alloc rfl (zero_msg _)) ?_
                refine HK1.out _ _ ⟨HST.out _ hta, ?_⟩
                clear HK1
                try simp only [Act.put, List.setIfInBounds_toArray, List.set_cons_zero, List.set_cons_succ]
                have hb6 := Blk.new (wd.alloc (.cells #[] 41)) 35 #[.int .i64 0, .slice none 0 0]
                obtain ⟨A5, c5, w5, hrun, hrow, ht5, hgr⟩ := own_appQ (c := o.c) (Orw.still HR1.out ((Turn.refl nowhere (wd.alloc (.cells #[] 41))).alloc (.cells #[.int .i64 0, .slice none 0 0] 35))) hta HFd.out HOK3.out.nil
                refine alw_step (i := 7) (by kernel_rfl) rfl rfl ?_
                intro K1 HK1
                refine wp_run (exec_append rfl rfl rfl hrun) ?_
                refine HK1.out _ _ ⟨HST.out _ ht5, ?_⟩
                clear HK1
                try simp only [Act.put, List.setIfInBounds_toArray, List.set_cons_zero, List.set_cons_succ]
                have hS9 := HST.out _ ht5
                refine alw_take (i := 8) (v := .agg #[.int .i64 o.ty, .slice A5 o.n c5]) rfl (by kernel_rfl) (by kernel_rfl) (fun _ _ _ h => h) (.inl ⟨by rfl, fun W hW => gx_build2 rfl rfl rfl (build_msg2 o.ty A5 o.n c5 W)⟩) hS9 ?_
                simp only [Act.put, List.setIfInBounds_toArray, List.set_cons_zero, List.set_cons_succ]
                have hb6 := hb6.grown hgr (by simp)
                refine alw_step (i := 10) (by kernel_rfl) rfl rfl ?_
                intro K1 HK1
                refine wp_store_rowU 35 (.tmp 14) (.tmp 92) rfl #[.int .i64 o.ty, .slice A5 o.n c5] hb6 rfl rfl rfl (by rw [size_msg]; rfl) (msgA_one _ _ _ _) ?_
                intro w7 hb7 hu7
                have hend := own_endQ hrow hb6 ht5 (by simp) hu7
                refine HK1.out _ _ ⟨HST.out _ hend.2.1, ?_⟩
                clear HK1
                try simp only [Act.put, List.setIfInBounds_toArray, List.set_cons_zero, List.set_cons_succ]
                refine alw_done rfl ?_
                refine NoPanic.normal ?_
                go_wp2_with fail
                go_meet
                exact ⟨_, A5, c5, rfl, by first | exact hb7 | simpa using hb7, by rw [← HSZ.out]; exact hend.1, HD.out.trans hend.2.1 (fun _ _ e => e), by have := hend.2.2; first | (rw [← HSZ.out]; exact this) | (rw [← HSZ.out]; omega)⟩
            · intro K1 HK1
              refine wp_run (gx_alloc rfl (zero_msg _)) ?_
              refine HK1.out _ _ ⟨HST.out _ HZ1.out, ?_⟩
              clear HK1
              try simp only [Act.put, List.setIfInBounds_toArray, List.set_cons_zero, List.set_cons_succ]
              have hb60 := Blk.new wd 35 #[.int .i64 0, .slice none 0 0]
              have hR1 := own_madeQ HZ1.out
              have hta := HZ1.out.alloc (.cells #[] 41)
              refine alw_step (i := 3) (by kernel_rfl) rfl rfl ?_
              intro K1 HK1
              refine wp_run (bx_slice0 rfl (build_f0 _)) ?_
              refine HK1.out _ _ ⟨HST.out _ hta, ?_⟩
              clear HK1
              try simp only [Act.put, List.setIfInBounds_toArray, List.set_cons_zero, List.set_cons_succ]
              obtain ⟨A5, c5, w5, hrun, hrow, ht5, hgr⟩ := own_appQ (c := o.c) hR1 hta HFd.out HOK3.out.nil
              refine alw_step (i := 7) (by kernel_rfl) rfl rfl ?_
              intro K1 HK1
              refine wp_run (exec_append rfl rfl rfl hrun) ?_
              refine HK1.out _ _ ⟨HST.out _ ht5, ?_⟩
              clear HK1
              try simp only [Act.put, List.setIfInBounds_toArray, List.set_cons_zero, List.set_cons_succ]
              have hS9 := HST.out _ ht5
              refine alw_take (i := 8) (v := .agg #[.int .i64 o.ty, .slice A5 o.n c5]) rfl (by kernel_rfl) (by kernel_rfl) (fun _ _ _ h => h) (.inl ⟨by rfl, fun W hW => gx_build2 rfl rfl rfl (build_msg2 o.ty A5 o.n c5 W)⟩) hS9 ?_
              simp only [Act.put, List.setIfInBounds_toArray, List.set_cons_zero, List.set_cons_succ]
              have hb6 := (hb60.alloc (.cells #[] 41)).grown hgr (by simp)
              refine alw_step (i := 10) (by kernel_rfl) rfl rfl ?_
              intro K1 HK1
              refine wp_store_rowU 35 (.tmp 14) (.tmp 92) rfl #[.int .i64 o.ty, .slice A5 o.n c5] hb6 rfl rfl rfl (by rw [size_msg]; rfl) (msgA_one _ _ _ _) ?_
              intro w7 hb7 hu7
              have hend := own_endQ hrow hb6 ht5 (Nat.le_refl _) hu7
              refine HK1.out _ _ ⟨HST.out _ hend.2.1, ?_⟩
              clear HK1
              try simp only [Act.put, List.setIfInBounds_toArray, List.set_cons_zero, List.set_cons_succ]
              refine alw_done rfl ?_
              refine NoPanic.normal ?_
              go_wp2_with fail
              go_meet
              exact ⟨_, A5, c5, rfl, by first | exact hb7 | simpa using hb7, by rw [← HSZ.out]; exact hend.1, HD.out.trans hend.2.1 (fun _ _ e => e), by have := hend.2.2; first | (rw [← HSZ.out]; exact this) | (rw [← HSZ.out]; omega)⟩
          obtain ⟨go, A7, c7, rfl, hbo, hro, hto, hgo⟩ := hcut
          have HBgo := Lib.hid hbo
          have HFo := Lib.hid hro
          have HTo := Lib.hid hto
          have HLgo := Lib.hid hgo
          clear hbo hro hto hgo
          have HFc := Lib.hid (HF3.out.still HTo.out)
          have HBvc := Lib.hid (HBv.out.turn HTo.out fun e => e)
          have HFQ := Lib.hid (Fr.fq HFo.out HRM.out)
          obtain ⟨E, hE⟩ : ∃ E, E = Sf.putE m a.1 o.nm := ⟨_, rfl⟩
          have HGA0 := Lib.hid (show ∀ g, A7 = some ⟨g, 0, none⟩ → N ≤ g ∧ g < wc.heap.size from fun g hg => by
            have h9 := Orw.lt HFo.out (b := g) (by rw [hg]; rfl)
            rw [HNS.out]
            exact h9)
          have HPQ := Lib.hid (put_q HFc.out.qx o.nm o.ty (fc := c7) HFQ.out HOK3.out.sh HOK3.out.nm)
          unfold msgV at HPQ
          rw [← hE] at HPQ
          go_upto_region 21 with fail
          refine wp_region_lit ?_
          refine wpList_run (v := .pointer (some ⟨x, 0, none⟩)) (wanted_none rfl) (exec_move rfl rfl) ?_
          simp only [Act.put, List.setIfInBounds_toArray, List.set_cons_zero, List.set_cons_succ]
          refine wpList_run (v := .pointer (some ⟨v, 1, none⟩)) (wanted_none rfl) (exec_field (off := 0) (d := 1) rfl rfl (by kernel_rfl)) ?_
          simp only [Act.put, List.setIfInBounds_toArray, List.set_cons_zero, List.set_cons_succ]
          refine wpList_run (v := strV o.nm) (wanted_none rfl) (exec_load1 rfl rfl (by kernel_rfl) (HBvc.out.cell 1)) ?_
          simp only [Act.put, List.setIfInBounds_toArray, List.set_cons_zero, List.set_cons_succ]
          refine wpList_run (v := .agg #[.int .i64 o.ty, .slice A7 o.n c7]) (wanted_none rfl) (gx_loads rfl rfl (blk_range HBgo.out) Try.underlying35 rfl (by rw [size_msg]; rfl)) ?_
          simp only [Act.put, List.setIfInBounds_toArray, List.set_cons_zero, List.set_cons_succ]
          refine wpList_op (wanted_none rfl) fun K9 HK9 => ?_
          go_wp2_with fail
          refine (HPQ.out).mono ?_
          rintro e w5 ⟨rfl, ⟨gx5, hq, hg⟩, ht⟩
          refine HK9.out _ _ ?_
          clear HK9
          try simp only [Act.put, List.setIfInBounds_toArray, List.set_cons_zero, List.set_cons_succ]
          have HF5 := Lib.hid ((HFc.out.cx hq ht (fun k hk => .inl hk) hg).mono (Z' := NQ N wc.heap.size) fun k _ hk => hk)
          have HBv5 := Lib.hid (HBvc.out.turn ht (HFc.out.offx HBvc.out (by decide) (by decide)))
          have HBg5 := Lib.hid (HBgo.out.turn ht (HFc.out.offx HBgo.out (by decide) (by decide)))
          have HW5 := Lib.hid ((show Wr wc N A7 o.n c7 from by rw [HNS.out]; exact Fr.wr HFo.out).turn ht fun k cs hk => HFc.out.offx hk (by decide) (by decide))
          have HGA := Lib.hid (show ∀ g, A7 = some ⟨g, 0, none⟩ → ¬ NQ N wc.heap.size g from fun g hg e => by
            have h9 := HGA0.out g hg
            unfold NQ at e
            omega)
          have HEE := Lib.hid hE
          clear hq hg ht hE HPQ HFc HBvc HFo HFQ HBgo HTo HF3 HBv HGA0 HOK3
          refine wpList_run (v := .int .i64 E) (wanted_none rfl) (gx_assign rfl rfl) ?_
          simp only [Act.put, List.setIfInBounds_toArray, List.set_cons_zero, List.set_cons_succ]
          go_upto_region 22 with fail
          refine wp_region_lit ?_
          refine wpList_run (v := .int .i64 0) (wanted_none rfl) (gx_assign rfl rfl) ?_
          simp only [Act.put, List.setIfInBounds_toArray, List.set_cons_zero, List.set_cons_succ]
          have ynn : o.n ≤ 140737488355328 := by have := HRM.out; omega
          go_wp2_with fail
          go_loopg [16] o.n (fun gk2 iv2 wr2 => ∃ i : Nat, iv2 = .int .i64 (i : Int) ∧ i + gk2 = o.n ∧ Fo w wr2 (NQ N wc.heap.size) x gx5 z gz y u m (Sf.putL m a.1 (o.nm, o.ty, o.fs), a.2) (b) (a) (b) ∧ Wr wr2 N A7 o.n c7 ∧ Blk wr2 go 35 #[.int .i64 o.ty, .slice A7 o.n c7] ∧ Blk wr2 v 37 o.cells.toArray)
          case atStart => exact ⟨0, rfl, by omega, HF5.out, HW5.out, HBg5.out, HBv5.out⟩
          clear HF5 HW5 HBg5 HBv5
          obtain ⟨i, rfl, hil, hf, hwr, hbm, hbv⟩ := hrel
          have HIL := Lib.hid hil
          have HFL := Lib.hid hf
          have HWL := Lib.hid hwr
          have HBL := Lib.hid hbm
          have HBVL := Lib.hid hbv
          clear hil hf hwr hbm hbv
          by_cases hli : i < o.n
          · have yli : (i : Int) < ((o.n : Nat) : Int) := by omega
            obtain ⟨g, cur, hA, hNg, hbg, hsz, hset⟩ := HWL.out.set hli
            have HLI := Lib.hid hli
            have HNG := Lib.hid hNg
            have HBG := Lib.hid hbg
            have HSZ := Lib.hid hsz
            have HSET := Lib.hid hset
            have HZG := Lib.hid (HGA.out g hA)
            subst hA
            clear hli hNg hbg hsz hset
            go_upto_region 23 with fail
            refine wp_region_lit ?_
            refine wpList_run (v := .int .i64 (i : Int)) (wanted_none rfl) (exec_move rfl rfl) ?_
            simp only [Act.put, List.setIfInBounds_toArray, List.set_cons_zero, List.set_cons_succ]
            refine wpList_run (v := .pointer (some ⟨go, 1, none⟩)) (wanted_none rfl) (exec_field (off := 0) (d := 1) rfl rfl (by kernel_rfl)) ?_
            simp only [Act.put, List.setIfInBounds_toArray, List.set_cons_zero, List.set_cons_succ]
            refine wpList_run (v := .slice (some ⟨g, 0, none⟩) o.n c7) (wanted_none rfl) (exec_load1 rfl rfl (by kernel_rfl) (HBL.out.cell 1)) ?_
            simp only [Act.put, List.setIfInBounds_toArray, List.set_cons_zero, List.set_cons_succ]
            refine wpList_run (v := .int .i64 (o.n : Int)) (wanted_none rfl) (gx_len rfl rfl Try.underlying33) ?_
            simp only [Act.put, List.setIfInBounds_toArray, List.set_cons_zero, List.set_cons_succ]
            refine wpList_run (v := .bool true) (wanted_none rfl) (ix_lss rfl rfl rfl (decide_eq_true yli)) ?_
            simp only [Act.put, List.setIfInBounds_toArray, List.set_cons_zero, List.set_cons_succ]
            go_upto_region 25 with fail
            refine wp_region_lit ?_
            refine wpList_run (v := .pointer (some ⟨go, 1, none⟩)) (wanted_none rfl) (exec_field (off := 0) (d := 1) rfl rfl (by kernel_rfl)) ?_
            simp only [Act.put, List.setIfInBounds_toArray, List.set_cons_zero, List.set_cons_succ]
            refine wpList_run (v := .slice (some ⟨g, 0, none⟩) o.n c7) (wanted_none rfl) (exec_load1 rfl rfl (by kernel_rfl) (HBL.out.cell 1)) ?_
            simp only [Act.put, List.setIfInBounds_toArray, List.set_cons_zero, List.set_cons_succ]
            refine wpList_run (v := .int .i64 (i : Int)) (wanted_none rfl) (exec_move rfl rfl) ?_
            simp only [Act.put, List.setIfInBounds_toArray, List.set_cons_zero, List.set_cons_succ]
            refine wpList_run (v := .pointer (some ⟨g, 0 + i * 2, none⟩)) (wanted_none rfl) (gx_iaddr (i := i) (sz := 2) rfl rfl rfl Try.underlying33 size_field HLI.out rfl) ?_
            simp only [Act.put, List.setIfInBounds_toArray, List.set_cons_zero, List.set_cons_succ]
            refine wpList_run (v := .pointer (some ⟨g, 0 + i * 2 + 1, none⟩)) (wanted_none rfl) (exec_field (off := 0 + i * 2) (d := 1) rfl rfl (by kernel_rfl)) ?_
            simp only [Act.put, List.setIfInBounds_toArray, List.set_cons_zero, List.set_cons_succ]
            refine wpList_storeU (0 + i * 2 + 1) (strV [115, 112, 111, 105, 108, 116]) (wanted_none rfl) 9 _ _ rfl HBG.out rfl rfl (by have := HSZ.out; omega) ⟨rfl, rfl⟩ size_str ?_
            intro w8 hb8 ht8
            simp only [Act.put, List.setIfInBounds_toArray, List.set_cons_zero, List.set_cons_succ]
            rw [show 0 + i * 2 + 1 = i * 2 + 1 from by omega] at hb8
            have HF8 := Lib.hid (HFL.out.write HBG.out ht8 HZG.out (by have := HNG.out; have := HWN.out; omega))
            have HW8 := Lib.hid (HSET.out w8 (strV [115, 112, 111, 105, 108, 116]) rfl hb8)
            have HB8 := Lib.hid (HBL.out.turn ht8 fun e => (show ¬ go = g from HBL.out.ne_ HBG.out (by decide)) e)
            have HBV8 := Lib.hid (HBVL.out.turn ht8 fun e => (show ¬ v = g from HBVL.out.ne_ HBG.out (by decide)) e)
            clear hb8 ht8
            go_upto_region 24 with fail
            refine wp_region_lit ?_
            refine wpList_run (v := .int .i64 (i : Int)) (wanted_none rfl) (exec_move rfl rfl) ?_
            simp only [Act.put, List.setIfInBounds_toArray, List.set_cons_zero, List.set_cons_succ]
            refine wpList_run (v := .int .i64 ((i + 1 : Nat) : Int)) (wanted_none rfl) (ix_add rfl rfl rfl (by omega) (by omega)) ?_
            simp only [Act.put, List.setIfInBounds_toArray, List.set_cons_zero, List.set_cons_succ]
            refine wpList_run (v := .int .i64 ((i + 1 : Nat) : Int)) (wanted_none rfl) (gx_assign rfl rfl) ?_
            simp only [Act.put, List.setIfInBounds_toArray, List.set_cons_zero, List.set_cons_succ]
            go_wp2_with fail
            go_roundg (gk - 1)
            case measure => have := HIL.out; have := HLI.out; omega
            case rel => exact ⟨i + 1, rfl, by have := HIL.out; have := HLI.out; omega, HF8.out, HW8.out, HB8.out, HBV8.out⟩
          · have yli : ¬ (i : Int) < ((o.n : Nat) : Int) := by omega
            clear hli
            go_upto_region 23 with fail
            refine wp_region_lit ?_
            refine wpList_run (v := .int .i64 (i : Int)) (wanted_none rfl) (exec_move rfl rfl) ?_
            simp only [Act.put, List.setIfInBounds_toArray, List.set_cons_zero, List.set_cons_succ]
            refine wpList_run (v := .pointer (some ⟨go, 1, none⟩)) (wanted_none rfl) (exec_field (off := 0) (d := 1) rfl rfl (by kernel_rfl)) ?_
            simp only [Act.put, List.setIfInBounds_toArray, List.set_cons_zero, List.set_cons_succ]
            refine wpList_run (v := .slice A7 o.n c7) (wanted_none rfl) (exec_load1 rfl rfl (by kernel_rfl) (HBL.out.cell 1)) ?_
            simp only [Act.put, List.setIfInBounds_toArray, List.set_cons_zero, List.set_cons_succ]
            refine wpList_run (v := .int .i64 (o.n : Int)) (wanted_none rfl) (gx_len rfl rfl Try.underlying33) ?_
            simp only [Act.put, List.setIfInBounds_toArray, List.set_cons_zero, List.set_cons_succ]
            refine wpList_run (v := .bool false) (wanted_none rfl) (ix_lss rfl rfl rfl (decide_eq_false yli)) ?_
            simp only [Act.put, List.setIfInBounds_toArray, List.set_cons_zero, List.set_cons_succ]
            have HOKL := Lib.hid (HOK.out.still HFL.out.tn)
            have HRP := Lib.hid (rput_q HFL.out.ry o.nm o.ty (fc := o.c) HOKL.out.fs HOKL.out.nil)
            unfold msgV at HRP
            rw [← HEE.out] at HRP
            go_upto_region 26 with fail
            refine wp_region_lit ?_
            refine wpList_run (v := .pointer (some ⟨y, 0, none⟩)) (wanted_none rfl) (exec_move rfl rfl) ?_
            simp only [Act.put, List.setIfInBounds_toArray, List.set_cons_zero, List.set_cons_succ]
            refine wpList_run (v := .pointer (some ⟨v, 1, none⟩)) (wanted_none rfl) (exec_field (off := 0) (d := 1) rfl rfl (by kernel_rfl)) ?_
            simp only [Act.put, List.setIfInBounds_toArray, List.set_cons_zero, List.set_cons_succ]
            refine wpList_run (v := strV o.nm) (wanted_none rfl) (exec_load1 rfl rfl (by kernel_rfl) (HBVL.out.cell 1)) ?_
            simp only [Act.put, List.setIfInBounds_toArray, List.set_cons_zero, List.set_cons_succ]
            refine wpList_run (v := .pointer (some ⟨v, 2, none⟩)) (wanted_none rfl) (exec_field (off := 0) (d := 2) rfl rfl (by kernel_rfl)) ?_
            simp only [Act.put, List.setIfInBounds_toArray, List.set_cons_zero, List.set_cons_succ]
            refine wpList_run (v := .agg #[.int .i64 o.ty, .slice o.A o.n o.c]) (wanted_none rfl) (gx_loads (cs := [.int .i64 o.ty, .slice o.A o.n o.c]) rfl rfl (fun j v2 hj => by have := blk_range HBVL.out (j + 2) v2 (by simpa [SOp.cells] using hj); rwa [Nat.zero_add, Nat.add_comm] at this) Try.underlying35 rfl (by rw [size_msg]; rfl)) ?_
            simp only [Act.put, List.setIfInBounds_toArray, List.set_cons_zero, List.set_cons_succ]
            refine wpList_op (wanted_none rfl) fun K9 HK9 => ?_
            go_wp2_with fail
            refine (HRP.out).mono ?_
            rintro e w9 ⟨rfl, hq, ht⟩
            refine HK9.out _ _ ?_
            clear HK9
            try simp only [Act.put, List.setIfInBounds_toArray, List.set_cons_zero, List.set_cons_succ]
            have HF9 := Lib.hid (HFL.out.cy hq ht fun k hk => .inl hk)
            clear hq ht HRP
            refine wpList_run (v := .int .i64 E) (wanted_none rfl) (gx_assign rfl rfl) ?_
            simp only [Act.put, List.setIfInBounds_toArray, List.set_cons_zero, List.set_cons_succ]
            go_upto_region 27 with fail
            refine wp_region_lit ?_
            refine wpList_run (v := .int .i64 E) (wanted_none rfl) (exec_move rfl rfl) ?_
            simp only [Act.put, List.setIfInBounds_toArray, List.set_cons_zero, List.set_cons_succ]
            refine wpList_run (v := .int .i64 E) (wanted_none rfl) (exec_move rfl rfl) ?_
            simp only [Act.put, List.setIfInBounds_toArray, List.set_cons_zero, List.set_cons_succ]
            refine wpList_run (v := .bool false) (wanted_none rfl) (ix_neq rfl rfl rfl (decide_eq_false (fun e => e rfl))) ?_
            simp only [Act.put, List.setIfInBounds_toArray, List.set_cons_zero, List.set_cons_succ]
            go_upto_region 58 with fail
            refine wp_region_lit ?_
            refine wpList_run (v := .pointer (some ⟨x, 0, none⟩)) (wanted_none rfl) (exec_move rfl rfl) ?_
            simp only [Act.put, List.setIfInBounds_toArray, List.set_cons_zero, List.set_cons_succ]
            refine wpList_run (v := .pointer (some ⟨y, 0, none⟩)) (wanted_none rfl) (exec_move rfl rfl) ?_
            simp only [Act.put, List.setIfInBounds_toArray, List.set_cons_zero, List.set_cons_succ]
            refine wpList_op (wanted_none rfl) fun K9 HK9 => ?_
            go_wp2_with fail
            refine (like_walk HF9.out.qx HF9.out.ry).mono ?_
            rintro e wy ⟨rfl, ht⟩
            refine HK9.out _ _ ?_
            clear HK9
            try simp only [Act.put, List.setIfInBounds_toArray, List.set_cons_zero, List.set_cons_succ]
            have HFY := Lib.hid (HF9.out.still ht)
            clear ht
            refine wpList_run (v := .bool true) (wanted_none rfl) (gx_assign rfl rfl) ?_
            simp only [Act.put, List.setIfInBounds_toArray, List.set_cons_zero, List.set_cons_succ]
            go_upto_region 59 with fail
            refine wp_region_lit ?_
            refine wpList_run (v := .pointer (some ⟨z, 0, none⟩)) (wanted_none rfl) (exec_move rfl rfl) ?_
            simp only [Act.put, List.setIfInBounds_toArray, List.set_cons_zero, List.set_cons_succ]
            refine wpList_run (v := .pointer (some ⟨u, 0, none⟩)) (wanted_none rfl) (exec_move rfl rfl) ?_
            simp only [Act.put, List.setIfInBounds_toArray, List.set_cons_zero, List.set_cons_succ]
            refine wpList_op (wanted_none rfl) fun K9 HK9 => ?_
            go_wp2_with fail
            refine (like_walk HFY.out.qz HFY.out.ru).mono ?_
            rintro e wz ⟨rfl, ht⟩
            refine HK9.out _ _ ?_
            clear HK9
            try simp only [Act.put, List.setIfInBounds_toArray, List.set_cons_zero, List.set_cons_succ]
            have HFZ := Lib.hid ((HFY.out.still ht).mono (Z' := fun _ => True) fun _ _ _ => trivial)
            clear ht
            refine wpList_run (v := .bool true) (wanted_none rfl) (gx_assign rfl rfl) ?_
            simp only [Act.put, List.setIfInBounds_toArray, List.set_cons_zero, List.set_cons_succ]
            go_upto_region 60 with fail
            refine wp_region_lit ?_
            refine wpList_run (v := .bool true) (wanted_none rfl) (exec_move rfl rfl) ?_
            simp only [Act.put, List.setIfInBounds_toArray, List.set_cons_zero, List.set_cons_succ]
            refine wpList_run (v := .bool false) (wanted_none rfl) (ix_not (b := true) rfl rfl) ?_
            simp only [Act.put, List.setIfInBounds_toArray, List.set_cons_zero, List.set_cons_succ]
            refine wpList_run (v := .bool false) (wanted_none rfl) (exec_move rfl rfl) ?_
            simp only [Act.put, List.setIfInBounds_toArray, List.set_cons_zero, List.set_cons_succ]
            refine wpList_run (v := .bool true) rfl (exec_move rfl rfl) ?_
            simp only [Act.put, List.setIfInBounds_toArray, List.set_cons_zero, List.set_cons_succ]
            refine wpList_run (v := .bool false) rfl (ix_not (b := true) rfl rfl) ?_
            simp only [Act.put, List.setIfInBounds_toArray, List.set_cons_zero, List.set_cons_succ]
            refine wpList_run (v := .bool false) (wanted_none rfl) (ix_pickF rfl rfl rfl) ?_
            simp only [Act.put, List.setIfInBounds_toArray, List.set_cons_zero, List.set_cons_succ]
            go_upto_region 14 with fail
            refine wp_region_lit ?_
            refine wpList_run (v := .int .i64 (j : Int)) (wanted_none rfl) (exec_move rfl rfl) ?_
            simp only [Act.put, List.setIfInBounds_toArray, List.set_cons_zero, List.set_cons_succ]
            refine wpList_run (v := .int .i64 ((j + 1 : Nat) : Int)) (wanted_none rfl) (ix_add rfl rfl rfl (by omega) (by omega)) ?_
            simp only [Act.put, List.setIfInBounds_toArray, List.set_cons_zero, List.set_cons_succ]
            refine wpList_run (v := .int .i64 ((j + 1 : Nat) : Int)) (wanted_none rfl) (gx_assign rfl rfl) ?_
            simp only [Act.put, List.setIfInBounds_toArray, List.set_cons_zero, List.set_cons_succ]
            go_wp2_with fail
            go_roundg (mm - (j + 1))
            case measure => have := HJL.out; have := HLX.out; omega
            case rel => exact ⟨j + 1, x, gx5, z, gz, y, u, (Sf.putL m a.1 (o.nm, o.ty, o.fs), a.2), b, rfl, rfl, rfl, rfl, rfl, by have := HLX.out; omega, HFZ.out⟩
      · rw [decide_eq_false h02]
        go_upto_region 29 with fail
        refine wp_region_lit ?_
        refine wpList_run (v := .bool (decide ((kk : Int) = 3))) (wanted_none rfl) (ix_eql rfl rfl rfl rfl) ?_
        simp only [Act.put, List.setIfInBounds_toArray, List.set_cons_zero, List.set_cons_succ]
        refine wpList_run (v := .bool (decide ((kk : Int) = 3))) (wanted_none rfl) (gx_assign rfl rfl) ?_
        simp only [Act.put, List.setIfInBounds_toArray, List.set_cons_zero, List.set_cons_succ]
        go_upto_if 119 with fail
        go_cut [119] from 120 to 121 (fun kv wx => kv = .bool (decide (3 ≤ kk ∧ kk ≤ 4)) ∧ w3 = wx)
        case first =>
          by_cases hc3 : (kk : Int) = 3
          · rw [decide_eq_true hc3]
            go_wp2_with fail
            go_meet
            exact ⟨by rw [decide_eq_true (by omega)], rfl⟩
          · rw [decide_eq_false hc3]
            go_upto_region 30 with fail
            refine wp_region_lit ?_
            refine wpList_run (v := .bool (decide ((kk : Int) = 4))) (wanted_none rfl) (ix_eql rfl rfl rfl rfl) ?_
            simp only [Act.put, List.setIfInBounds_toArray, List.set_cons_zero, List.set_cons_succ]
            refine wpList_run (v := .bool (decide ((kk : Int) = 4))) (wanted_none rfl) (gx_assign rfl rfl) ?_
            simp only [Act.put, List.setIfInBounds_toArray, List.set_cons_zero, List.set_cons_succ]
            by_cases hc4 : (kk : Int) = 4
            · rw [decide_eq_true hc4]
              go_wp2_with fail
              go_meet
              exact ⟨by rw [decide_eq_true (by omega)], rfl⟩
            · rw [decide_eq_false hc4]
              go_wp2_with fail
              go_meet
              exact ⟨by rw [decide_eq_false (by omega)], rfl⟩
        obtain ⟨rfl, hw⟩ := hcut
        subst hw
        by_cases h34 : 3 ≤ kk ∧ kk ≤ 4
        · as_aux_lemma =>
            rw [decide_eq_true h34]
            obtain ⟨oa, hoa⟩ : ∃ oa, oa = Sf.againO a.1 a.2 := ⟨_, rfl⟩
            have HOA := Lib.hid hoa
            have hroom : ∀ (W : World) (A B : Option Addr) (c N9 : Nat) (q : Option Adv), Fr W N9 (.slice A (tfs q).length c) (tfs q) → True := fun _ _ _ _ _ _ _ => trivial
            clear hoa hroom
            have HAX := Lib.hid (again_q HF3.out.qx)
            rw [← HOA.out] at HAX
            go_upto_region 31 with fail
            refine wp_region_lit ?_
            refine wpList_run (v := .pointer (some ⟨x, 0, none⟩)) (wanted_none rfl) (exec_move rfl rfl) ?_
            simp only [Act.put, List.setIfInBounds_toArray, List.set_cons_zero, List.set_cons_succ]
            refine wpList_op (wanted_none rfl) fun K9 HK9 => ?_
            go_wp2_with fail
            refine (HAX.out).mono ?_
            rintro e w4 ⟨htl, ht⟩
            obtain ⟨A1, c1, rfl, hfr⟩ := htl.n
            have HF4 := Lib.hid (HF3.out.still ht)
            have HBv4 := Lib.hid (HBv.out.turn ht fun e => e)
            have HR4 := Lib.hid (show Fr w4 N (.slice A1 (tfs oa).length c1) (tfs oa) from by rw [HNS.out]; exact hfr)
            have HN4 := Lib.hid (show N ≤ w4.heap.size from by rw [HNS.out]; exact ht.size)
            clear ht htl hfr HAX
            refine HK9.out _ _ ?_
            clear HK9
            try simp only [Act.put, List.setIfInBounds_toArray, List.set_cons_zero, List.set_cons_succ]
            refine wpList_run (v := .tuple #[strV (tnm oa), .agg #[.int .i64 (tty oa), .slice A1 (tfs oa).length c1], .bool (oa).isSome]) (wanted_none rfl) (exec_move rfl rfl) ?_
            simp only [Act.put, List.setIfInBounds_toArray, List.set_cons_zero, List.set_cons_succ]
            refine wpList_run (v := strV (tnm oa)) (wanted_none rfl) (ix_extract rfl rfl rfl) ?_
            simp only [Act.put, List.setIfInBounds_toArray, List.set_cons_zero, List.set_cons_succ]
            refine wpList_run (v := .agg #[.int .i64 (tty oa), .slice A1 (tfs oa).length c1]) (wanted_none rfl) (ix_extract rfl rfl rfl) ?_
            simp only [Act.put, List.setIfInBounds_toArray, List.set_cons_zero, List.set_cons_succ]
            refine wpList_run (v := .bool (oa).isSome) (wanted_none rfl) (ix_extract rfl rfl rfl) ?_
            simp only [Act.put, List.setIfInBounds_toArray, List.set_cons_zero, List.set_cons_succ]
            refine wpList_run (v := .pointer (some ⟨w4.heap.size, 0, none⟩)) (w' := w4.alloc (.cells #[.int .i64 0, .slice none 0 0] 35)) (wanted_none rfl) (gx_alloc rfl (zero_msg _)) ?_
            simp only [Act.put, List.setIfInBounds_toArray, List.set_cons_zero, List.set_cons_succ]
            have hb_ := Blk.new w4 35 #[.int .i64 0, .slice none 0 0]
            have ht_ := (Turn.refl nowhere w4).alloc (.cells #[.int .i64 0, .slice none 0 0] 35)
            obtain ⟨v1, hg_⟩ : ∃ g, g = w4.heap.size := ⟨_, rfl⟩
            rw [← hg_] at hb_ ⊢
            have HLv1 := Lib.hid (show w4.heap.size ≤ v1 from by omega)
            clear hg_
            generalize w4.alloc (.cells #[.int .i64 0, .slice none 0 0] 35) = w4a at *
            have HBv1 := Lib.hid hb_
            have HTw4a := Lib.hid ht_
            clear hb_ ht_
            refine wpList_run (v := strV (tnm oa)) (wanted_none rfl) (gx_assign rfl rfl) ?_
            simp only [Act.put, List.setIfInBounds_toArray, List.set_cons_zero, List.set_cons_succ]
            refine wpList_store_row (wanted_none rfl) 35 (.tmp 19) (.tmp 126) rfl (#[.int .i64 (tty oa), .slice A1 (tfs oa).length c1]) HBv1.out rfl rfl (rfl) (by rw [size_msg] <;> rfl) (msgA_one _ _ _ _) ?_
            intro w4b hb_ ht_
            have HBv1b := Lib.hid hb_
            have HTw4b := Lib.hid ht_
            clear hb_ ht_
            simp only [Act.put, List.setIfInBounds_toArray, List.set_cons_zero, List.set_cons_succ]
            have HTw4c := Lib.hid (newer HTw4a.out HLv1.out HTw4b.out)
            have HF4c := Lib.hid (HF4.out.still HTw4c.out)
            have HBv4c := Lib.hid (HBv4.out.turn HTw4c.out fun e => e)
            have HR4c := Lib.hid (Orw.still HR4.out HTw4c.out)
            clear HF4 HBv4 HR4
            clear HTw4a HTw4b HBv1
            refine wpList_run (v := .bool (oa).isSome) (wanted_none rfl) (gx_assign rfl rfl) ?_
            simp only [Act.put, List.setIfInBounds_toArray, List.set_cons_zero, List.set_cons_succ]
            have HAY := Lib.hid (ragain_q HF4c.out.ry)
            rw [← HOA.out] at HAY
            go_upto_region 32 with fail
            refine wp_region_lit ?_
            refine wpList_run (v := .pointer (some ⟨y, 0, none⟩)) (wanted_none rfl) (exec_move rfl rfl) ?_
            simp only [Act.put, List.setIfInBounds_toArray, List.set_cons_zero, List.set_cons_succ]
            refine wpList_op (wanted_none rfl) fun K9 HK9 => ?_
            go_wp2_with fail
            refine (HAY.out).mono ?_
            rintro e w5 ⟨htl, ht⟩
            obtain ⟨A2, c2, rfl, hfq, hrm⟩ := htl.n
            have HN5 := Lib.hid (show N ≤ w5.heap.size from by have := HN4.out; have := HTw4c.out.size; have := ht.size; omega)
            have HRMa := Lib.hid hrm
            have HF5 := Lib.hid (HF4c.out.still ht)
            have HBv5 := Lib.hid (HBv4c.out.turn ht fun e => e)
            have HR5 := Lib.hid (Orw.still HR4c.out ht)
            have HB15 := Lib.hid (HBv1b.out.turn ht fun e => e)
            have HQ5 := Lib.hid hfq
            clear ht htl hfq hrm HAY HF4c HBv4c HR4c HBv1b
            refine HK9.out _ _ ?_
            clear HK9
            try simp only [Act.put, List.setIfInBounds_toArray, List.set_cons_zero, List.set_cons_succ]
            refine wpList_run (v := .tuple #[strV (tnm oa), .agg #[.int .i64 (tty oa), .slice A2 (tfs oa).length c2], .bool (oa).isSome]) (wanted_none rfl) (exec_move rfl rfl) ?_
            simp only [Act.put, List.setIfInBounds_toArray, List.set_cons_zero, List.set_cons_succ]
            refine wpList_run (v := strV (tnm oa)) (wanted_none rfl) (ix_extract rfl rfl rfl) ?_
            simp only [Act.put, List.setIfInBounds_toArray, List.set_cons_zero, List.set_cons_succ]
            refine wpList_run (v := .agg #[.int .i64 (tty oa), .slice A2 (tfs oa).length c2]) (wanted_none rfl) (ix_extract rfl rfl rfl) ?_
            simp only [Act.put, List.setIfInBounds_toArray, List.set_cons_zero, List.set_cons_succ]
            refine wpList_run (v := .bool (oa).isSome) (wanted_none rfl) (ix_extract rfl rfl rfl) ?_
            simp only [Act.put, List.setIfInBounds_toArray, List.set_cons_zero, List.set_cons_succ]
            refine wpList_run (v := .pointer (some ⟨w5.heap.size, 0, none⟩)) (w' := w5.alloc (.cells #[.int .i64 0, .slice none 0 0] 35)) (wanted_none rfl) (gx_alloc rfl (zero_msg _)) ?_
            simp only [Act.put, List.setIfInBounds_toArray, List.set_cons_zero, List.set_cons_succ]
            have hb_ := Blk.new w5 35 #[.int .i64 0, .slice none 0 0]
            have ht_ := (Turn.refl nowhere w5).alloc (.cells #[.int .i64 0, .slice none 0 0] 35)
            obtain ⟨v2, hg_⟩ : ∃ g, g = w5.heap.size := ⟨_, rfl⟩
            rw [← hg_] at hb_ ⊢
            have HLv2 := Lib.hid (show w5.heap.size ≤ v2 from by omega)
            clear hg_
            generalize w5.alloc (.cells #[.int .i64 0, .slice none 0 0] 35) = w5a at *
            have HBv2 := Lib.hid hb_
            have HTw5a := Lib.hid ht_
            clear hb_ ht_
            refine wpList_run (v := strV (tnm oa)) (wanted_none rfl) (gx_assign rfl rfl) ?_
            simp only [Act.put, List.setIfInBounds_toArray, List.set_cons_zero, List.set_cons_succ]
            refine wpList_store_row (wanted_none rfl) 35 (.tmp 22) (.tmp 132) rfl (#[.int .i64 (tty oa), .slice A2 (tfs oa).length c2]) HBv2.out rfl rfl (rfl) (by rw [size_msg] <;> rfl) (msgA_one _ _ _ _) ?_
            intro w5b hb_ ht_
            have HBv2b := Lib.hid hb_
            have HTw5b := Lib.hid ht_
            clear hb_ ht_
            simp only [Act.put, List.setIfInBounds_toArray, List.set_cons_zero, List.set_cons_succ]
            have HTw5c := Lib.hid (newer HTw5a.out HLv2.out HTw5b.out)
            have HF6 := Lib.hid (HF5.out.still HTw5c.out)
            have HBv6 := Lib.hid (HBv5.out.turn HTw5c.out fun e => e)
            have HR6 := Lib.hid (Orw.still HR5.out HTw5c.out)
            have HB16 := Lib.hid (HB15.out.turn HTw5c.out fun e => e)
            have HQ6 := Lib.hid (Orw.still HQ5.out HTw5c.out)
            have HV12 := Lib.hid (show ¬ v1 = v2 from by have := HB15.out.lt; have := HLv2.out; omega)
            clear HF5 HBv5 HR5 HB15 HQ5
            clear HTw5a HTw5b HBv2
            refine wpList_run (v := .bool (oa).isSome) (wanted_none rfl) (gx_assign rfl rfl) ?_
            simp only [Act.put, List.setIfInBounds_toArray, List.set_cons_zero, List.set_cons_succ]
            go_upto_region 33 with fail
            refine wp_region_lit ?_
            refine wpList_run (v := .pointer (some ⟨v, 0, none⟩)) (wanted_none rfl) (exec_field (off := 0) (d := 0) rfl rfl (by kernel_rfl)) ?_
            simp only [Act.put, List.setIfInBounds_toArray, List.set_cons_zero, List.set_cons_succ]
            refine wpList_run (v := .int .i64 o.kd) (wanted_none rfl) (exec_load1 rfl rfl (by kernel_rfl) (HBv6.out.cell 0)) ?_
            simp only [Act.put, List.setIfInBounds_toArray, List.set_cons_zero, List.set_cons_succ]
            refine wpList_op (wanted_none rfl) fun K9 HK9 => ?_
            go_wp2_with fail
            refine (HKW.out w5b).mono ?_
            rintro e w5b ⟨kk2, rfl, hk2, rfl⟩
            refine HK9.out _ _ ?_
            clear HK9
            try simp only [Act.put, List.setIfInBounds_toArray, List.set_cons_zero, List.set_cons_succ]
            have yk2 : kk2 < 8 := hk2
            clear hk2
            by_cases h3 : (kk2 : Int) = 3
            · as_aux_lemma =>
                refine wpList_run (v := .bool true) (wanted_none rfl) (ix_eql rfl rfl rfl (decide_eq_true h3)) ?_
                simp only [Act.put, List.setIfInBounds_toArray, List.set_cons_zero, List.set_cons_succ]
                clear h3
                obtain ⟨ob, hob⟩ : ∃ ob, ob = Sf.sendO a.1 a.2 := ⟨_, rfl⟩
                have HOB := Lib.hid hob
                have HSX := Lib.hid (send_q HF6.out.qx)
                rw [← hob] at HSX
                clear hob
                go_upto_region 34 with fail
                refine wp_region_lit ?_
                refine wpList_run (v := .pointer (some ⟨x, 0, none⟩)) (wanted_none rfl) (exec_move rfl rfl) ?_
                simp only [Act.put, List.setIfInBounds_toArray, List.set_cons_zero, List.set_cons_succ]
                refine wpList_op (wanted_none rfl) fun K9 HK9 => ?_
                go_wp2_with fail
                refine (HSX.out).mono ?_
                rintro e w7 ⟨htl, hq, ht⟩
                obtain ⟨A3, c3, rfl, hfr⟩ := htl.n
                have hft : Turn (foot x gx) w5b w7 := ht.mono fun k _ e => .inl e
                have HF7 := Lib.hid (HF6.out.cx hq hft (fun k hk => hk) (.inl rfl))
                have HBv7 := Lib.hid (HBv6.out.turn hft (HF6.out.offx HBv6.out (by decide) (by decide)))
                have HB17 := Lib.hid (HB16.out.turn hft (HF6.out.offx HB16.out (by decide) (by decide)))
                have HB27 := Lib.hid (HBv2b.out.turn hft (HF6.out.offx HBv2b.out (by decide) (by decide)))
                have HZ6 := Lib.hid (show N ≤ w5b.heap.size from by have := HB16.out.lt; have := HLv1.out; have := HN4.out; omega)
                have HR7 := Lib.hid (show Fr w7 N (.slice A3 (tfs ob).length c3) (tfs ob) from Orw.less hfr HZ6.out)
                clear ht htl hfr hq hft HSX HF6 HBv6 HB16 HBv2b
                refine HK9.out _ _ ?_
                clear HK9
                try simp only [Act.put, List.setIfInBounds_toArray, List.set_cons_zero, List.set_cons_succ]
                refine wpList_run (v := .tuple #[strV (tnm ob), .agg #[.int .i64 (tty ob), .slice A3 (tfs ob).length c3], .bool (ob).isSome]) (wanted_none rfl) (exec_move rfl rfl) ?_
                simp only [Act.put, List.setIfInBounds_toArray, List.set_cons_zero, List.set_cons_succ]
                refine wpList_run (v := strV (tnm ob)) (wanted_none rfl) (ix_extract rfl rfl rfl) ?_
                simp only [Act.put, List.setIfInBounds_toArray, List.set_cons_zero, List.set_cons_succ]
                refine wpList_run (v := .agg #[.int .i64 (tty ob), .slice A3 (tfs ob).length c3]) (wanted_none rfl) (ix_extract rfl rfl rfl) ?_
                simp only [Act.put, List.setIfInBounds_toArray, List.set_cons_zero, List.set_cons_succ]
                refine wpList_run (v := .bool (ob).isSome) (wanted_none rfl) (ix_extract rfl rfl rfl) ?_
                simp only [Act.put, List.setIfInBounds_toArray, List.set_cons_zero, List.set_cons_succ]
                refine wpList_run (v := strV (tnm ob)) (wanted_none rfl) (gx_assign rfl rfl) ?_
                simp only [Act.put, List.setIfInBounds_toArray, List.set_cons_zero, List.set_cons_succ]
                refine wpList_store_row (wanted_none rfl) 35 (.tmp 19) (.tmp 142) rfl (#[.int .i64 (tty ob), .slice A3 (tfs ob).length c3]) HB17.out rfl rfl (rfl) (by rw [size_msg] <;> rfl) (msgA_one _ _ _ _) ?_
                intro w7b hb_ ht_
                have HB17b := Lib.hid hb_
                have HT7b := Lib.hid ht_
                clear hb_ ht_
                simp only [Act.put, List.setIfInBounds_toArray, List.set_cons_zero, List.set_cons_succ]
                have HNT := Lib.hid (show ∀ k t cs, Blk w7 k t cs → t ≠ 35 → ¬ only v1 k from fun k t cs hk h1 e => by
                  have e : k = v1 := e
                  subst e
                  exact hk.ne_ HB17.out h1 rfl)
                have HF7b := Lib.hid (HF7.out.var HB17.out HT7b.out (by have := HLv1.out; have := HN4.out; have := HWN.out; omega))
                have HBv7b := Lib.hid (HBv7.out.turn HT7b.out (HNT.out _ _ _ HBv7.out (by decide)))
                have HB27b := Lib.hid (HB27.out.turn HT7b.out fun e => HV12.out (show v2 = v1 from e).symm)
                have HR7b := Lib.hid (show Fr w7b N (.slice A3 (tfs ob).length c3) (tfs ob) from Orw.turn HR7.out HT7b.out fun b9 hb9 => by
                  obtain ⟨cur9, hc9⟩ := Orw.own_blk HR7.out hb9
                  exact HNT.out _ _ _ hc9 (by decide))
                have HSY := Lib.hid (rsend_q HF7b.out.ry)
                rw [← HOB.out] at HSY
                clear HF7 HBv7 HB17 HB27 HR7
                refine wpList_run (v := .bool (ob).isSome) (wanted_none rfl) (gx_assign rfl rfl) ?_
                simp only [Act.put, List.setIfInBounds_toArray, List.set_cons_zero, List.set_cons_succ]
                go_upto_region 35 with fail
                refine wp_region_lit ?_
                refine wpList_run (v := .pointer (some ⟨y, 0, none⟩)) (wanted_none rfl) (exec_move rfl rfl) ?_
                simp only [Act.put, List.setIfInBounds_toArray, List.set_cons_zero, List.set_cons_succ]
                refine wpList_op (wanted_none rfl) fun K9 HK9 => ?_
                go_wp2_with fail
                refine (HSY.out).mono ?_
                rintro e w9 ⟨htl, hq, ht⟩
                obtain ⟨A4, c4, rfl, hfq, hrm⟩ := htl.n
                have HRMb := Lib.hid hrm
                have HF9 := Lib.hid (HF7b.out.cy hq ht (fun k hk => hk))
                have HBv9 := Lib.hid (HBv7b.out.turn ht (HF7b.out.offy HBv7b.out (by decide)))
                have HB19 := Lib.hid (HB17b.out.turn ht (HF7b.out.offy HB17b.out (by decide)))
                have HB29 := Lib.hid (HB27b.out.turn ht (HF7b.out.offy HB27b.out (by decide)))
                have HR9 := Lib.hid (show Fr w9 N (.slice A3 (tfs ob).length c3) (tfs ob) from Orw.turn HR7b.out ht fun b9 hb9 => by
                  obtain ⟨cur9, hc9⟩ := Orw.own_blk HR7b.out hb9
                  exact HF7b.out.offy hc9 (by decide))
                have HQ9 := Lib.hid hfq
                clear ht htl hfq hrm hq HSY HF7b HBv7b HB17b HB27b HR7b
                refine HK9.out _ _ ?_
                clear HK9
                try simp only [Act.put, List.setIfInBounds_toArray, List.set_cons_zero, List.set_cons_succ]
                refine wpList_run (v := .tuple #[strV (tnm ob), .agg #[.int .i64 (tty ob), .slice A4 (tfs ob).length c4], .bool (ob).isSome]) (wanted_none rfl) (exec_move rfl rfl) ?_
                simp only [Act.put, List.setIfInBounds_toArray, List.set_cons_zero, List.set_cons_succ]
                refine wpList_run (v := strV (tnm ob)) (wanted_none rfl) (ix_extract rfl rfl rfl) ?_
                simp only [Act.put, List.setIfInBounds_toArray, List.set_cons_zero, List.set_cons_succ]
                refine wpList_run (v := .agg #[.int .i64 (tty ob), .slice A4 (tfs ob).length c4]) (wanted_none rfl) (ix_extract rfl rfl rfl) ?_
                simp only [Act.put, List.setIfInBounds_toArray, List.set_cons_zero, List.set_cons_succ]
                refine wpList_run (v := .bool (ob).isSome) (wanted_none rfl) (ix_extract rfl rfl rfl) ?_
                simp only [Act.put, List.setIfInBounds_toArray, List.set_cons_zero, List.set_cons_succ]
                refine wpList_run (v := strV (tnm ob)) (wanted_none rfl) (gx_assign rfl rfl) ?_
                simp only [Act.put, List.setIfInBounds_toArray, List.set_cons_zero, List.set_cons_succ]
                refine wpList_store_row (wanted_none rfl) 35 (.tmp 22) (.tmp 148) rfl (#[.int .i64 (tty ob), .slice A4 (tfs ob).length c4]) HB29.out rfl rfl (rfl) (by rw [size_msg] <;> rfl) (msgA_one _ _ _ _) ?_
                intro w9b hb_ ht_
                have HB29b := Lib.hid hb_
                have HT9b := Lib.hid ht_
                clear hb_ ht_
                simp only [Act.put, List.setIfInBounds_toArray, List.set_cons_zero, List.set_cons_succ]
                have HNT2 := Lib.hid (show ∀ k t cs, Blk w9 k t cs → t ≠ 35 → ¬ only v2 k from fun k t cs hk h1 e => by
                  have e : k = v2 := e
                  subst e
                  exact hk.ne_ HB29.out h1 rfl)
                have HFA := Lib.hid (HF9.out.var HB29.out HT9b.out (by have := HLv2.out; have := HN5.out; have := HWN.out; omega))
                have HBvA := Lib.hid (HBv9.out.turn HT9b.out (HNT2.out _ _ _ HBv9.out (by decide)))
                have HB1A := Lib.hid (HB19.out.turn HT9b.out fun e => HV12.out (show v1 = v2 from e))
                have HRA := Lib.hid (show Fr w9b N (.slice A3 (tfs ob).length c3) (tfs ob) from Orw.turn HR9.out HT9b.out fun b9 hb9 => by
                  obtain ⟨cur9, hc9⟩ := Orw.own_blk HR9.out hb9
                  exact HNT2.out _ _ _ hc9 (by decide))
                have HQA := Lib.hid (show Fr w9b 0 (.slice A4 (tfs ob).length c4) (tfs ob) from Orw.turn HQ9.out HT9b.out fun b9 hb9 => by
                  obtain ⟨cur9, hc9⟩ := Orw.own_blk HQ9.out hb9
                  exact HNT2.out _ _ _ hc9 (by decide))
                clear HF9 HBv9 HB19 HB29 HR9 HQ9
                refine wpList_run (v := .bool (ob).isSome) (wanted_none rfl) (gx_assign rfl rfl) ?_
                simp only [Act.put, List.setIfInBounds_toArray, List.set_cons_zero, List.set_cons_succ]
                go_upto_region 36 with fail
                refine wp_region_lit ?_
                refine wpList_run (v := .agg #[.int .i64 (tty ob), .slice A3 (tfs ob).length c3]) (wanted_none rfl) (gx_loads rfl rfl (blk_range HB1A.out) Try.underlying35 rfl (by rw [size_msg]; rfl)) ?_
                simp only [Act.put, List.setIfInBounds_toArray, List.set_cons_zero, List.set_cons_succ]
                refine wpList_run (v := .agg #[.int .i64 (tty ob), .slice A4 (tfs ob).length c4]) (wanted_none rfl) (gx_loads rfl rfl (blk_range HB29b.out) Try.underlying35 rfl (by rw [size_msg]; rfl)) ?_
                simp only [Act.put, List.setIfInBounds_toArray, List.set_cons_zero, List.set_cons_succ]
                have HSM := Lib.hid (Same_walk (ty1 := tty ob) (ty2 := tty ob) (c1 := c3) (c2 := c4) (Fr.fq HRA.out HRMb.out).fl (Fr.fq HQA.out HRMb.out).fl)
                unfold msgV at HSM
                rw [decide_eq_true (⟨rfl, rfl⟩ : tty ob = tty ob ∧ tfs ob = tfs ob)] at HSM
                refine wpList_op (wanted_none rfl) fun K9 HK9 => ?_
                go_wp2_with fail
                refine (HSM.out).mono ?_
                rintro e w8 ⟨rfl, ht⟩
                refine HK9.out _ _ ?_
                clear HK9
                try simp only [Act.put, List.setIfInBounds_toArray, List.set_cons_zero, List.set_cons_succ]
                have HF8a := Lib.hid (HFA.out.still ht)
                have HBv8a := Lib.hid (HBvA.out.turn ht fun e => e)
                have HB18a := Lib.hid (HB1A.out.turn ht fun e => e)
                have HW8a := Lib.hid (Fr.wr (Orw.still HRA.out ht))
                have HGA := Lib.hid (show ∀ g, A3 = some ⟨g, 0, none⟩ → ¬ g < N from fun g hg e => by
                  have h9 := Orw.lt HRA.out (b := g) (by rw [hg]; rfl)
                  omega)
                clear ht HSM
                refine wpList_run (v := .bool true) (wanted_none rfl) (gx_assign rfl rfl) ?_
                simp only [Act.put, List.setIfInBounds_toArray, List.set_cons_zero, List.set_cons_succ]
                go_upto_region 37 with fail
                refine wp_region_lit ?_
                refine wpList_run (v := strV (tnm ob)) (wanted_none rfl) (exec_move rfl rfl) ?_
                simp only [Act.put, List.setIfInBounds_toArray, List.set_cons_zero, List.set_cons_succ]
                refine wpList_run (v := strV (tnm ob)) (wanted_none rfl) (exec_move rfl rfl) ?_
                simp only [Act.put, List.setIfInBounds_toArray, List.set_cons_zero, List.set_cons_succ]
                refine wpList_run (v := .bool false) (wanted_none rfl) ((exec_sneq rfl rfl rfl).trans (by rw [beq_self_eq_true]; rfl)) ?_
                simp only [Act.put, List.setIfInBounds_toArray, List.set_cons_zero, List.set_cons_succ]
                refine wpList_run (v := .bool false) (wanted_none rfl) (exec_move rfl rfl) ?_
                simp only [Act.put, List.setIfInBounds_toArray, List.set_cons_zero, List.set_cons_succ]
                refine wpList_run (v := .bool (ob).isSome) rfl (exec_move rfl rfl) ?_
                simp only [Act.put, List.setIfInBounds_toArray, List.set_cons_zero, List.set_cons_succ]
                refine wpList_run (v := .bool (ob).isSome) rfl (exec_move rfl rfl) ?_
                simp only [Act.put, List.setIfInBounds_toArray, List.set_cons_zero, List.set_cons_succ]
                refine wpList_run (v := .bool false) rfl ((bx_neb rfl rfl rfl).trans (by rw [beq_self_eq_true]; rfl)) ?_
                simp only [Act.put, List.setIfInBounds_toArray, List.set_cons_zero, List.set_cons_succ]
                refine wpList_run (v := .bool false) (wanted_none rfl) (ix_pickF rfl rfl rfl) ?_
                simp only [Act.put, List.setIfInBounds_toArray, List.set_cons_zero, List.set_cons_succ]
                refine wpList_run (v := .bool false) (wanted_none rfl) (exec_move rfl rfl) ?_
                simp only [Act.put, List.setIfInBounds_toArray, List.set_cons_zero, List.set_cons_succ]
                refine wpList_run (v := .bool true) rfl (exec_move rfl rfl) ?_
                simp only [Act.put, List.setIfInBounds_toArray, List.set_cons_zero, List.set_cons_succ]
                refine wpList_run (v := .bool false) rfl (ix_not (b := true) rfl rfl) ?_
                simp only [Act.put, List.setIfInBounds_toArray, List.set_cons_zero, List.set_cons_succ]
                refine wpList_run (v := .bool false) (wanted_none rfl) (ix_pickF rfl rfl rfl) ?_
                simp only [Act.put, List.setIfInBounds_toArray, List.set_cons_zero, List.set_cons_succ]
                go_upto_region 39 with fail
                refine wp_region_lit ?_
                refine wpList_run (v := .int .i64 0) (wanted_none rfl) (gx_assign rfl rfl) ?_
                simp only [Act.put, List.setIfInBounds_toArray, List.set_cons_zero, List.set_cons_succ]
                have ynn : (tfs ob).length ≤ 140737488355328 := by have := HRMb.out; omega
                go_wp2_with fail
                go_loopg [25] (tfs ob).length (fun gk2 iv2 wr2 => ∃ i : Nat, iv2 = .int .i64 (i : Int) ∧ i + gk2 = (tfs ob).length ∧ Fo w wr2 (fun k => k < N) x gx z gz y u m (a.1, Sf.sendS a.1 a.2) (b) (a.1, Sf.sendS a.1 a.2) (b) ∧ Wr wr2 N A3 (tfs ob).length c3 ∧ Blk wr2 v1 35 #[.int .i64 (tty ob), .slice A3 (tfs ob).length c3] ∧ Blk wr2 v 37 o.cells.toArray)
                case atStart => exact ⟨0, rfl, by omega, HF8a.out, HW8a.out, HB18a.out, HBv8a.out⟩
                clear HF8a HW8a HB18a HBv8a
                obtain ⟨i, rfl, hil, hf, hwr, hbm, hbv⟩ := hrel
                have HIL := Lib.hid hil
                have HFL := Lib.hid hf
                have HWL := Lib.hid hwr
                have HBL := Lib.hid hbm
                have HBVL := Lib.hid hbv
                clear hil hf hwr hbm hbv
                by_cases hli : i < (tfs ob).length
                · have yli : (i : Int) < (((tfs ob).length : Nat) : Int) := by omega
                  obtain ⟨g, cur, hA, hNg, hbg, hsz, hset⟩ := HWL.out.set hli
                  have HLI := Lib.hid hli
                  have HNG := Lib.hid hNg
                  have HBG := Lib.hid hbg
                  have HSZ := Lib.hid hsz
                  have HSET := Lib.hid hset
                  have HZG := Lib.hid (HGA.out g hA)
                  subst hA
                  clear hli hNg hbg hsz hset
                  go_upto_region 40 with fail
                  refine wp_region_lit ?_
                  refine wpList_run (v := .int .i64 (i : Int)) (wanted_none rfl) (exec_move rfl rfl) ?_
                  simp only [Act.put, List.setIfInBounds_toArray, List.set_cons_zero, List.set_cons_succ]
                  refine wpList_run (v := .pointer (some ⟨v1, 1, none⟩)) (wanted_none rfl) (exec_field (off := 0) (d := 1) rfl rfl (by kernel_rfl)) ?_
                  simp only [Act.put, List.setIfInBounds_toArray, List.set_cons_zero, List.set_cons_succ]
                  refine wpList_run (v := .slice (some ⟨g, 0, none⟩) (tfs ob).length c3) (wanted_none rfl) (exec_load1 rfl rfl (by kernel_rfl) (HBL.out.cell 1)) ?_
                  simp only [Act.put, List.setIfInBounds_toArray, List.set_cons_zero, List.set_cons_succ]
                  refine wpList_run (v := .int .i64 ((tfs ob).length : Int)) (wanted_none rfl) (gx_len rfl rfl Try.underlying33) ?_
                  simp only [Act.put, List.setIfInBounds_toArray, List.set_cons_zero, List.set_cons_succ]
                  refine wpList_run (v := .bool true) (wanted_none rfl) (ix_lss rfl rfl rfl (decide_eq_true yli)) ?_
                  simp only [Act.put, List.setIfInBounds_toArray, List.set_cons_zero, List.set_cons_succ]
                  go_upto_region 42 with fail
                  refine wp_region_lit ?_
                  refine wpList_run (v := .pointer (some ⟨v1, 1, none⟩)) (wanted_none rfl) (exec_field (off := 0) (d := 1) rfl rfl (by kernel_rfl)) ?_
                  simp only [Act.put, List.setIfInBounds_toArray, List.set_cons_zero, List.set_cons_succ]
                  refine wpList_run (v := .slice (some ⟨g, 0, none⟩) (tfs ob).length c3) (wanted_none rfl) (exec_load1 rfl rfl (by kernel_rfl) (HBL.out.cell 1)) ?_
                  simp only [Act.put, List.setIfInBounds_toArray, List.set_cons_zero, List.set_cons_succ]
                  refine wpList_run (v := .int .i64 (i : Int)) (wanted_none rfl) (exec_move rfl rfl) ?_
                  simp only [Act.put, List.setIfInBounds_toArray, List.set_cons_zero, List.set_cons_succ]
                  refine wpList_run (v := .pointer (some ⟨g, 0 + i * 2, none⟩)) (wanted_none rfl) (gx_iaddr (i := i) (sz := 2) rfl rfl rfl Try.underlying33 size_field HLI.out rfl) ?_
                  simp only [Act.put, List.setIfInBounds_toArray, List.set_cons_zero, List.set_cons_succ]
                  refine wpList_run (v := .pointer (some ⟨g, 0 + i * 2 + 1, none⟩)) (wanted_none rfl) (exec_field (off := 0 + i * 2) (d := 1) rfl rfl (by kernel_rfl)) ?_
                  simp only [Act.put, List.setIfInBounds_toArray, List.set_cons_zero, List.set_cons_succ]
                  refine wpList_storeU (0 + i * 2 + 1) (strV [115, 112, 111, 105, 108, 116]) (wanted_none rfl) 9 _ _ rfl HBG.out rfl rfl (by have := HSZ.out; omega) ⟨rfl, rfl⟩ size_str ?_
                  intro w8 hb8 ht8
                  simp only [Act.put, List.setIfInBounds_toArray, List.set_cons_zero, List.set_cons_succ]
                  rw [show 0 + i * 2 + 1 = i * 2 + 1 from by omega] at hb8
                  have HF8 := Lib.hid (HFL.out.write HBG.out ht8 HZG.out (by have := HNG.out; have := HWN.out; omega))
                  have HW8 := Lib.hid (HSET.out w8 (strV [115, 112, 111, 105, 108, 116]) rfl hb8)
                  have HB8 := Lib.hid (HBL.out.turn ht8 fun e => (show ¬ v1 = g from HBL.out.ne_ HBG.out (by decide)) e)
                  have HBV8 := Lib.hid (HBVL.out.turn ht8 fun e => (show ¬ v = g from HBVL.out.ne_ HBG.out (by decide)) e)
                  clear hb8 ht8
                  go_upto_region 41 with fail
                  refine wp_region_lit ?_
                  refine wpList_run (v := .int .i64 (i : Int)) (wanted_none rfl) (exec_move rfl rfl) ?_
                  simp only [Act.put, List.setIfInBounds_toArray, List.set_cons_zero, List.set_cons_succ]
                  refine wpList_run (v := .int .i64 ((i + 1 : Nat) : Int)) (wanted_none rfl) (ix_add rfl rfl rfl (by omega) (by omega)) ?_
                  simp only [Act.put, List.setIfInBounds_toArray, List.set_cons_zero, List.set_cons_succ]
                  refine wpList_run (v := .int .i64 ((i + 1 : Nat) : Int)) (wanted_none rfl) (gx_assign rfl rfl) ?_
                  simp only [Act.put, List.setIfInBounds_toArray, List.set_cons_zero, List.set_cons_succ]
                  go_wp2_with fail
                  go_roundg (gk - 1)
                  case measure => have := HIL.out; have := HLI.out; omega
                  case rel => exact ⟨i + 1, rfl, by have := HIL.out; have := HLI.out; omega, HF8.out, HW8.out, HB8.out, HBV8.out⟩
                · have yli : ¬ (i : Int) < (((tfs ob).length : Nat) : Int) := by omega
                  clear hli
                  go_upto_region 40 with fail
                  refine wp_region_lit ?_
                  refine wpList_run (v := .int .i64 (i : Int)) (wanted_none rfl) (exec_move rfl rfl) ?_
                  simp only [Act.put, List.setIfInBounds_toArray, List.set_cons_zero, List.set_cons_succ]
                  refine wpList_run (v := .pointer (some ⟨v1, 1, none⟩)) (wanted_none rfl) (exec_field (off := 0) (d := 1) rfl rfl (by kernel_rfl)) ?_
                  simp only [Act.put, List.setIfInBounds_toArray, List.set_cons_zero, List.set_cons_succ]
                  refine wpList_run (v := .slice A3 (tfs ob).length c3) (wanted_none rfl) (exec_load1 rfl rfl (by kernel_rfl) (HBL.out.cell 1)) ?_
                  simp only [Act.put, List.setIfInBounds_toArray, List.set_cons_zero, List.set_cons_succ]
                  refine wpList_run (v := .int .i64 ((tfs ob).length : Int)) (wanted_none rfl) (gx_len rfl rfl Try.underlying33) ?_
                  simp only [Act.put, List.setIfInBounds_toArray, List.set_cons_zero, List.set_cons_succ]
                  refine wpList_run (v := .bool false) (wanted_none rfl) (ix_lss rfl rfl rfl (decide_eq_false yli)) ?_
                  simp only [Act.put, List.setIfInBounds_toArray, List.set_cons_zero, List.set_cons_succ]
                  go_upto_region 58 with fail
                  refine wp_region_lit ?_
                  refine wpList_run (v := .pointer (some ⟨x, 0, none⟩)) (wanted_none rfl) (exec_move rfl rfl) ?_
                  simp only [Act.put, List.setIfInBounds_toArray, List.set_cons_zero, List.set_cons_succ]
                  refine wpList_run (v := .pointer (some ⟨y, 0, none⟩)) (wanted_none rfl) (exec_move rfl rfl) ?_
                  simp only [Act.put, List.setIfInBounds_toArray, List.set_cons_zero, List.set_cons_succ]
                  refine wpList_op (wanted_none rfl) fun K9 HK9 => ?_
                  go_wp2_with fail
                  refine (like_walk HFL.out.qx HFL.out.ry).mono ?_
                  rintro e wy ⟨rfl, ht⟩
                  refine HK9.out _ _ ?_
                  clear HK9
                  try simp only [Act.put, List.setIfInBounds_toArray, List.set_cons_zero, List.set_cons_succ]
                  have HFY := Lib.hid (HFL.out.still ht)
                  clear ht
                  refine wpList_run (v := .bool true) (wanted_none rfl) (gx_assign rfl rfl) ?_
                  simp only [Act.put, List.setIfInBounds_toArray, List.set_cons_zero, List.set_cons_succ]
                  go_upto_region 59 with fail
                  refine wp_region_lit ?_
                  refine wpList_run (v := .pointer (some ⟨z, 0, none⟩)) (wanted_none rfl) (exec_move rfl rfl) ?_
                  simp only [Act.put, List.setIfInBounds_toArray, List.set_cons_zero, List.set_cons_succ]
                  refine wpList_run (v := .pointer (some ⟨u, 0, none⟩)) (wanted_none rfl) (exec_move rfl rfl) ?_
                  simp only [Act.put, List.setIfInBounds_toArray, List.set_cons_zero, List.set_cons_succ]
                  refine wpList_op (wanted_none rfl) fun K9 HK9 => ?_
                  go_wp2_with fail
                  refine (like_walk HFY.out.qz HFY.out.ru).mono ?_
                  rintro e wz ⟨rfl, ht⟩
                  refine HK9.out _ _ ?_
                  clear HK9
                  try simp only [Act.put, List.setIfInBounds_toArray, List.set_cons_zero, List.set_cons_succ]
                  have HFZ := Lib.hid ((HFY.out.still ht).mono (Z' := fun _ => True) fun _ _ _ => trivial)
                  clear ht
                  refine wpList_run (v := .bool true) (wanted_none rfl) (gx_assign rfl rfl) ?_
                  simp only [Act.put, List.setIfInBounds_toArray, List.set_cons_zero, List.set_cons_succ]
                  go_upto_region 60 with fail
                  refine wp_region_lit ?_
                  refine wpList_run (v := .bool true) (wanted_none rfl) (exec_move rfl rfl) ?_
                  simp only [Act.put, List.setIfInBounds_toArray, List.set_cons_zero, List.set_cons_succ]
                  refine wpList_run (v := .bool false) (wanted_none rfl) (ix_not (b := true) rfl rfl) ?_
                  simp only [Act.put, List.setIfInBounds_toArray, List.set_cons_zero, List.set_cons_succ]
                  refine wpList_run (v := .bool false) (wanted_none rfl) (exec_move rfl rfl) ?_
                  simp only [Act.put, List.setIfInBounds_toArray, List.set_cons_zero, List.set_cons_succ]
                  refine wpList_run (v := .bool true) rfl (exec_move rfl rfl) ?_
                  simp only [Act.put, List.setIfInBounds_toArray, List.set_cons_zero, List.set_cons_succ]
                  refine wpList_run (v := .bool false) rfl (ix_not (b := true) rfl rfl) ?_
                  simp only [Act.put, List.setIfInBounds_toArray, List.set_cons_zero, List.set_cons_succ]
                  refine wpList_run (v := .bool false) (wanted_none rfl) (ix_pickF rfl rfl rfl) ?_
                  simp only [Act.put, List.setIfInBounds_toArray, List.set_cons_zero, List.set_cons_succ]
                  go_upto_region 14 with fail
                  refine wp_region_lit ?_
                  refine wpList_run (v := .int .i64 (j : Int)) (wanted_none rfl) (exec_move rfl rfl) ?_
                  simp only [Act.put, List.setIfInBounds_toArray, List.set_cons_zero, List.set_cons_succ]
                  refine wpList_run (v := .int .i64 ((j + 1 : Nat) : Int)) (wanted_none rfl) (ix_add rfl rfl rfl (by omega) (by omega)) ?_
                  simp only [Act.put, List.setIfInBounds_toArray, List.set_cons_zero, List.set_cons_succ]
                  refine wpList_run (v := .int .i64 ((j + 1 : Nat) : Int)) (wanted_none rfl) (gx_assign rfl rfl) ?_
                  simp only [Act.put, List.setIfInBounds_toArray, List.set_cons_zero, List.set_cons_succ]
                  go_wp2_with fail
                  go_roundg (mm - (j + 1))
                  case measure => have := HJL.out; have := HLX.out; omega
                  case rel => exact ⟨j + 1, x, gx, z, gz, y, u, (a.1, Sf.sendS a.1 a.2), b, rfl, rfl, rfl, rfl, rfl, by have := HLX.out; omega, HFZ.out⟩
            · as_aux_lemma =>
                refine wpList_run (v := .bool false) (wanted_none rfl) (ix_eql rfl rfl rfl (decide_eq_false h3)) ?_
                simp only [Act.put, List.setIfInBounds_toArray, List.set_cons_zero, List.set_cons_succ]
                clear h3
                go_upto_region 36 with fail
                refine wp_region_lit ?_
                refine wpList_run (v := .agg #[.int .i64 (tty oa), .slice A1 (tfs oa).length c1]) (wanted_none rfl) (gx_loads rfl rfl (blk_range HB16.out) Try.underlying35 rfl (by rw [size_msg]; rfl)) ?_
                simp only [Act.put, List.setIfInBounds_toArray, List.set_cons_zero, List.set_cons_succ]
                refine wpList_run (v := .agg #[.int .i64 (tty oa), .slice A2 (tfs oa).length c2]) (wanted_none rfl) (gx_loads rfl rfl (blk_range HBv2b.out) Try.underlying35 rfl (by rw [size_msg]; rfl)) ?_
                simp only [Act.put, List.setIfInBounds_toArray, List.set_cons_zero, List.set_cons_succ]
                have HSM := Lib.hid (Same_walk (ty1 := tty oa) (ty2 := tty oa) (c1 := c1) (c2 := c2) (Fr.fq HR6.out HRMa.out).fl (Fr.fq HQ6.out HRMa.out).fl)
                unfold msgV at HSM
                rw [decide_eq_true (⟨rfl, rfl⟩ : tty oa = tty oa ∧ tfs oa = tfs oa)] at HSM
                refine wpList_op (wanted_none rfl) fun K9 HK9 => ?_
                go_wp2_with fail
                refine (HSM.out).mono ?_
                rintro e w8 ⟨rfl, ht⟩
                refine HK9.out _ _ ?_
                clear HK9
                try simp only [Act.put, List.setIfInBounds_toArray, List.set_cons_zero, List.set_cons_succ]
                have HF8a := Lib.hid (HF6.out.still ht)
                have HBv8a := Lib.hid (HBv6.out.turn ht fun e => e)
                have HB18a := Lib.hid (HB16.out.turn ht fun e => e)
                have HW8a := Lib.hid (Fr.wr (Orw.still HR6.out ht))
                have HGA := Lib.hid (show ∀ g, A1 = some ⟨g, 0, none⟩ → ¬ g < N from fun g hg e => by
                  have h9 := Orw.lt HR6.out (b := g) (by rw [hg]; rfl)
                  omega)
                clear ht HSM
                refine wpList_run (v := .bool true) (wanted_none rfl) (gx_assign rfl rfl) ?_
                simp only [Act.put, List.setIfInBounds_toArray, List.set_cons_zero, List.set_cons_succ]
                go_upto_region 37 with fail
                refine wp_region_lit ?_
                refine wpList_run (v := strV (tnm oa)) (wanted_none rfl) (exec_move rfl rfl) ?_
                simp only [Act.put, List.setIfInBounds_toArray, List.set_cons_zero, List.set_cons_succ]
                refine wpList_run (v := strV (tnm oa)) (wanted_none rfl) (exec_move rfl rfl) ?_
                simp only [Act.put, List.setIfInBounds_toArray, List.set_cons_zero, List.set_cons_succ]
                refine wpList_run (v := .bool false) (wanted_none rfl) ((exec_sneq rfl rfl rfl).trans (by rw [beq_self_eq_true]; rfl)) ?_
                simp only [Act.put, List.setIfInBounds_toArray, List.set_cons_zero, List.set_cons_succ]
                refine wpList_run (v := .bool false) (wanted_none rfl) (exec_move rfl rfl) ?_
                simp only [Act.put, List.setIfInBounds_toArray, List.set_cons_zero, List.set_cons_succ]
                refine wpList_run (v := .bool (oa).isSome) rfl (exec_move rfl rfl) ?_
                simp only [Act.put, List.setIfInBounds_toArray, List.set_cons_zero, List.set_cons_succ]
                refine wpList_run (v := .bool (oa).isSome) rfl (exec_move rfl rfl) ?_
                simp only [Act.put, List.setIfInBounds_toArray, List.set_cons_zero, List.set_cons_succ]
                refine wpList_run (v := .bool false) rfl ((bx_neb rfl rfl rfl).trans (by rw [beq_self_eq_true]; rfl)) ?_
                simp only [Act.put, List.setIfInBounds_toArray, List.set_cons_zero, List.set_cons_succ]
                refine wpList_run (v := .bool false) (wanted_none rfl) (ix_pickF rfl rfl rfl) ?_
                simp only [Act.put, List.setIfInBounds_toArray, List.set_cons_zero, List.set_cons_succ]
                refine wpList_run (v := .bool false) (wanted_none rfl) (exec_move rfl rfl) ?_
                simp only [Act.put, List.setIfInBounds_toArray, List.set_cons_zero, List.set_cons_succ]
                refine wpList_run (v := .bool true) rfl (exec_move rfl rfl) ?_
                simp only [Act.put, List.setIfInBounds_toArray, List.set_cons_zero, List.set_cons_succ]
                refine wpList_run (v := .bool false) rfl (ix_not (b := true) rfl rfl) ?_
                simp only [Act.put, List.setIfInBounds_toArray, List.set_cons_zero, List.set_cons_succ]
                refine wpList_run (v := .bool false) (wanted_none rfl) (ix_pickF rfl rfl rfl) ?_
                simp only [Act.put, List.setIfInBounds_toArray, List.set_cons_zero, List.set_cons_succ]
                go_upto_region 39 with fail
                refine wp_region_lit ?_
                refine wpList_run (v := .int .i64 0) (wanted_none rfl) (gx_assign rfl rfl) ?_
                simp only [Act.put, List.setIfInBounds_toArray, List.set_cons_zero, List.set_cons_succ]
                have ynn : (tfs oa).length ≤ 140737488355328 := by have := HRMa.out; omega
                go_wp2_with fail
                go_loopg [25] (tfs oa).length (fun gk2 iv2 wr2 => ∃ i : Nat, iv2 = .int .i64 (i : Int) ∧ i + gk2 = (tfs oa).length ∧ Fo w wr2 (fun k => k < N) x gx z gz y u m (a.1, a.2) (b) (a.1, a.2) (b) ∧ Wr wr2 N A1 (tfs oa).length c1 ∧ Blk wr2 v1 35 #[.int .i64 (tty oa), .slice A1 (tfs oa).length c1] ∧ Blk wr2 v 37 o.cells.toArray)
                case atStart => exact ⟨0, rfl, by omega, HF8a.out, HW8a.out, HB18a.out, HBv8a.out⟩
                clear HF8a HW8a HB18a HBv8a
                obtain ⟨i, rfl, hil, hf, hwr, hbm, hbv⟩ := hrel
                have HIL := Lib.hid hil
                have HFL := Lib.hid hf
                have HWL := Lib.hid hwr
                have HBL := Lib.hid hbm
                have HBVL := Lib.hid hbv
                clear hil hf hwr hbm hbv
                by_cases hli : i < (tfs oa).length
                · have yli : (i : Int) < (((tfs oa).length : Nat) : Int) := by omega
                  obtain ⟨g, cur, hA, hNg, hbg, hsz, hset⟩ := HWL.out.set hli
                  have HLI := Lib.hid hli
                  have HNG := Lib.hid hNg
                  have HBG := Lib.hid hbg
                  have HSZ := Lib.hid hsz
                  have HSET := Lib.hid hset
                  have HZG := Lib.hid (HGA.out g hA)
                  subst hA
                  clear hli hNg hbg hsz hset
                  go_upto_region 40 with fail
                  refine wp_region_lit ?_
                  refine wpList_run (v := .int .i64 (i : Int)) (wanted_none rfl) (exec_move rfl rfl) ?_
                  simp only [Act.put, List.setIfInBounds_toArray, List.set_cons_zero, List.set_cons_succ]
                  refine wpList_run (v := .pointer (some ⟨v1, 1, none⟩)) (wanted_none rfl) (exec_field (off := 0) (d := 1) rfl rfl (by kernel_rfl)) ?_
                  simp only [Act.put, List.setIfInBounds_toArray, List.set_cons_zero, List.set_cons_succ]
                  refine wpList_run (v := .slice (some ⟨g, 0, none⟩) (tfs oa).length c1) (wanted_none rfl) (exec_load1 rfl rfl (by kernel_rfl) (HBL.out.cell 1)) ?_
                  simp only [Act.put, List.setIfInBounds_toArray, List.set_cons_zero, List.set_cons_succ]
                  refine wpList_run (v := .int .i64 ((tfs oa).length : Int)) (wanted_none rfl) (gx_len rfl rfl Try.underlying33) ?_
                  simp only [Act.put, List.setIfInBounds_toArray, List.set_cons_zero, List.set_cons_succ]
                  refine wpList_run (v := .bool true) (wanted_none rfl) (ix_lss rfl rfl rfl (decide_eq_true yli)) ?_
                  simp only [Act.put, List.setIfInBounds_toArray, List.set_cons_zero, List.set_cons_succ]
                  go_upto_region 42 with fail
                  refine wp_region_lit ?_
                  refine wpList_run (v := .pointer (some ⟨v1, 1, none⟩)) (wanted_none rfl) (exec_field (off := 0) (d := 1) rfl rfl (by kernel_rfl)) ?_
                  simp only [Act.put, List.setIfInBounds_toArray, List.set_cons_zero, List.set_cons_succ]
                  refine wpList_run (v := .slice (some ⟨g, 0, none⟩) (tfs oa).length c1) (wanted_none rfl) (exec_load1 rfl rfl (by kernel_rfl) (HBL.out.cell 1)) ?_
                  simp only [Act.put, List.setIfInBounds_toArray, List.set_cons_zero, List.set_cons_succ]
                  refine wpList_run (v := .int .i64 (i : Int)) (wanted_none rfl) (exec_move rfl rfl) ?_
                  simp only [Act.put, List.setIfInBounds_toArray, List.set_cons_zero, List.set_cons_succ]
                  refine wpList_run (v := .pointer (some ⟨g, 0 + i * 2, none⟩)) (wanted_none rfl) (gx_iaddr (i := i) (sz := 2) rfl rfl rfl Try.underlying33 size_field HLI.out rfl) ?_
                  simp only [Act.put, List.setIfInBounds_toArray, List.set_cons_zero, List.set_cons_succ]
                  refine wpList_run (v := .pointer (some ⟨g, 0 + i * 2 + 1, none⟩)) (wanted_none rfl) (exec_field (off := 0 + i * 2) (d := 1) rfl rfl (by kernel_rfl)) ?_
                  simp only [Act.put, List.setIfInBounds_toArray, List.set_cons_zero, List.set_cons_succ]
                  refine wpList_storeU (0 + i * 2 + 1) (strV [115, 112, 111, 105, 108, 116]) (wanted_none rfl) 9 _ _ rfl HBG.out rfl rfl (by have := HSZ.out; omega) ⟨rfl, rfl⟩ size_str ?_
                  intro w8 hb8 ht8
                  simp only [Act.put, List.setIfInBounds_toArray, List.set_cons_zero, List.set_cons_succ]
                  rw [show 0 + i * 2 + 1 = i * 2 + 1 from by omega] at hb8
                  have HF8 := Lib.hid (HFL.out.write HBG.out ht8 HZG.out (by have := HNG.out; have := HWN.out; omega))
                  have HW8 := Lib.hid (HSET.out w8 (strV [115, 112, 111, 105, 108, 116]) rfl hb8)
                  have HB8 := Lib.hid (HBL.out.turn ht8 fun e => (show ¬ v1 = g from HBL.out.ne_ HBG.out (by decide)) e)
                  have HBV8 := Lib.hid (HBVL.out.turn ht8 fun e => (show ¬ v = g from HBVL.out.ne_ HBG.out (by decide)) e)
                  clear hb8 ht8
                  go_upto_region 41 with fail
                  refine wp_region_lit ?_
                  refine wpList_run (v := .int .i64 (i : Int)) (wanted_none rfl) (exec_move rfl rfl) ?_
                  simp only [Act.put, List.setIfInBounds_toArray, List.set_cons_zero, List.set_cons_succ]
                  refine wpList_run (v := .int .i64 ((i + 1 : Nat) : Int)) (wanted_none rfl) (ix_add rfl rfl rfl (by omega) (by omega)) ?_
                  simp only [Act.put, List.setIfInBounds_toArray, List.set_cons_zero, List.set_cons_succ]
                  refine wpList_run (v := .int .i64 ((i + 1 : Nat) : Int)) (wanted_none rfl) (gx_assign rfl rfl) ?_
                  simp only [Act.put, List.setIfInBounds_toArray, List.set_cons_zero, List.set_cons_succ]
                  go_wp2_with fail
                  go_roundg (gk - 1)
                  case measure => have := HIL.out; have := HLI.out; omega
                  case rel => exact ⟨i + 1, rfl, by have := HIL.out; have := HLI.out; omega, HF8.out, HW8.out, HB8.out, HBV8.out⟩
                · have yli : ¬ (i : Int) < (((tfs oa).length : Nat) : Int) := by omega
                  clear hli
                  go_upto_region 40 with fail
                  refine wp_region_lit ?_
                  refine wpList_run (v := .int .i64 (i : Int)) (wanted_none rfl) (exec_move rfl rfl) ?_
                  simp only [Act.put, List.setIfInBounds_toArray, List.set_cons_zero, List.set_cons_succ]
                  refine wpList_run (v := .pointer (some ⟨v1, 1, none⟩)) (wanted_none rfl) (exec_field (off := 0) (d := 1) rfl rfl (by kernel_rfl)) ?_
                  simp only [Act.put, List.setIfInBounds_toArray, List.set_cons_zero, List.set_cons_succ]
                  refine wpList_run (v := .slice A1 (tfs oa).length c1) (wanted_none rfl) (exec_load1 rfl rfl (by kernel_rfl) (HBL.out.cell 1)) ?_
                  simp only [Act.put, List.setIfInBounds_toArray, List.set_cons_zero, List.set_cons_succ]
                  refine wpList_run (v := .int .i64 ((tfs oa).length : Int)) (wanted_none rfl) (gx_len rfl rfl Try.underlying33) ?_
                  simp only [Act.put, List.setIfInBounds_toArray, List.set_cons_zero, List.set_cons_succ]
                  refine wpList_run (v := .bool false) (wanted_none rfl) (ix_lss rfl rfl rfl (decide_eq_false yli)) ?_
                  simp only [Act.put, List.setIfInBounds_toArray, List.set_cons_zero, List.set_cons_succ]
                  go_upto_region 58 with fail
                  refine wp_region_lit ?_
                  refine wpList_run (v := .pointer (some ⟨x, 0, none⟩)) (wanted_none rfl) (exec_move rfl rfl) ?_
                  simp only [Act.put, List.setIfInBounds_toArray, List.set_cons_zero, List.set_cons_succ]
                  refine wpList_run (v := .pointer (some ⟨y, 0, none⟩)) (wanted_none rfl) (exec_move rfl rfl) ?_
                  simp only [Act.put, List.setIfInBounds_toArray, List.set_cons_zero, List.set_cons_succ]
                  refine wpList_op (wanted_none rfl) fun K9 HK9 => ?_
                  go_wp2_with fail
                  refine (like_walk HFL.out.qx HFL.out.ry).mono ?_
                  rintro e wy ⟨rfl, ht⟩
                  refine HK9.out _ _ ?_
                  clear HK9
                  try simp only [Act.put, List.setIfInBounds_toArray, List.set_cons_zero, List.set_cons_succ]
                  have HFY := Lib.hid (HFL.out.still ht)
                  clear ht
                  refine wpList_run (v := .bool true) (wanted_none rfl) (gx_assign rfl rfl) ?_
                  simp only [Act.put, List.setIfInBounds_toArray, List.set_cons_zero, List.set_cons_succ]
                  go_upto_region 59 with fail
                  refine wp_region_lit ?_
                  refine wpList_run (v := .pointer (some ⟨z, 0, none⟩)) (wanted_none rfl) (exec_move rfl rfl) ?_
                  simp only [Act.put, List.setIfInBounds_toArray, List.set_cons_zero, List.set_cons_succ]
                  refine wpList_run (v := .pointer (some ⟨u, 0, none⟩)) (wanted_none rfl) (exec_move rfl rfl) ?_
                  simp only [Act.put, List.setIfInBounds_toArray, List.set_cons_zero, List.set_cons_succ]
                  refine wpList_op (wanted_none rfl) fun K9 HK9 => ?_
                  go_wp2_with fail
                  refine (like_walk HFY.out.qz HFY.out.ru).mono ?_
                  rintro e wz ⟨rfl, ht⟩
                  refine HK9.out _ _ ?_
                  clear HK9
                  try simp only [Act.put, List.setIfInBounds_toArray, List.set_cons_zero, List.set_cons_succ]
                  have HFZ := Lib.hid ((HFY.out.still ht).mono (Z' := fun _ => True) fun _ _ _ => trivial)
                  clear ht
                  refine wpList_run (v := .bool true) (wanted_none rfl) (gx_assign rfl rfl) ?_
                  simp only [Act.put, List.setIfInBounds_toArray, List.set_cons_zero, List.set_cons_succ]
                  go_upto_region 60 with fail
                  refine wp_region_lit ?_
                  refine wpList_run (v := .bool true) (wanted_none rfl) (exec_move rfl rfl) ?_
                  simp only [Act.put, List.setIfInBounds_toArray, List.set_cons_zero, List.set_cons_succ]
                  refine wpList_run (v := .bool false) (wanted_none rfl) (ix_not (b := true) rfl rfl) ?_
                  simp only [Act.put, List.setIfInBounds_toArray, List.set_cons_zero, List.set_cons_succ]
                  refine wpList_run (v := .bool false) (wanted_none rfl) (exec_move rfl rfl) ?_
                  simp only [Act.put, List.setIfInBounds_toArray, List.set_cons_zero, List.set_cons_succ]
                  refine wpList_run (v := .bool true) rfl (exec_move rfl rfl) ?_
                  simp only [Act.put, List.setIfInBounds_toArray, List.set_cons_zero, List.set_cons_succ]
                  refine wpList_run (v := .bool false) rfl (ix_not (b := true) rfl rfl) ?_
                  simp only [Act.put, List.setIfInBounds_toArray, List.set_cons_zero, List.set_cons_succ]
                  refine wpList_run (v := .bool false) (wanted_none rfl) (ix_pickF rfl rfl rfl) ?_
                  simp only [Act.put, List.setIfInBounds_toArray, List.set_cons_zero, List.set_cons_succ]
                  go_upto_region 14 with fail
                  refine wp_region_lit ?_
                  refine wpList_run (v := .int .i64 (j : Int)) (wanted_none rfl) (exec_move rfl rfl) ?_
                  simp only [Act.put, List.setIfInBounds_toArray, List.set_cons_zero, List.set_cons_succ]
                  refine wpList_run (v := .int .i64 ((j + 1 : Nat) : Int)) (wanted_none rfl) (ix_add rfl rfl rfl (by omega) (by omega)) ?_
                  simp only [Act.put, List.setIfInBounds_toArray, List.set_cons_zero, List.set_cons_succ]
                  refine wpList_run (v := .int .i64 ((j + 1 : Nat) : Int)) (wanted_none rfl) (gx_assign rfl rfl) ?_
                  simp only [Act.put, List.setIfInBounds_toArray, List.set_cons_zero, List.set_cons_succ]
                  go_wp2_with fail
                  go_roundg (mm - (j + 1))
                  case measure => have := HJL.out; have := HLX.out; omega
                  case rel => exact ⟨j + 1, x, gx, z, gz, y, u, (a.1, a.2), b, rfl, rfl, rfl, rfl, rfl, by have := HLX.out; omega, HFZ.out⟩
        · rw [decide_eq_false h34]
          by_cases hk5 : (kk : Int) = 5
          · as_aux_lemma =>
              go_upto_region 43 with fail
              refine wp_region_lit ?_
              refine wpList_run (v := .bool true) (wanted_none rfl) (ix_eql rfl rfl rfl (decide_eq_true hk5)) ?_
              simp only [Act.put, List.setIfInBounds_toArray, List.set_cons_zero, List.set_cons_succ]
              refine wpList_run (v := .bool true) (wanted_none rfl) (gx_assign rfl rfl) ?_
              simp only [Act.put, List.setIfInBounds_toArray, List.set_cons_zero, List.set_cons_succ]
              clear hk5
              obtain ⟨cd, hcd⟩ : ∃ cd, cd = Sf.canDone a.1 a.2 o.nm := ⟨_, rfl⟩
              have HDX := Lib.hid (done_q HF3.out.qx o.nm)
              rw [← hcd] at HDX
              have HCD := Lib.hid hcd
              clear hcd
              go_upto_region 44 with fail
              refine wp_region_lit ?_
              refine wpList_run (v := .pointer (some ⟨x, 0, none⟩)) (wanted_none rfl) (exec_move rfl rfl) ?_
              simp only [Act.put, List.setIfInBounds_toArray, List.set_cons_zero, List.set_cons_succ]
              refine wpList_run (v := .pointer (some ⟨v, 1, none⟩)) (wanted_none rfl) (exec_field (off := 0) (d := 1) rfl rfl (by kernel_rfl)) ?_
              simp only [Act.put, List.setIfInBounds_toArray, List.set_cons_zero, List.set_cons_succ]
              refine wpList_run (v := strV o.nm) (wanted_none rfl) (exec_load1 rfl rfl (by kernel_rfl) (HBv.out.cell 1)) ?_
              simp only [Act.put, List.setIfInBounds_toArray, List.set_cons_zero, List.set_cons_succ]
              refine wpList_op (wanted_none rfl) fun K9 HK9 => ?_
              go_wp2_with fail
              refine (HDX.out).mono ?_
              rintro e w4 ⟨rfl, hq, ht⟩
              refine HK9.out _ _ ?_
              clear HK9
              try simp only [Act.put, List.setIfInBounds_toArray, List.set_cons_zero, List.set_cons_succ]
              have HF4 := Lib.hid (HF3.out.cx hq ht (fun k hk => hk) (.inl rfl))
              have HBv4 := Lib.hid (HBv.out.turn ht (HF3.out.offx HBv.out (by decide) (by decide)))
              have HDY := Lib.hid (rdone_q HF4.out.ry o.nm)
              rw [← HCD.out] at HDY
              clear hq ht HDX
              refine wpList_run (v := .bool cd) (wanted_none rfl) (gx_assign rfl rfl) ?_
              simp only [Act.put, List.setIfInBounds_toArray, List.set_cons_zero, List.set_cons_succ]
              go_upto_region 45 with fail
              refine wp_region_lit ?_
              refine wpList_run (v := .pointer (some ⟨y, 0, none⟩)) (wanted_none rfl) (exec_move rfl rfl) ?_
              simp only [Act.put, List.setIfInBounds_toArray, List.set_cons_zero, List.set_cons_succ]
              refine wpList_run (v := .pointer (some ⟨v, 1, none⟩)) (wanted_none rfl) (exec_field (off := 0) (d := 1) rfl rfl (by kernel_rfl)) ?_
              simp only [Act.put, List.setIfInBounds_toArray, List.set_cons_zero, List.set_cons_succ]
              refine wpList_run (v := strV o.nm) (wanted_none rfl) (exec_load1 rfl rfl (by kernel_rfl) (HBv4.out.cell 1)) ?_
              simp only [Act.put, List.setIfInBounds_toArray, List.set_cons_zero, List.set_cons_succ]
              refine wpList_op (wanted_none rfl) fun K9 HK9 => ?_
              go_wp2_with fail
              refine (HDY.out).mono ?_
              rintro e w5 ⟨rfl, hq, ht⟩
              refine HK9.out _ _ ?_
              clear HK9
              try simp only [Act.put, List.setIfInBounds_toArray, List.set_cons_zero, List.set_cons_succ]
              have HF5 := Lib.hid (HF4.out.cy hq ht fun k hk => hk)
              clear hq ht HDY
              refine wpList_run (v := .bool cd) (wanted_none rfl) (gx_assign rfl rfl) ?_
              simp only [Act.put, List.setIfInBounds_toArray, List.set_cons_zero, List.set_cons_succ]
              go_upto_region 46 with fail
              refine wp_region_lit ?_
              refine wpList_run (v := .bool cd) (wanted_none rfl) (exec_move rfl rfl) ?_
              simp only [Act.put, List.setIfInBounds_toArray, List.set_cons_zero, List.set_cons_succ]
              refine wpList_run (v := .bool cd) (wanted_none rfl) (exec_move rfl rfl) ?_
              simp only [Act.put, List.setIfInBounds_toArray, List.set_cons_zero, List.set_cons_succ]
              refine wpList_run (v := .bool false) (wanted_none rfl) ((bx_neb rfl rfl rfl).trans (by rw [beq_self_eq_true]; rfl)) ?_
              simp only [Act.put, List.setIfInBounds_toArray, List.set_cons_zero, List.set_cons_succ]
              go_upto_region 58 with fail
              refine wp_region_lit ?_
              refine wpList_run (v := .pointer (some ⟨x, 0, none⟩)) (wanted_none rfl) (exec_move rfl rfl) ?_
              simp only [Act.put, List.setIfInBounds_toArray, List.set_cons_zero, List.set_cons_succ]
              refine wpList_run (v := .pointer (some ⟨y, 0, none⟩)) (wanted_none rfl) (exec_move rfl rfl) ?_
              simp only [Act.put, List.setIfInBounds_toArray, List.set_cons_zero, List.set_cons_succ]
              refine wpList_op (wanted_none rfl) fun K9 HK9 => ?_
              go_wp2_with fail
              refine (like_walk HF5.out.qx HF5.out.ry).mono ?_
              rintro e wy ⟨rfl, ht⟩
              refine HK9.out _ _ ?_
              clear HK9
              try simp only [Act.put, List.setIfInBounds_toArray, List.set_cons_zero, List.set_cons_succ]
              have HFY := Lib.hid (HF5.out.still ht)
              clear ht
              refine wpList_run (v := .bool true) (wanted_none rfl) (gx_assign rfl rfl) ?_
              simp only [Act.put, List.setIfInBounds_toArray, List.set_cons_zero, List.set_cons_succ]
              go_upto_region 59 with fail
              refine wp_region_lit ?_
              refine wpList_run (v := .pointer (some ⟨z, 0, none⟩)) (wanted_none rfl) (exec_move rfl rfl) ?_
              simp only [Act.put, List.setIfInBounds_toArray, List.set_cons_zero, List.set_cons_succ]
              refine wpList_run (v := .pointer (some ⟨u, 0, none⟩)) (wanted_none rfl) (exec_move rfl rfl) ?_
              simp only [Act.put, List.setIfInBounds_toArray, List.set_cons_zero, List.set_cons_succ]
              refine wpList_op (wanted_none rfl) fun K9 HK9 => ?_
              go_wp2_with fail
              refine (like_walk HFY.out.qz HFY.out.ru).mono ?_
              rintro e wz ⟨rfl, ht⟩
              refine HK9.out _ _ ?_
              clear HK9
              try simp only [Act.put, List.setIfInBounds_toArray, List.set_cons_zero, List.set_cons_succ]
              have HFZ := Lib.hid ((HFY.out.still ht).mono (Z' := fun _ => True) fun _ _ _ => trivial)
              clear ht
              refine wpList_run (v := .bool true) (wanted_none rfl) (gx_assign rfl rfl) ?_
              simp only [Act.put, List.setIfInBounds_toArray, List.set_cons_zero, List.set_cons_succ]
              go_upto_region 60 with fail
              refine wp_region_lit ?_
              refine wpList_run (v := .bool true) (wanted_none rfl) (exec_move rfl rfl) ?_
              simp only [Act.put, List.setIfInBounds_toArray, List.set_cons_zero, List.set_cons_succ]
              refine wpList_run (v := .bool false) (wanted_none rfl) (ix_not (b := true) rfl rfl) ?_
              simp only [Act.put, List.setIfInBounds_toArray, List.set_cons_zero, List.set_cons_succ]
              refine wpList_run (v := .bool false) (wanted_none rfl) (exec_move rfl rfl) ?_
              simp only [Act.put, List.setIfInBounds_toArray, List.set_cons_zero, List.set_cons_succ]
              refine wpList_run (v := .bool true) rfl (exec_move rfl rfl) ?_
              simp only [Act.put, List.setIfInBounds_toArray, List.set_cons_zero, List.set_cons_succ]
              refine wpList_run (v := .bool false) rfl (ix_not (b := true) rfl rfl) ?_
              simp only [Act.put, List.setIfInBounds_toArray, List.set_cons_zero, List.set_cons_succ]
              refine wpList_run (v := .bool false) (wanted_none rfl) (ix_pickF rfl rfl rfl) ?_
              simp only [Act.put, List.setIfInBounds_toArray, List.set_cons_zero, List.set_cons_succ]
              go_upto_region 14 with fail
              refine wp_region_lit ?_
              refine wpList_run (v := .int .i64 (j : Int)) (wanted_none rfl) (exec_move rfl rfl) ?_
              simp only [Act.put, List.setIfInBounds_toArray, List.set_cons_zero, List.set_cons_succ]
              refine wpList_run (v := .int .i64 ((j + 1 : Nat) : Int)) (wanted_none rfl) (ix_add rfl rfl rfl (by omega) (by omega)) ?_
              simp only [Act.put, List.setIfInBounds_toArray, List.set_cons_zero, List.set_cons_succ]
              refine wpList_run (v := .int .i64 ((j + 1 : Nat) : Int)) (wanted_none rfl) (gx_assign rfl rfl) ?_
              simp only [Act.put, List.setIfInBounds_toArray, List.set_cons_zero, List.set_cons_succ]
              go_wp2_with fail
              go_roundg (mm - (j + 1))
              case measure => have := HJL.out; have := HLX.out; omega
              case rel => exact ⟨j + 1, x, gx, z, gz, y, u, (Sf.doneL a.1 a.2 o.nm, Sf.doneS a.1 a.2 o.nm), b, rfl, rfl, rfl, rfl, rfl, by have := HLX.out; omega, HFZ.out⟩
          · go_upto_region 43 with fail
            refine wp_region_lit ?_
            refine wpList_run (v := .bool false) (wanted_none rfl) (ix_eql rfl rfl rfl (decide_eq_false hk5)) ?_
            simp only [Act.put, List.setIfInBounds_toArray, List.set_cons_zero, List.set_cons_succ]
            refine wpList_run (v := .bool false) (wanted_none rfl) (gx_assign rfl rfl) ?_
            simp only [Act.put, List.setIfInBounds_toArray, List.set_cons_zero, List.set_cons_succ]
            by_cases hk6 : (kk : Int) = 6
            · as_aux_lemma =>
                go_upto_region 48 with fail
                refine wp_region_lit ?_
                refine wpList_run (v := .bool true) (wanted_none rfl) (ix_eql rfl rfl rfl (decide_eq_true hk6)) ?_
                simp only [Act.put, List.setIfInBounds_toArray, List.set_cons_zero, List.set_cons_succ]
                refine wpList_run (v := .bool true) (wanted_none rfl) (gx_assign rfl rfl) ?_
                simp only [Act.put, List.setIfInBounds_toArray, List.set_cons_zero, List.set_cons_succ]
                clear hk6
                go_upto_region 49 with fail
                refine wp_region_lit ?_
                refine wpList_run (v := .pointer (some ⟨x, 0, none⟩)) (wanted_none rfl) (exec_move rfl rfl) ?_
                simp only [Act.put, List.setIfInBounds_toArray, List.set_cons_zero, List.set_cons_succ]
                refine wpList_op (wanted_none rfl) fun K9 HK9 => ?_
                go_wp2_with fail
                refine (Stop_walk HF3.out.qx).mono ?_
                rintro e w4 ⟨rfl, hq, ht⟩
                refine HK9.out _ _ ?_
                clear HK9
                try simp only [Act.put, List.setIfInBounds_toArray, List.set_cons_zero, List.set_cons_succ]
                have HF4 := Lib.hid (HF3.out.cx hq (ht.mono fun k _ e => .inl e) (fun k hk => hk) (.inl rfl))
                clear hq ht
                go_upto_region 50 with fail
                refine wp_region_lit ?_
                refine wpList_run (v := .pointer (some ⟨y, 0, none⟩)) (wanted_none rfl) (exec_move rfl rfl) ?_
                simp only [Act.put, List.setIfInBounds_toArray, List.set_cons_zero, List.set_cons_succ]
                refine wpList_op (wanted_none rfl) fun K9 HK9 => ?_
                go_wp2_with fail
                refine (rStop_walk HF4.out.ry).mono ?_
                rintro e w5 ⟨rfl, hq, ht⟩
                refine HK9.out _ _ ?_
                clear HK9
                try simp only [Act.put, List.setIfInBounds_toArray, List.set_cons_zero, List.set_cons_succ]
                have HF5 := Lib.hid (HF4.out.cy hq ht fun k hk => hk)
                clear hq ht
                go_upto_region 58 with fail
                refine wp_region_lit ?_
                refine wpList_run (v := .pointer (some ⟨x, 0, none⟩)) (wanted_none rfl) (exec_move rfl rfl) ?_
                simp only [Act.put, List.setIfInBounds_toArray, List.set_cons_zero, List.set_cons_succ]
                refine wpList_run (v := .pointer (some ⟨y, 0, none⟩)) (wanted_none rfl) (exec_move rfl rfl) ?_
                simp only [Act.put, List.setIfInBounds_toArray, List.set_cons_zero, List.set_cons_succ]
                refine wpList_op (wanted_none rfl) fun K9 HK9 => ?_
                go_wp2_with fail
                refine (like_walk HF5.out.qx HF5.out.ry).mono ?_
                rintro e wy ⟨rfl, ht⟩
                refine HK9.out _ _ ?_
                clear HK9
                try simp only [Act.put, List.setIfInBounds_toArray, List.set_cons_zero, List.set_cons_succ]
                have HFY := Lib.hid (HF5.out.still ht)
                clear ht
                refine wpList_run (v := .bool true) (wanted_none rfl) (gx_assign rfl rfl) ?_
                simp only [Act.put, List.setIfInBounds_toArray, List.set_cons_zero, List.set_cons_succ]
                go_upto_region 59 with fail
                refine wp_region_lit ?_
                refine wpList_run (v := .pointer (some ⟨z, 0, none⟩)) (wanted_none rfl) (exec_move rfl rfl) ?_
                simp only [Act.put, List.setIfInBounds_toArray, List.set_cons_zero, List.set_cons_succ]
                refine wpList_run (v := .pointer (some ⟨u, 0, none⟩)) (wanted_none rfl) (exec_move rfl rfl) ?_
                simp only [Act.put, List.setIfInBounds_toArray, List.set_cons_zero, List.set_cons_succ]
                refine wpList_op (wanted_none rfl) fun K9 HK9 => ?_
                go_wp2_with fail
                refine (like_walk HFY.out.qz HFY.out.ru).mono ?_
                rintro e wz ⟨rfl, ht⟩
                refine HK9.out _ _ ?_
                clear HK9
                try simp only [Act.put, List.setIfInBounds_toArray, List.set_cons_zero, List.set_cons_succ]
                have HFZ := Lib.hid ((HFY.out.still ht).mono (Z' := fun _ => True) fun _ _ _ => trivial)
                clear ht
                refine wpList_run (v := .bool true) (wanted_none rfl) (gx_assign rfl rfl) ?_
                simp only [Act.put, List.setIfInBounds_toArray, List.set_cons_zero, List.set_cons_succ]
                go_upto_region 60 with fail
                refine wp_region_lit ?_
                refine wpList_run (v := .bool true) (wanted_none rfl) (exec_move rfl rfl) ?_
                simp only [Act.put, List.setIfInBounds_toArray, List.set_cons_zero, List.set_cons_succ]
                refine wpList_run (v := .bool false) (wanted_none rfl) (ix_not (b := true) rfl rfl) ?_
                simp only [Act.put, List.setIfInBounds_toArray, List.set_cons_zero, List.set_cons_succ]
                refine wpList_run (v := .bool false) (wanted_none rfl) (exec_move rfl rfl) ?_
                simp only [Act.put, List.setIfInBounds_toArray, List.set_cons_zero, List.set_cons_succ]
                refine wpList_run (v := .bool true) rfl (exec_move rfl rfl) ?_
                simp only [Act.put, List.setIfInBounds_toArray, List.set_cons_zero, List.set_cons_succ]
                refine wpList_run (v := .bool false) rfl (ix_not (b := true) rfl rfl) ?_
                simp only [Act.put, List.setIfInBounds_toArray, List.set_cons_zero, List.set_cons_succ]
                refine wpList_run (v := .bool false) (wanted_none rfl) (ix_pickF rfl rfl rfl) ?_
                simp only [Act.put, List.setIfInBounds_toArray, List.set_cons_zero, List.set_cons_succ]
                go_upto_region 14 with fail
                refine wp_region_lit ?_
                refine wpList_run (v := .int .i64 (j : Int)) (wanted_none rfl) (exec_move rfl rfl) ?_
                simp only [Act.put, List.setIfInBounds_toArray, List.set_cons_zero, List.set_cons_succ]
                refine wpList_run (v := .int .i64 ((j + 1 : Nat) : Int)) (wanted_none rfl) (ix_add rfl rfl rfl (by omega) (by omega)) ?_
                simp only [Act.put, List.setIfInBounds_toArray, List.set_cons_zero, List.set_cons_succ]
                refine wpList_run (v := .int .i64 ((j + 1 : Nat) : Int)) (wanted_none rfl) (gx_assign rfl rfl) ?_
                simp only [Act.put, List.setIfInBounds_toArray, List.set_cons_zero, List.set_cons_succ]
                go_wp2_with fail
                go_roundg (mm - (j + 1))
                case measure => have := HJL.out; have := HLX.out; omega
                case rel => exact ⟨j + 1, x, gx, z, gz, y, u, (a.1, false), b, rfl, rfl, rfl, rfl, rfl, by have := HLX.out; omega, HFZ.out⟩
            · go_upto_region 48 with fail
              refine wp_region_lit ?_
              refine wpList_run (v := .bool false) (wanted_none rfl) (ix_eql rfl rfl rfl (decide_eq_false hk6)) ?_
              simp only [Act.put, List.setIfInBounds_toArray, List.set_cons_zero, List.set_cons_succ]
              refine wpList_run (v := .bool false) (wanted_none rfl) (gx_assign rfl rfl) ?_
              simp only [Act.put, List.setIfInBounds_toArray, List.set_cons_zero, List.set_cons_succ]
              by_cases hk7 : (kk : Int) = 7
              · as_aux_lemma =>
                  go_upto_region 51 with fail
                  refine wp_region_lit ?_
                  refine wpList_run (v := .bool true) (wanted_none rfl) (ix_eql rfl rfl rfl (decide_eq_true hk7)) ?_
                  simp only [Act.put, List.setIfInBounds_toArray, List.set_cons_zero, List.set_cons_succ]
                  refine wpList_run (v := .bool true) (wanted_none rfl) (gx_assign rfl rfl) ?_
                  simp only [Act.put, List.setIfInBounds_toArray, List.set_cons_zero, List.set_cons_succ]
                  clear hk7
                  go_upto_region 52 with fail
                  refine wp_region_lit ?_
                  refine wpList_run (v := .pointer (some ⟨x, 0, none⟩)) (wanted_none rfl) (exec_move rfl rfl) ?_
                  simp only [Act.put, List.setIfInBounds_toArray, List.set_cons_zero, List.set_cons_succ]
                  refine wpList_run (v := .pointer (some ⟨x, 0, none⟩)) (wanted_none rfl) (gx_assign rfl rfl) ?_
                  simp only [Act.put, List.setIfInBounds_toArray, List.set_cons_zero, List.set_cons_succ]
                  go_upto_region 53 with fail
                  refine wp_region_lit ?_
                  refine wpList_run (v := .pointer (some ⟨x, 0, none⟩)) (wanted_none rfl) (exec_move rfl rfl) ?_
                  simp only [Act.put, List.setIfInBounds_toArray, List.set_cons_zero, List.set_cons_succ]
                  refine wpList_op (wanted_none rfl) fun K9 HK9 => ?_
                  go_wp2_with fail
                  refine (Clone_walk HF3.out.qx).mono ?_
                  rintro e w4 ⟨x2, g2, rfl, hq, h1, h2, ht⟩
                  refine HK9.out _ _ ?_
                  clear HK9
                  try simp only [Act.put, List.setIfInBounds_toArray, List.set_cons_zero, List.set_cons_succ]
                  have HF4 := Lib.hid (HF3.out.clone hq h1 h2 ht)
                  clear hq h1 h2 ht
                  refine wpList_run (v := .pointer (some ⟨x2, 0, none⟩)) (wanted_none rfl) (gx_assign rfl rfl) ?_
                  simp only [Act.put, List.setIfInBounds_toArray, List.set_cons_zero, List.set_cons_succ]
                  go_upto_region 54 with fail
                  refine wp_region_lit ?_
                  refine wpList_run (v := .pointer (some ⟨y, 0, none⟩)) (wanted_none rfl) (exec_move rfl rfl) ?_
                  simp only [Act.put, List.setIfInBounds_toArray, List.set_cons_zero, List.set_cons_succ]
                  refine wpList_run (v := .pointer (some ⟨y, 0, none⟩)) (wanted_none rfl) (gx_assign rfl rfl) ?_
                  simp only [Act.put, List.setIfInBounds_toArray, List.set_cons_zero, List.set_cons_succ]
                  go_upto_region 55 with fail
                  refine wp_region_lit ?_
                  refine wpList_run (v := .pointer (some ⟨y, 0, none⟩)) (wanted_none rfl) (exec_move rfl rfl) ?_
                  simp only [Act.put, List.setIfInBounds_toArray, List.set_cons_zero, List.set_cons_succ]
                  refine wpList_op (wanted_none rfl) fun K9 HK9 => ?_
                  go_wp2_with fail
                  refine (rClone_walk HF4.out.ry).mono ?_
                  rintro e w5 ⟨y2, rfl, hq, h1, ht⟩
                  refine HK9.out _ _ ?_
                  clear HK9
                  try simp only [Act.put, List.setIfInBounds_toArray, List.set_cons_zero, List.set_cons_succ]
                  have HF5 := Lib.hid (HF4.out.rclone hq h1 ht)
                  clear hq h1 ht
                  refine wpList_run (v := .pointer (some ⟨y2, 0, none⟩)) (wanted_none rfl) (gx_assign rfl rfl) ?_
                  simp only [Act.put, List.setIfInBounds_toArray, List.set_cons_zero, List.set_cons_succ]
                  go_upto_region 56 with fail
                  refine wp_region_lit ?_
                  refine wpList_run (v := .pointer (some ⟨x2, 0, none⟩)) (wanted_none rfl) (exec_move rfl rfl) ?_
                  simp only [Act.put, List.setIfInBounds_toArray, List.set_cons_zero, List.set_cons_succ]
                  refine wpList_run (v := .bool false) (wanted_none rfl) (ptr_eqf (by decide) rfl rfl rfl) ?_
                  simp only [Act.put, List.setIfInBounds_toArray, List.set_cons_zero, List.set_cons_succ]
                  go_upto_region 58 with fail
                  refine wp_region_lit ?_
                  refine wpList_run (v := .pointer (some ⟨x2, 0, none⟩)) (wanted_none rfl) (exec_move rfl rfl) ?_
                  simp only [Act.put, List.setIfInBounds_toArray, List.set_cons_zero, List.set_cons_succ]
                  refine wpList_run (v := .pointer (some ⟨y2, 0, none⟩)) (wanted_none rfl) (exec_move rfl rfl) ?_
                  simp only [Act.put, List.setIfInBounds_toArray, List.set_cons_zero, List.set_cons_succ]
                  refine wpList_op (wanted_none rfl) fun K9 HK9 => ?_
                  go_wp2_with fail
                  refine (like_walk HF5.out.qx HF5.out.ry).mono ?_
                  rintro e wy ⟨rfl, ht⟩
                  refine HK9.out _ _ ?_
                  clear HK9
                  try simp only [Act.put, List.setIfInBounds_toArray, List.set_cons_zero, List.set_cons_succ]
                  have HFY := Lib.hid (HF5.out.still ht)
                  clear ht
                  refine wpList_run (v := .bool true) (wanted_none rfl) (gx_assign rfl rfl) ?_
                  simp only [Act.put, List.setIfInBounds_toArray, List.set_cons_zero, List.set_cons_succ]
                  go_upto_region 59 with fail
                  refine wp_region_lit ?_
                  refine wpList_run (v := .pointer (some ⟨x, 0, none⟩)) (wanted_none rfl) (exec_move rfl rfl) ?_
                  simp only [Act.put, List.setIfInBounds_toArray, List.set_cons_zero, List.set_cons_succ]
                  refine wpList_run (v := .pointer (some ⟨y, 0, none⟩)) (wanted_none rfl) (exec_move rfl rfl) ?_
                  simp only [Act.put, List.setIfInBounds_toArray, List.set_cons_zero, List.set_cons_succ]
                  refine wpList_op (wanted_none rfl) fun K9 HK9 => ?_
                  go_wp2_with fail
                  refine (like_walk HFY.out.qz HFY.out.ru).mono ?_
                  rintro e wz ⟨rfl, ht⟩
                  refine HK9.out _ _ ?_
                  clear HK9
                  try simp only [Act.put, List.setIfInBounds_toArray, List.set_cons_zero, List.set_cons_succ]
                  have HFZ := Lib.hid ((HFY.out.still ht).mono (Z' := fun _ => True) fun _ _ _ => trivial)
                  clear ht
                  refine wpList_run (v := .bool true) (wanted_none rfl) (gx_assign rfl rfl) ?_
                  simp only [Act.put, List.setIfInBounds_toArray, List.set_cons_zero, List.set_cons_succ]
                  go_upto_region 60 with fail
                  refine wp_region_lit ?_
                  refine wpList_run (v := .bool true) (wanted_none rfl) (exec_move rfl rfl) ?_
                  simp only [Act.put, List.setIfInBounds_toArray, List.set_cons_zero, List.set_cons_succ]
                  refine wpList_run (v := .bool false) (wanted_none rfl) (ix_not (b := true) rfl rfl) ?_
                  simp only [Act.put, List.setIfInBounds_toArray, List.set_cons_zero, List.set_cons_succ]
                  refine wpList_run (v := .bool false) (wanted_none rfl) (exec_move rfl rfl) ?_
                  simp only [Act.put, List.setIfInBounds_toArray, List.set_cons_zero, List.set_cons_succ]
                  refine wpList_run (v := .bool true) rfl (exec_move rfl rfl) ?_
                  simp only [Act.put, List.setIfInBounds_toArray, List.set_cons_zero, List.set_cons_succ]
                  refine wpList_run (v := .bool false) rfl (ix_not (b := true) rfl rfl) ?_
                  simp only [Act.put, List.setIfInBounds_toArray, List.set_cons_zero, List.set_cons_succ]
                  refine wpList_run (v := .bool false) (wanted_none rfl) (ix_pickF rfl rfl rfl) ?_
                  simp only [Act.put, List.setIfInBounds_toArray, List.set_cons_zero, List.set_cons_succ]
                  go_upto_region 14 with fail
                  refine wp_region_lit ?_
                  refine wpList_run (v := .int .i64 (j : Int)) (wanted_none rfl) (exec_move rfl rfl) ?_
                  simp only [Act.put, List.setIfInBounds_toArray, List.set_cons_zero, List.set_cons_succ]
                  refine wpList_run (v := .int .i64 ((j + 1 : Nat) : Int)) (wanted_none rfl) (ix_add rfl rfl rfl (by omega) (by omega)) ?_
                  simp only [Act.put, List.setIfInBounds_toArray, List.set_cons_zero, List.set_cons_succ]
                  refine wpList_run (v := .int .i64 ((j + 1 : Nat) : Int)) (wanted_none rfl) (gx_assign rfl rfl) ?_
                  simp only [Act.put, List.setIfInBounds_toArray, List.set_cons_zero, List.set_cons_succ]
                  go_wp2_with fail
                  go_roundg (mm - (j + 1))
                  case measure => have := HJL.out; have := HLX.out; omega
                  case rel => exact ⟨j + 1, x2, (some g2), x, gx, y2, y, a, a, rfl, rfl, rfl, rfl, rfl, by have := HLX.out; omega, HFZ.out⟩
              · exfalso
                omega
    · by_cases hn : j < n
      · go_upto_region 13 with fail
        refine wp_region_lit ?_
        refine wpList_run (v := .int .i64 (j : Int)) (wanted_none rfl) (exec_move rfl rfl) ?_
        simp only [Act.put, List.setIfInBounds_toArray, List.set_cons_zero, List.set_cons_succ]
        refine wpList_run (v := .slice A n c) (wanted_none rfl) (exec_move rfl rfl) ?_
        simp only [Act.put, List.setIfInBounds_toArray, List.set_cons_zero, List.set_cons_succ]
        refine wpList_run (v := .int .i64 (n : Int)) (wanted_none rfl) (gx_len rfl rfl Try.underlying22) ?_
        simp only [Act.put, List.setIfInBounds_toArray, List.set_cons_zero, List.set_cons_succ]
        refine wpList_run (v := .bool true) (wanted_none rfl) (ix_lss rfl rfl rfl (decide_eq_true (by omega))) ?_
        simp only [Act.put, List.setIfInBounds_toArray, List.set_cons_zero, List.set_cons_succ]
        refine wpList_run (v := .bool true) (wanted_none rfl) (exec_move rfl rfl) ?_
        simp only [Act.put, List.setIfInBounds_toArray, List.set_cons_zero, List.set_cons_succ]
        refine wpList_run (v := .int .i64 (j : Int)) rfl (exec_move rfl rfl) ?_
        simp only [Act.put, List.setIfInBounds_toArray, List.set_cons_zero, List.set_cons_succ]
        refine wpList_run (v := .bool false) rfl (ix_lss rfl rfl rfl (decide_eq_false (by omega))) ?_
        simp only [Act.put, List.setIfInBounds_toArray, List.set_cons_zero, List.set_cons_succ]
        refine wpList_run (v := .bool false) (wanted_none rfl) (ix_pickT rfl rfl rfl) ?_
        simp only [Act.put, List.setIfInBounds_toArray, List.set_cons_zero, List.set_cons_succ]
        go_upto_region 62 with fail
        refine wp_region_lit ?_
        refine wpList_run (v := .bool true) (wanted_none rfl) (gx_assign rfl rfl) ?_
        simp only [Act.put, List.setIfInBounds_toArray, List.set_cons_zero, List.set_cons_succ]
        go_wp2_with fail
        go_ret
        exact ⟨rfl, HF.out.tn⟩
      · go_upto_region 13 with fail
        first
        | (rename_i K9 hK9; have HKC := Lib.hid hK9; clear hK9)
        | (rename_i K9 hK9 K8; have HKC := Lib.hid hK9; clear hK9)
        refine wp_region_lit ?_
        refine wpList_run (v := .int .i64 (j : Int)) (wanted_none rfl) (exec_move rfl rfl) ?_
        simp only [Act.put, List.setIfInBounds_toArray, List.set_cons_zero, List.set_cons_succ]
        refine wpList_run (v := .slice A n c) (wanted_none rfl) (exec_move rfl rfl) ?_
        simp only [Act.put, List.setIfInBounds_toArray, List.set_cons_zero, List.set_cons_succ]
        refine wpList_run (v := .int .i64 (n : Int)) (wanted_none rfl) (gx_len rfl rfl Try.underlying22) ?_
        simp only [Act.put, List.setIfInBounds_toArray, List.set_cons_zero, List.set_cons_succ]
        refine wpList_run (v := .bool false) (wanted_none rfl) (ix_lss rfl rfl rfl (decide_eq_false (by omega))) ?_
        simp only [Act.put, List.setIfInBounds_toArray, List.set_cons_zero, List.set_cons_succ]
        refine wpList_run (v := .bool false) (wanted_none rfl) (exec_move rfl rfl) ?_
        simp only [Act.put, List.setIfInBounds_toArray, List.set_cons_zero, List.set_cons_succ]
        go_wp2_with fail
        refine HKC.out _ _ ?_
        clear HKC
        go_upto_region 62 with fail
        refine wp_region_lit ?_
        refine wpList_run (v := .bool true) (wanted_none rfl) (gx_assign rfl rfl) ?_
        simp only [Act.put, List.setIfInBounds_toArray, List.set_cons_zero, List.set_cons_succ]
        go_wp2_with fail
        go_ret
        exact ⟨rfl, HF.out.tn⟩
  · have HK := Lib.hid hok
    clear hok
    go_upto_region 2 with fail
    refine wp_region_lit ?_
    refine wpList_run (v := .int .i64 m0) (wanted_none rfl) (exec_move rfl rfl) ?_
    simp only [Act.put, List.setIfInBounds_toArray, List.set_cons_zero, List.set_cons_succ]
    refine wpList_op (wanted_none rfl) fun K9 HK9 => ?_
    go_wp2_with fail
    refine (New_bad HK.out w1).mono ?_
    rintro e w2 ⟨rfl, rfl⟩
    refine HK9.out _ _ ?_
    clear HK9
    try simp only [Act.put, List.setIfInBounds_toArray, List.set_cons_zero, List.set_cons_succ]
    refine wpList_run (v := .tuple #[.pointer none, .int .i64 1]) (wanted_none rfl) (exec_move rfl rfl) ?_
    simp only [Act.put, List.setIfInBounds_toArray, List.set_cons_zero, List.set_cons_succ]
    refine wpList_run (v := .pointer none) (wanted_none rfl) (ix_extract rfl rfl rfl) ?_
    simp only [Act.put, List.setIfInBounds_toArray, List.set_cons_zero, List.set_cons_succ]
    refine wpList_run (v := .int .i64 1) (wanted_none rfl) (ix_extract rfl rfl rfl) ?_
    simp only [Act.put, List.setIfInBounds_toArray, List.set_cons_zero, List.set_cons_succ]
    refine wpList_run (v := .pointer none) (wanted_none rfl) (gx_assign rfl rfl) ?_
    simp only [Act.put, List.setIfInBounds_toArray, List.set_cons_zero, List.set_cons_succ]
    refine wpList_run (v := .int .i64 1) (wanted_none rfl) (gx_assign rfl rfl) ?_
    simp only [Act.put, List.setIfInBounds_toArray, List.set_cons_zero, List.set_cons_succ]
    go_upto_region 3 with fail
    refine wp_region_lit ?_
    refine wpList_run (v := .int .i64 m0) (wanted_none rfl) (exec_move rfl rfl) ?_
    simp only [Act.put, List.setIfInBounds_toArray, List.set_cons_zero, List.set_cons_succ]
    refine wpList_op (wanted_none rfl) fun K9 HK9 => ?_
    go_wp2_with fail
    refine (rNew_bad HK.out w2).mono ?_
    rintro e w3 ⟨rfl, rfl⟩
    refine HK9.out _ _ ?_
    clear HK9
    try simp only [Act.put, List.setIfInBounds_toArray, List.set_cons_zero, List.set_cons_succ]
    refine wpList_run (v := .tuple #[.pointer none, .int .i64 1]) (wanted_none rfl) (exec_move rfl rfl) ?_
    simp only [Act.put, List.setIfInBounds_toArray, List.set_cons_zero, List.set_cons_succ]
    refine wpList_run (v := .pointer none) (wanted_none rfl) (ix_extract rfl rfl rfl) ?_
    simp only [Act.put, List.setIfInBounds_toArray, List.set_cons_zero, List.set_cons_succ]
    refine wpList_run (v := .int .i64 1) (wanted_none rfl) (ix_extract rfl rfl rfl) ?_
    simp only [Act.put, List.setIfInBounds_toArray, List.set_cons_zero, List.set_cons_succ]
    refine wpList_run (v := .pointer none) (wanted_none rfl) (gx_assign rfl rfl) ?_
    simp only [Act.put, List.setIfInBounds_toArray, List.set_cons_zero, List.set_cons_succ]
    refine wpList_run (v := .int .i64 1) (wanted_none rfl) (gx_assign rfl rfl) ?_
    simp only [Act.put, List.setIfInBounds_toArray, List.set_cons_zero, List.set_cons_succ]
    go_upto_region 4 with fail
    refine wp_region_lit ?_
    refine wpList_run (v := .bool true) (wanted_none rfl) (exec_move rfl rfl) ?_
    simp only [Act.put, List.setIfInBounds_toArray, List.set_cons_zero, List.set_cons_succ]
    refine wpList_run (v := .bool false) (wanted_none rfl) (ix_not (b := true) rfl rfl) ?_
    simp only [Act.put, List.setIfInBounds_toArray, List.set_cons_zero, List.set_cons_succ]
    refine wpList_run (v := .bool false) (wanted_none rfl) (exec_move rfl rfl) ?_
    simp only [Act.put, List.setIfInBounds_toArray, List.set_cons_zero, List.set_cons_succ]
    refine wpList_run (v := .int .i64 1) rfl (exec_move rfl rfl) ?_
    simp only [Act.put, List.setIfInBounds_toArray, List.set_cons_zero, List.set_cons_succ]
    refine wpList_run (v := .int .i64 1) rfl (exec_move rfl rfl) ?_
    simp only [Act.put, List.setIfInBounds_toArray, List.set_cons_zero, List.set_cons_succ]
    refine wpList_run (v := .bool false) rfl (ix_neq rfl rfl rfl (by decide)) ?_
    simp only [Act.put, List.setIfInBounds_toArray, List.set_cons_zero, List.set_cons_succ]
    refine wpList_run (v := .bool false) (wanted_none rfl) (ix_pickF rfl rfl rfl) ?_
    simp only [Act.put, List.setIfInBounds_toArray, List.set_cons_zero, List.set_cons_succ]
    refine wpList_run (v := .bool false) (wanted_none rfl) (exec_move rfl rfl) ?_
    simp only [Act.put, List.setIfInBounds_toArray, List.set_cons_zero, List.set_cons_succ]
    refine wpList_run (v := .pointer none) rfl (exec_move rfl rfl) ?_
    simp only [Act.put, List.setIfInBounds_toArray, List.set_cons_zero, List.set_cons_succ]
    refine wpList_run (v := .bool true) rfl (ptr_eqz (by decide) rfl rfl rfl) ?_
    simp only [Act.put, List.setIfInBounds_toArray, List.set_cons_zero, List.set_cons_succ]
    refine wpList_run (v := .pointer none) rfl (exec_move rfl rfl) ?_
    simp only [Act.put, List.setIfInBounds_toArray, List.set_cons_zero, List.set_cons_succ]
    refine wpList_run (v := .bool true) rfl (ptr_eqz (by decide) rfl rfl rfl) ?_
    simp only [Act.put, List.setIfInBounds_toArray, List.set_cons_zero, List.set_cons_succ]
    refine wpList_run (v := .bool false) rfl (bx_neb (p := true) (q := true) rfl rfl rfl) ?_
    simp only [Act.put, List.setIfInBounds_toArray, List.set_cons_zero, List.set_cons_succ]
    refine wpList_run (v := .bool false) (wanted_none rfl) (ix_pickF rfl rfl rfl) ?_
    simp only [Act.put, List.setIfInBounds_toArray, List.set_cons_zero, List.set_cons_succ]
    go_upto_region 6 with fail
    refine wp_region_lit ?_
    refine wpList_run (v := .pointer none) (wanted_none rfl) (exec_move rfl rfl) ?_
    simp only [Act.put, List.setIfInBounds_toArray, List.set_cons_zero, List.set_cons_succ]
    refine wpList_run (v := .bool true) (wanted_none rfl) (ptr_eqz (by decide) rfl rfl rfl) ?_
    simp only [Act.put, List.setIfInBounds_toArray, List.set_cons_zero, List.set_cons_succ]
    go_upto_region 7 with fail
    refine wp_region_lit ?_
    refine wpList_run (v := .bool true) (wanted_none rfl) (gx_assign rfl rfl) ?_
    simp only [Act.put, List.setIfInBounds_toArray, List.set_cons_zero, List.set_cons_succ]
    go_wp2_with fail
    go_ret
    exact ⟨rfl, HT1.out⟩
theorem safPlays_walk (m0 : Int) (A : Option Addr) (n c : Nat) (os : List SOp) (W : World) (ho : OpAt W A n os) :
    Calls Try.prog 3 #[.int .i64 m0, .slice A n c] W fun e w' => e = .returned (.bool true) ∧ Below W.heap.size W w' :=
  (plays_main m0 A n c os W ho).mono fun e w' ⟨h1, h2⟩ => ⟨h1, h2.below (Nat.le_refl _) fun _ _ e => e⟩
end Go.Proofs.Ytkcedcllefcboaa
