/-
  Payments: the walk. No conditions.
-/
import Derived.Test.YthoefjaapjaeeaaLgH
namespace Go.Proofs.Ythoefjaapjaeeaa
open Go.RowKit
open Lg (Ent)
set_option linter.unusedVariables false
set_option linter.unusedSimpArgs false
/-- a configuration, as far as it is asked -/
structure Cfg where
  A : Option Addr
  n : Nat
  c : Nat
  A2 : Option Addr
  n2 : Nat
  c2 : Nat
  ip : Int
  il : Int
  im : Int
  fp : Int
  fl : Int
  fm : Int
  t : Int
  r : Int
  q : Int
def Cfg.cells (c : Cfg) : Array Value := #[.slice c.A c.n c.c, .slice c.A2 c.n2 c.c2, .int .i64 c.ip, .int .i64 c.il, .int .i64 c.im, .int .i64 c.fp, .int .i64 c.fl, .int .i64 c.fm, .int .i64 c.t, .int .i64 c.r, .int .i64 c.q]
theorem box_cfg (c : Cfg) (w : World) : (Instr.box 45 (.agg c.cells)).run Try.prog w = .ok (.pointer (some ⟨w.heap.size, 0, none⟩)) (w.alloc (.cells c.cells 45)) := by
  simp [Instr.box, newVar, newRow, Result.andThen, Value.cells]
theorem size_rate : (Try.prog.info? 43).map (·.size) = some 3 := by kernel_rfl
def isIn (c : Cfg) (a : Int) : Bool := decide (0 ≤ a) && decide (a < (c.n : Int))
def payE (c : Cfg) (acq iss amt : Int) : Int := if (isIn c acq && isIn c iss) = false then 121 else if Mn.feeE c.ip c.il c.im amt ≠ 0 then Mn.feeE c.ip c.il c.im amt else Mn.feeE c.fp c.fl c.fm amt
def payW (c : Cfg) (acq iss amt : Int) : List Ent := Lg.payL (c.n : Int) acq iss amt (Mn.feeV c.ip c.il c.im amt) (Mn.feeV c.fp c.fl c.fm amt)
def payR (c : Cfg) (acq iss amt : Int) : List Ent := if payE c acq iss amt = 0 then kp (payW c acq iss amt) else []
/-- what a payment tells -/
def PayP (w : World) (c : Cfg) (acq iss amt : Int) (e : Ending) (w' : World) : Prop :=
  ∃ v, e = .returned (.tuple #[v, .int .i64 (payE c acq iss amt)]) ∧ Orw w' w.heap.size 57 2 v ((payR c acq iss amt).map entC) ∧ Turn nowhere w w'
theorem PayP.bad {w w' : World} {c : Cfg} {acq iss amt : Int} {k : Int} (h : payE c acq iss amt = k) (h0 : k ≠ 0) (ht : Turn nowhere w w') : PayP w c acq iss amt (.returned (.tuple #[.slice none 0 0, .int .i64 k])) w' := by
  subst h
  refine ⟨_, rfl, ?_, ht⟩
  unfold payR
  rw [if_neg h0]
  exact Orw.nil _ _ _ _
theorem payE_in {c : Cfg} {acq iss amt : Int} (h : (isIn c acq && isIn c iss) = false) : payE c acq iss amt = 121 := if_pos h
theorem payE_1 {c : Cfg} {acq iss amt : Int} (h : (isIn c acq && isIn c iss) = true) (g : Mn.feeE c.ip c.il c.im amt ≠ 0) : payE c acq iss amt = Mn.feeE c.ip c.il c.im amt := by
  unfold payE; rw [if_neg (by rw [h]; decide), if_pos g]
theorem payE_2 {c : Cfg} {acq iss amt : Int} (h : (isIn c acq && isIn c iss) = true) (g : Mn.feeE c.ip c.il c.im amt = 0) : payE c acq iss amt = Mn.feeE c.fp c.fl c.fm amt := by
  unfold payE; rw [if_neg (by rw [h]; decide), if_neg (fun e => e g)]
/-- a fee that there is lies within the amount's bounds -/
theorem fee_range {p l m a : Int} (h : Mn.feeE p l m a = 0) : 0 ≤ a ∧ a ≤ 999999999999 ∧ 0 ≤ Mn.feeV p l m a ∧ Mn.feeV p l m a ≤ 999999999999 := by
  have h1 : Mn.rateOk p l m ∧ Mn.amtOk a := by
    unfold Mn.feeE at h
    split at h
    · split at h
      · exact ⟨by assumption, by assumption⟩
      · cases h
    · cases h
  have hv : Mn.feeV p l m a = Mn.fee p l m a := if_pos h1
  have h2 := h1.2
  have h3 := h1.1
  have h4 := Mn.rnd_pos (a := a * p) (Int.mul_nonneg h2.1 h3.1)
  rw [hv]
  unfold Mn.fee
  unfold Mn.amtOk Mn.top at h2
  unfold Mn.rateOk Mn.top at h3
  generalize Mn.rnd (a * p) = q at *
  omega
theorem ix_neg {a : Act} {o : Oper} {W : World} {x : Operand} {i r : Int} (ho : o.op = .unOp .neg 3 x) (hx : a.eval x = .int .i64 i) (h : -i = r) (hb : -9223372036854775808 ≤ r ∧ r ≤ 9223372036854775807) : (execOp a.eval o).run Try.prog W = .ok (.value (.int .i64 r)) W := by
  subst h
  have hw : IntKind.i64.wrap (-i) = -i := by rw [IntKind.wrap_i64]; omega
  unfold execOp
  simp only [ho, hx]
  go_simp
  try exact hw
theorem gx_bs6 {P : Program} {a : Act} {o : Oper} {t : TypeId} {x0 x1 x2 x3 x4 x5 : Operand} {u0 u1 u2 u3 u4 u5 q : Value} {W W' : World} (ho : o.op = .buildSlice t 6 #[(0, x0), (1, x1), (2, x2), (3, x3), (4, x4), (5, x5)]) (h0 : a.eval x0 = u0) (h1 : a.eval x1 = u1) (h2 : a.eval x2 = u2) (h3 : a.eval x3 = u3) (h4 : a.eval x4 = u4) (h5 : a.eval x5 = u5)
    (h : (Instr.buildSlice t 6 #[(0, u0), (1, u1), (2, u2), (3, u3), (4, u4), (5, u5)]).run P W = .ok q W') : (execOp a.eval o).run P W = .ok (.value q) W' := by
  unfold execOp
  simp only [ho, List.map_toArray, List.map_cons, List.map_nil, h0, h1, h2, h3, h4, h5, h, Sem.run_bind, Sem.run_pure, Result.andThen_ok]
theorem gx_bs2 {P : Program} {a : Act} {o : Oper} {t : TypeId} {x0 x1 : Operand} {u0 u1 q : Value} {W W' : World} (ho : o.op = .buildSlice t 2 #[(0, x0), (1, x1)]) (h0 : a.eval x0 = u0) (h1 : a.eval x1 = u1)
    (h : (Instr.buildSlice t 2 #[(0, u0), (1, u1)]).run P W = .ok q W') : (execOp a.eval o).run P W = .ok (.value q) W' := by
  unfold execOp
  simp only [ho, List.map_toArray, List.map_cons, List.map_nil, h0, h1, h, Sem.run_bind, Sem.run_pure, Result.andThen_ok]
def row6 (a b c d e f : Ent) : Array Value := #[.int .i64 a.1, .int .i64 a.2, .int .i64 b.1, .int .i64 b.2, .int .i64 c.1, .int .i64 c.2, .int .i64 d.1, .int .i64 d.2, .int .i64 e.1, .int .i64 e.2, .int .i64 f.1, .int .i64 f.2]
theorem run_bs6 (a b c d e f : Ent) (w : World) : (Instr.buildSlice 35 6 #[(0, .agg (entA a)), (1, .agg (entA b)), (2, .agg (entA c)), (3, .agg (entA d)), (4, .agg (entA e)), (5, .agg (entA f))]).run Try.prog w = .ok (.slice (some ⟨w.heap.size, 0, none⟩) 6 6) (w.alloc (.cells (row6 a b c d e f) 57)) := by kernel_rfl
def row2 (a b : Ent) : Array Value := #[.int .i64 a.1, .int .i64 a.2, .int .i64 b.1, .int .i64 b.2]
theorem run_bs2 (a b : Ent) (w : World) : (Instr.buildSlice 35 2 #[(0, .agg (entA a)), (1, .agg (entA b))]).run Try.prog w = .ok (.slice (some ⟨w.heap.size, 0, none⟩) 2 2) (w.alloc (.cells (row2 a b) 57)) := by kernel_rfl
theorem run_bs1 (a : Ent) (w : World) : (Instr.buildSlice 35 1 #[(0, .agg (entA a))]).run Try.prog w = .ok (.slice (some ⟨w.heap.size, 0, none⟩) 1 1) (w.alloc (.cells (entA a) 57)) := by kernel_rfl
theorem fitE_ (es : List Ent) : Fit 2 (es.map entC) := fun r hr => by
  obtain ⟨e, _, rfl⟩ := List.mem_map.1 hr
  exact ⟨rfl, entC_one e⟩
theorem orw_blk {w : World} {g B n : Nat} {cs : Array Value} {es : List Ent} (hb : Blk w g 57 cs) (hB : B ≤ g) (hl : es.length = n) (hn : n ≤ maxLen) (hc : cs.toList = (es.map entC).flatten) : Orw w B 57 2 (.slice (some ⟨g, 0, none⟩) n n) (es.map entC) := by
  have hf := fitE_ es
  have hs : cs.size = n * 2 := by
    have := congrArg List.length hc
    rw [flat_len hf, Array.length_toList, List.length_map, hl] at this
    exact this
  exact orw_of hb hB hf (by rw [List.length_map, hl]) (Nat.le_refl _) hn hs (by rw [List.take_of_length_le (by rw [Array.length_toList, hs]; exact Nat.le_refl _)]; exact hc)
set_option maxRecDepth 20000 in
set_option maxHeartbeats 4000000 in
theorem Payment_walk {w : World} {c : Cfg} {acq iss amt : Int} (hq : Mn.in64 acq ∧ Mn.in64 iss) (hn : c.n ≤ 140737488355328) : Calls Try.prog 16 #[.agg c.cells, .int .i64 acq, .int .i64 iss, .int .i64 amt] w fun e w' => PayP w c acq iss amt e w' := by
  have HQ := Lib.hid hq
  have HN := Lib.hid hn
  clear hq hn
  go_enter Try.func16, Try.ntmps16
  go_upto_region 0 with fail
  refine wp_region_lit ?_
  refine wpList_run (v := .pointer (some ⟨(w).heap.size, 0, none⟩)) (w' := (w).alloc (.cells c.cells 45)) (wanted_none rfl) (gx_box rfl rfl (box_cfg c _)) ?_
  simp only [Act.put, List.setIfInBounds_toArray, List.set_cons_zero, List.set_cons_succ]
  refine wpList_run (v := .slice none 0 0) (wanted_none rfl) (gx_assign rfl rfl) ?_
  simp only [Act.put, List.setIfInBounds_toArray, List.set_cons_zero, List.set_cons_succ]
  refine wpList_run (v := .int .i64 0) (wanted_none rfl) (gx_assign rfl rfl) ?_
  simp only [Act.put, List.setIfInBounds_toArray, List.set_cons_zero, List.set_cons_succ]
  have hb_k := Blk.new (w) 45 c.cells
  have ht_ := (Turn.refl nowhere (w)).alloc (.cells c.cells 45)
  obtain ⟨n0_, hn0_⟩ : ∃ n, n = (w).heap.size := ⟨_, rfl⟩
  have hz_k : (w).heap.size = n0_ + 0 := by rw [hn0_]; simp
  obtain ⟨k, hg_⟩ : ∃ g, g = (w).heap.size := ⟨_, rfl⟩
  rw [← hg_] at hb_k hz_k ⊢
  clear hg_
  generalize (w).alloc (.cells c.cells 45) = w1 at *
  have HT1 := Lib.hid ht_
  clear ht_
  have HBk := Lib.hid hb_k
  have HLk := Lib.hid (show (w).heap.size ≤ k from by omega)
  clear hb_k
  clear hn0_ hz_k
  clear n0_
  go_upto_region 1 with fail
  refine wp_region_lit ?_
  refine wpList_run (v := .pointer (some ⟨k, 0, none⟩)) (wanted_none rfl) (exec_field (off := 0) (d := 0) rfl rfl (by kernel_rfl)) ?_
  simp only [Act.put, List.setIfInBounds_toArray, List.set_cons_zero, List.set_cons_succ]
  refine wpList_run (v := .slice c.A c.n c.c) (wanted_none rfl) (exec_load1 rfl rfl (by kernel_rfl) (HBk.out.cell 0)) ?_
  simp only [Act.put, List.setIfInBounds_toArray, List.set_cons_zero, List.set_cons_succ]
  refine wpList_run (v := .int .i64 (c.n : Int)) (wanted_none rfl) (gx_len rfl rfl Try.underlying40) ?_
  simp only [Act.put, List.setIfInBounds_toArray, List.set_cons_zero, List.set_cons_succ]
  refine wpList_run (v := .int .i64 (c.n : Int)) (wanted_none rfl) (gx_assign rfl rfl) ?_
  simp only [Act.put, List.setIfInBounds_toArray, List.set_cons_zero, List.set_cons_succ]
  cases ha : isIn c acq with
  | false =>
    have HPE := Lib.hid (payE_in (c := c) (acq := acq) (iss := iss) (amt := amt) (by rw [ha]; rfl))
    have HA := Lib.hid (show (decide (0 ≤ acq) && decide (acq < (c.n : Int))) = false from ha)
    clear ha
    go_upto_region 2 with fail
    first
    | (rename_i K9 hK9; have HKC := Lib.hid hK9; clear hK9)
    | (rename_i K9 hK9 K8; have HKC := Lib.hid hK9; clear hK9)
    refine wp_region_lit ?_
    refine wpList_run (v := .int .i64 acq) (wanted_none rfl) (exec_move rfl rfl) ?_
    simp only [Act.put, List.setIfInBounds_toArray, List.set_cons_zero, List.set_cons_succ]
    refine wpList_run (v := .int .i64 (c.n : Int)) (wanted_none rfl) (exec_move rfl rfl) ?_
    simp only [Act.put, List.setIfInBounds_toArray, List.set_cons_zero, List.set_cons_succ]
    refine wpList_op rfl fun K9 HK9 => ?_
    go_wp2_with fail
    refine (below_walk w1).mono ?_
    rintro e w1 ⟨rfl, rfl⟩
    refine HK9.out _ _ ?_
    clear HK9
    try simp only [Act.put, List.setIfInBounds_toArray, List.set_cons_zero, List.set_cons_succ]
    rw [HA.out]
    refine wpList_run (v := .bool true) (wanted_none rfl) (ix_not (b := false) rfl rfl) ?_
    simp only [Act.put, List.setIfInBounds_toArray, List.set_cons_zero, List.set_cons_succ]
    refine wpList_run (v := .bool true) (wanted_none rfl) (exec_move rfl rfl) ?_
    simp only [Act.put, List.setIfInBounds_toArray, List.set_cons_zero, List.set_cons_succ]
    go_wp2_with fail
    refine HKC.out _ _ ?_
    clear HKC
    go_upto_region 3 with fail
    refine wp_region_lit ?_
    refine wpList_run (v := .slice none 0 0) (wanted_none rfl) (gx_assign rfl rfl) ?_
    simp only [Act.put, List.setIfInBounds_toArray, List.set_cons_zero, List.set_cons_succ]
    refine wpList_run (v := .int .i64 121) (wanted_none rfl) (gx_assign rfl rfl) ?_
    simp only [Act.put, List.setIfInBounds_toArray, List.set_cons_zero, List.set_cons_succ]
    go_wp2_with fail
    go_ret2
    exact PayP.bad HPE.out (by decide) HT1.out
  | true =>
    cases hb : isIn c iss with
    | false =>
      have HPE := Lib.hid (payE_in (c := c) (acq := acq) (iss := iss) (amt := amt) (by rw [ha, hb]; rfl))
      have HA := Lib.hid (show (decide (0 ≤ acq) && decide (acq < (c.n : Int))) = true from ha)
      have HB := Lib.hid (show (decide (0 ≤ iss) && decide (iss < (c.n : Int))) = false from hb)
      clear ha hb
      go_upto_region 2 with fail
      refine wp_region_lit ?_
      refine wpList_run (v := .int .i64 acq) (wanted_none rfl) (exec_move rfl rfl) ?_
      simp only [Act.put, List.setIfInBounds_toArray, List.set_cons_zero, List.set_cons_succ]
      refine wpList_run (v := .int .i64 (c.n : Int)) (wanted_none rfl) (exec_move rfl rfl) ?_
      simp only [Act.put, List.setIfInBounds_toArray, List.set_cons_zero, List.set_cons_succ]
      refine wpList_op rfl fun K9 HK9 => ?_
      go_wp2_with fail
      refine (below_walk w1).mono ?_
      rintro e w1 ⟨rfl, rfl⟩
      refine HK9.out _ _ ?_
      clear HK9
      try simp only [Act.put, List.setIfInBounds_toArray, List.set_cons_zero, List.set_cons_succ]
      rw [HA.out]
      refine wpList_run (v := .bool false) (wanted_none rfl) (ix_not (b := true) rfl rfl) ?_
      simp only [Act.put, List.setIfInBounds_toArray, List.set_cons_zero, List.set_cons_succ]
      refine wpList_run (v := .bool false) (wanted_none rfl) (exec_move rfl rfl) ?_
      simp only [Act.put, List.setIfInBounds_toArray, List.set_cons_zero, List.set_cons_succ]
      refine wpList_run (v := .int .i64 iss) rfl (exec_move rfl rfl) ?_
      simp only [Act.put, List.setIfInBounds_toArray, List.set_cons_zero, List.set_cons_succ]
      refine wpList_run (v := .int .i64 (c.n : Int)) rfl (exec_move rfl rfl) ?_
      simp only [Act.put, List.setIfInBounds_toArray, List.set_cons_zero, List.set_cons_succ]
      refine wpList_op rfl fun K9 HK9 => ?_
      go_wp2_with fail
      refine (below_walk w1).mono ?_
      rintro e w1 ⟨rfl, rfl⟩
      refine HK9.out _ _ ?_
      clear HK9
      try simp only [Act.put, List.setIfInBounds_toArray, List.set_cons_zero, List.set_cons_succ]
      rw [HB.out]
      refine wpList_run (v := .bool true) rfl (ix_not (b := false) rfl rfl) ?_
      simp only [Act.put, List.setIfInBounds_toArray, List.set_cons_zero, List.set_cons_succ]
      refine wpList_run (v := .bool true) (wanted_none rfl) (ix_pickF rfl rfl rfl) ?_
      simp only [Act.put, List.setIfInBounds_toArray, List.set_cons_zero, List.set_cons_succ]
      go_upto_region 3 with fail
      refine wp_region_lit ?_
      refine wpList_run (v := .slice none 0 0) (wanted_none rfl) (gx_assign rfl rfl) ?_
      simp only [Act.put, List.setIfInBounds_toArray, List.set_cons_zero, List.set_cons_succ]
      refine wpList_run (v := .int .i64 121) (wanted_none rfl) (gx_assign rfl rfl) ?_
      simp only [Act.put, List.setIfInBounds_toArray, List.set_cons_zero, List.set_cons_succ]
      go_wp2_with fail
      go_ret2
      exact PayP.bad HPE.out (by decide) HT1.out
    | true =>
      have hii : (isIn c acq && isIn c iss) = true := by rw [ha, hb]; rfl
      have HII := Lib.hid hii
      have HA := Lib.hid (show (decide (0 ≤ acq) && decide (acq < (c.n : Int))) = true from ha)
      have HB := Lib.hid (show (decide (0 ≤ iss) && decide (iss < (c.n : Int))) = true from hb)
      clear ha hb hii
      go_upto_region 2 with fail
      refine wp_region_lit ?_
      refine wpList_run (v := .int .i64 acq) (wanted_none rfl) (exec_move rfl rfl) ?_
      simp only [Act.put, List.setIfInBounds_toArray, List.set_cons_zero, List.set_cons_succ]
      refine wpList_run (v := .int .i64 (c.n : Int)) (wanted_none rfl) (exec_move rfl rfl) ?_
      simp only [Act.put, List.setIfInBounds_toArray, List.set_cons_zero, List.set_cons_succ]
      refine wpList_op rfl fun K9 HK9 => ?_
      go_wp2_with fail
      refine (below_walk w1).mono ?_
      rintro e w1 ⟨rfl, rfl⟩
      refine HK9.out _ _ ?_
      clear HK9
      try simp only [Act.put, List.setIfInBounds_toArray, List.set_cons_zero, List.set_cons_succ]
      rw [HA.out]
      refine wpList_run (v := .bool false) (wanted_none rfl) (ix_not (b := true) rfl rfl) ?_
      simp only [Act.put, List.setIfInBounds_toArray, List.set_cons_zero, List.set_cons_succ]
      refine wpList_run (v := .bool false) (wanted_none rfl) (exec_move rfl rfl) ?_
      simp only [Act.put, List.setIfInBounds_toArray, List.set_cons_zero, List.set_cons_succ]
      refine wpList_run (v := .int .i64 iss) rfl (exec_move rfl rfl) ?_
      simp only [Act.put, List.setIfInBounds_toArray, List.set_cons_zero, List.set_cons_succ]
      refine wpList_run (v := .int .i64 (c.n : Int)) rfl (exec_move rfl rfl) ?_
      simp only [Act.put, List.setIfInBounds_toArray, List.set_cons_zero, List.set_cons_succ]
      refine wpList_op rfl fun K9 HK9 => ?_
      go_wp2_with fail
      refine (below_walk w1).mono ?_
      rintro e w1 ⟨rfl, rfl⟩
      refine HK9.out _ _ ?_
      clear HK9
      try simp only [Act.put, List.setIfInBounds_toArray, List.set_cons_zero, List.set_cons_succ]
      rw [HB.out]
      refine wpList_run (v := .bool false) rfl (ix_not (b := true) rfl rfl) ?_
      simp only [Act.put, List.setIfInBounds_toArray, List.set_cons_zero, List.set_cons_succ]
      refine wpList_run (v := .bool false) (wanted_none rfl) (ix_pickF rfl rfl rfl) ?_
      simp only [Act.put, List.setIfInBounds_toArray, List.set_cons_zero, List.set_cons_succ]
      have HR1 := Lib.hid (show w1.rangeAt k 2 [.int .i64 c.ip, .int .i64 c.il, .int .i64 c.im] from fun j v hj => by
        rw [HBk.out.cell]
        match j, hj with
        | 0, hj | 1, hj | 2, hj => exact hj)
      go_upto_region 4 with fail
      refine wp_region_lit ?_
      refine wpList_run (v := .pointer (some ⟨k, 2, none⟩)) (wanted_none rfl) (exec_field (off := 0) (d := 2) rfl rfl (by kernel_rfl)) ?_
      simp only [Act.put, List.setIfInBounds_toArray, List.set_cons_zero, List.set_cons_succ]
      refine wpList_run (v := .agg #[.int .i64 c.ip, .int .i64 c.il, .int .i64 c.im]) (wanted_none rfl) (gx_loads rfl rfl HR1.out Try.underlying43 rfl (by rw [size_rate]; rfl)) ?_
      simp only [Act.put, List.setIfInBounds_toArray, List.set_cons_zero, List.set_cons_succ]
      refine wpList_run (v := .int .i64 amt) (wanted_none rfl) (exec_move rfl rfl) ?_
      simp only [Act.put, List.setIfInBounds_toArray, List.set_cons_zero, List.set_cons_succ]
      refine wpList_op rfl fun K9 HK9 => ?_
      go_wp2_with fail
      refine (fee_walk c.ip c.il c.im amt w1).mono ?_
      rintro e w2 ⟨rfl, ht⟩
      refine HK9.out _ _ ?_
      clear HK9
      try simp only [Act.put, List.setIfInBounds_toArray, List.set_cons_zero, List.set_cons_succ]
      have HT2 := Lib.hid (HT1.out.trans ht fun _ _ e => e)
      have HBk2 := Lib.hid (HBk.out.turn ht fun e => e)
      clear ht HR1
      refine wpList_run (v := .tuple #[.int .i64 (Mn.feeV c.ip c.il c.im amt), .int .i64 (Mn.feeE c.ip c.il c.im amt)]) (wanted_none rfl) (exec_move rfl rfl) ?_
      simp only [Act.put, List.setIfInBounds_toArray, List.set_cons_zero, List.set_cons_succ]
      refine wpList_run (v := .int .i64 (Mn.feeV c.ip c.il c.im amt)) (wanted_none rfl) (ix_extract rfl rfl rfl) ?_
      simp only [Act.put, List.setIfInBounds_toArray, List.set_cons_zero, List.set_cons_succ]
      refine wpList_run (v := .int .i64 (Mn.feeE c.ip c.il c.im amt)) (wanted_none rfl) (ix_extract rfl rfl rfl) ?_
      simp only [Act.put, List.setIfInBounds_toArray, List.set_cons_zero, List.set_cons_succ]
      refine wpList_run (v := .int .i64 (Mn.feeV c.ip c.il c.im amt)) (wanted_none rfl) (gx_assign rfl rfl) ?_
      simp only [Act.put, List.setIfInBounds_toArray, List.set_cons_zero, List.set_cons_succ]
      refine wpList_run (v := .int .i64 (Mn.feeE c.ip c.il c.im amt)) (wanted_none rfl) (gx_assign rfl rfl) ?_
      simp only [Act.put, List.setIfInBounds_toArray, List.set_cons_zero, List.set_cons_succ]
      by_cases h1 : Mn.feeE c.ip c.il c.im amt = 0
      · have HP2 := Lib.hid (payE_2 HII.out h1)
        have H1 := Lib.hid h1
        have HF1 := Lib.hid (fee_range h1)
        clear h1
        go_upto_region 5 with fail
        refine wp_region_lit ?_
        refine wpList_run (v := .int .i64 (Mn.feeE c.ip c.il c.im amt)) (wanted_none rfl) (exec_move rfl rfl) ?_
        simp only [Act.put, List.setIfInBounds_toArray, List.set_cons_zero, List.set_cons_succ]
        refine wpList_run (v := .bool false) (wanted_none rfl) (ix_neq rfl rfl rfl (decide_eq_false (fun e => e H1.out))) ?_
        simp only [Act.put, List.setIfInBounds_toArray, List.set_cons_zero, List.set_cons_succ]
        have HR2 := Lib.hid (show w2.rangeAt k 5 [.int .i64 c.fp, .int .i64 c.fl, .int .i64 c.fm] from fun j v hj => by
          rw [HBk2.out.cell]
          match j, hj with
          | 0, hj | 1, hj | 2, hj => exact hj)
        go_upto_region 7 with fail
        refine wp_region_lit ?_
        refine wpList_run (v := .pointer (some ⟨k, 5, none⟩)) (wanted_none rfl) (exec_field (off := 0) (d := 5) rfl rfl (by kernel_rfl)) ?_
        simp only [Act.put, List.setIfInBounds_toArray, List.set_cons_zero, List.set_cons_succ]
        refine wpList_run (v := .agg #[.int .i64 c.fp, .int .i64 c.fl, .int .i64 c.fm]) (wanted_none rfl) (gx_loads rfl rfl HR2.out Try.underlying43 rfl (by rw [size_rate]; rfl)) ?_
        simp only [Act.put, List.setIfInBounds_toArray, List.set_cons_zero, List.set_cons_succ]
        refine wpList_run (v := .int .i64 amt) (wanted_none rfl) (exec_move rfl rfl) ?_
        simp only [Act.put, List.setIfInBounds_toArray, List.set_cons_zero, List.set_cons_succ]
        refine wpList_op rfl fun K9 HK9 => ?_
        go_wp2_with fail
        refine (fee_walk c.fp c.fl c.fm amt w2).mono ?_
        rintro e w3 ⟨rfl, ht⟩
        refine HK9.out _ _ ?_
        clear HK9
        try simp only [Act.put, List.setIfInBounds_toArray, List.set_cons_zero, List.set_cons_succ]
        have HT3 := Lib.hid (HT2.out.trans ht fun _ _ e => e)
        clear ht HR2 HBk2
        refine wpList_run (v := .tuple #[.int .i64 (Mn.feeV c.fp c.fl c.fm amt), .int .i64 (Mn.feeE c.fp c.fl c.fm amt)]) (wanted_none rfl) (exec_move rfl rfl) ?_
        simp only [Act.put, List.setIfInBounds_toArray, List.set_cons_zero, List.set_cons_succ]
        refine wpList_run (v := .int .i64 (Mn.feeV c.fp c.fl c.fm amt)) (wanted_none rfl) (ix_extract rfl rfl rfl) ?_
        simp only [Act.put, List.setIfInBounds_toArray, List.set_cons_zero, List.set_cons_succ]
        refine wpList_run (v := .int .i64 (Mn.feeE c.fp c.fl c.fm amt)) (wanted_none rfl) (ix_extract rfl rfl rfl) ?_
        simp only [Act.put, List.setIfInBounds_toArray, List.set_cons_zero, List.set_cons_succ]
        refine wpList_run (v := .int .i64 (Mn.feeV c.fp c.fl c.fm amt)) (wanted_none rfl) (gx_assign rfl rfl) ?_
        simp only [Act.put, List.setIfInBounds_toArray, List.set_cons_zero, List.set_cons_succ]
        refine wpList_run (v := .int .i64 (Mn.feeE c.fp c.fl c.fm amt)) (wanted_none rfl) (gx_assign rfl rfl) ?_
        simp only [Act.put, List.setIfInBounds_toArray, List.set_cons_zero, List.set_cons_succ]
        by_cases h2 : Mn.feeE c.fp c.fl c.fm amt = 0
        · have HPE := Lib.hid (HP2.out.trans h2)
          have HF2 := Lib.hid (fee_range h2)
          have H2 := Lib.hid h2
          clear h2
          obtain ⟨iv, hiv⟩ : ∃ x, x = Mn.feeV c.ip c.il c.im amt := ⟨_, rfl⟩
          obtain ⟨fv, hfv⟩ : ∃ x, x = Mn.feeV c.fp c.fl c.fm amt := ⟨_, rfl⟩
          have HF1 := Lib.hid (show 0 ≤ amt ∧ amt ≤ 999999999999 ∧ 0 ≤ iv ∧ iv ≤ 999999999999 from by rw [hiv]; exact HF1.out)
          have HF2 := Lib.hid (show 0 ≤ amt ∧ amt ≤ 999999999999 ∧ 0 ≤ fv ∧ fv ≤ 999999999999 from by rw [hfv]; exact HF2.out)
          have HPW := Lib.hid (show payW c acq iss amt = [(iss, -amt), (acq, amt), (acq, -iv), (iss, iv), (acq, -fv), ((c.n : Int), fv)] from by rw [hiv, hfv]; rfl)
          rw [← hiv, ← hfv]
          clear hiv hfv
          go_upto_region 8 with fail
          refine wp_region_lit ?_
          refine wpList_run (v := .int .i64 (Mn.feeE c.fp c.fl c.fm amt)) (wanted_none rfl) (exec_move rfl rfl) ?_
          simp only [Act.put, List.setIfInBounds_toArray, List.set_cons_zero, List.set_cons_succ]
          refine wpList_run (v := .bool false) (wanted_none rfl) (ix_neq rfl rfl rfl (decide_eq_false (fun e => e H2.out))) ?_
          simp only [Act.put, List.setIfInBounds_toArray, List.set_cons_zero, List.set_cons_succ]
          go_upto_region 10 with fail
          refine wp_region_lit ?_
          refine wpList_run (v := .int .i64 iss) (wanted_none rfl) (exec_move rfl rfl) ?_
          simp only [Act.put, List.setIfInBounds_toArray, List.set_cons_zero, List.set_cons_succ]
          refine wpList_run (v := .int .i64 amt) (wanted_none rfl) (exec_move rfl rfl) ?_
          simp only [Act.put, List.setIfInBounds_toArray, List.set_cons_zero, List.set_cons_succ]
          refine wpList_run (v := .int .i64 (-amt)) (wanted_none rfl) (ix_neg rfl rfl rfl (by have := HF1.out; omega)) ?_
          simp only [Act.put, List.setIfInBounds_toArray, List.set_cons_zero, List.set_cons_succ]
          refine wpList_run (v := .agg (entA (iss, -amt))) (wanted_none rfl) (gx_build2 rfl rfl rfl (build_ent (iss) (-amt) _)) ?_
          simp only [Act.put, List.setIfInBounds_toArray, List.set_cons_zero, List.set_cons_succ]
          refine wpList_run (v := .int .i64 acq) (wanted_none rfl) (exec_move rfl rfl) ?_
          simp only [Act.put, List.setIfInBounds_toArray, List.set_cons_zero, List.set_cons_succ]
          refine wpList_run (v := .int .i64 amt) (wanted_none rfl) (exec_move rfl rfl) ?_
          simp only [Act.put, List.setIfInBounds_toArray, List.set_cons_zero, List.set_cons_succ]
          refine wpList_run (v := .agg (entA (acq, amt))) (wanted_none rfl) (gx_build2 rfl rfl rfl (build_ent (acq) (amt) _)) ?_
          simp only [Act.put, List.setIfInBounds_toArray, List.set_cons_zero, List.set_cons_succ]
          refine wpList_run (v := .int .i64 acq) (wanted_none rfl) (exec_move rfl rfl) ?_
          simp only [Act.put, List.setIfInBounds_toArray, List.set_cons_zero, List.set_cons_succ]
          refine wpList_run (v := .int .i64 iv) (wanted_none rfl) (exec_move rfl rfl) ?_
          simp only [Act.put, List.setIfInBounds_toArray, List.set_cons_zero, List.set_cons_succ]
          refine wpList_run (v := .int .i64 (-iv)) (wanted_none rfl) (ix_neg rfl rfl rfl (by have := HF1.out; omega)) ?_
          simp only [Act.put, List.setIfInBounds_toArray, List.set_cons_zero, List.set_cons_succ]
          refine wpList_run (v := .agg (entA (acq, -iv))) (wanted_none rfl) (gx_build2 rfl rfl rfl (build_ent (acq) (-iv) _)) ?_
          simp only [Act.put, List.setIfInBounds_toArray, List.set_cons_zero, List.set_cons_succ]
          refine wpList_run (v := .int .i64 iss) (wanted_none rfl) (exec_move rfl rfl) ?_
          simp only [Act.put, List.setIfInBounds_toArray, List.set_cons_zero, List.set_cons_succ]
          refine wpList_run (v := .int .i64 iv) (wanted_none rfl) (exec_move rfl rfl) ?_
          simp only [Act.put, List.setIfInBounds_toArray, List.set_cons_zero, List.set_cons_succ]
          refine wpList_run (v := .agg (entA (iss, iv))) (wanted_none rfl) (gx_build2 rfl rfl rfl (build_ent (iss) (iv) _)) ?_
          simp only [Act.put, List.setIfInBounds_toArray, List.set_cons_zero, List.set_cons_succ]
          refine wpList_run (v := .int .i64 acq) (wanted_none rfl) (exec_move rfl rfl) ?_
          simp only [Act.put, List.setIfInBounds_toArray, List.set_cons_zero, List.set_cons_succ]
          refine wpList_run (v := .int .i64 fv) (wanted_none rfl) (exec_move rfl rfl) ?_
          simp only [Act.put, List.setIfInBounds_toArray, List.set_cons_zero, List.set_cons_succ]
          refine wpList_run (v := .int .i64 (-fv)) (wanted_none rfl) (ix_neg rfl rfl rfl (by have := HF2.out; omega)) ?_
          simp only [Act.put, List.setIfInBounds_toArray, List.set_cons_zero, List.set_cons_succ]
          refine wpList_run (v := .agg (entA (acq, -fv))) (wanted_none rfl) (gx_build2 rfl rfl rfl (build_ent (acq) (-fv) _)) ?_
          simp only [Act.put, List.setIfInBounds_toArray, List.set_cons_zero, List.set_cons_succ]
          refine wpList_run (v := .int .i64 (c.n : Int)) (wanted_none rfl) (exec_move rfl rfl) ?_
          simp only [Act.put, List.setIfInBounds_toArray, List.set_cons_zero, List.set_cons_succ]
          refine wpList_run (v := .int .i64 fv) (wanted_none rfl) (exec_move rfl rfl) ?_
          simp only [Act.put, List.setIfInBounds_toArray, List.set_cons_zero, List.set_cons_succ]
          refine wpList_run (v := .agg (entA ((c.n : Int), fv))) (wanted_none rfl) (gx_build2 rfl rfl rfl (build_ent ((c.n : Int)) (fv) _)) ?_
          simp only [Act.put, List.setIfInBounds_toArray, List.set_cons_zero, List.set_cons_succ]
          have hb := Blk.new w3 57 (row6 (iss, -amt) (acq, amt) (acq, -iv) (iss, iv) (acq, -fv) ((c.n : Int), fv))
          have hta := (Turn.refl nowhere w3).alloc (.cells (row6 (iss, -amt) (acq, amt) (acq, -iv) (iss, iv) (acq, -fv) ((c.n : Int), fv)) 57)
          refine wpList_run (v := .slice (some ⟨w3.heap.size, 0, none⟩) 6 6) (w' := w3.alloc (.cells (row6 (iss, -amt) (acq, amt) (acq, -iv) (iss, iv) (acq, -fv) ((c.n : Int), fv)) 57)) (wanted_none rfl) (gx_bs6 rfl rfl rfl rfl rfl rfl rfl (run_bs6 _ _ _ _ _ _ _)) ?_
          simp only [Act.put, List.setIfInBounds_toArray, List.set_cons_zero, List.set_cons_succ]
          obtain ⟨g, hg⟩ : ∃ g, g = w3.heap.size := ⟨_, rfl⟩
          rw [← hg] at hb ⊢
          have HGL := Lib.hid (show w.heap.size ≤ g from by rw [hg]; exact HT3.out.size)
          clear hg
          generalize w3.alloc (.cells (row6 (iss, -amt) (acq, amt) (acq, -iv) (iss, iv) (acq, -fv) ((c.n : Int), fv)) 57) = w4 at *
          have HO := Lib.hid (show Orw w4 w.heap.size 57 2 (.slice (some ⟨g, 0, none⟩) 6 6) ((payW c acq iss amt).map entC) from by rw [HPW.out]; exact orw_blk hb HGL.out rfl (by decide) rfl)
          have HT4 := Lib.hid (HT3.out.trans hta fun _ _ e => e)
          have HWF := Lib.hid (show ∀ e ∈ payW c acq iss amt, Mn.in64 e.1 ∧ Mn.in64 e.2 from fun e he => by
            rw [HPW.out] at he
            have h1 := HF1.out
            have h2 := HF2.out
            have h3 := HQ.out
            have h4 := HN.out
            simp only [List.mem_cons, List.not_mem_nil, or_false] at he
            unfold Mn.in64 at *
            rcases he with rfl | rfl | rfl | rfl | rfl | rfl <;> (dsimp only; omega))
          have HLW := Lib.hid (show 6 = (payW c acq iss amt).length from by rw [HPW.out]; rfl)
          clear hb hta
          refine wpList_run (v := .slice (some ⟨g, 0, none⟩) 6 6) (wanted_none rfl) (gx_assign rfl rfl) ?_
          simp only [Act.put, List.setIfInBounds_toArray, List.set_cons_zero, List.set_cons_succ]
          go_upto_region 11 with fail
          refine wp_region_lit ?_
          refine wpList_run (v := .slice (some ⟨g, 0, none⟩) 6 6) (wanted_none rfl) (exec_move rfl rfl) ?_
          simp only [Act.put, List.setIfInBounds_toArray, List.set_cons_zero, List.set_cons_succ]
          refine wpList_op rfl fun K9 HK9 => ?_
          go_wp2_with fail
          refine (DeleteFunc_walk HO.out HLW.out HWF.out (by decide)).mono ?_
          rintro e w5 ⟨rfl, ho, ht⟩
          refine HK9.out _ _ ?_
          clear HK9
          try simp only [Act.put, List.setIfInBounds_toArray, List.set_cons_zero, List.set_cons_succ]
          have HO5 := Lib.hid ho
          have HT5 := Lib.hid (HT4.out.trans ht fun k hk e => by have := HGL.out; have e : k = g := e; omega)
          clear ho ht
          refine wpList_run (v := .slice (some ⟨g, 0, none⟩) (kp (payW c acq iss amt)).length 6) (wanted_none rfl) (gx_assign rfl rfl) ?_
          simp only [Act.put, List.setIfInBounds_toArray, List.set_cons_zero, List.set_cons_succ]
          refine wpList_run (v := .int .i64 0) (wanted_none rfl) (gx_assign rfl rfl) ?_
          simp only [Act.put, List.setIfInBounds_toArray, List.set_cons_zero, List.set_cons_succ]
          go_wp2_with fail
          go_ret2
          refine ⟨.slice (some ⟨g, 0, none⟩) (kp (payW c acq iss amt)).length 6, by rw [HPE.out]; rfl, ?_, HT5.out⟩
          unfold payR
          rw [if_pos HPE.out]
          exact HO5.out
        · have HPE := Lib.hid HP2.out
          have H2 := Lib.hid h2
          clear h2
          go_upto_region 8 with fail
          refine wp_region_lit ?_
          refine wpList_run (v := .int .i64 (Mn.feeE c.fp c.fl c.fm amt)) (wanted_none rfl) (exec_move rfl rfl) ?_
          simp only [Act.put, List.setIfInBounds_toArray, List.set_cons_zero, List.set_cons_succ]
          refine wpList_run (v := .bool true) (wanted_none rfl) (ix_neq rfl rfl rfl (decide_eq_true H2.out)) ?_
          simp only [Act.put, List.setIfInBounds_toArray, List.set_cons_zero, List.set_cons_succ]
          go_upto_region 9 with fail
          refine wp_region_lit ?_
          refine wpList_run (v := .int .i64 (Mn.feeE c.fp c.fl c.fm amt)) (wanted_none rfl) (exec_move rfl rfl) ?_
          simp only [Act.put, List.setIfInBounds_toArray, List.set_cons_zero, List.set_cons_succ]
          refine wpList_run (v := .slice none 0 0) (wanted_none rfl) (gx_assign rfl rfl) ?_
          simp only [Act.put, List.setIfInBounds_toArray, List.set_cons_zero, List.set_cons_succ]
          refine wpList_run (v := .int .i64 (Mn.feeE c.fp c.fl c.fm amt)) (wanted_none rfl) (gx_assign rfl rfl) ?_
          simp only [Act.put, List.setIfInBounds_toArray, List.set_cons_zero, List.set_cons_succ]
          go_wp2_with fail
          go_ret2
          exact PayP.bad HPE.out (H2.out) HT3.out
      · have HPE := Lib.hid (payE_1 HII.out h1)
        have H1 := Lib.hid h1
        clear h1
        go_upto_region 5 with fail
        refine wp_region_lit ?_
        refine wpList_run (v := .int .i64 (Mn.feeE c.ip c.il c.im amt)) (wanted_none rfl) (exec_move rfl rfl) ?_
        simp only [Act.put, List.setIfInBounds_toArray, List.set_cons_zero, List.set_cons_succ]
        refine wpList_run (v := .bool true) (wanted_none rfl) (ix_neq rfl rfl rfl (decide_eq_true H1.out)) ?_
        simp only [Act.put, List.setIfInBounds_toArray, List.set_cons_zero, List.set_cons_succ]
        go_upto_region 6 with fail
        refine wp_region_lit ?_
        refine wpList_run (v := .int .i64 (Mn.feeE c.ip c.il c.im amt)) (wanted_none rfl) (exec_move rfl rfl) ?_
        simp only [Act.put, List.setIfInBounds_toArray, List.set_cons_zero, List.set_cons_succ]
        refine wpList_run (v := .slice none 0 0) (wanted_none rfl) (gx_assign rfl rfl) ?_
        simp only [Act.put, List.setIfInBounds_toArray, List.set_cons_zero, List.set_cons_succ]
        refine wpList_run (v := .int .i64 (Mn.feeE c.ip c.il c.im amt)) (wanted_none rfl) (gx_assign rfl rfl) ?_
        simp only [Act.put, List.setIfInBounds_toArray, List.set_cons_zero, List.set_cons_succ]
        go_wp2_with fail
        go_ret2
        exact PayP.bad HPE.out (H1.out) HT2.out
end Go.Proofs.Ythoefjaapjaeeaa
