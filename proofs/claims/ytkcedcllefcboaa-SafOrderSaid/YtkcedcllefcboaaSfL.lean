/-
  SafOrder: the walk. No conditions.
-/
import Derived.Test.YtkcedcllefcboaaSfN
import Derived.Lib.BufferWrite
namespace Go.Proofs.Ytkcedcllefcboaa
open Go.RowKit
set_option linter.unusedVariables false
set_option linter.unusedSimpArgs false
set_option maxRecDepth 20000
theorem ux_conv {a : Act} {o : Oper} {W : World} {x : Operand} {v r : Value} {W' : World} {s d : TypeId} (ho : o.op = .convert s d x) (hx : a.eval x = v) (h : (convert s d v).run Try.prog W = .ok r W') : (execOp a.eval o).run Try.prog W = .ok (.value r) W' := by
  unfold execOp
  simp only [ho, hx, h, Sem.run_bind, Sem.run_pure, Result.andThen_ok]
theorem bx_slice2 {P : Program} {a : Act} {o : Oper} {t : TypeId} {x y : Operand} {u v q : Value} {W W' : World} (ho : o.op = .buildSlice t 2 #[(0, x), (1, y)]) (hx : a.eval x = u) (hy : a.eval y = v)
    (h : (Instr.buildSlice t 2 #[(0, u), (1, v)]).run P W = .ok q W') : (execOp a.eval o).run P W = .ok (.value q) W' := by
  unfold execOp
  simp only [ho, List.map_toArray, List.map_cons, List.map_nil, hx, hy, h, Sem.run_bind, Sem.run_pure, Result.andThen_ok]
theorem bx_neb {a : Act} {o : Oper} {W : World} {x y : Operand} {p q : Bool} (ho : o.op = .binOp .neq 4 x y 4) (hx : a.eval x = .bool p) (hy : a.eval y = .bool q) : (execOp a.eval o).run Try.prog W = .ok (.value (.bool (!(p == q)))) W := by
  unfold execOp
  simp only [ho, hx, hy]
  cases p <;> cases q <;> go_simp
theorem build2B (x y : Int) (w : World) : (Instr.buildSlice 67 2 #[(0, .int .u8 x), (1, .int .u8 y)]).run Try.prog w = .ok (.slice (some ⟨w.heap.size, 0, none⟩) 2 2) (w.alloc (.cells #[.int .u8 x, .int .u8 y] 5)) := by kernel_rfl
theorem back2 (w : World) (x y : UInt8) : (convert 67 9 (.slice (some ⟨w.heap.size, 0, none⟩) 2 2)).run Try.prog (w.alloc (.cells #[.int .u8 (x.toNat : Int), .int .u8 (y.toNat : Int)] 5)) = .ok (strV [x, y]) (w.alloc (.cells #[.int .u8 (x.toNat : Int), .int .u8 (y.toNat : Int)] 5)) := by
  have h := run_convert_bytes_back (P := Try.prog) (w.alloc (.cells #[.int .u8 (x.toNat : Int), .int .u8 (y.toNat : Int)] 5)) 67 9 5 ⟨w.heap.size, 0, none⟩ 2 [x, y] Try.underlying67 Try.underlying5 Try.underlying9
  have hb := Blk.new w 5 #[.int .u8 (x.toNat : Int), .int .u8 (y.toNat : Int)]
  exact h fun j hj => by
    rw [add_nat, Nat.zero_add, hb.cell]
    match j, hj with
    | 0, _ => rfl
    | 1, _ => rfl
namespace Sf
def nameL (n : Nat) : List UInt8 := [UInt8.ofNat (97 + n / 26), UInt8.ofNat (97 + n % 26)]
def adN (n : Nat) : Adv := (nameL n, 220, [])
/-- what waits: k of them, from d on -/
def row (d k : Nat) : List Adv := (List.range' d k).map adN
theorem nameL_inj : ∀ a b : Fin 42, nameL a.1 = nameL b.1 → a = b := by decide +kernel
theorem nameL_ne {a b : Nat} (ha : a ≤ 41) (hb : b ≤ 41) (h : a ≠ b) : nameL a ≠ nameL b := fun e => h (by
  have := nameL_inj ⟨a, by omega⟩ ⟨b, by omega⟩ e
  exact congrArg Fin.val this)
theorem row_len (d k : Nat) : (row d k).length = k := by unfold row; rw [List.length_map, List.length_range']
theorem row_names {d k n : Nat} (h : n ∈ List.range' d k → False) (hn : n ≤ 41) (hd : d + k ≤ 41) : nameL n ∉ names (row d k) := fun hm => by
  unfold names row at hm
  rw [List.map_map] at hm
  obtain ⟨i, hi, e⟩ := List.mem_map.1 hm
  have h2 := List.mem_range'_1.1 hi
  by_cases hin : i = n
  · exact h (hin ▸ hi)
  · exact nameL_ne (by omega) hn hin e
theorem row_snoc (d k : Nat) : row d k ++ [adN (d + k)] = row d (k + 1) := by
  unfold row
  rw [List.range'_1_concat, List.map_append]
  rfl
theorem row_cons (d k : Nat) : row d (k + 1) = adN d :: row (d + 1) k := by
  unfold row
  rw [List.range'_succ]
  rfl
/-- a Put of the next one -/
theorem put_row {m d k : Nat} (hd : d + k ≤ 40) (hk : k ≤ m) : putE m (row d k) (nameL (d + k)) = (if k = m then 3 else 0) ∧ putL m (row d k) (adN (d + k)) = row d (if k = m then k else k + 1) := by
  have hno : nameL (d + k) ∉ names (row d k) := row_names (fun h => by have := List.mem_range'_1.1 h; omega) (by omega) (by omega)
  by_cases h : k = m
  · have e : putE m (row d k) (nameL (d + k)) = 3 := put_full hno (by rw [row_len]; exact h)
    rw [if_pos h, if_pos h]
    exact ⟨e, if_neg (by rw [show (adN (d + k)).1 = nameL (d + k) from rfl, e]; decide)⟩
  · have e : putE m (row d k) (nameL (d + k)) = 0 := put_ok hno (by rw [row_len]; exact h)
    rw [if_neg h, if_neg h]
    exact ⟨e, by unfold putL; rw [show (adN (d + k)).1 = nameL (d + k) from rfl, if_pos e, row_snoc]⟩
end Sf
set_option maxRecDepth 20000 in
set_option maxHeartbeats 1500000 in
theorem name_walk {n : Nat} (hn : n ≤ 41) (w : World) : Calls Try.prog 24 #[.int .i64 (n : Int)] w fun e w' => e = .returned (strV (Sf.nameL n)) ∧ Turn nowhere w w' := by
  have y1 : n / 26 ≤ 1 := by omega
  have y2 : n % 26 ≤ 25 := by omega
  obtain ⟨p, hp⟩ : ∃ p, p = n / 26 := ⟨_, rfl⟩
  obtain ⟨q, hq⟩ : ∃ q, q = n % 26 := ⟨_, rfl⟩
  have HL := Lib.hid (show [UInt8.ofNat (97 + p), UInt8.ofNat (97 + q)] = Sf.nameL n from by rw [hp, hq]; rfl)
  have HP := Lib.hid hp.symm
  have HQ := Lib.hid hq.symm
  rw [← hp] at y1
  rw [← hq] at y2
  clear hp hq
  go_enter Try.func24, Try.ntmps24
  go_upto_region 0 with fail
  refine wp_region_lit ?_
  refine wpList_run (v := strV []) (wanted_none rfl) (gx_assign rfl rfl) ?_
  simp only [Act.put, List.setIfInBounds_toArray, List.set_cons_zero, List.set_cons_succ]
  go_upto_region 1 with fail
  refine wp_region_lit ?_
  refine wpList_run (v := .int .i64 (n : Int)) (wanted_none rfl) (exec_move rfl rfl) ?_
  simp only [Act.put, List.setIfInBounds_toArray, List.set_cons_zero, List.set_cons_succ]
  refine wpList_run (v := .int .i64 (p : Int)) (wanted_none rfl) ((ix_quo (m := 26) rfl rfl rfl (by decide) (by omega)).trans (by rw [HP.out])) ?_
  simp only [Act.put, List.setIfInBounds_toArray, List.set_cons_zero, List.set_cons_succ]
  refine wpList_run (v := .int .i64 ((97 + p : Nat) : Int)) (wanted_none rfl) (ix_add rfl rfl rfl (by omega) (by omega)) ?_
  simp only [Act.put, List.setIfInBounds_toArray, List.set_cons_zero, List.set_cons_succ]
  refine wpList_run (v := .int .u8 (((UInt8.ofNat (97 + p)).toNat : Nat) : Int)) (wanted_none rfl) (ix_i2b rfl rfl) ?_
  simp only [Act.put, List.setIfInBounds_toArray, List.set_cons_zero, List.set_cons_succ]
  refine wpList_run (v := .int .i64 (n : Int)) (wanted_none rfl) (exec_move rfl rfl) ?_
  simp only [Act.put, List.setIfInBounds_toArray, List.set_cons_zero, List.set_cons_succ]
  refine wpList_run (v := .int .i64 (q : Int)) (wanted_none rfl) ((ix_rem (m := 26) rfl rfl rfl (by decide) (by omega)).trans (by rw [HQ.out])) ?_
  simp only [Act.put, List.setIfInBounds_toArray, List.set_cons_zero, List.set_cons_succ]
  refine wpList_run (v := .int .i64 ((97 + q : Nat) : Int)) (wanted_none rfl) (ix_add rfl rfl rfl (by omega) (by omega)) ?_
  simp only [Act.put, List.setIfInBounds_toArray, List.set_cons_zero, List.set_cons_succ]
  refine wpList_run (v := .int .u8 (((UInt8.ofNat (97 + q)).toNat : Nat) : Int)) (wanted_none rfl) (ix_i2b rfl rfl) ?_
  simp only [Act.put, List.setIfInBounds_toArray, List.set_cons_zero, List.set_cons_succ]
  obtain ⟨b1, hb1⟩ : ∃ b1, b1 = UInt8.ofNat (97 + p) := ⟨_, rfl⟩
  obtain ⟨b2, hb2⟩ : ∃ b2, b2 = UInt8.ofNat (97 + q) := ⟨_, rfl⟩
  have HL2 := Lib.hid (show [b1, b2] = Sf.nameL n from by rw [hb1, hb2]; exact HL.out)
  rw [← hb1, ← hb2]
  clear hb1 hb2 HL
  refine wpList_run (v := .slice (some ⟨w.heap.size, 0, none⟩) 2 2) (w' := w.alloc (.cells #[.int .u8 ((b1.toNat : Nat) : Int), .int .u8 ((b2.toNat : Nat) : Int)] 5)) (wanted_none rfl) (bx_slice2 rfl rfl rfl (build2B _ _ _)) ?_
  simp only [Act.put, List.setIfInBounds_toArray, List.set_cons_zero, List.set_cons_succ]
  refine wpList_run (v := strV [b1, b2]) (w' := w.alloc (.cells #[.int .u8 ((b1.toNat : Nat) : Int), .int .u8 ((b2.toNat : Nat) : Int)] 5)) (wanted_none rfl) (ux_conv rfl rfl (back2 _ _ _)) ?_
  simp only [Act.put, List.setIfInBounds_toArray, List.set_cons_zero, List.set_cons_succ]
  refine wpList_run (v := strV [b1, b2]) (wanted_none rfl) (gx_assign rfl rfl) ?_
  simp only [Act.put, List.setIfInBounds_toArray, List.set_cons_zero, List.set_cons_succ]
  have HT := Lib.hid ((Turn.refl nowhere w).alloc (.cells #[.int .u8 ((b1.toNat : Nat) : Int), .int .u8 ((b2.toNat : Nat) : Int)] 5))
  rw [HL2.out]
  go_wp2_with fail
  go_ret
  exact ⟨rfl, HT.out⟩
theorem size_boolS : (Try.prog.info? 4).map (·.size) = some 1 := by kernel_rfl
theorem ix_neg1 {a : Act} {o : Oper} {W : World} {x : Operand} {n r : Int} (ho : o.op = .unOp .neg 3 x) (hx : a.eval x = .int .i64 n) (hr : -n = r) (hb : -9223372036854775808 ≤ r ∧ r ≤ 9223372036854775807) : (execOp a.eval o).run Try.prog W = .ok (.value (.int .i64 r)) W := by
  subst hr
  have hb1 := hb.1
  have hb2 := hb.2
  unfold execOp
  simp only [ho, hx]
  go_simp
  try (rw [IntKind.wrap_i64]; omega)
set_option maxRecDepth 20000 in
set_option maxHeartbeats 1500000 in
theorem order_main (m0 n0 : Int) (A : Option Addr) (bn bc : Nat) (bs : List Bool) (w : World) (hm : -9223372036854775808 ≤ m0 ∧ m0 ≤ 9223372036854775807) (hn : -9223372036854775808 ≤ n0 ∧ n0 ≤ 9223372036854775807) (hb : Rws w 1 A bn (bs.map boolC)) : Calls Try.prog 4 #[.int .i64 m0, .int .i64 n0, .slice A bn bc] w fun e w' => e = .returned (.bool true) ∧ Turn nowhere w w' := by
  have HM := Lib.hid hm
  have HN := Lib.hid hn
  have HB := Lib.hid hb
  have HBL := Lib.hid (show bs.length = bn from by have := hb.1; rwa [List.length_map] at this)
  have ybn : bn ≤ 140737488355328 := hb.2.2.1
  clear hm hn hb
  go_enter Try.func4, Try.ntmps4
  go_upto_region 0 with fail
  refine wp_region_lit ?_
  refine wpList_run (v := .bool false) (wanted_none rfl) (gx_assign rfl rfl) ?_
  simp only [Act.put, List.setIfInBounds_toArray, List.set_cons_zero, List.set_cons_succ]
  go_upto_region 1 with fail
  refine wp_region_lit ?_
  refine wpList_op (wanted_none rfl) fun K9 HK9 => ?_
  go_wp2_with fail
  refine (shown_walk w).mono ?_
  rintro e w1 ⟨rfl, ht⟩
  refine HK9.out _ _ ?_
  clear HK9
  try simp only [Act.put, List.setIfInBounds_toArray, List.set_cons_zero, List.set_cons_succ]
  have HT1 := Lib.hid ht
  clear ht
  refine wpList_run (v := .bool true) (wanted_none rfl) (gx_assign rfl rfl) ?_
  simp only [Act.put, List.setIfInBounds_toArray, List.set_cons_zero, List.set_cons_succ]
  go_upto_region 2 with fail
  refine wp_region_lit ?_
  refine wpList_run (v := .int .i64 m0) (wanted_none rfl) (exec_move rfl rfl) ?_
  simp only [Act.put, List.setIfInBounds_toArray, List.set_cons_zero, List.set_cons_succ]
  refine wpList_run (v := .bool (decide (m0 < 0))) (wanted_none rfl) (ix_lss rfl rfl rfl rfl) ?_
  simp only [Act.put, List.setIfInBounds_toArray, List.set_cons_zero, List.set_cons_succ]
  go_upto_if 21 with fail
  go_cut [0] from 21 to 24 (fun ov wx => ∃ mp : Nat, ov = .int .i64 (mp : Int) ∧ mp ≤ 9223372036854775807 ∧ w1 = wx)
  case first =>
    by_cases h0 : m0 < 0
    · rw [decide_eq_true h0]
      go_upto_region 3 with fail
      refine wp_region_lit ?_
      refine wpList_run (v := .int .i64 m0) (wanted_none rfl) (exec_move rfl rfl) ?_
      simp only [Act.put, List.setIfInBounds_toArray, List.set_cons_zero, List.set_cons_succ]
      refine wpList_run (v := .int .i64 (m0 + 1)) (wanted_none rfl) (ix_add rfl rfl rfl rfl (by have := HM.out; omega)) ?_
      simp only [Act.put, List.setIfInBounds_toArray, List.set_cons_zero, List.set_cons_succ]
      refine wpList_run (v := .int .i64 (-(m0 + 1))) (wanted_none rfl) (ix_neg1 rfl rfl rfl (by have := HM.out; omega)) ?_
      simp only [Act.put, List.setIfInBounds_toArray, List.set_cons_zero, List.set_cons_succ]
      refine wpList_run (v := .int .i64 (-(m0 + 1))) (wanted_none rfl) (gx_assign rfl rfl) ?_
      simp only [Act.put, List.setIfInBounds_toArray, List.set_cons_zero, List.set_cons_succ]
      go_wp2_with fail
      go_meet
      exact ⟨(-(m0 + 1)).toNat, by rw [Int.toNat_of_nonneg (by omega)], by have := HM.out; omega, rfl⟩
    · rw [decide_eq_false h0]
      go_wp2_with fail
      go_meet
      exact ⟨(m0).toNat, by rw [Int.toNat_of_nonneg (by omega)], by have := HM.out; omega, rfl⟩
  obtain ⟨mp, rfl, hmp, hwx⟩ := hcut
  subst hwx
  have HYmp := Lib.hid hmp
  clear hmp
  go_upto_region 4 with fail
  refine wp_region_lit ?_
  refine wpList_run (v := .int .i64 n0) (wanted_none rfl) (exec_move rfl rfl) ?_
  simp only [Act.put, List.setIfInBounds_toArray, List.set_cons_zero, List.set_cons_succ]
  refine wpList_run (v := .bool (decide (n0 < 0))) (wanted_none rfl) (ix_lss rfl rfl rfl rfl) ?_
  simp only [Act.put, List.setIfInBounds_toArray, List.set_cons_zero, List.set_cons_succ]
  go_upto_if 26 with fail
  go_cut [1] from 26 to 29 (fun ov wx => ∃ np : Nat, ov = .int .i64 (np : Int) ∧ np ≤ 9223372036854775807 ∧ w1 = wx)
  case first =>
    by_cases h0 : n0 < 0
    · rw [decide_eq_true h0]
      go_upto_region 5 with fail
      refine wp_region_lit ?_
      refine wpList_run (v := .int .i64 n0) (wanted_none rfl) (exec_move rfl rfl) ?_
      simp only [Act.put, List.setIfInBounds_toArray, List.set_cons_zero, List.set_cons_succ]
      refine wpList_run (v := .int .i64 (n0 + 1)) (wanted_none rfl) (ix_add rfl rfl rfl rfl (by have := HN.out; omega)) ?_
      simp only [Act.put, List.setIfInBounds_toArray, List.set_cons_zero, List.set_cons_succ]
      refine wpList_run (v := .int .i64 (-(n0 + 1))) (wanted_none rfl) (ix_neg1 rfl rfl rfl (by have := HN.out; omega)) ?_
      simp only [Act.put, List.setIfInBounds_toArray, List.set_cons_zero, List.set_cons_succ]
      refine wpList_run (v := .int .i64 (-(n0 + 1))) (wanted_none rfl) (gx_assign rfl rfl) ?_
      simp only [Act.put, List.setIfInBounds_toArray, List.set_cons_zero, List.set_cons_succ]
      go_wp2_with fail
      go_meet
      exact ⟨(-(n0 + 1)).toNat, by rw [Int.toNat_of_nonneg (by omega)], by have := HN.out; omega, rfl⟩
    · rw [decide_eq_false h0]
      go_wp2_with fail
      go_meet
      exact ⟨(n0).toNat, by rw [Int.toNat_of_nonneg (by omega)], by have := HN.out; omega, rfl⟩
  obtain ⟨np, rfl, hnp, hwx⟩ := hcut
  subst hwx
  have HYnp := Lib.hid hnp
  clear hnp
  obtain ⟨n, hn⟩ : ∃ n, n = np % 41 := ⟨_, rfl⟩
  have HNN := Lib.hid hn.symm
  have yn : n ≤ 40 := by omega
  obtain ⟨m1, hm1⟩ : ∃ m1, m1 = mp % 16 := ⟨_, rfl⟩
  have HMM := Lib.hid hm1.symm
  have ym1 : m1 ≤ 15 := by omega
  clear hn hm1
  go_upto_region 6 with fail
  refine wp_region_lit ?_
  refine wpList_run (v := .int .i64 (np : Int)) (wanted_none rfl) (exec_move rfl rfl) ?_
  simp only [Act.put, List.setIfInBounds_toArray, List.set_cons_zero, List.set_cons_succ]
  refine wpList_run (v := .int .i64 (n : Int)) (wanted_none rfl) ((ix_rem (m := 41) rfl rfl rfl (by decide) HYnp.out).trans (by rw [HNN.out])) ?_
  simp only [Act.put, List.setIfInBounds_toArray, List.set_cons_zero, List.set_cons_succ]
  refine wpList_run (v := .int .i64 (n : Int)) (wanted_none rfl) (gx_assign rfl rfl) ?_
  simp only [Act.put, List.setIfInBounds_toArray, List.set_cons_zero, List.set_cons_succ]
  go_upto_region 7 with fail
  refine wp_region_lit ?_
  refine wpList_run (v := .int .i64 (mp : Int)) (wanted_none rfl) (exec_move rfl rfl) ?_
  simp only [Act.put, List.setIfInBounds_toArray, List.set_cons_zero, List.set_cons_succ]
  refine wpList_run (v := .int .i64 (m1 : Int)) (wanted_none rfl) ((ix_rem (m := 16) rfl rfl rfl (by decide) HYmp.out).trans (by rw [HMM.out])) ?_
  simp only [Act.put, List.setIfInBounds_toArray, List.set_cons_zero, List.set_cons_succ]
  refine wpList_run (v := .int .i64 ((1 + m1 : Nat) : Int)) (wanted_none rfl) (ix_add rfl rfl rfl (by omega) (by omega)) ?_
  simp only [Act.put, List.setIfInBounds_toArray, List.set_cons_zero, List.set_cons_succ]
  obtain ⟨m, hm⟩ : ∃ m, m = 1 + m1 := ⟨_, rfl⟩
  rw [← hm]
  have ym : 1 ≤ m ∧ m ≤ 16 := by omega
  clear hm
  refine wpList_op (wanted_none rfl) fun K9 HK9 => ?_
  go_wp2_with fail
  refine (Qx.new (w0 := w) ym w1 HT1.out).mono ?_
  rintro e w2 ⟨a, rfl, hq⟩
  refine HK9.out _ _ ?_
  clear HK9
  try simp only [Act.put, List.setIfInBounds_toArray, List.set_cons_zero, List.set_cons_succ]
  have HQ2 := Lib.hid hq
  clear hq
  refine wpList_run (v := .tuple #[.pointer (some ⟨a, 0, none⟩), .int .i64 0]) (wanted_none rfl) (exec_move rfl rfl) ?_
  simp only [Act.put, List.setIfInBounds_toArray, List.set_cons_zero, List.set_cons_succ]
  refine wpList_run (v := .pointer (some ⟨a, 0, none⟩)) (wanted_none rfl) (ix_extract rfl rfl rfl) ?_
  simp only [Act.put, List.setIfInBounds_toArray, List.set_cons_zero, List.set_cons_succ]
  refine wpList_run (v := .int .i64 0) (wanted_none rfl) (ix_extract rfl rfl rfl) ?_
  simp only [Act.put, List.setIfInBounds_toArray, List.set_cons_zero, List.set_cons_succ]
  refine wpList_run (v := .pointer (some ⟨a, 0, none⟩)) (wanted_none rfl) (gx_assign rfl rfl) ?_
  simp only [Act.put, List.setIfInBounds_toArray, List.set_cons_zero, List.set_cons_succ]
  refine wpList_run (v := .int .i64 0) (wanted_none rfl) (gx_assign rfl rfl) ?_
  simp only [Act.put, List.setIfInBounds_toArray, List.set_cons_zero, List.set_cons_succ]
  go_upto_region 8 with fail
  refine wp_region_lit ?_
  refine wpList_run (v := .bool true) (wanted_none rfl) (exec_move rfl rfl) ?_
  simp only [Act.put, List.setIfInBounds_toArray, List.set_cons_zero, List.set_cons_succ]
  refine wpList_run (v := .bool false) (wanted_none rfl) (ix_not (b := true) rfl rfl) ?_
  simp only [Act.put, List.setIfInBounds_toArray, List.set_cons_zero, List.set_cons_succ]
  refine wpList_run (v := .bool false) (wanted_none rfl) (exec_move rfl rfl) ?_
  simp only [Act.put, List.setIfInBounds_toArray, List.set_cons_zero, List.set_cons_succ]
  refine wpList_run (v := .pointer (some ⟨a, 0, none⟩)) rfl (exec_move rfl rfl) ?_
  simp only [Act.put, List.setIfInBounds_toArray, List.set_cons_zero, List.set_cons_succ]
  refine wpList_run (v := .bool false) rfl (ptr_eqf (by decide) rfl rfl rfl) ?_
  simp only [Act.put, List.setIfInBounds_toArray, List.set_cons_zero, List.set_cons_succ]
  refine wpList_run (v := .bool false) (wanted_none rfl) (ix_pickF rfl rfl rfl) ?_
  simp only [Act.put, List.setIfInBounds_toArray, List.set_cons_zero, List.set_cons_succ]
  refine wpList_run (v := .bool false) (wanted_none rfl) (exec_move rfl rfl) ?_
  simp only [Act.put, List.setIfInBounds_toArray, List.set_cons_zero, List.set_cons_succ]
  refine wpList_run (v := .int .i64 0) rfl (exec_move rfl rfl) ?_
  simp only [Act.put, List.setIfInBounds_toArray, List.set_cons_zero, List.set_cons_succ]
  refine wpList_run (v := .bool false) rfl (ix_neq rfl rfl rfl (by decide)) ?_
  simp only [Act.put, List.setIfInBounds_toArray, List.set_cons_zero, List.set_cons_succ]
  refine wpList_run (v := .bool false) (wanted_none rfl) (ix_pickF rfl rfl rfl) ?_
  simp only [Act.put, List.setIfInBounds_toArray, List.set_cons_zero, List.set_cons_succ]
  go_upto_region 10 with fail
  refine wp_region_lit ?_
  refine wpList_run (v := .int .i64 0) (wanted_none rfl) (gx_assign rfl rfl) ?_
  simp only [Act.put, List.setIfInBounds_toArray, List.set_cons_zero, List.set_cons_succ]
  go_upto_region 11 with fail
  refine wp_region_lit ?_
  refine wpList_run (v := .int .i64 0) (wanted_none rfl) (gx_assign rfl rfl) ?_
  simp only [Act.put, List.setIfInBounds_toArray, List.set_cons_zero, List.set_cons_succ]
  go_upto_region 12 with fail
  refine wp_region_lit ?_
  refine wpList_run (v := .int .i64 0) (wanted_none rfl) (gx_assign rfl rfl) ?_
  simp only [Act.put, List.setIfInBounds_toArray, List.set_cons_zero, List.set_cons_succ]
  go_wp2_with fail
  go_loopg [11, 12, 13] 400 (fun gk pv dv iv wr => ∃ j d k : Nat, pv = .int .i64 ((d + k : Nat) : Int) ∧ dv = .int .i64 (d : Int) ∧ iv = .int .i64 (j : Int) ∧ j + gk = 400 ∧ d + k ≤ n ∧ k ≤ m ∧ j ≤ d + bn ∧ Qx w wr a m (Sf.row d k) false)
  case atStart => exact ⟨0, 0, 0, rfl, rfl, rfl, rfl, by omega, by omega, by omega, HQ2.out⟩
  clear HQ2 HT1
  obtain ⟨j, d, k, rfl, rfl, rfl, hjl, hdk, hkm, hjb, hq⟩ := hrel
  have HJL := Lib.hid hjl
  have HDK := Lib.hid hdk
  have HKM := Lib.hid hkm
  have HJB := Lib.hid hjb
  have HQ := Lib.hid hq
  have yk : d + k ≤ 40 := by omega
  clear hjl hdk hkm hjb hq
  by_cases hlt : j < 400
  · have HLT := Lib.hid hlt
    have y1 : (j : Int) < 400 := by omega
    clear hlt
    by_cases hdn : d < n
    · have HDN := Lib.hid hdn
      have ydn : (d : Int) < (n : Int) := by omega
      clear hdn
      go_upto_region 13 with fail
      refine wp_region_lit ?_
      refine wpList_run (v := .int .i64 (j : Int)) (wanted_none rfl) (exec_move rfl rfl) ?_
      simp only [Act.put, List.setIfInBounds_toArray, List.set_cons_zero, List.set_cons_succ]
      refine wpList_run (v := .bool true) (wanted_none rfl) (ix_lss rfl rfl rfl (decide_eq_true y1)) ?_
      simp only [Act.put, List.setIfInBounds_toArray, List.set_cons_zero, List.set_cons_succ]
      refine wpList_run (v := .bool true) (wanted_none rfl) (exec_move rfl rfl) ?_
      simp only [Act.put, List.setIfInBounds_toArray, List.set_cons_zero, List.set_cons_succ]
      refine wpList_run (v := .int .i64 (d : Int)) rfl (exec_move rfl rfl) ?_
      simp only [Act.put, List.setIfInBounds_toArray, List.set_cons_zero, List.set_cons_succ]
      refine wpList_run (v := .int .i64 (n : Int)) rfl (exec_move rfl rfl) ?_
      simp only [Act.put, List.setIfInBounds_toArray, List.set_cons_zero, List.set_cons_succ]
      refine wpList_run (v := .bool true) rfl (ix_lss rfl rfl rfl (decide_eq_true ydn)) ?_
      simp only [Act.put, List.setIfInBounds_toArray, List.set_cons_zero, List.set_cons_succ]
      refine wpList_run (v := .bool true) (wanted_none rfl) (ix_pickT rfl rfl rfl) ?_
      simp only [Act.put, List.setIfInBounds_toArray, List.set_cons_zero, List.set_cons_succ]
      go_upto_region 15 with fail
      refine wp_region_lit ?_
      refine wpList_run (v := .int .i64 ((d + k : Nat) : Int)) (wanted_none rfl) (exec_move rfl rfl) ?_
      simp only [Act.put, List.setIfInBounds_toArray, List.set_cons_zero, List.set_cons_succ]
      refine wpList_run (v := .int .i64 (n : Int)) (wanted_none rfl) (exec_move rfl rfl) ?_
      simp only [Act.put, List.setIfInBounds_toArray, List.set_cons_zero, List.set_cons_succ]
      refine wpList_run (v := .bool (decide (((d + k : Nat) : Int) < (n : Int)))) (wanted_none rfl) (ix_lss rfl rfl rfl rfl) ?_
      simp only [Act.put, List.setIfInBounds_toArray, List.set_cons_zero, List.set_cons_succ]
      go_upto_if 60 with fail
      go_cut [11, 14] from 60 to 87 (fun pv ev wx => ∃ k2 : Nat, pv = .int .i64 ((d + (k2 + 1) : Nat) : Int) ∧ d + (k2 + 1) ≤ n ∧ k2 + 1 ≤ m ∧ Qx w wx a m (Sf.row d (k2 + 1)) false)
      case first =>
        by_cases hpn : d + k < n
        · have ypn : ((d + k : Nat) : Int) < (n : Int) := by omega
          rw [decide_eq_true ypn]
          obtain ⟨E, hE⟩ : ∃ E, E = (if k = m then (3 : Int) else 0) := ⟨_, rfl⟩
          obtain ⟨k3, hk3⟩ : ∃ k3, k3 = (if k = m then k else k + 1) := ⟨_, rfl⟩
          have hpr := Sf.put_row (d := d) yk HKM.out
          rw [← hE, ← hk3] at hpr
          have HPR := Lib.hid hpr
          clear hpr
          go_upto_region 16 with fail
          refine wp_region_lit ?_
          refine wpList_run (v := .pointer (some ⟨a, 0, none⟩)) (wanted_none rfl) (exec_move rfl rfl) ?_
          simp only [Act.put, List.setIfInBounds_toArray, List.set_cons_zero, List.set_cons_succ]
          refine wpList_run (v := .int .i64 ((d + k : Nat) : Int)) (wanted_none rfl) (exec_move rfl rfl) ?_
          simp only [Act.put, List.setIfInBounds_toArray, List.set_cons_zero, List.set_cons_succ]
          refine wpList_op (wanted_none rfl) fun K9 HK9 => ?_
          go_wp2_with fail
          refine (name_walk (n := d + k) (by omega) wr).mono ?_
          rintro e w3 ⟨rfl, ht⟩
          refine HK9.out _ _ ?_
          clear HK9
          try simp only [Act.put, List.setIfInBounds_toArray, List.set_cons_zero, List.set_cons_succ]
          have HQ3 := Lib.hid (HQ.out.still ht)
          clear ht
          refine wpList_run (v := .agg #[.int .i64 220, .slice none 0 0]) (wanted_none rfl) (gx_build1 rfl rfl (build_m1 220 _)) ?_
          simp only [Act.put, List.setIfInBounds_toArray, List.set_cons_zero, List.set_cons_succ]
          refine wpList_op (wanted_none rfl) fun K9 HK9 => ?_
          go_wp2_with fail
          refine (HQ3.out.put_is (Sf.nameL (d + k)) 220 (fc := 0) (fq_nil _) short_nil (show (2 : Nat) ≤ 281474976710656 from by decide) HPR.out.1 HPR.out.2).mono ?_
          rintro e w4 ⟨rfl, hq⟩
          refine HK9.out _ _ ?_
          clear HK9
          try simp only [Act.put, List.setIfInBounds_toArray, List.set_cons_zero, List.set_cons_succ]
          have HQ4 := Lib.hid hq
          clear hq
          refine wpList_run (v := .int .i64 E) (wanted_none rfl) (gx_assign rfl rfl) ?_
          simp only [Act.put, List.setIfInBounds_toArray, List.set_cons_zero, List.set_cons_succ]
          by_cases hkm : k = m
          · as_aux_lemma =>
              rw [if_pos hkm] at hE hk3
              subst hE hk3
              go_upto_region 17 with fail
              refine wp_region_lit ?_
              refine wpList_run (v := .int .i64 3) (wanted_none rfl) (exec_move rfl rfl) ?_
              simp only [Act.put, List.setIfInBounds_toArray, List.set_cons_zero, List.set_cons_succ]
              refine wpList_run (v := .bool false) (wanted_none rfl) (ix_eql rfl rfl rfl (by decide)) ?_
              simp only [Act.put, List.setIfInBounds_toArray, List.set_cons_zero, List.set_cons_succ]
              refine wpList_run (v := .pointer (some ⟨a, 0, none⟩)) (wanted_none rfl) (exec_move rfl rfl) ?_
              simp only [Act.put, List.setIfInBounds_toArray, List.set_cons_zero, List.set_cons_succ]
              refine wpList_op (wanted_none rfl) fun K9 HK9 => ?_
              go_wp2_with fail
              refine (HQ4.out.lenw).mono ?_
              rintro e w4 ⟨rfl, rfl⟩
              refine HK9.out _ _ ?_
              clear HK9
              try simp only [Act.put, List.setIfInBounds_toArray, List.set_cons_zero, List.set_cons_succ]
              rw [Sf.row_len]
              refine wpList_run (v := .int .i64 ((d + k3 : Nat) : Int)) (wanted_none rfl) (exec_move rfl rfl) ?_
              simp only [Act.put, List.setIfInBounds_toArray, List.set_cons_zero, List.set_cons_succ]
              refine wpList_run (v := .int .i64 (d : Int)) (wanted_none rfl) (exec_move rfl rfl) ?_
              simp only [Act.put, List.setIfInBounds_toArray, List.set_cons_zero, List.set_cons_succ]
              refine wpList_run (v := .int .i64 (k3 : Int)) (wanted_none rfl) (ix_sub rfl rfl rfl (by omega) (by omega)) ?_
              simp only [Act.put, List.setIfInBounds_toArray, List.set_cons_zero, List.set_cons_succ]
              refine wpList_run (v := .int .i64 ((k3 + 1 : Nat) : Int)) (wanted_none rfl) (ix_add rfl rfl rfl (by omega) (by omega)) ?_
              simp only [Act.put, List.setIfInBounds_toArray, List.set_cons_zero, List.set_cons_succ]
              refine wpList_run (v := .bool false) (wanted_none rfl) (ix_eql rfl rfl rfl (decide_eq_false (by omega))) ?_
              simp only [Act.put, List.setIfInBounds_toArray, List.set_cons_zero, List.set_cons_succ]
              refine wpList_run (v := .bool false) (wanted_none rfl) (bx_neb (p := false) (q := false) rfl rfl rfl) ?_
              simp only [Act.put, List.setIfInBounds_toArray, List.set_cons_zero, List.set_cons_succ]
              refine wpList_run (v := .bool false) (wanted_none rfl) (exec_move rfl rfl) ?_
              simp only [Act.put, List.setIfInBounds_toArray, List.set_cons_zero, List.set_cons_succ]
              refine wpList_run (v := .int .i64 3) rfl (exec_move rfl rfl) ?_
              simp only [Act.put, List.setIfInBounds_toArray, List.set_cons_zero, List.set_cons_succ]
              refine wpList_run (v := .bool true) rfl (ix_neq rfl rfl rfl (by decide)) ?_
              simp only [Act.put, List.setIfInBounds_toArray, List.set_cons_zero, List.set_cons_succ]
              refine wpList_run (v := .bool true) rfl (exec_move rfl rfl) ?_
              simp only [Act.put, List.setIfInBounds_toArray, List.set_cons_zero, List.set_cons_succ]
              refine wpList_run (v := .int .i64 3) rfl (exec_move rfl rfl) ?_
              simp only [Act.put, List.setIfInBounds_toArray, List.set_cons_zero, List.set_cons_succ]
              refine wpList_run (v := .bool false) rfl (ix_neq rfl rfl rfl (by decide)) ?_
              simp only [Act.put, List.setIfInBounds_toArray, List.set_cons_zero, List.set_cons_succ]
              refine wpList_run (v := .bool false) rfl (ix_pickT rfl rfl rfl) ?_
              simp only [Act.put, List.setIfInBounds_toArray, List.set_cons_zero, List.set_cons_succ]
              refine wpList_run (v := .bool false) (wanted_none rfl) (ix_pickF rfl rfl rfl) ?_
              simp only [Act.put, List.setIfInBounds_toArray, List.set_cons_zero, List.set_cons_succ]
              go_upto_region 19 with fail
              refine wp_region_lit ?_
              refine wpList_run (v := .int .i64 3) (wanted_none rfl) (exec_move rfl rfl) ?_
              simp only [Act.put, List.setIfInBounds_toArray, List.set_cons_zero, List.set_cons_succ]
              refine wpList_run (v := .bool false) (wanted_none rfl) (ix_eql rfl rfl rfl (by decide)) ?_
              simp only [Act.put, List.setIfInBounds_toArray, List.set_cons_zero, List.set_cons_succ]
              go_wp2_with fail
              go_meet
              have hm9 := HQ4.out.max
              obtain ⟨k9, rfl⟩ : ∃ k9, k3 = k9 + 1 := ⟨k3 - 1, by omega⟩
              exact ⟨k9, rfl, by omega, by omega, HQ4.out⟩
          · as_aux_lemma =>
              rw [if_neg hkm] at hE hk3
              subst hE hk3
              go_upto_region 17 with fail
              refine wp_region_lit ?_
              refine wpList_run (v := .int .i64 0) (wanted_none rfl) (exec_move rfl rfl) ?_
              simp only [Act.put, List.setIfInBounds_toArray, List.set_cons_zero, List.set_cons_succ]
              refine wpList_run (v := .bool true) (wanted_none rfl) (ix_eql rfl rfl rfl (by decide)) ?_
              simp only [Act.put, List.setIfInBounds_toArray, List.set_cons_zero, List.set_cons_succ]
              refine wpList_run (v := .pointer (some ⟨a, 0, none⟩)) (wanted_none rfl) (exec_move rfl rfl) ?_
              simp only [Act.put, List.setIfInBounds_toArray, List.set_cons_zero, List.set_cons_succ]
              refine wpList_op (wanted_none rfl) fun K9 HK9 => ?_
              go_wp2_with fail
              refine (HQ4.out.lenw).mono ?_
              rintro e w4 ⟨rfl, rfl⟩
              refine HK9.out _ _ ?_
              clear HK9
              try simp only [Act.put, List.setIfInBounds_toArray, List.set_cons_zero, List.set_cons_succ]
              rw [Sf.row_len]
              refine wpList_run (v := .int .i64 ((d + k : Nat) : Int)) (wanted_none rfl) (exec_move rfl rfl) ?_
              simp only [Act.put, List.setIfInBounds_toArray, List.set_cons_zero, List.set_cons_succ]
              refine wpList_run (v := .int .i64 (d : Int)) (wanted_none rfl) (exec_move rfl rfl) ?_
              simp only [Act.put, List.setIfInBounds_toArray, List.set_cons_zero, List.set_cons_succ]
              refine wpList_run (v := .int .i64 (k : Int)) (wanted_none rfl) (ix_sub rfl rfl rfl (by omega) (by omega)) ?_
              simp only [Act.put, List.setIfInBounds_toArray, List.set_cons_zero, List.set_cons_succ]
              refine wpList_run (v := .int .i64 ((k + 1 : Nat) : Int)) (wanted_none rfl) (ix_add rfl rfl rfl (by omega) (by omega)) ?_
              simp only [Act.put, List.setIfInBounds_toArray, List.set_cons_zero, List.set_cons_succ]
              refine wpList_run (v := .bool true) (wanted_none rfl) (ix_eql rfl rfl rfl (decide_eq_true rfl)) ?_
              simp only [Act.put, List.setIfInBounds_toArray, List.set_cons_zero, List.set_cons_succ]
              refine wpList_run (v := .bool false) (wanted_none rfl) (bx_neb (p := true) (q := true) rfl rfl rfl) ?_
              simp only [Act.put, List.setIfInBounds_toArray, List.set_cons_zero, List.set_cons_succ]
              refine wpList_run (v := .bool false) (wanted_none rfl) (exec_move rfl rfl) ?_
              simp only [Act.put, List.setIfInBounds_toArray, List.set_cons_zero, List.set_cons_succ]
              refine wpList_run (v := .int .i64 0) rfl (exec_move rfl rfl) ?_
              simp only [Act.put, List.setIfInBounds_toArray, List.set_cons_zero, List.set_cons_succ]
              refine wpList_run (v := .bool false) rfl (ix_neq rfl rfl rfl (by decide)) ?_
              simp only [Act.put, List.setIfInBounds_toArray, List.set_cons_zero, List.set_cons_succ]
              refine wpList_run (v := .bool false) rfl (exec_move rfl rfl) ?_
              simp only [Act.put, List.setIfInBounds_toArray, List.set_cons_zero, List.set_cons_succ]
              refine wpList_skip (by go_simp) ?_
              simp only [Act.put, List.setIfInBounds_toArray, List.set_cons_zero, List.set_cons_succ]
              refine wpList_skip (by go_simp) ?_
              simp only [Act.put, List.setIfInBounds_toArray, List.set_cons_zero, List.set_cons_succ]
              refine wpList_run (v := .bool false) rfl (ix_pickF rfl rfl rfl) ?_
              simp only [Act.put, List.setIfInBounds_toArray, List.set_cons_zero, List.set_cons_succ]
              refine wpList_run (v := .bool false) (wanted_none rfl) (ix_pickF rfl rfl rfl) ?_
              simp only [Act.put, List.setIfInBounds_toArray, List.set_cons_zero, List.set_cons_succ]
              go_upto_region 19 with fail
              refine wp_region_lit ?_
              refine wpList_run (v := .int .i64 0) (wanted_none rfl) (exec_move rfl rfl) ?_
              simp only [Act.put, List.setIfInBounds_toArray, List.set_cons_zero, List.set_cons_succ]
              refine wpList_run (v := .bool true) (wanted_none rfl) (ix_eql rfl rfl rfl (by decide)) ?_
              simp only [Act.put, List.setIfInBounds_toArray, List.set_cons_zero, List.set_cons_succ]
              go_upto_region 20 with fail
              refine wp_region_lit ?_
              refine wpList_run (v := .int .i64 ((d + k : Nat) : Int)) (wanted_none rfl) (exec_move rfl rfl) ?_
              simp only [Act.put, List.setIfInBounds_toArray, List.set_cons_zero, List.set_cons_succ]
              refine wpList_run (v := .int .i64 ((d + (k + 1) : Nat) : Int)) (wanted_none rfl) (ix_add rfl rfl rfl (by omega) (by omega)) ?_
              simp only [Act.put, List.setIfInBounds_toArray, List.set_cons_zero, List.set_cons_succ]
              refine wpList_run (v := .int .i64 ((d + (k + 1) : Nat) : Int)) (wanted_none rfl) (gx_assign rfl rfl) ?_
              simp only [Act.put, List.setIfInBounds_toArray, List.set_cons_zero, List.set_cons_succ]
              go_wp2_with fail
              go_meet
              exact ⟨k, rfl, by omega, by have := HKM.out; omega, HQ4.out⟩
        · have ypn : ¬ ((d + k : Nat) : Int) < (n : Int) := by omega
          rw [decide_eq_false ypn]
          go_wp2_with fail
          go_meet
          have := HDN.out
          obtain ⟨k9, rfl⟩ : ∃ k9, k = k9 + 1 := ⟨k - 1, by omega⟩
          exact ⟨k9, rfl, HDK.out, HKM.out, HQ.out⟩
      obtain ⟨k2, rfl, hd2, hm2, hq2⟩ := hcut
      rw [Sf.row_cons] at hq2
      have HD2 := Lib.hid hd2
      have HM2 := Lib.hid hm2
      have HQ5 := Lib.hid hq2
      have HNA := Lib.hid (Sf.nameL_ne (a := d) (b := d + 1) (by omega) (by omega) (by omega))
      clear hd2 hm2 hq2 HQ
      go_upto_region 21 with fail
      refine wp_region_lit ?_
      refine wpList_run (v := .pointer (some ⟨a, 0, none⟩)) (wanted_none rfl) (exec_move rfl rfl) ?_
      simp only [Act.put, List.setIfInBounds_toArray, List.set_cons_zero, List.set_cons_succ]
      refine wpList_op (wanted_none rfl) fun K9 HK9 => ?_
      go_wp2_with fail
      refine (HQ5.out.send_is (o := some (Sf.adN d)) (s' := true) rfl rfl).mono ?_
      rintro e w5 ⟨⟨gf, rfl, _, _⟩, hq, _⟩
      have HQ6 := Lib.hid hq
      clear hq
      refine HK9.out _ _ ?_
      clear HK9
      try simp only [Act.put, List.setIfInBounds_toArray, List.set_cons_zero, List.set_cons_succ]
      by_cases hst : ∃ b, bs[j]? = some b ∧ b = true
      · as_aux_lemma =>
          obtain ⟨b, hb, rfl⟩ := hst
          have hjb := (List.getElem?_eq_some_iff.1 hb).1
          have HJN := Lib.hid (show j < bn from by have := HBL.out; omega)
          have yjn : (j : Int) < (bn : Int) := by have := HJN.out; omega
          obtain ⟨bb, bo, rfl, hat⟩ := (HB.out.still HQ6.out.turn_).at_ (i := j) (r := boolC true) (by rw [List.getElem?_map, hb]; rfl)
          have HAT := Lib.hid (hat 0 _ rfl)
          clear hb hjb hat
          go_upto_region 22 with fail
          refine wp_region_lit ?_
          refine wpList_run (v := .int .i64 (j : Int)) (wanted_none rfl) (exec_move rfl rfl) ?_
          simp only [Act.put, List.setIfInBounds_toArray, List.set_cons_zero, List.set_cons_succ]
          refine wpList_run (v := .slice (some ⟨bb, bo, none⟩) bn bc) (wanted_none rfl) (exec_move rfl rfl) ?_
          simp only [Act.put, List.setIfInBounds_toArray, List.set_cons_zero, List.set_cons_succ]
          refine wpList_run (v := .int .i64 (bn : Int)) (wanted_none rfl) (gx_len rfl rfl Try.underlying48) ?_
          simp only [Act.put, List.setIfInBounds_toArray, List.set_cons_zero, List.set_cons_succ]
          refine wpList_run (v := .bool true) (wanted_none rfl) (ix_lss rfl rfl rfl (decide_eq_true yjn)) ?_
          simp only [Act.put, List.setIfInBounds_toArray, List.set_cons_zero, List.set_cons_succ]
          refine wpList_run (v := .bool true) (wanted_none rfl) (exec_move rfl rfl) ?_
          simp only [Act.put, List.setIfInBounds_toArray, List.set_cons_zero, List.set_cons_succ]
          refine wpList_run (v := .slice (some ⟨bb, bo, none⟩) bn bc) rfl (exec_move rfl rfl) ?_
          simp only [Act.put, List.setIfInBounds_toArray, List.set_cons_zero, List.set_cons_succ]
          refine wpList_run (v := .int .i64 (j : Int)) rfl (exec_move rfl rfl) ?_
          simp only [Act.put, List.setIfInBounds_toArray, List.set_cons_zero, List.set_cons_succ]
          refine wpList_run (v := .pointer (some ⟨bb, bo + j * 1, none⟩)) rfl (gx_iaddr (i := j) (sz := 1) rfl rfl rfl Try.underlying48 size_boolS HJN.out (by omega)) ?_
          simp only [Act.put, List.setIfInBounds_toArray, List.set_cons_zero, List.set_cons_succ]
          refine wpList_run (v := .bool true) rfl (exec_load1 rfl rfl (by kernel_rfl) HAT.out) ?_
          simp only [Act.put, List.setIfInBounds_toArray, List.set_cons_zero, List.set_cons_succ]
          refine wpList_run (v := .bool true) (wanted_none rfl) (ix_pickT rfl rfl rfl) ?_
          simp only [Act.put, List.setIfInBounds_toArray, List.set_cons_zero, List.set_cons_succ]
          go_upto_region 23 with fail
          refine wp_region_lit ?_
          refine wpList_run (v := .pointer (some ⟨a, 0, none⟩)) (wanted_none rfl) (exec_move rfl rfl) ?_
          simp only [Act.put, List.setIfInBounds_toArray, List.set_cons_zero, List.set_cons_succ]
          refine wpList_op (wanted_none rfl) fun K9 HK9 => ?_
          go_wp2_with fail
          refine (HQ6.out.stop).mono ?_
          rintro e w7 ⟨rfl, hq⟩
          refine HK9.out _ _ ?_
          clear HK9
          try simp only [Act.put, List.setIfInBounds_toArray, List.set_cons_zero, List.set_cons_succ]
          have HQ7 := Lib.hid hq
          clear hq
          go_upto_region 24 with fail
          refine wp_region_lit ?_
          refine wpList_run (v := .pointer (some ⟨a, 0, none⟩)) (wanted_none rfl) (exec_move rfl rfl) ?_
          simp only [Act.put, List.setIfInBounds_toArray, List.set_cons_zero, List.set_cons_succ]
          refine wpList_run (v := .int .i64 (d : Int)) (wanted_none rfl) (exec_move rfl rfl) ?_
          simp only [Act.put, List.setIfInBounds_toArray, List.set_cons_zero, List.set_cons_succ]
          refine wpList_op (wanted_none rfl) fun K9 HK9 => ?_
          go_wp2_with fail
          refine (name_walk (n := d) (by omega) w7).mono ?_
          rintro e w8 ⟨rfl, ht⟩
          refine HK9.out _ _ ?_
          clear HK9
          try simp only [Act.put, List.setIfInBounds_toArray, List.set_cons_zero, List.set_cons_succ]
          have HQ8 := Lib.hid (HQ7.out.still ht)
          clear ht
          refine wpList_op (wanted_none rfl) fun K9 HK9 => ?_
          go_wp2_with fail
          refine (HQ8.out.done_is (Sf.nameL d) (b := false) (s' := false) rfl rfl rfl).mono ?_
          rintro e w9 ⟨rfl, hq, _⟩
          refine HK9.out _ _ ?_
          clear HK9
          try simp only [Act.put, List.setIfInBounds_toArray, List.set_cons_zero, List.set_cons_succ]
          have HQ9 := Lib.hid (show Qx w w9 a m (Sf.row d (k2 + 1)) false from by rw [Sf.row_cons]; exact hq)
          clear hq
          go_upto_region 14 with fail
          refine wp_region_lit ?_
          refine wpList_run (v := .int .i64 (j : Int)) (wanted_none rfl) (exec_move rfl rfl) ?_
          simp only [Act.put, List.setIfInBounds_toArray, List.set_cons_zero, List.set_cons_succ]
          refine wpList_run (v := .int .i64 ((j + 1 : Nat) : Int)) (wanted_none rfl) (ix_add rfl rfl rfl (by omega) (by omega)) ?_
          simp only [Act.put, List.setIfInBounds_toArray, List.set_cons_zero, List.set_cons_succ]
          refine wpList_run (v := .int .i64 ((j + 1 : Nat) : Int)) (wanted_none rfl) (gx_assign rfl rfl) ?_
          simp only [Act.put, List.setIfInBounds_toArray, List.set_cons_zero, List.set_cons_succ]
          go_wp2_with fail
          go_roundg (gk - 1)
          case measure => have := HJL.out; have := HLT.out; omega
          case rel => exact ⟨j + 1, d, k2 + 1, rfl, rfl, rfl, by have := HJL.out; have := HLT.out; omega, HD2.out, HM2.out, by have := HJN.out; omega, HQ9.out⟩
      · by_cases hjn : j < bn
        · as_aux_lemma =>
            obtain ⟨b, hb⟩ : ∃ b, bs[j]? = some b := ⟨bs[j]'(by have := HBL.out; omega), List.getElem?_eq_getElem _⟩
            have hbf : b = false := by
              cases b with
              | false => rfl
              | true => exact absurd ⟨true, hb, rfl⟩ hst
            subst hbf
            have HJN := Lib.hid hjn
            have yjn : (j : Int) < (bn : Int) := by have := HJN.out; omega
            obtain ⟨bb, bo, rfl, hat⟩ := (HB.out.still HQ6.out.turn_).at_ (i := j) (r := boolC false) (by rw [List.getElem?_map, hb]; rfl)
            have HAT := Lib.hid (hat 0 _ rfl)
            clear hb hat hst hjn
            go_upto_region 22 with fail
            refine wp_region_lit ?_
            refine wpList_run (v := .int .i64 (j : Int)) (wanted_none rfl) (exec_move rfl rfl) ?_
            simp only [Act.put, List.setIfInBounds_toArray, List.set_cons_zero, List.set_cons_succ]
            refine wpList_run (v := .slice (some ⟨bb, bo, none⟩) bn bc) (wanted_none rfl) (exec_move rfl rfl) ?_
            simp only [Act.put, List.setIfInBounds_toArray, List.set_cons_zero, List.set_cons_succ]
            refine wpList_run (v := .int .i64 (bn : Int)) (wanted_none rfl) (gx_len rfl rfl Try.underlying48) ?_
            simp only [Act.put, List.setIfInBounds_toArray, List.set_cons_zero, List.set_cons_succ]
            refine wpList_run (v := .bool true) (wanted_none rfl) (ix_lss rfl rfl rfl (decide_eq_true yjn)) ?_
            simp only [Act.put, List.setIfInBounds_toArray, List.set_cons_zero, List.set_cons_succ]
            refine wpList_run (v := .bool true) (wanted_none rfl) (exec_move rfl rfl) ?_
            simp only [Act.put, List.setIfInBounds_toArray, List.set_cons_zero, List.set_cons_succ]
            refine wpList_run (v := .slice (some ⟨bb, bo, none⟩) bn bc) rfl (exec_move rfl rfl) ?_
            simp only [Act.put, List.setIfInBounds_toArray, List.set_cons_zero, List.set_cons_succ]
            refine wpList_run (v := .int .i64 (j : Int)) rfl (exec_move rfl rfl) ?_
            simp only [Act.put, List.setIfInBounds_toArray, List.set_cons_zero, List.set_cons_succ]
            refine wpList_run (v := .pointer (some ⟨bb, bo + j * 1, none⟩)) rfl (gx_iaddr (i := j) (sz := 1) rfl rfl rfl Try.underlying48 size_boolS HJN.out (by omega)) ?_
            simp only [Act.put, List.setIfInBounds_toArray, List.set_cons_zero, List.set_cons_succ]
            refine wpList_run (v := .bool false) rfl (exec_load1 rfl rfl (by kernel_rfl) HAT.out) ?_
            simp only [Act.put, List.setIfInBounds_toArray, List.set_cons_zero, List.set_cons_succ]
            refine wpList_run (v := .bool false) (wanted_none rfl) (ix_pickT rfl rfl rfl) ?_
            simp only [Act.put, List.setIfInBounds_toArray, List.set_cons_zero, List.set_cons_succ]
            have HAG := Lib.hid HQ6.out.again
            go_upto_region 26 with fail
            refine wp_region_lit ?_
            refine wpList_run (v := .pointer (some ⟨a, 0, none⟩)) (wanted_none rfl) (exec_move rfl rfl) ?_
            simp only [Act.put, List.setIfInBounds_toArray, List.set_cons_zero, List.set_cons_succ]
            refine wpList_op (wanted_none rfl) fun K9 HK9 => ?_
            go_wp2_with fail
            refine (HAG.out).mono ?_
            rintro e w7 ⟨⟨gf, rfl, _, _⟩, hq⟩
            have HQ7 := Lib.hid hq
            clear hq HAG
            refine HK9.out _ _ ?_
            clear HK9
            try simp only [Act.put, List.setIfInBounds_toArray, List.set_cons_zero, List.set_cons_succ]
            refine wpList_run (v := .tuple #[strV (Sf.nameL d), .agg #[.int .i64 220, .slice (some ⟨gf, 0, none⟩) ([] : List Fld).length ([] : List Fld).length], .bool true]) (wanted_none rfl) (exec_move rfl rfl) ?_
            simp only [Act.put, List.setIfInBounds_toArray, List.set_cons_zero, List.set_cons_succ]
            refine wpList_run (v := strV (Sf.nameL d)) (wanted_none rfl) (ix_extract rfl rfl rfl) ?_
            simp only [Act.put, List.setIfInBounds_toArray, List.set_cons_zero, List.set_cons_succ]
            refine wpList_run (v := .agg #[.int .i64 220, .slice (some ⟨gf, 0, none⟩) ([] : List Fld).length ([] : List Fld).length]) (wanted_none rfl) (ix_extract rfl rfl rfl) ?_
            simp only [Act.put, List.setIfInBounds_toArray, List.set_cons_zero, List.set_cons_succ]
            refine wpList_run (v := .bool true) (wanted_none rfl) (ix_extract rfl rfl rfl) ?_
            simp only [Act.put, List.setIfInBounds_toArray, List.set_cons_zero, List.set_cons_succ]
            refine wpList_run (v := .pointer (some ⟨w7.heap.size, 0, none⟩)) (w' := w7.alloc (.cells #[.int .i64 0, .slice none 0 0] 35)) (wanted_none rfl) (gx_alloc rfl (zero_msg _)) ?_
            simp only [Act.put, List.setIfInBounds_toArray, List.set_cons_zero, List.set_cons_succ]
            have hb_ := Blk.new w7 35 #[.int .i64 0, .slice none 0 0]
            have ht_ := (Turn.refl nowhere w7).alloc (.cells #[.int .i64 0, .slice none 0 0] 35)
            obtain ⟨v1, hg_⟩ : ∃ g, g = w7.heap.size := ⟨_, rfl⟩
            rw [← hg_] at hb_ ⊢
            have HLv1 := Lib.hid (show w7.heap.size ≤ v1 from by omega)
            clear hg_
            generalize w7.alloc (.cells #[.int .i64 0, .slice none 0 0] 35) = w7a at *
            have HBv1 := Lib.hid hb_
            have HT7a := Lib.hid ht_
            clear hb_ ht_
            refine wpList_run (v := strV (Sf.nameL d)) (wanted_none rfl) (gx_assign rfl rfl) ?_
            simp only [Act.put, List.setIfInBounds_toArray, List.set_cons_zero, List.set_cons_succ]
            refine wpList_store_row (wanted_none rfl) 35 (.tmp 16) (.tmp 110) rfl (#[.int .i64 220, .slice (some ⟨gf, 0, none⟩) ([] : List Fld).length ([] : List Fld).length]) HBv1.out rfl rfl (rfl) (by rw [size_msg] <;> rfl) (msgA_one _ _ _ _) ?_
            intro w7b hb_ ht_
            have HBv12 := Lib.hid hb_
            have HT7b := Lib.hid ht_
            clear hb_ ht_
            simp only [Act.put, List.setIfInBounds_toArray, List.set_cons_zero, List.set_cons_succ]
            have HQ7c := Lib.hid (HQ7.out.still (newer HT7a.out HLv1.out HT7b.out))
            clear HT7a HT7b HBv1 HBv12 HQ7
            refine wpList_run (v := .bool true) (wanted_none rfl) (gx_assign rfl rfl) ?_
            simp only [Act.put, List.setIfInBounds_toArray, List.set_cons_zero, List.set_cons_succ]
            go_upto_region 27 with fail
            refine wp_region_lit ?_
            refine wpList_run (v := .bool true) (wanted_none rfl) (exec_move rfl rfl) ?_
            simp only [Act.put, List.setIfInBounds_toArray, List.set_cons_zero, List.set_cons_succ]
            refine wpList_run (v := .bool false) (wanted_none rfl) (ix_not (b := true) rfl rfl) ?_
            simp only [Act.put, List.setIfInBounds_toArray, List.set_cons_zero, List.set_cons_succ]
            refine wpList_run (v := .bool false) (wanted_none rfl) (exec_move rfl rfl) ?_
            simp only [Act.put, List.setIfInBounds_toArray, List.set_cons_zero, List.set_cons_succ]
            refine wpList_run (v := strV (Sf.nameL d)) rfl (exec_move rfl rfl) ?_
            simp only [Act.put, List.setIfInBounds_toArray, List.set_cons_zero, List.set_cons_succ]
            refine wpList_run (v := .int .i64 (d : Int)) rfl (exec_move rfl rfl) ?_
            simp only [Act.put, List.setIfInBounds_toArray, List.set_cons_zero, List.set_cons_succ]
            refine wpList_op (by go_simp) fun K9 HK9 => ?_
            go_wp2_with fail
            refine (name_walk (n := d) (by omega) w7b).mono ?_
            rintro e w8 ⟨rfl, ht⟩
            refine HK9.out _ _ ?_
            clear HK9
            try simp only [Act.put, List.setIfInBounds_toArray, List.set_cons_zero, List.set_cons_succ]
            have HQ8 := Lib.hid (HQ7c.out.still ht)
            clear ht
            refine wpList_run (v := .bool false) rfl ((exec_sneq rfl rfl rfl).trans (by rw [beq_self_eq_true]; rfl)) ?_
            simp only [Act.put, List.setIfInBounds_toArray, List.set_cons_zero, List.set_cons_succ]
            refine wpList_run (v := .bool false) (wanted_none rfl) (ix_pickF rfl rfl rfl) ?_
            simp only [Act.put, List.setIfInBounds_toArray, List.set_cons_zero, List.set_cons_succ]
            refine wpList_run (v := .bool false) (wanted_none rfl) (exec_move rfl rfl) ?_
            simp only [Act.put, List.setIfInBounds_toArray, List.set_cons_zero, List.set_cons_succ]
            refine wpList_run (v := .pointer (some ⟨a, 0, none⟩)) rfl (exec_move rfl rfl) ?_
            simp only [Act.put, List.setIfInBounds_toArray, List.set_cons_zero, List.set_cons_succ]
            refine wpList_run (v := .int .i64 (d : Int)) rfl (exec_move rfl rfl) ?_
            simp only [Act.put, List.setIfInBounds_toArray, List.set_cons_zero, List.set_cons_succ]
            refine wpList_run (v := .int .i64 ((d + 1 : Nat) : Int)) rfl (ix_add rfl rfl rfl (by omega) (by omega)) ?_
            simp only [Act.put, List.setIfInBounds_toArray, List.set_cons_zero, List.set_cons_succ]
            refine wpList_op (by go_simp) fun K9 HK9 => ?_
            go_wp2_with fail
            refine (name_walk (n := d + 1) (by omega) w8).mono ?_
            rintro e w9 ⟨rfl, ht⟩
            refine HK9.out _ _ ?_
            clear HK9
            try simp only [Act.put, List.setIfInBounds_toArray, List.set_cons_zero, List.set_cons_succ]
            have HQ9 := Lib.hid (HQ8.out.still ht)
            have hcd : Sf.canDone (Sf.adN d :: Sf.row (d + 1) k2) true (Sf.nameL (d + 1)) = false := by
              unfold Sf.canDone
              simp only [Bool.true_and, List.head?_cons, Option.map_some, decide_eq_false_iff_not, Option.some.injEq]
              exact HNA.out
            have HCD := Lib.hid hcd
            clear ht hcd
            refine wpList_op (by go_simp) fun K9 HK9 => ?_
            go_wp2_with fail
            refine (HQ9.out.done_is (Sf.nameL (d + 1)) (b := false) (s' := true) HCD.out (if_neg (by rw [HCD.out]; decide)) (if_neg (by rw [HCD.out]; decide))).mono ?_
            rintro e w10 ⟨rfl, hq, _⟩
            refine HK9.out _ _ ?_
            clear HK9
            try simp only [Act.put, List.setIfInBounds_toArray, List.set_cons_zero, List.set_cons_succ]
            have HQ10 := Lib.hid hq
            clear hq
            refine wpList_run (v := .bool false) (wanted_none rfl) (ix_pickF rfl rfl rfl) ?_
            simp only [Act.put, List.setIfInBounds_toArray, List.set_cons_zero, List.set_cons_succ]
            go_upto_region 29 with fail
            refine wp_region_lit ?_
            refine wpList_run (v := .pointer (some ⟨a, 0, none⟩)) (wanted_none rfl) (exec_move rfl rfl) ?_
            simp only [Act.put, List.setIfInBounds_toArray, List.set_cons_zero, List.set_cons_succ]
            refine wpList_run (v := strV (Sf.nameL d)) (wanted_none rfl) (exec_move rfl rfl) ?_
            simp only [Act.put, List.setIfInBounds_toArray, List.set_cons_zero, List.set_cons_succ]
            have hcd : Sf.canDone (Sf.adN d :: Sf.row (d + 1) k2) true (Sf.nameL d) = true := by
              unfold Sf.canDone
              simp [Sf.adN]
            have HCD2 := Lib.hid hcd
            clear hcd
            refine wpList_op (wanted_none rfl) fun K9 HK9 => ?_
            go_wp2_with fail
            refine (HQ10.out.done_is (Sf.nameL d) (b := true) (L := Sf.row (d + 1) k2) (s' := false) HCD2.out (if_pos HCD2.out) (if_pos HCD2.out)).mono ?_
            rintro e w11 ⟨rfl, hq, _⟩
            refine HK9.out _ _ ?_
            clear HK9
            try simp only [Act.put, List.setIfInBounds_toArray, List.set_cons_zero, List.set_cons_succ]
            have HQ11 := Lib.hid hq
            clear hq
            refine wpList_run (v := .bool true) (wanted_none rfl) (gx_assign rfl rfl) ?_
            simp only [Act.put, List.setIfInBounds_toArray, List.set_cons_zero, List.set_cons_succ]
            go_upto_region 30 with fail
            refine wp_region_lit ?_
            refine wpList_run (v := .bool true) (wanted_none rfl) (exec_move rfl rfl) ?_
            simp only [Act.put, List.setIfInBounds_toArray, List.set_cons_zero, List.set_cons_succ]
            refine wpList_run (v := .bool false) (wanted_none rfl) (ix_not (b := true) rfl rfl) ?_
            simp only [Act.put, List.setIfInBounds_toArray, List.set_cons_zero, List.set_cons_succ]
            go_upto_region 32 with fail
            refine wp_region_lit ?_
            refine wpList_run (v := .int .i64 (d : Int)) (wanted_none rfl) (exec_move rfl rfl) ?_
            simp only [Act.put, List.setIfInBounds_toArray, List.set_cons_zero, List.set_cons_succ]
            refine wpList_run (v := .int .i64 ((d + 1 : Nat) : Int)) (wanted_none rfl) (ix_add rfl rfl rfl (by omega) (by omega)) ?_
            simp only [Act.put, List.setIfInBounds_toArray, List.set_cons_zero, List.set_cons_succ]
            refine wpList_run (v := .int .i64 ((d + 1 : Nat) : Int)) (wanted_none rfl) (gx_assign rfl rfl) ?_
            simp only [Act.put, List.setIfInBounds_toArray, List.set_cons_zero, List.set_cons_succ]
            go_upto_region 14 with fail
            refine wp_region_lit ?_
            refine wpList_run (v := .int .i64 (j : Int)) (wanted_none rfl) (exec_move rfl rfl) ?_
            simp only [Act.put, List.setIfInBounds_toArray, List.set_cons_zero, List.set_cons_succ]
            refine wpList_run (v := .int .i64 ((j + 1 : Nat) : Int)) (wanted_none rfl) (ix_add rfl rfl rfl (by omega) (by omega)) ?_
            simp only [Act.put, List.setIfInBounds_toArray, List.set_cons_zero, List.set_cons_succ]
            refine wpList_run (v := .int .i64 ((j + 1 : Nat) : Int)) (wanted_none rfl) (gx_assign rfl rfl) ?_
            simp only [Act.put, List.setIfInBounds_toArray, List.set_cons_zero, List.set_cons_succ]
            go_wp2_with fail
            go_roundg (gk - 1)
            case measure => have := HJL.out; have := HLT.out; omega
            case rel => exact ⟨j + 1, d + 1, k2, by congr 1; omega, rfl, rfl, by have := HJL.out; have := HLT.out; omega, by have := HD2.out; omega, by have := HM2.out; omega, by have := HJB.out; omega, HQ11.out⟩
        · as_aux_lemma =>
            have yjn : ¬ (j : Int) < (bn : Int) := by omega
            clear hst hjn
            go_upto_region 22 with fail
            first
            | (rename_i K9 hK9; have HKC := Lib.hid hK9; clear hK9)
            | (rename_i K9 hK9 K8; have HKC := Lib.hid hK9; clear hK9)
            refine wp_region_lit ?_
            refine wpList_run (v := .int .i64 (j : Int)) (wanted_none rfl) (exec_move rfl rfl) ?_
            simp only [Act.put, List.setIfInBounds_toArray, List.set_cons_zero, List.set_cons_succ]
            refine wpList_run (v := .slice A bn bc) (wanted_none rfl) (exec_move rfl rfl) ?_
            simp only [Act.put, List.setIfInBounds_toArray, List.set_cons_zero, List.set_cons_succ]
            refine wpList_run (v := .int .i64 (bn : Int)) (wanted_none rfl) (gx_len rfl rfl Try.underlying48) ?_
            simp only [Act.put, List.setIfInBounds_toArray, List.set_cons_zero, List.set_cons_succ]
            refine wpList_run (v := .bool false) (wanted_none rfl) (ix_lss rfl rfl rfl (decide_eq_false yjn)) ?_
            simp only [Act.put, List.setIfInBounds_toArray, List.set_cons_zero, List.set_cons_succ]
            refine wpList_run (v := .bool false) (wanted_none rfl) (exec_move rfl rfl) ?_
            simp only [Act.put, List.setIfInBounds_toArray, List.set_cons_zero, List.set_cons_succ]
            go_wp2_with fail
            refine HKC.out _ _ ?_
            clear HKC
            have HAG := Lib.hid HQ6.out.again
            go_upto_region 26 with fail
            refine wp_region_lit ?_
            refine wpList_run (v := .pointer (some ⟨a, 0, none⟩)) (wanted_none rfl) (exec_move rfl rfl) ?_
            simp only [Act.put, List.setIfInBounds_toArray, List.set_cons_zero, List.set_cons_succ]
            refine wpList_op (wanted_none rfl) fun K9 HK9 => ?_
            go_wp2_with fail
            refine (HAG.out).mono ?_
            rintro e w7 ⟨⟨gf, rfl, _, _⟩, hq⟩
            have HQ7 := Lib.hid hq
            clear hq HAG
            refine HK9.out _ _ ?_
            clear HK9
            try simp only [Act.put, List.setIfInBounds_toArray, List.set_cons_zero, List.set_cons_succ]
            refine wpList_run (v := .tuple #[strV (Sf.nameL d), .agg #[.int .i64 220, .slice (some ⟨gf, 0, none⟩) ([] : List Fld).length ([] : List Fld).length], .bool true]) (wanted_none rfl) (exec_move rfl rfl) ?_
            simp only [Act.put, List.setIfInBounds_toArray, List.set_cons_zero, List.set_cons_succ]
            refine wpList_run (v := strV (Sf.nameL d)) (wanted_none rfl) (ix_extract rfl rfl rfl) ?_
            simp only [Act.put, List.setIfInBounds_toArray, List.set_cons_zero, List.set_cons_succ]
            refine wpList_run (v := .agg #[.int .i64 220, .slice (some ⟨gf, 0, none⟩) ([] : List Fld).length ([] : List Fld).length]) (wanted_none rfl) (ix_extract rfl rfl rfl) ?_
            simp only [Act.put, List.setIfInBounds_toArray, List.set_cons_zero, List.set_cons_succ]
            refine wpList_run (v := .bool true) (wanted_none rfl) (ix_extract rfl rfl rfl) ?_
            simp only [Act.put, List.setIfInBounds_toArray, List.set_cons_zero, List.set_cons_succ]
            refine wpList_run (v := .pointer (some ⟨w7.heap.size, 0, none⟩)) (w' := w7.alloc (.cells #[.int .i64 0, .slice none 0 0] 35)) (wanted_none rfl) (gx_alloc rfl (zero_msg _)) ?_
            simp only [Act.put, List.setIfInBounds_toArray, List.set_cons_zero, List.set_cons_succ]
            have hb_ := Blk.new w7 35 #[.int .i64 0, .slice none 0 0]
            have ht_ := (Turn.refl nowhere w7).alloc (.cells #[.int .i64 0, .slice none 0 0] 35)
            obtain ⟨v1, hg_⟩ : ∃ g, g = w7.heap.size := ⟨_, rfl⟩
            rw [← hg_] at hb_ ⊢
            have HLv1 := Lib.hid (show w7.heap.size ≤ v1 from by omega)
            clear hg_
            generalize w7.alloc (.cells #[.int .i64 0, .slice none 0 0] 35) = w7a at *
            have HBv1 := Lib.hid hb_
            have HT7a := Lib.hid ht_
            clear hb_ ht_
            refine wpList_run (v := strV (Sf.nameL d)) (wanted_none rfl) (gx_assign rfl rfl) ?_
            simp only [Act.put, List.setIfInBounds_toArray, List.set_cons_zero, List.set_cons_succ]
            refine wpList_store_row (wanted_none rfl) 35 (.tmp 16) (.tmp 110) rfl (#[.int .i64 220, .slice (some ⟨gf, 0, none⟩) ([] : List Fld).length ([] : List Fld).length]) HBv1.out rfl rfl (rfl) (by rw [size_msg] <;> rfl) (msgA_one _ _ _ _) ?_
            intro w7b hb_ ht_
            have HBv12 := Lib.hid hb_
            have HT7b := Lib.hid ht_
            clear hb_ ht_
            simp only [Act.put, List.setIfInBounds_toArray, List.set_cons_zero, List.set_cons_succ]
            have HQ7c := Lib.hid (HQ7.out.still (newer HT7a.out HLv1.out HT7b.out))
            clear HT7a HT7b HBv1 HBv12 HQ7
            refine wpList_run (v := .bool true) (wanted_none rfl) (gx_assign rfl rfl) ?_
            simp only [Act.put, List.setIfInBounds_toArray, List.set_cons_zero, List.set_cons_succ]
            go_upto_region 27 with fail
            refine wp_region_lit ?_
            refine wpList_run (v := .bool true) (wanted_none rfl) (exec_move rfl rfl) ?_
            simp only [Act.put, List.setIfInBounds_toArray, List.set_cons_zero, List.set_cons_succ]
            refine wpList_run (v := .bool false) (wanted_none rfl) (ix_not (b := true) rfl rfl) ?_
            simp only [Act.put, List.setIfInBounds_toArray, List.set_cons_zero, List.set_cons_succ]
            refine wpList_run (v := .bool false) (wanted_none rfl) (exec_move rfl rfl) ?_
            simp only [Act.put, List.setIfInBounds_toArray, List.set_cons_zero, List.set_cons_succ]
            refine wpList_run (v := strV (Sf.nameL d)) rfl (exec_move rfl rfl) ?_
            simp only [Act.put, List.setIfInBounds_toArray, List.set_cons_zero, List.set_cons_succ]
            refine wpList_run (v := .int .i64 (d : Int)) rfl (exec_move rfl rfl) ?_
            simp only [Act.put, List.setIfInBounds_toArray, List.set_cons_zero, List.set_cons_succ]
            refine wpList_op (by go_simp) fun K9 HK9 => ?_
            go_wp2_with fail
            refine (name_walk (n := d) (by omega) w7b).mono ?_
            rintro e w8 ⟨rfl, ht⟩
            refine HK9.out _ _ ?_
            clear HK9
            try simp only [Act.put, List.setIfInBounds_toArray, List.set_cons_zero, List.set_cons_succ]
            have HQ8 := Lib.hid (HQ7c.out.still ht)
            clear ht
            refine wpList_run (v := .bool false) rfl ((exec_sneq rfl rfl rfl).trans (by rw [beq_self_eq_true]; rfl)) ?_
            simp only [Act.put, List.setIfInBounds_toArray, List.set_cons_zero, List.set_cons_succ]
            refine wpList_run (v := .bool false) (wanted_none rfl) (ix_pickF rfl rfl rfl) ?_
            simp only [Act.put, List.setIfInBounds_toArray, List.set_cons_zero, List.set_cons_succ]
            refine wpList_run (v := .bool false) (wanted_none rfl) (exec_move rfl rfl) ?_
            simp only [Act.put, List.setIfInBounds_toArray, List.set_cons_zero, List.set_cons_succ]
            refine wpList_run (v := .pointer (some ⟨a, 0, none⟩)) rfl (exec_move rfl rfl) ?_
            simp only [Act.put, List.setIfInBounds_toArray, List.set_cons_zero, List.set_cons_succ]
            refine wpList_run (v := .int .i64 (d : Int)) rfl (exec_move rfl rfl) ?_
            simp only [Act.put, List.setIfInBounds_toArray, List.set_cons_zero, List.set_cons_succ]
            refine wpList_run (v := .int .i64 ((d + 1 : Nat) : Int)) rfl (ix_add rfl rfl rfl (by omega) (by omega)) ?_
            simp only [Act.put, List.setIfInBounds_toArray, List.set_cons_zero, List.set_cons_succ]
            refine wpList_op (by go_simp) fun K9 HK9 => ?_
            go_wp2_with fail
            refine (name_walk (n := d + 1) (by omega) w8).mono ?_
            rintro e w9 ⟨rfl, ht⟩
            refine HK9.out _ _ ?_
            clear HK9
            try simp only [Act.put, List.setIfInBounds_toArray, List.set_cons_zero, List.set_cons_succ]
            have HQ9 := Lib.hid (HQ8.out.still ht)
            have hcd : Sf.canDone (Sf.adN d :: Sf.row (d + 1) k2) true (Sf.nameL (d + 1)) = false := by
              unfold Sf.canDone
              simp only [Bool.true_and, List.head?_cons, Option.map_some, decide_eq_false_iff_not, Option.some.injEq]
              exact HNA.out
            have HCD := Lib.hid hcd
            clear ht hcd
            refine wpList_op (by go_simp) fun K9 HK9 => ?_
            go_wp2_with fail
            refine (HQ9.out.done_is (Sf.nameL (d + 1)) (b := false) (s' := true) HCD.out (if_neg (by rw [HCD.out]; decide)) (if_neg (by rw [HCD.out]; decide))).mono ?_
            rintro e w10 ⟨rfl, hq, _⟩
            refine HK9.out _ _ ?_
            clear HK9
            try simp only [Act.put, List.setIfInBounds_toArray, List.set_cons_zero, List.set_cons_succ]
            have HQ10 := Lib.hid hq
            clear hq
            refine wpList_run (v := .bool false) (wanted_none rfl) (ix_pickF rfl rfl rfl) ?_
            simp only [Act.put, List.setIfInBounds_toArray, List.set_cons_zero, List.set_cons_succ]
            go_upto_region 29 with fail
            refine wp_region_lit ?_
            refine wpList_run (v := .pointer (some ⟨a, 0, none⟩)) (wanted_none rfl) (exec_move rfl rfl) ?_
            simp only [Act.put, List.setIfInBounds_toArray, List.set_cons_zero, List.set_cons_succ]
            refine wpList_run (v := strV (Sf.nameL d)) (wanted_none rfl) (exec_move rfl rfl) ?_
            simp only [Act.put, List.setIfInBounds_toArray, List.set_cons_zero, List.set_cons_succ]
            have hcd : Sf.canDone (Sf.adN d :: Sf.row (d + 1) k2) true (Sf.nameL d) = true := by
              unfold Sf.canDone
              simp [Sf.adN]
            have HCD2 := Lib.hid hcd
            clear hcd
            refine wpList_op (wanted_none rfl) fun K9 HK9 => ?_
            go_wp2_with fail
            refine (HQ10.out.done_is (Sf.nameL d) (b := true) (L := Sf.row (d + 1) k2) (s' := false) HCD2.out (if_pos HCD2.out) (if_pos HCD2.out)).mono ?_
            rintro e w11 ⟨rfl, hq, _⟩
            refine HK9.out _ _ ?_
            clear HK9
            try simp only [Act.put, List.setIfInBounds_toArray, List.set_cons_zero, List.set_cons_succ]
            have HQ11 := Lib.hid hq
            clear hq
            refine wpList_run (v := .bool true) (wanted_none rfl) (gx_assign rfl rfl) ?_
            simp only [Act.put, List.setIfInBounds_toArray, List.set_cons_zero, List.set_cons_succ]
            go_upto_region 30 with fail
            refine wp_region_lit ?_
            refine wpList_run (v := .bool true) (wanted_none rfl) (exec_move rfl rfl) ?_
            simp only [Act.put, List.setIfInBounds_toArray, List.set_cons_zero, List.set_cons_succ]
            refine wpList_run (v := .bool false) (wanted_none rfl) (ix_not (b := true) rfl rfl) ?_
            simp only [Act.put, List.setIfInBounds_toArray, List.set_cons_zero, List.set_cons_succ]
            go_upto_region 32 with fail
            refine wp_region_lit ?_
            refine wpList_run (v := .int .i64 (d : Int)) (wanted_none rfl) (exec_move rfl rfl) ?_
            simp only [Act.put, List.setIfInBounds_toArray, List.set_cons_zero, List.set_cons_succ]
            refine wpList_run (v := .int .i64 ((d + 1 : Nat) : Int)) (wanted_none rfl) (ix_add rfl rfl rfl (by omega) (by omega)) ?_
            simp only [Act.put, List.setIfInBounds_toArray, List.set_cons_zero, List.set_cons_succ]
            refine wpList_run (v := .int .i64 ((d + 1 : Nat) : Int)) (wanted_none rfl) (gx_assign rfl rfl) ?_
            simp only [Act.put, List.setIfInBounds_toArray, List.set_cons_zero, List.set_cons_succ]
            go_upto_region 14 with fail
            refine wp_region_lit ?_
            refine wpList_run (v := .int .i64 (j : Int)) (wanted_none rfl) (exec_move rfl rfl) ?_
            simp only [Act.put, List.setIfInBounds_toArray, List.set_cons_zero, List.set_cons_succ]
            refine wpList_run (v := .int .i64 ((j + 1 : Nat) : Int)) (wanted_none rfl) (ix_add rfl rfl rfl (by omega) (by omega)) ?_
            simp only [Act.put, List.setIfInBounds_toArray, List.set_cons_zero, List.set_cons_succ]
            refine wpList_run (v := .int .i64 ((j + 1 : Nat) : Int)) (wanted_none rfl) (gx_assign rfl rfl) ?_
            simp only [Act.put, List.setIfInBounds_toArray, List.set_cons_zero, List.set_cons_succ]
            go_wp2_with fail
            go_roundg (gk - 1)
            case measure => have := HJL.out; have := HLT.out; omega
            case rel => exact ⟨j + 1, d + 1, k2, by congr 1; omega, rfl, rfl, by have := HJL.out; have := HLT.out; omega, by have := HD2.out; omega, by have := HM2.out; omega, by have := HJB.out; omega, HQ11.out⟩
    · go_upto_region 13 with fail
      refine wp_region_lit ?_
      refine wpList_run (v := .int .i64 (j : Int)) (wanted_none rfl) (exec_move rfl rfl) ?_
      simp only [Act.put, List.setIfInBounds_toArray, List.set_cons_zero, List.set_cons_succ]
      refine wpList_run (v := .bool true) (wanted_none rfl) (ix_lss rfl rfl rfl (decide_eq_true y1)) ?_
      simp only [Act.put, List.setIfInBounds_toArray, List.set_cons_zero, List.set_cons_succ]
      refine wpList_run (v := .bool true) (wanted_none rfl) (exec_move rfl rfl) ?_
      simp only [Act.put, List.setIfInBounds_toArray, List.set_cons_zero, List.set_cons_succ]
      refine wpList_run (v := .int .i64 (d : Int)) rfl (exec_move rfl rfl) ?_
      simp only [Act.put, List.setIfInBounds_toArray, List.set_cons_zero, List.set_cons_succ]
      refine wpList_run (v := .int .i64 (n : Int)) rfl (exec_move rfl rfl) ?_
      simp only [Act.put, List.setIfInBounds_toArray, List.set_cons_zero, List.set_cons_succ]
      refine wpList_run (v := .bool false) rfl (ix_lss rfl rfl rfl (decide_eq_false (by omega))) ?_
      simp only [Act.put, List.setIfInBounds_toArray, List.set_cons_zero, List.set_cons_succ]
      refine wpList_run (v := .bool false) (wanted_none rfl) (ix_pickT rfl rfl rfl) ?_
      simp only [Act.put, List.setIfInBounds_toArray, List.set_cons_zero, List.set_cons_succ]
      go_upto_region 33 with fail
      refine wp_region_lit ?_
      refine wpList_run (v := .int .i64 (d : Int)) (wanted_none rfl) (exec_move rfl rfl) ?_
      simp only [Act.put, List.setIfInBounds_toArray, List.set_cons_zero, List.set_cons_succ]
      refine wpList_run (v := .int .i64 (n : Int)) (wanted_none rfl) (exec_move rfl rfl) ?_
      simp only [Act.put, List.setIfInBounds_toArray, List.set_cons_zero, List.set_cons_succ]
      refine wpList_run (v := .bool true) (wanted_none rfl) (ix_eql rfl rfl rfl (decide_eq_true (by have := HDK.out; omega))) ?_
      simp only [Act.put, List.setIfInBounds_toArray, List.set_cons_zero, List.set_cons_succ]
      refine wpList_run (v := .bool true) (wanted_none rfl) (exec_move rfl rfl) ?_
      simp only [Act.put, List.setIfInBounds_toArray, List.set_cons_zero, List.set_cons_succ]
      refine wpList_skip (by go_simp) ?_
      simp only [Act.put, List.setIfInBounds_toArray, List.set_cons_zero, List.set_cons_succ]
      refine wpList_skip (by go_simp) ?_
      simp only [Act.put, List.setIfInBounds_toArray, List.set_cons_zero, List.set_cons_succ]
      refine wpList_skip (by go_simp) ?_
      simp only [Act.put, List.setIfInBounds_toArray, List.set_cons_zero, List.set_cons_succ]
      refine wpList_run (v := .bool true) (wanted_none rfl) (ix_pickT rfl rfl rfl) ?_
      simp only [Act.put, List.setIfInBounds_toArray, List.set_cons_zero, List.set_cons_succ]
      refine wpList_run (v := .bool true) (wanted_none rfl) (gx_assign rfl rfl) ?_
      simp only [Act.put, List.setIfInBounds_toArray, List.set_cons_zero, List.set_cons_succ]
      go_wp2_with fail
      go_ret
      exact ⟨rfl, HQ.out.turn_⟩
  · have y1 : ¬ (j : Int) < 400 := by omega
    go_upto_region 13 with fail
    first
    | (rename_i K9 hK9; have HKC := Lib.hid hK9; clear hK9)
    | (rename_i K9 hK9 K8; have HKC := Lib.hid hK9; clear hK9)
    refine wp_region_lit ?_
    refine wpList_run (v := .int .i64 (j : Int)) (wanted_none rfl) (exec_move rfl rfl) ?_
    simp only [Act.put, List.setIfInBounds_toArray, List.set_cons_zero, List.set_cons_succ]
    refine wpList_run (v := .bool false) (wanted_none rfl) (ix_lss rfl rfl rfl (decide_eq_false y1)) ?_
    simp only [Act.put, List.setIfInBounds_toArray, List.set_cons_zero, List.set_cons_succ]
    refine wpList_run (v := .bool false) (wanted_none rfl) (exec_move rfl rfl) ?_
    simp only [Act.put, List.setIfInBounds_toArray, List.set_cons_zero, List.set_cons_succ]
    go_wp2_with fail
    refine HKC.out _ _ ?_
    clear HKC
    by_cases hdn : d = n
    · go_upto_region 33 with fail
      refine wp_region_lit ?_
      refine wpList_run (v := .int .i64 (d : Int)) (wanted_none rfl) (exec_move rfl rfl) ?_
      simp only [Act.put, List.setIfInBounds_toArray, List.set_cons_zero, List.set_cons_succ]
      refine wpList_run (v := .int .i64 (n : Int)) (wanted_none rfl) (exec_move rfl rfl) ?_
      simp only [Act.put, List.setIfInBounds_toArray, List.set_cons_zero, List.set_cons_succ]
      refine wpList_run (v := .bool true) (wanted_none rfl) (ix_eql rfl rfl rfl (decide_eq_true (by have := HDK.out; omega))) ?_
      simp only [Act.put, List.setIfInBounds_toArray, List.set_cons_zero, List.set_cons_succ]
      refine wpList_run (v := .bool true) (wanted_none rfl) (exec_move rfl rfl) ?_
      simp only [Act.put, List.setIfInBounds_toArray, List.set_cons_zero, List.set_cons_succ]
      refine wpList_skip (by go_simp) ?_
      simp only [Act.put, List.setIfInBounds_toArray, List.set_cons_zero, List.set_cons_succ]
      refine wpList_skip (by go_simp) ?_
      simp only [Act.put, List.setIfInBounds_toArray, List.set_cons_zero, List.set_cons_succ]
      refine wpList_skip (by go_simp) ?_
      simp only [Act.put, List.setIfInBounds_toArray, List.set_cons_zero, List.set_cons_succ]
      refine wpList_run (v := .bool true) (wanted_none rfl) (ix_pickT rfl rfl rfl) ?_
      simp only [Act.put, List.setIfInBounds_toArray, List.set_cons_zero, List.set_cons_succ]
      refine wpList_run (v := .bool true) (wanted_none rfl) (gx_assign rfl rfl) ?_
      simp only [Act.put, List.setIfInBounds_toArray, List.set_cons_zero, List.set_cons_succ]
      go_wp2_with fail
      go_ret
      exact ⟨rfl, HQ.out.turn_⟩
    · go_upto_region 33 with fail
      refine wp_region_lit ?_
      refine wpList_run (v := .int .i64 (d : Int)) (wanted_none rfl) (exec_move rfl rfl) ?_
      simp only [Act.put, List.setIfInBounds_toArray, List.set_cons_zero, List.set_cons_succ]
      refine wpList_run (v := .int .i64 (n : Int)) (wanted_none rfl) (exec_move rfl rfl) ?_
      simp only [Act.put, List.setIfInBounds_toArray, List.set_cons_zero, List.set_cons_succ]
      refine wpList_run (v := .bool false) (wanted_none rfl) (ix_eql rfl rfl rfl (decide_eq_false (by have := HDK.out; omega))) ?_
      simp only [Act.put, List.setIfInBounds_toArray, List.set_cons_zero, List.set_cons_succ]
      refine wpList_run (v := .bool false) (wanted_none rfl) (exec_move rfl rfl) ?_
      simp only [Act.put, List.setIfInBounds_toArray, List.set_cons_zero, List.set_cons_succ]
      refine wpList_run (v := .slice A bn bc) rfl (exec_move rfl rfl) ?_
      simp only [Act.put, List.setIfInBounds_toArray, List.set_cons_zero, List.set_cons_succ]
      refine wpList_run (v := .int .i64 (bn : Int)) rfl (gx_len rfl rfl Try.underlying48) ?_
      simp only [Act.put, List.setIfInBounds_toArray, List.set_cons_zero, List.set_cons_succ]
      refine wpList_run (v := .bool true) rfl (ix_gtr rfl rfl rfl (decide_eq_true (by have := HJB.out; have := HJL.out; omega))) ?_
      simp only [Act.put, List.setIfInBounds_toArray, List.set_cons_zero, List.set_cons_succ]
      refine wpList_run (v := .bool true) (wanted_none rfl) (ix_pickF rfl rfl rfl) ?_
      simp only [Act.put, List.setIfInBounds_toArray, List.set_cons_zero, List.set_cons_succ]
      refine wpList_run (v := .bool true) (wanted_none rfl) (gx_assign rfl rfl) ?_
      simp only [Act.put, List.setIfInBounds_toArray, List.set_cons_zero, List.set_cons_succ]
      go_wp2_with fail
      go_ret
      exact ⟨rfl, HQ.out.turn_⟩
theorem safOrder_walk (m0 n0 : Int) (A : Option Addr) (bn bc : Nat) (bs : List Bool) (W : World) (hm : -9223372036854775808 ≤ m0 ∧ m0 ≤ 9223372036854775807) (hn : -9223372036854775808 ≤ n0 ∧ n0 ≤ 9223372036854775807) (hb : Rws W 1 A bn (bs.map boolC)) :
    Calls Try.prog 4 #[.int .i64 m0, .int .i64 n0, .slice A bn bc] W fun e w' => e = .returned (.bool true) ∧ Below W.heap.size W w' :=
  (order_main m0 n0 A bn bc bs W hm hn hb).mono fun e w' ⟨h1, h2⟩ => ⟨h1, h2.below (Nat.le_refl _) fun _ _ e => e⟩
end Go.Proofs.Ytkcedcllefcboaa
