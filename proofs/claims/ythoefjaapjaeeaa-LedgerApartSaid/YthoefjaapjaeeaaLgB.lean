/-
  Ledgers: operations on sums of 128 bits; sign, plus, fits, below, has, Len: the walks. No conditions.
-/
import Derived.Test.YthoefjaapjaeeaaLgM
import Derived.Test.YthoefjaapjaeeaaLgA
import Derived.Test.YthoefjaapjaeeaaGno
import Derived.Laws.Externs
namespace Go.Proofs.Ythoefjaapjaeeaa
open Go.RowKit
open Lg (Ent)
set_option linter.unusedVariables false
set_option linter.unusedSimpArgs false
section
variable {a : Act} {o : Oper} {W : World} {x y : Operand} {i j : Int}
theorem ix_shr63 {tu : TypeId} (ho : o.op = .binOp .shr 3 x (.const (.int .u64 63)) tu) (hx : a.eval x = .int .i64 i) (hi : Mn.in64 i) : (execOp a.eval o).run Try.prog W = .ok (.value (.int .i64 (if i < 0 then -1 else 0))) W := by
  have e : i / 9223372036854775808 = (if i < 0 then -1 else 0) := by
    unfold Mn.in64 at hi
    split <;> omega
  unfold execOp
  simp only [ho, hx]
  go_simp
  try exact e
theorem ix_cvtu (ho : o.op = .convert 3 61 x) (hx : a.eval x = .int .i64 i) : (execOp a.eval o).run Try.prog W = .ok (.value (.int .u64 (i % 18446744073709551616))) W := by
  unfold execOp
  simp only [ho, hx]
  go_simp
  first | rfl | (rw [IntKind.wrap_u64])
theorem ix_cvti (ho : o.op = .convert 61 3 x) (hx : a.eval x = .int .u64 i) : (execOp a.eval o).run Try.prog W = .ok (.value (.int .i64 (Lg.wr i))) W := by
  unfold execOp
  simp only [ho, hx]
  go_simp
  unfold Lg.wr
  rw [IntKind.wrap_i64]
theorem ix_addw (ho : o.op = .binOp .add 3 x y 3) (hx : a.eval x = .int .i64 i) (hy : a.eval y = .int .i64 j) : (execOp a.eval o).run Try.prog W = .ok (.value (.int .i64 (Lg.wr (i + j)))) W := by
  have hw : IntKind.i64.wrap (i + j) = Lg.wr (i + j) := by unfold Lg.wr; rw [IntKind.wrap_i64]
  unfold execOp
  simp only [ho, hx, hy]
  go_simp
  try exact hw
theorem exec_add64 {u v : Int} {z : Operand} {ts : Array TypeId} (ho : o.op = .call { callee := .value (.func 35), args := #[x, y, z], argTypes := ts }) (hx : a.eval x = .int .u64 u) (hy : a.eval y = .int .u64 v) (hz : a.eval z = .int .u64 0) (hu : 0 ≤ u) (hv : 0 ≤ v) :
    (execOp a.eval o).run Try.prog W = .ok (.value (.tuple #[.int .u64 ((u + v) % 18446744073709551616), .int .u64 ((u + v) / 18446744073709551616)])) W := by
  have h : (callFunc 35 #[.int .u64 u, .int .u64 v, .int .u64 0]).run Try.prog W = .ok (.value (.tuple #[.int .u64 ((u + v) % 18446744073709551616), .int .u64 ((u + v) / 18446744073709551616)])) W := by
    rw [run_callFunc_extern Try.func35 (by kernel_rfl) (by kernel_rfl) (by kernel_rfl) (e := add64Entry) (by kernel_rfl), run_add64 u v 0 hu hv (by decide) (by decide)]
    rw [Int.add_zero]
    rfl
  unfold execOp
  simp only [ho, resolve, invoke, Sem.run_bind, Sem.run_pure, Result.andThen_ok, List.map_toArray, List.map_cons, List.map_nil, hx, hy, hz]
  rw [show a.eval (Operand.func 35) = .func (.func 35) #[] #[] from rfl]
  simp [Deferred.ofValue, h]
end
def sgn (n : Int) : Int := if n < 0 then -1 else 0
theorem sgn_in (n : Int) : Mn.in64 (sgn n) := by unfold sgn Mn.in64; split <;> omega
theorem sign_walk {n : Int} (w : World) (hn : Mn.in64 n) : Calls Try.prog 36 #[.int .i64 n] w fun e w' => e = .returned (.int .i64 (sgn n)) ∧ w' = w := by
  have HN := Lib.hid hn
  clear hn
  go_enter Try.func36, Try.ntmps36
  go_upto_region 0 with fail
  refine wp_region_lit ?_
  refine wpList_run (v := .int .i64 0) (wanted_none rfl) (gx_assign rfl rfl) ?_
  simp only [Act.put, List.setIfInBounds_toArray, List.set_cons_zero, List.set_cons_succ]
  go_upto_region 1 with fail
  refine wp_region_lit ?_
  refine wpList_run (v := .int .i64 n) (wanted_none rfl) (exec_move rfl rfl) ?_
  simp only [Act.put, List.setIfInBounds_toArray, List.set_cons_zero, List.set_cons_succ]
  refine wpList_run (v := .int .i64 (sgn n)) (wanted_none rfl) (ix_shr63 rfl rfl HN.out) ?_
  simp only [Act.put, List.setIfInBounds_toArray, List.set_cons_zero, List.set_cons_succ]
  refine wpList_run (v := .int .i64 (sgn n)) (wanted_none rfl) (gx_assign rfl rfl) ?_
  simp only [Act.put, List.setIfInBounds_toArray, List.set_cons_zero, List.set_cons_succ]
  go_wp2_with fail
  go_ret
  exact ⟨rfl, rfl⟩
theorem below_walk {n m : Int} (w : World) : Calls Try.prog 29 #[.int .i64 n, .int .i64 m] w fun e w' => e = .returned (.bool (decide (0 ≤ n) && decide (n < m))) ∧ w' = w := by
  go_enter Try.func29, Try.ntmps29
  rcases (by omega : (0 ≤ n ∧ n < m) ∨ n < 0 ∨ (0 ≤ n ∧ ¬ n < m)) with h | h | h
  all_goals go_wp2
  all_goals (go_ret; refine ⟨?_, rfl⟩)
  all_goals (refine congrArg (fun b => Ending.returned (Value.bool b)) ?_)
  all_goals (first | (simp; omega) | simp)
def exC (z : Int) (k : Nat) : Value := if k = 0 then .int .i64 (Lg.exH z) else .int .u64 (Lg.exL z)
def exA (z : Int) : Array Value := #[.int .i64 (Lg.exH z), .int .u64 (Lg.exL z)]
theorem exA_one (z : Int) : ∀ v ∈ (exA z).toList, v.oneCell' = true := fun v hv => by
  unfold exA at hv
  simp only [List.mem_cons, List.not_mem_nil, or_false] at hv
  rcases hv with rfl | rfl <;> rfl
theorem size_ex : (Try.prog.info? 63).map (·.size) = some 2 := by kernel_rfl
theorem zero_ex (w : World) : (zeroValue 63).run Try.prog w = .ok (.agg #[.int .i64 0, .int .u64 0]) w := by kernel_rfl
theorem build_ex0 (W : World) : (Instr.build 63 #[]).run Try.prog W = .ok (.agg (exA 0)) W := by kernel_rfl
theorem build_ex (h u : Int) (W : World) : (Instr.build 63 #[(0, .int .i64 h), (1, .int .u64 u)]).run Try.prog W = .ok (.agg #[.int .i64 h, .int .u64 u]) W := by kernel_rfl
theorem box_ex (z : Int) (w : World) : (Instr.box 63 (.agg (exA z))).run Try.prog w = .ok (.pointer (some ⟨w.heap.size, 0, none⟩)) (w.alloc (.cells (exA z) 63)) := by
  simp [Instr.box, newVar, newRow, Result.andThen, Value.cells]
end Go.Proofs.Ythoefjaapjaeeaa
