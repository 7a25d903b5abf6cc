/-
  Index: pairs and pointers as elements of rows; operations in general. No conditions.
-/
import Derived.Test.YtmlkdkbpbleilaaGrd
import Derived.Test.YtmlkdkbpbleilaaAwk
import Derived.Test.YtmlkdkbpbleilaaIop
import Derived.Test.YtmlkdkbpbleilaaStr
import Derived.Test.YtmlkdkbpbleilaaIxJ
import Derived.Laws.EntriesVeiled
import Derived.Laws.IdiomStrings
import Derived.Laws.Strings
import Derived.Laws.Slices
import Derived.Laws.Concat
import Derived.Laws.Strings3
import Derived.Deep.Cut
import Derived.Deep.LoopGhost
import Derived.WalkSmall
import Derived.Deep.QuietTactic
import Derived.BigQuiet
import Derived.StillTailTactics
import Derived.Lib.Hide
import Derived.Laws.Bits64
namespace Go.Proofs.Ytmlkdkbpbleilaa
open Go.RowKit
set_option linter.unusedVariables false
set_option linter.unusedSimpArgs false
/-- a pair's cells; a kid's -/
def encP (p : Ix.Pr) : List Value := [strV p.1, .int .i64 p.2]
def encK (k : Nat) : List Value := [.pointer (some ⟨k, 0, none⟩)]
theorem encP_len (p : Ix.Pr) : (encP p).length = 2 := rfl
theorem encK_len (k : Nat) : (encK k).length = 1 := rfl
theorem encP_one (p : Ix.Pr) : ∀ u ∈ encP p, u.oneCell' = true := fun u hu => by
  simp [encP] at hu
  rcases hu with rfl | rfl <;> rfl
theorem encK_one (k : Nat) : ∀ u ∈ encK k, u.oneCell' = true := fun u hu => by
  simp [encK] at hu
  subst hu; rfl
theorem elmP : Elm Try.prog 59 65 2 24 (.agg #[.string ByteArray.empty, .int .i64 0]) := ⟨Try.underlying59, by kernel_rfl, rfl, by decide, by decide⟩
theorem elmK : Elm Try.prog 60 56 1 8 (.pointer none) := ⟨Try.underlying60, by kernel_rfl, rfl, by decide, by decide⟩
theorem zvP (w : World) : (zeroValue 65).run Try.prog w = .ok (.agg #[.string ByteArray.empty, .int .i64 0]) w := by kernel_rfl
theorem zvK (w : World) : (zeroValue 56).run Try.prog w = .ok (.pointer none) w := by kernel_rfl
theorem zvP_one : ∀ u ∈ (Value.agg #[.string ByteArray.empty, .int .i64 0]).cells.toList, u.oneCell' = true := fun u hu => by
  have hu : u ∈ [Value.string ByteArray.empty, Value.int .i64 0] := hu
  simp at hu
  rcases hu with rfl | rfl <;> rfl
theorem zvK_one : ∀ u ∈ (Value.pointer none).cells.toList, u.oneCell' = true := fun u hu => by
  have hu : u ∈ [Value.pointer none] := hu
  simp at hu
  subst hu; rfl
theorem size_pair : (Try.prog.info? 65).map (·.size) = some 2 := by kernel_rfl
theorem size_node : (Try.prog.info? 62).map (·.size) = some 2 := by kernel_rfl
theorem size_ptr : (Try.prog.info? 56).map (·.size) = some 1 := by kernel_rfl
theorem size_sP : (Try.prog.info? 59).map (·.size) = some 1 := by kernel_rfl
theorem size_sK : (Try.prog.info? 60).map (·.size) = some 1 := by kernel_rfl
theorem fitP (l : List Ix.Pr) : Fit 2 (l.map encP) := fun r hr => by
  obtain ⟨p, _, rfl⟩ := List.mem_map.1 hr
  exact ⟨rfl, encP_one p⟩
theorem fitK (l : List Nat) : Fit 1 (l.map encK) := fun r hr => by
  obtain ⟨p, _, rfl⟩ := List.mem_map.1 hr
  exact ⟨rfl, encK_one p⟩
/-- what a call does to a row that it hands back: only its block turns, or a new one is made -/
def RowTo (w : World) (v : Value) (w' : World) (v' : Value) : Prop := Turn (fun b => v.ownBlock = some b) w w' ∧ ∀ b, v'.ownBlock = some b → v.ownBlock = some b ∨ w.heap.size ≤ b
theorem rws_blk {w : World} {g k : Nat} {t : TypeId} {x : List Value} (hx : Blk w g t x.toArray) (hk : x.length = k) : Rws w k (some ⟨g, 0, none⟩) 1 [x] := by
  refine ⟨rfl, fun y hy => ?_, by omega, fun _ => ⟨_, _, rfl, fun i y hy j u hu => ?_⟩⟩
  · obtain rfl : y = x := by simpa using hy
    exact hk
  · have hi : i = 0 := by
      have := (List.getElem?_eq_some_iff.1 hy).1
      simpa using this
    subst hi
    obtain rfl : x = y := by simpa using hy
    rw [hx.cell, Nat.zero_mul, Nat.zero_add]
    simpa using hu
theorem wanted_none {o : Oper} {y : Nat → Option Bool} (h : o.guard = none) : Region.wanted o y = true := by
  unfold Region.wanted
  rw [h]
theorem wpList_op {P : Program} {ops : Array Oper} {rest : List Oper} {o : Oper} {a : Act} {w : World} {Q : Exit → Act → World → Prop} (hgd : Region.wanted o (yielded ops a.tmps) = true) (h : ∀ K : Act → World → Prop, Hid (∀ a' w', wpList P ops Q rest a' w' → K a' w') → o.wp P a w K Q) : wpList P ops Q (o :: rest) a w :=
  wpList_step fun K hK => by
    rw [if_pos hgd]
    exact h K (Lib.hid hK)
section
variable {P : Program} {a : Act} {o : Oper} {W W' : World}
theorem gx_cap {x : Operand} {A : Option Addr} {n c : Nat} {t e : TypeId} (ho : o.op = .call { callee := .builtin .cap, args := #[x], argTypes := #[t] }) (hx : a.eval x = .slice A n c) (ht : P.underlying t = some (.slice e)) :
    (execOp a.eval o).run P W = .ok (.value (.int .i64 (c : Int))) W := by
  unfold execOp
  simp [ho, resolve, invoke, builtin, hx, Builtin.cap_, run_underlying ht, goInt]
theorem exec_copy {t : TypeId} {x y : Operand} {u v r : Value} (ho : o.op = .call { callee := .builtin .copy, args := #[x, y], argTypes := #[t, t] }) (hx : a.eval x = u) (hy : a.eval y = v) (hr : (Builtin.copy_ #[t, t] o.type #[u, v]).run P W = .ok r W') :
    (execOp a.eval o).run P W = .ok (.value r) W' := by
  unfold execOp
  simp only [ho, resolve, invoke, builtin, Sem.run_bind, Sem.run_pure, Result.andThen_ok, List.map_toArray, List.map_cons, List.map_nil, hx, hy, hr]
theorem exec_clear {t : TypeId} {x : Operand} {u r : Value} (ho : o.op = .call { callee := .builtin .clear, args := #[x], argTypes := #[t] }) (hx : a.eval x = u) (hr : (Builtin.clear_ #[t] o.type #[u]).run P W = .ok r W') :
    (execOp a.eval o).run P W = .ok (.value r) W' := by
  unfold execOp
  simp only [ho, resolve, invoke, builtin, Sem.run_bind, Sem.run_pure, Result.andThen_ok, List.map_toArray, List.map_cons, List.map_nil, hx, hr]
theorem exec_appz {t u : TypeId} {x y : Operand} {p v r : Value} (ho : o.op = .call { callee := .builtin .append, args := #[x, y], argTypes := #[t, u] }) (hx : a.eval x = p) (hy : a.eval y = v) (hr : (Builtin.append_ #[t, u] o.type #[p, v]).run P W = .ok r W') :
    (execOp a.eval o).run P W = .ok (.value r) W' := by
  unfold execOp
  simp only [ho, resolve, invoke, builtin, Sem.run_bind, Sem.run_pure, Result.andThen_ok, List.map_toArray, List.map_cons, List.map_nil, hx, hy, hr]
theorem gx_loads {ty : TypeId} {x : Operand} {b off : Nat} {cs : List Value} {d : TypeDesc} (ho : o.op = .load ty x) (hx : a.eval x = .pointer (some ⟨b, off, none⟩)) (hr : W.rangeAt b off cs)
    (hu : P.underlying ty = some d) (hd : d.isRow = true) (hi : (P.info? ty).map (·.size) = some cs.length) : (execOp a.eval o).run P W = .ok (.value (.agg cs.toArray)) W :=
  exec_load ho hx (run_loadAt_mid W b off ty cs d hr hu hd hi)
end
theorem blk_range {W : World} {g : Nat} {t : TypeId} {cs : Array Value} (h : Blk W g t cs) : W.rangeAt g 0 cs.toList := fun j v hj => by
  rw [Nat.zero_add, h.cell j]
  simpa using hj
/-- an element of a row -/
theorem Orw.el {w : World} {B b k n c : Nat} {et : TypeId} {rs : List (List Value)} (h : Orw w B et k (.slice (some ⟨b, 0, none⟩) n c) rs) {i : Nat} {r : List Value} (hr : rs[i]? = some r) : w.rangeAt b (i * k) r := fun j u hu => by
  have hk := (h.1 r (List.mem_of_getElem? hr)).1
  have hj : j < k := by
    have := (List.getElem?_eq_some_iff.1 hu).1
    rwa [hk] at this
  have hf := flat_at h.1 hr hj
  rw [hu] at hf
  have := World.ownsRow.cells (g := b) h.2 rfl (i * k + j) u hf
  rwa [add_nat, Nat.zero_add] at this
/-- a row that holds something lies somewhere -/
theorem Orw.some_ {w : World} {B k : Nat} {et : TypeId} {v : Value} {rs : List (List Value)} (h : Orw w B et k v rs) (h0 : 0 < rs.length) : ∃ b c, v = .slice (some ⟨b, 0, none⟩) rs.length c ∧ rs.length ≤ c ∧ c ≤ maxLen := by
  rcases h.2.2 with ⟨rfl, h1⟩ | ⟨g, cap, cur, rfl, hb1, hg, h1, h2, _⟩
  · omega
  · exact ⟨g, cap, rfl, h1, h2⟩
/-- s[i:j:len(s)], whose value nobody reads -/
theorem sl_three {P : Program} {st et : TypeId} {k by_ : Nat} {z : Value} (E : Elm P st et k by_ z) (A : Option Addr) (n c i j : Nat) (hij : i ≤ j) (hj : j ≤ n) (hc : n ≤ c) (W : World) : ∃ v, (Instr.sliceAt st (.slice A n c) (some (.int .i64 (i : Int))) (some (.int .i64 (j : Int))) (some (.int .i64 (n : Int)))).run P W = .ok v W := by
  obtain ⟨i0, hi1, hi2⟩ := E.size
  have hu := E.und
  have b1 : (0 : Int) ≤ (i : Int) ∧ (i : Int) ≤ (j : Int) := ⟨by omega, by omega⟩
  have b2 : (0 : Int) ≤ (j : Int) ∧ (j : Int) ≤ (n : Int) := ⟨by omega, by omega⟩
  have b3 : (0 : Int) ≤ (n : Int) ∧ (n : Int) ≤ (c : Int) := ⟨by omega, by omega⟩
  refine ⟨.slice (fromK k A n i) (j - i) (n - i), ?_⟩
  simp [Instr.sliceAt, Instr.slice, Instr.sliceBounds, Instr.sliceBound, asIntOf, run_underlying hu, sizeOf, typeInfo, hi1, hi2, b1, b2, b3, fromK]
  rw [if_pos hc, if_pos hj, if_pos hij]
theorem exec_eqnil {P : Program} {a : Act} {o : Oper} {W : World} {t u e : TypeId} {x y : Operand} {A : Option Addr} {n c : Nat} (ho : o.op = .binOp .eql t x y u) (hx : a.eval x = .slice A n c) (hy : a.eval y = .slice none 0 0) (ht : P.underlying t = some (.slice e)) {r : Bool} (hr : A.isNone = r) :
    (execOp a.eval o).run P W = .ok (.value (.bool r)) W := by
  subst hr
  unfold execOp
  have h : (Op.equal t (.slice A n c) (.slice none 0 0)).run P W = .ok A.isNone W := by
    have key : ∀ d : Nat, (Op.equalIn (d + 1) t (.slice A n c) (.slice none 0 0)).run P W = .ok A.isNone W := fun d => by cases A <;> simp [Op.equalIn, run_underlying ht]
    exact key 9999
  simp [ho, hx, hy, eqGuard, binOp, h]
/-- s[m:n] -/
theorem sl_mid {P : Program} {st et : TypeId} {k by_ : Nat} {z : Value} (E : Elm P st et k by_ z) (A : Option Addr) (m n c : Nat) (hm : m ≤ n) (hc : n ≤ c) (W : World) : (Instr.sliceAt st (.slice A m c) (some (.int .i64 (m : Int))) (some (.int .i64 (n : Int))) none).run P W = .ok (.slice (fromK k A c m) (n - m) (c - m)) W := by
  obtain ⟨i0, hi1, hi2⟩ := E.size
  have hu := E.und
  have b1 : (0 : Int) ≤ (m : Int) ∧ (m : Int) ≤ (n : Int) := ⟨by omega, by omega⟩
  have b2 : (0 : Int) ≤ (n : Int) ∧ (n : Int) ≤ (c : Int) := ⟨by omega, by omega⟩
  simp [Instr.sliceAt, Instr.slice, Instr.sliceBounds, Instr.sliceBound, asIntOf, run_underlying hu, sizeOf, typeInfo, hi1, hi2, b1, b2, fromK]
  rw [if_pos hc, if_pos hm]
theorem build0P (w : World) : (Instr.buildSlice 59 0 #[]).run Try.prog w = .ok (.slice (some ⟨w.heap.size, 0, none⟩) 0 0) (w.alloc (.cells #[] 65)) := by kernel_rfl
theorem build0K (w : World) : (Instr.buildSlice 60 0 #[]).run Try.prog w = .ok (.slice (some ⟨w.heap.size, 0, none⟩) 0 0) (w.alloc (.cells #[] 56)) := by kernel_rfl
end Go.Proofs.Ytmlkdkbpbleilaa
