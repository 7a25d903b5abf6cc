/-
  Rows of elements of any number of cells: a part of a slice, copies into the middle, an element's address, a load of a whole element. No conditions; it imports nothing of the program.
-/
import Derived.Test.YtkcedcllefcboaaGrw
import Derived.Test.YtkcedcllefcboaaGen
import Derived.Laws.CopyRow
import Derived.Lib.AppendZerosOnto
import Derived.Lib.Overlaps
import Derived.Laws.Externs
namespace Go.Proofs.Ytkcedcllefcboaa
open Go.RowKit
set_option linter.unusedVariables false
set_option linter.unusedSimpArgs false
section
variable {α : Type}
theorem sg_take (l cs : List α) (o : Nat) (h : o + cs.length ≤ l.length) : (l.take o ++ cs ++ l.drop (o + cs.length)).take (o + cs.length) = l.take o ++ cs := by
  rw [List.take_append_of_le_length (by rw [List.length_append, List.length_take]; omega)]
  exact List.take_of_length_le (by rw [List.length_append, List.length_take]; omega)
theorem sg_len (l cs : List α) (o : Nat) (h : o + cs.length ≤ l.length) : (l.take o ++ cs ++ l.drop (o + cs.length)).length = l.length := by
  rw [List.length_append, List.length_append, List.length_take, List.length_drop]
  omega
end
section
variable {P : Program} {st et : TypeId} {k by_ : Nat} {z : Value}
theorem Elm.size (E : Elm P st et k by_ z) : ∃ i, P.info? et = some i ∧ i.size = k := by
  obtain ⟨i0, hi0, _, hz1, _⟩ := info_parts E.inf
  exact ⟨i0, hi0, hz1⟩
theorem Elm.sizeM (E : Elm P st et k by_ z) : (P.info? et).map (·.size) = some k := by
  obtain ⟨i, h1, h2⟩ := E.size
  rw [h1, ← h2]
  rfl
/-- s[:e] -/
theorem sl_to (E : Elm P st et k by_ z) (A : Option Addr) (n c e : Nat) (hc : e ≤ c) (W : World) : (Instr.sliceAt st (.slice A n c) none (some (.int .i64 (e : Int))) none).run P W = .ok (.slice A e c) W := by
  obtain ⟨i, hi1, hi2⟩ := E.size
  have b1 : (0 : Int) ≤ (e : Int) ∧ (e : Int) ≤ (c : Int) := ⟨by omega, by omega⟩
  simp [Instr.sliceAt, Instr.slice, Instr.sliceBounds, Instr.sliceBound, asIntOf, run_underlying E.und, sizeOf, typeInfo, hi1, b1]
  rw [if_pos (show e ≤ c by omega)]
  cases A <;> simp [Addr.add]
def fromK (k : Nat) (A : Option Addr) (c d : Nat) : Option Addr := if c = d then A else A.map (·.add (d * k))
/-- s[d:] -/
theorem sl_from (E : Elm P st et k by_ z) (A : Option Addr) (n c d : Nat) (h0 : d ≤ n) (hc : n ≤ c) (W : World) : (Instr.sliceAt st (.slice A n c) (some (.int .i64 (d : Int))) none none).run P W = .ok (.slice (fromK k A c d) (n - d) (c - d)) W := by
  obtain ⟨i, hi1, hi2⟩ := E.size
  have b1 : (0 : Int) ≤ (d : Int) ∧ (d : Int) ≤ (n : Int) := ⟨by omega, by omega⟩
  simp [Instr.sliceAt, Instr.slice, Instr.sliceBounds, Instr.sliceBound, asIntOf, run_underlying E.und, sizeOf, typeInfo, hi1, hi2, b1, fromK]
  intro h
  omega
theorem fromK_at {g o c d : Nat} (h : d < c) : fromK k (some ⟨g, o, none⟩) c d = some ⟨g, o + d * k, none⟩ := by
  unfold fromK
  rw [if_neg (by omega)]
  show some ((⟨g, o, none⟩ : Addr).add (d * k)) = _
  rw [add_nat]
theorem rws_to {w : World} {A : Option Addr} {n e : Nat} {rs : List (List Value)} (h : Rws w k A n rs) (he : e ≤ n) : Rws w k A e (rs.take e) := by
  obtain ⟨h1, h2, h3, h4⟩ := h
  refine ⟨by rw [List.length_take]; omega, fun r hr => h2 r (List.mem_of_mem_take hr), by omega, fun hp => ?_⟩
  obtain ⟨b, off, e1, hc⟩ := h4 (by omega)
  refine ⟨b, off, e1, fun i r hr j v hv => hc i r ?_ j v hv⟩
  rw [List.getElem?_take] at hr
  split at hr
  · exact hr
  · cases hr
theorem rws_from {w : World} {A : Option Addr} {n c d : Nat} {rs : List (List Value)} (h : Rws w k A n rs) (hd : d ≤ n) (hc : n ≤ c) : Rws w k (fromK k A c d) (n - d) (rs.drop d) := by
  obtain ⟨h1, h2, h3, h4⟩ := h
  refine ⟨by rw [List.length_drop]; omega, fun r hr => h2 r (List.mem_of_mem_drop hr), by omega, fun hp => ?_⟩
  obtain ⟨b, off, rfl, hcell⟩ := h4 (by omega)
  rw [fromK_at (by omega)]
  refine ⟨_, _, rfl, fun i r hr j v hv => ?_⟩
  rw [List.getElem?_drop] at hr
  have := hcell (d + i) r hr j v hv
  rw [show off + d * k + i * k + j = off + (d + i) * k + j from by rw [Nat.add_mul]; omega]
  exact this
/-- an element's address -/
theorem el_addr (E : Elm P st et k by_ z) {a : Act} {o : Oper} {W : World} {x y : Operand} {b off n c i : Nat} {kd : IntKind} (ho : o.op = .indexAddr st x y) (hx : a.eval x = .slice (some ⟨b, off, none⟩) n c) (hy : a.eval y = .int kd (i : Int)) (hi : i < n) :
    (execOp a.eval o).run P W = .ok (.value (.pointer (some ⟨b, off + i * k, none⟩))) W := gx_iaddr ho hx hy E.und E.sizeM hi rfl
/-- a copy into the middle of a block -/
theorem run_copyK (E : Elm P st et k by_ z) {w : World} {ty : TypeId} {g o dLen dCap sLen sCap : Nat} {a : Addr} {cur : Array Value} {cs : List Value} (hg : Blk w g et cur) (hn : cs.length = Nat.min sLen dLen * k)
    (hsrc : ∀ j v, cs[j]? = some v → w.cell? (a.add j) = some v) (hfit : o + cs.length ≤ cur.size) (h1 : ∀ v ∈ cs, v.oneCell' = true) :
    (Builtin.copy_ #[st, st] ty #[.slice (some ⟨g, o, none⟩) dLen dCap, .slice (some a) sLen sCap]).run P w = .ok (goInt (Nat.min sLen dLen)) (w.setRow g (cur.toList.take o ++ cs ++ cur.toList.drop (o + cs.length)).toArray) := by
  obtain ⟨i0, hi0, hz0, hz1, hz2⟩ := info_parts E.inf
  have hl := run_loadCells_list (P := P) w a cs hsrc
  have hst := run_storeCells_at (P := P) g o et cs 0 cur w hg (by simpa using hfit) h1
  rw [hn] at hl
  simp [Builtin.copy_, run_underlying E.und, Builtin.lenOf, Builtin.firstCells, sizeOf, typeInfo, hi0, hz1, hl, hst]
end
end Go.Proofs.Ytkcedcllefcboaa
