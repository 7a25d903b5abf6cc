/-
  VALUES THAT ARE BUILT OF PARTS OF SEVERAL CELLS: a slice of one element; a struct. No conditions; it imports nothing of the program.
-/
import Derived.Test.YtkcedcllefcboaaMem
import Derived.Laws.Tables
namespace Go.Proofs.Ytkcedcllefcboaa
open Go.RowKit
theorem splice_at : ∀ (l : List Value) (k off : Nat) (cells : Array Value), ((l.zipIdx k).foldl (fun cs (x : Value × Nat) => cs.setIfInBounds (off + x.2) x.1) cells).size = cells.size ∧
    ∀ j, ((l.zipIdx k).foldl (fun cs (x : Value × Nat) => cs.setIfInBounds (off + x.2) x.1) cells)[j]? = if off + k ≤ j ∧ j < off + k + l.length ∧ j < cells.size then l[j - (off + k)]? else cells[j]?
  | [], k, off, cells => ⟨rfl, fun j => by
      rw [if_neg (by simp; omega)]
      rfl⟩
  | v :: r, k, off, cells => by
    simp only [List.zipIdx_cons, List.foldl_cons]
    obtain ⟨h1, h2⟩ := splice_at r (k + 1) off (cells.setIfInBounds (off + k) v)
    refine ⟨by rw [h1, Array.size_setIfInBounds], fun j => ?_⟩
    rw [h2, Array.size_setIfInBounds, List.length_cons]
    by_cases e : j = off + k
    · subst e
      rw [if_neg (by omega), Array.getElem?_setIfInBounds]
      by_cases hs : off + k < cells.size
      · rw [if_pos rfl, if_pos hs, if_pos ⟨by omega, by omega, hs⟩, Nat.sub_self]
        rfl
      · rw [if_pos rfl, if_neg hs, if_neg (by omega), Array.getElem?_eq_none (by omega)]
    · by_cases c : off + (k + 1) ≤ j ∧ j < off + (k + 1) + r.length ∧ j < cells.size
      · rw [if_pos c, if_pos ⟨by omega, by omega, c.2.2⟩, show j - (off + k) = (j - (off + (k + 1))) + 1 from by omega, List.getElem?_cons_succ]
      · rw [if_neg c, Array.getElem?_setIfInBounds, if_neg (fun h => e h.symm)]
        rw [if_neg (by omega)]
theorem splice_all (vs cells : Array Value) (h : vs.size = cells.size) : vs.zipIdx.foldl (fun cs (x : Value × Nat) => cs.setIfInBounds (0 + x.2) x.1) cells = vs := by
  have hz : vs.zipIdx = (vs.toList.zipIdx 0).toArray := by
    apply Array.ext'
    simp [Array.toList_zipIdx]
  rw [hz, List.foldl_toArray]
  obtain ⟨h1, h2⟩ := splice_at vs.toList 0 0 cells
  apply Array.ext_getElem?
  intro j
  rw [h2]
  by_cases hj : j < vs.size
  · rw [if_pos ⟨by omega, by simpa using hj, by omega⟩]
    simp
  · rw [if_neg (by simp; omega), Array.getElem?_eq_none (by omega), Array.getElem?_eq_none (by omega)]
theorem run_buildSlice_one {P : Program} {t e : TypeId} {i : TypeInfo} {z v : Value} (ht : P.underlying t = some (.slice e)) (hi : P.info? e = some i) (hz : i.zero = some z) (hs : v.cells.size = i.size) (hzs : z.cells.size = i.size)
    (h0 : 0 < i.size) (hsm : i.size ≤ 16777216) (w : World) :
    (Instr.buildSlice t 1 #[(0, v)]).run P w = .ok (.slice (some ⟨w.heap.size, 0, none⟩) 1 1) (w.alloc (.cells v.cells e)) := by
  have hfill : Instr.fill (fun j => some (j * i.size, i.size)) ((Array.range (1 * i.size)).map (z.cells[· % z.cells.size]!)) [(0, v)] = some v.cells := by
    unfold Instr.fill
    simp only [Nat.zero_mul, hs, Nat.one_mul, Array.size_map, Array.size_range, Nat.zero_add]
    rw [if_neg (by simp)]
    unfold Instr.fill
    congr 1
    have := splice_all v.cells (Array.map (fun x => z.cells[x % z.cells.size]!) (Array.range i.size)) (by simp [hs])
    simpa using this
  have g1 : ¬ (16777216 < i.size) := by omega
  have g2 : i.size ≠ 0 := by omega
  simp only [Nat.one_mul] at hfill
  simp [Instr.buildSlice, run_underlying ht, sizeOf, typeInfo, zeroValue, hi, hz, g1, g2, hfill, newRow]
theorem wpList_buildSlice_one {P : Program} {ops : Array Oper} {rest : List Oper} {o : Oper} {a : Act} {w : World} {Q : Exit → Act → World → Prop} (hgd : Region.wanted o (yielded ops a.tmps) = true) (x : Operand) (t : TypeId)
    (ho : o.op = Op.buildSlice t 1 #[(0, x)]) (v : Value) (hx : a.eval x = v) {e : TypeId} {i : TypeInfo} {z : Value} (ht : P.underlying t = some (.slice e)) (hi : P.info? e = some i) (hz : i.zero = some z) (hs : v.cells.size = i.size)
    (hzs : z.cells.size = i.size) (h0 : 0 < i.size) (hsm : i.size ≤ 16777216)
    (h : wpList P ops Q rest (a.put o.dst (.slice (some ⟨w.heap.size, 0, none⟩) 1 1)) (w.alloc (.cells v.cells e))) : wpList P ops Q (o :: rest) a w :=
  wpList_step fun K hK => by
    rw [if_pos hgd]
    unfold Oper.wp execOp
    simp only [ho, List.map_toArray, List.map_cons, List.map_nil, hx, run_buildSlice_one ht hi hz hs hzs h0 hsm w, Sem.run_bind, Sem.run_pure, Result.andThen_ok]
    exact hK _ _ h
end Go.Proofs.Ytkcedcllefcboaa
