/-
  Operations in general, more of them: a new variable that is stored into at once, slices built of some elements, worlds one behind the other. No conditions; it imports nothing of the program.
-/
import Derived.Test.YtkcedcllefcboaaGen
import Derived.Test.YtkcedcllefcboaaAlw
namespace Go.Proofs.Ytkcedcllefcboaa
open Go.RowKit
set_option linter.unusedVariables false
set_option linter.unusedSimpArgs false
theorem wpList_new {P : Program} {ops : Array Oper} {rest : List Oper} {o1 o2 : Oper} {a : Act} {w : World} {Q : Exit → Act → World → Prop} {zs : Array Value} (ty : TypeId) (x y : Operand) (cells : Array Value)
    (hg1 : Region.wanted o1 (yielded ops a.tmps) = true) (ho1 : o1.op = .alloc ty) (hz : (zeroValue ty).run P w = .ok (.agg zs) w) (hzs : (Value.agg zs).cells = zs)
    (hg2 : Region.wanted o2 (yielded ops (a.put o1.dst (.pointer (some ⟨w.heap.size, 0, none⟩))).tmps) = true) (ho2 : o2.op = .store ty x y)
    (hx : (a.put o1.dst (.pointer (some ⟨w.heap.size, 0, none⟩))).eval x = .pointer (some ⟨w.heap.size, 0, none⟩)) (hy : (a.put o1.dst (.pointer (some ⟨w.heap.size, 0, none⟩))).eval y = .agg cells)
    (hs : zs.size = cells.size) (hi : (P.info? ty).map (·.size) = some cells.size) (h1 : ∀ v ∈ cells.toList, v.oneCell' = true)
    (h : ∀ w' g, w.heap.size ≤ g → Blk w' g ty cells → Turn nowhere w w' → wpList P ops Q rest ((a.put o1.dst (.pointer (some ⟨g, 0, none⟩))).put o2.dst undef) w') : wpList P ops Q (o1 :: o2 :: rest) a w := by
  have hb := Blk.new w ty (Value.agg zs).cells
  have hu := (Turn.refl nowhere w).alloc (.cells (Value.agg zs).cells ty)
  refine wpList_run hg1 (gx_alloc ho1 hz) ?_
  refine wpList_store_row hg2 ty x y ho2 cells hb hx hy (by rw [hzs]; exact hs) hi h1 fun w' hb' hu' => ?_
  refine h w' _ (Nat.le_refl _) hb' (hu.trans hu' fun k hk e => ?_)
  have e : k = w.heap.size := e
  omega
theorem bx_slice3 {P : Program} {a : Act} {o : Oper} {t : TypeId} {x y z : Operand} {u v r q : Value} {W W' : World} (ho : o.op = .buildSlice t 3 #[(0, x), (1, y), (2, z)]) (hx : a.eval x = u) (hy : a.eval y = v) (hz : a.eval z = r)
    (h : (Instr.buildSlice t 3 #[(0, u), (1, v), (2, r)]).run P W = .ok q W') : (execOp a.eval o).run P W = .ok (.value q) W' := by
  unfold execOp
  simp only [ho, List.map_toArray, List.map_cons, List.map_nil, hx, hy, hz, h, Sem.run_bind, Sem.run_pure, Result.andThen_ok]
theorem bx_slice0 {P : Program} {a : Act} {o : Oper} {t : TypeId} {q : Value} {W W' : World} (ho : o.op = .buildSlice t 0 #[])
    (h : (Instr.buildSlice t 0 #[]).run P W = .ok q W') : (execOp a.eval o).run P W = .ok (.value q) W' := by
  unfold execOp
  simp only [ho, List.map_toArray, List.map_nil, h, Sem.run_bind, Sem.run_pure, Result.andThen_ok]
end Go.Proofs.Ytkcedcllefcboaa
