/-
  Operations in general, once more: results in cells, addresses in arrays, stores as steps. No conditions; it imports nothing of the program.
-/
import Derived.Test.YtkcedcllefcboaaGnl
import Derived.Laws.ResultCell
namespace Go.Proofs.Ytkcedcllefcboaa
open Go.RowKit
set_option linter.unusedVariables false
set_option linter.unusedSimpArgs false
theorem ret_cell2 {P : Program} {fn : Func} {p u : Tmp} {ty : TypeId} (h : fn.results = #[.cell p ty, .tmp u]) (tmps : Array Value) (w : World) (g : Nat) (t : TypeId) (cs : Array Value) (d : TypeDesc) {v : Value}
    (hp : tmps.getD p undef = .pointer (some ⟨g, 0, none⟩)) (hv : tmps.getD u undef = v) (hg : Blk w g t cs) (hu : P.underlying ty = some d) (hd : (match d with | .struct _ | .array _ _ => true | _ => false) = true) (hi : (P.info? ty).map (·.size) = some cs.size) :
    (results fn tmps).run P w = .ok (.tuple #[.agg cs, v]) w := by
  subst hv
  have hp' : tmps[p]?.getD undef = .pointer (some ⟨g, 0, none⟩) := by simpa using hp
  rw [results_cell_tmp h]
  simp [hp', asAddr, run_loadVar_row w g t ty cs (0, 0) d hg hu hd hi, Result.andThen]
theorem ret_cell1 {P : Program} {fn : Func} {p : Tmp} {ty : TypeId} (h : fn.results = #[.cell p ty]) (tmps : Array Value) (w : World) (g : Nat) (t : TypeId) (cs : Array Value) (d : TypeDesc)
    (hp : tmps.getD p undef = .pointer (some ⟨g, 0, none⟩)) (hg : Blk w g t cs) (hu : P.underlying ty = some d) (hd : (match d with | .struct _ | .array _ _ => true | _ => false) = true) (hi : (P.info? ty).map (·.size) = some cs.size) :
    (results fn tmps).run P w = .ok (.agg cs) w := by
  have hp' : tmps[p]?.getD undef = .pointer (some ⟨g, 0, none⟩) := by simpa using hp
  simp only [results, h]
  simp [Sem.run_bind, Result.andThen, hp', asAddr, run_loadVar_row w g t ty cs (0, 0) d hg hu hd hi]
theorem gx_aaddr {P : Program} {a : Act} {o : Oper} {W : World} {t e : TypeId} {x y : Operand} {b off n i sz m : Nat} {k : IntKind} (ho : o.op = .indexAddr t x y) (hx : a.eval x = .pointer (some ⟨b, off, none⟩)) (hy : a.eval y = .int k (i : Int))
    (ht : P.underlying t = some (.array n e)) (hs : (P.info? e).map (·.size) = some sz) (hi : i < n) (hm : off + i * sz = m) : (execOp a.eval o).run P W = .ok (.value (.pointer (some ⟨b, m, none⟩))) W := by
  obtain ⟨j, hj, hjs⟩ := Option.map_eq_some_iff.1 hs
  subst hm
  unfold execOp
  simp [ho, hx, hy, Instr.indexAt, run_underlying ht, asIntOf, sizeOf, typeInfo, hj, hjs, hi, add_nat, Result.andThen, Instr.sureAddr]
theorem wp_store_rowU {P : Program} {o : Oper} {a : Act} {w : World} {K : Act → World → Prop} {Q : Exit → Act → World → Prop} (ty : TypeId) (x y : Operand) (ho : o.op = .store ty x y) {g : Nat} {t : TypeId} {old : Array Value} (cells : Array Value) (hb : Blk w g t old)
    (hx : a.eval x = .pointer (some ⟨g, 0, none⟩)) (hy : a.eval y = .agg cells) (hs : old.size = cells.size) (hi : (P.info? ty).map (·.size) = some cells.size) (h1 : ∀ v ∈ cells.toList, v.oneCell' = true)
    (h : ∀ w', Blk w' g t cells → Turn (only g) w w' → K (a.put o.dst undef) w') : o.wp P a w K Q := by
  obtain ⟨w', hr, h2, h3⟩ := run_store_row (P := P) hb hs hi h1
  unfold Oper.wp execOp
  simp only [ho, hx, hy, hr, Sem.run_bind, Sem.run_pure, Result.andThen_ok]
  exact h w' h2 h3
/-- a value of several cells goes into the middle of a block, as a step -/
theorem wp_store_midU {P : Program} {o : Oper} {a : Act} {w : World} {K : Act → World → Prop} {Q : Exit → Act → World → Prop} (ty : TypeId) (x y : Operand) (ho : o.op = .store ty x y) {g off : Nat} {t : TypeId} {old : Array Value} (cells : Array Value) (hb : Blk w g t old)
    (hx : a.eval x = .pointer (some ⟨g, off, none⟩)) (hy : a.eval y = .agg cells) (hs : off + cells.size ≤ old.size) (hi : (P.info? ty).map (·.size) = some cells.size) (h1 : ∀ v ∈ cells.toList, v.oneCell' = true)
    (h : ∀ w' C', Blk w' g t C' → C'.size = old.size → (∀ j, C'[j]? = if off ≤ j ∧ j < off + cells.size then cells[j - off]? else old[j]?) → Turn (only g) w w' → K (a.put o.dst undef) w') : o.wp P a w K Q := by
  have hr := run_storeAt_mid (P := P) w g off ty cells (blk_there hb off _ hs) hi (Array.all_eq_true_iff_forall_mem.2 fun v hv => h1 v (by simpa using hv))
  obtain ⟨C', c1, c2, c3⟩ := setCells_blk cells.toList w g off t old hb
  have ht := setCells_turn cells.toList w g off
  generalize w.setCells g off cells.toList = w' at *
  unfold Oper.wp execOp
  simp only [ho, hx, hy, hr, Sem.run_bind, Sem.run_pure, Result.andThen_ok]
  refine h w' C' c1 c2 (fun j => ?_) ht
  rw [c3]
  have hl : cells.toList.length = cells.size := by simp
  rw [hl]
  by_cases hj : off ≤ j ∧ j < off + cells.size
  · rw [if_pos hj, if_pos ⟨hj.1, hj.2, by omega⟩, Array.getElem?_toList]
  · rw [if_neg hj, if_neg (by omega)]
/-- a value of one cell goes into a block, as a step -/
theorem wp_store1U {P : Program} {o : Oper} {a : Act} {w : World} {K : Act → World → Prop} {Q : Exit → Act → World → Prop} (ty : TypeId) (x y : Operand) (ho : o.op = .store ty x y) {g i : Nat} {t : TypeId} {old : Array Value} {v : Value} (hb : Blk w g t old)
    (hx : a.eval x = .pointer (some ⟨g, i, none⟩)) (hy : a.eval y = v) (hi : i < old.size) (hv : v.cells = #[v]) (h1 : v.oneCell' = true) (hsz : (P.info? ty).map (·.size) = some 1)
    (h : ∀ w', Blk w' g t (old.setIfInBounds i v) → Turn (only g) w w' → K (a.put o.dst undef) w') : o.wp P a w K Q := by
  obtain ⟨j, hj, hjs⟩ := Option.map_eq_some_iff.1 hsz
  have hc : w.cell? ⟨g, i, none⟩ = some (old[i]) := by rw [hb.cell i, Array.getElem?_eq_getElem hi]
  have hf : w.frozen? ⟨g, i, none⟩ = false := hb.frozen i
  have hst : (Instr.storeAt ty (.pointer (some ⟨g, i, none⟩)) v).run P w = .ok () (w.setCell ⟨g, i, none⟩ v) := by
    have h0 : (⟨g, i, none⟩ : Addr).add 0 = ⟨g, i, none⟩ := by simp [Addr.add]
    simp [Instr.storeAt, storeVar, hv, Instr.sureAddr, sizeOf, typeInfo, hj, hjs, Result.andThen, storeCells, run_store _ _ _ _ _ h1, stored, h0, hc, hf]
  unfold Oper.wp execOp
  simp only [ho, hx, hy, hst, Sem.run_bind, Sem.run_pure, Result.andThen_ok]
  exact h _ (hb.set_ i v) ((Turn.refl _ w).at_ i v)
theorem run_isAgg_plain {P : Program} {ty : TypeId} (hp : plainB P ty = true) (W : World) : (isAgg ty).run P W = .ok false W := by
  unfold isAgg
  unfold plainB at hp
  split at hp
  · cases hp
  · cases hp
  · cases hp
  · rename_i h1 h2 h3
    cases hu : P.underlying ty with
    | none => exact absurd hu h3
    | some d =>
      rw [Sem.run_bind, run_underlying hu W]
      cases d <;> first | rfl | exact absurd hu (h1 _) | exact absurd hu (h2 _ _)
theorem run_isAgg_row {P : Program} {ty : TypeId} {d : TypeDesc} (hu : P.underlying ty = some d) (hd : d.isRow = true) (W : World) : (isAgg ty).run P W = .ok true W := by
  unfold isAgg
  rw [Sem.run_bind, run_underlying hu W]
  cases d <;> first | rfl | cases hd
/-- an array's element by its number: of one cell; of several -/
theorem exec_index1 {P : Program} {a : Act} {o : Oper} {W : World} {t e : TypeId} {x y : Operand} {cs : Array Value} {n i : Nat} {v : Value} {k : IntKind} (ho : o.op = .index t x y) (hx : a.eval x = .agg cs) (hy : a.eval y = .int k (i : Int)) (ht : P.underlying t = some (.array n e))
    (hi : i < n) (hs : (P.info? e).map (·.size) = some 1) (hp : plainB P e = true) (hv : cs[i]? = some v) : (execOp a.eval o).run P W = .ok (.value v) W := by
  obtain ⟨j, hj, hjs⟩ := Option.map_eq_some_iff.1 hs
  have h1 : (Instr.index t (.agg cs) (.int k (i : Int))).run P W = .ok v W := by
    unfold Instr.index
    simp [asIntOf, run_underlying ht, hi, sizeOf, typeInfo, hj, hjs, part, run_isAgg_plain hp W, hv, Result.andThen]
  unfold execOp
  simp only [ho, hx, hy, h1, Sem.run_bind, Sem.run_pure, Result.andThen_ok]
theorem exec_indexK {P : Program} {a : Act} {o : Oper} {W : World} {t e : TypeId} {x y : Operand} {cs : Array Value} {n i m : Nat} {d : TypeDesc} {k : IntKind} (ho : o.op = .index t x y) (hx : a.eval x = .agg cs) (hy : a.eval y = .int k (i : Int)) (ht : P.underlying t = some (.array n e))
    (hi : i < n) (hs : (P.info? e).map (·.size) = some m) (hu : P.underlying e = some d) (hd : d.isRow = true) {r : Array Value} (hr : cs.extract (i * m) (i * m + m) = r) : (execOp a.eval o).run P W = .ok (.value (.agg r)) W := by
  obtain ⟨j, hj, hjs⟩ := Option.map_eq_some_iff.1 hs
  have h1 : (Instr.index t (.agg cs) (.int k (i : Int))).run P W = .ok (.agg r) W := by
    subst hr
    unfold Instr.index
    simp [asIntOf, run_underlying ht, hi, sizeOf, typeInfo, hj, hjs, part, run_isAgg_row hu hd W, Result.andThen]
  unfold execOp
  simp only [ho, hx, hy, h1, Sem.run_bind, Sem.run_pure, Result.andThen_ok]
/-- make: so many zero elements, in a row of the call's own -/
theorem orw_make {P : Program} {st et : TypeId} {k by_ : Nat} {z : Value} (E : Elm P st et k by_ z) (h1 : ∀ u ∈ z.cells.toList, u.oneCell' = true) (n : Nat) (hn : by_ * n ≤ 281474976710656) (w : World) :
    ∃ w', (Instr.makeSlice st (.int .i64 (n : Int)) (.int .i64 (n : Int))).run P w = .ok (.slice (some ⟨w.heap.size, 0, none⟩) n n) w' ∧ Orw w' w.heap.size et k (.slice (some ⟨w.heap.size, 0, none⟩) n n) (List.replicate n z.cells.toList) ∧ Turn nowhere w w' := by
  obtain ⟨i0, hi0, hz0, hz1, hz2⟩ := info_parts E.inf
  have hk := E.pos
  have hle : 1 * n ≤ by_ * n := Nat.mul_le_mul_right _ E.byp
  have hb' : (i0.bytes : Int) * (n : Int) ≤ 281474976710656 := by
    have h : ((by_ * n : Nat) : Int) ≤ 281474976710656 := by omega
    rw [hz2]
    rwa [Int.natCast_mul] at h
  have hr := run_make (P := P) w st et i0 z E.und hi0 hz0 .i64 .i64 (n : Int) (n : Int) (by omega) (Int.le_refl _) hb' (by omega)
  rw [hz1] at hr
  simp only [Int.toNat_natCast] at hr
  refine ⟨_, hr, ?_, (Turn.refl nowhere w).alloc _⟩
  have hf : Fit k (List.replicate n z.cells.toList) := fun r hr => by
    obtain rfl := (List.mem_replicate.1 hr).2
    exact ⟨by rw [Array.length_toList, E.zsz], h1⟩
  have hb := Blk.new w et (madeCells z.cells (n * k))
  refine orw_of hb (Nat.le_refl _) hf (by simp) (Nat.le_refl _) (by unfold maxLen; omega) (size_madeCells _ _) ?_
  apply List.ext_getElem?
  intro j
  by_cases hj : j < n * k
  · rw [List.getElem?_take, if_pos hj, Array.getElem?_toList]
    have hd : j / k < n := (Nat.div_lt_iff_lt_mul hk).2 hj
    have hjj : j = j / k * k + j % k := by rw [Nat.mul_comm]; exact (Nat.div_add_mod j k).symm
    have hm := Nat.mod_lt j hk
    have := flat_at (i := j / k) (r := z.cells.toList) hf (by rw [List.getElem?_replicate, if_pos hd]) hm
    rw [← hjj] at this
    rw [this, Array.getElem?_toList]
    unfold madeCells
    have hlt : j % z.cells.size < z.cells.size := Nat.mod_lt _ (by rw [E.zsz]; exact hk)
    rw [Array.getElem?_map, Array.getElem?_range, if_pos hj]
    simp only [Option.map_some]
    rw [getElem!_pos z.cells _ hlt, ← Array.getElem?_eq_getElem hlt, E.zsz]
  · rw [List.getElem?_eq_none (by rw [List.length_take]; omega), List.getElem?_eq_none (by rw [flat_len hf, List.length_replicate]; omega)]
end Go.Proofs.Ytkcedcllefcboaa
