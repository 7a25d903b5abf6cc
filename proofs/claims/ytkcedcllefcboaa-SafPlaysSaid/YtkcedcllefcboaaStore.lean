/-
  STORES OF SEVERAL CELLS into a block that is known whole. No conditions; it imports nothing of the program.
-/
import Derived.Test.YtkcedcllefcboaaHold
import Derived.Carry
namespace Go.Proofs.Ytkcedcllefcboaa
open Go.RowKit
theorem setCells_blk : ∀ (vs : List Value) (w : World) (g o : Nat) (t : TypeId) (C : Array Value), Blk w g t C →
    ∃ C', Blk (w.setCells g o vs) g t C' ∧ C'.size = C.size ∧ ∀ j, C'[j]? = if o ≤ j ∧ j < o + vs.length ∧ j < C.size then vs[j - o]? else C[j]?
  | [], w, g, o, t, C, h => ⟨C, h, rfl, fun j => by rw [if_neg (by simp; omega)]⟩
  | v :: r, w, g, o, t, C, h => by
    obtain ⟨C', h1, h2, h3⟩ := setCells_blk r (w.setCell ⟨g, o, none⟩ v) g (o + 1) t _ (h.set_ o v)
    refine ⟨C', h1, by rw [h2, Array.size_setIfInBounds], fun j => ?_⟩
    rw [h3, Array.size_setIfInBounds, List.length_cons]
    by_cases e : j = o
    · subst e
      rw [if_neg (by omega), Array.getElem?_setIfInBounds, if_pos rfl]
      by_cases hj : j < C.size
      · rw [if_pos hj, if_pos ⟨by omega, by omega, hj⟩, Nat.sub_self]
        rfl
      · rw [if_neg hj, if_neg (by omega), Array.getElem?_eq_none (by omega)]
    · by_cases c : o + 1 ≤ j ∧ j < o + 1 + r.length ∧ j < C.size
      · rw [if_pos c, if_pos ⟨by omega, by omega, c.2.2⟩, show j - o = (j - (o + 1)) + 1 from by omega, List.getElem?_cons_succ]
      · rw [if_neg c, Array.getElem?_setIfInBounds, if_neg (fun h => e h.symm), if_neg (by omega)]
theorem setCells_turn : ∀ (vs : List Value) (w : World) (g o : Nat), Turn (only g) w (w.setCells g o vs)
  | [], _, _, _ => Turn.refl _ _
  | v :: r, w, g, o => ((Turn.refl _ w).at_ o v).trans (setCells_turn r _ g (o + 1)) fun _ _ h => h
theorem blk_there {w : World} {g : Nat} {t : TypeId} {C : Array Value} (h : Blk w g t C) (o n : Nat) (hn : o + n ≤ C.size) : w.there g o n := fun j hj =>
  ⟨by rw [h.cell, Array.getElem?_eq_getElem (by omega)]; rfl, h.frozen _⟩
/-- a value of as many cells as the block has goes into it -/
theorem run_store_row {P : Program} {w : World} {g : Nat} {t ty : TypeId} {old cells : Array Value} (hb : Blk w g t old) (hs : old.size = cells.size) (hi : (P.info? ty).map (·.size) = some cells.size)
    (h1 : ∀ v ∈ cells.toList, v.oneCell' = true) : ∃ w', (Instr.storeAt ty (.pointer (some ⟨g, 0, none⟩)) (.agg cells)).run P w = .ok () w' ∧ Blk w' g t cells ∧ Turn (only g) w w' := by
  have hr := run_storeAt_mid (P := P) w g 0 ty cells (blk_there hb 0 _ (by omega)) hi (Array.all_eq_true_iff_forall_mem.2 fun v hv => h1 v (by simpa using hv))
  obtain ⟨C', c1, c2, c3⟩ := setCells_blk cells.toList w g 0 t old hb
  have ht := setCells_turn cells.toList w g 0
  generalize w.setCells g 0 cells.toList = w' at *
  refine ⟨w', hr, ?_, ht⟩
  have : C' = cells := by
    apply Array.ext_getElem?
    intro j
    rw [c3]
    by_cases hj : j < cells.size
    · rw [if_pos ⟨by omega, by simpa using hj, by omega⟩]
      simp
    · rw [if_neg (by simp; omega), Array.getElem?_eq_none (by omega), Array.getElem?_eq_none (by omega)]
  exact this ▸ c1
section
variable {P : Program} {ops : Array Oper} {rest : List Oper} {o : Oper} {a : Act} {w : World} {Q : Exit → Act → World → Prop}
theorem wpList_store_row (hgd : Region.wanted o (yielded ops a.tmps) = true) (ty : TypeId) (x y : Operand) (ho : o.op = .store ty x y) {g : Nat} {t : TypeId} {old : Array Value} (cells : Array Value) (hb : Blk w g t old)
    (hx : a.eval x = .pointer (some ⟨g, 0, none⟩)) (hy : a.eval y = .agg cells) (hs : old.size = cells.size) (hi : (P.info? ty).map (·.size) = some cells.size) (h1 : ∀ v ∈ cells.toList, v.oneCell' = true)
    (h : ∀ w', Blk w' g t cells → Turn (only g) w w' → wpList P ops Q rest (a.put o.dst undef) w') : wpList P ops Q (o :: rest) a w :=
  wpList_step fun K hK => by
    rw [if_pos hgd]
    obtain ⟨w', hr, h2, h3⟩ := run_store_row (P := P) hb hs hi h1
    unfold Oper.wp execOp
    simp only [ho, hx, hy, hr, Sem.run_bind, Sem.run_pure, Result.andThen_ok]
    exact hK _ _ (h w' h2 h3)
/-- an operation whose run is known -/
theorem wpList_run (hgd : Region.wanted o (yielded ops a.tmps) = true) {v : Value} {w' : World} (hr : (execOp a.eval o).run P w = .ok (.value v) w') (h : wpList P ops Q rest (a.put o.dst v) w') : wpList P ops Q (o :: rest) a w :=
  wpList_step fun K hK => by
    rw [if_pos hgd]
    unfold Oper.wp
    rw [hr]
    exact hK _ _ h
end
theorem exec_lookup {P : Program} {a : Act} {o : Oper} {t : TypeId} {m x : Operand} {c : Bool} {M k v : Value} {W : World} (ho : o.op = .lookup t m x c) (hm : a.eval m = M) (hx : a.eval x = k) (h : (Instr.lookup t M k c).run P W = .ok v W) :
    (execOp a.eval o).run P W = .ok (.value v) W := by
  unfold execOp
  simp only [ho, hm, hx, h, Sem.run_bind, Sem.run_pure, Result.andThen_ok]
theorem exec_slice {P : Program} {a : Act} {o : Oper} {t : TypeId} {x : Operand} {lo hi mx : Option Operand} {u v : Value} {l h m : Option Value} {W W' : World} (ho : o.op = .slice t x lo hi mx) (hx : a.eval x = u) (hl : lo.map a.eval = l) (hh : hi.map a.eval = h) (hm : mx.map a.eval = m)
    (hr : (Instr.sliceAt t u l h m).run P W = .ok v W') : (execOp a.eval o).run P W = .ok (.value v) W' := by
  unfold execOp
  simp only [ho, hx, hl, hh, hm, hr, Sem.run_bind, Sem.run_pure, Result.andThen_ok]
theorem exec_load {P : Program} {a : Act} {o : Oper} {ty : TypeId} {x : Operand} {p v : Value} {W : World} (ho : o.op = .load ty x) (hx : a.eval x = p) (h : (Instr.loadAt ty p).run P W = .ok v W) : (execOp a.eval o).run P W = .ok (.value v) W := by
  unfold execOp
  simp only [ho, hx, h, Sem.run_bind, Sem.run_pure, Result.andThen_ok]
section
variable {P : Program} {a : Act} {o : Oper} {W : World}
theorem exec_move {x : Operand} {v : Value} (ho : o.op = .move x) (hx : a.eval x = v) : (execOp a.eval o).run P W = .ok (.value v) W := by
  unfold execOp
  simp only [ho, hx, Sem.run_pure]
theorem exec_nil {x : Operand} {p : Addr} (ho : o.op = .nilCheck x) (hx : a.eval x = .pointer (some p)) : (execOp a.eval o).run P W = .ok (.value (.pointer (some p))) W := by
  unfold execOp
  simp only [ho, hx, Sem.run_pure]
/-- where a field lies -/
def fieldOff (P : Program) (s : TypeId) (k : Nat) : Option Nat :=
  match P.underlying s with
  | some (.struct fs) => match fs[k]? with
    | some f => match P.info? f.type with
      | some i => if i.size = 0 then none else some f.offset
      | none => none
    | none => none
  | _ => none
theorem exec_field {s : TypeId} {k d b off : Nat} {x : Operand} (ho : o.op = .fieldAddr s x k) (hx : a.eval x = .pointer (some ⟨b, off, none⟩)) (hf : fieldOff P s k = some d) :
    (execOp a.eval o).run P W = .ok (.value (.pointer (some ⟨b, off + d, none⟩))) W := by
  unfold execOp
  unfold fieldOff at hf
  split at hf
  · rename_i fs hu
    split at hf
    · rename_i f hfs
      split at hf
      · rename_i i hi
        split at hf
        · cases hf
        · rename_i hz
          cases hf
          simp [ho, hx, Instr.fieldAt, run_underlying hu, hfs, Instr.sureAddr, fieldPlace, sizeOf, typeInfo, hi, hz, add_nat, Result.andThen]
      · cases hf
    · cases hf
  · cases hf
/-- a cell that is read -/
def plainB (P : Program) (t : TypeId) : Bool :=
  match P.underlying t with
  | some (.struct _) | some (.array _ _) | none => false
  | _ => true
theorem exec_load1 {ty : TypeId} {x : Operand} {p : Addr} {v : Value} (ho : o.op = .load ty x) (hx : a.eval x = .pointer (some p)) (hp : plainB P ty = true) (hc : W.cell? p = some v) : (execOp a.eval o).run P W = .ok (.value v) W := by
  unfold execOp
  have hagg : (isAgg ty).run P W = .ok false W := by
    unfold isAgg
    unfold plainB at hp
    split at hp
    · cases hp
    · cases hp
    · cases hp
    · rename_i h1 h2 h3
      cases hu : P.underlying ty with
      | none => exact absurd hu h3
      | some d =>
        rw [Sem.run_bind, run_underlying hu W]
        cases d <;> first | rfl | exact absurd hu (h1 _) | exact absurd hu (h2 _ _)
  simp [ho, hx, Instr.loadAt, Instr.sureAddr, loadVar, hagg, hc, Result.andThen]
theorem exec_makeMap {t : TypeId} (ho : o.op = .makeMap t none) : (execOp a.eval o).run P W = .ok (.value (.map (some W.heap.size))) (W.alloc (.map #[] 0)) := by
  unfold execOp
  simp only [ho]
  simp only [Option.map_none, run_makeMap, Sem.run_bind, Sem.run_pure, Result.andThen_ok]
theorem exec_buildSlice1 {t : TypeId} {x : Operand} {u v : Value} {W' : World} (ho : o.op = .buildSlice t 1 #[(0, x)]) (hx : a.eval x = u) (h : (Instr.buildSlice t 1 #[(0, u)]).run P W = .ok v W') : (execOp a.eval o).run P W = .ok (.value v) W' := by
  unfold execOp
  simp only [ho, List.map_toArray, List.map_cons, List.map_nil, hx, h, Sem.run_bind, Sem.run_pure, Result.andThen_ok]
theorem exec_append {t : TypeId} {x y : Operand} {u v r : Value} {W' : World} (ho : o.op = .call { callee := .builtin .append, args := #[x, y], argTypes := #[t, t] }) (hx : a.eval x = u) (hy : a.eval y = v) (hr : (Builtin.append_ #[t, t] o.type #[u, v]).run P W = .ok r W') :
    (execOp a.eval o).run P W = .ok (.value r) W' := by
  unfold execOp
  simp only [ho, resolve, invoke, builtin, Sem.run_bind, Sem.run_pure, Result.andThen_ok, List.map_toArray, List.map_cons, List.map_nil, hx, hy, hr]
end
end Go.Proofs.Ytkcedcllefcboaa
