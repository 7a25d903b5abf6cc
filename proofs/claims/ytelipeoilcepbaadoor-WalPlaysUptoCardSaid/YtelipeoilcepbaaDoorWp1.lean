/-
  Texts in one file: Grw Gen Grc Gri WmJ. Conditions: the tables and the errors read as the program's text lays them.
-/
import Derived.Test.YtelipeoilcepbaaDoorWp0
import Derived.Laws.AppendOwnNone
import Derived.Laws.OwnMore
import Derived.Maps.AppendAt
import Derived.Laws.CopyRow
import Derived.Lib.AppendZerosOnto
import Derived.Lib.Overlaps
import Derived.Laws.Externs
import Derived.Shelf.SlSortCmp.WholeK
namespace Go.Proofs.YtelipeoilcepbaaDoor
open Go.RowKit Go.ChangeShapes Go.WideShapes Go.Deep
set_option linter.unusedVariables false
set_option linter.unusedSimpArgs false
structure Elm (P : Program) (st et : TypeId) (k by_ : Nat) (z : Value) : Prop where
  und : P.underlying st = some (.slice et)
  inf : (P.info? et).map (fun i => (i.zero, i.size, i.bytes)) = some (some z, k, by_)
  zsz : z.cells.size = k
  pos : 0 < k
  byp : 1 ≤ by_
def Fit (k : Nat) (rs : List (List Value)) : Prop := ∀ r ∈ rs, r.length = k ∧ ∀ u ∈ r, u.oneCell' = true
theorem Fit.app {k : Nat} {a b : List (List Value)} (h : Fit k a) (g : Fit k b) : Fit k (a ++ b) := fun r hr => by
  rcases List.mem_append.1 hr with hr | hr
  · exact h r hr
  · exact g r hr
theorem Fit.nil (k : Nat) : Fit k [] := fun r h => (by cases h)
theorem Fit.one {k : Nat} {r : List Value} (h : r.length = k) (g : ∀ u ∈ r, u.oneCell' = true) : Fit k [r] := fun x hx => by
  obtain rfl : x = r := by simpa using hx
  exact ⟨h, g⟩
theorem flat_len {k : Nat} : ∀ {rs : List (List Value)}, Fit k rs → rs.flatten.length = rs.length * k
  | [], _ => by simp
  | r :: rs, h => by
    rw [List.flatten_cons, List.length_append, flat_len (rs := rs) (fun x hx => h x (List.mem_cons_of_mem _ hx)), (h r (List.mem_cons_self ..)).1, List.length_cons, Nat.succ_mul]
    omega
theorem flat_at {k : Nat} : ∀ {rs : List (List Value)} {i j : Nat} {r : List Value}, Fit k rs → rs[i]? = some r → j < k → rs.flatten[i * k + j]? = r[j]?
  | [], i, j, r, _, h, _ => by cases h
  | q :: rs, 0, j, r, h, hr, hj => by
    obtain rfl : q = r := by simpa using hr
    rw [Nat.zero_mul, Nat.zero_add, List.flatten_cons, List.getElem?_append_left (by rw [(h q (List.mem_cons_self ..)).1]; exact hj)]
  | q :: rs, i + 1, j, r, h, hr, hj => by
    have hq := (h q (List.mem_cons_self ..)).1
    rw [List.flatten_cons, show (i + 1) * k + j = q.length + (i * k + j) from by rw [hq, Nat.succ_mul]; omega, List.getElem?_append_right (by omega), Nat.add_sub_cancel_left]
    exact flat_at (fun x hx => h x (List.mem_cons_of_mem _ hx)) (by simpa using hr) hj
theorem flat_one {k : Nat} {rs : List (List Value)} (h : Fit k rs) : ∀ u ∈ rs.flatten, u.oneCell' = true := fun u hu => by
  obtain ⟨r, hr, hu⟩ := List.mem_flatten.1 hu
  exact (h r hr).2 u hu
theorem flat_get {k : Nat} (hk : 0 < k) {rs : List (List Value)} (h : Fit k rs) {j : Nat} {u : Value} (hu : rs.flatten[j]? = some u) : ∃ r, rs[j / k]? = some r ∧ r[j % k]? = some u := by
  have hjl : j < rs.length * k := by
    have := (List.getElem?_eq_some_iff.1 hu).1
    rwa [flat_len h] at this
  have hd : j / k < rs.length := (Nat.div_lt_iff_lt_mul hk).2 hjl
  have hr : rs[j / k]? = some rs[j / k] := List.getElem?_eq_getElem hd
  refine ⟨_, hr, ?_⟩
  have := flat_at (j := j % k) h hr (Nat.mod_lt _ hk)
  rw [show j / k * k + j % k = j from by rw [Nat.mul_comm]; exact Nat.div_add_mod j k] at this
  rw [← this, hu]
def Orw (w : World) (B : Nat) (et : TypeId) (k : Nat) (v : Value) (rs : List (List Value)) : Prop := Fit k rs ∧ w.ownsRow B et k v rs.length rs.flatten
section
variable {w w' : World} {B k : Nat} {et : TypeId} {v : Value} {rs : List (List Value)} {F : Nat → Prop}
theorem Orw.nil (w : World) (B : Nat) (et : TypeId) (k : Nat) : Orw w B et k (.slice none 0 0) [] := ⟨Fit.nil k, World.ownsRow_nil _ _ _ _⟩
theorem Orw.turn (h : Orw w B et k v rs) (ht : Turn F w w') (hF : ∀ b, v.ownBlock = some b → ¬ F b) : Orw w' B et k v rs := by
  refine ⟨h.1, h.2.1, ?_⟩
  rcases h.2.2 with h0 | ⟨g, cap, cur, rfl, hb1, hgg, rest⟩
  · exact .inl h0
  · have hlt : g < w.heap.size := (Array.getElem?_eq_some_iff.1 hgg).1
    exact .inr ⟨g, cap, cur, rfl, hb1, by rw [ht.block g hlt (hF g rfl)]; exact hgg, rest⟩
theorem Orw.still (h : Orw w B et k v rs) (ht : Turn nowhere w w') : Orw w' B et k v rs := h.turn ht fun _ _ e => e
theorem Orw.less {C : Nat} (h : Orw w B et k v rs) (hC : C ≤ B) : Orw w C et k v rs := by
  refine ⟨h.1, h.2.1, ?_⟩
  rcases h.2.2 with h0 | ⟨g, cap, cur, rfl, hb1, rest⟩
  · exact .inl h0
  · exact .inr ⟨g, cap, cur, rfl, Nat.le_trans hC hb1, rest⟩
theorem Orw.form (h : Orw w B et k v rs) : ∃ A c, v = .slice A rs.length c ∧ rs.length ≤ c ∧ c ≤ maxLen ∧ (A = none → c = 0) ∧ (∀ a, A = some a → B ≤ a.block ∧ a.block < w.heap.size) := by
  rcases h.2.2 with ⟨rfl, h0⟩ | ⟨g, cap, cur, rfl, hb1, hg, h1, h2, _⟩
  · exact ⟨none, 0, (by rw [h0]), (by omega), (by unfold maxLen; omega), fun _ => rfl, fun a e => (by cases e)⟩
  · exact ⟨_, _, rfl, h1, h2, fun e => (by cases e), fun a e => (by obtain rfl := Option.some.inj e; exact ⟨hb1, (Array.getElem?_eq_some_iff.1 hg).1⟩)⟩
theorem Orw.lt (h : Orw w B et k v rs) {b : Nat} (hb : v.ownBlock = some b) : B ≤ b ∧ b < w.heap.size := by
  rcases h.2.2 with ⟨rfl, h0⟩ | ⟨g, cap, cur, rfl, hb1, hg, h1, h2, _⟩
  · cases hb
  · obtain rfl : g = b := Option.some.inj hb
    exact ⟨hb1, (Array.getElem?_eq_some_iff.1 hg).1⟩
theorem Orw.ne {g : Nat} {t : TypeId} {cs : Array Value} (h : Orw w B et k v rs) (hg : Blk w g t cs) (ht : t ≠ et) : ∀ b, v.ownBlock = some b → b ≠ g := by
  intro b hb e
  subst e
  rcases h.2.2 with ⟨rfl, _⟩ | ⟨g', cap, cur, rfl, _, hg', _⟩
  · cases hb
  · obtain rfl : g' = b := Option.some.inj hb
    exact (show Blk w g' et cur from hg').ne_ hg (fun h => ht h.symm) rfl
theorem Orw.rws {A : Option Addr} {n c : Nat} (h : Orw w B et k (.slice A n c) rs) (hn : rs.length ≤ 140737488355328) (hk : 0 < k) : Rws w k A n rs := by
  obtain ⟨A', c', e, _⟩ := h.form
  injection e with e1 e2 e3
  subst e1 e2 e3
  refine ⟨rfl, fun r hr => (h.1 r hr).1, hn, fun hp => ?_⟩
  rcases h.2.2 with ⟨e, h0⟩ | ⟨g, cap, cur, e, hb1, hg, h1, h2, h3, h4⟩
  · omega
  · injection e with e1 e2 e3
    subst e1
    refine ⟨g, 0, rfl, fun i r hr j u hu => ?_⟩
    have hj : j < k := by
      have := (List.getElem?_eq_some_iff.1 hu).1
      rwa [(h.1 r (List.mem_of_getElem? hr)).1] at this
    have hf := flat_at h.1 hr hj
    rw [hu] at hf
    have := World.ownsRow.cells (g := g) h.2 rfl (i * k + j) u hf
    rw [add_nat] at this
    rw [Nat.zero_add] at this ⊢
    exact this
end
section
variable {P : Program} {st et : TypeId} {k by_ : Nat} {z : Value}
theorem orw_grow (E : Elm P st et k by_ z) {B : Nat} {w : World} {v : Value} {rs news : List (List Value)} {A : Option Addr} {m c : Nat} {ty : TypeId} (hown : Orw w B et k v rs) (hB : B ≤ w.heap.size) (hb : Rws w k A m news) (hf : Fit k news) (hc : A = none → c = 0) (hlen : (rs.length + m) * by_ ≤ 140737488355328) :
    ∃ A' c' w', (Builtin.append_ #[st, st] ty #[v, .slice A m c]).run P w = .ok (.slice A' (rs.length + m) c') w' ∧ Orw w' B et k (.slice A' (rs.length + m) c') (rs ++ news) ∧ w.grownBy w' v.ownBlock ∧ ((Value.slice A' (rs.length + m) c').ownBlock = v.ownBlock ∨ (Value.slice A' (rs.length + m) c').ownBlock = some w.heap.size) := by
  obtain ⟨h1, _, _, h3⟩ := hb
  obtain ⟨i0, hi0, hz0, hz1, hz2⟩ := info_parts E.inf
  rcases A with _ | A
  · obtain rfl := hc rfl
    have hm0 : m = 0 := by
      rcases Nat.eq_zero_or_pos m with h0 | h0
      · exact h0
      · obtain ⟨_, _, h4, _⟩ := h3 h0; cases h4
    subst hm0
    have hn : news = [] := List.eq_nil_of_length_eq_zero h1
    subst hn
    have hrun := run_append_owned_none (P := P) (w := w) B st ty et i0 k E.und hi0 v _ _ hown.2
    obtain ⟨A', c', rfl, _⟩ := hown.form
    exact ⟨A', c', w, hrun, by rw [List.append_nil]; exact hown, ⟨rfl, rfl, rfl, Nat.le_refl _, fun _ _ _ => rfl⟩, .inl rfl⟩
  · have hk := E.pos
    have hle : (rs.length + m) * 1 ≤ (rs.length + m) * by_ := Nat.mul_le_mul_left _ E.byp
    obtain ⟨v', w', g1, g2, g3, _, g5⟩ := run_append_own_at (P := P) w B st ty et i0 z k by_ E.und hi0 hz0 hz1 hz2 E.zsz E.pos v rs.length _ hown.2 A m c news.flatten (by rw [flat_len hf, h1]) (fun j u hj => by
        obtain ⟨r, hr, hu⟩ := flat_get E.pos hf hj
        have hm : 0 < m := by
          have := (List.getElem?_eq_some_iff.1 hr).1
          rw [h1] at this
          exact Nat.lt_of_le_of_lt (Nat.zero_le _) this
        obtain ⟨b, off, e, hcell⟩ := h3 hm
        obtain rfl := Option.some.inj e
        have := hcell _ r hr _ u hu
        rw [add_nat]
        rwa [Nat.add_assoc, show j / k * k + j % k = j from by rw [Nat.mul_comm]; exact Nat.div_add_mod j k] at this) (flat_one hf) (by unfold maxLen; omega) hlen hB
    have hO : Orw w' B et k v' (rs ++ news) := ⟨hown.1.app hf, by
      rw [List.length_append, h1, List.flatten_append]
      exact g2⟩
    obtain ⟨A', c', rfl, _⟩ := hO.form
    rw [List.length_append, h1] at g1 hO g5
    exact ⟨A', c', w', g1, hO, g3, g5⟩
theorem orw_more (E : Elm P st et k by_ z) {F : Nat → Prop} {W1 w : World} {v : Value} {rs news : List (List Value)} {A : Option Addr} {m c : Nat} {ty : TypeId} (hown : Orw w W1.heap.size et k v rs) (hT : Turn F W1 w) (hb : Rws w k A m news) (hf : Fit k news) (hc : A = none → c = 0) (hlen : (rs.length + m) * by_ ≤ 140737488355328) :
    ∃ A' c' w', (Builtin.append_ #[st, st] ty #[v, .slice A m c]).run P w = .ok (.slice A' (rs.length + m) c') w' ∧ Orw w' W1.heap.size et k (.slice A' (rs.length + m) c') (rs ++ news) ∧ Turn F W1 w' := by
  obtain ⟨A', c', w', h1, h2, h3, _⟩ := orw_grow E (ty := ty) hown hT.size hb hf hc hlen
  exact ⟨A', c', w', h1, h2, hT.grown h3 fun g e hg => by
    have := (hown.lt e).1
    omega⟩
theorem build_one (E : Elm P st et k by_ z) (r : List Value) (hr : r.length = k) (h63 : k ≤ 4096) (u : Value) (hu : u.cells = r.toArray) (W : World) : (Instr.buildSlice st 1 #[(0, u)]).run P W = .ok (.slice (some ⟨W.heap.size, 0, none⟩) 1 1) (W.alloc (.cells r.toArray et)) := by
  obtain ⟨i0, hi0, hz0, hz1, hz2⟩ := info_parts E.inf
  have := run_buildSlice_one (P := P) (v := u) E.und hi0 hz0 (by rw [hz1, hu]; simpa using hr) (by rw [hz1]; exact E.zsz) (by rw [hz1]; exact E.pos) (by rw [hz1]; omega) W
  rw [hu] at this
  exact this
theorem rws_one {w : World} {r : List Value} (hr : r.length = k) (hw : Blk w w.heap.size et r.toArray → True) : Rws (w.alloc (.cells r.toArray et)) k (some ⟨w.heap.size, 0, none⟩) 1 [r] := by
  refine ⟨rfl, fun x hx => ?_, by omega, fun _ => ⟨_, _, rfl, fun i x hx j u hu => ?_⟩⟩
  · obtain rfl : x = r := by simpa using hx
    exact hr
  · have hi : i = 0 := by
      have := (List.getElem?_eq_some_iff.1 hx).1
      simpa using this
    subst hi
    obtain rfl : r = x := by simpa using hx
    rw [(Blk.new w et r.toArray).cell, Nat.zero_mul, Nat.zero_add]
    simpa using hu
theorem orw_add (E : Elm P st et k by_ z) {F : Nat → Prop} {W1 w : World} {v : Value} {rs : List (List Value)} {ty : TypeId} (hown : Orw w W1.heap.size et k v rs) (hT : Turn F W1 w) (r : List Value) (hr : r.length = k) (h1 : ∀ u ∈ r, u.oneCell' = true) (hlen : (rs.length + 1) * by_ ≤ 140737488355328) :
    ∃ A' c' w', (Builtin.append_ #[st, st] ty #[v, .slice (some ⟨w.heap.size, 0, none⟩) 1 1]).run P (w.alloc (.cells r.toArray et)) = .ok (.slice A' (rs.length + 1) c') w' ∧ Orw w' W1.heap.size et k (.slice A' (rs.length + 1) c') (rs ++ [r]) ∧ Turn F W1 w' :=
  orw_more E (c := 1) (hown.still ((Turn.refl nowhere w).alloc (.cells r.toArray et))) (hT.alloc _) (rws_one hr fun _ => trivial) (Fit.one hr h1) (fun h => by cases h) hlen
theorem copy_rws (E : Elm P st et k by_ z) {w : World} {A : Option Addr} {m c : Nat} {rs : List (List Value)} {ty : TypeId} (hb : Rws w k A m rs) (hf : Fit k rs) (hc : A = none → c = 0) (hm : m * by_ ≤ 140737488355328) :
    ∃ A' c' w', (Builtin.append_ #[st, st] ty #[.slice (some ⟨w.heap.size, 0, none⟩) 0 0, .slice A m c]).run P (w.alloc (.cells #[] et)) = .ok (.slice A' m c') w' ∧ Orw w' w.heap.size et k (.slice A' m c') rs ∧ Turn nowhere w w' := by
  have hT := (Turn.refl nowhere w).alloc (.cells #[] et)
  obtain ⟨A', c', w', h1, h2, h3⟩ := orw_more E (ty := ty) (rs := []) (c := c) (W1 := w) (show Orw (w.alloc (.cells #[] et)) w.heap.size et k (.slice (some ⟨w.heap.size, 0, none⟩) 0 0) [] from
    ⟨Fit.nil k, World.ownsRow_made w #[] 0 (Nat.le_refl _) (by unfold maxLen; omega) (by simp)⟩) hT (hb.still hT) hf hc (by simpa using hm)
  have hl : ([] : List (List Value)).length + m = m := by simp
  rw [hl] at h1 h2
  exact ⟨A', c', w', h1, h2, h3⟩
end
end Go.Proofs.YtelipeoilcepbaaDoor
namespace Go.Proofs.YtelipeoilcepbaaDoor
open Go.RowKit
set_option linter.unusedVariables false
set_option linter.unusedSimpArgs false
theorem gx_iaddr {P : Program} {a : Act} {o : Oper} {W : World} {t e : TypeId} {x y : Operand} {b off n c i sz m : Nat} {k : IntKind} (ho : o.op = .indexAddr t x y) (hx : a.eval x = .slice (some ⟨b, off, none⟩) n c) (hy : a.eval y = .int k (i : Int))
    (ht : P.underlying t = some (.slice e)) (hs : (P.info? e).map (·.size) = some sz) (hi : i < n) (hm : off + i * sz = m) : (execOp a.eval o).run P W = .ok (.value (.pointer (some ⟨b, m, none⟩))) W := by
  obtain ⟨j, hj, hjs⟩ := Option.map_eq_some_iff.1 hs
  subst hm
  unfold execOp
  simp [ho, hx, hy, Instr.indexAt, run_underlying ht, asIntOf, sizeOf, typeInfo, hj, hjs, hi, add_nat, Result.andThen]
theorem gx_alloc {P : Program} {a : Act} {o : Oper} {W : World} {t : TypeId} {z : Value} (ho : o.op = .alloc t) (hz : (zeroValue t).run P W = .ok z W) :
    (execOp a.eval o).run P W = .ok (.value (.pointer (some ⟨W.heap.size, 0, none⟩))) (W.alloc (.cells z.cells t)) := by
  unfold execOp
  simp [ho, Instr.alloc, hz, newVar, Result.andThen, newRow]
theorem gx_build4 {P : Program} {a : Act} {o : Oper} {t : TypeId} {x0 x1 x2 x3 : Operand} {u0 u1 u2 u3 r : Value} {W : World} (ho : o.op = .build t #[(0, x0), (1, x1), (2, x2), (3, x3)]) (h0 : a.eval x0 = u0) (h1 : a.eval x1 = u1) (h2 : a.eval x2 = u2) (h3 : a.eval x3 = u3)
    (h : (Instr.build t #[(0, u0), (1, u1), (2, u2), (3, u3)]).run P W = .ok r W) : (execOp a.eval o).run P W = .ok (.value r) W := by
  unfold execOp
  simp only [ho, List.map_toArray, List.map_cons, List.map_nil, h0, h1, h2, h3, h, Sem.run_bind, Sem.run_pure, Result.andThen_ok]
theorem gx_build2 {P : Program} {a : Act} {o : Oper} {t : TypeId} {x0 x1 : Operand} {u0 u1 r : Value} {W : World} (ho : o.op = .build t #[(0, x0), (1, x1)]) (h0 : a.eval x0 = u0) (h1 : a.eval x1 = u1)
    (h : (Instr.build t #[(0, u0), (1, u1)]).run P W = .ok r W) : (execOp a.eval o).run P W = .ok (.value r) W := by
  unfold execOp
  simp only [ho, List.map_toArray, List.map_cons, List.map_nil, h0, h1, h, Sem.run_bind, Sem.run_pure, Result.andThen_ok]
theorem gx_assign {P : Program} {a : Act} {o : Oper} {W : World} {x : Operand} {v : Value} (ho : o.op = .assign x) (hx : a.eval x = v) : (execOp a.eval o).run P W = .ok (.value v) W := by
  unfold execOp
  simp only [ho, hx, Sem.run_pure]
theorem gx_make {P : Program} {a : Act} {o : Oper} {t : TypeId} {x y : Operand} {u u' v : Value} {W W' : World} (ho : o.op = .makeSlice t x y) (hx : a.eval x = u) (hy : a.eval y = u') (h : (Instr.makeSlice t u u').run P W = .ok v W') : (execOp a.eval o).run P W = .ok (.value v) W' := by
  unfold execOp
  simp only [ho, hx, hy, h, Sem.run_bind, Sem.run_pure, Result.andThen_ok]
theorem gx_len {P : Program} {a : Act} {o : Oper} {W : World} {x : Operand} {t : TypeId} {e : TypeId} {A : Option Addr} {n c : Nat} (ho : o.op = .call { callee := .builtin .len, args := #[x], argTypes := #[t] }) (hx : a.eval x = .slice A n c) (ht : P.underlying t = some (.slice e)) : (execOp a.eval o).run P W = .ok (.value (.int .i64 (n : Int))) W := by
  unfold execOp
  simp [ho, hx, resolve, invoke, builtin, Builtin.len_, run_underlying ht, Result.andThen]
  rfl
theorem wpList_store_mid {P : Program} {ops : Array Oper} {rest : List Oper} {o : Oper} {a : Act} {w : World} {Q : Exit → Act → World → Prop} (hgd : Region.wanted o (yielded ops a.tmps) = true) (ty : TypeId) (x y : Operand) (ho : o.op = .store ty x y) {g off : Nat} {t : TypeId} {old : Array Value} (cells : Array Value) (hb : Blk w g t old)
    (hx : a.eval x = .pointer (some ⟨g, off, none⟩)) (hy : a.eval y = .agg cells) (hs : off + cells.size ≤ old.size) (hi : (P.info? ty).map (·.size) = some cells.size) (h1 : ∀ v ∈ cells.toList, v.oneCell' = true)
    (h : ∀ w' C', Blk w' g t C' → C'.size = old.size → (∀ j, C'[j]? = if off ≤ j ∧ j < off + cells.size then cells[j - off]? else old[j]?) → Turn (only g) w w' → wpList P ops Q rest (a.put o.dst undef) w') : wpList P ops Q (o :: rest) a w :=
  wpList_step fun K hK => by
    rw [if_pos hgd]
    have hr := run_storeAt_mid (P := P) w g off ty cells (blk_there hb off _ hs) hi (Array.all_eq_true_iff_forall_mem.2 fun v hv => h1 v (by simpa using hv))
    obtain ⟨C', c1, c2, c3⟩ := setCells_blk cells.toList w g off t old hb
    have ht := setCells_turn cells.toList w g off
    generalize w.setCells g off cells.toList = w' at *
    unfold Oper.wp execOp
    simp only [ho, hx, hy, hr, Sem.run_bind, Sem.run_pure, Result.andThen_ok]
    refine hK _ _ (h w' C' c1 c2 (fun j => ?_) ht)
    rw [c3]
    have hl : cells.toList.length = cells.size := by simp
    rw [hl]
    by_cases hj : off ≤ j ∧ j < off + cells.size
    · rw [if_pos hj, if_pos ⟨hj.1, hj.2, by omega⟩, Array.getElem?_toList]
    · rw [if_neg hj, if_neg (by omega)]
theorem wpList_store1 {P : Program} {ops : Array Oper} {rest : List Oper} {o : Oper} {a : Act} {w : World} {Q : Exit → Act → World → Prop} (hgd : Region.wanted o (yielded ops a.tmps) = true) (ty : TypeId) (x y : Operand) (ho : o.op = .store ty x y) {g i : Nat} {t : TypeId} {old : Array Value} {v : Value} (hb : Blk w g t old)
    (hx : a.eval x = .pointer (some ⟨g, i, none⟩)) (hy : a.eval y = v) (hi : i < old.size) (hv : v.cells = #[v]) (h1 : v.oneCell' = true) (hsz : (P.info? ty).map (·.size) = some 1)
    (h : Blk (w.setCell ⟨g, i, none⟩ v) g t (old.setIfInBounds i v) → Turn (only g) w (w.setCell ⟨g, i, none⟩ v) → wpList P ops Q rest (a.put o.dst undef) (w.setCell ⟨g, i, none⟩ v)) : wpList P ops Q (o :: rest) a w :=
  wpList_step fun K hK => by
    rw [if_pos hgd]
    obtain ⟨j, hj, hjs⟩ := Option.map_eq_some_iff.1 hsz
    have hc : w.cell? ⟨g, i, none⟩ = some (old[i]) := by rw [hb.cell i, Array.getElem?_eq_getElem hi]
    have hf : w.frozen? ⟨g, i, none⟩ = false := hb.frozen i
    have hst : (Instr.storeAt ty (.pointer (some ⟨g, i, none⟩)) v).run P w = .ok () (w.setCell ⟨g, i, none⟩ v) := by
      have h0 : (⟨g, i, none⟩ : Addr).add 0 = ⟨g, i, none⟩ := by simp [Addr.add]
      simp [Instr.storeAt, storeVar, hv, Instr.sureAddr, sizeOf, typeInfo, hj, hjs, Result.andThen, storeCells, run_store _ _ _ _ _ h1, stored, h0, hc, hf]
    unfold Oper.wp execOp
    simp only [ho, hx, hy, hst, Sem.run_bind, Sem.run_pure, Result.andThen_ok]
    exact hK _ _ (h (hb.set_ i v) ((Turn.refl _ w).at_ i v))
end Go.Proofs.YtelipeoilcepbaaDoor
namespace Go.Proofs.YtelipeoilcepbaaDoor
open Go.RowKit
set_option linter.unusedVariables false
set_option linter.unusedSimpArgs false
section
variable {α : Type}
end
section
variable {P : Program} {st et : TypeId} {k by_ : Nat} {z : Value}
theorem Elm.size (E : Elm P st et k by_ z) : ∃ i, P.info? et = some i ∧ i.size = k := by
  obtain ⟨i0, hi0, _, hz1, _⟩ := info_parts E.inf
  exact ⟨i0, hi0, hz1⟩
theorem sl_to (E : Elm P st et k by_ z) (A : Option Addr) (n c e : Nat) (hc : e ≤ c) (W : World) : (Instr.sliceAt st (.slice A n c) none (some (.int .i64 (e : Int))) none).run P W = .ok (.slice A e c) W := by
  obtain ⟨i, hi1, hi2⟩ := E.size
  have b1 : (0 : Int) ≤ (e : Int) ∧ (e : Int) ≤ (c : Int) := ⟨by omega, by omega⟩
  simp [Instr.sliceAt, Instr.slice, Instr.sliceBounds, Instr.sliceBound, asIntOf, run_underlying E.und, sizeOf, typeInfo, hi1, b1]
  rw [if_pos (show e ≤ c by omega)]
  cases A <;> simp [Addr.add]
def fromK (k : Nat) (A : Option Addr) (c d : Nat) : Option Addr := if c = d then A else A.map (·.add (d * k))
theorem sl_from (E : Elm P st et k by_ z) (A : Option Addr) (n c d : Nat) (h0 : d ≤ n) (hc : n ≤ c) (W : World) : (Instr.sliceAt st (.slice A n c) (some (.int .i64 (d : Int))) none none).run P W = .ok (.slice (fromK k A c d) (n - d) (c - d)) W := by
  obtain ⟨i, hi1, hi2⟩ := E.size
  have b1 : (0 : Int) ≤ (d : Int) ∧ (d : Int) ≤ (n : Int) := ⟨by omega, by omega⟩
  simp [Instr.sliceAt, Instr.slice, Instr.sliceBounds, Instr.sliceBound, asIntOf, run_underlying E.und, sizeOf, typeInfo, hi1, hi2, b1, fromK]
  intro h
  omega
theorem fromK_at {g o c d : Nat} (h : d < c) : fromK k (some ⟨g, o, none⟩) c d = some ⟨g, o + d * k, none⟩ := by
  unfold fromK
  rw [if_neg (by omega)]
  show some ((⟨g, o, none⟩ : Addr).add (d * k)) = _
  rw [add_nat]
theorem rws_from {w : World} {A : Option Addr} {n c d : Nat} {rs : List (List Value)} (h : Rws w k A n rs) (hd : d ≤ n) (hc : n ≤ c) : Rws w k (fromK k A c d) (n - d) (rs.drop d) := by
  obtain ⟨h1, h2, h3, h4⟩ := h
  refine ⟨by rw [List.length_drop]; omega, fun r hr => h2 r (List.mem_of_mem_drop hr), by omega, fun hp => ?_⟩
  obtain ⟨b, off, rfl, hcell⟩ := h4 (by omega)
  rw [fromK_at (by omega)]
  refine ⟨_, _, rfl, fun i r hr j v hv => ?_⟩
  rw [List.getElem?_drop] at hr
  have := hcell (d + i) r hr j v hv
  rw [show off + d * k + i * k + j = off + (d + i) * k + j from by rw [Nat.add_mul]; omega]
  exact this
theorem run_copyK (E : Elm P st et k by_ z) {w : World} {ty : TypeId} {g o dLen dCap sLen sCap : Nat} {a : Addr} {cur : Array Value} {cs : List Value} (hg : Blk w g et cur) (hn : cs.length = Nat.min sLen dLen * k)
    (hsrc : ∀ j v, cs[j]? = some v → w.cell? (a.add j) = some v) (hfit : o + cs.length ≤ cur.size) (h1 : ∀ v ∈ cs, v.oneCell' = true) :
    (Builtin.copy_ #[st, st] ty #[.slice (some ⟨g, o, none⟩) dLen dCap, .slice (some a) sLen sCap]).run P w = .ok (goInt (Nat.min sLen dLen)) (w.setRow g (cur.toList.take o ++ cs ++ cur.toList.drop (o + cs.length)).toArray) := by
  obtain ⟨i0, hi0, hz0, hz1, hz2⟩ := info_parts E.inf
  have hl := run_loadCells_list (P := P) w a cs hsrc
  have hst := run_storeCells_at (P := P) g o et cs 0 cur w hg (by simpa using hfit) h1
  rw [hn] at hl
  simp [Builtin.copy_, run_underlying E.und, Builtin.lenOf, Builtin.firstCells, sizeOf, typeInfo, hi0, hz1, hl, hst]
end
end Go.Proofs.YtelipeoilcepbaaDoor
namespace Go.Proofs.YtelipeoilcepbaaDoor
open Go.RowKit
set_option linter.unusedVariables false
set_option linter.unusedSimpArgs false
theorem setRow_turn' (w : World) (g : Nat) (cs : Array Value) : Turn (only g) w (w.setRow g cs) := ⟨rfl, rfl, rfl, by simp, fun k _ hk => setRow_other w g k cs hk⟩
theorem orw_block {w : World} {B k b n c : Nat} {et : TypeId} {rs : List (List Value)} (h : Orw w B et k (.slice (some ⟨b, 0, none⟩) n c) rs) : ∃ cur, Blk w b et cur ∧ cur.size = c * k ∧ cur.toList.take (n * k) = rs.flatten ∧ rs.length = n ∧ n ≤ c ∧ c ≤ maxLen ∧ B ≤ b := by
  rcases h.2.2 with ⟨e, _⟩ | ⟨g', cap, cur, e, hb, hg', h1, h2, h3, h4⟩
  · cases e
  · injection e with e1 e2 e3
    injection e1 with e1
    injection e1 with e1 _ _
    subst e1 e2 e3
    exact ⟨cur, hg', h3, h4, rfl, h1, h2, hb⟩
theorem orw_of {w : World} {B k b n c : Nat} {et : TypeId} {rs : List (List Value)} {cur : Array Value} (hb : Blk w b et cur) (hB : B ≤ b) (hf : Fit k rs) (hn : rs.length = n) (hnc : n ≤ c) (hc : c ≤ maxLen) (hs : cur.size = c * k) (ht : cur.toList.take (n * k) = rs.flatten) : Orw w B et k (.slice (some ⟨b, 0, none⟩) n c) rs := by
  subst hn
  exact ⟨hf, by rw [flat_len hf], .inr ⟨b, c, cur, rfl, hB, hb, hnc, hc, hs, ht⟩⟩
section
variable {α : Type}
end
section
variable {P : Program} {st et : TypeId} {k by_ : Nat} {z : Value}
end
end Go.Proofs.YtelipeoilcepbaaDoor
namespace Go.Proofs.YtelipeoilcepbaaDoor
open Go.RowKit
set_option linter.unusedVariables false
section
variable {α : Type} {enc : α → List Value} {k : Nat}
theorem flatten_get? {l : List α} (hk : ∀ x, (enc x).length = k) {j : Nat} (h1 : Fit k (l.map enc)) (hj : j < l.length * k) : ∃ x, l[j / k]? = some x ∧ (l.map enc).flatten[j]? = (enc x)[j % k]? := by
  have k0 : 0 < k := by
    rcases Nat.eq_zero_or_pos k with h | h
    · subst h; omega
    · exact h
  have h2 : j / k < l.length := (Nat.div_lt_iff_lt_mul k0).2 hj
  refine ⟨l[j / k], List.getElem?_eq_getElem h2, ?_⟩
  have h3 := flat_at (i := j / k) (j := j % k) (r := enc l[j / k]) h1 (by rw [List.getElem?_map, List.getElem?_eq_getElem h2]; rfl) (Nat.mod_lt _ k0)
  rw [show j / k * k + j % k = j from by rw [Nat.mul_comm]; exact Nat.div_add_mod j k] at h3
  exact h3
end
section
variable {α : Type} [Inhabited α] {enc : α → List Value} {k : Nat}
theorem put_heap (w : World) (blk : Nat) (F : Array Value) {q : Nat} (h : q ≠ blk) : (Sort.putRow id w blk 0 F).heap[q]? = w.heap[q]? := by
  unfold Sort.putRow Sort.mapBlock
  simp only [Array.getElem?_modify]
  rw [if_neg (fun e => h e.symm)]
theorem sortW_turn (w : World) (blk m : Nat) (d : Array α) (os : Array Obj) : Turn (only blk) w (sortWorldK enc k w blk 0 m d os) := by
  refine ⟨rfl, rfl, rfl, ?_, fun q hq hn => ?_⟩
  · unfold sortWorldK Sort.grow Sort.putRowK Sort.putRow Sort.mapBlock Sort.ahead
    simp
  · unfold sortWorldK Sort.grow Sort.putRowK
    have hs : q < (Sort.putRow id (Sort.ahead w m) blk 0 (Sort.flatK enc k d)).heap.size := by
      rw [Sort.size_putRow]
      exact hq
    show ((Sort.putRow id (Sort.ahead w m) blk 0 (Sort.flatK enc k d)).heap ++ os)[q]? = w.heap[q]?
    rw [Array.getElem?_append_left hs]
    exact put_heap _ _ _ hn
theorem sortW_blk {w : World} {blk m : Nat} {t : TypeId} {cur : Array Value} (d : Array α) (os : Array Obj) (h : Blk w blk t cur) : Blk (sortWorldK enc k w blk 0 m d os) blk t (Sort.putCells id 0 (Sort.flatK enc k d) cur) := by
  unfold Blk sortWorldK Sort.grow Sort.putRowK
  have hl : blk < w.heap.size := h.lt
  have hs : blk < (Sort.putRow id (Sort.ahead w m) blk 0 (Sort.flatK enc k d)).heap.size := by
    rw [Sort.size_putRow]
    exact hl
  show ((Sort.putRow id (Sort.ahead w m) blk 0 (Sort.flatK enc k d)).heap ++ os)[blk]? = _
  rw [Array.getElem?_append_left hs]
  unfold Sort.putRow Sort.mapBlock
  have h2 : (Sort.ahead w m).heap[blk]? = some (.cells cur t (0, 0)) := h
  simp only [Array.getElem?_modify, h2]
  rfl
theorem flatK_get? {d : Array α} (hk : ∀ x, (enc x).length = k) {j : Nat} (hj : j < d.size * k) : ∃ x, d[j / k]? = some x ∧ (Sort.flatK enc k d)[j]? = (enc x)[j % k]? := by
  have k0 : 0 < k := by
    rcases Nat.eq_zero_or_pos k with h | h
    · subst h; omega
    · exact h
  have h1 : j / k < d.size := (Nat.div_lt_iff_lt_mul k0).2 hj
  refine ⟨d[j / k], Array.getElem?_eq_getElem h1, ?_⟩
  have h2 := Sort.get_flatK enc k d j hj
  have h3 : (enc d[j / k]).length = k := hk _
  have h4 : j % k < (enc d[j / k]).length := by rw [h3]; exact Nat.mod_lt _ k0
  rw [List.getElem?_eq_getElem h4]
  have h5 : j < (Sort.flatK enc k d).size := by rw [Sort.size_flatK]; exact hj
  rw [Array.getElem?_eq_getElem h5, ← getElem!_pos (Sort.flatK enc k d) j h5, h2, getElem!_pos d (j / k) h1, getElem!_pos (enc d[j / k]) (j % k) h4]
theorem orw_holds {w : World} {B b n c : Nat} {et : TypeId} {xs : List α} (hk : ∀ x, (enc x).length = k) (h : Orw w B et k (.slice (some ⟨b, 0, none⟩) n c) (xs.map enc)) : Sort.HoldsK enc k w b 0 xs.toArray := by
  obtain ⟨cur, h1, h2, h3, h4, h5, h6, h7⟩ := orw_block h
  rw [List.length_map] at h4
  intro j hj
  rw [Sort.size_flatK] at hj
  have hj2 : j < xs.length * k := by simpa using hj
  obtain ⟨x, e1, e2⟩ := flatK_get? (d := xs.toArray) hk hj
  obtain ⟨y, e3, e4⟩ := flatten_get? hk h.1 hj2
  have exy : x = y := by
    rw [List.getElem?_toArray] at e1
    exact Option.some.inj (e1.symm.trans e3)
  subst exy
  have h5 : j < (Sort.flatK enc k xs.toArray).size := by rw [Sort.size_flatK]; exact hj
  refine ⟨?_, h1.frozen _⟩
  rw [Nat.zero_add, h1.cell, getElem!_pos _ j h5, id, ← Array.getElem?_eq_getElem h5, e2, ← e4, ← h3, List.getElem?_take, if_pos (by rw [← h4]; exact hj2), Array.getElem?_toList]
theorem orw_sorted {w : World} {B b n c m : Nat} {et : TypeId} {xs : List α} (hk : ∀ x, (enc x).length = k) (h1 : ∀ x, ∀ v ∈ enc x, v.oneCell' = true) (h : Orw w B et k (.slice (some ⟨b, 0, none⟩) n c) (xs.map enc)) {d : Array α} (hd : d.size = xs.length) (os : Array Obj) :
    Orw (sortWorldK enc k w b 0 m d os) B et k (.slice (some ⟨b, 0, none⟩) n c) (d.toList.map enc) := by
  obtain ⟨cur, g1, g2, g3, g4, g5, g6, g7⟩ := orw_block h
  rw [List.length_map] at g4
  have hf : Fit k (d.toList.map enc) := fun r hr => by
    obtain ⟨x, _, rfl⟩ := List.mem_map.1 hr
    exact ⟨hk x, h1 x⟩
  refine orw_of (sortW_blk d os g1) g7 hf (by simp [hd, g4]) g5 g6 (by simp [Sort.putCells, g2]) ?_
  refine List.ext_getElem? fun j => ?_
  rw [List.getElem?_take]
  by_cases hj : j < n * k
  · rw [if_pos hj, Array.getElem?_toList]
    have hjd : j < d.size * k := by rw [hd, g4]; exact hj
    obtain ⟨x, e1, e2⟩ := flatK_get? (d := d) hk hjd
    obtain ⟨y, e3, e4⟩ := flatten_get? (l := d.toList) hk hf (by simpa using hjd)
    have exy : x = y := by
      rw [Array.getElem?_toList] at e3
      exact Option.some.inj (e1.symm.trans e3)
    subst exy
    have hc : j < cur.size := by
      rw [g2]
      exact Nat.lt_of_lt_of_le hj (Nat.mul_le_mul_right _ g5)
    have h5 : j < (Sort.flatK enc k d).size := by rw [Sort.size_flatK]; exact hjd
    unfold Sort.putCells
    rw [Array.getElem?_mapIdx, Array.getElem?_eq_getElem hc, Option.map_some, if_pos ⟨Nat.zero_le _, by rw [Nat.zero_add]; exact h5⟩, Nat.sub_zero, id, getElem!_pos _ j h5, ← Array.getElem?_eq_getElem h5, e2, e4]
  · rw [if_neg hj, List.getElem?_eq_none (by rw [flat_len hf, List.length_map, Array.length_toList, hd, g4]; omega)]
theorem perm_of {xs : List α} {d : Array α} (h : Sort.PermIn 0 xs.toArray.size xs.toArray d) : d.size = xs.length ∧ d.toList.Perm xs := by
  obtain ⟨h1, _, h3⟩ := h
  have hs : d.size = xs.length := by simpa using h1
  refine ⟨hs, ?_⟩
  have e1 : d.extract 0 xs.toArray.size = d := by
    rw [← h1]
    exact Array.extract_size
  have e2 : xs.toArray.extract 0 xs.toArray.size = xs.toArray := Array.extract_size
  rw [e1, e2] at h3
  exact h3
end
end Go.Proofs.YtelipeoilcepbaaDoor
