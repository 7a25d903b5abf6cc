/-
  Rows of elements of any number of cells that are the call's own, and grow; copies into their middle. No conditions; it imports nothing of the program.
-/
import Derived.Test.YtkcedcllefcboaaRws
import Derived.Test.YtkcedcllefcboaaStore
import Derived.Test.YtkcedcllefcboaaBuild
import Derived.Laws.AppendOwnNone
import Derived.Laws.OwnMore
import Derived.Maps.AppendAt
import Derived.Laws.CopyRow
namespace Go.Proofs.Ytkcedcllefcboaa
open Go.RowKit Go.ChangeShapes Go.WideShapes Go.Deep
set_option linter.unusedVariables false
set_option linter.unusedSimpArgs false
/-- a slice type and its element: so many cells, so many bytes, its zero value -/
structure Elm (P : Program) (st et : TypeId) (k by_ : Nat) (z : Value) : Prop where
  und : P.underlying st = some (.slice et)
  inf : (P.info? et).map (fun i => (i.zero, i.size, i.bytes)) = some (some z, k, by_)
  zsz : z.cells.size = k
  pos : 0 < k
  byp : 1 ≤ by_
/-- n rows of k cells: all of k cells, each cell one cell -/
def Fit (k : Nat) (rs : List (List Value)) : Prop := ∀ r ∈ rs, r.length = k ∧ ∀ u ∈ r, u.oneCell' = true
theorem Fit.app {k : Nat} {a b : List (List Value)} (h : Fit k a) (g : Fit k b) : Fit k (a ++ b) := fun r hr => by
  rcases List.mem_append.1 hr with hr | hr
  · exact h r hr
  · exact g r hr
theorem Fit.nil (k : Nat) : Fit k [] := fun r h => (by cases h)
theorem Fit.one {k : Nat} {r : List Value} (h : r.length = k) (g : ∀ u ∈ r, u.oneCell' = true) : Fit k [r] := fun x hx => by
  obtain rfl : x = r := by simpa using hx
  exact ⟨h, g⟩
theorem Fit.sub {k : Nat} {a b : List (List Value)} (h : Fit k b) (g : ∀ r ∈ a, r ∈ b) : Fit k a := fun r hr => h r (g r hr)
theorem flat_len {k : Nat} : ∀ {rs : List (List Value)}, Fit k rs → rs.flatten.length = rs.length * k
  | [], _ => by simp
  | r :: rs, h => by
    rw [List.flatten_cons, List.length_append, flat_len (rs := rs) (fun x hx => h x (List.mem_cons_of_mem _ hx)), (h r (List.mem_cons_self ..)).1, List.length_cons, Nat.succ_mul]
    omega
theorem flat_at {k : Nat} : ∀ {rs : List (List Value)} {i j : Nat} {r : List Value}, Fit k rs → rs[i]? = some r → j < k → rs.flatten[i * k + j]? = r[j]?
  | [], i, j, r, _, h, _ => by cases h
  | q :: rs, 0, j, r, h, hr, hj => by
    obtain rfl : q = r := by simpa using hr
    rw [Nat.zero_mul, Nat.zero_add, List.flatten_cons, List.getElem?_append_left (by rw [(h q (List.mem_cons_self ..)).1]; exact hj)]
  | q :: rs, i + 1, j, r, h, hr, hj => by
    have hq := (h q (List.mem_cons_self ..)).1
    rw [List.flatten_cons, show (i + 1) * k + j = q.length + (i * k + j) from by rw [hq, Nat.succ_mul]; omega, List.getElem?_append_right (by omega), Nat.add_sub_cancel_left]
    exact flat_at (fun x hx => h x (List.mem_cons_of_mem _ hx)) (by simpa using hr) hj
theorem flat_one {k : Nat} {rs : List (List Value)} (h : Fit k rs) : ∀ u ∈ rs.flatten, u.oneCell' = true := fun u hu => by
  obtain ⟨r, hr, hu⟩ := List.mem_flatten.1 hu
  exact (h r hr).2 u hu
theorem flat_get {k : Nat} (hk : 0 < k) {rs : List (List Value)} (h : Fit k rs) {j : Nat} {u : Value} (hu : rs.flatten[j]? = some u) : ∃ r, rs[j / k]? = some r ∧ r[j % k]? = some u := by
  have hjl : j < rs.length * k := by
    have := (List.getElem?_eq_some_iff.1 hu).1
    rwa [flat_len h] at this
  have hd : j / k < rs.length := (Nat.div_lt_iff_lt_mul hk).2 hjl
  have hr : rs[j / k]? = some rs[j / k] := List.getElem?_eq_getElem hd
  refine ⟨_, hr, ?_⟩
  have := flat_at (j := j % k) h hr (Nat.mod_lt _ hk)
  rw [show j / k * k + j % k = j from by rw [Nat.mul_comm]; exact Nat.div_add_mod j k] at this
  rw [← this, hu]
/-- a row of the call's own, newer than B -/
def Orw (w : World) (B : Nat) (et : TypeId) (k : Nat) (v : Value) (rs : List (List Value)) : Prop := Fit k rs ∧ w.ownsRow B et k v rs.length rs.flatten
section
variable {w w' : World} {B k : Nat} {et : TypeId} {v : Value} {rs : List (List Value)} {F : Nat → Prop}
theorem Orw.nil (w : World) (B : Nat) (et : TypeId) (k : Nat) : Orw w B et k (.slice none 0 0) [] := ⟨Fit.nil k, World.ownsRow_nil _ _ _ _⟩
theorem Orw.turn (h : Orw w B et k v rs) (ht : Turn F w w') (hF : ∀ b, v.ownBlock = some b → ¬ F b) : Orw w' B et k v rs := by
  refine ⟨h.1, h.2.1, ?_⟩
  rcases h.2.2 with h0 | ⟨g, cap, cur, rfl, hb1, hgg, rest⟩
  · exact .inl h0
  · have hlt : g < w.heap.size := (Array.getElem?_eq_some_iff.1 hgg).1
    exact .inr ⟨g, cap, cur, rfl, hb1, by rw [ht.block g hlt (hF g rfl)]; exact hgg, rest⟩
theorem Orw.still (h : Orw w B et k v rs) (ht : Turn nowhere w w') : Orw w' B et k v rs := h.turn ht fun _ _ e => e
theorem Orw.less {C : Nat} (h : Orw w B et k v rs) (hC : C ≤ B) : Orw w C et k v rs := by
  refine ⟨h.1, h.2.1, ?_⟩
  rcases h.2.2 with h0 | ⟨g, cap, cur, rfl, hb1, rest⟩
  · exact .inl h0
  · exact .inr ⟨g, cap, cur, rfl, Nat.le_trans hC hb1, rest⟩
theorem Orw.form (h : Orw w B et k v rs) : ∃ A c, v = .slice A rs.length c ∧ rs.length ≤ c ∧ c ≤ maxLen ∧ (A = none → c = 0) ∧ (∀ a, A = some a → B ≤ a.block ∧ a.block < w.heap.size) := by
  rcases h.2.2 with ⟨rfl, h0⟩ | ⟨g, cap, cur, rfl, hb1, hg, h1, h2, _⟩
  · exact ⟨none, 0, (by rw [h0]), (by omega), (by unfold maxLen; omega), fun _ => rfl, fun a e => (by cases e)⟩
  · exact ⟨_, _, rfl, h1, h2, fun e => (by cases e), fun a e => (by obtain rfl := Option.some.inj e; exact ⟨hb1, (Array.getElem?_eq_some_iff.1 hg).1⟩)⟩
theorem Orw.lt (h : Orw w B et k v rs) {b : Nat} (hb : v.ownBlock = some b) : B ≤ b ∧ b < w.heap.size := by
  rcases h.2.2 with ⟨rfl, h0⟩ | ⟨g, cap, cur, rfl, hb1, hg, h1, h2, _⟩
  · cases hb
  · obtain rfl : g = b := Option.some.inj hb
    exact ⟨hb1, (Array.getElem?_eq_some_iff.1 hg).1⟩
/-- a block of another sort is not its own -/
theorem Orw.ne {g : Nat} {t : TypeId} {cs : Array Value} (h : Orw w B et k v rs) (hg : Blk w g t cs) (ht : t ≠ et) : ∀ b, v.ownBlock = some b → b ≠ g := by
  intro b hb e
  subst e
  rcases h.2.2 with ⟨rfl, _⟩ | ⟨g', cap, cur, rfl, _, hg', _⟩
  · cases hb
  · obtain rfl : g' = b := Option.some.inj hb
    exact (show Blk w g' et cur from hg').ne_ hg (fun h => ht h.symm) rfl
theorem Orw.rws {A : Option Addr} {n c : Nat} (h : Orw w B et k (.slice A n c) rs) (hn : rs.length ≤ 140737488355328) (hk : 0 < k) : Rws w k A n rs := by
  obtain ⟨A', c', e, _⟩ := h.form
  injection e with e1 e2 e3
  subst e1 e2 e3
  refine ⟨rfl, fun r hr => (h.1 r hr).1, hn, fun hp => ?_⟩
  rcases h.2.2 with ⟨e, h0⟩ | ⟨g, cap, cur, e, hb1, hg, h1, h2, h3, h4⟩
  · omega
  · injection e with e1 e2 e3
    subst e1
    refine ⟨g, 0, rfl, fun i r hr j u hu => ?_⟩
    have hj : j < k := by
      have := (List.getElem?_eq_some_iff.1 hu).1
      rwa [(h.1 r (List.mem_of_getElem? hr)).1] at this
    have hf := flat_at h.1 hr hj
    rw [hu] at hf
    have := World.ownsRow.cells (g := g) h.2 rfl (i * k + j) u hf
    rw [add_nat] at this
    rw [Nat.zero_add] at this ⊢
    exact this
end
section
variable {P : Program} {st et : TypeId} {k by_ : Nat} {z : Value}
/-- append of elements that lie anywhere -/
theorem orw_grow (E : Elm P st et k by_ z) {B : Nat} {w : World} {v : Value} {rs news : List (List Value)} {A : Option Addr} {m c : Nat} {ty : TypeId} (hown : Orw w B et k v rs) (hB : B ≤ w.heap.size) (hb : Rws w k A m news) (hf : Fit k news) (hc : A = none → c = 0) (hlen : (rs.length + m) * by_ ≤ 140737488355328) :
    ∃ A' c' w', (Builtin.append_ #[st, st] ty #[v, .slice A m c]).run P w = .ok (.slice A' (rs.length + m) c') w' ∧ Orw w' B et k (.slice A' (rs.length + m) c') (rs ++ news) ∧ w.grownBy w' v.ownBlock ∧ ((Value.slice A' (rs.length + m) c').ownBlock = v.ownBlock ∨ (Value.slice A' (rs.length + m) c').ownBlock = some w.heap.size) := by
  obtain ⟨h1, _, _, h3⟩ := hb
  obtain ⟨i0, hi0, hz0, hz1, hz2⟩ := info_parts E.inf
  rcases A with _ | A
  · obtain rfl := hc rfl
    have hm0 : m = 0 := by
      rcases Nat.eq_zero_or_pos m with h0 | h0
      · exact h0
      · obtain ⟨_, _, h4, _⟩ := h3 h0; cases h4
    subst hm0
    have hn : news = [] := List.eq_nil_of_length_eq_zero h1
    subst hn
    have hrun := run_append_owned_none (P := P) (w := w) B st ty et i0 k E.und hi0 v _ _ hown.2
    obtain ⟨A', c', rfl, _⟩ := hown.form
    exact ⟨A', c', w, hrun, by rw [List.append_nil]; exact hown, ⟨rfl, rfl, rfl, Nat.le_refl _, fun _ _ _ => rfl⟩, .inl rfl⟩
  · have hk := E.pos
    have hle : (rs.length + m) * 1 ≤ (rs.length + m) * by_ := Nat.mul_le_mul_left _ E.byp
    obtain ⟨v', w', g1, g2, g3, _, g5⟩ := run_append_own_at (P := P) w B st ty et i0 z k by_ E.und hi0 hz0 hz1 hz2 E.zsz E.pos v rs.length _ hown.2 A m c news.flatten (by rw [flat_len hf, h1]) (fun j u hj => by
        obtain ⟨r, hr, hu⟩ := flat_get E.pos hf hj
        have hm : 0 < m := by
          have := (List.getElem?_eq_some_iff.1 hr).1
          rw [h1] at this
          exact Nat.lt_of_le_of_lt (Nat.zero_le _) this
        obtain ⟨b, off, e, hcell⟩ := h3 hm
        obtain rfl := Option.some.inj e
        have := hcell _ r hr _ u hu
        rw [add_nat]
        rwa [Nat.add_assoc, show j / k * k + j % k = j from by rw [Nat.mul_comm]; exact Nat.div_add_mod j k] at this) (flat_one hf) (by unfold maxLen; omega) hlen hB
    have hO : Orw w' B et k v' (rs ++ news) := ⟨hown.1.app hf, by
      rw [List.length_append, h1, List.flatten_append]
      exact g2⟩
    obtain ⟨A', c', rfl, _⟩ := hO.form
    rw [List.length_append, h1] at g1 hO g5
    exact ⟨A', c', w', g1, hO, g3, g5⟩
theorem orw_more (E : Elm P st et k by_ z) {F : Nat → Prop} {W1 w : World} {v : Value} {rs news : List (List Value)} {A : Option Addr} {m c : Nat} {ty : TypeId} (hown : Orw w W1.heap.size et k v rs) (hT : Turn F W1 w) (hb : Rws w k A m news) (hf : Fit k news) (hc : A = none → c = 0) (hlen : (rs.length + m) * by_ ≤ 140737488355328) :
    ∃ A' c' w', (Builtin.append_ #[st, st] ty #[v, .slice A m c]).run P w = .ok (.slice A' (rs.length + m) c') w' ∧ Orw w' W1.heap.size et k (.slice A' (rs.length + m) c') (rs ++ news) ∧ Turn F W1 w' := by
  obtain ⟨A', c', w', h1, h2, h3, _⟩ := orw_grow E (ty := ty) hown hT.size hb hf hc hlen
  exact ⟨A', c', w', h1, h2, hT.grown h3 fun g e hg => by
    have := (hown.lt e).1
    omega⟩
/-- an element in a block of its own: what is built of one -/
theorem build_one (E : Elm P st et k by_ z) (r : List Value) (hr : r.length = k) (h63 : k ≤ 4096) (u : Value) (hu : u.cells = r.toArray) (W : World) : (Instr.buildSlice st 1 #[(0, u)]).run P W = .ok (.slice (some ⟨W.heap.size, 0, none⟩) 1 1) (W.alloc (.cells r.toArray et)) := by
  obtain ⟨i0, hi0, hz0, hz1, hz2⟩ := info_parts E.inf
  have := run_buildSlice_one (P := P) (v := u) E.und hi0 hz0 (by rw [hz1, hu]; simpa using hr) (by rw [hz1]; exact E.zsz) (by rw [hz1]; exact E.pos) (by rw [hz1]; omega) W
  rw [hu] at this
  exact this
theorem rws_one {w : World} {r : List Value} (hr : r.length = k) (hw : Blk w w.heap.size et r.toArray → True) : Rws (w.alloc (.cells r.toArray et)) k (some ⟨w.heap.size, 0, none⟩) 1 [r] := by
  refine ⟨rfl, fun x hx => ?_, by omega, fun _ => ⟨_, _, rfl, fun i x hx j u hu => ?_⟩⟩
  · obtain rfl : x = r := by simpa using hx
    exact hr
  · have hi : i = 0 := by
      have := (List.getElem?_eq_some_iff.1 hx).1
      simpa using this
    subst hi
    obtain rfl : r = x := by simpa using hx
    rw [(Blk.new w et r.toArray).cell, Nat.zero_mul, Nat.zero_add]
    simpa using hu
/-- append of one element -/
theorem orw_add (E : Elm P st et k by_ z) {F : Nat → Prop} {W1 w : World} {v : Value} {rs : List (List Value)} {ty : TypeId} (hown : Orw w W1.heap.size et k v rs) (hT : Turn F W1 w) (r : List Value) (hr : r.length = k) (h1 : ∀ u ∈ r, u.oneCell' = true) (hlen : (rs.length + 1) * by_ ≤ 140737488355328) :
    ∃ A' c' w', (Builtin.append_ #[st, st] ty #[v, .slice (some ⟨w.heap.size, 0, none⟩) 1 1]).run P (w.alloc (.cells r.toArray et)) = .ok (.slice A' (rs.length + 1) c') w' ∧ Orw w' W1.heap.size et k (.slice A' (rs.length + 1) c') (rs ++ [r]) ∧ Turn F W1 w' :=
  orw_more E (c := 1) (hown.still ((Turn.refl nowhere w).alloc (.cells r.toArray et))) (hT.alloc _) (rws_one hr fun _ => trivial) (Fit.one hr h1) (fun h => by cases h) hlen
/-- append(T{}, l...): a copy -/
theorem copy_rws (E : Elm P st et k by_ z) {w : World} {A : Option Addr} {m c : Nat} {rs : List (List Value)} {ty : TypeId} (hb : Rws w k A m rs) (hf : Fit k rs) (hc : A = none → c = 0) (hm : m * by_ ≤ 140737488355328) :
    ∃ A' c' w', (Builtin.append_ #[st, st] ty #[.slice (some ⟨w.heap.size, 0, none⟩) 0 0, .slice A m c]).run P (w.alloc (.cells #[] et)) = .ok (.slice A' m c') w' ∧ Orw w' w.heap.size et k (.slice A' m c') rs ∧ Turn nowhere w w' := by
  have hT := (Turn.refl nowhere w).alloc (.cells #[] et)
  obtain ⟨A', c', w', h1, h2, h3⟩ := orw_more E (ty := ty) (rs := []) (c := c) (W1 := w) (show Orw (w.alloc (.cells #[] et)) w.heap.size et k (.slice (some ⟨w.heap.size, 0, none⟩) 0 0) [] from
    ⟨Fit.nil k, World.ownsRow_made w #[] 0 (Nat.le_refl _) (by unfold maxLen; omega) (by simp)⟩) hT (hb.still hT) hf hc (by simpa using hm)
  have hl : ([] : List (List Value)).length + m = m := by simp
  rw [hl] at h1 h2
  exact ⟨A', c', w', h1, h2, h3⟩
end
end Go.Proofs.Ytkcedcllefcboaa
