/-
  Texts in one file. Conditions: the tables and the errors read as laid.
-/
import Derived.Test.YtkagijifkpoplaaGreatDoorJT0
import Derived.Laws.AppendOwnNone
import Derived.Laws.OwnMore
import Derived.Maps.AppendAt
import Derived.Laws.CopyRow
import Derived.Lib.AppendZerosOnto
import Derived.Lib.Overlaps
import Derived.Laws.Externs
import Derived.Laws.EntriesVeiled
import Derived.Laws.IdiomStrings
import Derived.Laws.Strings
import Derived.Laws.Slices
import Derived.Laws.Concat
import Derived.Laws.Strings3
import Derived.Deep.Cut
import Derived.Deep.DeepCutAuto
import Derived.Deep.CutRange
import Derived.Deep.LoopGhost
import Derived.WalkSmall
import Derived.Deep.QuietTactic
import Derived.BigQuiet
import Derived.StillTailTactics
import Derived.Laws.Bits64
set_option linter.unusedVariables false
set_option linter.unusedSimpArgs false
set_option maxRecDepth 40000
set_option maxHeartbeats 20000000
namespace Go.Proofs.YtkagijifkpoplaaGreatDoor
open Go.RowKit Go.ChangeShapes Go.WideShapes Go.Deep
structure Elm (P : Program) (st et : TypeId) (k by_ : Nat) (z : Value) : Prop where
 und : P.underlying st = some (.slice et)
 inf : (P.info? et).map (fun i => (i.zero, i.size, i.bytes)) = some (some z, k, by_)
 zsz : z.cells.size = k
 pos : 0 < k
 byp : 1 ≤ by_
def Fit (k : Nat) (rs : List (List Value)) : Prop := ∀ r ∈ rs, r.length = k ∧ ∀ u ∈ r, u.oneCell' = true
theorem Fit.app {k : Nat} {a b : List (List Value)} (h : Fit k a) (g : Fit k b) : Fit k (a ++ b) := fun r hr => by
 rcases List.mem_append.1 hr with hr | hr
 ·exact h r hr
 ·exact g r hr
theorem Fit.nil (k : Nat) : Fit k [] := fun r h => (by cases h)
theorem Fit.one {k : Nat} {r : List Value} (h : r.length = k) (g : ∀ u ∈ r, u.oneCell' = true) : Fit k [r] := fun x hx => by
 obtain rfl : x = r := by simpa using hx
 exact ⟨h, g⟩
theorem Fit.sub {k : Nat} {a b : List (List Value)} (h : Fit k b) (g : ∀ r ∈ a, r ∈ b) : Fit k a := fun r hr => h r (g r hr)
theorem flat_len {k : Nat} : ∀ {rs : List (List Value)}, Fit k rs → rs.flatten.length = rs.length * k
 | [], _ => by simp
 | r :: rs, h => by
   rw [List.flatten_cons, List.length_append, flat_len (rs := rs) (fun x hx => h x (List.mem_cons_of_mem _ hx)), (h r (List.mem_cons_self ..)).1, List.length_cons, Nat.succ_mul]
   omega
theorem flat_at {k : Nat} : ∀ {rs : List (List Value)} {i j : Nat} {r : List Value}, Fit k rs → rs[i]? = some r → j < k → rs.flatten[i * k + j]? = r[j]?
 | [], i, j, r, _, h, _ => by cases h
 | q :: rs, 0, j, r, h, hr, hj => by
   obtain rfl : q = r := by simpa using hr
   rw [Nat.zero_mul, Nat.zero_add, List.flatten_cons, List.getElem?_append_left (by rw [(h q (List.mem_cons_self ..)).1]; exact hj)]
 | q :: rs, i + 1, j, r, h, hr, hj => by
   have hq := (h q (List.mem_cons_self ..)).1
   rw [List.flatten_cons, show (i + 1) * k + j = q.length + (i * k + j) from by rw [hq, Nat.succ_mul]; omega, List.getElem?_append_right (by omega), Nat.add_sub_cancel_left]
   exact flat_at (fun x hx => h x (List.mem_cons_of_mem _ hx)) (by simpa using hr) hj
theorem flat_one {k : Nat} {rs : List (List Value)} (h : Fit k rs) : ∀ u ∈ rs.flatten, u.oneCell' = true := fun u hu => by
 obtain ⟨r, hr, hu⟩ := List.mem_flatten.1 hu
 exact (h r hr).2 u hu
theorem flat_get {k : Nat} (hk : 0 < k) {rs : List (List Value)} (h : Fit k rs) {j : Nat} {u : Value} (hu : rs.flatten[j]? = some u) : ∃ r, rs[j / k]? = some r ∧ r[j % k]? = some u := by
 have hjl : j < rs.length * k := by
  have := (List.getElem?_eq_some_iff.1 hu).1
  rwa [flat_len h] at this
 have hd : j / k < rs.length := (Nat.div_lt_iff_lt_mul hk).2 hjl
 have hr : rs[j / k]? = some rs[j / k] := List.getElem?_eq_getElem hd
 refine ⟨_, hr, ?_⟩
 have := flat_at (j := j % k) h hr (Nat.mod_lt _ hk)
 rw [show j / k * k + j % k = j from by rw [Nat.mul_comm]; exact Nat.div_add_mod j k] at this
 rw [← this, hu]
def Orw (w : World) (B : Nat) (et : TypeId) (k : Nat) (v : Value) (rs : List (List Value)) : Prop := Fit k rs ∧ w.ownsRow B et k v rs.length rs.flatten
section
variable {w w' : World} {B k : Nat} {et : TypeId} {v : Value} {rs : List (List Value)} {F : Nat → Prop}
theorem Orw.turn (h : Orw w B et k v rs) (ht : Turn F w w') (hF : ∀ b, v.ownBlock = some b → ¬ F b) : Orw w' B et k v rs := by
 refine ⟨h.1, h.2.1, ?_⟩
 rcases h.2.2 with h0 | ⟨g, cap, cur, rfl, hb1, hgg, rest⟩
 ·exact .inl h0
 ·have hlt : g < w.heap.size := (Array.getElem?_eq_some_iff.1 hgg).1
  exact .inr ⟨g, cap, cur, rfl, hb1, by rw [ht.block g hlt (hF g rfl)]; exact hgg, rest⟩
theorem Orw.still (h : Orw w B et k v rs) (ht : Turn nowhere w w') : Orw w' B et k v rs := h.turn ht fun _ _ e => e
theorem Orw.less {C : Nat} (h : Orw w B et k v rs) (hC : C ≤ B) : Orw w C et k v rs := by
 refine ⟨h.1, h.2.1, ?_⟩
 rcases h.2.2 with h0 | ⟨g, cap, cur, rfl, hb1, rest⟩
 ·exact .inl h0
 ·exact .inr ⟨g, cap, cur, rfl, Nat.le_trans hC hb1, rest⟩
theorem Orw.form (h : Orw w B et k v rs) : ∃ A c, v = .slice A rs.length c ∧ rs.length ≤ c ∧ c ≤ maxLen ∧ (A = none → c = 0) ∧ (∀ a, A = some a → B ≤ a.block ∧ a.block < w.heap.size) := by
 rcases h.2.2 with ⟨rfl, h0⟩ | ⟨g, cap, cur, rfl, hb1, hg, h1, h2, _⟩
 ·exact ⟨none, 0, (by rw [h0]), (by omega), (by unfold maxLen; omega), fun _ => rfl, fun a e => (by cases e)⟩
 ·exact ⟨_, _, rfl, h1, h2, fun e => (by cases e), fun a e => (by obtain rfl := Option.some.inj e; exact ⟨hb1, (Array.getElem?_eq_some_iff.1 hg).1⟩)⟩
theorem Orw.lt (h : Orw w B et k v rs) {b : Nat} (hb : v.ownBlock = some b) : B ≤ b ∧ b < w.heap.size := by
 rcases h.2.2 with ⟨rfl, h0⟩ | ⟨g, cap, cur, rfl, hb1, hg, h1, h2, _⟩
 ·cases hb
 ·obtain rfl : g = b := Option.some.inj hb
  exact ⟨hb1, (Array.getElem?_eq_some_iff.1 hg).1⟩
theorem Orw.ne {g : Nat} {t : TypeId} {cs : Array Value} (h : Orw w B et k v rs) (hg : Blk w g t cs) (ht : t ≠ et) : ∀ b, v.ownBlock = some b → b ≠ g := by
 intro b hb e
 subst e
 rcases h.2.2 with ⟨rfl, _⟩ | ⟨g', cap, cur, rfl, _, hg', _⟩
 ·cases hb
 ·obtain rfl : g' = b := Option.some.inj hb
  exact (show Blk w g' et cur from hg').ne_ hg (fun h => ht h.symm) rfl
end
section
variable {P : Program} {st et : TypeId} {k by_ : Nat} {z : Value}
theorem orw_grow (E : Elm P st et k by_ z) {B : Nat} {w : World} {v : Value} {rs news : List (List Value)} {A : Option Addr} {m c : Nat} {ty : TypeId} (hown : Orw w B et k v rs) (hB : B ≤ w.heap.size) (hb : Rws w k A m news) (hf : Fit k news) (hc : A = none → c = 0) (hlen : (rs.length + m) * by_ ≤ 140737488355328) :
 ∃ A' c' w', (Builtin.append_ #[st, st] ty #[v, .slice A m c]).run P w = .ok (.slice A' (rs.length + m) c') w' ∧ Orw w' B et k (.slice A' (rs.length + m) c') (rs ++ news) ∧ w.grownBy w' v.ownBlock ∧ ((Value.slice A' (rs.length + m) c').ownBlock = v.ownBlock ∨ (Value.slice A' (rs.length + m) c').ownBlock = some w.heap.size) := by
 obtain ⟨h1, _, _, h3⟩ := hb
 obtain ⟨i0, hi0, hz0, hz1, hz2⟩ := info_parts E.inf
 rcases A with _ | A
 ·obtain rfl := hc rfl
  have hm0 : m = 0 := by
   rcases Nat.eq_zero_or_pos m with h0 | h0
   ·exact h0
   ·obtain ⟨_, _, h4, _⟩ := h3 h0; cases h4
  subst hm0
  have hn : news = [] := List.eq_nil_of_length_eq_zero h1
  subst hn
  have hrun := run_append_owned_none (P := P) (w := w) B st ty et i0 k E.und hi0 v _ _ hown.2
  obtain ⟨A', c', rfl, _⟩ := hown.form
  exact ⟨A', c', w, hrun, by rw [List.append_nil]; exact hown, ⟨rfl, rfl, rfl, Nat.le_refl _, fun _ _ _ => rfl⟩, .inl rfl⟩
 ·have hk := E.pos
  have hle : (rs.length + m) * 1 ≤ (rs.length + m) * by_ := Nat.mul_le_mul_left _ E.byp
  obtain ⟨v', w', g1, g2, g3, _, g5⟩ := run_append_own_at (P := P) w B st ty et i0 z k by_ E.und hi0 hz0 hz1 hz2 E.zsz E.pos v rs.length _ hown.2 A m c news.flatten (by rw [flat_len hf, h1]) (fun j u hj => by
   obtain ⟨r, hr, hu⟩ := flat_get E.pos hf hj
   have hm : 0 < m := by
    have := (List.getElem?_eq_some_iff.1 hr).1
    rw [h1] at this
    exact Nat.lt_of_le_of_lt (Nat.zero_le _) this
   obtain ⟨b, off, e, hcell⟩ := h3 hm
   obtain rfl := Option.some.inj e
   have := hcell _ r hr _ u hu
   rw [add_nat]
   rwa [Nat.add_assoc, show j / k * k + j % k = j from by rw [Nat.mul_comm]; exact Nat.div_add_mod j k] at this) (flat_one hf) (by unfold maxLen; omega) hlen hB
  have hO : Orw w' B et k v' (rs ++ news) := ⟨hown.1.app hf, by
   rw [List.length_append, h1, List.flatten_append]
   exact g2⟩
  obtain ⟨A', c', rfl, _⟩ := hO.form
  rw [List.length_append, h1] at g1 hO g5
  exact ⟨A', c', w', g1, hO, g3, g5⟩
theorem orw_more (E : Elm P st et k by_ z) {F : Nat → Prop} {W1 w : World} {v : Value} {rs news : List (List Value)} {A : Option Addr} {m c : Nat} {ty : TypeId} (hown : Orw w W1.heap.size et k v rs) (hT : Turn F W1 w) (hb : Rws w k A m news) (hf : Fit k news) (hc : A = none → c = 0) (hlen : (rs.length + m) * by_ ≤ 140737488355328) :
 ∃ A' c' w', (Builtin.append_ #[st, st] ty #[v, .slice A m c]).run P w = .ok (.slice A' (rs.length + m) c') w' ∧ Orw w' W1.heap.size et k (.slice A' (rs.length + m) c') (rs ++ news) ∧ Turn F W1 w' := by
 obtain ⟨A', c', w', h1, h2, h3, _⟩ := orw_grow E (ty := ty) hown hT.size hb hf hc hlen
 exact ⟨A', c', w', h1, h2, hT.grown h3 fun g e hg => by
  have := (hown.lt e).1
  omega⟩
theorem build_one (E : Elm P st et k by_ z) (r : List Value) (hr : r.length = k) (h63 : k ≤ 4096) (u : Value) (hu : u.cells = r.toArray) (W : World) : (Instr.buildSlice st 1 #[(0, u)]).run P W = .ok (.slice (some ⟨W.heap.size, 0, none⟩) 1 1) (W.alloc (.cells r.toArray et)) := by
 obtain ⟨i0, hi0, hz0, hz1, hz2⟩ := info_parts E.inf
 have := run_buildSlice_one (P := P) (v := u) E.und hi0 hz0 (by rw [hz1, hu]; simpa using hr) (by rw [hz1]; exact E.zsz) (by rw [hz1]; exact E.pos) (by rw [hz1]; omega) W
 rw [hu] at this
 exact this
theorem rws_one {w : World} {r : List Value} (hr : r.length = k) (hw : Blk w w.heap.size et r.toArray → True) : Rws (w.alloc (.cells r.toArray et)) k (some ⟨w.heap.size, 0, none⟩) 1 [r] := by
 refine ⟨rfl, fun x hx => ?_, by omega, fun _ => ⟨_, _, rfl, fun i x hx j u hu => ?_⟩⟩
 ·obtain rfl : x = r := by simpa using hx
  exact hr
 ·have hi : i = 0 := by
   have := (List.getElem?_eq_some_iff.1 hx).1
   simpa using this
  subst hi
  obtain rfl : r = x := by simpa using hx
  rw [(Blk.new w et r.toArray).cell, Nat.zero_mul, Nat.zero_add]
  simpa using hu
theorem orw_add (E : Elm P st et k by_ z) {F : Nat → Prop} {W1 w : World} {v : Value} {rs : List (List Value)} {ty : TypeId} (hown : Orw w W1.heap.size et k v rs) (hT : Turn F W1 w) (r : List Value) (hr : r.length = k) (h1 : ∀ u ∈ r, u.oneCell' = true) (hlen : (rs.length + 1) * by_ ≤ 140737488355328) :
 ∃ A' c' w', (Builtin.append_ #[st, st] ty #[v, .slice (some ⟨w.heap.size, 0, none⟩) 1 1]).run P (w.alloc (.cells r.toArray et)) = .ok (.slice A' (rs.length + 1) c') w' ∧ Orw w' W1.heap.size et k (.slice A' (rs.length + 1) c') (rs ++ [r]) ∧ Turn F W1 w' :=
 orw_more E (c := 1) (hown.still ((Turn.refl nowhere w).alloc (.cells r.toArray et))) (hT.alloc _) (rws_one hr fun _ => trivial) (Fit.one hr h1) (fun h => by cases h) hlen
theorem copy_rws (E : Elm P st et k by_ z) {w : World} {A : Option Addr} {m c : Nat} {rs : List (List Value)} {ty : TypeId} (hb : Rws w k A m rs) (hf : Fit k rs) (hc : A = none → c = 0) (hm : m * by_ ≤ 140737488355328) :
 ∃ A' c' w', (Builtin.append_ #[st, st] ty #[.slice (some ⟨w.heap.size, 0, none⟩) 0 0, .slice A m c]).run P (w.alloc (.cells #[] et)) = .ok (.slice A' m c') w' ∧ Orw w' w.heap.size et k (.slice A' m c') rs ∧ Turn nowhere w w' := by
 have hT := (Turn.refl nowhere w).alloc (.cells #[] et)
 obtain ⟨A', c', w', h1, h2, h3⟩ := orw_more E (ty := ty) (rs := []) (c := c) (W1 := w) (show Orw (w.alloc (.cells #[] et)) w.heap.size et k (.slice (some ⟨w.heap.size, 0, none⟩) 0 0) [] from
  ⟨Fit.nil k, World.ownsRow_made w #[] 0 (Nat.le_refl _) (by unfold maxLen; omega) (by simp)⟩) hT (hb.still hT) hf hc (by simpa using hm)
 have hl : ([] : List (List Value)).length + m = m := by simp
 rw [hl] at h1 h2
 exact ⟨A', c', w', h1, h2, h3⟩
end
section
variable {α : Type}
theorem sg_len (l cs : List α) (o : Nat) (h : o + cs.length ≤ l.length) : (l.take o ++ cs ++ l.drop (o + cs.length)).length = l.length := by
 rw [List.length_append, List.length_append, List.length_take, List.length_drop]
 omega
end
section
variable {P : Program} {st et : TypeId} {k by_ : Nat} {z : Value}
theorem Elm.size (E : Elm P st et k by_ z) : ∃ i, P.info? et = some i ∧ i.size = k := by
 obtain ⟨i0, hi0, _, hz1, _⟩ := info_parts E.inf
 exact ⟨i0, hi0, hz1⟩
theorem sl_to (E : Elm P st et k by_ z) (A : Option Addr) (n c e : Nat) (hc : e ≤ c) (W : World) : (Instr.sliceAt st (.slice A n c) none (some (.int .i64 (e : Int))) none).run P W = .ok (.slice A e c) W := by
 obtain ⟨i, hi1, hi2⟩ := E.size
 have b1 : (0 : Int) ≤ (e : Int) ∧ (e : Int) ≤ (c : Int) := ⟨by omega, by omega⟩
 simp [Instr.sliceAt, Instr.slice, Instr.sliceBounds, Instr.sliceBound, asIntOf, run_underlying E.und, sizeOf, typeInfo, hi1, b1]
 rw [if_pos (show e ≤ c by omega)]
 cases A <;> simp [Addr.add]
def fromK (k : Nat) (A : Option Addr) (c d : Nat) : Option Addr := if c = d then A else A.map (·.add (d * k))
theorem sl_from (E : Elm P st et k by_ z) (A : Option Addr) (n c d : Nat) (h0 : d ≤ n) (hc : n ≤ c) (W : World) : (Instr.sliceAt st (.slice A n c) (some (.int .i64 (d : Int))) none none).run P W = .ok (.slice (fromK k A c d) (n - d) (c - d)) W := by
 obtain ⟨i, hi1, hi2⟩ := E.size
 have b1 : (0 : Int) ≤ (d : Int) ∧ (d : Int) ≤ (n : Int) := ⟨by omega, by omega⟩
 simp [Instr.sliceAt, Instr.slice, Instr.sliceBounds, Instr.sliceBound, asIntOf, run_underlying E.und, sizeOf, typeInfo, hi1, hi2, b1, fromK]
 intro h
 omega
theorem fromK_at {g o c d : Nat} (h : d < c) : fromK k (some ⟨g, o, none⟩) c d = some ⟨g, o + d * k, none⟩ := by
 unfold fromK
 rw [if_neg (by omega)]
 show some ((⟨g, o, none⟩ : Addr).add (d * k)) = _
 rw [add_nat]
end
theorem flat_take {k : Nat} : ∀ {rs : List (List Value)} (i : Nat), Fit k rs → i ≤ rs.length → rs.flatten.take (i * k) = (rs.take i).flatten
 | rs, 0, _, _ => by simp
 | [], i + 1, _, h => by simp at h
 | r :: rs, i + 1, hf, h => by
   have hr := (hf r (List.mem_cons_self ..)).1
   rw [List.flatten_cons, Nat.succ_mul, List.take_succ_cons, List.flatten_cons, show i * k + k = r.length + i * k from by rw [hr, Nat.add_comm], List.take_length_add_append, flat_take i (fun x hx => hf x (List.mem_cons_of_mem _ hx)) (by simpa using h)]
theorem setRow_turn' (w : World) (g : Nat) (cs : Array Value) : Turn (only g) w (w.setRow g cs) := ⟨rfl, rfl, rfl, by simp, fun k _ hk => setRow_other w g k cs hk⟩
theorem orw_block {w : World} {B k b n c : Nat} {et : TypeId} {rs : List (List Value)} (h : Orw w B et k (.slice (some ⟨b, 0, none⟩) n c) rs) : ∃ cur, Blk w b et cur ∧ cur.size = c * k ∧ cur.toList.take (n * k) = rs.flatten ∧ rs.length = n ∧ n ≤ c ∧ c ≤ maxLen ∧ B ≤ b := by
 rcases h.2.2 with ⟨e, _⟩ | ⟨g', cap, cur, e, hb, hg', h1, h2, h3, h4⟩
 ·cases e
 ·injection e with e1 e2 e3
  injection e1 with e1
  injection e1 with e1 _ _
  subst e1 e2 e3
  exact ⟨cur, hg', h3, h4, rfl, h1, h2, hb⟩
theorem orw_of {w : World} {B k b n c : Nat} {et : TypeId} {rs : List (List Value)} {cur : Array Value} (hb : Blk w b et cur) (hB : B ≤ b) (hf : Fit k rs) (hn : rs.length = n) (hnc : n ≤ c) (hc : c ≤ maxLen) (hs : cur.size = c * k) (ht : cur.toList.take (n * k) = rs.flatten) : Orw w B et k (.slice (some ⟨b, 0, none⟩) n c) rs := by
 subst hn
 exact ⟨hf, by rw [flat_len hf], .inr ⟨b, c, cur, rfl, hB, hb, hnc, hc, hs, ht⟩⟩
section
variable {α : Type}
end
section
variable {P : Program} {st et : TypeId} {k by_ : Nat} {z : Value}
end
section
variable {P : Program} {st et : TypeId} {k by_ : Nat} {z : Value}
theorem run_clearK (E : Elm P st et k by_ z) (hv : ∀ w, (zeroValue et).run P w = .ok z w) (h1 : ∀ u ∈ z.cells.toList, u.oneCell' = true) {ty : TypeId} {w : World} {b o n c : Nat} {cur : Array Value} (hb : Blk w b et cur) (hfit : o + n * k ≤ cur.size) :
 ∃ w', (Builtin.clear_ #[st] ty #[.slice (some ⟨b, o, none⟩) n c]).run P w = .ok (.tuple #[]) w' ∧ Turn (only b) w w' ∧ ∃ cur', Blk w' b et cur' ∧ cur'.size = cur.size ∧ cur'.toList.take o = cur.toList.take o := by
 have hzl : (Builtin.zeroCells z.cells n).toList.length = n * k := by
  rw [Array.length_toList, size_zeroCells, E.zsz]
 have hz1 : ∀ u ∈ (Builtin.zeroCells z.cells n).toList, u.oneCell' = true := by
  intro u hu
  unfold Builtin.zeroCells at hu
  simp only [Array.toList_map, List.mem_map] at hu
  obtain ⟨q, hq, rfl⟩ := hu
  have hk := E.pos
  have hlt : q % z.cells.size < z.cells.size := Nat.mod_lt _ (by rw [E.zsz]; exact hk)
  rw [getElem!_pos z.cells _ hlt]
  exact h1 _ (by rw [← Array.getElem_toList]; exact List.getElem_mem _)
 have hst := run_storeCells_at (P := P) b o et (Builtin.zeroCells z.cells n).toList 0 cur w hb (by rw [hzl]; omega) hz1
 simp only [Nat.add_zero] at hst
 rcases Nat.eq_zero_or_pos n with h0 | h0
 ·subst h0
  refine ⟨w, ?_, Turn.refl _ _, cur, hb, rfl, rfl⟩
  simp [Builtin.clear_, run_underlying E.und]
 ·obtain ⟨m, rfl⟩ : ∃ m, n = m + 1 := ⟨n - 1, by omega⟩
  obtain ⟨row, hrow⟩ : ∃ row, row = (cur.toList.take o ++ (Builtin.zeroCells z.cells (m + 1)).toList ++ cur.toList.drop (o + (Builtin.zeroCells z.cells (m + 1)).toList.length)).toArray := ⟨_, rfl⟩
  rw [← hrow] at hst
  refine ⟨w.setRow b row, ?_, setRow_turn' w b row, row, setRow_heap w b _ row _ _ hb, ?_, ?_⟩
  ·simp [Builtin.clear_, run_underlying E.und, hv, hst]
  ·rw [hrow, List.size_toArray, sg_len _ _ _ (by rw [hzl, Array.length_toList]; omega), Array.length_toList]
  ·rw [hrow, List.toList_toArray, List.append_assoc, List.take_append_of_le_length (by rw [List.length_take, Array.length_toList]; omega), List.take_take, Nat.min_self]
theorem Orw.cleared {w w' : World} {B b n c o : Nat} {rs : List (List Value)} {cur cur' : Array Value} (h : Orw w B et k (.slice (some ⟨b, 0, none⟩) n c) rs) (hb : Blk w b et cur) (hb' : Blk w' b et cur') (hs : cur'.size = cur.size) (ho : n * k ≤ o) (ht : cur'.toList.take o = cur.toList.take o) : Orw w' B et k (.slice (some ⟨b, 0, none⟩) n c) rs := by
 obtain ⟨cur0, hcur, hcs, htake, hn, hnc, hcm, hB⟩ := orw_block h
 obtain rfl := hcur.inj hb
 refine orw_of hb' hB h.1 hn hnc hcm (hs.trans hcs) ?_
 have := congrArg (List.take (n * k)) ht
 rw [List.take_take, List.take_take, Nat.min_eq_left ho] at this
 rw [this, htake]
end
theorem wpList_new {P : Program} {ops : Array Oper} {rest : List Oper} {o1 o2 : Oper} {a : Act} {w : World} {Q : Exit → Act → World → Prop} {zs : Array Value} (ty : TypeId) (x y : Operand) (cells : Array Value)
 (hg1 : Region.wanted o1 (yielded ops a.tmps) = true) (ho1 : o1.op = .alloc ty) (hz : (zeroValue ty).run P w = .ok (.agg zs) w) (hzs : (Value.agg zs).cells = zs)
 (hg2 : Region.wanted o2 (yielded ops (a.put o1.dst (.pointer (some ⟨w.heap.size, 0, none⟩))).tmps) = true) (ho2 : o2.op = .store ty x y)
 (hx : (a.put o1.dst (.pointer (some ⟨w.heap.size, 0, none⟩))).eval x = .pointer (some ⟨w.heap.size, 0, none⟩)) (hy : (a.put o1.dst (.pointer (some ⟨w.heap.size, 0, none⟩))).eval y = .agg cells)
 (hs : zs.size = cells.size) (hi : (P.info? ty).map (·.size) = some cells.size) (h1 : ∀ v ∈ cells.toList, v.oneCell' = true)
 (h : ∀ w' g, w.heap.size ≤ g → Blk w' g ty cells → Turn nowhere w w' → wpList P ops Q rest ((a.put o1.dst (.pointer (some ⟨g, 0, none⟩))).put o2.dst undef) w') : wpList P ops Q (o1 :: o2 :: rest) a w := by
 have hb := Blk.new w ty (Value.agg zs).cells
 have hu := (Turn.refl nowhere w).alloc (.cells (Value.agg zs).cells ty)
 refine wpList_run hg1 (gx_alloc ho1 hz) ?_
 refine wpList_store_row hg2 ty x y ho2 cells hb hx hy (by rw [hzs]; exact hs) hi h1 fun w' hb' hu' => ?_
 refine h w' _ (Nat.le_refl _) hb' (hu.trans hu' fun k hk e => ?_)
 have e : k = w.heap.size := e
 omega
theorem bx_slice3 {P : Program} {a : Act} {o : Oper} {t : TypeId} {x y z : Operand} {u v r q : Value} {W W' : World} (ho : o.op = .buildSlice t 3 #[(0, x), (1, y), (2, z)]) (hx : a.eval x = u) (hy : a.eval y = v) (hz : a.eval z = r)
 (h : (Instr.buildSlice t 3 #[(0, u), (1, v), (2, r)]).run P W = .ok q W') : (execOp a.eval o).run P W = .ok (.value q) W' := by
 unfold execOp
 simp only [ho, List.map_toArray, List.map_cons, List.map_nil, hx, hy, hz, h, Sem.run_bind, Sem.run_pure, Result.andThen_ok]
theorem bx_slice0 {P : Program} {a : Act} {o : Oper} {t : TypeId} {q : Value} {W W' : World} (ho : o.op = .buildSlice t 0 #[])
 (h : (Instr.buildSlice t 0 #[]).run P W = .ok q W') : (execOp a.eval o).run P W = .ok (.value q) W' := by
 unfold execOp
 simp only [ho, List.map_toArray, List.map_nil, h, Sem.run_bind, Sem.run_pure, Result.andThen_ok]
theorem wanted_none {o : Oper} {y : Nat → Option Bool} (h : o.guard = none) : Region.wanted o y = true := by
 unfold Region.wanted
 rw [h]
theorem wpList_op_g {P : Program} {ops : Array Oper} {rest : List Oper} {o : Oper} {a : Act} {w : World} {Q : Exit → Act → World → Prop} (hgd : Region.wanted o (yielded ops a.tmps) = true) (h : ∀ K : Act → World → Prop, Hid (∀ a' w', wpList P ops Q rest a' w' → K a' w') → o.wp P a w K Q) : wpList P ops Q (o :: rest) a w :=
 wpList_step fun K hK => by
  rw [if_pos hgd]
  exact h K (zH hK)
section
variable {P : Program} {a : Act} {o : Oper} {W W' : World}
theorem exec_copy_g {t : TypeId} {x y : Operand} {u v r : Value} (ho : o.op = .call { callee := .builtin .copy, args := #[x, y], argTypes := #[t, t] }) (hx : a.eval x = u) (hy : a.eval y = v) (hr : (Builtin.copy_ #[t, t] o.type #[u, v]).run P W = .ok r W') :
 (execOp a.eval o).run P W = .ok (.value r) W' := by
 unfold execOp
 simp only [ho, resolve, invoke, builtin, Sem.run_bind, Sem.run_pure, Result.andThen_ok, List.map_toArray, List.map_cons, List.map_nil, hx, hy, hr]
theorem exec_clear {t : TypeId} {x : Operand} {u r : Value} (ho : o.op = .call { callee := .builtin .clear, args := #[x], argTypes := #[t] }) (hx : a.eval x = u) (hr : (Builtin.clear_ #[t] o.type #[u]).run P W = .ok r W') :
 (execOp a.eval o).run P W = .ok (.value r) W' := by
 unfold execOp
 simp only [ho, resolve, invoke, builtin, Sem.run_bind, Sem.run_pure, Result.andThen_ok, List.map_toArray, List.map_cons, List.map_nil, hx, hr]
theorem gx_loads_g {ty : TypeId} {x : Operand} {b off : Nat} {cs : List Value} {d : TypeDesc} (ho : o.op = .load ty x) (hx : a.eval x = .pointer (some ⟨b, off, none⟩)) (hr : W.rangeAt b off cs)
 (hu : P.underlying ty = some d) (hd : d.isRow = true) (hi : (P.info? ty).map (·.size) = some cs.length) : (execOp a.eval o).run P W = .ok (.value (.agg cs.toArray)) W :=
 exec_load ho hx (run_loadAt_mid W b off ty cs d hr hu hd hi)
end
theorem blk_range_g {W : World} {g : Nat} {t : TypeId} {cs : Array Value} (h : Blk W g t cs) : W.rangeAt g 0 cs.toList := fun j v hj => by
 rw [Nat.zero_add, h.cell j]
 simpa using hj
theorem Orw.el {w : World} {B b k n c : Nat} {et : TypeId} {rs : List (List Value)} (h : Orw w B et k (.slice (some ⟨b, 0, none⟩) n c) rs) {i : Nat} {r : List Value} (hr : rs[i]? = some r) : w.rangeAt b (i * k) r := fun j u hu => by
 have hk := (h.1 r (List.mem_of_getElem? hr)).1
 have hj : j < k := by
  have := (List.getElem?_eq_some_iff.1 hu).1
  rwa [hk] at this
 have hf := flat_at h.1 hr hj
 rw [hu] at hf
 have := World.ownsRow.cells (g := b) h.2 rfl (i * k + j) u hf
 rwa [add_nat, Nat.zero_add] at this
theorem exec_eqnil {P : Program} {a : Act} {o : Oper} {W : World} {t u e : TypeId} {x y : Operand} {A : Option Addr} {n c : Nat} (ho : o.op = .binOp .eql t x y u) (hx : a.eval x = .slice A n c) (hy : a.eval y = .slice none 0 0) (ht : P.underlying t = some (.slice e)) {r : Bool} (hr : A.isNone = r) :
 (execOp a.eval o).run P W = .ok (.value (.bool r)) W := by
 subst hr
 unfold execOp
 have h : (Op.equal t (.slice A n c) (.slice none 0 0)).run P W = .ok A.isNone W := by
  have key : ∀ d : Nat, (Op.equalIn (d + 1) t (.slice A n c) (.slice none 0 0)).run P W = .ok A.isNone W := fun d => by cases A <;> simp [Op.equalIn, run_underlying ht]
  exact key 9999
 simp [ho, hx, hy, eqGuard, binOp, h]
theorem Orw.own_blk {w : World} {B k : Nat} {et : TypeId} {v : Value} {rs : List (List Value)} (h : Orw w B et k v rs) {b : Nat} (hb : v.ownBlock = some b) : ∃ cur, Blk w b et cur := by
 rcases h.2.2 with ⟨rfl, _⟩ | ⟨g, cap, cur, rfl, _, hg, _⟩
 ·cases hb
 ·obtain rfl : g = b := Option.some.inj hb
  exact ⟨cur, hg⟩
theorem orw_set {w w' : World} {B k b n c i : Nat} {et : TypeId} {rs : List (List Value)} {r : List Value} {cur cur' : Array Value} (h : Orw w B et k (.slice (some ⟨b, 0, none⟩) n c) rs) (hb : Blk w b et cur) (hb' : Blk w' b et cur') (hs : cur'.size = cur.size) (hi : i < n)
 (hr : r.length = k) (h1 : ∀ u ∈ r, u.oneCell' = true) (hc : ∀ j, cur'[j]? = if i * k ≤ j ∧ j < i * k + k then r[j - i * k]? else cur[j]?) (hk : 0 < k) : Orw w' B et k (.slice (some ⟨b, 0, none⟩) n c) (rs.set i r) := by
 obtain ⟨cur0, hcur, hcs, htake, hn, hnc, hcm, hB⟩ := orw_block h
 obtain rfl := hcur.inj hb
 have hf : Fit k (rs.set i r) := fun x hx => by
  rcases List.mem_or_eq_of_mem_set hx with hx | rfl
  ·exact h.1 x hx
  ·exact ⟨hr, h1⟩
 refine orw_of hb' hB hf (by rw [List.length_set]; exact hn) hnc hcm (hs.trans hcs) ?_
 apply List.ext_getElem?
 intro j
 by_cases hj : j < n * k
 ·rw [List.getElem?_take, if_pos hj, Array.getElem?_toList, hc]
  have hd : j / k < n := (Nat.div_lt_iff_lt_mul hk).2 hj
  have hjj : j = j / k * k + j % k := by rw [Nat.mul_comm]; exact (Nat.div_add_mod j k).symm
  have hm := Nat.mod_lt j hk
  have old : rs.flatten[j]? = cur0[j]? := by
   rw [← htake, List.getElem?_take, if_pos hj, Array.getElem?_toList]
  by_cases hij : j / k = i
  ·have e1 : i * k ≤ j ∧ j < i * k + k := by rw [← hij]; omega
   rw [if_pos e1]
   have hx : (rs.set i r)[j / k]? = some r := by rw [hij, List.getElem?_set_self (by omega)]
   have := flat_at hf hx hm
   rw [← hjj] at this
   rw [this, ← hij]
   congr 1
   omega
  ·have e1 : ¬ (i * k ≤ j ∧ j < i * k + k) := by
    rintro ⟨e1, e2⟩
    apply hij
    have h1 : i ≤ j / k := (Nat.le_div_iff_mul_le hk).2 e1
    have h2 : j / k < i + 1 := (Nat.div_lt_iff_lt_mul hk).2 (by rw [Nat.succ_mul]; exact e2)
    omega
   rw [if_neg e1, ← old]
   have hx0 : rs[j / k]? = some rs[j / k] := List.getElem?_eq_getElem (by omega)
   have hx : (rs.set i r)[j / k]? = some rs[j / k] := by rw [List.getElem?_set_ne (fun e => hij e.symm)]; exact hx0
   have a1 := flat_at hf hx hm
   have a2 := flat_at h.1 hx0 hm
   rw [← hjj] at a1 a2
   rw [a1, a2]
 ·rw [List.getElem?_eq_none (by rw [List.length_take]; omega), List.getElem?_eq_none (by rw [flat_len hf, List.length_set, hn]; omega)]
theorem ix_quo_g {a : Act} {o : Oper} {W : World} {x y : Operand} {n m : Nat} (ho : o.op = .binOp .quo 3 x y 3) (hx : a.eval x = .int .i64 (n : Int)) (hy : a.eval y = .int .i64 (m : Int)) (hm : 0 < m) (hn : n ≤ 9223372036854775807) : (execOp a.eval o).run Tryz.prog W = .ok (.value (.int .i64 ((n / m : Nat) : Int))) W := by
 have hm1 : (m : Int) ≠ 0 := by omega
 obtain ⟨q, hq⟩ : ∃ q : Nat, q = n / m := ⟨_, rfl⟩
 have hlt : q ≤ n := by rw [hq]; exact Nat.div_le_self _ _
 have e : (n : Int).tdiv (m : Int) = (q : Int) := by rw [hq]; rfl
 rw [← hq]
 have hw : IntKind.i64.wrap (q : Int) = (q : Int) := by rw [IntKind.wrap_i64]; omega
 unfold execOp
 simp only [ho, hx, hy]
 go_simp
 rw [if_neg (by omega), show IntKind.i64.wrap ((n : Int) / (m : Int)) = (n : Int) / (m : Int) from by rw [← Int.natCast_ediv, ← hq]; exact hw]
theorem gx_build1_g {P : Program} {a : Act} {o : Oper} {t : TypeId} {x0 : Operand} {u0 r : Value} {W : World} (ho : o.op = .build t #[(0, x0)]) (h0 : a.eval x0 = u0)
 (h : (Instr.build t #[(0, u0)]).run P W = .ok r W) : (execOp a.eval o).run P W = .ok (.value r) W := by
 unfold execOp
 simp only [ho, List.map_toArray, List.map_cons, List.map_nil, h0, h, Sem.run_bind, Sem.run_pure, Result.andThen_ok]
theorem gx_box {P : Program} {a : Act} {o : Oper} {t : TypeId} {x : Operand} {cs : Array Value} {W W' : World} {v : Value} (ho : o.op = .box t x) (hx : a.eval x = .agg cs) (h : (Instr.box t (.agg cs)).run P W = .ok v W') : (execOp a.eval o).run P W = .ok (.value v) W' := by
 unfold execOp
 simp only [ho, hx, h, Sem.run_bind, Sem.run_pure, Result.andThen_ok]
theorem ix_rem_g {a : Act} {o : Oper} {W : World} {x y : Operand} {n m : Nat} (ho : o.op = .binOp .rem 3 x y 3) (hx : a.eval x = .int .i64 (n : Int)) (hy : a.eval y = .int .i64 (m : Int)) (hm : 0 < m) (hn : n ≤ 9223372036854775807) : (execOp a.eval o).run Tryz.prog W = .ok (.value (.int .i64 ((n % m : Nat) : Int))) W := by
 have hm1 : (m : Int) ≠ 0 := by omega
 obtain ⟨q, hq⟩ : ∃ q : Nat, q = n % m := ⟨_, rfl⟩
 have hlt : q ≤ n := by rw [hq]; exact Nat.mod_le _ _
 have e : (n : Int).tmod (m : Int) = (q : Int) := by rw [hq]; rfl
 rw [← hq]
 have hw : IntKind.i64.wrap (q : Int) = (q : Int) := by rw [IntKind.wrap_i64]; omega
 unfold execOp
 simp only [ho, hx, hy]
 go_simp
 omega
theorem orw_pre {w : World} {B k b n c e : Nat} {et : TypeId} {rs : List (List Value)} (h : Orw w B et k (.slice (some ⟨b, 0, none⟩) n c) rs) (he : e ≤ n) : Orw w B et k (.slice (some ⟨b, 0, none⟩) e c) (rs.take e) := by
 obtain ⟨cur, h1, h2, h3, h4, h5, h6, h7⟩ := orw_block h
 have hf : Fit k (rs.take e) := Fit.sub h.1 fun r hr => List.mem_of_mem_take hr
 refine orw_of h1 h7 hf (by rw [List.length_take]; omega) (by omega) h6 h2 ?_
 have hle : e * k ≤ n * k := Nat.mul_le_mul_right k he
 rw [show cur.toList.take (e * k) = (cur.toList.take (n * k)).take (e * k) from by rw [List.take_take, Nat.min_eq_left hle], h3, flat_take e h.1 (by omega)]
theorem gx_build0 {P : Program} {a : Act} {o : Oper} {t : TypeId} {r : Value} {W : World} (ho : o.op = .build t #[]) (h : (Instr.build t #[]).run P W = .ok r W) : (execOp a.eval o).run P W = .ok (.value r) W := by
 unfold execOp
 simp only [ho, List.map_toArray, List.map_nil, h, Sem.run_bind, Sem.run_pure, Result.andThen_ok]
theorem Orw.el0 {w : World} {B b k n c : Nat} {et : TypeId} {rs : List (List Value)} (h : Orw w B et k (.slice (some ⟨b, 0, none⟩) n c) rs) {i : Nat} {r : List Value} (hr : rs[i]? = some r) : w.rangeAt b (0 + i * k) r := by
 rw [Nat.zero_add]; exact h.el hr
section
variable {P : Program} {md : Region.Mode} {ops : Array Oper} {Q : Exit → Act → World → Prop} {S : World → Prop} {k : Nat}
theorem till_pureAt {i : Nat} {o : Oper} {v : Value} (hi : ops[i]? = some o) (hsel : ∀ (j : Nat) (o : Oper) cs b, ops[j]? = some o → o.op ≠ .select cs b) (hki : k ≠ i) :
 ∀ (n : Nat) (l : Array Bool) (a : Act) (w : World),
  (∀ j oj, ops[j]? = some oj → j ≠ i → l.getD j true = false → (∀ e ∈ oj.after, Region.binds md e = true → e.on ≠ i) → o.apart ops oj = true) →
  i ∈ Region.ready md ops l → YieldsIf P ops (fun _ => True) o v a → (l.getD k true = false → S w) → (∀ c a w, Q (.panic c) (a.put o.dst v) w → Q (.panic c) a w) →
  Till P md ops Q S k n (l.setIfInBounds i true) (a.put o.dst v) w → Till P md ops Q S k (n + 1) l a w := by
 have hread : ∀ (l : Array Bool) (j : Nat), i ∈ Region.ready md ops l → j ∈ Region.ready md ops l → j ≠ i → ∃ oj, ops[j]? = some oj ∧ l.getD j true = false ∧ ∀ e ∈ oj.after, Region.binds md e = true → e.on ≠ i := by
  intro l j hr hj hji
  obtain ⟨h0, oj, hoj, hall⟩ := mem_ready.1 hj
  have hun := (mem_ready.1 hr).1
  refine ⟨oj, hoj, h0, fun e he hb heq => ?_⟩
  have h2 := hall e he hb
  rw [heq] at h2
  rcases Nat.lt_or_ge i l.size with hlt | hge
  ·rw [Array.getD_eq_getD_getElem?, Array.getElem?_eq_getElem hlt] at h2 hun
   simp only [Option.getD_some] at h2 hun
   rw [h2] at hun
   cases hun
  ·rw [Array.getD_eq_getD_getElem?, Array.getElem?_eq_none hge] at h2
   cases h2
 intro n
 induction n with
 | zero =>
   intro l a w _ hr hy hS _ H
   refine ⟨fun h => (by rw [h] at hr; cases hr), fun j hj => ?_⟩
   by_cases hji : j = i
   ·subst hji
    exact hy.wpOp hi trivial ⟨fun e => hS (by rwa [getD_set_ne true hki.symm] at e), H⟩
   ·have := ready_mono hj hji
    rw [H.1] at this
    cases this
 | succ n ih =>
   intro l a w hfree hr hy hS hQ H
   refine ⟨fun h => (by rw [h] at hr; cases hr), fun j hj => ?_⟩
   by_cases hji : j = i
   ·subst hji
    exact hy.wpOp hi trivial ⟨fun e => hS (by rwa [getD_set_ne true hki.symm] at e), H⟩
   ·obtain ⟨oj, hoj, hjun, hno⟩ := hread l j hr hj hji
    have h1 := H.2 j (ready_mono hj hji)
    have h2 := wpOp_putIf (S := fun _ => True) hoj (hfree j oj hoj hji hjun hno) (fun cs b => hsel i o cs b hi) (fun cs b => hsel j oj cs b hoj) hQ hy h1
    refine wpOp_mono (fun a' w' h3 => ⟨fun e => ?_, ih (l.setIfInBounds j true) a' w' ?_ (ready_mono hr (Ne.symm hji)) h3.1 (fun e => ?_) hQ ?_⟩) h2
    ·exact h3.2.1 (by rw [Array.setIfInBounds_comm _ _ (Ne.symm hji), getD_set_ne true hki.symm]; exact e)
    ·intro m om hm hmi hun hn
     refine hfree m om hm hmi ?_ hn
     by_cases hjm : j = m
     ·subst hjm
      exact hjun
     ·rwa [getD_set_ne true hjm] at hun
    ·exact h3.2.1 (by rw [Array.setIfInBounds_comm _ _ (Ne.symm hji), getD_set_ne true hki.symm]; exact e)
    ·rw [Array.setIfInBounds_comm _ _ hji]
     exact h3.2.2
theorem till_pure {i : Nat} {o : Oper} {v : Value} {n : Nat} {l : Array Bool} {a : Act} {w : World} (hi0 : ops.toList[i]? = some o) (hs : Region.noSelect ops = true)
 (hf : (Region.free md ops l i && (Region.ready md ops l).contains i && decide (k ≠ i)) = true)
 (hQ : ∀ c a w, Q (.panic c) (a.put o.dst v) w → Q (.panic c) a w) (hy : YieldsIf P ops (fun _ => True) o v a) (hS : S w)
 (h : Till P md ops Q S k n (l.setIfInBounds i true) (a.put o.dst v) w) : Till P md ops Q S k (n + 1) l a w := by
 have hi : ops[i]? = some o := by rw [← hi0, Array.getElem?_toList]
 simp only [Bool.and_eq_true, decide_eq_true_eq] at hf
 obtain ⟨⟨h1, h2⟩, h5⟩ := hf
 exact till_pureAt hi (Region.noSelect_spec hs) h5 n l a w (Region.free_spec hi h1) (by simpa using h2) hy (fun _ => hS) hQ h
theorem till_first2 {i m : Nat} {o : Oper} {v : Value} (hi : ops[i]? = some o) (hsel : ∀ (j : Nat) (o : Oper) cs b, ops[j]? = some o → o.op ≠ .select cs b) (hki : k ≠ i) (hmi : m ≠ i)
 (hm : ∃ om, ops[m]? = some om ∧ ∃ e ∈ om.after, Region.binds md e = true ∧ e.on = i) (hk : ∃ ok, ops[k]? = some ok ∧ ∃ e ∈ ok.after, Region.binds md e = true ∧ e.on = m) :
 ∀ (n : Nat) (l : Array Bool) (a : Act) (w : World), l.getD k true = false → l.getD m true = false →
  (∀ j oj, ops[j]? = some oj → j ≠ i → l.getD j true = false → (∀ e ∈ oj.after, Region.binds md e = true → e.on ≠ i) → o.apart ops oj = true) →
  i ∈ Region.ready md ops l → YieldsIf P ops S o v a → S w → (∀ c a w, Q (.panic c) (a.put o.dst v) w → Q (.panic c) a w) →
  Till P md ops Q S k n (l.setIfInBounds i true) (a.put o.dst v) w → Till P md ops Q S k (n + 1) l a w := by
 have hwait : ∀ (l : Array Bool) (x j : Nat) (oj : Oper), l.getD x true = false → ops[j]? = some oj → (∀ e ∈ oj.after, Region.binds md e = true → l.getD e.on false = true) → ∀ e ∈ oj.after, Region.binds md e = true → e.on ≠ x := by
  intro l x j oj hun hoj hall e he hb heq
  have h2 := hall e he hb
  rw [heq] at h2
  rcases Nat.lt_or_ge x l.size with hlt | hge
  ·rw [Array.getD_eq_getD_getElem?, Array.getElem?_eq_getElem hlt] at h2 hun
   simp only [Option.getD_some] at h2 hun
   rw [h2] at hun
   cases hun
  ·rw [Array.getD_eq_getD_getElem?, Array.getElem?_eq_none hge] at h2
   cases h2
 have hread : ∀ (l : Array Bool) (j : Nat), l.getD m true = false → i ∈ Region.ready md ops l → j ∈ Region.ready md ops l → j ≠ i → ∃ oj, ops[j]? = some oj ∧ l.getD j true = false ∧ j ≠ k ∧ j ≠ m ∧ ∀ e ∈ oj.after, Region.binds md e = true → e.on ≠ i := by
  intro l j hml hr hj hji
  obtain ⟨h0, oj, hoj, hall⟩ := mem_ready.1 hj
  have hno := hwait l i j oj (mem_ready.1 hr).1 hoj hall
  have hnm := hwait l m j oj hml hoj hall
  refine ⟨oj, hoj, h0, ?_, ?_, hno⟩
  ·rintro rfl
   obtain ⟨ok, hok, e, he, hb, hon⟩ := hk
   rw [hoj] at hok
   injection hok with hok
   subst hok
   exact hnm e he hb hon
  ·rintro rfl
   obtain ⟨ok, hok, e, he, hb, hon⟩ := hm
   rw [hoj] at hok
   injection hok with hok
   subst hok
   exact hno e he hb hon
 intro n
 induction n with
 | zero =>
   intro l a w hkl hml _ hr hy hS _ H
   refine ⟨fun h => (by rw [h] at hr; cases hr), fun j hj => ?_⟩
   by_cases hji : j = i
   ·subst hji
    exact hy.wpOp hi hS ⟨fun _ => hS, H⟩
   ·have := ready_mono hj hji
    rw [H.1] at this
    cases this
 | succ n ih =>
   intro l a w hkl hml hfree hr hy hS hQ H
   refine ⟨fun h => (by rw [h] at hr; cases hr), fun j hj => ?_⟩
   by_cases hji : j = i
   ·subst hji
    exact hy.wpOp hi hS ⟨fun _ => hS, H⟩
   ·obtain ⟨oj, hoj, hjun, hjk, hjm0, hno⟩ := hread l j hml hr hj hji
    have h1 := H.2 j (ready_mono hj hji)
    have h2 := wpOp_putIf hoj (hfree j oj hoj hji hjun hno) (fun cs b => hsel i o cs b hi) (fun cs b => hsel j oj cs b hoj) hQ hy h1
    have hk' : (l.setIfInBounds j true).getD k true = false := by rw [getD_set_ne true hjk]; exact hkl
    have hm' : (l.setIfInBounds j true).getD m true = false := by rw [getD_set_ne true hjm0]; exact hml
    have hk2 : ((l.setIfInBounds i true).setIfInBounds j true).getD k true = false := by rw [getD_set_ne true hjk, getD_set_ne true (Ne.symm hki)]; exact hkl
    refine wpOp_mono (fun a' w' h3 => ⟨fun _ => h3.2.1 hk2, ih (l.setIfInBounds j true) a' w' hk' hm' ?_ (ready_mono hr (Ne.symm hji)) h3.1 (h3.2.1 hk2) hQ ?_⟩) h2
    ·intro q om hq hqi hun hn
     refine hfree q om hq hqi ?_ hn
     by_cases hjm : j = q
     ·subst hjm
      exact hjun
     ·rwa [getD_set_ne true hjm] at hun
    ·rw [Array.setIfInBounds_comm _ _ hji]
     exact h3.2.2
theorem till_take2 (m : Nat) {i : Nat} {o : Oper} {v : Value} {n : Nat} {l : Array Bool} {a : Act} {w : World} (hi0 : ops.toList[i]? = some o) (hs : Region.noSelect ops = true)
 (hf : (Region.free md ops l i && (Region.ready md ops l).contains i && Region.waitsFor md ops m i && Region.waitsFor md ops k m && !(l.getD k true) && !(l.getD m true) && decide (k ≠ i) && decide (m ≠ i)) = true)
 (hQ : ∀ c a w, Q (.panic c) (a.put o.dst v) w → Q (.panic c) a w) (hy : YieldsIf P ops S o v a) (hS : S w)
 (h : Till P md ops Q S k n (l.setIfInBounds i true) (a.put o.dst v) w) : Till P md ops Q S k (n + 1) l a w := by
 have hi : ops[i]? = some o := by rw [← hi0, Array.getElem?_toList]
 simp only [Bool.and_eq_true, decide_eq_true_eq, Bool.not_eq_true'] at hf
 obtain ⟨⟨⟨⟨⟨⟨⟨h1, h2⟩, h3⟩, h4⟩, h5⟩, h6⟩, h7⟩, h8⟩ := hf
 exact till_first2 hi (Region.noSelect_spec hs) h7 h8 (Region.waitsFor_spec h3) (Region.waitsFor_spec h4) n l a w h5 h6 (Region.free_spec hi h1) (by simpa using h2) hy hS hQ h
end
section
variable {P : Program} {md : Region.Mode} {ops : Array Oper} {Q : Exit → Act → World → Prop} {S : World → Prop} {k : Nat}
theorem till_path {i : Nat} {o : Oper} {v : Value} (hi : ops[i]? = some o) (hsel : ∀ (j : Nat) (o : Oper) cs b, ops[j]? = some o → o.op ≠ .select cs b) (path : List Nat) (hkp : k ∈ path)
 (hp : ∀ m ∈ path, m ≠ i ∧ ∃ om, ops[m]? = some om ∧ ∃ e ∈ om.after, Region.binds md e = true ∧ (e.on = i ∨ e.on ∈ path)) :
 ∀ (n : Nat) (l : Array Bool) (a : Act) (w : World), (∀ m ∈ path, l.getD m true = false) →
  (∀ j oj, ops[j]? = some oj → j ≠ i → l.getD j true = false → (∀ e ∈ oj.after, Region.binds md e = true → e.on ≠ i) → o.apart ops oj = true) →
  i ∈ Region.ready md ops l → YieldsIf P ops S o v a → S w → (∀ c a w, Q (.panic c) (a.put o.dst v) w → Q (.panic c) a w) →
  Till P md ops Q S k n (l.setIfInBounds i true) (a.put o.dst v) w → Till P md ops Q S k (n + 1) l a w := by
 have hki : k ≠ i := (hp k hkp).1
 have hund : ∀ (l : Array Bool) (m : Nat), l.getD m true = false → l.getD m false = false := by
  intro l m h
  rcases Nat.lt_or_ge m l.size with hlt | hge
  ·rw [Array.getD_eq_getD_getElem?, Array.getElem?_eq_getElem hlt] at h ⊢
   exact h
  ·rw [Array.getD_eq_getD_getElem?, Array.getElem?_eq_none hge] at h
   cases h
 have hread : ∀ (l : Array Bool) (j : Nat), (∀ m ∈ path, l.getD m true = false) → i ∈ Region.ready md ops l → j ∈ Region.ready md ops l → j ≠ i → ∃ oj, ops[j]? = some oj ∧ l.getD j true = false ∧ j ∉ path ∧ ∀ e ∈ oj.after, Region.binds md e = true → e.on ≠ i := by
  intro l j hpl hr hj hji
  obtain ⟨h0, oj, hoj, hall⟩ := mem_ready.1 hj
  have hun := (mem_ready.1 hr).1
  have hno : ∀ e ∈ oj.after, Region.binds md e = true → e.on ≠ i := by
   intro e he hb heq
   have h2 := hall e he hb
   rw [heq, hund l i hun] at h2
   cases h2
  refine ⟨oj, hoj, h0, fun hjp => ?_, hno⟩
  obtain ⟨_, om, hom, e, he, hb, hon⟩ := hp j hjp
  rw [hoj] at hom
  injection hom with hom
  subst hom
  rcases hon with hon | hon
  ·exact hno e he hb hon
  ·have h2 := hall e he hb
   rw [hund l e.on (hpl e.on hon)] at h2
   cases h2
 intro n
 induction n with
 | zero =>
   intro l a w hkl _ hr hy hS _ H
   refine ⟨fun h => (by rw [h] at hr; cases hr), fun j hj => ?_⟩
   by_cases hji : j = i
   ·subst hji
    exact hy.wpOp hi hS ⟨fun _ => hS, H⟩
   ·have := ready_mono hj hji
    rw [H.1] at this
    cases this
 | succ n ih =>
   intro l a w hpl hfree hr hy hS hQ H
   refine ⟨fun h => (by rw [h] at hr; cases hr), fun j hj => ?_⟩
   by_cases hji : j = i
   ·subst hji
    exact hy.wpOp hi hS ⟨fun _ => hS, H⟩
   ·obtain ⟨oj, hoj, hjun, hjp, hno⟩ := hread l j hpl hr hj hji
    have hjk : j ≠ k := fun e => hjp (e ▸ hkp)
    have hkl := hpl k hkp
    have h1 := H.2 j (ready_mono hj hji)
    have h2 := wpOp_putIf hoj (hfree j oj hoj hji hjun hno) (fun cs b => hsel i o cs b hi) (fun cs b => hsel j oj cs b hoj) hQ hy h1
    have hp' : ∀ m ∈ path, (l.setIfInBounds j true).getD m true = false := fun m hm => by rw [getD_set_ne true (by rintro rfl; exact hjp hm)]; exact hpl m hm
    have hk2 : ((l.setIfInBounds i true).setIfInBounds j true).getD k true = false := by rw [getD_set_ne true hjk, getD_set_ne true (Ne.symm hki)]; exact hkl
    refine wpOp_mono (fun a' w' h3 => ⟨fun _ => h3.2.1 hk2, ih (l.setIfInBounds j true) a' w' hp' ?_ (ready_mono hr (Ne.symm hji)) h3.1 (h3.2.1 hk2) hQ ?_⟩) h2
    ·intro m om hm hmi hun hn
     refine hfree m om hm hmi ?_ hn
     by_cases hjm : j = m
     ·subst hjm
      exact hjun
     ·rwa [getD_set_ne true hjm] at hun
    ·rw [Array.setIfInBounds_comm _ _ hji]
     exact h3.2.2
theorem till_takeP (path : List Nat) {i : Nat} {o : Oper} {v : Value} {n : Nat} {l : Array Bool} {a : Act} {w : World} (hi0 : ops.toList[i]? = some o) (hs : Region.noSelect ops = true)
 (hf : (Region.free md ops l i && (Region.ready md ops l).contains i && path.contains k && path.all fun m => decide (m ≠ i) && !(l.getD m true) && (i :: path).any fun x => Region.waitsFor md ops m x) = true)
 (hQ : ∀ c a w, Q (.panic c) (a.put o.dst v) w → Q (.panic c) a w) (hy : YieldsIf P ops S o v a) (hS : S w)
 (h : Till P md ops Q S k n (l.setIfInBounds i true) (a.put o.dst v) w) : Till P md ops Q S k (n + 1) l a w := by
 have hi : ops[i]? = some o := by rw [← hi0, Array.getElem?_toList]
 simp only [Bool.and_eq_true, List.all_eq_true, List.any_eq_true, decide_eq_true_eq, Bool.not_eq_true'] at hf
 obtain ⟨⟨⟨h1, h2⟩, h3⟩, h4⟩ := hf
 refine till_path hi (Region.noSelect_spec hs) path (by simpa using h3) (fun m hm => ?_) n l a w (fun m hm => (h4 m hm).1.2) (Region.free_spec hi h1) (by simpa using h2) hy hS hQ h
 obtain ⟨⟨g1, _⟩, x, hx, g3⟩ := h4 m hm
 obtain ⟨om, hom, e, he, hb, hon⟩ := Region.waitsFor_spec g3
 refine ⟨g1, om, hom, e, he, hb, ?_⟩
 rcases List.mem_cons.1 hx with rfl | hx
 ·exact .inl hon
 ·exact .inr (by rw [hon]; exact hx)
end
theorem wn {o : Oper} {y : Nat → Option Bool} (h : o.guard = none := by rfl) : Region.wanted o y = true := wanted_none h
section
variable {P : Program} {ops : Array Oper} {rest : List Oper} {o : Oper} {a : Act} {w : World} {Q : Exit → Act → World → Prop}
theorem nM {x : Operand} (v : Value) (h : wpList P ops Q rest (a.put o.dst v) w) (hgd : o.guard = none := by rfl) (ho : o.op = .move x := by rfl) (hx : a.eval x = v := by rfl) : wpList P ops Q (o :: rest) a w := wpList_run (wanted_none hgd) (exec_move ho hx) h
theorem nA {x : Operand} (v : Value) (h : wpList P ops Q rest (a.put o.dst v) w) (hgd : o.guard = none := by rfl) (ho : o.op = .assign x := by rfl) (hx : a.eval x = v := by rfl) : wpList P ops Q (o :: rest) a w := wpList_run (wanted_none hgd) (gx_assign ho hx) h
theorem nE {xs : Array Value} {x : Operand} {n : Nat} (v : Value) (h : wpList Tryz.prog ops Q rest (a.put o.dst v) w) (hgd : o.guard = none := by rfl) (ho : o.op = .extract x n := by rfl) (hx : a.eval x = .tuple xs := by rfl) (hv : xs[n]? = some v := by rfl) : wpList Tryz.prog ops Q (o :: rest) a w := wpList_run (wanted_none hgd) (ix_extract ho hx hv) h
theorem nR (v : Value) {w' : World} (hr : (execOp a.eval o).run P w = .ok (.value v) w') (h : wpList P ops Q rest (a.put o.dst v) w') (hgd : o.guard = none := by rfl) : wpList P ops Q (o :: rest) a w := wpList_run (wanted_none hgd) hr h
theorem wS (v : Value) {w' : World} (hr : (execOp a.eval o).run P w = .ok (.value v) w') (h : wpList P ops Q rest (a.put o.dst v) w') (hgd : Region.wanted o (yielded ops a.tmps) = true := by rfl) : wpList P ops Q (o :: rest) a w := wpList_run hgd hr h
theorem xF {s : TypeId} {k b : Nat} {x : Operand} (off d : Nat) (ho : o.op = .fieldAddr s x k := by rfl) (hx : a.eval x = .pointer (some ⟨b, off, none⟩) := by rfl) (hf : fieldOff P s k = some d := by kernel_rfl) :
 (execOp a.eval o).run P w = .ok (.value (.pointer (some ⟨b, off + d, none⟩))) w := exec_field ho hx hf
theorem xL {ty : TypeId} {x : Operand} {p : Addr} {v : Value} (hc : w.cell? p = some v) (ho : o.op = .load ty x := by rfl) (hx : a.eval x = .pointer (some p) := by rfl) (hp : plainB P ty = true := by kernel_rfl) :
 (execOp a.eval o).run P w = .ok (.value v) w := exec_load1 ho hx hp hc
end
section
variable {P : Program} {md : Region.Mode} {ops : Array Oper} {Q : Exit → Act → World → Prop} {S : World → Prop} {k : Nat} {o : Oper} {n : Nat} {l : Array Bool} {a : Act} {w : World}
theorem aU (i : Nat) (v : Value) (hi0 : ops.toList[i]? = some o) (hr : ∀ W, S W → (execOp a.eval o).run P W = .ok (.value v) W) (hS : S w)
 (h : Alw P md ops (NoPanic Q) S n (l.setIfInBounds i true) (a.put o.dst v) w) (hs : Region.noSelect ops = true := by kernel_rfl)
 (hf : (Region.free md ops l i && (Region.ready md ops l).contains i) = true := by kernel_rfl) (hgd : Region.wanted o (yielded ops a.tmps) = true := by rfl) : Alw P md ops (NoPanic Q) S (n + 1) l a w :=
 aT hi0 hs hf hr hS h hgd
theorem tU (i : Nat) (v : Value) (hi0 : ops.toList[i]? = some o) (hr : ∀ W, S W → (execOp a.eval o).run P W = .ok (.value v) W) (hS : S w)
 (h : Till P md ops (NoPanic Q) S k n (l.setIfInBounds i true) (a.put o.dst v) w) (hs : Region.noSelect ops = true := by kernel_rfl)
 (hf : (Region.free md ops l i && (Region.ready md ops l).contains i && Region.waitsFor md ops k i && !(l.getD k true) && decide (k ≠ i)) = true := by kernel_rfl) (hgd : Region.wanted o (yielded ops a.tmps) = true := by rfl) : Till P md ops (NoPanic Q) S k (n + 1) l a w :=
 tT hi0 hs hf hr hS h hgd
theorem tP (i : Nat) (v : Value) (hi0 : ops.toList[i]? = some o) (hr : ∀ W, True → (execOp a.eval o).run P W = .ok (.value v) W) (hS : S w)
 (h : Till P md ops (NoPanic Q) S k n (l.setIfInBounds i true) (a.put o.dst v) w) (hs : Region.noSelect ops = true := by kernel_rfl)
 (hf : (Region.free md ops l i && (Region.ready md ops l).contains i && decide (k ≠ i)) = true := by kernel_rfl) (hgd : Region.wanted o (yielded ops a.tmps) = true := by rfl) : Till P md ops (NoPanic Q) S k (n + 1) l a w :=
 till_pure hi0 hs hf (fun _ _ _ h => h) (.inl ⟨hgd, hr⟩) hS h
theorem tQ (path : List Nat) (i : Nat) (v : Value) (hi0 : ops.toList[i]? = some o) (hr : ∀ W, S W → (execOp a.eval o).run P W = .ok (.value v) W) (hS : S w)
 (h : Till P md ops (NoPanic Q) S k n (l.setIfInBounds i true) (a.put o.dst v) w) (hs : Region.noSelect ops = true := by kernel_rfl)
 (hf : (Region.free md ops l i && (Region.ready md ops l).contains i && path.contains k && path.all fun m => decide (m ≠ i) && !(l.getD m true) && (i :: path).any fun x => Region.waitsFor md ops m x) = true := by kernel_rfl) (hgd : Region.wanted o (yielded ops a.tmps) = true := by rfl) : Till P md ops (NoPanic Q) S k (n + 1) l a w :=
 till_takeP path hi0 hs hf (fun _ _ _ h => h) (.inl ⟨hgd, hr⟩) hS h
theorem aM (i : Nat) (v : Value) {x : Operand} (hS : S w) (h : Alw P md ops (NoPanic Q) S n (l.setIfInBounds i true) (a.put o.dst v) w) (hi0 : ops.toList[i]? = some o := by rfl) (hs : Region.noSelect ops = true := by kernel_rfl)
 (hf : (Region.free md ops l i && (Region.ready md ops l).contains i) = true := by kernel_rfl) (hgd : Region.wanted o (yielded ops a.tmps) = true := by rfl) (ho : o.op = .move x := by rfl) (hx : a.eval x = v := by rfl) : Alw P md ops (NoPanic Q) S (n + 1) l a w :=
 aT hi0 hs hf (fun _ _ => exec_move ho hx) hS h hgd
theorem tM (i : Nat) (v : Value) {x : Operand} (hS : S w) (h : Till P md ops (NoPanic Q) S k n (l.setIfInBounds i true) (a.put o.dst v) w) (hi0 : ops.toList[i]? = some o := by rfl) (hs : Region.noSelect ops = true := by kernel_rfl)
 (hf : (Region.free md ops l i && (Region.ready md ops l).contains i && Region.waitsFor md ops k i && !(l.getD k true) && decide (k ≠ i)) = true := by kernel_rfl) (hgd : Region.wanted o (yielded ops a.tmps) = true := by rfl) (ho : o.op = .move x := by rfl) (hx : a.eval x = v := by rfl) : Till P md ops (NoPanic Q) S k (n + 1) l a w :=
 tT hi0 hs hf (fun _ _ => exec_move ho hx) hS h hgd
end
end Go.Proofs.YtkagijifkpoplaaGreatDoor
