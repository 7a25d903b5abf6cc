/-
  Texts in one file: MsRow MsIn MsIo. Conditions: the tables and the errors read as the program's text lays them.
-/
import Derived.Test.YtfnillibngijaaaGreatDoorJB22
import Derived.Laws.CopyRow
import Derived.Lib.AppendZerosOnto
import Derived.Lib.Overlaps
import Derived.Laws.Externs
import Derived.Test.YtfnillibngijaaaGreatDoorJB1
import Derived.Test.YtfnillibngijaaaGreatDoorJB0
namespace Go.Proofs.YtfnillibngijaaaGreatDoor
open Go.RowKit
open Fdd
set_option linter.unusedVariables false
set_option linter.unusedSimpArgs false
/-- the cells of fields in a row -/
def fcs (fs : List Fld) : List Value := fs.flatMap fun f => (fldA f).toList
theorem fcs_append (a b : List Fld) : fcs (a ++ b) = fcs a ++ fcs b := List.flatMap_append
theorem fcs_len : ∀ fs : List Fld, (fcs fs).length = fs.length * 2
  | [] => rfl
  | f :: r => by
    have := fcs_len r
    unfold fcs at this ⊢
    rw [List.flatMap_cons, List.length_append, this, List.length_cons]
    show 2 + r.length * 2 = _
    omega
theorem fcs_at : ∀ (fs : List Fld) (i j : Nat) (f : Fld), fs[i]? = some f → j < 2 → (fcs fs)[i * 2 + j]? = (fldA f).toList[j]?
  | [], i, j, f, h, _ => by simp at h
  | g :: r, 0, j, f, h, hj => by
    obtain rfl : g = f := by simpa using h
    rw [show 0 * 2 + j = j from by omega]
    show ((fldA g).toList ++ fcs r)[j]? = _
    rw [List.getElem?_append_left (show j < (fldA g).toList.length from hj)]
  | g :: r, i + 1, j, f, h, hj => by
    rw [show (i + 1) * 2 + j = (fldA g).toList.length + (i * 2 + j) from by show _ = 2 + _; omega]
    show ((fldA g).toList ++ fcs r)[(fldA g).toList.length + (i * 2 + j)]? = _
    rw [List.getElem?_append_right (by omega), Nat.add_sub_cancel_left]
    exact fcs_at r i j f (by simpa using h) hj
theorem fcs_one (fs : List Fld) : ∀ v ∈ fcs fs, v.oneCell' = true := fun v hv => by
  obtain ⟨f, _, h⟩ := List.mem_flatMap.1 hv
  exact fldA_one f v h
theorem fieldInfo : (Tryz.prog.info? 53).map (fun i => (i.zero, i.size, i.bytes)) = some (some (.agg #[.int .i64 0, strV []]), 2, 24) := by kernel_rfl
/-- a row of fields of the call's own -/
def FRow (w : World) (B : Nat) (v : Value) (fs : List Fld) : Prop := w.ownsRow B 53 2 v fs.length (fcs fs)
theorem FRow.nil (w : World) (B : Nat) : FRow w B (.slice none 0 0) [] := World.ownsRow_nil _ _ _ _
theorem FRow.still {w w' : World} {B : Nat} {v : Value} {fs : List Fld} (h : FRow w B v fs) (ht : Turn nowhere w w') : FRow w' B v fs := by
  refine ⟨h.1, ?_⟩
  rcases h.2 with h0 | ⟨g, cap, cur, rfl, hb1, hgg, rest⟩
  · exact .inl h0
  · have hlt : g < w.heap.size := (Array.getElem?_eq_some_iff.1 hgg).1
    exact .inr ⟨g, cap, cur, rfl, hb1, by rw [ht.block g hlt (fun e => e)]; exact hgg, rest⟩
theorem FRow.turn {F : Nat → Prop} {w w' : World} {B : Nat} {v : Value} {fs : List Fld} (h : FRow w B v fs) (ht : Turn F w w') (hF : ∀ k, v.ownBlock = some k → ¬ F k) : FRow w' B v fs := by
  refine ⟨h.1, ?_⟩
  rcases h.2 with h0 | ⟨g, cap, cur, rfl, hb1, hgg, rest⟩
  · exact .inl h0
  · have hlt : g < w.heap.size := (Array.getElem?_eq_some_iff.1 hgg).1
    exact .inr ⟨g, cap, cur, rfl, hb1, by rw [ht.block g hlt (hF g rfl)]; exact hgg, rest⟩
theorem FRow.less {w : World} {B C : Nat} {v : Value} {fs : List Fld} (h : FRow w B v fs) (hC : C ≤ B) : FRow w C v fs := by
  refine ⟨h.1, ?_⟩
  rcases h.2 with h0 | ⟨g, cap, cur, rfl, hb1, rest⟩
  · exact .inl h0
  · exact .inr ⟨g, cap, cur, rfl, Nat.le_trans hC hb1, rest⟩
theorem FRow.fl {w : World} {B n c : Nat} {A : Option Addr} {fs : List Fld} (h : FRow w B (.slice A n c) fs) (hn : fs.length * 24 ≤ 140737488355328) : Fl w A n fs ∧ fs.length = n ∧ n ≤ c ∧ c ≤ maxLen ∧ (A = none → c = 0) := by
  rcases id h.2 with ⟨e, h0⟩ | ⟨g, cap, cur, e, _, _, h1, h2, _⟩
  · injection e with e1 e2 e3
    subst e1 e2 e3
    have hfs : fs = [] := List.eq_nil_of_length_eq_zero h0
    subst hfs
    exact ⟨⟨rfl, by omega, fun h => absurd h (by decide)⟩, rfl, Nat.le_refl _, Nat.zero_le _, fun _ => rfl⟩
  · injection e with e1 e2 e3
    subst e1 e2 e3
    refine ⟨⟨rfl, by omega, fun hp => ⟨g, 0, rfl, fun i f hf j v hv => ?_⟩⟩, rfl, h1, h2, fun h => by cases h⟩
    have hj : j < 2 := (List.getElem?_eq_some_iff.1 hv).1
    have := World.ownsRow.cells (g := g) h rfl (i * 2 + j) v (by rw [fcs_at fs i j f hf hj]; exact hv)
    rw [add_nat] at this
    rw [Nat.zero_add] at this ⊢
    exact this
/-- what appends fields that lie anywhere -/
theorem frow_grow {B : Nat} {w : World} {v : Value} {fs news : List Fld} {A : Option Addr} {m c : Nat} {ty : TypeId} (hown : FRow w B v fs) (hB : B ≤ w.heap.size) (hb : Fl w A m news) (hc : A = none → c = 0) (hlen : (fs.length + m) * 24 ≤ 140737488355328) :
    ∃ A' c' w', (Builtin.append_ #[47, 47] ty #[v, .slice A m c]).run Tryz.prog w = .ok (.slice A' (fs.length + m) c') w' ∧ FRow w' B (.slice A' (fs.length + m) c') (fs ++ news) ∧ w.grownBy w' v.ownBlock := by
  obtain ⟨h1, h2, h3⟩ := hb
  obtain ⟨i0, hi0, hz0, hz1, hz2⟩ := info_parts fieldInfo
  have form : ∀ {w' : World} {v' : Value} {n : Nat} {xs : List Value}, w'.ownsRow B 53 2 v' n xs → ∃ A' c', v' = .slice A' n c' := by
    intro w' v' n xs h
    rcases h.2 with ⟨rfl, h0⟩ | ⟨g, cap, cur, rfl, _⟩
    · exact ⟨none, 0, by rw [h0]⟩
    · exact ⟨_, _, rfl⟩
  rcases A with _ | A
  · obtain rfl := hc rfl
    have hm0 : m = 0 := by
      rcases Nat.eq_zero_or_pos m with h0 | h0
      · exact h0
      · obtain ⟨_, _, h4, _⟩ := h3 h0; cases h4
    subst hm0
    have hn : news = [] := List.eq_nil_of_length_eq_zero h1
    subst hn
    have hrun := run_append_owned_none (P := Tryz.prog) (w := w) B 47 ty 53 i0 2 Tryz.underlying47 hi0 v _ _ hown
    obtain ⟨A', c', rfl⟩ := form hown
    exact ⟨A', c', w, hrun, by rw [List.append_nil]; exact hown, ⟨rfl, rfl, rfl, Nat.le_refl _, fun _ _ _ => rfl⟩⟩
  · obtain ⟨v', w', g1, g2, g3, _, _⟩ := run_append_own_at (P := Tryz.prog) w B 47 ty 53 i0 _ 2 24 Tryz.underlying47 hi0 hz0 hz1 hz2
      rfl (by omega) v fs.length _ hown A m c (fcs news) (by rw [fcs_len, h1]) (fun j u hj => by
        have hjl : j < news.length * 2 := by
          have := (List.getElem?_eq_some_iff.1 hj).1
          rwa [fcs_len] at this
        obtain ⟨b, off, e, hcell⟩ := h3 (by omega)
        obtain rfl := Option.some.inj e
        obtain ⟨f, hf⟩ : ∃ f, news[j / 2]? = some f := ⟨_, List.getElem?_eq_getElem (show j / 2 < news.length from by omega)⟩
        have hq := fcs_at news (j / 2) (j % 2) f hf (by omega)
        rw [show j / 2 * 2 + j % 2 = j from by omega, hj] at hq
        have := hcell (j / 2) f hf (j % 2) u hq.symm
        rw [add_nat]
        rwa [Nat.add_assoc, show j / 2 * 2 + j % 2 = j from by omega] at this) (fcs_one news) (by unfold maxLen; omega) (by omega) hB
    obtain ⟨A', c', rfl⟩ := form g2
    refine ⟨A', c', w', g1, ?_, g3⟩
    unfold FRow
    rw [List.length_append, h1, fcs_append]
    exact g2
theorem frow_more {F : Nat → Prop} {W1 w : World} {v : Value} {fs news : List Fld} {A : Option Addr} {m c : Nat} {ty : TypeId} (hown : FRow w W1.heap.size v fs) (hT : Turn F W1 w) (hb : Fl w A m news) (hc : A = none → c = 0) (hlen : (fs.length + m) * 24 ≤ 140737488355328) :
    ∃ A' c' w', (Builtin.append_ #[47, 47] ty #[v, .slice A m c]).run Tryz.prog w = .ok (.slice A' (fs.length + m) c') w' ∧ FRow w' W1.heap.size (.slice A' (fs.length + m) c') (fs ++ news) ∧ Turn F W1 w' := by
  obtain ⟨A', c', w', h1, h2, h3⟩ := frow_grow (ty := ty) hown hT.size hb hc hlen
  exact ⟨A', c', w', h1, h2, hT.grown h3 fun g e hg => by
    have := (hown.lt g e).1
    omega⟩
theorem build_f1 (f : Fld) (W : World) : (Instr.buildSlice 47 1 #[(0, .agg (fldA f))]).run Tryz.prog W = .ok (.slice (some ⟨W.heap.size, 0, none⟩) 1 1) (W.alloc (.cells (fldA f) 53)) := by
  obtain ⟨i0, hi0, hz0, hz1, hz2⟩ := info_parts fieldInfo
  exact run_buildSlice_one (P := Tryz.prog) (v := .agg (fldA f)) Tryz.underlying47 hi0 hz0 (by rw [hz1]; rfl) (by rw [hz1]; rfl) (by omega) (by omega) W
/-- one field in a block of its own -/
theorem fl_one (f : Fld) (w : World) : Fl (w.alloc (.cells (fldA f) 53)) (some ⟨w.heap.size, 0, none⟩) 1 [f] := by
  refine ⟨rfl, by omega, fun _ => ⟨_, _, rfl, fun i g hg j v hv => ?_⟩⟩
  have hi : i = 0 := by
    have := (List.getElem?_eq_some_iff.1 hg).1
    simpa using this
  subst hi
  obtain rfl : f = g := by simpa using hg
  rw [(Blk.new w 53 (fldA f)).cell, Nat.zero_mul, Nat.zero_add]
  simpa using hv
/-- what appends one field -/
theorem frow_add {F : Nat → Prop} {W1 w : World} {v : Value} {fs : List Fld} {ty : TypeId} (hown : FRow w W1.heap.size v fs) (hT : Turn F W1 w) (f : Fld) (hlen : (fs.length + 1) * 24 ≤ 140737488355328) :
    ∃ A' c' w', (Builtin.append_ #[47, 47] ty #[v, .slice (some ⟨w.heap.size, 0, none⟩) 1 1]).run Tryz.prog (w.alloc (.cells (fldA f) 53)) = .ok (.slice A' (fs.length + 1) c') w' ∧ FRow w' W1.heap.size (.slice A' (fs.length + 1) c') (fs ++ [f]) ∧ Turn F W1 w' :=
  frow_more (c := 1) (hown.still ((Turn.refl nowhere w).alloc (.cells (fldA f) 53))) (hT.alloc _) (fl_one f w) (fun h => by cases h) hlen
/-- append([]api.Field{}, l...) -/
theorem copy_fs {w : World} {A : Option Addr} {m c : Nat} {fs : List Fld} {ty : TypeId} (hb : Fl w A m fs) (hc : A = none → c = 0) (hm : m * 24 ≤ 140737488355328) :
    ∃ A' c' w', (Builtin.append_ #[47, 47] ty #[.slice (some ⟨w.heap.size, 0, none⟩) 0 0, .slice A m c]).run Tryz.prog (w.alloc (.cells #[] 53)) = .ok (.slice A' m c') w' ∧ FRow w' w.heap.size (.slice A' m c') fs ∧ Turn nowhere w w' := by
  have hT := (Turn.refl nowhere w).alloc (.cells #[] 53)
  obtain ⟨A', c', w', h1, h2, h3⟩ := frow_more (ty := ty) (fs := []) (c := c) (W1 := w) (show FRow (w.alloc (.cells #[] 53)) w.heap.size (.slice (some ⟨w.heap.size, 0, none⟩) 0 0) [] from
    World.ownsRow_made w #[] 0 (Nat.le_refl _) (by unfold maxLen; omega) rfl) hT (hb.still hT) hc (by simp; omega)
  have hl : ([] : List Fld).length + m = m := by simp
  rw [hl] at h1 h2
  exact ⟨A', c', w', h1, h2, h3⟩
end Go.Proofs.YtfnillibngijaaaGreatDoor
namespace Go.Proofs.YtfnillibngijaaaGreatDoor
open Go.RowKit
open Fdd
set_option linter.unusedVariables false
set_option linter.unusedSimpArgs false
section
variable {α : Type}
theorem seg_take (l cs : List α) (o : Nat) (h : o + cs.length ≤ l.length) : (l.take o ++ cs ++ l.drop (o + cs.length)).take (o + cs.length) = l.take o ++ cs := by
  rw [List.take_append_of_le_length (by rw [List.length_append, List.length_take]; omega)]
  exact List.take_of_length_le (by rw [List.length_append, List.length_take]; omega)
theorem seg_drop (l cs : List α) (o : Nat) (h : o + cs.length ≤ l.length) : (l.take o ++ cs ++ l.drop (o + cs.length)).drop o = cs ++ l.drop (o + cs.length) := by
  rw [List.append_assoc]
  exact List.drop_left' (by rw [List.length_take]; omega)
theorem seg_less (l cs : List α) (o b : Nat) (h : o + cs.length ≤ l.length) (hb : b ≤ o) : (l.take o ++ cs ++ l.drop (o + cs.length)).take b = l.take b := by
  rw [List.append_assoc, List.take_append_of_le_length (by rw [List.length_take]; omega), List.take_take, Nat.min_eq_left hb]
theorem seg_len (l cs : List α) (o : Nat) (h : o + cs.length ≤ l.length) : (l.take o ++ cs ++ l.drop (o + cs.length)).length = l.length := by
  rw [List.length_append, List.length_append, List.length_take, List.length_drop]
  omega
/-- first the one at a, then the one behind it -/
theorem seg_up (l c1 c2 : List α) (a : Nat) (h : a + c1.length + c2.length ≤ l.length) :
    let l1 := l.take a ++ c1 ++ l.drop (a + c1.length)
    (l1.take (a + c1.length) ++ c2 ++ l1.drop (a + c1.length + c2.length)).take (a + c1.length + c2.length) = l.take a ++ c1 ++ c2 := by
  intro l1
  have hl : l1.length = l.length := seg_len l c1 a (by omega)
  rw [seg_take l1 c2 (a + c1.length) (by omega), seg_take l c1 a (by omega)]
/-- first the one behind, then the one ahead of it -/
theorem seg_down (l c1 c2 : List α) (a : Nat) (h : a + c1.length + c2.length ≤ l.length) :
    let l1 := l.take (a + c1.length) ++ c2 ++ l.drop (a + c1.length + c2.length)
    (l1.take a ++ c1 ++ l1.drop (a + c1.length)).take (a + c1.length + c2.length) = l.take a ++ c1 ++ c2 := by
  intro l1
  have hl : l1.length = l.length := seg_len l c2 (a + c1.length) h
  have h1 : l1.drop (a + c1.length) = c2 ++ l.drop (a + c1.length + c2.length) := seg_drop l c2 (a + c1.length) h
  have h2 : l1.take a = l.take a := seg_less l c2 (a + c1.length) a h (by omega)
  rw [h1, h2, ← List.append_assoc, List.take_append_of_le_length (by simp only [List.length_append, List.length_take]; omega)]
  exact List.take_of_length_le (by simp only [List.length_append, List.length_take]; omega)
end
theorem setRow_turn (w : World) (g : Nat) (cs : Array Value) : Turn (only g) w (w.setRow g cs) := ⟨rfl, rfl, rfl, by simp, fun k _ hk => setRow_other w g k cs hk⟩
/-- a copy of fields into the middle of a block -/
theorem run_copy2 {w : World} {ty : TypeId} {g o dLen dCap sLen sCap : Nat} {a : Addr} {cur : Array Value} {cs : List Value} (hg : Blk w g 53 cur) (hn : cs.length = Nat.min sLen dLen * 2)
    (hsrc : ∀ j v, cs[j]? = some v → w.cell? (a.add j) = some v) (hfit : o + cs.length ≤ cur.size) (h1 : ∀ v ∈ cs, v.oneCell' = true) :
    (Builtin.copy_ #[47, 47] ty #[.slice (some ⟨g, o, none⟩) dLen dCap, .slice (some a) sLen sCap]).run Tryz.prog w = .ok (goInt (Nat.min sLen dLen)) (w.setRow g (cur.toList.take o ++ cs ++ cur.toList.drop (o + cs.length)).toArray) := by
  obtain ⟨i0, hi0, hz0, hz1, hz2⟩ := info_parts fieldInfo
  have hl := run_loadCells_list (P := Tryz.prog) w a cs hsrc
  have hst := run_storeCells_at (P := Tryz.prog) g o 53 cs 0 cur w hg (by simpa using hfit) h1
  rw [hn] at hl
  simp [Builtin.copy_, run_underlying Tryz.underlying47, Builtin.lenOf, Builtin.firstCells, sizeOf, typeInfo, hi0, hz1, hl, hst]
theorem fcs_take (l : List Fld) (i : Nat) (h : i ≤ l.length) : (fcs l).take (i * 2) = fcs (l.take i) := by
  have e : fcs l = fcs (l.take i) ++ fcs (l.drop i) := by rw [← fcs_append, List.take_append_drop]
  rw [e, List.take_append_of_le_length (by rw [fcs_len, List.length_take]; omega)]
  exact List.take_of_length_le (by rw [fcs_len, List.length_take]; omega)
theorem fcs_drop (l : List Fld) (i : Nat) (h : i ≤ l.length) : (fcs l).drop (i * 2) = fcs (l.drop i) := by
  have e : fcs l = fcs (l.take i) ++ fcs (l.drop i) := by rw [← fcs_append, List.take_append_drop]
  rw [e]
  exact List.drop_left' (by rw [fcs_len, List.length_take]; omega)
end Go.Proofs.YtfnillibngijaaaGreatDoor
namespace Go.Proofs.YtfnillibngijaaaGreatDoor
open Go.RowKit
open Fdd
set_option linter.unusedVariables false
set_option linter.unusedSimpArgs false
theorem fld_size2 : ∃ i, Tryz.prog.info? 53 = some i ∧ i.size = 2 := by
  have h := fieldInfo
  cases hq : Tryz.prog.info? 53 with
  | none => rw [hq] at h; cases h
  | some i => exact ⟨i, rfl, by rw [hq] at h; simp at h; exact h.2.1⟩
theorem sf_to (A : Option Addr) (n c e : Nat) (hc : e ≤ c) (W : World) : (Instr.sliceAt 47 (.slice A n c) none (some (.int .i64 (e : Int))) none).run Tryz.prog W = .ok (.slice A e c) W := by
  obtain ⟨i, hi1, hi2⟩ := fld_size2
  have b1 : (0 : Int) ≤ (e : Int) ∧ (e : Int) ≤ (c : Int) := ⟨by omega, by omega⟩
  have hu := Tryz.underlying47
  simp [Instr.sliceAt, Instr.slice, Instr.sliceBounds, Instr.sliceBound, asIntOf, run_underlying hu, sizeOf, typeInfo, hi1, b1]
  rw [if_pos (show e ≤ c by omega)]
  cases A <;> simp [Addr.add]
def fromF (A : Option Addr) (c d : Nat) : Option Addr := if c = d then A else A.map (·.add (d * 2))
theorem sf_from (A : Option Addr) (n c d : Nat) (h0 : d ≤ n) (hc : n ≤ c) (W : World) : (Instr.sliceAt 47 (.slice A n c) (some (.int .i64 (d : Int))) none none).run Tryz.prog W = .ok (.slice (fromF A c d) (n - d) (c - d)) W := by
  obtain ⟨i, hi1, hi2⟩ := fld_size2
  have b1 : (0 : Int) ≤ (d : Int) ∧ (d : Int) ≤ (n : Int) := ⟨by omega, by omega⟩
  have hu := Tryz.underlying47
  simp [Instr.sliceAt, Instr.slice, Instr.sliceBounds, Instr.sliceBound, asIntOf, run_underlying hu, sizeOf, typeInfo, hi1, hi2, b1, fromF]
  intro h
  omega
theorem fromF_at {g o c d : Nat} (h : d < c) : fromF (some ⟨g, o, none⟩) c d = some ⟨g, o + d * 2, none⟩ := by
  unfold fromF
  rw [if_neg (by omega)]
  show some ((⟨g, o, none⟩ : Addr).add (d * 2)) = _
  rw [add_nat]
section
variable {a : Act} {o : Oper} {W W' : World}
theorem gx_cap {x : Operand} {A : Option Addr} {n c : Nat} {t e : TypeId} (ho : o.op = .call { callee := .builtin .cap, args := #[x], argTypes := #[t] }) (hx : a.eval x = .slice A n c) (ht : Tryz.prog.underlying t = some (.slice e)) :
    (execOp a.eval o).run Tryz.prog W = .ok (.value (.int .i64 (c : Int))) W := by
  unfold execOp
  simp [ho, resolve, invoke, builtin, hx, Builtin.cap_, run_underlying ht, goInt]
theorem exec_copy {t : TypeId} {x y : Operand} {u v r : Value} (ho : o.op = .call { callee := .builtin .copy, args := #[x, y], argTypes := #[t, t] }) (hx : a.eval x = u) (hy : a.eval y = v) (hr : (Builtin.copy_ #[t, t] o.type #[u, v]).run Tryz.prog W = .ok r W') :
    (execOp a.eval o).run Tryz.prog W = .ok (.value r) W' := by
  unfold execOp
  simp only [ho, resolve, invoke, builtin, Sem.run_bind, Sem.run_pure, Result.andThen_ok, List.map_toArray, List.map_cons, List.map_nil, hx, hy, hr]
theorem exec_appz {t u : TypeId} {x y : Operand} {p v r : Value} (ho : o.op = .call { callee := .builtin .append, args := #[x, y], argTypes := #[t, u] }) (hx : a.eval x = p) (hy : a.eval y = v) (hr : (Builtin.append_ #[t, u] o.type #[p, v]).run Tryz.prog W = .ok r W') :
    (execOp a.eval o).run Tryz.prog W = .ok (.value r) W' := by
  unfold execOp
  simp only [ho, resolve, invoke, builtin, Sem.run_bind, Sem.run_pure, Result.andThen_ok, List.map_toArray, List.map_cons, List.map_nil, hx, hy, hr]
end
theorem fl_blk {w : World} {g : Nat} {x : Fld} (hx : Blk w g 53 (fldA x)) : Fl w (some ⟨g, 0, none⟩) 1 [x] := by
  refine ⟨rfl, by omega, fun _ => ⟨_, _, rfl, fun i y hy j v hv => ?_⟩⟩
  have hi : i = 0 := by
    have := (List.getElem?_eq_some_iff.1 hy).1
    simpa using this
  subst hi
  obtain rfl : x = y := by simpa using hy
  rw [hx.cell, Nat.zero_mul, Nat.zero_add]
  simpa using hv
/-- no room: a new row is made, the field and what stands behind it are copied into it -/
theorem ins_grow {W1 w : World} {b n c i g : Nat} {l : List Fld} {x : Fld} (hown : FRow w W1.heap.size (.slice (some ⟨b, 0, none⟩) n c) l) (hT : Turn nowhere W1 w) (hn : l.length = n) (hi : i < n) (hx : Blk w g 53 (fldA x)) (hc : n ≤ c) (hroom : c < n + 1) (hsz : (n + 1) * 24 ≤ 140737488355328) :
    ∃ g2 c2 w2, (Builtin.append_ #[47, 3] 47 #[.slice (some ⟨b, 0, none⟩) i c, .int .i64 ((n + 1 - i : Nat) : Int)]).run Tryz.prog w = .ok (.slice (some ⟨g2, 0, none⟩) (n + 1) c2) w2 ∧ n + 1 ≤ c2 ∧ c2 ≤ maxLen ∧
      ∃ w3, (Builtin.copy_ #[47, 47] 3 #[.slice (some ⟨g2, i * 2, none⟩) (n + 1 - i) (c2 - i), .slice (some ⟨g, 0, none⟩) 1 1]).run Tryz.prog w2 = .ok (goInt (Nat.min 1 (n + 1 - i))) w3 ∧
        ∃ w4, (Builtin.copy_ #[47, 47] 3 #[.slice (some ⟨g2, (i + 1) * 2, none⟩) (n + 1 - (i + 1)) (c2 - (i + 1)), .slice (some ⟨b, i * 2, none⟩) (n - i) (c - i)]).run Tryz.prog w3.drew = .ok (goInt (Nat.min (n - i) (n + 1 - (i + 1)))) w4 ∧
          FRow w4 W1.heap.size (.slice (some ⟨g2, 0, none⟩) (n + 1) c2) (l.take i ++ x :: l.drop i) ∧ Turn nowhere W1 w4 := by
  obtain ⟨i0, hi0, hz0, hz1, hz2⟩ := info_parts fieldInfo
  have hcells : ∀ j u, (fcs l)[j]? = some u → w.cell? ⟨b, j, none⟩ = some u := fun j u h => by
    have := World.ownsRow.cells (g := b) hown rfl j u h
    rwa [add_nat, Nat.zero_add] at this
  have hlen : (fcs l).length = n * 2 := by rw [fcs_len, hn]
  have hbw : b < w.heap.size := (hown.lt b rfl).2
  have htk : (fcs (l.take i)).length = i * 2 := by rw [fcs_len, List.length_take]; omega
  have hdk : (fcs (l.drop i)).length = (n - i) * 2 := by rw [fcs_len, List.length_drop, hn]
  have hold : (Builtin.firstCells i0.size i (.slice (some ⟨b, 0, none⟩) i c)).run Tryz.prog w.drew = .ok (fcs (l.take i)).toArray w.drew := by
    have hl := run_loadCells_list (P := Tryz.prog) w.drew ⟨b, 0, none⟩ (fcs (l.take i)) (fun j u h => by
      rw [add_nat, Nat.zero_add]
      rw [← fcs_take l i (by omega), List.getElem?_take] at h
      split at h
      · exact hcells j u h
      · cases h)
    rw [htk] at hl
    rw [hz1]
    exact hl
  have hap := Lib.run_append_grow_zeros (P := Tryz.prog) w 47 3 47 53 i0 _ .i64 .i64 Tryz.underlying47 Tryz.underlying3 hi0 hz0 (some ⟨b, 0, none⟩) i c (fcs (l.take i)) hold (n + 1 - i) (by omega) (by omega) (by omega) (by omega) (by rw [hz2]; omega)
    (by rw [hz2, show i + (n + 1 - i) = n + 1 from by omega]; exact growslice_fits hroom hsz)
  rw [show i + (n + 1 - i) = n + 1 from by omega] at hap
  have hGe : n + 1 ≤ grownCap w (n + 1) c 53 := grownCap_ge w _ _ _
  have hGm : grownCap w (n + 1) c 53 ≤ maxLen := grownCap_le_maxLen w (n + 1) c 53 (by unfold maxLen; omega)
  generalize grownCap w (n + 1) c 53 = G at *
  obtain ⟨ROW, hROW⟩ : ∃ ROW : Array Value, ROW = (fcs (l.take i)).toArray ++ Builtin.zeroCells (Value.agg #[.int .i64 0, strV []]).cells (n + 1 - i) ++ Builtin.zeroCells (Value.agg #[.int .i64 0, strV []]).cells (G - (n + 1)) := ⟨_, rfl⟩
  rw [← hROW] at hap
  have hRs : ROW.size = G * 2 := by
    rw [hROW]
    simp only [Array.size_append, Builtin.zeroCells, Array.size_map, Array.size_range, List.size_toArray, htk, Value.cells]
    show i * 2 + (n + 1 - i) * 2 + (G - (n + 1)) * 2 = G * 2
    omega
  have hRt : ROW.toList.take (i * 2) = fcs (l.take i) := by
    rw [hROW, Array.toList_append, Array.toList_append, List.append_assoc, List.take_append_of_le_length (by simp [htk])]
    exact List.take_of_length_le (by simp [htk])
  obtain ⟨g2, hg2⟩ : ∃ g2, g2 = w.heap.size := ⟨_, rfl⟩
  have hB2 : Blk (w.drew.alloc (.cells ROW 53)) g2 53 ROW := by rw [hg2]; exact Blk.new w.drew _ _
  have hT2 : Turn nowhere w (w.drew.alloc (.cells ROW 53)) := ((Turn.refl nowhere w).drew).alloc _
  rw [← hg2] at hap
  generalize w.drew.alloc (.cells ROW 53) = w2 at *
  have hg2b : b ≠ g2 := by omega
  have hgg : g ≠ g2 := by have := hx.lt; omega
  have hx2 := hx.turn hT2 (fun e => e)
  have hc3 := run_copy2 (w := w2) (ty := 3) (g := g2) (o := i * 2) (dLen := n + 1 - i) (dCap := G - i) (sLen := 1) (sCap := 1) (a := ⟨g, 0, none⟩) (cs := fcs [x]) hB2 (by
      rw [fcs_len]
      simp only [Nat.min_def, List.length_cons, List.length_nil]
      split <;> omega) (fun j u h => by
      have hj : j < 2 := (List.getElem?_eq_some_iff.1 h).1
      rw [add_nat, Nat.zero_add, hx2.cell]
      have := fcs_at [x] 0 j x rfl hj
      rw [Nat.zero_mul, Nat.zero_add, h] at this
      simpa using this.symm) (by rw [fcs_len, hRs]; simp; omega) (fcs_one _)
  have hl1 : (fcs [x]).length = 2 := rfl
  have hB3 : Blk (w2.setRow g2 (ROW.toList.take (i * 2) ++ fcs [x] ++ ROW.toList.drop (i * 2 + (fcs [x]).length)).toArray) g2 53 _ := setRow_heap w2 g2 _ _ _ _ hB2
  have hT3 := setRow_turn w2 g2 (ROW.toList.take (i * 2) ++ fcs [x] ++ ROW.toList.drop (i * 2 + (fcs [x]).length)).toArray
  generalize w2.setRow g2 (ROW.toList.take (i * 2) ++ fcs [x] ++ ROW.toList.drop (i * 2 + (fcs [x]).length)).toArray = w3 at *
  have hls : (ROW.toList.take (i * 2) ++ fcs [x] ++ ROW.toList.drop (i * 2 + (fcs [x]).length)).length = G * 2 := by
    rw [seg_len _ _ _ (by rw [hl1, Array.length_toList, hRs]; omega), Array.length_toList, hRs]
  have hc4 := run_copy2 (w := w3.drew) (ty := 3) (g := g2) (o := (i + 1) * 2) (dLen := n + 1 - (i + 1)) (dCap := G - (i + 1)) (sLen := n - i) (sCap := c - i) (a := ⟨b, i * 2, none⟩) (cs := fcs (l.drop i)) hB3.drew (by
      rw [hdk]
      simp only [Nat.min_def]
      split <;> omega) (fun j u h => by
      rw [add_nat]
      rw [← fcs_drop l i (by omega), List.getElem?_drop] at h
      have := hcells _ _ h
      show w3.cell? ⟨b, i * 2 + j, none⟩ = _
      rw [hT3.cell (p := ⟨b, i * 2 + j, none⟩) (by show b < w2.heap.size; have := hT2.size; omega) hg2b, hT2.cell (p := ⟨b, i * 2 + j, none⟩) hbw (fun e => e)]
      exact this) (by rw [hdk, List.size_toArray, hls]; omega) (fcs_one _)
  have hL : (l.take i ++ x :: l.drop i).length = n + 1 := by
    rw [List.length_append, List.length_cons, List.length_take, List.length_drop, hn]
    omega
  refine ⟨g2, G, w2, hap, hGe, hGm, w3, hc3, _, hc4, ?_, ?_⟩
  · refine ⟨by rw [fcs_len], .inr ⟨g2, G, _, ?_, by have := hT.size; omega, setRow_heap w3.drew g2 _ _ _ _ hB3.drew, ?_, hGm, ?_, ?_⟩⟩
    · rw [hL]
    · rw [hL]
      exact hGe
    · rw [List.size_toArray, List.toList_toArray, seg_len _ _ _ (by rw [hls, hdk]; omega), hls]
    · have h := seg_up ROW.toList (fcs [x]) (fcs (l.drop i)) (i * 2) (by rw [hl1, hdk, Array.length_toList, hRs]; omega)
      simp only at h
      rw [hl1] at h
      rw [show (l.take i ++ x :: l.drop i).length * 2 = i * 2 + 2 + (fcs (l.drop i)).length from by
        simp only [List.length_append, List.length_cons, List.length_take, List.length_drop, hdk, hn]
        omega, show (i + 1) * 2 = i * 2 + 2 from by omega]
      rw [List.toList_toArray, List.toList_toArray]
      rw [hl1]
      rw [h, hRt, show l.take i ++ x :: l.drop i = l.take i ++ ([x] ++ l.drop i) from rfl, fcs_append, fcs_append, List.append_assoc]
  · refine ((hT.trans hT2 fun _ _ e => e).trans hT3 fun k hk e => ?_).trans (((Turn.refl (only g2) w3).drew).trans (setRow_turn w3.drew g2 _) fun _ _ e => e) fun k hk e => ?_
    · have e : k = g2 := e
      have := hT.size
      omega
    · have e : k = g2 := e
      have := hT.size
      omega
/-- there is room: what stands behind is moved on by one, then the field is copied into its place -/
theorem ins_room {W1 w : World} {b n c i g : Nat} {l : List Fld} {x : Fld} (hown : FRow w W1.heap.size (.slice (some ⟨b, 0, none⟩) n c) l) (hT : Turn nowhere W1 w) (hn : l.length = n) (hi : i < n) (hx : Blk w g 53 (fldA x)) (hg : b ≠ g) (hroom : n + 1 ≤ c) (hc63 : c ≤ maxLen) :
    (∀ lb cb, (Extern.SlicesOverlaps.overlaps #[47, 47] #[4] #[.slice (some ⟨g, 0, none⟩) 1 1, .slice (some ⟨b, (i + 1) * 2, none⟩) lb cb]).run Tryz.prog w = .ok (.bool false) w) ∧
    ∃ w3, (Builtin.copy_ #[47, 47] 3 #[.slice (some ⟨b, (i + 1) * 2, none⟩) (n + 1 - (i + 1)) (c - (i + 1)), .slice (some ⟨b, i * 2, none⟩) (n + 1 - i) (c - i)]).run Tryz.prog w.drew = .ok (goInt (Nat.min (n + 1 - i) (n + 1 - (i + 1)))) w3 ∧
      ∃ w4, (Builtin.copy_ #[47, 47] 3 #[.slice (some ⟨b, i * 2, none⟩) (n + 1 - i) (c - i), .slice (some ⟨g, 0, none⟩) 1 1]).run Tryz.prog w3 = .ok (goInt (Nat.min 1 (n + 1 - i))) w4 ∧
        FRow w4 W1.heap.size (.slice (some ⟨b, 0, none⟩) (n + 1) c) (l.take i ++ x :: l.drop i) ∧ Turn nowhere W1 w4 := by
  have hcells : ∀ j u, (fcs l)[j]? = some u → w.cell? ⟨b, j, none⟩ = some u := fun j u h => by
    have := World.ownsRow.cells (g := b) hown rfl j u h
    rwa [add_nat, Nat.zero_add] at this
  have hlen : (fcs l).length = n * 2 := by rw [fcs_len, hn]
  have hdk : (fcs (l.drop i)).length = (n - i) * 2 := by rw [fcs_len, List.length_drop, hn]
  obtain ⟨hbw1, hbw⟩ := hown.lt b rfl
  obtain ⟨cur, hcur, hcs, htake⟩ : ∃ cur, Blk w b 53 cur ∧ cur.size = c * 2 ∧ cur.toList.take (n * 2) = fcs l := by
    rcases id hown.2 with ⟨e, _⟩ | ⟨g', cap, cur, e, _, hg', _, _, h1, h2⟩
    · cases e
    · injection e with e1 e2 e3
      injection e1 with e1
      injection e1 with e1 _ _
      subst e1 e3
      rw [hn] at h2
      exact ⟨cur, hg', h1, h2⟩
  have hl1 : (fcs [x]).length = 2 := rfl
  have hc3 := run_copy2 (w := w.drew) (ty := 3) (g := b) (o := (i + 1) * 2) (dLen := n + 1 - (i + 1)) (dCap := c - (i + 1)) (sLen := n + 1 - i) (sCap := c - i) (a := ⟨b, i * 2, none⟩) (cs := fcs (l.drop i)) hcur.drew (by
      rw [hdk]
      simp only [Nat.min_def]
      split <;> omega) (fun j u h => by
      rw [add_nat]
      rw [← fcs_drop l i (by omega), List.getElem?_drop] at h
      exact hcells _ _ h) (by rw [hdk, hcs]; omega) (fcs_one _)
  have hB3 : Blk (w.drew.setRow b (cur.toList.take ((i + 1) * 2) ++ fcs (l.drop i) ++ cur.toList.drop ((i + 1) * 2 + (fcs (l.drop i)).length)).toArray) b 53 _ := setRow_heap w.drew b _ _ _ _ hcur.drew
  have hT3 : Turn (only b) w (w.drew.setRow b (cur.toList.take ((i + 1) * 2) ++ fcs (l.drop i) ++ cur.toList.drop ((i + 1) * 2 + (fcs (l.drop i)).length)).toArray) := (Turn.refl (only b) w).drew.trans (setRow_turn w.drew b _) fun _ _ e => e
  generalize w.drew.setRow b (cur.toList.take ((i + 1) * 2) ++ fcs (l.drop i) ++ cur.toList.drop ((i + 1) * 2 + (fcs (l.drop i)).length)).toArray = w3 at *
  have hls : (cur.toList.take ((i + 1) * 2) ++ fcs (l.drop i) ++ cur.toList.drop ((i + 1) * 2 + (fcs (l.drop i)).length)).length = c * 2 := by
    rw [seg_len _ _ _ (by rw [hdk, Array.length_toList, hcs]; omega), Array.length_toList, hcs]
  have hx3 := hx.turn hT3 (fun e => hg (by have e : g = b := e; exact e.symm))
  have hc4 := run_copy2 (w := w3) (ty := 3) (g := b) (o := i * 2) (dLen := n + 1 - i) (dCap := c - i) (sLen := 1) (sCap := 1) (a := ⟨g, 0, none⟩) (cs := fcs [x]) hB3 (by
      rw [fcs_len]
      simp only [Nat.min_def, List.length_cons, List.length_nil]
      split <;> omega) (fun j u h => by
      have hj : j < 2 := (List.getElem?_eq_some_iff.1 h).1
      rw [add_nat, Nat.zero_add, hx3.cell]
      have := fcs_at [x] 0 j x rfl hj
      rw [Nat.zero_mul, Nat.zero_add, h] at this
      simpa using this.symm) (by rw [hl1, List.size_toArray, hls]; omega) (fcs_one _)
  have hL : (l.take i ++ x :: l.drop i).length = n + 1 := by
    rw [List.length_append, List.length_cons, List.length_take, List.length_drop, hn]
    omega
  refine ⟨fun lb cb => ?_, w3, hc3, _, hc4, ?_, ?_⟩
  · obtain ⟨i0, hi0, hz0, hz1, hz2⟩ := info_parts fieldInfo
    exact Lib.run_overlaps_apart w 47 4 53 Tryz.underlying47 2 (fun W => by simp [sizeOf, typeInfo, hi0, hz1]) ⟨g, 0, none⟩ ⟨b, (i + 1) * 2, none⟩ 1 1 lb cb (fun e => hg e.symm) 53 53 2 (c * 2)
      (by
        have h : w.heap[g]? = some (.cells (fldA x) 53 (0, 0)) := hx
        simp [World.shape?, h, fldA])
      (by
        have h : w.heap[b]? = some (.cells cur 53 (0, 0)) := hcur
        simp [World.shape?, h, hcs]) (by omega) (hx.frozen 0) (hx.frozen 2)
  · refine ⟨by rw [fcs_len], .inr ⟨b, c, _, ?_, hbw1, setRow_heap w3 b _ _ _ _ hB3, ?_, hc63, ?_, ?_⟩⟩
    · rw [hL]
    · rw [hL]
      exact hroom
    · rw [List.size_toArray, List.toList_toArray, seg_len _ _ _ (by rw [hls, hl1]; omega), hls]
    · have h := seg_down cur.toList (fcs [x]) (fcs (l.drop i)) (i * 2) (by rw [hl1, hdk, Array.length_toList, hcs]; omega)
      simp only at h
      rw [hl1] at h
      rw [show (l.take i ++ x :: l.drop i).length * 2 = i * 2 + 2 + (fcs (l.drop i)).length from by
        simp only [List.length_append, List.length_cons, List.length_take, List.length_drop, hdk, hn]
        omega, show (i + 1) * 2 = i * 2 + 2 from by omega]
      rw [List.toList_toArray, List.toList_toArray]
      rw [hl1]
      have hti : cur.toList.take (i * 2) = fcs (l.take i) := by
        rw [← fcs_take l i (by omega), ← htake, List.take_take, Nat.min_eq_left (by omega)]
      rw [h, hti, show l.take i ++ x :: l.drop i = l.take i ++ ([x] ++ l.drop i) from rfl, fcs_append, fcs_append, List.append_assoc]
  · refine (hT.trans hT3 fun k hk e => ?_).trans (setRow_turn w3 b _) fun k hk e => ?_
    · have e : k = b := e
      omega
    · have e : k = b := e
      omega
end Go.Proofs.YtfnillibngijaaaGreatDoor
