/-
  Texts in one file. Conditions: the tables and the errors read as laid.
-/
import Derived.Test.YtkagijifkpoplaaGreatDoorJT16
import Derived.Laws.CopyRow
import Derived.Lib.AppendZerosOnto
import Derived.Lib.Overlaps
import Derived.Laws.Externs
import Derived.Test.YtkagijifkpoplaaGreatDoorJT1
import Derived.Test.YtkagijifkpoplaaGreatDoorJT0
import Derived.Test.YtkagijifkpoplaaGreatDoorJT13
set_option linter.unusedVariables false
set_option linter.unusedSimpArgs false
set_option maxRecDepth 40000
set_option maxHeartbeats 20000000
namespace Go.Proofs.YtkagijifkpoplaaGreatDoor
open Go.RowKit
open Fdd
def fcs (fs : List Fld) : List Value := fs.flatMap fun f => (fldA f).toList
theorem fcs_append (a b : List Fld) : fcs (a ++ b) = fcs a ++ fcs b := List.flatMap_append
theorem fcs_len : ∀ fs : List Fld, (fcs fs).length = fs.length * 2
 | [] => rfl
 | f :: r => by
   have := fcs_len r
   unfold fcs at this ⊢
   rw [List.flatMap_cons, List.length_append, this, List.length_cons]
   show 2 + r.length * 2 = _
   omega
theorem fcs_at : ∀ (fs : List Fld) (i j : Nat) (f : Fld), fs[i]? = some f → j < 2 → (fcs fs)[i * 2 + j]? = (fldA f).toList[j]?
 | [], i, j, f, h, _ => by simp at h
 | g :: r, 0, j, f, h, hj => by
   obtain rfl : g = f := by simpa using h
   rw [show 0 * 2 + j = j from by omega]
   show ((fldA g).toList ++ fcs r)[j]? = _
   rw [List.getElem?_append_left (show j < (fldA g).toList.length from hj)]
 | g :: r, i + 1, j, f, h, hj => by
   rw [show (i + 1) * 2 + j = (fldA g).toList.length + (i * 2 + j) from by show _ = 2 + _; omega]
   show ((fldA g).toList ++ fcs r)[(fldA g).toList.length + (i * 2 + j)]? = _
   rw [List.getElem?_append_right (by omega), Nat.add_sub_cancel_left]
   exact fcs_at r i j f (by simpa using h) hj
theorem fcs_one (fs : List Fld) : ∀ v ∈ fcs fs, v.oneCell' = true := fun v hv => by
 obtain ⟨f, _, h⟩ := List.mem_flatMap.1 hv
 exact fldA_one f v h
theorem fieldInfo : (Tryz.prog.info? 38).map (fun i => (i.zero, i.size, i.bytes)) = some (some (.agg #[.int .i64 0, strV []]), 2, 24) := by kernel_rfl
def FRow (w : World) (B : Nat) (v : Value) (fs : List Fld) : Prop := w.ownsRow B 38 2 v fs.length (fcs fs)
theorem FRow.nil (w : World) (B : Nat) : FRow w B (.slice none 0 0) [] := World.ownsRow_nil _ _ _ _
theorem FRow.still {w w' : World} {B : Nat} {v : Value} {fs : List Fld} (h : FRow w B v fs) (ht : Turn nowhere w w') : FRow w' B v fs := by
 refine ⟨h.1, ?_⟩
 rcases h.2 with h0 | ⟨g, cap, cur, rfl, hb1, hgg, rest⟩
 ·exact .inl h0
 ·have hlt : g < w.heap.size := (Array.getElem?_eq_some_iff.1 hgg).1
  exact .inr ⟨g, cap, cur, rfl, hb1, by rw [ht.block g hlt (fun e => e)]; exact hgg, rest⟩
theorem FRow.turn {F : Nat → Prop} {w w' : World} {B : Nat} {v : Value} {fs : List Fld} (h : FRow w B v fs) (ht : Turn F w w') (hF : ∀ k, v.ownBlock = some k → ¬ F k) : FRow w' B v fs := by
 refine ⟨h.1, ?_⟩
 rcases h.2 with h0 | ⟨g, cap, cur, rfl, hb1, hgg, rest⟩
 ·exact .inl h0
 ·have hlt : g < w.heap.size := (Array.getElem?_eq_some_iff.1 hgg).1
  exact .inr ⟨g, cap, cur, rfl, hb1, by rw [ht.block g hlt (hF g rfl)]; exact hgg, rest⟩
theorem FRow.ne {w : World} {B g : Nat} {v : Value} {fs : List Fld} {t : TypeId} {cs : Array Value} (h : FRow w B v fs) (hg : Blk w g t cs) (ht : t ≠ 38) : ∀ k, v.ownBlock = some k → k ≠ g := by
 intro k hk e
 subst e
 rcases h.2 with ⟨rfl, _⟩ | ⟨g', cap, cur, rfl, _, hg', _⟩
 ·cases hk
 ·have hk' : g' = k := Option.some.inj hk
  subst hk'
  exact (show Blk w g' 38 cur from hg').ne_ hg (fun h => ht h.symm) rfl
theorem FRow.less {w : World} {B C : Nat} {v : Value} {fs : List Fld} (h : FRow w B v fs) (hC : C ≤ B) : FRow w C v fs := by
 refine ⟨h.1, ?_⟩
 rcases h.2 with h0 | ⟨g, cap, cur, rfl, hb1, rest⟩
 ·exact .inl h0
 ·exact .inr ⟨g, cap, cur, rfl, Nat.le_trans hC hb1, rest⟩
theorem FRow.fl {w : World} {B n c : Nat} {A : Option Addr} {fs : List Fld} (h : FRow w B (.slice A n c) fs) (hn : fs.length * 24 ≤ 140737488355328) : Fl w A n fs ∧ fs.length = n ∧ n ≤ c ∧ c ≤ maxLen ∧ (A = none → c = 0) := by
 rcases id h.2 with ⟨e, h0⟩ | ⟨g, cap, cur, e, _, _, h1, h2, _⟩
 ·injection e with e1 e2 e3
  subst e1 e2 e3
  have hfs : fs = [] := List.eq_nil_of_length_eq_zero h0
  subst hfs
  exact ⟨⟨rfl, by omega, fun h => absurd h (by decide)⟩, rfl, Nat.le_refl _, Nat.zero_le _, fun _ => rfl⟩
 ·injection e with e1 e2 e3
  subst e1 e2 e3
  refine ⟨⟨rfl, by omega, fun hp => ⟨g, 0, rfl, fun i f hf j v hv => ?_⟩⟩, rfl, h1, h2, fun h => by cases h⟩
  have hj : j < 2 := (List.getElem?_eq_some_iff.1 hv).1
  have := World.ownsRow.cells (g := g) h rfl (i * 2 + j) v (by rw [fcs_at fs i j f hf hj]; exact hv)
  rw [add_nat] at this
  rw [Nat.zero_add] at this ⊢
  exact this
theorem frow_grow {B : Nat} {w : World} {v : Value} {fs news : List Fld} {A : Option Addr} {m c : Nat} {ty : TypeId} (hown : FRow w B v fs) (hB : B ≤ w.heap.size) (hb : Fl w A m news) (hc : A = none → c = 0) (hlen : (fs.length + m) * 24 ≤ 140737488355328) :
 ∃ A' c' w', (Builtin.append_ #[27, 27] ty #[v, .slice A m c]).run Tryz.prog w = .ok (.slice A' (fs.length + m) c') w' ∧ FRow w' B (.slice A' (fs.length + m) c') (fs ++ news) ∧ w.grownBy w' v.ownBlock := by
 obtain ⟨h1, h2, h3⟩ := hb
 obtain ⟨i0, hi0, hz0, hz1, hz2⟩ := info_parts fieldInfo
 have form : ∀ {w' : World} {v' : Value} {n : Nat} {xs : List Value}, w'.ownsRow B 38 2 v' n xs → ∃ A' c', v' = .slice A' n c' := by
  intro w' v' n xs h
  rcases h.2 with ⟨rfl, h0⟩ | ⟨g, cap, cur, rfl, _⟩
  ·exact ⟨none, 0, by rw [h0]⟩
  ·exact ⟨_, _, rfl⟩
 rcases A with _ | A
 ·obtain rfl := hc rfl
  have hm0 : m = 0 := by
   rcases Nat.eq_zero_or_pos m with h0 | h0
   ·exact h0
   ·obtain ⟨_, _, h4, _⟩ := h3 h0; cases h4
  subst hm0
  have hn : news = [] := List.eq_nil_of_length_eq_zero h1
  subst hn
  have hrun := run_append_owned_none (P := Tryz.prog) (w := w) B 27 ty 38 i0 2 Tryz.underlying27 hi0 v _ _ hown
  obtain ⟨A', c', rfl⟩ := form hown
  exact ⟨A', c', w, hrun, by rw [List.append_nil]; exact hown, ⟨rfl, rfl, rfl, Nat.le_refl _, fun _ _ _ => rfl⟩⟩
 ·obtain ⟨v', w', g1, g2, g3, _, _⟩ := run_append_own_at (P := Tryz.prog) w B 27 ty 38 i0 _ 2 24 Tryz.underlying27 hi0 hz0 hz1 hz2
   rfl (by omega) v fs.length _ hown A m c (fcs news) (by rw [fcs_len, h1]) (fun j u hj => by
    have hjl : j < news.length * 2 := by
     have := (List.getElem?_eq_some_iff.1 hj).1
     rwa [fcs_len] at this
    obtain ⟨b, off, e, hcell⟩ := h3 (by omega)
    obtain rfl := Option.some.inj e
    obtain ⟨f, hf⟩ : ∃ f, news[j / 2]? = some f := ⟨_, List.getElem?_eq_getElem (show j / 2 < news.length from by omega)⟩
    have hq := fcs_at news (j / 2) (j % 2) f hf (by omega)
    rw [show j / 2 * 2 + j % 2 = j from by omega, hj] at hq
    have := hcell (j / 2) f hf (j % 2) u hq.symm
    rw [add_nat]
    rwa [Nat.add_assoc, show j / 2 * 2 + j % 2 = j from by omega] at this) (fcs_one news) (by unfold maxLen; omega) (by omega) hB
  obtain ⟨A', c', rfl⟩ := form g2
  refine ⟨A', c', w', g1, ?_, g3⟩
  unfold FRow
  rw [List.length_append, h1, fcs_append]
  exact g2
theorem frow_more {F : Nat → Prop} {W1 w : World} {v : Value} {fs news : List Fld} {A : Option Addr} {m c : Nat} {ty : TypeId} (hown : FRow w W1.heap.size v fs) (hT : Turn F W1 w) (hb : Fl w A m news) (hc : A = none → c = 0) (hlen : (fs.length + m) * 24 ≤ 140737488355328) :
 ∃ A' c' w', (Builtin.append_ #[27, 27] ty #[v, .slice A m c]).run Tryz.prog w = .ok (.slice A' (fs.length + m) c') w' ∧ FRow w' W1.heap.size (.slice A' (fs.length + m) c') (fs ++ news) ∧ Turn F W1 w' := by
 obtain ⟨A', c', w', h1, h2, h3⟩ := frow_grow (ty := ty) hown hT.size hb hc hlen
 exact ⟨A', c', w', h1, h2, hT.grown h3 fun g e hg => by
  have := (hown.lt g e).1
  omega⟩
theorem build_f1 (f : Fld) (W : World) : (Instr.buildSlice 27 1 #[(0, .agg (fldA f))]).run Tryz.prog W = .ok (.slice (some ⟨W.heap.size, 0, none⟩) 1 1) (W.alloc (.cells (fldA f) 38)) := by
 obtain ⟨i0, hi0, hz0, hz1, hz2⟩ := info_parts fieldInfo
 exact run_buildSlice_one (P := Tryz.prog) (v := .agg (fldA f)) Tryz.underlying27 hi0 hz0 (by rw [hz1]; rfl) (by rw [hz1]; rfl) (by omega) (by omega) W
theorem build_f0 (W : World) : (Instr.buildSlice 27 0 #[]).run Tryz.prog W = .ok (.slice (some ⟨W.heap.size, 0, none⟩) 0 0) (W.alloc (.cells #[] 38)) := by kernel_rfl
theorem fl_one (f : Fld) (w : World) : Fl (w.alloc (.cells (fldA f) 38)) (some ⟨w.heap.size, 0, none⟩) 1 [f] := by
 refine ⟨rfl, by omega, fun _ => ⟨_, _, rfl, fun i g hg j v hv => ?_⟩⟩
 have hi : i = 0 := by
  have := (List.getElem?_eq_some_iff.1 hg).1
  simpa using this
 subst hi
 obtain rfl : f = g := by simpa using hg
 rw [(Blk.new w 38 (fldA f)).cell, Nat.zero_mul, Nat.zero_add]
 simpa using hv
theorem frow_add {F : Nat → Prop} {W1 w : World} {v : Value} {fs : List Fld} {ty : TypeId} (hown : FRow w W1.heap.size v fs) (hT : Turn F W1 w) (f : Fld) (hlen : (fs.length + 1) * 24 ≤ 140737488355328) :
 ∃ A' c' w', (Builtin.append_ #[27, 27] ty #[v, .slice (some ⟨w.heap.size, 0, none⟩) 1 1]).run Tryz.prog (w.alloc (.cells (fldA f) 38)) = .ok (.slice A' (fs.length + 1) c') w' ∧ FRow w' W1.heap.size (.slice A' (fs.length + 1) c') (fs ++ [f]) ∧ Turn F W1 w' :=
 frow_more (c := 1) (hown.still ((Turn.refl nowhere w).alloc (.cells (fldA f) 38))) (hT.alloc _) (fl_one f w) (fun h => by cases h) hlen
theorem copy_fs {w : World} {A : Option Addr} {m c : Nat} {fs : List Fld} {ty : TypeId} (hb : Fl w A m fs) (hc : A = none → c = 0) (hm : m * 24 ≤ 140737488355328) :
 ∃ A' c' w', (Builtin.append_ #[27, 27] ty #[.slice (some ⟨w.heap.size, 0, none⟩) 0 0, .slice A m c]).run Tryz.prog (w.alloc (.cells #[] 38)) = .ok (.slice A' m c') w' ∧ FRow w' w.heap.size (.slice A' m c') fs ∧ Turn nowhere w w' := by
 have hT := (Turn.refl nowhere w).alloc (.cells #[] 38)
 obtain ⟨A', c', w', h1, h2, h3⟩ := frow_more (ty := ty) (fs := []) (c := c) (W1 := w) (show FRow (w.alloc (.cells #[] 38)) w.heap.size (.slice (some ⟨w.heap.size, 0, none⟩) 0 0) [] from
  World.ownsRow_made w #[] 0 (Nat.le_refl _) (by unfold maxLen; omega) rfl) hT (hb.still hT) hc (by simp; omega)
 have hl : ([] : List Fld).length + m = m := by simp
 rw [hl] at h1 h2
 exact ⟨A', c', w', h1, h2, h3⟩
section
variable {α : Type}
theorem seg_take (l cs : List α) (o : Nat) (h : o + cs.length ≤ l.length) : (l.take o ++ cs ++ l.drop (o + cs.length)).take (o + cs.length) = l.take o ++ cs := by
 rw [List.take_append_of_le_length (by rw [List.length_append, List.length_take]; omega)]
 exact List.take_of_length_le (by rw [List.length_append, List.length_take]; omega)
theorem seg_drop (l cs : List α) (o : Nat) (h : o + cs.length ≤ l.length) : (l.take o ++ cs ++ l.drop (o + cs.length)).drop o = cs ++ l.drop (o + cs.length) := by
 rw [List.append_assoc]
 exact List.drop_left' (by rw [List.length_take]; omega)
theorem seg_less (l cs : List α) (o b : Nat) (h : o + cs.length ≤ l.length) (hb : b ≤ o) : (l.take o ++ cs ++ l.drop (o + cs.length)).take b = l.take b := by
 rw [List.append_assoc, List.take_append_of_le_length (by rw [List.length_take]; omega), List.take_take, Nat.min_eq_left hb]
theorem seg_len (l cs : List α) (o : Nat) (h : o + cs.length ≤ l.length) : (l.take o ++ cs ++ l.drop (o + cs.length)).length = l.length := by
 rw [List.length_append, List.length_append, List.length_take, List.length_drop]
 omega
theorem seg_up (l c1 c2 : List α) (a : Nat) (h : a + c1.length + c2.length ≤ l.length) :
 let l1 := l.take a ++ c1 ++ l.drop (a + c1.length)
 (l1.take (a + c1.length) ++ c2 ++ l1.drop (a + c1.length + c2.length)).take (a + c1.length + c2.length) = l.take a ++ c1 ++ c2 := by
 intro l1
 have hl : l1.length = l.length := seg_len l c1 a (by omega)
 rw [seg_take l1 c2 (a + c1.length) (by omega), seg_take l c1 a (by omega)]
theorem seg_down (l c1 c2 : List α) (a : Nat) (h : a + c1.length + c2.length ≤ l.length) :
 let l1 := l.take (a + c1.length) ++ c2 ++ l.drop (a + c1.length + c2.length)
 (l1.take a ++ c1 ++ l1.drop (a + c1.length)).take (a + c1.length + c2.length) = l.take a ++ c1 ++ c2 := by
 intro l1
 have hl : l1.length = l.length := seg_len l c2 (a + c1.length) h
 have h1 : l1.drop (a + c1.length) = c2 ++ l.drop (a + c1.length + c2.length) := seg_drop l c2 (a + c1.length) h
 have h2 : l1.take a = l.take a := seg_less l c2 (a + c1.length) a h (by omega)
 rw [h1, h2, ← List.append_assoc, List.take_append_of_le_length (by simp only [List.length_append, List.length_take]; omega)]
 exact List.take_of_length_le (by simp only [List.length_append, List.length_take]; omega)
end
theorem setRow_turn (w : World) (g : Nat) (cs : Array Value) : Turn (only g) w (w.setRow g cs) := ⟨rfl, rfl, rfl, by simp, fun k _ hk => setRow_other w g k cs hk⟩
theorem run_copy2 {w : World} {ty : TypeId} {g o dLen dCap sLen sCap : Nat} {a : Addr} {cur : Array Value} {cs : List Value} (hg : Blk w g 38 cur) (hn : cs.length = Nat.min sLen dLen * 2)
 (hsrc : ∀ j v, cs[j]? = some v → w.cell? (a.add j) = some v) (hfit : o + cs.length ≤ cur.size) (h1 : ∀ v ∈ cs, v.oneCell' = true) :
 (Builtin.copy_ #[27, 27] ty #[.slice (some ⟨g, o, none⟩) dLen dCap, .slice (some a) sLen sCap]).run Tryz.prog w = .ok (goInt (Nat.min sLen dLen)) (w.setRow g (cur.toList.take o ++ cs ++ cur.toList.drop (o + cs.length)).toArray) := by
 obtain ⟨i0, hi0, hz0, hz1, hz2⟩ := info_parts fieldInfo
 have hl := run_loadCells_list (P := Tryz.prog) w a cs hsrc
 have hst := run_storeCells_at (P := Tryz.prog) g o 38 cs 0 cur w hg (by simpa using hfit) h1
 rw [hn] at hl
 simp [Builtin.copy_, run_underlying Tryz.underlying27, Builtin.lenOf, Builtin.firstCells, sizeOf, typeInfo, hi0, hz1, hl, hst]
theorem fcs_take (l : List Fld) (i : Nat) (h : i ≤ l.length) : (fcs l).take (i * 2) = fcs (l.take i) := by
 have e : fcs l = fcs (l.take i) ++ fcs (l.drop i) := by rw [← fcs_append, List.take_append_drop]
 rw [e, List.take_append_of_le_length (by rw [fcs_len, List.length_take]; omega)]
 exact List.take_of_length_le (by rw [fcs_len, List.length_take]; omega)
theorem fcs_drop (l : List Fld) (i : Nat) (h : i ≤ l.length) : (fcs l).drop (i * 2) = fcs (l.drop i) := by
 have e : fcs l = fcs (l.take i) ++ fcs (l.drop i) := by rw [← fcs_append, List.take_append_drop]
 rw [e]
 exact List.drop_left' (by rw [fcs_len, List.length_take]; omega)
theorem fld_size2 : ∃ i, Tryz.prog.info? 38 = some i ∧ i.size = 2 := by
 have h := fieldInfo
 cases hq : Tryz.prog.info? 38 with
 | none => rw [hq] at h; cases h
 | some i => exact ⟨i, rfl, by rw [hq] at h; simp at h; exact h.2.1⟩
theorem sf_to (A : Option Addr) (n c e : Nat) (hc : e ≤ c) (W : World) : (Instr.sliceAt 27 (.slice A n c) none (some (.int .i64 (e : Int))) none).run Tryz.prog W = .ok (.slice A e c) W := by
 obtain ⟨i, hi1, hi2⟩ := fld_size2
 have b1 : (0 : Int) ≤ (e : Int) ∧ (e : Int) ≤ (c : Int) := ⟨by omega, by omega⟩
 have hu := Tryz.underlying27
 simp [Instr.sliceAt, Instr.slice, Instr.sliceBounds, Instr.sliceBound, asIntOf, run_underlying hu, sizeOf, typeInfo, hi1, b1]
 rw [if_pos (show e ≤ c by omega)]
 cases A <;> simp [Addr.add]
def fromF (A : Option Addr) (c d : Nat) : Option Addr := if c = d then A else A.map (·.add (d * 2))
theorem sf_from (A : Option Addr) (n c d : Nat) (h0 : d ≤ n) (hc : n ≤ c) (W : World) : (Instr.sliceAt 27 (.slice A n c) (some (.int .i64 (d : Int))) none none).run Tryz.prog W = .ok (.slice (fromF A c d) (n - d) (c - d)) W := by
 obtain ⟨i, hi1, hi2⟩ := fld_size2
 have b1 : (0 : Int) ≤ (d : Int) ∧ (d : Int) ≤ (n : Int) := ⟨by omega, by omega⟩
 have hu := Tryz.underlying27
 simp [Instr.sliceAt, Instr.slice, Instr.sliceBounds, Instr.sliceBound, asIntOf, run_underlying hu, sizeOf, typeInfo, hi1, hi2, b1, fromF]
 intro h
 omega
theorem fromF_at {g o c d : Nat} (h : d < c) : fromF (some ⟨g, o, none⟩) c d = some ⟨g, o + d * 2, none⟩ := by
 unfold fromF
 rw [if_neg (by omega)]
 show some ((⟨g, o, none⟩ : Addr).add (d * 2)) = _
 rw [add_nat]
section
variable {a : Act} {o : Oper} {W W' : World}
theorem gx_cap {x : Operand} {A : Option Addr} {n c : Nat} {t e : TypeId} (ho : o.op = .call { callee := .builtin .cap, args := #[x], argTypes := #[t] }) (hx : a.eval x = .slice A n c) (ht : Tryz.prog.underlying t = some (.slice e)) :
 (execOp a.eval o).run Tryz.prog W = .ok (.value (.int .i64 (c : Int))) W := by
 unfold execOp
 simp [ho, resolve, invoke, builtin, hx, Builtin.cap_, run_underlying ht, goInt]
theorem exec_copy {t : TypeId} {x y : Operand} {u v r : Value} (ho : o.op = .call { callee := .builtin .copy, args := #[x, y], argTypes := #[t, t] }) (hx : a.eval x = u) (hy : a.eval y = v) (hr : (Builtin.copy_ #[t, t] o.type #[u, v]).run Tryz.prog W = .ok r W') :
 (execOp a.eval o).run Tryz.prog W = .ok (.value r) W' := by
 unfold execOp
 simp only [ho, resolve, invoke, builtin, Sem.run_bind, Sem.run_pure, Result.andThen_ok, List.map_toArray, List.map_cons, List.map_nil, hx, hy, hr]
theorem exec_appz {t u : TypeId} {x y : Operand} {p v r : Value} (ho : o.op = .call { callee := .builtin .append, args := #[x, y], argTypes := #[t, u] }) (hx : a.eval x = p) (hy : a.eval y = v) (hr : (Builtin.append_ #[t, u] o.type #[p, v]).run Tryz.prog W = .ok r W') :
 (execOp a.eval o).run Tryz.prog W = .ok (.value r) W' := by
 unfold execOp
 simp only [ho, resolve, invoke, builtin, Sem.run_bind, Sem.run_pure, Result.andThen_ok, List.map_toArray, List.map_cons, List.map_nil, hx, hy, hr]
end
theorem fl_blk {w : World} {g : Nat} {x : Fld} (hx : Blk w g 38 (fldA x)) : Fl w (some ⟨g, 0, none⟩) 1 [x] := by
 refine ⟨rfl, by omega, fun _ => ⟨_, _, rfl, fun i y hy j v hv => ?_⟩⟩
 have hi : i = 0 := by
  have := (List.getElem?_eq_some_iff.1 hy).1
  simpa using this
 subst hi
 obtain rfl : x = y := by simpa using hy
 rw [hx.cell, Nat.zero_mul, Nat.zero_add]
 simpa using hv
theorem ins_grow {W1 w : World} {b n c i g : Nat} {l : List Fld} {x : Fld} (hown : FRow w W1.heap.size (.slice (some ⟨b, 0, none⟩) n c) l) (hT : Turn nowhere W1 w) (hn : l.length = n) (hi : i < n) (hx : Blk w g 38 (fldA x)) (hc : n ≤ c) (hroom : c < n + 1) (hsz : (n + 1) * 24 ≤ 140737488355328) :
 ∃ g2 c2 w2, (Builtin.append_ #[27, 3] 27 #[.slice (some ⟨b, 0, none⟩) i c, .int .i64 ((n + 1 - i : Nat) : Int)]).run Tryz.prog w = .ok (.slice (some ⟨g2, 0, none⟩) (n + 1) c2) w2 ∧ n + 1 ≤ c2 ∧ c2 ≤ maxLen ∧
  ∃ w3, (Builtin.copy_ #[27, 27] 3 #[.slice (some ⟨g2, i * 2, none⟩) (n + 1 - i) (c2 - i), .slice (some ⟨g, 0, none⟩) 1 1]).run Tryz.prog w2 = .ok (goInt (Nat.min 1 (n + 1 - i))) w3 ∧
   ∃ w4, (Builtin.copy_ #[27, 27] 3 #[.slice (some ⟨g2, (i + 1) * 2, none⟩) (n + 1 - (i + 1)) (c2 - (i + 1)), .slice (some ⟨b, i * 2, none⟩) (n - i) (c - i)]).run Tryz.prog w3.drew = .ok (goInt (Nat.min (n - i) (n + 1 - (i + 1)))) w4 ∧
    FRow w4 W1.heap.size (.slice (some ⟨g2, 0, none⟩) (n + 1) c2) (l.take i ++ x :: l.drop i) ∧ Turn nowhere W1 w4 := by
 obtain ⟨i0, hi0, hz0, hz1, hz2⟩ := info_parts fieldInfo
 have hcells : ∀ j u, (fcs l)[j]? = some u → w.cell? ⟨b, j, none⟩ = some u := fun j u h => by
  have := World.ownsRow.cells (g := b) hown rfl j u h
  rwa [add_nat, Nat.zero_add] at this
 have hlen : (fcs l).length = n * 2 := by rw [fcs_len, hn]
 have hbw : b < w.heap.size := (hown.lt b rfl).2
 have htk : (fcs (l.take i)).length = i * 2 := by rw [fcs_len, List.length_take]; omega
 have hdk : (fcs (l.drop i)).length = (n - i) * 2 := by rw [fcs_len, List.length_drop, hn]
 have hold : (Builtin.firstCells i0.size i (.slice (some ⟨b, 0, none⟩) i c)).run Tryz.prog w.drew = .ok (fcs (l.take i)).toArray w.drew := by
  have hl := run_loadCells_list (P := Tryz.prog) w.drew ⟨b, 0, none⟩ (fcs (l.take i)) (fun j u h => by
   rw [add_nat, Nat.zero_add]
   rw [← fcs_take l i (by omega), List.getElem?_take] at h
   split at h
   ·exact hcells j u h
   ·cases h)
  rw [htk] at hl
  rw [hz1]
  exact hl
 have hap := Lib.run_append_grow_zeros (P := Tryz.prog) w 27 3 27 38 i0 _ .i64 .i64 Tryz.underlying27 Tryz.underlying3 hi0 hz0 (some ⟨b, 0, none⟩) i c (fcs (l.take i)) hold (n + 1 - i) (by omega) (by omega) (by omega) (by omega) (by rw [hz2]; omega)
  (by rw [hz2, show i + (n + 1 - i) = n + 1 from by omega]; exact growslice_fits hroom hsz)
 rw [show i + (n + 1 - i) = n + 1 from by omega] at hap
 have hGe : n + 1 ≤ grownCap w (n + 1) c 38 := grownCap_ge w _ _ _
 have hGm : grownCap w (n + 1) c 38 ≤ maxLen := grownCap_le_maxLen w (n + 1) c 38 (by unfold maxLen; omega)
 generalize grownCap w (n + 1) c 38 = G at *
 obtain ⟨ROW, hROW⟩ : ∃ ROW : Array Value, ROW = (fcs (l.take i)).toArray ++ Builtin.zeroCells (Value.agg #[.int .i64 0, strV []]).cells (n + 1 - i) ++ Builtin.zeroCells (Value.agg #[.int .i64 0, strV []]).cells (G - (n + 1)) := ⟨_, rfl⟩
 rw [← hROW] at hap
 have hRs : ROW.size = G * 2 := by
  rw [hROW]
  simp only [Array.size_append, Builtin.zeroCells, Array.size_map, Array.size_range, List.size_toArray, htk, Value.cells]
  show i * 2 + (n + 1 - i) * 2 + (G - (n + 1)) * 2 = G * 2
  omega
 have hRt : ROW.toList.take (i * 2) = fcs (l.take i) := by
  rw [hROW, Array.toList_append, Array.toList_append, List.append_assoc, List.take_append_of_le_length (by simp [htk])]
  exact List.take_of_length_le (by simp [htk])
 obtain ⟨g2, hg2⟩ : ∃ g2, g2 = w.heap.size := ⟨_, rfl⟩
 have hB2 : Blk (w.drew.alloc (.cells ROW 38)) g2 38 ROW := by rw [hg2]; exact Blk.new w.drew _ _
 have hT2 : Turn nowhere w (w.drew.alloc (.cells ROW 38)) := ((Turn.refl nowhere w).drew).alloc _
 rw [← hg2] at hap
 generalize w.drew.alloc (.cells ROW 38) = w2 at *
 have hg2b : b ≠ g2 := by omega
 have hgg : g ≠ g2 := by have := hx.lt; omega
 have hx2 := hx.turn hT2 (fun e => e)
 have hc3 := run_copy2 (w := w2) (ty := 3) (g := g2) (o := i * 2) (dLen := n + 1 - i) (dCap := G - i) (sLen := 1) (sCap := 1) (a := ⟨g, 0, none⟩) (cs := fcs [x]) hB2 (by
  rw [fcs_len]
  simp only [Nat.min_def, List.length_cons, List.length_nil]
  split <;> omega) (fun j u h => by
  have hj : j < 2 := (List.getElem?_eq_some_iff.1 h).1
  rw [add_nat, Nat.zero_add, hx2.cell]
  have := fcs_at [x] 0 j x rfl hj
  rw [Nat.zero_mul, Nat.zero_add, h] at this
  simpa using this.symm) (by rw [fcs_len, hRs]; simp; omega) (fcs_one _)
 have hl1 : (fcs [x]).length = 2 := rfl
 have hB3 : Blk (w2.setRow g2 (ROW.toList.take (i * 2) ++ fcs [x] ++ ROW.toList.drop (i * 2 + (fcs [x]).length)).toArray) g2 38 _ := setRow_heap w2 g2 _ _ _ _ hB2
 have hT3 := setRow_turn w2 g2 (ROW.toList.take (i * 2) ++ fcs [x] ++ ROW.toList.drop (i * 2 + (fcs [x]).length)).toArray
 generalize w2.setRow g2 (ROW.toList.take (i * 2) ++ fcs [x] ++ ROW.toList.drop (i * 2 + (fcs [x]).length)).toArray = w3 at *
 have hls : (ROW.toList.take (i * 2) ++ fcs [x] ++ ROW.toList.drop (i * 2 + (fcs [x]).length)).length = G * 2 := by
  rw [seg_len _ _ _ (by rw [hl1, Array.length_toList, hRs]; omega), Array.length_toList, hRs]
 have hc4 := run_copy2 (w := w3.drew) (ty := 3) (g := g2) (o := (i + 1) * 2) (dLen := n + 1 - (i + 1)) (dCap := G - (i + 1)) (sLen := n - i) (sCap := c - i) (a := ⟨b, i * 2, none⟩) (cs := fcs (l.drop i)) hB3.drew (by
  rw [hdk]
  simp only [Nat.min_def]
  split <;> omega) (fun j u h => by
  rw [add_nat]
  rw [← fcs_drop l i (by omega), List.getElem?_drop] at h
  have := hcells _ _ h
  show w3.cell? ⟨b, i * 2 + j, none⟩ = _
  rw [hT3.cell (p := ⟨b, i * 2 + j, none⟩) (by show b < w2.heap.size; have := hT2.size; omega) hg2b, hT2.cell (p := ⟨b, i * 2 + j, none⟩) hbw (fun e => e)]
  exact this) (by rw [hdk, List.size_toArray, hls]; omega) (fcs_one _)
 have hL : (l.take i ++ x :: l.drop i).length = n + 1 := by
  rw [List.length_append, List.length_cons, List.length_take, List.length_drop, hn]
  omega
 refine ⟨g2, G, w2, hap, hGe, hGm, w3, hc3, _, hc4, ?_, ?_⟩
 ·refine ⟨by rw [fcs_len], .inr ⟨g2, G, _, ?_, by have := hT.size; omega, setRow_heap w3.drew g2 _ _ _ _ hB3.drew, ?_, hGm, ?_, ?_⟩⟩
  ·rw [hL]
  ·rw [hL]
   exact hGe
  ·rw [List.size_toArray, List.toList_toArray, seg_len _ _ _ (by rw [hls, hdk]; omega), hls]
  ·have h := seg_up ROW.toList (fcs [x]) (fcs (l.drop i)) (i * 2) (by rw [hl1, hdk, Array.length_toList, hRs]; omega)
   simp only at h
   rw [hl1] at h
   rw [show (l.take i ++ x :: l.drop i).length * 2 = i * 2 + 2 + (fcs (l.drop i)).length from by
    simp only [List.length_append, List.length_cons, List.length_take, List.length_drop, hdk, hn]
    omega, show (i + 1) * 2 = i * 2 + 2 from by omega]
   rw [List.toList_toArray, List.toList_toArray]
   rw [hl1]
   rw [h, hRt, show l.take i ++ x :: l.drop i = l.take i ++ ([x] ++ l.drop i) from rfl, fcs_append, fcs_append, List.append_assoc]
 ·refine ((hT.trans hT2 fun _ _ e => e).trans hT3 fun k hk e => ?_).trans (((Turn.refl (only g2) w3).drew).trans (setRow_turn w3.drew g2 _) fun _ _ e => e) fun k hk e => ?_
  ·have e : k = g2 := e
   have := hT.size
   omega
  ·have e : k = g2 := e
   have := hT.size
   omega
theorem ins_room {W1 w : World} {b n c i g : Nat} {l : List Fld} {x : Fld} (hown : FRow w W1.heap.size (.slice (some ⟨b, 0, none⟩) n c) l) (hT : Turn nowhere W1 w) (hn : l.length = n) (hi : i < n) (hx : Blk w g 38 (fldA x)) (hg : b ≠ g) (hroom : n + 1 ≤ c) (hc63 : c ≤ maxLen) :
 (∀ lb cb, (Extern.SlicesOverlaps.overlaps #[27, 27] #[4] #[.slice (some ⟨g, 0, none⟩) 1 1, .slice (some ⟨b, (i + 1) * 2, none⟩) lb cb]).run Tryz.prog w = .ok (.bool false) w) ∧
 ∃ w3, (Builtin.copy_ #[27, 27] 3 #[.slice (some ⟨b, (i + 1) * 2, none⟩) (n + 1 - (i + 1)) (c - (i + 1)), .slice (some ⟨b, i * 2, none⟩) (n + 1 - i) (c - i)]).run Tryz.prog w.drew = .ok (goInt (Nat.min (n + 1 - i) (n + 1 - (i + 1)))) w3 ∧
  ∃ w4, (Builtin.copy_ #[27, 27] 3 #[.slice (some ⟨b, i * 2, none⟩) (n + 1 - i) (c - i), .slice (some ⟨g, 0, none⟩) 1 1]).run Tryz.prog w3 = .ok (goInt (Nat.min 1 (n + 1 - i))) w4 ∧
   FRow w4 W1.heap.size (.slice (some ⟨b, 0, none⟩) (n + 1) c) (l.take i ++ x :: l.drop i) ∧ Turn nowhere W1 w4 := by
 have hcells : ∀ j u, (fcs l)[j]? = some u → w.cell? ⟨b, j, none⟩ = some u := fun j u h => by
  have := World.ownsRow.cells (g := b) hown rfl j u h
  rwa [add_nat, Nat.zero_add] at this
 have hlen : (fcs l).length = n * 2 := by rw [fcs_len, hn]
 have hdk : (fcs (l.drop i)).length = (n - i) * 2 := by rw [fcs_len, List.length_drop, hn]
 obtain ⟨hbw1, hbw⟩ := hown.lt b rfl
 obtain ⟨cur, hcur, hcs, htake⟩ : ∃ cur, Blk w b 38 cur ∧ cur.size = c * 2 ∧ cur.toList.take (n * 2) = fcs l := by
  rcases id hown.2 with ⟨e, _⟩ | ⟨g', cap, cur, e, _, hg', _, _, h1, h2⟩
  ·cases e
  ·injection e with e1 e2 e3
   injection e1 with e1
   injection e1 with e1 _ _
   subst e1 e3
   rw [hn] at h2
   exact ⟨cur, hg', h1, h2⟩
 have hl1 : (fcs [x]).length = 2 := rfl
 have hc3 := run_copy2 (w := w.drew) (ty := 3) (g := b) (o := (i + 1) * 2) (dLen := n + 1 - (i + 1)) (dCap := c - (i + 1)) (sLen := n + 1 - i) (sCap := c - i) (a := ⟨b, i * 2, none⟩) (cs := fcs (l.drop i)) hcur.drew (by
  rw [hdk]
  simp only [Nat.min_def]
  split <;> omega) (fun j u h => by
  rw [add_nat]
  rw [← fcs_drop l i (by omega), List.getElem?_drop] at h
  exact hcells _ _ h) (by rw [hdk, hcs]; omega) (fcs_one _)
 have hB3 : Blk (w.drew.setRow b (cur.toList.take ((i + 1) * 2) ++ fcs (l.drop i) ++ cur.toList.drop ((i + 1) * 2 + (fcs (l.drop i)).length)).toArray) b 38 _ := setRow_heap w.drew b _ _ _ _ hcur.drew
 have hT3 : Turn (only b) w (w.drew.setRow b (cur.toList.take ((i + 1) * 2) ++ fcs (l.drop i) ++ cur.toList.drop ((i + 1) * 2 + (fcs (l.drop i)).length)).toArray) := (Turn.refl (only b) w).drew.trans (setRow_turn w.drew b _) fun _ _ e => e
 generalize w.drew.setRow b (cur.toList.take ((i + 1) * 2) ++ fcs (l.drop i) ++ cur.toList.drop ((i + 1) * 2 + (fcs (l.drop i)).length)).toArray = w3 at *
 have hls : (cur.toList.take ((i + 1) * 2) ++ fcs (l.drop i) ++ cur.toList.drop ((i + 1) * 2 + (fcs (l.drop i)).length)).length = c * 2 := by
  rw [seg_len _ _ _ (by rw [hdk, Array.length_toList, hcs]; omega), Array.length_toList, hcs]
 have hx3 := hx.turn hT3 (fun e => hg (by have e : g = b := e; exact e.symm))
 have hc4 := run_copy2 (w := w3) (ty := 3) (g := b) (o := i * 2) (dLen := n + 1 - i) (dCap := c - i) (sLen := 1) (sCap := 1) (a := ⟨g, 0, none⟩) (cs := fcs [x]) hB3 (by
  rw [fcs_len]
  simp only [Nat.min_def, List.length_cons, List.length_nil]
  split <;> omega) (fun j u h => by
  have hj : j < 2 := (List.getElem?_eq_some_iff.1 h).1
  rw [add_nat, Nat.zero_add, hx3.cell]
  have := fcs_at [x] 0 j x rfl hj
  rw [Nat.zero_mul, Nat.zero_add, h] at this
  simpa using this.symm) (by rw [hl1, List.size_toArray, hls]; omega) (fcs_one _)
 have hL : (l.take i ++ x :: l.drop i).length = n + 1 := by
  rw [List.length_append, List.length_cons, List.length_take, List.length_drop, hn]
  omega
 refine ⟨fun lb cb => ?_, w3, hc3, _, hc4, ?_, ?_⟩
 ·obtain ⟨i0, hi0, hz0, hz1, hz2⟩ := info_parts fieldInfo
  exact Lib.run_overlaps_apart w 27 4 38 Tryz.underlying27 2 (fun W => by simp [sizeOf, typeInfo, hi0, hz1]) ⟨g, 0, none⟩ ⟨b, (i + 1) * 2, none⟩ 1 1 lb cb (fun e => hg e.symm) 38 38 2 (c * 2)
   (by
    have h : w.heap[g]? = some (.cells (fldA x) 38 (0, 0)) := hx
    simp [World.shape?, h, fldA])
   (by
    have h : w.heap[b]? = some (.cells cur 38 (0, 0)) := hcur
    simp [World.shape?, h, hcs]) (by omega) (hx.frozen 0) (hx.frozen 2)
 ·refine ⟨by rw [fcs_len], .inr ⟨b, c, _, ?_, hbw1, setRow_heap w3 b _ _ _ _ hB3, ?_, hc63, ?_, ?_⟩⟩
  ·rw [hL]
  ·rw [hL]
   exact hroom
  ·rw [List.size_toArray, List.toList_toArray, seg_len _ _ _ (by rw [hls, hl1]; omega), hls]
  ·have h := seg_down cur.toList (fcs [x]) (fcs (l.drop i)) (i * 2) (by rw [hl1, hdk, Array.length_toList, hcs]; omega)
   simp only at h
   rw [hl1] at h
   rw [show (l.take i ++ x :: l.drop i).length * 2 = i * 2 + 2 + (fcs (l.drop i)).length from by
    simp only [List.length_append, List.length_cons, List.length_take, List.length_drop, hdk, hn]
    omega, show (i + 1) * 2 = i * 2 + 2 from by omega]
   rw [List.toList_toArray, List.toList_toArray]
   rw [hl1]
   have hti : cur.toList.take (i * 2) = fcs (l.take i) := by
    rw [← fcs_take l i (by omega), ← htake, List.take_take, Nat.min_eq_left (by omega)]
   rw [h, hti, show l.take i ++ x :: l.drop i = l.take i ++ ([x] ++ l.drop i) from rfl, fcs_append, fcs_append, List.append_assoc]
 ·refine (hT.trans hT3 fun k hk e => ?_).trans (setRow_turn w3 b _) fun k hk e => ?_
  ·have e : k = b := e
   omega
  ·have e : k = b := e
   omega
theorem exec_over {a : Act} {o : Oper} {W : World} {x y : Operand} {u v : Value} {ts : Array TypeId} (ho : o.op = .call { callee := .value (.func 53), args := #[x, y], argTypes := ts }) (hx : a.eval x = u) (hy : a.eval y = v)
 (hr : (Extern.SlicesOverlaps.overlaps #[27, 27] #[4] #[u, v]).run Tryz.prog W = .ok (.bool false) W) : (execOp a.eval o).run Tryz.prog W = .ok (.value (.bool false)) W := by
 have h : (callFunc 53 #[u, v]).run Tryz.prog W = .ok (.value (.bool false)) W := by
  rw [run_callFunc_extern Tryz.func53 (by kernel_rfl) (by kernel_rfl) (by kernel_rfl) (e := Extern.SlicesOverlaps.overlaps #[27, 27] #[4]) (by kernel_rfl), hr]
  rfl
 unfold execOp
 simp only [ho, resolve, invoke, Sem.run_bind, Sem.run_pure, Result.andThen_ok, List.map_toArray, List.map_cons, List.map_nil, hx, hy]
 rw [show a.eval (Operand.func 53) = .func (.func 53) #[] #[] from rfl]
 simp [Deferred.ofValue, h]
theorem Insert_walk {W1 w : World} {A : Option Addr} {n c i g : Nat} {l : List Fld} {x : Fld} (hown : FRow w W1.heap.size (.slice A n c) l) (hT : Turn nowhere W1 w) (hn : l.length = n) (hi : i ≤ n) (hx : Blk w g 38 (fldA x))
 (hg : ∀ b o t, A = some ⟨b, o, t⟩ → b ≠ g) (hsz : (n + 1) * 24 ≤ 140737488355328) :
 Calls Tryz.prog 39 #[.slice A n c, .int .i64 (i : Int), .slice (some ⟨g, 0, none⟩) 1 1] w fun e w' =>
  ∃ A' c', e = .returned (.slice A' (n + 1) c') ∧ FRow w' W1.heap.size (.slice A' (n + 1) c') (l.take i ++ x :: l.drop i) ∧ Turn nowhere W1 w' := by
 obtain ⟨hfl, _, hnc, hcm, hz⟩ := hown.fl (by rw [hn]; omega)
 have HO := zH hown
 have HT := zH hT
 have HN := zH hn
 have HI := zH hi
 have HX := zH hx
 have HG := zH hg
 have HS := zH hsz
 have HNC := zH hnc
 have HCM := zH hcm
 have y1 : (n : Int) ≤ 5864062014807 := by omega
 have y2 : (i : Int) ≤ (n : Int) := by omega
 have y3 : (c : Int) ≤ 9223372036854775807 := by unfold maxLen at hcm; omega
 clear hown hT hn hi hx hg hsz hnc hcm hz hfl
 go_enter Tryz.func39, Tryz.ntmps39
 go_upto_region 1 with fail
 refine wp_region_lit ?_
 refine wM (.slice A n c) ?_;simp only [zz];refine wM (.int .i64 (i : Int)) ?_;simp only [zz];refine wS (.slice (fromF A c i) (n - i) (c - i)) (exec_slice rfl rfl rfl rfl rfl (sf_from A n c i HI.out HNC.out _)) ?_;simp only [zz]
 go_upto_region 2 with fail
 refine wp_region_lit ?_
 refine wM (.slice (some ⟨g, 0, none⟩) 1 1) ?_;simp only [zz];refine wS (.int .i64 1) (gx_len rfl rfl Tryz.underlying27) ?_;simp only [zz];refine wA (.int .i64 1) ?_;simp only [zz]
 go_upto_region 3 with fail
 refine wp_region_lit ?_
 refine wM (.int .i64 1) ?_;simp only [zz];refine wS (.bool false) (ix_eql rfl rfl rfl (by decide)) ?_;simp only [zz]
 go_upto_region 5 with fail
 refine wp_region_lit ?_
 refine wM (.slice A n c) ?_;simp only [zz];refine wS (.int .i64 (n : Int)) (gx_len rfl rfl Tryz.underlying27) ?_;simp only [zz];refine wA (.int .i64 (n : Int)) ?_;simp only [zz]
 go_upto_region 6 with fail
 refine wp_region_lit ?_
 refine wM (.int .i64 (i : Int)) ?_;simp only [zz];refine wM (.int .i64 (n : Int)) ?_;simp only [zz]
 by_cases hin : i = n
 ·refine wS (.bool true) (ix_eql rfl rfl rfl (decide_eq_true (by omega))) ?_;simp only [zz]
  subst hin
  obtain ⟨A7, c7, w7, hrun, hrow, ht7⟩ := frow_more (ty := 27) (c := 1) HO.out HT.out (fl_blk HX.out) (fun h => by cases h) (by rw [HN.out]; exact HS.out)
  rw [HN.out] at hrun hrow
  have HR7 := zH hrow
  have HT7 := zH ht7
  have HE := zH (show l.take i ++ x :: l.drop i = l ++ [x] from by rw [List.take_of_length_le (by rw [HN.out]; exact Nat.le_refl _), List.drop_of_length_le (by rw [HN.out]; exact Nat.le_refl _)])
  clear hrow ht7
  go_upto_region 7 with fail
  refine wp_region_lit ?_
  refine wM (.slice A i c) ?_;simp only [zz];refine wM (.slice (some ⟨g, 0, none⟩) 1 1) ?_;simp only [zz]
  refine wR (v := .slice A7 (i + 1) c7) (w' := w7) rfl (exec_append rfl rfl rfl hrun) ?_
  simp only [zz];refine wA (.slice A7 (i + 1) c7) ?_;simp only [zz]
  clear hrun
  go_wp2_with fail
  go_ret
  rw [HE.out]
  exact ⟨_, _, rfl, HR7.out, HT7.out⟩
 ·refine wS (.bool false) (ix_eql rfl rfl rfl (decide_eq_false (by omega))) ?_;simp only [zz]
  have hlt : i < n := by omega
  have y4 : (i : Int) < (n : Int) := by omega
  have HLT := zH hlt
  clear hin hlt
  obtain ⟨b, rfl⟩ : ∃ b, A = some ⟨b, 0, none⟩ := by
   rcases id HO.out.2 with ⟨e, h0⟩ | ⟨g', cap, cur, e, _⟩
   ·have := HLT.out
    have := HN.out
    omega
   ·injection e with e _ _
    exact ⟨g', e⟩
  go_upto_region 8 with fail
  refine wp_region_lit ?_
  refine wM (.int .i64 (n : Int)) ?_;simp only [zz];refine wM (.int .i64 1) ?_;simp only [zz];refine wS (.int .i64 ((n + 1 : Nat) : Int)) (ix_add rfl rfl rfl (by omega) (by omega)) ?_;simp only [zz];refine wM (.slice (some ⟨b, 0, none⟩) n c) ?_;simp only [zz];refine wS (.int .i64 (c : Int)) (gx_cap rfl rfl Tryz.underlying27) ?_;simp only [zz]
  by_cases hr : c < n + 1
  ·refine wS (.bool true) (ix_gtr rfl rfl rfl (decide_eq_true (by omega))) ?_;simp only [zz]
   obtain ⟨g2, c2, w2, hap, hg2, hm2, w3, hc3, w4, hc4, hrow, ht4⟩ := ins_grow HO.out HT.out HN.out HLT.out HX.out HNC.out hr HS.out
   have HAP := zH hap
   have HC3 := zH hc3
   have HC4 := zH hc4
   have HR4 := zH hrow
   have HT4 := zH ht4
   have HG2 := zH hg2
   have y5 : (n : Int) + 1 ≤ (c2 : Int) := by omega
   have y6 : (c2 : Int) ≤ 9223372036854775807 := by unfold maxLen at hm2; omega
   clear hap hc3 hc4 hrow ht4 hg2 hm2 hr
   go_upto_region 9 with fail
   refine wp_region_lit ?_
   refine wM (.slice (some ⟨b, 0, none⟩) n c) ?_;simp only [zz];refine wM (.int .i64 (i : Int)) ?_;simp only [zz];refine wS (.slice (some ⟨b, 0, none⟩) i c) (exec_slice rfl rfl rfl rfl rfl (sf_to _ n c i (by have := HNC.out; omega) _)) ?_;simp only [zz];refine wM (.int .i64 (n : Int)) ?_;simp only [zz];refine wM (.int .i64 1) ?_;simp only [zz];refine wS (.int .i64 ((n + 1 : Nat) : Int)) (ix_add rfl rfl rfl (by omega) (by omega)) ?_;simp only [zz];refine wM (.int .i64 (i : Int)) ?_;simp only [zz];refine wS (.int .i64 ((n + 1 - i : Nat) : Int)) (ix_sub rfl rfl rfl (by omega) (by omega)) ?_;simp only [zz]
   refine wR (v := .slice (some ⟨g2, 0, none⟩) (n + 1) c2) (w' := w2) rfl (exec_appz rfl rfl rfl HAP.out) ?_
   simp only [zz];refine wA (.slice (some ⟨g2, 0, none⟩) (n + 1) c2) ?_;simp only [zz]
   go_upto_region 10 with fail
   refine wp_region_lit ?_
   refine wM (.slice (some ⟨g2, 0, none⟩) (n + 1) c2) ?_;simp only [zz];refine wM (.int .i64 (i : Int)) ?_;simp only [zz];refine wS (.slice (some ⟨g2, i * 2, none⟩) (n + 1 - i) (c2 - i)) (exec_slice rfl rfl rfl rfl rfl ((sf_from _ (n + 1) c2 i (by omega) HG2.out _).trans (by rw [fromF_at (by omega), Nat.zero_add]))) ?_;simp only [zz];refine wM (.slice (some ⟨g, 0, none⟩) 1 1) ?_;simp only [zz]
   refine wR (v := goInt (Nat.min 1 (n + 1 - i))) (w' := w3) rfl (exec_copy rfl rfl rfl HC3.out) ?_
   simp only [zz]
   go_upto_region 11 with fail
   refine wp_region_alw (fun _ => True) (by kernel_rfl) ?_
   have hS0 : True := trivial
   refine aM 0 (.slice (some ⟨g2, 0, none⟩) (n + 1) c2) hS0 ?_;simp only [zz];refine aM 1 (.int .i64 (i : Int)) hS0 ?_;simp only [zz];refine aM 2 (.int .i64 1) hS0 ?_;simp only [zz];refine aU 3 (.int .i64 ((i + 1 : Nat) : Int)) rfl (fun W hW => ix_add rfl rfl rfl (by omega) (by omega)) hS0 ?_;simp only [zz];refine aU 4 (.slice (some ⟨g2, (i + 1) * 2, none⟩) (n + 1 - (i + 1)) (c2 - (i + 1))) rfl (fun W hW => exec_slice rfl rfl rfl rfl rfl ((sf_from _ (n + 1) c2 (i + 1) (by omega) HG2.out _).trans (by by_cases hq : c2 = i + 1; exact absurd hq (by omega); rw [fromF_at (by omega), Nat.zero_add]))) hS0 ?_;simp only [zz];refine aM 5 (.slice (some ⟨b, 0, none⟩) n c) hS0 ?_;simp only [zz];refine aM 6 (.int .i64 (i : Int)) hS0 ?_;simp only [zz];refine aU 7 (.slice (some ⟨b, i * 2, none⟩) (n - i) (c - i)) rfl (fun W hW => exec_slice rfl rfl rfl rfl rfl ((sf_from _ n c i (by omega) HNC.out _).trans (by rw [fromF_at (by have := HNC.out; omega), Nat.zero_add]))) hS0 ?_;simp only [zz]
   refine alw_step (i := 8) (by kernel_rfl) rfl rfl ?_
   intro K1 HK1
   refine wp_run (exec_copy rfl rfl rfl HC4.out) ?_
   refine HK1.out _ _ ⟨trivial, ?_⟩
   clear HK1
   simp only [zz]
   refine alw_done rfl ?_
   clear hS0
   refine NoPanic.normal ?_
   go_upto_region 12 with fail
   refine wp_region_lit ?_
   refine wM (.slice (some ⟨g2, 0, none⟩) (n + 1) c2) ?_;simp only [zz];refine wA (.slice (some ⟨g2, 0, none⟩) (n + 1) c2) ?_;simp only [zz]
   go_wp2_with fail
   go_ret
   exact ⟨_, _, rfl, HR4.out, HT4.out⟩
  ·refine wS (.bool false) (ix_gtr rfl rfl rfl (decide_eq_false (by omega))) ?_;simp only [zz]
   have hr2 : n + 1 ≤ c := by omega
   obtain ⟨hov, w3, hc3, w4, hc4, hrow, ht4⟩ := ins_room HO.out HT.out HN.out HLT.out HX.out (HG.out b 0 none rfl) hr2 HCM.out
   have HOV := zH hov
   have HC3 := zH hc3
   have HC4 := zH hc4
   have HR4 := zH hrow
   have HT4 := zH ht4
   have HR2 := zH hr2
   clear hov hc3 hc4 hrow ht4 hr hr2
   go_upto_region 13 with fail
   refine wp_region_lit ?_
   refine wM (.slice (some ⟨b, 0, none⟩) n c) ?_;simp only [zz];refine wM (.int .i64 (n : Int)) ?_;simp only [zz];refine wM (.int .i64 1) ?_;simp only [zz];refine wS (.int .i64 ((n + 1 : Nat) : Int)) (ix_add rfl rfl rfl (by omega) (by omega)) ?_;simp only [zz];refine wS (.slice (some ⟨b, 0, none⟩) (n + 1) c) (exec_slice rfl rfl rfl rfl rfl (sf_to _ n c (n + 1) HR2.out _)) ?_;simp only [zz];refine wA (.slice (some ⟨b, 0, none⟩) (n + 1) c) ?_;simp only [zz]
   go_upto_region 14 with fail
   refine wp_region_lit ?_
   refine wM (.slice (some ⟨g, 0, none⟩) 1 1) ?_;simp only [zz];refine wM (.slice (some ⟨b, 0, none⟩) (n + 1) c) ?_;simp only [zz];refine wM (.int .i64 (i : Int)) ?_;simp only [zz];refine wM (.int .i64 1) ?_;simp only [zz];refine wS (.int .i64 ((i + 1 : Nat) : Int)) (ix_add rfl rfl rfl (by omega) (by omega)) ?_;simp only [zz];refine wS (.slice (some ⟨b, (i + 1) * 2, none⟩) (n + 1 - (i + 1)) (c - (i + 1))) (exec_slice rfl rfl rfl rfl rfl ((sf_from _ (n + 1) c (i + 1) (by omega) HR2.out _).trans (by have := HR2.out; rw [fromF_at (by omega), Nat.zero_add]))) ?_;simp only [zz];refine wS (.bool false) (exec_over rfl rfl rfl (HOV.out _ _)) ?_;simp only [zz];refine wS (.bool true) (ix_not (b := false) rfl rfl) ?_;simp only [zz]
   go_upto_region 15 with fail
   refine wp_region_alw (fun _ => True) (by kernel_rfl) ?_
   have hS0 : True := trivial
   refine aM 0 (.slice (some ⟨b, 0, none⟩) (n + 1) c) hS0 ?_;simp only [zz];refine aM 1 (.int .i64 (i : Int)) hS0 ?_;simp only [zz];refine aM 2 (.int .i64 1) hS0 ?_;simp only [zz];refine aU 3 (.int .i64 ((i + 1 : Nat) : Int)) rfl (fun W hW => ix_add rfl rfl rfl (by omega) (by omega)) hS0 ?_;simp only [zz];refine aU 4 (.slice (some ⟨b, (i + 1) * 2, none⟩) (n + 1 - (i + 1)) (c - (i + 1))) rfl (fun W hW => exec_slice rfl rfl rfl rfl rfl ((sf_from _ (n + 1) c (i + 1) (by omega) HR2.out _).trans (by have := HR2.out; rw [fromF_at (by omega), Nat.zero_add]))) hS0 ?_;simp only [zz];refine aM 5 (.slice (some ⟨b, 0, none⟩) (n + 1) c) hS0 ?_;simp only [zz];refine aM 6 (.int .i64 (i : Int)) hS0 ?_;simp only [zz];refine aU 7 (.slice (some ⟨b, i * 2, none⟩) (n + 1 - i) (c - i)) rfl (fun W hW => exec_slice rfl rfl rfl rfl rfl ((sf_from _ (n + 1) c i (by omega) HR2.out _).trans (by have := HR2.out; rw [fromF_at (by omega), Nat.zero_add]))) hS0 ?_;simp only [zz]
   refine alw_step (i := 8) (by kernel_rfl) rfl rfl ?_
   intro K1 HK1
   refine wp_run (exec_copy rfl rfl rfl HC3.out) ?_
   refine HK1.out _ _ ⟨trivial, ?_⟩
   clear HK1
   simp only [zz]
   refine alw_done rfl ?_
   clear hS0
   refine NoPanic.normal ?_
   go_upto_region 16 with fail
   refine wp_region_lit ?_
   refine wM (.slice (some ⟨b, 0, none⟩) (n + 1) c) ?_;simp only [zz];refine wM (.int .i64 (i : Int)) ?_;simp only [zz];refine wS (.slice (some ⟨b, i * 2, none⟩) (n + 1 - i) (c - i)) (exec_slice rfl rfl rfl rfl rfl ((sf_from _ (n + 1) c i (by omega) HR2.out _).trans (by have := HR2.out; rw [fromF_at (by omega), Nat.zero_add]))) ?_;simp only [zz];refine wM (.slice (some ⟨g, 0, none⟩) 1 1) ?_;simp only [zz]
   refine wR (v := goInt (Nat.min 1 (n + 1 - i))) (w' := w4) rfl (exec_copy rfl rfl rfl HC4.out) ?_
   simp only [zz]
   go_upto_region 17 with fail
   refine wp_region_lit ?_
   refine wM (.slice (some ⟨b, 0, none⟩) (n + 1) c) ?_;simp only [zz];refine wA (.slice (some ⟨b, 0, none⟩) (n + 1) c) ?_;simp only [zz]
   go_wp2_with fail
   go_ret
   exact ⟨_, _, rfl, HR4.out, HT4.out⟩
theorem zero_msg (w : World) : (zeroValue 29).run Tryz.prog w = .ok (.agg #[.int .i64 0, .slice none 0 0]) w := by kernel_rfl
theorem msg0_one : ∀ v ∈ (#[.int .i64 0, .slice none 0 0] : Array Value).toList, v.oneCell' = true := fun v hv => by
 simp only [List.mem_cons, List.not_mem_nil, or_false] at hv
 rcases hv with rfl | rfl <;> rfl
theorem msgA_one (ty : Int) (A : Option Addr) (n c : Nat) : ∀ v ∈ (#[.int .i64 ty, .slice A n c] : Array Value).toList, v.oneCell' = true := fun v hv => by
 simp only [List.mem_cons, List.not_mem_nil, or_false] at hv
 rcases hv with rfl | rfl <;> rfl
theorem fl_turn {w w' : World} {A : Option Addr} {n g : Nat} {fs : List Fld} (h : Fl w A n fs) (ht : Turn (only g) w w') (hA : ∀ b o t, A = some ⟨b, o, t⟩ → b ≠ g) : Fl w' A n fs := by
 obtain ⟨q1, q2, q3⟩ := h
 refine ⟨q1, q2, fun hp => ?_⟩
 obtain ⟨b9, o9, e9, h9⟩ := q3 hp
 refine ⟨b9, o9, e9, fun i f hf j v hv => ?_⟩
 have hc := h9 i f hf j v hv
 exact (ht.cell (World.block_lt_of_cell? _ _ hc) (fun e => hA b9 o9 none e9 e)).trans hc
theorem byte_of {P : UInt8 → Prop} (h : ∀ n : Nat, n < 256 → P (UInt8.ofNat n)) (b : UInt8) : P b := by
 have h2 := h b.toNat b.toNat_lt
 rwa [show UInt8.ofNat b.toNat = b by simp] at h2
theorem dec_byte (b : UInt8) : dec.contains b = decide (48 ≤ b.toNat ∧ b.toNat ≤ 57) := byte_of (P := fun b => dec.contains b = decide (48 ≤ b.toNat ∧ b.toNat ≤ 57)) (by decide +kernel) b
theorem hex_byte (b : UInt8) : hexs.contains b = decide ((48 ≤ b.toNat ∧ b.toNat ≤ 57) ∨ (97 ≤ b.toNat ∧ b.toNat ≤ 102)) := byte_of (P := fun b => hexs.contains b = decide ((48 ≤ b.toNat ∧ b.toNat ≤ 57) ∨ (97 ≤ b.toNat ∧ b.toNat ≤ 102))) (by decide +kernel) b
theorem sgn_byte (b : UInt8) : sgn.contains b = decide ((48 ≤ b.toNat ∧ b.toNat ≤ 57) ∨ (65 ≤ b.toNat ∧ b.toNat ≤ 90) ∨ b.toNat = 32) := byte_of (P := fun b => sgn.contains b = decide ((48 ≤ b.toNat ∧ b.toNat ≤ 57) ∨ (65 ≤ b.toNat ∧ b.toNat ≤ 90) ∨ b.toNat = 32)) (by decide +kernel) b
theorem digit_walk (b : UInt8) (w : World) :
 Calls Tryz.prog 135 #[.int .u8 (b.toNat : Int)] w fun e w' => e = .returned (.bool (dec.contains b)) ∧ w' = w := by
 rw [dec_byte]
 have hb := b.toNat_lt
 generalize b.toNat = n at *
 go_enter Tryz.func135, Tryz.ntmps135
 go_wp2
 all_goals (try go_ret)
 all_goals
  refine ⟨ret_bool ?_, rfl⟩
  rw [Bool.eq_iff_iff]
  simp only [Bool.and_eq_true, decide_eq_true_eq, Bool.false_eq_true]
  refine ⟨fun h => ?_, fun h => ?_⟩ <;> (first | omega | contradiction)
theorem hex_walk (b : UInt8) (w : World) :
 Calls Tryz.prog 122 #[.int .u8 (b.toNat : Int)] w fun e w' => e = .returned (.bool (hexs.contains b)) ∧ w' = w := by
 have hd := digit_walk b
 have HD := zH hd
 clear hd
 rw [hex_byte]
 rw [dec_byte] at HD
 have hb := b.toNat_lt
 generalize b.toNat = n at *
 go_enter Tryz.func122, Tryz.ntmps122
 by_cases h0 : 48 ≤ n ∧ n ≤ 57
 ·rw [decide_eq_true h0] at HD
  rw [decide_eq_true (show (48 ≤ n ∧ n ≤ 57) ∨ (97 ≤ n ∧ n ≤ 102) from .inl h0)]
  go_wp2_with (go_at_call 135; refine (HD.out _).mono ?_; rintro e w1 ⟨rfl, rfl⟩)
  go_ret
  exact ⟨rfl, rfl⟩
 ·rw [decide_eq_false h0] at HD
  go_wp2_with (go_at_call 135; refine (HD.out _).mono ?_; rintro e w1 ⟨rfl, rfl⟩)
  all_goals (try go_ret)
  all_goals
   refine ⟨ret_bool ?_, rfl⟩
   rw [Bool.eq_iff_iff]
   simp only [Bool.and_eq_true, decide_eq_true_eq, Bool.false_eq_true]
   refine ⟨fun h => ?_, fun h => ?_⟩ <;> (first | omega | contradiction)
theorem sign_walk (b : UInt8) (w : World) :
 Calls Tryz.prog 121 #[.int .u8 (b.toNat : Int)] w fun e w' => e = .returned (.bool (sgn.contains b)) ∧ w' = w := by
 have hd := digit_walk b
 have HD := zH hd
 clear hd
 rw [sgn_byte]
 rw [dec_byte] at HD
 have hb := b.toNat_lt
 generalize b.toNat = n at *
 go_enter Tryz.func121, Tryz.ntmps121
 by_cases h0 : 48 ≤ n ∧ n ≤ 57
 ·rw [decide_eq_true h0] at HD
  rw [decide_eq_true (show (48 ≤ n ∧ n ≤ 57) ∨ (65 ≤ n ∧ n ≤ 90) ∨ n = 32 from .inl h0)]
  go_wp2_with (go_at_call 135; refine (HD.out _).mono ?_; rintro e w1 ⟨rfl, rfl⟩)
  go_ret
  exact ⟨rfl, rfl⟩
 ·rw [decide_eq_false h0] at HD
  go_wp2_with (go_at_call 135; refine (HD.out _).mono ?_; rintro e w1 ⟨rfl, rfl⟩)
  all_goals (try go_ret)
  all_goals
   refine ⟨ret_bool ?_, rfl⟩
   rw [Bool.eq_iff_iff]
   simp only [Bool.and_eq_true, Bool.or_eq_true, decide_eq_true_eq, Bool.false_eq_true, beq_iff_eq]
   refine ⟨fun h => ?_, fun h => ?_⟩ <;> (first | omega | contradiction | trivial)
theorem rmay_walk (f : Fm) (w : World) :
 Calls Tryz.prog 98 #[fmV f] w fun e w' => e = .returned (.bool f.may) ∧ Turn nowhere w w' := by
 obtain ⟨k, s, c⟩ := f
 unfold fmV
 go_enter Tryz.func98, Tryz.ntmps98
 go_wp2
 all_goals (try go_ret)
 all_goals
  refine ⟨ret_bool ?_, (Turn.refl _ w).alloc _⟩
  try simp only [beq_iff_eq, beq_eq_false_iff_ne, ne_eq] at *
  rw [Bool.eq_iff_iff]
  simp only [Fm.may, Bool.and_eq_true, decide_eq_true_eq, Bool.false_eq_true]
  refine ⟨fun h => ?_, fun h => ?_⟩ <;> (try dsimp only at h ⊢) <;> omega
theorem only_part {l cs : List UInt8} {k : Nat} (hk : k < l.length) (h : cs.contains (l.getD k 0) = false) : onlyOf l cs = false := by
 cases hq : onlyOf l cs with
 | false => rfl
 | true =>
   have := onlyOf_mem hq (c := l.getD k 0) (by
    rw [List.getD_eq_getElem?_getD, List.getElem?_eq_getElem hk]
    exact List.getElem_mem _)
   rw [← List.contains_iff_mem, h] at this
   cases this
theorem only_step {l cs : List UInt8} {k : Nat} (hk : k < l.length) (h0 : onlyOf (l.take k) cs = true) (h : cs.contains (l.getD k 0) = true) : onlyOf (l.take (k + 1)) cs = true := by
 unfold onlyOf at *
 rw [List.take_add_one, List.all_append, h0, List.getElem?_eq_getElem hk]
 rw [List.getD_eq_getElem?_getD, List.getElem?_eq_getElem hk] at h
 simpa using h
theorem all_walk (t : List UInt8) (w : World) (hl : t.length ≤ 9223372036854775807) :
 Calls Tryz.prog 120 #[strV t] w fun e w' => e = .returned (.bool (onlyOf t dec)) ∧ w' = w := by
 have HL := zH hl
 clear hl
 go_enter Tryz.func120, Tryz.ntmps120
 go_wp2_with fail
 obtain ⟨n, hn⟩ : ∃ n, n = t.length := ⟨_, rfl⟩
 have HN := zH hn
 clear hn
 go_loopg [3] n (fun gk i wr => ∃ k : Nat, k + gk = n ∧ i = .int .i64 (k : Int) ∧ wr = w ∧ onlyOf (t.take k) dec = true)
 case atStart => exact ⟨0, by omega, rfl, rfl, rfl⟩
 obtain ⟨k, hkl, rfl, rfl, hin⟩ := hrel
 have HKL := zH hkl
 have HIN := zH hin
 clear hkl hin
 go_upto_region 2 with fail
 refine wp_region_lit ?_
 refine wM (.int .i64 (k : Int)) ?_;simp only [zz];refine wM (strV t) ?_;simp only [zz]
 refine wR (v := .int .i64 (n : Int)) (w' := wr) rfl (by rw [HN.out]; exact exec_slen rfl rfl) ?_
 simp only [zz]
 by_cases hlt : k < n
 ·have y1 : (k : Int) < (n : Int) := by omega
  have y3 : (n : Int) ≤ 9223372036854775807 := by have := HN.out; have := HL.out; omega
  go_upto_region 4 with fail
  refine wp_region_lit ?_
  refine wM (strV t) ?_;simp only [zz];refine wM (.int .i64 (k : Int)) ?_;simp only [zz]
  refine wR (v := .int .u8 ((t.getD k 0).toNat : Int)) (w' := wr) rfl (exec_sidx rfl rfl rfl (by rw [← HN.out]; exact hlt)) ?_
  simp only [zz]
  have HLT := zH hlt
  clear hlt
  have hd := digit_walk (t.getD k 0) wr
  have hp : dec.contains (t.getD k 0) = false → onlyOf t dec = false := only_part (by rw [← HN.out]; exact HLT.out)
  have hs : dec.contains (t.getD k 0) = true → onlyOf (t.take (k + 1)) dec = true := only_step (by rw [← HN.out]; exact HLT.out) HIN.out
  have HP := zH hp
  have HS := zH hs
  clear hp hs HIN
  generalize t.getD k 0 = b at *
  cases hq : dec.contains b with
  | true =>
    rw [hq] at hd
    have HIN := zH (HS.out hq)
    go_wp2_with (go_at_call 135; refine hd.mono ?_; rintro e w1 ⟨rfl, rfl⟩)
    go_roundg (gk - 1)
    case measure => have := HKL.out; have := HLT.out; omega
    case rel => exact ⟨k + 1, by have := HKL.out; have := HLT.out; omega, by go_num, rfl, HIN.out⟩
  | false =>
    rw [hq] at hd
    have HIN := zH (HP.out hq)
    go_wp2_with (go_at_call 135; refine hd.mono ?_; rintro e w1 ⟨rfl, rfl⟩)
    go_ret
    rw [HIN.out]
    exact ⟨rfl, rfl⟩
 ·have hke : k = n := by have := HKL.out; omega
  have y1 : ¬ ((k : Int) < (n : Int)) := by omega
  have HALL := zH (show onlyOf t dec = true by
   have := HIN.out
   rwa [List.take_of_length_le (by rw [← HN.out]; omega)] at this)
  clear hlt hke
  go_wp2_with fail
  go_ret
  rw [HALL.out]
  exact ⟨rfl, rfl⟩
end Go.Proofs.YtkagijifkpoplaaGreatDoor
