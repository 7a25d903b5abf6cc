/-
  Links: rows of bytes that grow, what a slice of bytes is behind a turn, small operations. No conditions.
-/
import Derived.Test.YteedjfgandgbkaaJa0
import Derived.Test.YteedjfgandgbkaaProg
import Derived.Laws.AppendOwnNone
import Derived.Laws.OwnMore
import Derived.Maps.AppendAt
import Derived.Laws.EntriesVeiled
import Derived.Laws.IdiomStrings
import Derived.Laws.Strings
import Derived.Laws.Slices
import Derived.Laws.Concat
import Derived.Laws.Strings3
import Derived.Deep.Cut
import Derived.Deep.LoopGhost
import Derived.WalkSmall
import Derived.Deep.QuietTactic
import Derived.BigQuiet
import Derived.StillTailTactics
import Derived.Lib.Hide
namespace Go.Proofs.Yteedjfgandgbkaa
open Go.RowKit
set_option linter.unusedVariables false
set_option linter.unusedSimpArgs false
theorem sliceInfo : (Try.prog.info? 36).map (fun i => (i.zero, i.size, i.bytes)) = some (some (.slice none 0 0), 1, 24) := by kernel_rfl
theorem own_form {w : World} {B : Nat} {e : TypeId} {sz n : Nat} {v : Value} {xs : List Value} (h : w.ownsRow B e sz v n xs) : ∃ A c, v = .slice A n c := by
  rcases h.2 with ⟨rfl, rfl⟩ | ⟨g, cap, cur, rfl, _⟩
  · exact ⟨none, 0, rfl⟩
  · exact ⟨_, _, rfl⟩
theorem lrow_ne {w : World} {B : Nat} {e : TypeId} {sz n g : Nat} {v : Value} {xs : List Value} {t : TypeId} {cs : Array Value} (h : w.ownsRow B e sz v n xs) (hg : Blk w g t cs) (ht : t ≠ e) : ¬ (some g = v.ownBlock) := by
  rcases h.2 with ⟨rfl, _⟩ | ⟨g', cap, cur, rfl, _, hg', _⟩
  · intro e'; cases e'
  · intro e'
    have e2 : g = g' := Option.some.inj e'
    subst e2
    have h1 : w.heap[g]? = some (.cells cs t (0, 0)) := hg
    rw [h1] at hg'
    injection hg' with h2
    injection h2 with _ h3
    exact ht h3
/-- from v to v': what v owns may turn, and nothing else that there was -/
structure Ext (w w' : World) (v v' : Value) : Prop where
  tr : Turn (fun b => some b = v.ownBlock) w w'
  sub : ∀ b, some b = v'.ownBlock → b < w.heap.size → some b = v.ownBlock
theorem Ext.refl (w : World) (v : Value) : Ext w w v v := ⟨Turn.refl _ _, fun _ h _ => h⟩
theorem Ext.trans {w w1 w' : World} {v v1 v' : Value} (h : Ext w w1 v v1) (g : Ext w1 w' v1 v') : Ext w w' v v' where
  tr := h.tr.trans g.tr fun k hk e => h.sub k e hk
  sub := fun b e hb => h.sub b (g.sub b e (Nat.lt_of_lt_of_le hb h.tr.size)) hb
theorem Ext.still {w w1 : World} {v v' : Value} {w' : World} (h : Ext w w1 v v') (ht : Turn nowhere w1 w') : Ext w w' v v' := ⟨h.tr.trans ht fun _ _ e => e.elim, h.sub⟩
theorem Ext.behind {w w1 w' : World} {v v' : Value} (ht : Turn nowhere w w1) (h : Ext w1 w' v v') : Ext w w' v v' := ⟨(ht.mono fun _ _ e => e.elim).trans h.tr fun _ _ e => e, fun b e hb => h.sub b e (Nat.lt_of_lt_of_le hb ht.size)⟩
/-- append of one slot's values, whatever the row's element -/
theorem append_row {w : World} {e t ty : TypeId} {z : Value} {bytes : Nat} (ht : Try.prog.underlying t = some (.slice e)) (hi : (Try.prog.info? e).map (fun i => (i.zero, i.size, i.bytes)) = some (some z, 1, bytes)) (hz : z.cells.size = 1)
    {v : Value} {n : Nat} {xs news : List Value} (hown : w.ownsRow 0 e 1 v n xs) {A : Addr} {m c : Nat} (hl : news.length = m) (hnews : ∀ j u, news[j]? = some u → w.cell? (A.add j) = some u) (h1 : ∀ u ∈ news, u.oneCell' = true)
    (hb : (n + m) * bytes ≤ 140737488355328) (hm : n + m ≤ maxLen) :
    ∃ A' c' w', (Builtin.append_ #[t, t] ty #[v, .slice (some A) m c]).run Try.prog w = .ok (.slice A' (n + m) c') w' ∧ w'.ownsRow 0 e 1 (.slice A' (n + m) c') (n + m) (xs ++ news) ∧ Ext w w' v (.slice A' (n + m) c') := by
  obtain ⟨i0, hi0, hz0, hz1, hz2⟩ := info_parts hi
  obtain ⟨v', w', h1, h2, h3, _, h5⟩ := run_append_own_at (P := Try.prog) w 0 t ty e i0 z 1 bytes ht hi0 hz0 hz1 hz2
    hz (by omega) v n xs hown A m c news (by rw [hl, Nat.mul_one]) hnews h1 hm hb (Nat.zero_le _)
  obtain ⟨A', c', rfl⟩ := own_form h2
  refine ⟨A', c', w', h1, h2, (Turn.refl _ w).grown h3 fun b e hb => e.symm, fun b e hb => ?_⟩
  rcases h5 with h5 | h5
  · rw [← h5]
    exact e
  · rw [h5] at e
    have : b = w.heap.size := Option.some.inj e
    omega
/-- append of bytes that lie anywhere -/
theorem append_src {w : World} {ty : TypeId} {v : Value} {bs news : List UInt8} (hown : Own w 0 5 v bs) {A : Option Addr} {m c : Nat} (hb : Bs w A m news) (hc : A = none → c = 0) (hlen : bs.length + m ≤ 140737488355328) :
    ∃ A' c' w', (Builtin.append_ #[36, 36] ty #[v, .slice A m c]).run Try.prog w = .ok (.slice A' (bs.length + m) c') w' ∧ Own w' 0 5 (.slice A' (bs.length + m) c') (bs ++ news) ∧ Ext w w' v (.slice A' (bs.length + m) c') := by
  obtain ⟨h1, h2, h3⟩ := hb
  rcases A with _ | A
  · obtain rfl := hc rfl
    have hm0 : m = 0 := by
      rcases Nat.eq_zero_or_pos m with h0 | h0
      · exact h0
      · obtain ⟨_, _, h4, _⟩ := h3 h0; cases h4
    subst hm0
    have hn : news = [] := List.eq_nil_of_length_eq_zero h1
    subst hn
    obtain ⟨i0, hi0, hz0, hz1, hz2⟩ := info_parts byteInfo
    have hrun := run_append_owned_none (P := Try.prog) (w := w) 0 36 ty 5 i0 1 Try.underlying36 hi0 v _ _ hown
    obtain ⟨A', c', rfl⟩ := own_form hown
    exact ⟨A', c', w, hrun, by rw [List.append_nil]; exact hown, Ext.refl _ _⟩
  · obtain ⟨A', c', w', g1, g2, g3⟩ := append_row (ty := ty) (c := c) Try.underlying36 byteInfo rfl (news := bcs news) (m := m) (A := A) hown (by rw [bcs_length, h1]) (fun j u hj => by
      have hjl : j < news.length := by
        have := (List.getElem?_eq_some_iff.1 hj).1
        rwa [bcs_length] at this
      obtain ⟨b, off, e, hcell⟩ := h3 (by omega)
      obtain rfl := Option.some.inj e
      rw [bcs_at news j hjl] at hj
      rw [add_nat, ← hj]
      exact hcell j (by omega)) (bcs_one news) (by omega) (by unfold maxLen; omega)
    refine ⟨A', c', w', g1, ?_, g3⟩
    unfold Own
    rw [List.length_append, bcs_append, h1]
    exact g2
/-- bytes of a slice as they stand: its block -/
def At_ (w : World) (A : Option Addr) (n : Nat) (bs : List UInt8) (F : Nat → Prop) : Prop := Bs w A n bs ∧ ∀ b off s, A = some ⟨b, off, s⟩ → 0 < n → F b
theorem Bs.turn {w w' : World} {A : Option Addr} {n : Nat} {bs : List UInt8} {F : Nat → Prop} (h : Bs w A n bs) (ht : Turn F w w') (hn : ∀ b off s, A = some ⟨b, off, s⟩ → 0 < n → b < w.heap.size → ¬ F b) : Bs w' A n bs := by
  obtain ⟨h1, h2, h3⟩ := h
  refine ⟨h1, h2, fun hp => ?_⟩
  obtain ⟨b, off, rfl, hc⟩ := h3 hp
  refine ⟨b, off, rfl, fun i hi => ?_⟩
  have hlt := World.block_lt_of_cell? _ _ (hc i hi)
  rw [ht.cell (p := ⟨b, off + i, none⟩) hlt (hn b off none rfl hp hlt)]
  exact hc i hi
theorem Bs.still {w w' : World} {A : Option Addr} {n : Nat} {bs : List UInt8} (h : Bs w A n bs) (ht : Turn nowhere w w') : Bs w' A n bs := h.turn ht fun _ _ _ _ _ _ e => e
theorem Bs.take {w : World} {A : Option Addr} {n k : Nat} {bs : List UInt8} (h : Bs w A n bs) (hk : k ≤ n) : Bs w A k (bs.take k) := by
  obtain ⟨h1, h2, h3⟩ := h
  refine ⟨by rw [List.length_take]; omega, by omega, fun hp => ?_⟩
  obtain ⟨b, off, rfl, hc⟩ := h3 (by omega)
  refine ⟨b, off, rfl, fun i hi => ?_⟩
  rw [hc i (by omega), List.getD_eq_getElem?_getD, List.getD_eq_getElem?_getD, List.getElem?_take, if_pos hi]
theorem Bs.drop {w : World} {b off n k : Nat} {bs : List UInt8} (h : Bs w (some ⟨b, off, none⟩) n bs) (hk : k ≤ n) : Bs w (some ⟨b, off + k, none⟩) (n - k) (bs.drop k) := by
  obtain ⟨h1, h2, h3⟩ := h
  refine ⟨by rw [List.length_drop]; omega, by omega, fun hp => ?_⟩
  obtain ⟨b', off', e, hc⟩ := h3 (by omega)
  have e1 : b' = b ∧ off' = off := by
    injection e with e
    injection e with e2 e3
    exact ⟨e2.symm, e3.symm⟩
  obtain ⟨rfl, rfl⟩ := e1
  refine ⟨_, _, rfl, fun i hi => ?_⟩
  rw [Nat.add_assoc, hc (k + i) (by omega), List.getD_eq_getElem?_getD, List.getD_eq_getElem?_getD, List.getElem?_drop]
theorem Own.bs {w : World} {B : Nat} {e : TypeId} {A : Option Addr} {n c : Nat} {bs : List UInt8} (h : Own w B e (.slice A n c) bs) : Bs w A n bs ∧ n ≤ c ∧ (A = none → c = 0) := by
  obtain ⟨A', n', c', e1, h1, h2, h3⟩ := h.form
  injection e1 with e1 e2 e3
  subst e1 e2 e3
  exact ⟨h1, h2, h3⟩
theorem Own.turn {w w' : World} {B : Nat} {e : TypeId} {v : Value} {bs : List UInt8} {F : Nat → Prop} (h : Own w B e v bs) (ht : Turn F w w') (hn : ∀ k, v.ownBlock = some k → ¬ F k) : Own w' B e v bs := by
  refine ⟨h.1, ?_⟩
  rcases h.2 with h0 | ⟨g, cap, cur, rfl, hb1, hgg, rest⟩
  · exact .inl h0
  · have hlt : g < w.heap.size := (Array.getElem?_eq_some_iff.1 hgg).1
    exact .inr ⟨g, cap, cur, rfl, hb1, by rw [ht.block g hlt (hn g rfl)]; exact hgg, rest⟩
theorem Own.none_ (w : World) (B : Nat) (e : TypeId) : Own w B e (.slice none 0 0) [] := World.ownsRow_nil w B e 1
theorem own_lt {w : World} {B : Nat} {e : TypeId} {v : Value} {bs : List UInt8} (h : Own w B e v bs) {k : Nat} (hk : v.ownBlock = some k) : k < w.heap.size := (h.lt k hk).2
theorem exec_buildNone {P : Program} {a : Act} {o : Oper} {t : TypeId} {v : Value} {W W' : World} (ho : o.op = .buildSlice t 0 #[]) (h : (Instr.buildSlice t 0 #[]).run P W = .ok v W') : (execOp a.eval o).run P W = .ok (.value v) W' := by
  unfold execOp
  simp only [ho, List.map_toArray, List.map_nil, h, Sem.run_bind, Sem.run_pure, Result.andThen_ok]
theorem build_noneB (w : World) : (Instr.buildSlice 36 0 #[]).run Try.prog w = .ok (.slice (some ⟨w.heap.size, 0, none⟩) 0 0) (w.alloc (.cells #[] 5)) := by
  kernel_rfl
theorem ext_new {w w1 w' : World} {v v' : Value} (ht : Turn nowhere w w1) (he : Ext w1 w' v v') (hv : ∀ k, v.ownBlock = some k → w.heap.size ≤ k) : Turn nowhere w w' ∧ ∀ k, v'.ownBlock = some k → w.heap.size ≤ k :=
  ⟨ht.trans he.tr fun k hk e => by have := hv k e.symm; omega, fun k hk => by
    by_cases hlt : k < w1.heap.size
    · exact hv k (he.sub k hk.symm hlt).symm
    · have := ht.size
      omega⟩
/-- append([]byte{}, s...) -/
theorem copy_src {w : World} {A : Option Addr} {m c : Nat} {bs : List UInt8} (hb : Bs w A m bs) (hc : A = none → c = 0) (hm : m ≤ 140737488355328) {ty : TypeId} :
    ∃ A' c' w', (Builtin.append_ #[36, 36] ty #[.slice (some ⟨w.heap.size, 0, none⟩) 0 0, .slice A m c]).run Try.prog (w.alloc (.cells #[] 5)) = .ok (.slice A' m c') w' ∧ Own w' 0 5 (.slice A' m c') bs ∧ Turn nowhere w w' ∧ ∀ k, (Value.slice A' m c').ownBlock = some k → w.heap.size ≤ k := by
  obtain ⟨A', c', w', g1, g2, g3⟩ := append_src (ty := ty) (Own.empty w 0 5 (Nat.zero_le _)) (hb.still ((Turn.refl nowhere w).alloc (.cells #[] 5))) hc (by simp; omega)
  have hl : ([] : List UInt8).length + m = m := by simp
  rw [hl] at g1 g2 g3
  rw [List.nil_append] at g2
  obtain ⟨h1, h2⟩ := ext_new ((Turn.refl nowhere w).alloc (.cells #[] 5)) g3 (fun k hk => by
    have : w.heap.size = k := Option.some.inj hk
    omega)
  exact ⟨A', c', w', g1, g2, h1, h2⟩
section
variable {a : Act} {o : Oper} {W : World}
theorem lx_blen {x : Operand} {A : Option Addr} {n c : Nat} (ho : o.op = .call { callee := .builtin .len, args := #[x], argTypes := #[36] }) (hx : a.eval x = .slice A n c) : (execOp a.eval o).run Try.prog W = .ok (.value (.int .i64 (n : Int))) W := gx_len ho hx Try.underlying36
theorem lx_flen {x : Operand} {A : Option Addr} {n c : Nat} (ho : o.op = .call { callee := .builtin .len, args := #[x], argTypes := #[60] }) (hx : a.eval x = .slice A n c) : (execOp a.eval o).run Try.prog W = .ok (.value (.int .i64 (n : Int))) W := gx_len ho hx Try.underlying60
theorem lx_byte {x : Operand} {b m : Nat} {v : Value} (ho : o.op = .load 5 x) (hx : a.eval x = .pointer (some ⟨b, m, none⟩)) (hc : W.cell? ⟨b, m, none⟩ = some v) : (execOp a.eval o).run Try.prog W = .ok (.value v) W := exec_load1 ho hx (by kernel_rfl) hc
theorem lx_sl {x : Operand} {b m : Nat} {v : Value} (ho : o.op = .load 36 x) (hx : a.eval x = .pointer (some ⟨b, m, none⟩)) (hc : W.cell? ⟨b, m, none⟩ = some v) : (execOp a.eval o).run Try.prog W = .ok (.value v) W := exec_load1 ho hx (by kernel_rfl) hc
end
end Go.Proofs.Yteedjfgandgbkaa
