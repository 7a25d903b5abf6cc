/-
  The reference's plant in memory, whole: its own blocks, and those that nobody writes. No conditions.
-/
import Derived.Test.YteedjfgandgbkaaPpA
import Derived.Test.YteedjfgandgbkaaRfK
import Derived.Test.YteedjfgandgbkaaPlFm
import Derived.Test.YteedjfgandgbkaaPlLb
import Derived.Test.YteedjfgandgbkaaGnl
import Derived.Test.YteedjfgandgbkaaRwn
namespace Go.Proofs.Yteedjfgandgbkaa
open Go.RowKit
set_option linter.unusedVariables false
set_option linter.unusedSimpArgs false
def row1 (vs : List Value) : List (List Value) := vs.map fun u => [u]
theorem flat_row1 : ∀ vs : List Value, (row1 vs).flatten = vs
  | [] => rfl
  | u :: vs => by
    have := flat_row1 vs
    unfold row1 at this ⊢
    rw [List.map_cons, List.flatten_cons, this]
    rfl
theorem len_row1 (vs : List Value) : (row1 vs).length = vs.length := by unfold row1; rw [List.length_map]
theorem fit_row1 {vs : List Value} (h : ∀ u ∈ vs, u.oneCell' = true) : Fit 1 (row1 vs) := fun r hr => by
  unfold row1 at hr
  obtain ⟨u, hu, rfl⟩ := List.mem_map.1 hr
  exact ⟨rfl, fun x hx => by
    have hx : x ∈ [u] := hx
    rw [List.mem_singleton.1 hx]
    exact h u hu⟩
theorem Orw.row1_owns {w : World} {B : Nat} {et : TypeId} {v : Value} {vs : List Value} (h : Orw w B et 1 v (row1 vs)) : w.ownsRow B et 1 v vs.length vs := by
  have := h.2
  rwa [len_row1, flat_row1] at this
/-- a waiting write in memory -/
def wrow (x : WtR × Value) : List Value := [.int .i64 (x.1.1 : Int), .int .i64 x.1.2.1, x.2]
/-- a sector's value, in a block of Z -/
def SecZ (w : World) (Z : Nat → Prop) (u : Value) (o : Option Sec) : Prop := SecV w u o ∧ ∀ b, u.ownBlock = some b → Z b
theorem SecZ.one {w : World} {Z : Nat → Prop} {u : Value} {o : Option Sec} (h : SecZ w Z u o) : u.oneCell' = true ∧ u.cells = #[u] := by
  rcases h.1 with ⟨_, rfl⟩ | ⟨_, _, _, _, _, _, rfl, _⟩ <;> exact ⟨rfl, rfl⟩
/-- block b is of a type that nobody writes -/
def Frz (w : World) (b : Nat) : Prop := ∃ t cs, Blk w b t cs ∧ (t = 5 ∨ t = 3 ∨ t = 60)
theorem SecZ.turn {w w' : World} {Z H : Nat → Prop} {u : Value} {o : Option Sec} (h : SecZ w Z u o) (ht : Turn H w w') (hZ : ∀ b, Z b → Frz w b → ¬ H b) : SecZ w' Z u o := by
  refine ⟨?_, h.2⟩
  rcases h.1 with h1 | ⟨s, b, off, c, cu, h1, rfl, h3, h4, h5⟩
  · exact .inl h1
  · have hn := hZ b (h.2 b rfl) ⟨_, _, h5, .inl rfl⟩
    exact .inr ⟨s, b, off, c, cu, h1, rfl, h3, h4.turn ht (fun b' off' s' e _ _ => by injection e with e; injection e with e; subst e; exact hn), (ht.block b (Array.getElem?_eq_some_iff.1 h5).1 hn).trans h5⟩
theorem SecZ.more {w : World} {Z Z' : Nat → Prop} {u : Value} {o : Option Sec} (h : SecZ w Z u o) (hZ : ∀ b, Z b → Z' b) : SecZ w Z' u o := ⟨h.1, fun b hb => hZ b (h.2 b hb)⟩
structure RAtX (w : World) (q : Nat) (Z : Nat → Prop) (a : RP) (mv hv wv : Value) (zs : List Int) (rows : List (Value × List Value)) (ws : List (WtR × Value)) : Prop where
  blk : Blk w q 49 (refCells mv hv wv a.off a.burns a.left a.done)
  most : Orw w 0 3 1 mv (row1 (zs.map fun z => .int .i64 z))
  zlen : zs.length = a.ds.length
  zat : ∀ (i : Nat) (e : Nat × (Int → Option Sec)), a.ds[i]? = some e → zs[i]? = some (e.1 : Int)
  has : Orw w 0 60 1 hv (row1 (rows.map (·.1)))
  hlen : rows.length = a.ds.length
  row : ∀ (i : Nat) (r : Value × List Value) (e : Nat × (Int → Option Sec)), rows[i]? = some r → a.ds[i]? = some e → r.2.length = e.1 ∧ Orw w 0 36 1 r.1 (row1 r.2) ∧ ∀ (k : Nat) (u : Value), r.2[k]? = some u → SecZ w Z u (e.2 (k : Int))
  ne : ∀ (i j : Nat) (r r' : Value × List Value) (b : Nat), rows[i]? = some r → rows[j]? = some r' → i ≠ j → r.1.ownBlock = some b → r'.1.ownBlock ≠ some b
  wts : Orw w 0 72 3 wv (ws.map wrow)
  wr : ws.map (·.1) = a.R
  wsec : ∀ x ∈ ws, SecZ w Z x.2 (some x.1.2.2)
  wok : ∀ x ∈ a.R, ∃ e, a.ds[x.1]? = some e ∧ 0 ≤ x.2.1 ∧ x.2.1 < (e.1 : Int)
  zm : ∀ b, mv.ownBlock = some b → Z b
  zh : ∀ b, hv.ownBlock = some b → Z b
  zlt : ∀ b, Z b → b < w.heap.size
  d1 : 1 ≤ a.ds.length ∧ a.ds.length ≤ 4
  sz : ∀ e ∈ a.ds, 1 ≤ e.1 ∧ e.1 ≤ 65536
def RG (q : Nat) (rows : List (Value × List Value)) (wv : Value) : Nat → Prop := fun b => b = q ∨ (∃ r ∈ rows, r.1.ownBlock = some b) ∨ wv.ownBlock = some b
/-- block q is the reference's plant a; G: the blocks that its calls write; Z: those that nobody writes -/
def RAt (w : World) (q : Nat) (G Z : Nat → Prop) (a : RP) : Prop := ∃ mv hv wv zs rows ws, RAtX w q Z a mv hv wv zs rows ws ∧ G = RG q rows wv
section
variable {w w' : World} {q : Nat} {G Z H : Nat → Prop} {a : RP} {mv hv wv : Value} {zs : List Int} {rows : List (Value × List Value)} {ws : List (WtR × Value)}
theorem RAtX.rowAt (h : RAtX w q Z a mv hv wv zs rows ws) {i : Nat} {e : Nat × (Int → Option Sec)} (he : a.ds[i]? = some e) : ∃ r, rows[i]? = some r ∧ r.2.length = e.1 ∧ Orw w 0 36 1 r.1 (row1 r.2) ∧ ∀ (k : Nat) (u : Value), r.2[k]? = some u → SecZ w Z u (e.2 (k : Int)) := by
  have hi := (List.getElem?_eq_some_iff.1 he).1
  have hr : rows[i]? = some (rows[i]'(by rw [h.hlen]; exact hi)) := List.getElem?_eq_getElem _
  exact ⟨_, hr, h.row i _ e hr he⟩
theorem RAtX.rowMem (h : RAtX w q Z a mv hv wv zs rows ws) {r : Value × List Value} (hr : r ∈ rows) : ∃ (i : Nat) (e : Nat × (Int → Option Sec)), rows[i]? = some r ∧ a.ds[i]? = some e ∧ r.2.length = e.1 ∧ Orw w 0 36 1 r.1 (row1 r.2) ∧ ∀ (k : Nat) (u : Value), r.2[k]? = some u → SecZ w Z u (e.2 (k : Int)) := by
  obtain ⟨i, hi⟩ := List.mem_iff_getElem?.1 hr
  have hl := (List.getElem?_eq_some_iff.1 hi).1
  have he : a.ds[i]? = some (a.ds[i]'(by rw [← h.hlen]; exact hl)) := List.getElem?_eq_getElem _
  exact ⟨i, _, hi, he, h.row i r _ hi he⟩
theorem RAtX.lt (h : RAtX w q Z a mv hv wv zs rows ws) {b : Nat} (hb : RG q rows wv b) : b < w.heap.size := by
  rcases hb with rfl | ⟨r, hr, hb⟩ | hb
  · exact h.blk.lt
  · obtain ⟨i, e, _, _, _, ho, _⟩ := h.rowMem hr
    exact (ho.lt hb).2
  · exact (h.wts.lt hb).2
/-- its own blocks are of their own types -/
theorem RAtX.ty (h : RAtX w q Z a mv hv wv zs rows ws) {b : Nat} (hb : RG q rows wv b) : ∃ t cs, Blk w b t cs ∧ (t = 49 ∨ t = 36 ∨ t = 72) := by
  rcases hb with rfl | ⟨r, hr, hb⟩ | hb
  · exact ⟨_, _, h.blk, .inl rfl⟩
  · obtain ⟨i, e, _, _, _, ho, _⟩ := h.rowMem hr
    obtain ⟨cur, hc⟩ := ho.own_blk hb
    exact ⟨_, _, hc, .inr (.inl rfl)⟩
  · obtain ⟨cur, hc⟩ := h.wts.own_blk hb
    exact ⟨_, _, hc, .inr (.inr rfl)⟩
theorem blk_ty {w : World} {g : Nat} {t t' : TypeId} {cs cs' : Array Value} (h : Blk w g t cs) (h' : Blk w g t' cs') : t = t' := by
  unfold Blk at h h'
  rw [h] at h'
  injection h' with h'
  injection h' with _ e
theorem RAtX.notFrz (h : RAtX w q Z a mv hv wv zs rows ws) {b : Nat} (hb : RG q rows wv b) : ¬ Frz w b := by
  obtain ⟨t, cs, h1, h2⟩ := h.ty hb
  rintro ⟨t', cs', h3, h4⟩
  have e := blk_ty h1 h3
  subst e
  rcases h2 with rfl | rfl | rfl <;> revert h4 <;> decide
theorem RAtX.off (h : RAtX w q Z a mv hv wv zs rows ws) (ht : Turn H w w') (hG : ∀ b, RG q rows wv b → ¬ H b) (hZ : ∀ b, Z b → Frz w b → ¬ H b) : RAtX w' q Z a mv hv wv zs rows ws := { h with
  blk := h.blk.turn ht (hG q (.inl rfl))
  most := h.most.turn ht fun b hb => by
    obtain ⟨cur, hc⟩ := h.most.own_blk hb
    exact hZ b (h.zm b hb) ⟨_, _, hc, .inr (.inl rfl)⟩
  has := h.has.turn ht fun b hb => by
    obtain ⟨cur, hc⟩ := h.has.own_blk hb
    exact hZ b (h.zh b hb) ⟨_, _, hc, .inr (.inr rfl)⟩
  row := fun i r e hr he => by
    obtain ⟨h1, h2, h3⟩ := h.row i r e hr he
    exact ⟨h1, h2.turn ht fun b hb => hG b (.inr (.inl ⟨r, List.mem_of_getElem? hr, hb⟩)), fun k u hu => (h3 k u hu).turn ht hZ⟩
  wts := h.wts.turn ht fun b hb => hG b (.inr (.inr hb))
  wsec := fun x hx => (h.wsec x hx).turn ht hZ
  zlt := fun b hb => Nat.lt_of_lt_of_le (h.zlt b hb) ht.size }
theorem RAt.off (h : RAt w q G Z a) (ht : Turn H w w') (hG : ∀ b, G b → ¬ H b) (hZ : ∀ b, Z b → Frz w b → ¬ H b) : RAt w' q G Z a := by
  obtain ⟨mv, hv, wv, zs, rows, ws, h, rfl⟩ := h
  exact ⟨mv, hv, wv, zs, rows, ws, h.off ht hG hZ, rfl⟩
theorem RAt.still (h : RAt w q G Z a) (ht : Turn nowhere w w') : RAt w' q G Z a := h.off ht (fun _ _ e => e) fun _ _ _ e => e
theorem RAt.lt (h : RAt w q G Z a) {b : Nat} (hb : G b) : b < w.heap.size := by
  obtain ⟨mv, hv, wv, zs, rows, ws, h, rfl⟩ := h
  exact h.lt hb
theorem RAt.zlt (h : RAt w q G Z a) {b : Nat} (hb : Z b) : b < w.heap.size := by
  obtain ⟨mv, hv, wv, zs, rows, ws, h, rfl⟩ := h
  exact h.zlt b hb
theorem RAt.notFrz (h : RAt w q G Z a) {b : Nat} (hb : G b) : ¬ Frz w b := by
  obtain ⟨mv, hv, wv, zs, rows, ws, h, rfl⟩ := h
  exact h.notFrz hb
theorem RAt.ty (h : RAt w q G Z a) {b : Nat} (hb : G b) : ∃ t cs, Blk w b t cs ∧ (t = 49 ∨ t = 36 ∨ t = 72) := by
  obtain ⟨mv, hv, wv, zs, rows, ws, h, rfl⟩ := h
  exact h.ty hb
/-- as the elder texts say it -/
theorem RAtX.hasR (h : RAtX w q Z a mv hv wv zs rows ws) : HasR w hv a.ds := by
  have ho := h.has.row1_owns
  rw [List.length_map, h.hlen] at ho
  refine ⟨_, ho, fun i v hv => ?_⟩
  rw [List.getElem?_map] at hv
  obtain ⟨r, hr, rfl⟩ := Option.map_eq_some_iff.1 hv
  have hl := (List.getElem?_eq_some_iff.1 hr).1
  have he : a.ds[i]? = some (a.ds[i]'(by rw [← h.hlen]; exact hl)) := List.getElem?_eq_getElem _
  obtain ⟨h1, h2, h3⟩ := h.row i r _ hr he
  refine ⟨_, he, r.2, ?_, fun k u hu => (h3 k u hu).1⟩
  rw [← h1]
  exact h2.row1_owns
theorem wrow_len (ws : List (WtR × Value)) : ∀ r ∈ ws.map wrow, r.length = 3 := fun r hr => by
  obtain ⟨x, _, rfl⟩ := List.mem_map.1 hr
  rfl
theorem RAtX.waitsR (h : RAtX w q Z a mv hv wv zs rows ws) : WaitsR w wv a.R := by
  have hl : ws.length = a.R.length := by rw [← h.wr, List.length_map]
  have ho := h.wts.2
  rw [List.length_map, hl] at ho
  refine ⟨_, ho, fun i x hx => ?_⟩
  rw [← h.wr, List.getElem?_map] at hx
  obtain ⟨y, hy, rfl⟩ := Option.map_eq_some_iff.1 hx
  have hm : (ws.map wrow)[i]? = some (wrow y) := by rw [List.getElem?_map, hy]; rfl
  refine ⟨(flat_at h.wts.1 hm (j := 0) (by decide)).trans rfl, (flat_at h.wts.1 hm (j := 1) (by decide)).trans rfl, y.2, (flat_at h.wts.1 hm (j := 2) (by decide)).trans rfl, (h.wsec y (List.mem_of_getElem? hy)).1⟩
theorem RAtX.mform (h : RAtX w q Z a mv hv wv zs rows ws) : ∃ A c, mv = .slice A a.ds.length c ∧ Ks w nowhere A a.ds.length zs := by
  have ho := h.most.row1_owns
  rw [List.length_map, h.zlen] at ho
  obtain ⟨A, c, rfl⟩ := own_form8 ho
  refine ⟨A, c, rfl, h.zlen, by have := h.d1.2; omega, fun h0 => ?_⟩
  obtain ⟨g, c', u, e, _, _⟩ := row_at ho (i := 0) h0
  injection e with e1 e2 e3
  subst e1
  refine ⟨g, 0, rfl, (ho.lt g rfl).2, fun e => e, fun i hi => ?_⟩
  obtain ⟨g', c'', u', e', h1, h2⟩ := row_at ho hi
  injection e' with e4 e5 e6
  injection e4 with e4
  injection e4 with e4
  subst e4
  rw [Nat.zero_add, h2]
  rw [List.getElem?_map] at h1
  obtain ⟨z, hz, rfl⟩ := Option.map_eq_some_iff.1 h1
  rw [List.getD_eq_getElem?_getD, hz]
  rfl
end
end Go.Proofs.Yteedjfgandgbkaa
