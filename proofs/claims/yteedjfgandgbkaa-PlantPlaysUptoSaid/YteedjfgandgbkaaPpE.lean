/-
  The reference's plant: a sector that is set; Flush: the walk. No conditions.
-/
import Derived.Test.YteedjfgandgbkaaPpD
namespace Go.Proofs.Yteedjfgandgbkaa
open Go.RowKit Go.Maps
set_option linter.unusedVariables false
set_option linter.unusedSimpArgs false
theorem size_wait : (Try.prog.info? 72).map (·.size) = some 3 := by kernel_rfl
theorem size_rowsR : (Try.prog.info? 60).map (·.size) = some 1 := by kernel_rfl
theorem size_bsR : (Try.prog.info? 36).map (·.size) = some 1 := by kernel_rfl
theorem elmW : Elm Try.prog 47 72 3 40 (.agg #[.int .i64 0, .int .i64 0, .slice none 0 0]) := ⟨Try.underlying47, by kernel_rfl, rfl, by decide, by decide⟩
theorem elmR : Elm Try.prog 60 36 1 24 (.slice none 0 0) := ⟨Try.underlying60, by kernel_rfl, rfl, by decide, by decide⟩
theorem elmH : Elm Try.prog 46 60 1 24 (.slice none 0 0) := ⟨Try.underlying46, by kernel_rfl, rfl, by decide, by decide⟩
section
variable {w w' : World} {q : Nat} {G Z H : Nat → Prop} {a : RP} {mv hv wv : Value} {zs : List Int} {rows : List (Value × List Value)} {ws : List (WtR × Value)}
/-- the row of a disk's sectors, and where it lies -/
theorem RAtX.hrow {n c hb : Nat} (h : RAtX w q Z a mv (.slice (some ⟨hb, 0, none⟩) n c) wv zs rows ws) {i : Nat} {e : Nat × (Int → Option Sec)} (he : a.ds[i]? = some e) :
    ∃ r g cg cur, rows[i]? = some r ∧ r.1 = .slice (some ⟨g, 0, none⟩) e.1 cg ∧ w.cell? ⟨hb, 0 + i * 1, none⟩ = some (.slice (some ⟨g, 0, none⟩) e.1 cg) ∧ Blk w g 36 cur ∧ e.1 ≤ cur.size ∧ RG q rows wv g := by
  obtain ⟨r, hr, hl, ho, _⟩ := h.rowAt he
  have hsz := h.sz e (List.mem_of_getElem? he)
  obtain ⟨g, cg, e1, _, _⟩ := ho.some_ (by rw [len_row1]; omega)
  rw [len_row1, hl] at e1
  have ho' := ho
  rw [e1] at ho'
  obtain ⟨cur, hcur, hcs, _, hn, hnc, _, _⟩ := orw_block ho'
  have hel := h.has.el0 (i := i) (r := [r.1]) (by unfold row1; rw [List.getElem?_map, List.getElem?_map, hr]; rfl)
  refine ⟨r, g, cg, cur, hr, e1, ?_, hcur, by omega, .inr (.inl ⟨r, List.mem_of_getElem? hr, by rw [e1]; rfl⟩)⟩
  have := hel 0 _ rfl
  rw [e1] at this
  exact this
theorem RAtX.hform (h : RAtX w q Z a mv hv wv zs rows ws) : ∃ hb c, hv = .slice (some ⟨hb, 0, none⟩) a.ds.length c := by
  obtain ⟨hb, c, e, _, _⟩ := h.has.some_ (by rw [len_row1, List.length_map, h.hlen]; have := h.d1; omega)
  rw [len_row1, List.length_map, h.hlen] at e
  exact ⟨hb, c, e⟩
theorem row1_set (vs : List Value) (k : Nat) (u : Value) : (row1 vs).set k [u] = row1 (vs.set k u) := by
  unfold row1
  rw [List.map_set]
/-- a sector is set -/
theorem RAtX.setSec (h : RAtX w q Z a mv hv wv zs rows ws) {i k g n cg : Nat} {e : Nat × (Int → Option Sec)} {r : Value × List Value} {u : Value} {s : Sec} {cur : Array Value} (he : a.ds[i]? = some e) (hr : rows[i]? = some r) (e1 : r.1 = .slice (some ⟨g, 0, none⟩) n cg) (hb : Blk w g 36 cur) (hb' : Blk w' g 36 (cur.setIfInBounds k u)) (ht : Turn (only g) w w') (hk : k < e.1) (hu : SecZ w Z u (some s)) :
    RAtX w' q Z { a with ds := a.ds.set i (e.1, upd e.2 (k : Int) s) } mv hv wv zs (rows.set i (r.1, r.2.set k u)) ws := by
  have hi := (List.getElem?_eq_some_iff.1 he).1
  have hir := (List.getElem?_eq_some_iff.1 hr).1
  obtain ⟨hl, ho, hs⟩ := h.row i r e hr he
  have og : r.1.ownBlock = some g := by rw [e1]; rfl
  have far : ∀ {b : Nat} {t : TypeId} {cs : Array Value}, Blk w b t cs → t ≠ 36 → ¬ only g b := fun hbl h1 => hbl.notOnly hb h1
  have ffar : ∀ b, Frz w b → ¬ only g b := by
    rintro b ⟨t, cs, h1, h2⟩
    refine far h1 ?_
    rcases h2 with rfl | rfl | rfl <;> decide
  have hO : Orw w' 0 36 1 r.1 (row1 (r.2.set k u)) := by
    rw [e1] at ho ⊢
    have hn : n = e.1 := by
      obtain ⟨A9, c9, e9, _⟩ := ho.form
      injection e9 with _ e9 _
      rw [len_row1] at e9
      omega
    rw [← row1_set]
    refine orw_set ho hb hb' (by simp) (by omega) rfl (fun x hx => ?_) (fun j => ?_) (by decide)
    · have hx : x ∈ [u] := hx
      rw [List.mem_singleton.1 hx]
      exact hu.one.1
    · have hcs : k < cur.size := by
        obtain ⟨cur0, hcur, hcs, _, hn2, hnc, _, _⟩ := orw_block ho
        obtain rfl := hcur.inj hb
        omega
      rw [Array.getElem?_setIfInBounds]
      by_cases hjk : k = j
      · subst hjk
        rw [if_pos rfl, if_pos hcs, if_pos (by omega)]
        rw [show k - k * 1 = 0 by omega]
        rfl
      · rw [if_neg hjk, if_neg (by omega)]
  have hother : ∀ j r', rows[j]? = some r' → j ≠ i → ∀ b, r'.1.ownBlock = some b → ¬ only g b := fun j r' hr' hj b hb2 eb => by
    have eb : b = g := eb
    subst eb
    exact h.ne i j r r' b hr hr' (fun e => hj e.symm) og hb2
  exact {
    blk := h.blk.turn ht (far h.blk (by decide))
    most := h.most.turn ht fun b e => by
      obtain ⟨cur, hc⟩ := h.most.own_blk e
      exact far hc (by decide)
    zlen := by show zs.length = (a.ds.set i _).length; rw [List.length_set]; exact h.zlen
    zat := fun j f hf => by
      have hf : (a.ds.set i (e.1, upd e.2 (k : Int) s))[j]? = some f := hf
      by_cases hj : i = j
      · subst hj
        rw [List.getElem?_set_self hi] at hf
        injection hf with hf
        subst hf
        exact h.zat i e he
      · rw [List.getElem?_set_ne hj] at hf
        exact h.zat j f hf
    has := by
      rw [List.map_set]
      have e2 : (rows.map (·.1)).set i r.1 = rows.map (·.1) := by
        apply List.ext_getElem?
        intro j
        by_cases hj : i = j
        · subst hj
          rw [List.getElem?_set_self (by rw [List.length_map]; exact hir), List.getElem?_map, hr]
          rfl
        · rw [List.getElem?_set_ne hj]
      show Orw w' 0 _ 1 hv (row1 ((rows.map (·.1)).set i r.1))
      rw [e2]
      exact h.has.turn ht fun b e => by
        obtain ⟨cur, hc⟩ := h.has.own_blk e
        exact far hc (by decide)
    hlen := by show (rows.set i _).length = (a.ds.set i _).length; rw [List.length_set, List.length_set]; exact h.hlen
    row := fun j r' f hr' hf => by
      have hf : (a.ds.set i (e.1, upd e.2 (k : Int) s))[j]? = some f := hf
      by_cases hj : i = j
      · subst hj
        rw [List.getElem?_set_self hi] at hf
        rw [List.getElem?_set_self hir] at hr'
        injection hf with hf
        injection hr' with hr'
        subst hf hr'
        refine ⟨by show (r.2.set k u).length = e.1; rw [List.length_set]; exact hl, hO, fun m x hx => ?_⟩
        have hx : (r.2.set k u)[m]? = some x := hx
        show SecZ w' Z x (upd e.2 (k : Int) s (m : Int))
        unfold upd
        by_cases hm : k = m
        · subst hm
          rw [List.getElem?_set_self (by omega)] at hx
          injection hx with hx
          subst hx
          rw [if_pos rfl]
          exact hu.turn ht fun b _ hf => ffar b hf
        · rw [List.getElem?_set_ne hm] at hx
          rw [if_neg (by omega)]
          exact (hs m x hx).turn ht fun b _ hf => ffar b hf
      · rw [List.getElem?_set_ne hj] at hf hr'
        obtain ⟨h1, h2, h3⟩ := h.row j r' f hr' hf
        exact ⟨h1, h2.turn ht (hother j r' hr' (fun e => hj e.symm)), fun m x hx => (h3 m x hx).turn ht fun b _ hf => ffar b hf⟩
    ne := fun j m r1 r2 b h1 h2 hjm hb1 => by
      have key : ∀ (j : Nat) (r1 : Value × List Value), (rows.set i (r.1, r.2.set k u))[j]? = some r1 → ∃ r0, rows[j]? = some r0 ∧ r0.1 = r1.1 := fun j r1 h1 => by
        by_cases hj : i = j
        · subst hj
          rw [List.getElem?_set_self hir] at h1
          injection h1 with h1
          exact ⟨r, hr, by rw [← h1]⟩
        · rw [List.getElem?_set_ne hj] at h1
          exact ⟨r1, h1, rfl⟩
      obtain ⟨x, hx, ex⟩ := key j r1 h1
      obtain ⟨y, hy, ey⟩ := key m r2 h2
      rw [← ex] at hb1
      rw [← ey]
      exact h.ne j m x y b hx hy hjm hb1
    wts := h.wts.turn ht fun b e => by
      obtain ⟨cur, hc⟩ := h.wts.own_blk e
      exact far hc (by decide)
    wr := h.wr
    wsec := fun x hx => (h.wsec x hx).turn ht fun b _ hf => ffar b hf
    wok := fun x hx => by
      obtain ⟨f, hf, h2⟩ := h.wok x hx
      show ∃ f, (a.ds.set i _)[x.1]? = some f ∧ _
      by_cases hj : i = x.1
      · rw [← hj, List.getElem?_set_self hi]
        rw [← hj, he] at hf
        injection hf with hf
        rw [← hf] at h2
        exact ⟨_, rfl, h2⟩
      · rw [List.getElem?_set_ne hj]
        exact ⟨f, hf, h2⟩
    zm := h.zm
    zh := h.zh
    zlt := fun b hb => Nat.lt_of_lt_of_le (h.zlt b hb) ht.size
    d1 := by show 1 ≤ (a.ds.set i _).length ∧ _; rw [List.length_set]; exact h.d1
    sz := fun f hf => by
      rcases List.mem_or_eq_of_mem_set (show f ∈ a.ds.set i _ from hf) with hf | rfl
      · exact h.sz f hf
      · exact h.sz e (List.mem_of_getElem? he) }
theorem rg_set {i k : Nat} {r : Value × List Value} {u : Value} (hr : rows[i]? = some r) : ∀ b, RG q (rows.set i (r.1, r.2.set k u)) wv b ↔ RG q rows wv b := fun b => by
  have hir := (List.getElem?_eq_some_iff.1 hr).1
  unfold RG
  constructor
  · rintro (h | ⟨x, hx, hb⟩ | h)
    · exact .inl h
    · rcases List.mem_or_eq_of_mem_set hx with hx | rfl
      · exact .inr (.inl ⟨x, hx, hb⟩)
      · exact .inr (.inl ⟨r, List.mem_of_getElem? hr, hb⟩)
    · exact .inr (.inr h)
  · rintro (h | ⟨x, hx, hb⟩ | h)
    · exact .inl h
    · obtain ⟨j, hj⟩ := List.mem_iff_getElem?.1 hx
      by_cases e : i = j
      · subst e
        rw [hr] at hj
        injection hj with hj
        subst hj
        exact .inr (.inl ⟨_, List.mem_of_getElem? (List.getElem?_set_self hir), hb⟩)
      · exact .inr (.inl ⟨x, List.mem_of_getElem? (i := j) (by rw [List.getElem?_set_ne e]; exact hj), hb⟩)
    · exact .inr (.inr h)
/-- the list of those that wait is another one -/
theorem RAtX.setW (h : RAtX w q Z a mv hv wv zs rows ws) {wv' : Value} {ws' : List (WtR × Value)} {off' burns' : Bool} {left' done' : Int} {R' : List WtR} (hb : Blk w' q 49 (refCells mv hv wv' off' burns' left' done')) (ht : Turn (only q) w w') (hw : Orw w 0 72 3 wv' (ws'.map wrow)) (hwr : ws'.map (·.1) = R') (hs : ∀ x ∈ ws', x ∈ ws) :
    RAtX w' q Z { a with off := off', burns := burns', left := left', done := done', R := R' } mv hv wv' zs rows ws' := by
  exact { 
    blk := hb
    most := h.most.turn ht fun b e => by
      obtain ⟨cur, hc⟩ := h.most.own_blk e
      exact hc.notOnly h.blk (by decide)
    zlen := h.zlen
    zat := h.zat
    has := h.has.turn ht fun b e => by
      obtain ⟨cur, hc⟩ := h.has.own_blk e
      exact hc.notOnly h.blk (by decide)
    hlen := h.hlen
    row := fun i r e hr he => by
      obtain ⟨h1, h2, h3⟩ := h.row i r e hr he
      exact ⟨h1, h2.turn ht fun b e => by
        obtain ⟨cur, hc⟩ := h2.own_blk e
        exact hc.notOnly h.blk (by decide), fun k u hu => (h3 k u hu).turn ht fun b _ hf => hf.notOnly h.blk⟩
    ne := h.ne
    wts := hw.turn ht fun b e => by
      obtain ⟨cur, hc⟩ := hw.own_blk e
      exact hc.notOnly h.blk (by decide)
    wr := hwr
    wsec := fun x hx => (h.wsec x (hs x hx)).turn ht fun b _ hf => hf.notOnly h.blk
    wok := fun x hx => by
      have hx : x ∈ R' := hx
      rw [← hwr] at hx
      obtain ⟨y, hy, rfl⟩ := List.mem_map.1 hx
      exact h.wok y.1 (by rw [← h.wr]; exact List.mem_map_of_mem (hs y hy))
    zm := h.zm
    zh := h.zh
    zlt := fun b hb => Nat.lt_of_lt_of_le (h.zlt b hb) ht.size
    d1 := h.d1
    sz := h.sz }
end
end Go.Proofs.Yteedjfgandgbkaa
