/-
  Texts in one file: SsY Rwo FdRows FdPw MsEnv. Conditions: the tables and the errors read as the program's text lays them.
-/
import Derived.Test.YtfnillibngijaaaGreatDoorJB33
import Derived.Test.YtfnillibngijaaaGreatDoorJB1
import Derived.Test.YtfnillibngijaaaGreatDoorRows
import Derived.Test.YtfnillibngijaaaGreatDoorJB13
import Derived.LaidSub
import Derived.MakeChecks
import Derived.Lib.SmallJoins
import Derived.Lib.LaidTab
import Derived.OpenShut
import Derived.Test.YtfnillibngijaaaGreatDoorJB20
import Derived.Test.YtfnillibngijaaaGreatDoorJB22
import Derived.Stop.LaidTwo
import Derived.Deep.Slices
namespace Go.Proofs.YtfnillibngijaaaGreatDoor
open Go.RowKit
set_option linter.unusedVariables false
theorem bR_set (k : Nat) (on : Bool) {n i : Nat} {l : List Bool} (hl : l.length = 12) (hk : k < 2) (hi : i < n) (hn : n ≤ 6) : bR k n (l.set (2 * i + k) on) = (bR k n l).set i [.bool on] := by
  refine List.ext_getElem? fun j => ?_
  rw [List.getElem?_set, bR_len]
  by_cases hj : j < n
  · rw [bR_at _ _ hj]
    by_cases h : i = j
    · subst h
      rw [if_pos rfl, if_pos hi, List.getD_eq_getElem?_getD, List.getElem?_set, if_pos rfl, if_pos (by omega)]
      rfl
    · rw [if_neg h, bR_at _ _ hj, List.getD_eq_getElem?_getD, List.getElem?_set, if_neg (by omega), ← List.getD_eq_getElem?_getD]
  · rw [List.getElem?_eq_none (by rw [bR_len]; omega), if_neg (by omega), List.getElem?_eq_none (by rw [bR_len]; omega)]
theorem bR_other {k k' : Nat} (on : Bool) {n i : Nat} {l : List Bool} (hk : k < 2) (hk' : k' < 2) (h : k ≠ k') : bR k' n (l.set (2 * i + k) on) = bR k' n l := by
  unfold bR
  refine List.map_congr_left fun j _ => ?_
  rw [List.getD_eq_getElem?_getD, List.getElem?_set, if_neg (by omega), ← List.getD_eq_getElem?_getD]
theorem RBd.sign0 {w w' : World} {y s b n i : Nat} {l : List Bool} {on : Bool} {cur cur' : Array Value} (g : RBd w y s b n l) (hl : l.length = 12) (hi : i < n) (hb : Blk w s 4 cur) (hb' : Blk w' s 4 cur') (hs : cur'.size = cur.size)
    (hc : ∀ j, cur'[j]? = if i * 1 ≤ j ∧ j < i * 1 + 1 then [Value.bool on][j - i * 1]? else cur[j]?) (ht : Turn (only s) w w') : RBd w' y s b n (l.set (2 * i + 0) on) := by
  obtain ⟨cs, cb, h1, h2, h3⟩ := g.row
  have hys : y ≠ s := fun e => (h2.ne h1 (by decide) s rfl) e.symm
  refine ⟨⟨cs, cb, h1.turn ht hys, ?_, ?_⟩, g.ne, g.lo, g.hi⟩
  · rw [bR_set 0 on hl (by decide) hi g.hi]
    exact orw_set h2 hb hb' hs hi rfl (one_bl on) hc (by decide)
  · rw [bR_other on (by decide) (by decide) (by decide)]
    exact h3.turn ht fun q e => own_blk e ▸ fun h => g.ne h.symm
theorem RBd.sign1 {w w' : World} {y s b n i : Nat} {l : List Bool} {on : Bool} {cur cur' : Array Value} (g : RBd w y s b n l) (hl : l.length = 12) (hi : i < n) (hb : Blk w b 4 cur) (hb' : Blk w' b 4 cur') (hs : cur'.size = cur.size)
    (hc : ∀ j, cur'[j]? = if i * 1 ≤ j ∧ j < i * 1 + 1 then [Value.bool on][j - i * 1]? else cur[j]?) (ht : Turn (only b) w w') : RBd w' y s b n (l.set (2 * i + 1) on) := by
  obtain ⟨cs, cb, h1, h2, h3⟩ := g.row
  have hyb : y ≠ b := fun e => (h3.ne h1 (by decide) b rfl) e.symm
  refine ⟨⟨cs, cb, h1.turn ht hyb, ?_, ?_⟩, g.ne, g.lo, g.hi⟩
  · rw [bR_other on (by decide) (by decide) (by decide)]
    exact h2.turn ht fun q e => own_blk e ▸ fun h => g.ne h
  · rw [bR_set 1 on hl (by decide) hi g.hi]
    exact orw_set h3 hb hb' hs hi rfl (one_bl on) hc (by decide)
theorem RBd.lts {w : World} {y s b n : Nat} {l : List Bool} (g : RBd w y s b n l) : y < w.heap.size ∧ s < w.heap.size ∧ b < w.heap.size ∧ y ≠ s ∧ y ≠ b ∧ s ≠ b := by
  obtain ⟨cs, cb, h1, h2, h3⟩ := g.row
  exact ⟨h1.lt, (h2.lt (b := s) rfl).2, (h3.lt (b := b) rfl).2, fun e => (h2.ne h1 (by decide) s rfl) e.symm, fun e => (h3.ne h1 (by decide) b rfl) e.symm, g.ne⟩
/-- four boards, all apart and newer than n0: the program's x and z, the reference's y and u -/
structure F4 (w : World) (n0 n px pz y s b yz sz bz : Nat) (lx ly lz : List Bool) : Prop where
  x : Bd w px n lx
  z : Bd w pz n lz
  ry : RBd w y s b n ly
  rz : RBd w yz sz bz n lz
  nd : [px, pz, y, s, b, yz, sz, bz].Nodup
  nw : ∀ g ∈ [px, pz, y, s, b, yz, sz, bz], n0 ≤ g
section
variable {w w' : World} {n0 n px pz y s b yz sz bz : Nat} {lx ly lz l' : List Bool}
theorem F4.still (h : F4 w n0 n px pz y s b yz sz bz lx ly lz) (ht : Turn nowhere w w') : F4 w' n0 n px pz y s b yz sz bz lx ly lz :=
  ⟨h.x.still ht, h.z.still ht, h.ry.still ht, h.rz.still ht, h.nd, h.nw⟩
theorem F4.ap (h : F4 w n0 n px pz y s b yz sz bz lx ly lz) : (px ≠ pz ∧ px ≠ y ∧ px ≠ s ∧ px ≠ b ∧ px ≠ yz ∧ px ≠ sz ∧ px ≠ bz) ∧ (pz ≠ y ∧ pz ≠ s ∧ pz ≠ b ∧ pz ≠ yz ∧ pz ≠ sz ∧ pz ≠ bz) ∧ (y ≠ s ∧ y ≠ b ∧ y ≠ yz ∧ y ≠ sz ∧ y ≠ bz) ∧ (s ≠ b ∧ s ≠ yz ∧ s ≠ sz ∧ s ≠ bz) ∧ (b ≠ yz ∧ b ≠ sz ∧ b ≠ bz) ∧ (yz ≠ sz ∧ yz ≠ bz) ∧ sz ≠ bz := by
  have := h.nd
  simp only [List.nodup_cons, List.mem_cons, List.not_mem_nil, or_false, not_or, not_false_eq_true, List.nodup_nil, and_true] at this
  exact this
theorem F4.setx (h : F4 w n0 n px pz y s b yz sz bz lx ly lz) (hx : Bd w' px n l') (ht : Turn (only px) w w') : F4 w' n0 n px pz y s b yz sz bz l' ly lz := by
  obtain ⟨⟨a1, a2, a3, a4, a5, a6, a7⟩, -⟩ := h.ap
  exact ⟨hx, h.z.turn ht (fun e => a1 e.symm), h.ry.turn ht (fun e => a2 e.symm) (fun e => a3 e.symm) (fun e => a4 e.symm), h.rz.turn ht (fun e => a5 e.symm) (fun e => a6 e.symm) (fun e => a7 e.symm), h.nd, h.nw⟩
theorem F4.sets (h : F4 w n0 n px pz y s b yz sz bz lx ly lz) (hy : RBd w' y s b n l') (ht : Turn (only s) w w') : F4 w' n0 n px pz y s b yz sz bz lx l' lz := by
  obtain ⟨⟨a1, a2, a3, a4, a5, a6, a7⟩, ⟨b1, b2, b3, b4, b5, b6⟩, ⟨c1, c2, c3, c4, c5⟩, ⟨d1, d2, d3, d4⟩, -⟩ := h.ap
  exact ⟨h.x.turn ht a3, h.z.turn ht b2, hy, h.rz.turn ht (fun e => d2 e.symm) (fun e => d3 e.symm) (fun e => d4 e.symm), h.nd, h.nw⟩
theorem F4.setb (h : F4 w n0 n px pz y s b yz sz bz lx ly lz) (hy : RBd w' y s b n l') (ht : Turn (only b) w w') : F4 w' n0 n px pz y s b yz sz bz lx l' lz := by
  obtain ⟨⟨a1, a2, a3, a4, a5, a6, a7⟩, ⟨b1, b2, b3, b4, b5, b6⟩, ⟨c1, c2, c3, c4, c5⟩, ⟨d1, d2, d3, d4⟩, ⟨e1, e2, e3⟩, -⟩ := h.ap
  exact ⟨h.x.turn ht a4, h.z.turn ht b3, hy, h.rz.turn ht (fun e => e1 e.symm) (fun e => e2 e.symm) (fun e => e3 e.symm), h.nd, h.nw⟩
theorem F4.sety {s' : Nat} (h : F4 w n0 n px pz y s b yz sz bz lx ly lz) (hn : n0 ≤ w.heap.size) (hy : RBd w' y s' b n l') (hs : w.heap.size ≤ s') (ht : Turn (only y) w w') : F4 w' n0 n px pz y s' b yz sz bz lx l' lz := by
  obtain ⟨⟨a1, a2, a3, a4, a5, a6, a7⟩, ⟨b1, b2, b3, b4, b5, b6⟩, ⟨c1, c2, c3, c4, c5⟩, ⟨d1, d2, d3, d4⟩, ⟨e1, e2, e3⟩, ⟨f1, f2⟩, g1⟩ := h.ap
  have l1 := h.x.blk.lt
  have l2 := h.z.blk.lt
  obtain ⟨l3, l4, l5, -⟩ := h.ry.lts
  obtain ⟨l6, l7, l8, -⟩ := h.rz.lts
  refine ⟨h.x.turn ht a2, h.z.turn ht b1, hy, h.rz.turn ht (fun e => c3 e.symm) (fun e => c4 e.symm) (fun e => c5 e.symm), ?_, ?_⟩
  · simp only [List.nodup_cons, List.mem_cons, List.not_mem_nil, or_false, not_or, not_false_eq_true, List.nodup_nil, and_true]
    exact ⟨⟨a1, a2, by omega, a4, a5, a6, a7⟩, ⟨b1, by omega, b3, b4, b5, b6⟩, ⟨by omega, c2, c3, c4, c5⟩, ⟨by omega, by omega, by omega, by omega⟩, ⟨e1, e2, e3⟩, ⟨f1, f2⟩, g1⟩
  · intro g hg
    have hw := h.nw
    simp only [List.mem_cons, List.not_mem_nil, or_false, forall_eq_or_imp, forall_eq] at hw hg
    obtain ⟨q1, q2, q3, q4, q5, q6, q7, q8⟩ := hw
    rcases hg with rfl | rfl | rfl | rfl | rfl | rfl | rfl | rfl <;> omega
theorem F4.clone {w1 w2 : World} {q y' s' b' : Nat} (h : F4 w n0 n px pz y s b yz sz bz lx lx lz) (hn : n0 ≤ w.heap.size) (hq : Bd w1 q n lx) (hq1 : w.heap.size ≤ q) (ht1 : Turn nowhere w w1) (hr : RBd w2 y' s' b' n lx) (h1 : w1.heap.size ≤ y') (h2 : w1.heap.size ≤ s') (h3 : w1.heap.size ≤ b') (ht2 : Turn nowhere w1 w2) :
    F4 w2 n0 n q px y' s' b' y s b lx lx lx := by
  have ht := ht1.trans ht2 fun _ _ e => e
  have l1 := h.x.blk.lt
  obtain ⟨l3, l4, l5, m1, m2, m3⟩ := h.ry.lts
  obtain ⟨-, -, -, m4, m5, m6⟩ := hr.lts
  obtain ⟨⟨a1, a2, a3, a4, -⟩, -⟩ := h.ap
  have k1 := hq.blk.lt
  have k2 := ht1.size
  refine ⟨hq.still ht2, h.x.still ht, hr, h.ry.still ht, ?_, ?_⟩
  · simp only [List.nodup_cons, List.mem_cons, List.not_mem_nil, or_false, not_or, not_false_eq_true, List.nodup_nil, and_true]
    exact ⟨⟨by omega, by omega, by omega, by omega, by omega, by omega, by omega⟩, ⟨by omega, by omega, by omega, a2, a3, a4⟩, ⟨m4, m5, by omega, by omega, by omega⟩, ⟨m6, by omega, by omega, by omega⟩, ⟨by omega, by omega, by omega⟩, ⟨m1, m2⟩, m3⟩
  · intro g hg
    have hw := h.nw
    simp only [List.mem_cons, List.not_mem_nil, or_false, forall_eq_or_imp, forall_eq] at hw hg
    obtain ⟨q1, q2, q3, q4, q5, q6, q7, q8⟩ := hw
    rcases hg with rfl | rfl | rfl | rfl | rfl | rfl | rfl | rfl <;> omega
end
end Go.Proofs.YtfnillibngijaaaGreatDoor
namespace Go.Proofs.YtfnillibngijaaaGreatDoor
open Go.RowKit Go.ChangeShapes Go.WideShapes Go.Deep
set_option linter.unusedVariables false
section
variable {H : Type} {enc : TypeId × Value → H} {P : Program} {w : World} {base : Nat} {spare : Nat → Bool} {held : Bool}
theorem weights_all {e : TypeId} {d : DataW H} {q : Nat} : ∀ {l : List (DataW H)}, d ∈ l → q ∈ d.weights P e → q ∈ DataW.weightsAll P e l
  | x :: l, h, hq => by
    unfold DataW.weightsAll
    rcases List.mem_cons.1 h with rfl | h
    · exact List.mem_append_left _ hq
    · exact List.mem_append_right _ (weights_all h hq)
/-- a struct of one-cell fields, whatever their number: each cell with its reading -/
theorem open_fldsW {e : TypeId} {fs : Array Go.Field} {n : Nat} {cs : List Value} {y : DataW H × List MemPlace} (he : P.underlying e = some (.struct fs)) (hone : oneCellFields P fs = true) (hC : P.cellsOf e = fs.size) (h : DataW.trod enc P w base spare held n e cs = some y) :
    cs.length = fs.size ∧ ∃ m : Nat, ∀ (j : Nat) (f : Go.Field), fs[j]? = some f → ∃ (c : Value) (z : DataW H × List MemPlace), cs[j]? = some c ∧ DataW.trod enc P w base spare held m f.type [c] = some z ∧ ∀ q ∈ z.1.weights P f.type, q ∈ y.1.weights P e := by
  obtain ⟨ys, m, _, hy0, hl, hlen, hf⟩ := DataW.trod_struct he h
  rw [hC] at hl
  refine ⟨hl, m, fun j f hj => ?_⟩
  obtain ⟨ho, hk⟩ := hone_of hone j f hj
  have hjl : j < fs.size := (Array.getElem?_eq_some_iff.1 hj).1
  have h1 := hf j f hj
  rw [ho, hk, List.drop_eq_getElem_cons (by omega)] at h1
  have hy : ys[j]? = some (ys[j]'(by omega)) := List.getElem?_eq_getElem (by omega)
  refine ⟨cs[j]'(by omega), ys[j]'(by omega), List.getElem?_eq_getElem (by omega), ?_, fun q hq => ?_⟩
  · have h2 : DataW.trod enc P w base spare held m f.type [cs[j]'(by omega)] = ys[j]? := h1
    rw [h2, hy]
  · rw [hy0]
    unfold DataW.weights
    simp only [he]
    exact DataW.weights_mem_each (j := j) (t := f.type) (by simp [hj]) (by rw [List.getElem?_map, hy]; rfl) q hq
/-- a slice whose elements read as 'en x' -/
theorem open_rwsW {α : Type} {t e : TypeId} {fuel k by_ : Nat} {v : Value} {x : DataW H × List MemPlace} (ht : P.underlying t = some (.slice e)) (hC : P.cellsOf e = k) (hk : 0 < k) (hby : P.bytesOf e = by_) (hb1 : 1 ≤ by_) (en : α → List Value) (Q : α → Prop) (d0 : α) (hen : ∀ x, (en x).length = k)
    (dec : ∀ n cs y, DataW.trod enc P w base spare held n e cs = some y → (∀ q ∈ y.1.weights P e, q ≤ reachBytes) → ∃ x : α, cs = en x ∧ Q x) (h : DataW.trod enc P w base spare held fuel t [v] = some x) (hw : ∀ q ∈ x.1.weights P t, q ≤ reachBytes) :
    ∃ (A : Option Addr) (n c : Nat) (xs : List α), v = .slice A n c ∧ Rws w k A n (xs.map en) ∧ n ≤ c ∧ (A = none → c = 0) ∧ n * by_ ≤ reachBytes ∧ (∀ x ∈ xs, Q x) ∧ (x.1 = .nil ∧ n = 0 ∨ ∃ D E, x.1 = .slice D E ∧ D.length = n) := by
  rcases open_slice ht h with ⟨h0, hx0⟩ | ⟨a, len, cap, m, n, D, Pl, hcs, hb, hl, hm, hmm, rfl, hi⟩
  · injection h0 with h0
    exact ⟨none, 0, 0, [], h0, rws_nil w k none, Nat.le_refl _, fun _ => rfl, by omega, fun x hx => (by cases hx), .inl ⟨by rw [hx0], rfl⟩⟩
  · injection hcs with hcs
    have hlm : len ≤ m := by rw [hmm]; split <;> omega
    have hb2 : len * by_ ≤ reachBytes := by
      have := hw ((((List.range len).map D).length + ((List.range (m - len)).map fun j => D (len + j)).length) * P.bytesOf e) (by
        unfold DataW.weights
        simp only [ht]
        exact List.mem_cons_self ..)
      rw [hby] at this
      simp only [List.length_map, List.length_range] at this
      have h3 : len * by_ ≤ (len + (m - len)) * by_ := Nat.mul_le_mul_right _ (by omega)
      omega
    have hwt : ∀ i, i < len → ∀ q ∈ (D i).weights P e, q ≤ reachBytes := by
      intro i hi' q hq
      refine hw q ?_
      unfold DataW.weights
      simp only [ht]
      exact List.mem_cons_of_mem _ (List.mem_append_left _ (weights_all (List.mem_map.2 ⟨i, List.mem_range.2 hi', rfl⟩) hq))
    have hn : len ≤ 140737488355328 := by
      have h1 := reachBytes_lt
      have h2 : len * 1 ≤ len * by_ := Nat.mul_le_mul_left _ hb1
      omega
    rw [hC] at hi
    have one : ∀ i, ∃ x : α, i < len → w.cells? base (a.add (i * k)) k = some (en x) ∧ Q x := by
      intro i
      by_cases him : i < len
      · obtain ⟨cs, hc, ht'⟩ := hi i (by omega)
        obtain ⟨x, rfl, hq⟩ := dec _ _ _ ht' (hwt i him)
        exact ⟨x, fun _ => ⟨hc, hq⟩⟩
      · exact ⟨d0, fun h => absurd h him⟩
    obtain ⟨F, hF⟩ := Classical.axiomOfChoice one
    refine ⟨some a, len, cap, (List.range len).map F, hcs, ⟨by simp, fun r hr => ?_, hn, fun hp => ?_⟩, hl, (fun h => by cases h), hb2, fun x hx => ?_, .inr ⟨_, _, rfl, by simp⟩⟩
    · obtain ⟨x, _, rfl⟩ := List.mem_map.1 hr
      exact hen x
    · have hall : ∀ i, i < len → ∀ j v, (en (F i))[j]? = some v → w.cell? (a.add (i * k + j)) = some v := by
        intro i him j v hv
        obtain ⟨_, hcl, hat⟩ := World.cells?_some (hF i him).1
        have hj : j < k := by
          have := (List.getElem?_eq_some_iff.1 hv).1
          rwa [hen] at this
        have := hat j hj
        rw [hv] at this
        rw [← this, Go.Deep.add_add]
      obtain ⟨b, off, spot⟩ := a
      have hv0 : (en (F 0))[0]? = some ((en (F 0))[0]'(by rw [hen]; exact hk)) := List.getElem?_eq_getElem _
      have hc0 := hall 0 (by omega) 0 _ hv0
      have hspot : spot = none := by simpa [Addr.add] using World.cell?_spot hc0
      subst hspot
      refine ⟨b, off, rfl, fun i r hr j v hv => ?_⟩
      have hil : i < len := by
        have := (List.getElem?_eq_some_iff.1 hr).1
        simpa using this
      have hre : r = en (F i) := by
        rw [List.getElem?_map, List.getElem?_map, List.getElem?_range hil] at hr
        exact (Option.some.inj hr).symm
      subst hre
      have := hall i (by omega) j v hv
      rw [add_nat] at this
      rw [Nat.add_assoc]
      exact this
    · obtain ⟨i, hi', rfl⟩ := List.mem_map.1 hx
      exact (hF i (List.mem_range.1 hi')).2
end
end Go.Proofs.YtfnillibngijaaaGreatDoor
namespace Go.Proofs.YtfnillibngijaaaGreatDoor
open Go.RowKit Go.ChangeShapes Go.WideShapes Go.ChangeAt
open Fdd
set_option linter.unusedVariables false
def rowD (r : Rw) : DataW Unit := .agg [.lit (.string r.d), .lit (.string r.h), .lit (.string r.s), .lit (.string r.m)]
theorem rows_datum : (Rows.laid_groat_field_rows : DataW Unit) = .agg [rowD (rws 0), rowD (rws 1), rowD (rws 2), rowD (rws 3)] := rfl
theorem gRows : Tryz.prog.globalNamed "groat/field.rows" = some 13 := by kernel_rfl
theorem gRowsType : (Tryz.prog.globals[13]?).map (·.type) = some 196 := by kernel_rfl
theorem cells_rows : Tryz.prog.cellsOf 196 = 16 := by kernel_rfl
theorem cells_row : Tryz.prog.cellsOf 195 = 4 := by kernel_rfl
theorem list4 {l : List Value} (h : l.length = 4) : ∃ a b c d, l = [a, b, c, d] := by
  match l, h with
  | [a, b, c, d], _ => exact ⟨a, b, c, d, rfl⟩
section
variable {enc : TypeId × Value → Unit} {w : World} {base : Nat} {spare : Nat → Bool} {held : Bool}
theorem str_of {n : Nat} {v : Value} {y : DataW Unit × List MemPlace} {l : List UInt8} (h : DataW.trod enc Tryz.prog w base spare held n 9 [v] = some y) (hy : y.1 = .lit (.string l)) : v = strV l := by
  obtain ⟨s, hc, rfl, _⟩ := DataW.trod_string Tryz.underlying9 h
  injection hc with hc
  injection hy with hy
  injection hy with hy
  rw [hc, ← hy]
  rfl
theorem cells_str : Tryz.prog.cellsOf 9 = 1 := by kernel_rfl
theorem row_of {n : Nat} {cs : List Value} {y : DataW Unit × List MemPlace} {r : Rw} (h : DataW.trod enc Tryz.prog w base spare held n 195 cs = some y) (hy : y.1 = rowD r) : cs = rowV r := by
  obtain ⟨ys, m, _, hx, hl, hyl, hf⟩ := DataW.trod_struct Tryz.underlying195 h
  rw [cells_row] at hl
  obtain ⟨c0, c1, c2, c3, rfl⟩ := list4 hl
  have f0 : DataW.trod enc Tryz.prog w base spare held m 9 (([c0, c1, c2, c3].drop 0).take (Tryz.prog.cellsOf 9)) = ys[0]? := hf 0 _ rfl
  have f1 : DataW.trod enc Tryz.prog w base spare held m 9 (([c0, c1, c2, c3].drop 1).take (Tryz.prog.cellsOf 9)) = ys[1]? := hf 1 _ rfl
  have f2 : DataW.trod enc Tryz.prog w base spare held m 9 (([c0, c1, c2, c3].drop 2).take (Tryz.prog.cellsOf 9)) = ys[2]? := hf 2 _ rfl
  have f3 : DataW.trod enc Tryz.prog w base spare held m 9 (([c0, c1, c2, c3].drop 3).take (Tryz.prog.cellsOf 9)) = ys[3]? := hf 3 _ rfl
  rw [cells_str] at f0 f1 f2 f3
  have hyl4 : ys.length = 4 := hyl
  clear hf hl hyl
  match ys, hyl4 with
  | [y0, y1, y2, y3], _ =>
    have e0 : DataW.trod enc Tryz.prog w base spare held m 9 [c0] = some y0 := f0
    have e1 : DataW.trod enc Tryz.prog w base spare held m 9 [c1] = some y1 := f1
    have e2 : DataW.trod enc Tryz.prog w base spare held m 9 [c2] = some y2 := f2
    have e3 : DataW.trod enc Tryz.prog w base spare held m 9 [c3] = some y3 := f3
    rw [hx] at hy
    unfold rowD at hy
    simp only [List.map_cons, List.map_nil, DataW.agg.injEq, List.cons.injEq, and_true] at hy
    rw [str_of e0 hy.1, str_of e1 hy.2.1, str_of e2 hy.2.2.1, str_of e3 hy.2.2.2]
    rfl
end
theorem rows_of_laid {W : World} {l : List (String × DataW Unit)} (hl : l.filter (fun x => x.1 == "groat/field.rows") = [("groat/field.rows", Rows.laid_groat_field_rows)]) (h : laidMetH Tryz.prog l W) : RowsT W := by
  have h1 := h.filter (fun x => x.1 == "groat/field.rows")
  rw [hl, Go.MakeChecks.laidMetH_plain _ _ _ rfl] at h1
  obtain ⟨ps, ⟨g, t, cs, fuel, p, q, hg, ht, hv, hd, _, _⟩, _⟩ := h1
  obtain rfl := Option.some.inj (gRows.symm.trans hg)
  obtain rfl := Option.some.inj (gRowsType.symm.trans ht)
  rw [rows_datum] at hd
  obtain ⟨xs, m, _, hx, hlen, hxl, hf⟩ := DataW.trod_array Tryz.underlying196 hd
  have hm : xs.map (·.1) = [rowD (rws 0), rowD (rws 1), rowD (rws 2), rowD (rws 3)] := by
    have := congrArg Prod.fst hx
    injection this with this
    exact this.symm
  rw [cells_rows] at hlen
  intro k hk j v hj
  have hfk := hf k hk
  rw [cells_row] at hfk
  have hxk : xs[k]? = some xs[k] := List.getElem?_eq_getElem (by omega)
  rw [hxk] at hfk
  have hdk : xs[k].1 = rowD (rws k) := by
    have h2 := congrArg (fun l => l[k]?) hm
    simp only [List.getElem?_map, hxk, Option.map_some] at h2
    have hkk : k = 0 ∨ k = 1 ∨ k = 2 ∨ k = 3 := by omega
    rcases hkk with rfl | rfl | rfl | rfl <;> simpa using h2
  have hrow := row_of hfk hdk
  have hcell : W.cell? ⟨13, k * 4 + j, none⟩ = cs[k * 4 + j]? := World.var?_cell hg hv (k * 4 + j)
  rw [hcell]
  rw [← hrow] at hj
  have hj4 : j < 4 := by
    have := (List.getElem?_eq_some_iff.1 hj).1
    simp at this
    omega
  rw [List.getElem?_take, if_pos hj4, List.getElem?_drop] at hj
  rw [← Array.getElem?_toList]
  exact hj
end Go.Proofs.YtfnillibngijaaaGreatDoor
namespace Go.Proofs.YtfnillibngijaaaGreatDoor
open Go.RowKit Go.ChangeShapes Go.WideShapes Go.ChangeAt
set_option linter.unusedVariables false
theorem pow_datum : (Rows.laid_internal_strconv_uint64pow10 : DataW Unit) = Lib.tabData .u64 Lib.pow10Tab := by kernel_rfl
theorem pow_of_laid {W : World} {l : List (String × DataW Unit)} (hl : l.filter (fun x => x.1 == "internal/strconv.uint64pow10") = [("internal/strconv.uint64pow10", Rows.laid_internal_strconv_uint64pow10)]) (h : laidMetH Tryz.prog l W) : PowT W := by
  have h1 := h.filter (fun x => x.1 == "internal/strconv.uint64pow10")
  rw [hl, Go.MakeChecks.laidMetH_plain _ _ _ rfl, pow_datum] at h1
  exact Lib.tabIs_of_head (t := 226) (e := 117) (n := 20) gPow (by kernel_rfl) Tryz.underlying226 Tryz.underlying117 (by kernel_rfl) (by kernel_rfl) h1
end Go.Proofs.YtfnillibngijaaaGreatDoor
namespace Go.Proofs.YtfnillibngijaaaGreatDoor
open Go.RowKit Go.ChangeShapes Go.WideShapes Go.ChangeAt Go.Deep
open Fdd
set_option linter.unusedVariables false
theorem star : "*" ++ "errors.errorString" = "*errors.errorString" := by decide
theorem row_es (u : TypeId) (h : Tryz.prog.typeName? 3 u = some "*errors.errorString") : u = 237 :=
  typeName_ptr_named (nm := "errors.errorString") (by rw [star]; kernel_rfl) (by kernel_rfl) (by decide) u (by rw [star]; exact h)
def sentD (text : List UInt8) : DataW Unit := .iface "*errors.errorString" (.ptr (.agg [.lit (.string text)]))
theorem cells_es : Tryz.prog.cellsOf 255 = 1 := by kernel_rfl
theorem cells_s1 : Tryz.prog.cellsOf 9 = 1 := by kernel_rfl
set_option maxRecDepth 20000 in
/-- one of them -/
theorem sent1 {n : String} {text : List UInt8} {g : Nat} {W : World} {l : List (String × DataW Unit)} (hl : l.filter (fun x => x.1 == n) = [(n, sentD text)]) (h : laidMetH Tryz.prog l W)
    (hg : Tryz.prog.globalNamed n = some g) (ht : (Tryz.prog.globals[g]?).map (·.type) = some 78) : ∃ a, SenAt W g a := by
  have h1 := h.filter (fun x => x.1 == n)
  rw [hl, Go.MakeChecks.laidMetH_plain _ _ _ rfl] at h1
  obtain ⟨ps, ⟨g0, t0, cs0, f0, p0, q0, hg0, ht0, hv0, hd0, _, e0⟩, _, hrows⟩ := h1
  obtain rfl := Option.some.inj (hg.symm.trans hg0)
  obtain rfl := Option.some.inj (ht.symm.trans ht0)
  subst e0
  obtain ⟨l0⟩ := cs0
  have ok0 : ∀ u v, l0 = [.iface u v] → Value.okWide Tryz.prog W .any 0 u v := fun u v e => by
    subst e
    exact (hrows g 0 (by simp [MemPlace.row])).2 u v (by simpa using World.var?_cell hg0 hv0 0)
  obtain ⟨a0, s0, rfl, hc0, hs0, hz0, rfl⟩ := errorString_of_trod Tryz.underlying78 row_es Tryz.underlying237 Tryz.underlying255 rfl rfl Tryz.underlying9 cells_es cells_s1 hd0 ok0
  obtain ⟨c0, t0, hb0⟩ := (hrows a0.block a0.off (by simp [MemPlace.row])).1
  exact ⟨a0, by simpa using World.var?_cell hg0 hv0 0, c0, t0, hb0⟩
set_option maxRecDepth 20000 in
/-- two of them -/
theorem sent2 {n0 n1 : String} {x0 x1 : List UInt8} {g0 g1 : Nat} {a b : Addr} {W : World} {l : List (String × DataW Unit)} (h : laidMetH Tryz.prog l W) (hl : l.filter (fun x => x.1 == n0 || x.1 == n1) = [(n0, sentD x0), (n1, sentD x1)])
    (hg0 : Tryz.prog.globalNamed n0 = some g0) (ht0 : (Tryz.prog.globals[g0]?).map (·.type) = some 78) (hg1 : Tryz.prog.globalNamed n1 = some g1) (ht1 : (Tryz.prog.globals[g1]?).map (·.type) = some 78)
    (ha : SenAt W g0 a) (hb : SenAt W g1 b) : a ≠ b := by
  have h1 := h.filter (fun x => x.1 == n0 || x.1 == n1)
  rw [hl, Go.MakeChecks.laidMetH_plain _ _ _ rfl] at h1
  obtain ⟨a0, a1, s0, s1, c0, c1, t0, t1, hv0, hv1, _, _, _, _, _, _, hne, _, _⟩ := laid_sentinels2 h1 hg0 ht0 hg1 ht1 Tryz.underlying78 row_es Tryz.underlying237 Tryz.underlying255 rfl rfl Tryz.underlying9 cells_es cells_s1
  have e0 : W.cell? ⟨g0, 0, none⟩ = some (.iface 237 (.pointer (some a0))) := by simpa using World.var?_cell hg0 hv0 0
  have e1 : W.cell? ⟨g1, 0, none⟩ = some (.iface 237 (.pointer (some a1))) := by simpa using World.var?_cell hg1 hv1 0
  have ea : a = a0 := by
    have := ha.1.symm.trans e0
    injection this with this
    injection this with _ this
    injection this with this
    injection this
  have eb : b = a1 := by
    have := hb.1.symm.trans e1
    injection this with this
    injection this with _ this
    injection this with this
    injection this
  rw [ea, eb]
  exact hne
theorem g_errDialect : Tryz.prog.globalNamed "groat/message.errDialect" = some 0 := by kernel_rfl
theorem gt_errDialect : (Tryz.prog.globals[0]?).map (·.type) = some 78 := by kernel_rfl
theorem g_errType : Tryz.prog.globalNamed "groat/message.errType" = some 1 := by kernel_rfl
theorem gt_errType : (Tryz.prog.globals[1]?).map (·.type) = some 78 := by kernel_rfl
theorem g_errLong : Tryz.prog.globalNamed "groat/message.errLong" = some 2 := by kernel_rfl
theorem gt_errLong : (Tryz.prog.globals[2]?).map (·.type) = some 78 := by kernel_rfl
theorem g_errMap : Tryz.prog.globalNamed "groat/message.errMap" = some 3 := by kernel_rfl
theorem gt_errMap : (Tryz.prog.globals[3]?).map (·.type) = some 78 := by kernel_rfl
theorem g_errMore : Tryz.prog.globalNamed "groat/message.errMore" = some 4 := by kernel_rfl
theorem gt_errMore : (Tryz.prog.globals[4]?).map (·.type) = some 78 := by kernel_rfl
theorem g_errField : Tryz.prog.globalNamed "groat/message.errField" = some 7 := by kernel_rfl
theorem gt_errField : (Tryz.prog.globals[7]?).map (·.type) = some 78 := by kernel_rfl
theorem g_errText : Tryz.prog.globalNamed "groat/message.errText" = some 10 := by kernel_rfl
theorem gt_errText : (Tryz.prog.globals[10]?).map (·.type) = some 78 := by kernel_rfl
theorem g_errBytes : Tryz.prog.globalNamed "groat/message.errBytes" = some 11 := by kernel_rfl
theorem gt_errBytes : (Tryz.prog.globals[11]?).map (·.type) = some 78 := by kernel_rfl
theorem g_errShort : Tryz.prog.globalNamed "groat/message.errShort" = some 12 := by kernel_rfl
theorem gt_errShort : (Tryz.prog.globals[12]?).map (·.type) = some 78 := by kernel_rfl
theorem gEt : Tryz.prog.globalNamed "errors.errorType" = some 9 := by kernel_rfl
theorem rt_type : (Tryz.prog.cutTypes.find? (·.1 == "internal/reflectlite.rtype")).map (·.2) = some 160 := by kernel_rfl
theorem er_only : ((List.range Tryz.prog.types.size).all fun u => !(Tryz.prog.rowNamed u [101, 114, 114, 111, 114]) || u == 78) = true := by kernel_rfl
theorem etype_of_laid {W : World} {l : List (String × DataW Unit)} (hl : l.filter (fun x => x.1 == "errors.errorType") = [("errors.errorType", Rows.laid_errors_errorType)]) (h : laidMetH Tryz.prog l W) : W.cell? ⟨9, 0, none⟩ = some (.iface 160 (.agg #[.pointer (some ⟨20, 78, none⟩)])) := by
  have h1 := h.filter (fun x => x.1 == "errors.errorType")
  rw [hl] at h1
  obtain ⟨_, h2⟩ : laidMet Tryz.prog [] W ∧ handlesMet Tryz.prog [("errors.errorType", Rows.laid_errors_errorType)] W := h1
  have h3 := h2 _ (List.mem_singleton.2 rfl)
  obtain ⟨name, u, ty, hn, hu, hty, hr, hv⟩ : ∃ name u ty, (Rows.laid_errors_errorType : DataW Unit).handleName? = some name ∧ (Tryz.prog.cutTypes.find? (·.1 == "internal/reflectlite.rtype")).map (·.2) = some u ∧ ty < Tryz.prog.types.size ∧ Tryz.prog.rowNamed ty name = true ∧ W.var? Tryz.prog "errors.errorType" = some #[.iface u (.agg #[typeHandle Tryz.prog ty])] := h3
  obtain rfl : [101, 114, 114, 111, 114] = name := Option.some.inj ((show (Rows.laid_errors_errorType : DataW Unit).handleName? = some [101, 114, 114, 111, 114] from by kernel_rfl).symm.trans hn)
  obtain rfl := Option.some.inj (rt_type.symm.trans hu)
  have hq := List.all_eq_true.1 er_only ty (List.mem_range.2 hty)
  rw [hr] at hq
  obtain rfl : ty = 78 := by simpa using hq
  have := World.var?_cell gEt hv 0
  simpa [typeHandle, show Tryz.prog.globals.size = 20 from by kernel_rfl] using this
def zeros64s : List Int := [0,1,56,2,57,49,28,3,61,58,42,50,38,29,17,4,62,47,59,36,45,43,51,22,53,39,33,30,24,18,12,5,63,55,48,27,60,41,37,16,46,35,44,21,52,32,23,11,54,26,40,15,34,20,31,10,25,14,19,9,13,8,7,6]
theorem gZer : Tryz.prog.globalNamed "math/bits.deBruijn64tab" = some 19 := by kernel_rfl
theorem zer_datum : (Rows.laid_math_bits_deBruijn64tab : DataW Unit) = Lib.tabData .u8 zeros64s := by kernel_rfl
theorem zer_of_laid {W : World} {l : List (String × DataW Unit)} (hl : l.filter (fun x => x.1 == "math/bits.deBruijn64tab") = [("math/bits.deBruijn64tab", Rows.laid_math_bits_deBruijn64tab)]) (h : laidMetH Tryz.prog l W) : ZerT W := by
  have h1 := h.filter (fun x => x.1 == "math/bits.deBruijn64tab")
  rw [hl, Go.MakeChecks.laidMetH_plain _ _ _ rfl, zer_datum] at h1
  have h2 := Lib.tabIs_of_head (t := 84) (e := 5) (n := 64) gZer (by kernel_rfl) Tryz.underlying84 Tryz.underlying5 (by kernel_rfl) (by kernel_rfl) h1
  exact h2.cell gZer 15 (by decide)
theorem gTong : Tryz.prog.globalNamed "groat/message.tongues" = some 6 := by kernel_rfl
theorem gTongType : (Tryz.prog.globals[6]?).map (·.type) = some 122 := by kernel_rfl
theorem cells_tongs : Tryz.prog.cellsOf 122 = 12 := by kernel_rfl
theorem cells_tong : Tryz.prog.cellsOf 98 = 3 := by kernel_rfl
theorem cells_i : Tryz.prog.cellsOf 3 = 1 := by kernel_rfl
def tongD (k : Int) (v u : List UInt8) : DataW Unit := .agg [.lit (.int .i64 k), .lit (.string v), .lit (.string u)]
theorem tong_datum : (Rows.laid_groat_message_tongues : DataW Unit) = .agg [tongD 0 [] [], tongD 1 [48] [], tongD 2 [49] [], tongD 3 [57] [48, 48]] := rfl
theorem list3 {l : List Value} (h : l.length = 3) : ∃ a b c, l = [a, b, c] := by
  match l, h with
  | [a, b, c], _ => exact ⟨a, b, c, rfl⟩
section
variable {enc : TypeId × Value → Unit} {w : World} {base : Nat} {spare : Nat → Bool} {held : Bool}
theorem int_of {n : Nat} {v : Value} {y : DataW Unit × List MemPlace} {k : Int} (h : DataW.trod enc Tryz.prog w base spare held n 3 [v] = some y) (hy : y.1 = .lit (.int .i64 k)) : v = .int .i64 k := by
  obtain ⟨s, hc, rfl, _⟩ := DataW.trod_int Tryz.underlying3 h
  injection hc with hc
  injection hy with hy
  injection hy with _ hy
  rw [hc, ← hy]
theorem tong_of {n : Nat} {cs : List Value} {y : DataW Unit × List MemPlace} {k : Int} {v u : List UInt8} (h : DataW.trod enc Tryz.prog w base spare held n 98 cs = some y) (hy : y.1 = tongD k v u) : cs = [.int .i64 k, strV v, strV u] := by
  obtain ⟨ys, m, _, hx, hl, hyl, hf⟩ := DataW.trod_struct Tryz.underlying98 h
  rw [cells_tong] at hl
  obtain ⟨c0, c1, c2, rfl⟩ := list3 hl
  have f0 : DataW.trod enc Tryz.prog w base spare held m 3 (([c0, c1, c2].drop 0).take (Tryz.prog.cellsOf 3)) = ys[0]? := hf 0 _ rfl
  have f1 : DataW.trod enc Tryz.prog w base spare held m 9 (([c0, c1, c2].drop 1).take (Tryz.prog.cellsOf 9)) = ys[1]? := hf 1 _ rfl
  have f2 : DataW.trod enc Tryz.prog w base spare held m 9 (([c0, c1, c2].drop 2).take (Tryz.prog.cellsOf 9)) = ys[2]? := hf 2 _ rfl
  rw [cells_s1] at f1 f2
  rw [cells_i] at f0
  have hyl3 : ys.length = 3 := hyl
  clear hf hl hyl
  match ys, hyl3 with
  | [y0, y1, y2], _ =>
    have e0 : DataW.trod enc Tryz.prog w base spare held m 3 [c0] = some y0 := f0
    have e1 : DataW.trod enc Tryz.prog w base spare held m 9 [c1] = some y1 := f1
    have e2 : DataW.trod enc Tryz.prog w base spare held m 9 [c2] = some y2 := f2
    rw [hx] at hy
    unfold tongD at hy
    simp only [List.map_cons, List.map_nil, DataW.agg.injEq, List.cons.injEq, and_true] at hy
    rw [int_of e0 hy.1, str_of e1 hy.2.1, str_of e2 hy.2.2]
theorem row3_of {n : Nat} {cs : List Value} {y : DataW Unit × List MemPlace} {a b c : Int} (h : DataW.trod enc Tryz.prog w base spare held n 131 cs = some y) (hy : y.1 = .agg [.lit (.int .i64 a), .lit (.int .i64 b), .lit (.int .i64 c)]) : cs = [.int .i64 a, .int .i64 b, .int .i64 c] := by
  obtain ⟨ys, m, _, hx, hl, hyl, hf⟩ := DataW.trod_struct Tryz.underlying131 h
  rw [show Tryz.prog.cellsOf 131 = 3 from by kernel_rfl] at hl
  obtain ⟨c0, c1, c2, rfl⟩ := list3 hl
  have f0 : DataW.trod enc Tryz.prog w base spare held m 3 (([c0, c1, c2].drop 0).take (Tryz.prog.cellsOf 3)) = ys[0]? := hf 0 _ rfl
  have f1 : DataW.trod enc Tryz.prog w base spare held m 3 (([c0, c1, c2].drop 1).take (Tryz.prog.cellsOf 3)) = ys[1]? := hf 1 _ rfl
  have f2 : DataW.trod enc Tryz.prog w base spare held m 3 (([c0, c1, c2].drop 2).take (Tryz.prog.cellsOf 3)) = ys[2]? := hf 2 _ rfl
  rw [cells_i] at f0 f1 f2
  have hyl3 : ys.length = 3 := hyl
  clear hf hl hyl
  match ys, hyl3 with
  | [y0, y1, y2], _ =>
    have e0 : DataW.trod enc Tryz.prog w base spare held m 3 [c0] = some y0 := f0
    have e1 : DataW.trod enc Tryz.prog w base spare held m 3 [c1] = some y1 := f1
    have e2 : DataW.trod enc Tryz.prog w base spare held m 3 [c2] = some y2 := f2
    rw [hx] at hy
    simp only [List.map_cons, List.map_nil, DataW.agg.injEq, List.cons.injEq, and_true] at hy
    rw [int_of e0 hy.1, int_of e1 hy.2.1, int_of e2 hy.2.2]
end
set_option maxRecDepth 20000 in
theorem tong_of_laid {W : World} {l : List (String × DataW Unit)} (hl : l.filter (fun x => x.1 == "groat/message.tongues") = [("groat/message.tongues", Rows.laid_groat_message_tongues)]) (h : laidMetH Tryz.prog l W) : ∀ i v, tongCells[i]? = some v → W.cell? ⟨6, i, none⟩ = some v := by
  have h1 := h.filter (fun x => x.1 == "groat/message.tongues")
  rw [hl, Go.MakeChecks.laidMetH_plain _ _ _ rfl] at h1
  obtain ⟨ps, ⟨g, t, cs, fuel, p, q, hg, ht, hv, hd, _, _⟩, _⟩ := h1
  obtain rfl := Option.some.inj (gTong.symm.trans hg)
  obtain rfl := Option.some.inj (gTongType.symm.trans ht)
  rw [tong_datum] at hd
  obtain ⟨xs, m, _, hx, hlen, hxl, hf⟩ := DataW.trod_array Tryz.underlying122 hd
  have hm : xs.map (·.1) = [tongD 0 [] [], tongD 1 [48] [], tongD 2 [49] [], tongD 3 [57] [48, 48]] := by
    have := congrArg Prod.fst hx
    injection this with this
    exact this.symm
  rw [cells_tongs] at hlen
  obtain ⟨x0, x1, x2, x3, rfl⟩ : ∃ a b c d, xs = [a, b, c, d] := by
    match xs, hxl with
    | [a, b, c, d], _ => exact ⟨a, b, c, d, rfl⟩
  · simp only [List.map_cons, List.map_nil, List.cons.injEq, and_true] at hm
    have k0 := tong_of (hf 0 (by decide)) hm.1
    have k1 := tong_of (hf 1 (by decide)) hm.2.1
    have k2 := tong_of (hf 2 (by decide)) hm.2.2.1
    have k3 := tong_of (hf 3 (by decide)) hm.2.2.2
    rw [cells_tong] at k0 k1 k2 k3
    have hall : cs.toList = tongCells := by
      have e : cs.toList = ((cs.toList.drop (0 * 3)).take 3) ++ ((cs.toList.drop (1 * 3)).take 3) ++ ((cs.toList.drop (2 * 3)).take 3) ++ ((cs.toList.drop (3 * 3)).take 3) := by
        generalize cs.toList = L at hlen
        match L, hlen with
        | [b0, b1, b2, b3, b4, b5, b6, b7, b8, b9, b10, b11], _ => rfl
      rw [e, k0, k1, k2, k3]
      rfl
    intro i v hi
    rw [← hall] at hi
    have := World.var?_cell hg hv i
    rw [this, ← hi, Array.getElem?_toList]
theorem gMr : Tryz.prog.globalNamed "groat/message.rows" = some 8 := by kernel_rfl
theorem gMrType : (Tryz.prog.globals[8]?).map (·.type) = some 129 := by kernel_rfl
def row3D (r : Int × Int × Int) : DataW Unit := .agg [.lit (.int .i64 r.1), .lit (.int .i64 r.2.1), .lit (.int .i64 r.2.2)]
theorem mr_datum : (Rows.laid_groat_message_rows : DataW Unit) = .slice (mrows.map row3D) [] := rfl
theorem row_key (j i : Nat) (hj : j < 17) (hi : i < 3) : rowCells[j * 3 + i]? = ((mrows[j]?).map fun r => [Value.int .i64 r.1, .int .i64 r.2.1, .int .i64 r.2.2]).bind fun l => l[i]? := by
  have hjj : j = 0 ∨ j = 1 ∨ j = 2 ∨ j = 3 ∨ j = 4 ∨ j = 5 ∨ j = 6 ∨ j = 7 ∨ j = 8 ∨ j = 9 ∨ j = 10 ∨ j = 11 ∨ j = 12 ∨ j = 13 ∨ j = 14 ∨ j = 15 ∨ j = 16 := by omega
  have hii : i = 0 ∨ i = 1 ∨ i = 2 := by omega
  rcases hii with rfl | rfl | rfl <;> rcases hjj with rfl | rfl | rfl | rfl | rfl | rfl | rfl | rfl | rfl | rfl | rfl | rfl | rfl | rfl | rfl | rfl | rfl <;> rfl
set_option maxRecDepth 20000 in
theorem rows3_of_laid {W : World} {l : List (String × DataW Unit)} (hl : l.filter (fun x => x.1 == "groat/message.rows") = [("groat/message.rows", Rows.laid_groat_message_rows)]) (h : laidMetH Tryz.prog l W) : ∃ b off c, W.cell? ⟨8, 0, none⟩ = some (.slice (some ⟨b, off, none⟩) 17 c) ∧ ∀ i v, rowCells[i]? = some v → W.cell? ⟨b, off + i, none⟩ = some v := by
  have h1 := h.filter (fun x => x.1 == "groat/message.rows")
  rw [hl, Go.MakeChecks.laidMetH_plain _ _ _ rfl] at h1
  obtain ⟨ps, ⟨g, t, cs, fuel, p, q, hg, ht, hv, hd, _, _⟩, _⟩ := h1
  obtain rfl := Option.some.inj (gMr.symm.trans hg)
  obtain rfl := Option.some.inj (gMrType.symm.trans ht)
  rw [mr_datum] at hd
  rcases open_slice Tryz.underlying129 hd with ⟨_, hx⟩ | ⟨a, len, cap, m, n, D, Pl, hcs, hb, hlc, hm, hmm, hx, hi⟩
  · cases hx
  · have hx1 := congrArg Prod.fst hx
    injection hx1 with e1 e2
    have hlen : len = 17 := by
      have h17 : mrows.length = 17 := rfl
      have := congrArg List.length e1
      simp only [List.length_map, List.length_range] at this
      omega
    subst hlen
    have hlm : 17 ≤ m := by rw [hmm]; split <;> omega
    rw [show Tryz.prog.cellsOf 131 = 3 from by kernel_rfl] at hi
    have key : ∀ i r, mrows[i]? = some r → ∀ j v, [Value.int .i64 r.1, .int .i64 r.2.1, .int .i64 r.2.2][j]? = some v → W.cell? (a.add (i * 3 + j)) = some v := by
      intro i r hr j v hj
      have hi17 : i < 17 := (List.getElem?_eq_some_iff.1 hr).1
      obtain ⟨cs', hc, ht'⟩ := hi i (by omega)
      have hD : D i = row3D r := by
        have h2 := congrArg (fun l => l[i]?) e1
        simp only [List.getElem?_map, hr, Option.map_some, List.getElem?_range hi17] at h2
        exact (Option.some.inj h2).symm
      have := row3_of ht' hD
      subst this
      obtain ⟨_, _, hat⟩ := World.cells?_some hc
      have hj3 : j < 3 := (List.getElem?_eq_some_iff.1 hj).1
      rw [← Go.Deep.add_add, hat j hj3, hj]
    have hcell : W.cell? ⟨8, 0, none⟩ = some (.slice (some a) 17 cap) := by
      have := World.var?_cell hg hv 0
      rw [this, ← Array.getElem?_toList, hcs]
      rfl
    obtain ⟨b, off, spot⟩ := a
    have hsp : spot = none := by
      have := key 0 _ rfl 0 _ rfl
      simpa [Addr.add] using World.cell?_spot this
    subst hsp
    refine ⟨b, off, cap, hcell, fun i v hi => ?_⟩
    have hlt : i < 51 := (List.getElem?_eq_some_iff.1 hi).1
    have hq : ∃ r, mrows[i / 3]? = some r := ⟨_, List.getElem?_eq_getElem (show i / 3 < mrows.length from by show i / 3 < 17; omega)⟩
    obtain ⟨r, hr⟩ := hq
    have h9 := row_key (i / 3) (i % 3) (by omega) (by omega)
    rw [show i / 3 * 3 + i % 3 = i from by omega] at h9
    simp only [hr, Option.map_some, Option.bind_some] at h9
    have := key (i / 3) r hr (i % 3) v (h9.symm.trans hi)
    rw [show i / 3 * 3 + i % 3 = i from by omega] at this
    rw [show (⟨b, off, none⟩ : Addr).add i = ⟨b, off + i, none⟩ from by rw [add_nat]] at this
    exact this
set_option maxRecDepth 20000 in
theorem env_of_laid {W : World} {l : List (String × DataW Unit)} (hl : l = Rows.sessionBoardsRow.laid) (h : laidMetH Tryz.prog l W) : ∃ s, Env s W := by
  subst hl
  obtain ⟨a_dialect, h_dialect⟩ := sent1 (n := "groat/message.errDialect") rfl h g_errDialect gt_errDialect
  obtain ⟨a_type_, h_type_⟩ := sent1 (n := "groat/message.errType") rfl h g_errType gt_errType
  obtain ⟨a_long, h_long⟩ := sent1 (n := "groat/message.errLong") rfl h g_errLong gt_errLong
  obtain ⟨a_map, h_map⟩ := sent1 (n := "groat/message.errMap") rfl h g_errMap gt_errMap
  obtain ⟨a_more, h_more⟩ := sent1 (n := "groat/message.errMore") rfl h g_errMore gt_errMore
  obtain ⟨a_field, h_field⟩ := sent1 (n := "groat/message.errField") rfl h g_errField gt_errField
  obtain ⟨a_text, h_text⟩ := sent1 (n := "groat/message.errText") rfl h g_errText gt_errText
  obtain ⟨a_bytes, h_bytes⟩ := sent1 (n := "groat/message.errBytes") rfl h g_errBytes gt_errBytes
  obtain ⟨a_short, h_short⟩ := sent1 (n := "groat/message.errShort") rfl h g_errShort gt_errShort
  refine ⟨⟨a_dialect, a_type_, a_long, a_map, a_more, a_field, a_text, a_bytes, a_short⟩, ⟨h_dialect, h_type_, h_long, h_map, h_more, h_field, h_text, h_bytes, h_short, ⟨?_, ?_, ?_, ?_, ?_, ?_, ?_, ?_, ?_, ?_, ?_, ?_, ?_, ?_, ?_, ?_⟩, etype_of_laid rfl h⟩, ⟨rows3_of_laid rfl h, tong_of_laid rfl h⟩, rows_of_laid rfl h, pow_of_laid rfl h, zer_of_laid rfl h⟩
  · exact (sent2 (n0 := "groat/message.errDialect") (n1 := "groat/message.errMore") h rfl g_errDialect gt_errDialect g_errMore gt_errMore h_dialect h_more).symm
  · exact (sent2 (n0 := "groat/message.errType") (n1 := "groat/message.errMore") h rfl g_errType gt_errType g_errMore gt_errMore h_type_ h_more).symm
  · exact (sent2 (n0 := "groat/message.errLong") (n1 := "groat/message.errMore") h rfl g_errLong gt_errLong g_errMore gt_errMore h_long h_more).symm
  · exact (sent2 (n0 := "groat/message.errMap") (n1 := "groat/message.errMore") h rfl g_errMap gt_errMap g_errMore gt_errMore h_map h_more).symm
  · exact (sent2 (n0 := "groat/message.errDialect") (n1 := "groat/message.errMap") h rfl g_errDialect gt_errDialect g_errMap gt_errMap h_dialect h_map).symm
  · exact (sent2 (n0 := "groat/message.errType") (n1 := "groat/message.errMap") h rfl g_errType gt_errType g_errMap gt_errMap h_type_ h_map).symm
  · exact (sent2 (n0 := "groat/message.errLong") (n1 := "groat/message.errMap") h rfl g_errLong gt_errLong g_errMap gt_errMap h_long h_map).symm
  · exact (sent2 (n0 := "groat/message.errDialect") (n1 := "groat/message.errLong") h rfl g_errDialect gt_errDialect g_errLong gt_errLong h_dialect h_long).symm
  · exact (sent2 (n0 := "groat/message.errType") (n1 := "groat/message.errLong") h rfl g_errType gt_errType g_errLong gt_errLong h_type_ h_long).symm
  · exact (sent2 (n0 := "groat/message.errDialect") (n1 := "groat/message.errType") h rfl g_errDialect gt_errDialect g_errType gt_errType h_dialect h_type_).symm
  · exact sent2 (n0 := "groat/message.errField") (n1 := "groat/message.errText") h rfl g_errField gt_errField g_errText gt_errText h_field h_text
  · exact sent2 (n0 := "groat/message.errField") (n1 := "groat/message.errBytes") h rfl g_errField gt_errField g_errBytes gt_errBytes h_field h_bytes
  · exact sent2 (n0 := "groat/message.errField") (n1 := "groat/message.errShort") h rfl g_errField gt_errField g_errShort gt_errShort h_field h_short
  · exact (sent2 (n0 := "groat/message.errText") (n1 := "groat/message.errShort") h rfl g_errText gt_errText g_errShort gt_errShort h_text h_short).symm
  · exact (sent2 (n0 := "groat/message.errBytes") (n1 := "groat/message.errShort") h rfl g_errBytes gt_errBytes g_errShort gt_errShort h_bytes h_short).symm
  · exact (sent2 (n0 := "groat/message.errText") (n1 := "groat/message.errBytes") h rfl g_errText gt_errText g_errBytes gt_errBytes h_text h_bytes).symm
end Go.Proofs.YtfnillibngijaaaGreatDoor
