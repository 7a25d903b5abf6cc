/-
  Ledgers: arguments opened: rows of entries, rows of rows of them, a configuration. No conditions.
-/
import Derived.Test.YthoefjaapjaeeaaLgQ
import Derived.Test.YthoefjaapjaeeaaRwo
import Derived.Test.YthoefjaapjaeeaaRwn
import Derived.Test.YthoefjaapjaeeaaBulk
import Derived.Test.YthoefjaapjaeeaaArr2
namespace Go.Proofs.Ythoefjaapjaeeaa
open Go.RowKit Go.ChangeShapes Go.WideShapes Go.Deep
open Lg (Ent)
set_option linter.unusedVariables false
section
variable {H : Type} {enc : TypeId × Value → H} {P : Program} {w : World} {base : Nat} {spare : Nat → Bool} {held : Bool}
/-- a slice whose elements read as 'en x'; of what each holds something more is known -/
theorem open_rwsP {α : Type} {t e : TypeId} {fuel k by_ : Nat} {v : Value} {x : DataW H × List MemPlace} (ht : P.underlying t = some (.slice e)) (hC : P.cellsOf e = k) (hk : 0 < k) (hby : P.bytesOf e = by_) (hb1 : 1 ≤ by_) (en : α → List Value) (Q : α → Prop) (d0 : α) (hen : ∀ x, (en x).length = k)
    (Pd : DataW H → Prop) (dec : ∀ n cs y, DataW.trod enc P w base spare held n e cs = some y → (∀ q ∈ y.1.weights P e, q ≤ reachBytes) → Pd y.1 → ∃ x : α, cs = en x ∧ Q x) (h : DataW.trod enc P w base spare held fuel t [v] = some x) (hw : ∀ q ∈ x.1.weights P t, q ≤ reachBytes) (hPd : ∀ D E, x.1 = .slice D E → ∀ d ∈ D, Pd d) :
    ∃ (A : Option Addr) (n c : Nat) (xs : List α), v = .slice A n c ∧ Rws w k A n (xs.map en) ∧ n ≤ c ∧ (A = none → c = 0) ∧ n * by_ ≤ reachBytes ∧ (∀ x ∈ xs, Q x) ∧ (x.1 = .nil ∧ n = 0 ∨ ∃ D E, x.1 = .slice D E ∧ D.length = n) := by
  rcases open_slice ht h with ⟨h0, hx0⟩ | ⟨a, len, cap, m, n, D, Pl, hcs, hb, hl, hm, hmm, rfl, hi⟩
  · injection h0 with h0
    exact ⟨none, 0, 0, [], h0, rws_nil w k none, Nat.le_refl _, fun _ => rfl, by omega, fun x hx => (by cases hx), .inl ⟨by rw [hx0], rfl⟩⟩
  · injection hcs with hcs
    have hlm : len ≤ m := by rw [hmm]; split <;> omega
    have hb2 : len * by_ ≤ reachBytes := by
      have := hw ((((List.range len).map D).length + ((List.range (m - len)).map fun j => D (len + j)).length) * P.bytesOf e) (by
        unfold DataW.weights
        simp only [ht]
        exact List.mem_cons_self ..)
      rw [hby] at this
      simp only [List.length_map, List.length_range] at this
      have h3 : len * by_ ≤ (len + (m - len)) * by_ := Nat.mul_le_mul_right _ (by omega)
      omega
    have hwt : ∀ i, i < len → ∀ q ∈ (D i).weights P e, q ≤ reachBytes := by
      intro i hi' q hq
      refine hw q ?_
      unfold DataW.weights
      simp only [ht]
      exact List.mem_cons_of_mem _ (List.mem_append_left _ (weights_all (List.mem_map.2 ⟨i, List.mem_range.2 hi', rfl⟩) hq))
    have hpd : ∀ i, i < len → Pd (D i) := fun i hi' => hPd _ _ rfl (D i) (List.mem_map.2 ⟨i, List.mem_range.2 hi', rfl⟩)
    have hn : len ≤ 140737488355328 := by
      have h1 := reachBytes_lt
      have h2 : len * 1 ≤ len * by_ := Nat.mul_le_mul_left _ hb1
      omega
    rw [hC] at hi
    have one : ∀ i, ∃ x : α, i < len → w.cells? base (a.add (i * k)) k = some (en x) ∧ Q x := by
      intro i
      by_cases him : i < len
      · obtain ⟨cs, hc, ht'⟩ := hi i (by omega)
        obtain ⟨x, rfl, hq⟩ := dec _ _ _ ht' (hwt i him) (hpd i him)
        exact ⟨x, fun _ => ⟨hc, hq⟩⟩
      · exact ⟨d0, fun h => absurd h him⟩
    obtain ⟨F, hF⟩ := Classical.axiomOfChoice one
    refine ⟨some a, len, cap, (List.range len).map F, hcs, ⟨by simp, fun r hr => ?_, hn, fun hp => ?_⟩, hl, (fun h => by cases h), hb2, fun x hx => ?_, .inr ⟨_, _, rfl, by simp⟩⟩
    · obtain ⟨x, _, rfl⟩ := List.mem_map.1 hr
      exact hen x
    · have hall : ∀ i, i < len → ∀ j v, (en (F i))[j]? = some v → w.cell? (a.add (i * k + j)) = some v := by
        intro i him j v hv
        obtain ⟨_, hcl, hat⟩ := World.cells?_some (hF i him).1
        have hj : j < k := by
          have := (List.getElem?_eq_some_iff.1 hv).1
          rwa [hen] at this
        have := hat j hj
        rw [hv] at this
        rw [← this, Go.Deep.add_add]
      obtain ⟨b, off, spot⟩ := a
      have hv0 : (en (F 0))[0]? = some ((en (F 0))[0]'(by rw [hen]; exact hk)) := List.getElem?_eq_getElem _
      have hc0 := hall 0 (by omega) 0 _ hv0
      have hspot : spot = none := by simpa [Addr.add] using World.cell?_spot hc0
      subst hspot
      refine ⟨b, off, rfl, fun i r hr j v hv => ?_⟩
      have hil : i < len := by
        have := (List.getElem?_eq_some_iff.1 hr).1
        simpa using this
      have hre : r = en (F i) := by
        rw [List.getElem?_map, List.getElem?_map, List.getElem?_range hil] at hr
        exact (Option.some.inj hr).symm
      subst hre
      have := hall i (by omega) j v hv
      rw [add_nat] at this
      rw [Nat.add_assoc]
      exact this
    · obtain ⟨i, hi', rfl⟩ := List.mem_map.1 hx
      exact (hF i (List.mem_range.1 hi')).2
end
theorem bulk_mem2 {H : Type} {d : DataW H} : ∀ {l : List (DataW H)}, d ∈ l → Rows.uptoBulk d ≤ Rows.uptoBulkAll l
  | [], h => by cases h
  | e :: r, h => by
    simp only [Rows.uptoBulkAll]
    rcases List.mem_cons.1 h with rfl | h
    · omega
    · have := bulk_mem2 h
      omega
theorem i64_inT {n : Int} (h : (Lit.int .i64 n).wf = true) : Mn.in64 n := by
  have := i64_in h
  unfold Mn.in64
  omega
section
variable {H : Type} {enc : TypeId × Value → H} {W : World} {base : Nat} {spare : Nat → Bool} {held : Bool}
set_option maxRecDepth 20000 in
/-- entries that came in -/
theorem ents_of {fuel : Nat} {v : Value} {x : DataW H × List MemPlace} (h : DataW.trod enc Try.prog W base spare held fuel 35 [v] = some x) (hw : ∀ q ∈ x.1.weights Try.prog 35, q ≤ reachBytes) :
    ∃ (A : Option Addr) (n c : Nat) (es : List Ent), v = .slice A n c ∧ EntAt W A n es ∧ n ≤ c ∧ (A = none → c = 0) ∧ n * 16 ≤ 140737488351232 ∧ n ≤ Rows.uptoBulk x.1 := by
  obtain ⟨A, n, c, es, h1, h2, h3, h4, h5, h6, h7⟩ := open_rwsW (by_ := 16) Try.underlying35 (k := 2) (by kernel_rfl) (by decide) (by kernel_rfl) (by decide) entC (fun e => Mn.in64 e.1 ∧ Mn.in64 e.2) (0, 0) (fun _ => rfl) (fun n cs y hy hwy => by
    obtain ⟨hl, m, hf⟩ := open_fldsW Try.underlying57 (by kernel_rfl) (by kernel_rfl) hy
    obtain ⟨c0, z0, e0, t0, _⟩ := hf 0 _ rfl
    obtain ⟨c1, z1, e1, t1, _⟩ := hf 1 _ rfl
    obtain ⟨x0, g0, _, w0⟩ := DataW.trod_int Try.underlying3 t0
    obtain ⟨x1, g1, _, w1⟩ := DataW.trod_int Try.underlying3 t1
    injection g0 with g0
    injection g1 with g1
    subst g0 g1
    refine ⟨(x0, x1), ?_, i64_inT w0, i64_inT w1⟩
    have hl2 : cs.length = 2 := hl
    match cs, hl2 with
    | [a, b], _ =>
      cases e0
      cases e1
      rfl) h hw
  refine ⟨A, n, c, es, h1, ⟨h2, h6⟩, h3, h4, by unfold reachBytes at h5; omega, ?_⟩
  rcases h7 with ⟨_, h0⟩ | ⟨D, E, e, hD⟩
  · omega
  · rw [e]
    have := bulk_slice (H := H) D E
    omega
/-- a row of entries that lies in a row -/
structure EnV where
  A : Option Addr
  n : Nat
  c : Nat
  es : List Ent
def EnV.cells (v : EnV) : List Value := [.slice v.A v.n v.c]
structure EnV.ok (w : World) (v : EnV) : Prop where
  at_ : EntAt w v.A v.n v.es
  le : v.n ≤ v.c
  nil : v.A = none → v.c = 0
  room : v.n * 16 ≤ 140737488351232
theorem EnV.ok.still {w w' : World} {v : EnV} (h : v.ok w) (ht : Turn nowhere w w') : v.ok w' := ⟨h.at_.still ht, h.le, h.nil, h.room⟩
/-- rows of entries -/
structure EnsAt (w : World) (A : Option Addr) (n : Nat) (vs : List EnV) : Prop where
  row : Rws w 1 A n (vs.map EnV.cells)
  ok : ∀ v ∈ vs, v.ok w
theorem EnsAt.still {w w' : World} {A : Option Addr} {n : Nat} {vs : List EnV} (h : EnsAt w A n vs) (ht : Turn nowhere w w') : EnsAt w' A n vs := ⟨h.row.still ht, fun v hv => (h.ok v hv).still ht⟩
theorem EnsAt.len {w : World} {A : Option Addr} {n : Nat} {vs : List EnV} (h : EnsAt w A n vs) : n = vs.length := by
  have := h.row.1
  rw [List.length_map] at this
  omega
theorem EnsAt.rng {w : World} {A : Option Addr} {n : Nat} {vs : List EnV} (h : EnsAt w A n vs) {i : Nat} {v : EnV} (hv : vs[i]? = some v) : ∃ b off, A = some ⟨b, off, none⟩ ∧ w.cell? ⟨b, off + i * 1, none⟩ = some (.slice v.A v.n v.c) := by
  obtain ⟨b, off, hA, hc⟩ := h.row.at_ (i := i) (r := v.cells) (by rw [List.getElem?_map, hv]; rfl)
  exact ⟨b, off, hA, hc 0 _ rfl⟩
theorem ens_some {vs : List EnV} {i n : Nat} (hn : n = vs.length) (hi : i < n) : ∃ v, vs[i]? = some v := ⟨vs[i]'(by omega), List.getElem?_eq_getElem (by omega)⟩
theorem cs_slice {fuel : Nat} {cs : List Value} {x : DataW H × List MemPlace} (h : DataW.trod enc Try.prog W base spare held fuel 35 cs = some x) : ∃ u, cs = [u] := by
  rcases DataW.trod_slice Try.underlying35 h with ⟨h, _⟩ | ⟨a, len, cap, _, _, _, _, h, _⟩
  · exact ⟨_, h⟩
  · exact ⟨_, h⟩
set_option maxRecDepth 20000 in
/-- rows of entries that came in -/
theorem enss_of {fuel : Nat} {v : Value} {x : DataW H × List MemPlace} (h : DataW.trod enc Try.prog W base spare held fuel 22 [v] = some x) (hw : ∀ q ∈ x.1.weights Try.prog 22, q ≤ reachBytes) :
    ∃ (A : Option Addr) (n c : Nat) (vs : List EnV), v = .slice A n c ∧ EnsAt W A n vs ∧ n ≤ 140737488355328 := by
  obtain ⟨A, n, c, vs, h1, h2, h3, h4, h5, h6, h7⟩ := open_rwsW (by_ := 24) Try.underlying22 (k := 1) (by kernel_rfl) (by decide) (by kernel_rfl) (by decide) EnV.cells (fun v => v.ok W) ⟨none, 0, 0, []⟩ (fun _ => rfl) (fun n cs y hy hwy => by
    have hcs := cs_slice hy
    obtain ⟨u, rfl⟩ := hcs
    obtain ⟨A, n, c, es, rfl, i1, i2, i3, i4, _⟩ := ents_of hy hwy
    exact ⟨⟨A, n, c, es⟩, rfl, i1, i2, i3, i4⟩) h hw
  exact ⟨A, n, c, vs, h1, ⟨h2, h6⟩, h2.2.2.1⟩
set_option maxRecDepth 20000 in
/-- rows of entries that came in, of small bulk -/
theorem enssB_of {fuel : Nat} {v : Value} {x : DataW H × List MemPlace} (h : DataW.trod enc Try.prog W base spare held fuel 22 [v] = some x) (hw : ∀ q ∈ x.1.weights Try.prog 22, q ≤ reachBytes) (hk : Rows.uptoBulk x.1 ≤ 1048576) :
    ∃ (A : Option Addr) (n c : Nat) (vs : List EnV), v = .slice A n c ∧ EnsAt W A n vs ∧ n ≤ 140737488355328 ∧ ∀ v ∈ vs, v.n ≤ 1048576 := by
  obtain ⟨A, n, c, vs, h1, h2, h3, h4, h5, h6, h7⟩ := open_rwsP (by_ := 24) Try.underlying22 (k := 1) (by kernel_rfl) (by decide) (by kernel_rfl) (by decide) EnV.cells (fun v => v.ok W ∧ v.n ≤ 1048576) ⟨none, 0, 0, []⟩ (fun _ => rfl) (fun d => Rows.uptoBulk d ≤ 1048576) (fun n cs y hy hwy hpy => by
    have hcs := cs_slice hy
    obtain ⟨u, rfl⟩ := hcs
    obtain ⟨A, n, c, es, rfl, i1, i2, i3, i4, i5⟩ := ents_of hy hwy
    exact ⟨⟨A, n, c, es⟩, rfl, ⟨i1, i2, i3, i4⟩, Nat.le_trans i5 hpy⟩) h hw (fun D E e d hd => by
      rw [e] at hk
      simp only [Rows.uptoBulk] at hk
      have := bulk_mem2 hd
      omega)
  exact ⟨A, n, c, vs, h1, ⟨h2, fun v hv => (h6 v hv).1⟩, h2.2.2.1, fun v hv => (h6 v hv).2⟩
end
end Go.Proofs.Ythoefjaapjaeeaa
