/-
  An argument that is a slice of structs of one-cell fields, opened to rows of cells; rows of cells in memory. No conditions; it imports nothing of the program.
-/
import Derived.Test.YtkcedcllefcboaaMem
import Derived.ProofKit
import Derived.ChangeSame
import Derived.Deep.Slices
import Derived.Deep.Fields
import Derived.Lib.SmallJoins
import Derived.SizedLaws
namespace Go.Proofs.Ytkcedcllefcboaa
open Go.RowKit Go.ChangeShapes Go.WideShapes Go.Deep
set_option linter.unusedVariables false
/-- n rows of k cells each, one behind the other -/
def Rws (w : World) (k : Nat) (A : Option Addr) (n : Nat) (rs : List (List Value)) : Prop :=
  rs.length = n ∧ (∀ r ∈ rs, r.length = k) ∧ n ≤ 140737488355328 ∧ (0 < n → ∃ b off, A = some ⟨b, off, none⟩ ∧ ∀ i r, rs[i]? = some r → ∀ j v, r[j]? = some v → w.cell? ⟨b, off + i * k + j, none⟩ = some v)
theorem rws_nil (w : World) (k : Nat) (A : Option Addr) : Rws w k A 0 [] := ⟨rfl, fun r h => (by cases h), Nat.zero_le _, fun h => absurd h (by decide)⟩
theorem Rws.turn {w w' : World} {k n : Nat} {A : Option Addr} {rs : List (List Value)} {F : Nat → Prop} (h : Rws w k A n rs) (ht : Turn F w w') (hn : ∀ b off s, A = some ⟨b, off, s⟩ → 0 < n → b < w.heap.size → ¬ F b) : Rws w' k A n rs := by
  obtain ⟨h1, h2, h3, h4⟩ := h
  refine ⟨h1, h2, h3, fun hp => ?_⟩
  obtain ⟨b, off, rfl, hc⟩ := h4 hp
  refine ⟨b, off, rfl, fun i r hr j v hv => ?_⟩
  have hcell := hc i r hr j v hv
  have hlt := World.block_lt_of_cell? _ _ hcell
  rw [ht.cell (p := ⟨b, off + i * k + j, none⟩) hlt (hn b off none rfl hp hlt)]
  exact hcell
theorem Rws.still {w w' : World} {k n : Nat} {A : Option Addr} {rs : List (List Value)} (h : Rws w k A n rs) (ht : Turn nowhere w w') : Rws w' k A n rs := h.turn ht fun _ _ _ _ _ _ e => e
theorem Rws.at_ {w : World} {k n : Nat} {A : Option Addr} {rs : List (List Value)} (h : Rws w k A n rs) {i : Nat} {r : List Value} (hr : rs[i]? = some r) : ∃ b off, A = some ⟨b, off, none⟩ ∧ ∀ j v, r[j]? = some v → w.cell? ⟨b, off + i * k + j, none⟩ = some v := by
  obtain ⟨h1, h2, h3, h4⟩ := h
  have hi := (List.getElem?_eq_some_iff.1 hr).1
  obtain ⟨b, off, rfl, hc⟩ := h4 (by omega)
  exact ⟨b, off, rfl, hc i r hr⟩
section
variable {H : Type} {enc : TypeId × Value → H} {P : Program} {w : World} {base : Nat} {spare : Nat → Bool} {held : Bool}
/-- a struct of one-cell fields, whatever their number: each cell with its reading -/
theorem open_flds {e : TypeId} {fs : Array Go.Field} {n : Nat} {cs : List Value} {y : DataW H × List MemPlace} (he : P.underlying e = some (.struct fs)) (hone : oneCellFields P fs = true) (hC : P.cellsOf e = fs.size) (h : DataW.trod enc P w base spare held n e cs = some y) :
    cs.length = fs.size ∧ ∃ m : Nat, ∀ (j : Nat) (f : Go.Field), fs[j]? = some f → ∃ (c : Value) (z : DataW H × List MemPlace), cs[j]? = some c ∧ DataW.trod enc P w base spare held m f.type [c] = some z := by
  obtain ⟨ys, m, _, _, hl, hlen, hf⟩ := DataW.trod_struct he h
  rw [hC] at hl
  refine ⟨hl, m, fun j f hj => ?_⟩
  obtain ⟨ho, hk⟩ := hone_of hone j f hj
  have hjl : j < fs.size := (Array.getElem?_eq_some_iff.1 hj).1
  have h1 := hf j f hj
  rw [ho, hk, List.drop_eq_getElem_cons (by omega)] at h1
  have hy : ys[j]? = some (ys[j]'(by omega)) := List.getElem?_eq_getElem (by omega)
  exact ⟨cs[j]'(by omega), ys[j]'(by omega), List.getElem?_eq_getElem (by omega), by
    have h2 : DataW.trod enc P w base spare held m f.type [cs[j]'(by omega)] = ys[j]? := h1
    rw [h2, hy]⟩
/-- a slice whose elements read as 'en x' -/
theorem open_rws {α : Type} {t e : TypeId} {fuel k by_ : Nat} {v : Value} {x : DataW H × List MemPlace} (ht : P.underlying t = some (.slice e)) (hC : P.cellsOf e = k) (hk : 0 < k) (hby : P.bytesOf e = by_) (hb1 : 1 ≤ by_) (en : α → List Value) (Q : α → Prop) (d0 : α) (hen : ∀ x, (en x).length = k)
    (dec : ∀ n cs y, DataW.trod enc P w base spare held n e cs = some y → ∃ x : α, cs = en x ∧ Q x) (h : DataW.trod enc P w base spare held fuel t [v] = some x) (hw : ∀ q ∈ x.1.weights P t, q ≤ reachBytes) :
    ∃ (A : Option Addr) (n c : Nat) (xs : List α), v = .slice A n c ∧ Rws w k A n (xs.map en) ∧ n ≤ c ∧ (A = none → c = 0) ∧ n * by_ ≤ reachBytes ∧ (∀ x ∈ xs, Q x) ∧ (x.1 = .nil ∧ n = 0 ∨ ∃ D E, x.1 = .slice D E ∧ D.length = n) := by
  rcases open_slice ht h with ⟨h0, hx0⟩ | ⟨a, len, cap, m, n, D, Pl, hcs, hb, hl, hm, hmm, rfl, hi⟩
  · injection h0 with h0
    exact ⟨none, 0, 0, [], h0, rws_nil w k none, Nat.le_refl _, fun _ => rfl, by omega, fun x hx => (by cases hx), .inl ⟨by rw [hx0], rfl⟩⟩
  · injection hcs with hcs
    have hlm : len ≤ m := by rw [hmm]; split <;> omega
    have hb2 : len * by_ ≤ reachBytes := by
      have := hw ((((List.range len).map D).length + ((List.range (m - len)).map fun j => D (len + j)).length) * P.bytesOf e) (by
        unfold DataW.weights
        simp only [ht]
        exact List.mem_cons_self ..)
      rw [hby] at this
      simp only [List.length_map, List.length_range] at this
      have h3 : len * by_ ≤ (len + (m - len)) * by_ := Nat.mul_le_mul_right _ (by omega)
      omega
    have hn : len ≤ 140737488355328 := by
      have h1 := reachBytes_lt
      have h2 : len * 1 ≤ len * by_ := Nat.mul_le_mul_left _ hb1
      omega
    rw [hC] at hi
    have one : ∀ i, ∃ x : α, i < m → w.cells? base (a.add (i * k)) k = some (en x) ∧ Q x := by
      intro i
      by_cases him : i < m
      · obtain ⟨cs, hc, ht'⟩ := hi i him
        obtain ⟨x, rfl, hq⟩ := dec _ _ _ ht'
        exact ⟨x, fun _ => ⟨hc, hq⟩⟩
      · exact ⟨d0, fun h => absurd h him⟩
    obtain ⟨F, hF⟩ := Classical.axiomOfChoice one
    refine ⟨some a, len, cap, (List.range len).map F, hcs, ⟨by simp, fun r hr => ?_, hn, fun hp => ?_⟩, hl, (fun h => by cases h), hb2, fun x hx => ?_, .inr ⟨_, _, rfl, by simp⟩⟩
    · obtain ⟨x, _, rfl⟩ := List.mem_map.1 hr
      exact hen x
    · have hall : ∀ i, i < m → ∀ j v, (en (F i))[j]? = some v → w.cell? (a.add (i * k + j)) = some v := by
        intro i him j v hv
        obtain ⟨_, hcl, hat⟩ := World.cells?_some (hF i him).1
        have hj : j < k := by
          have := (List.getElem?_eq_some_iff.1 hv).1
          rwa [hen] at this
        have := hat j hj
        rw [hv] at this
        rw [← this, Go.Deep.add_add]
      obtain ⟨b, off, spot⟩ := a
      have hv0 : (en (F 0))[0]? = some ((en (F 0))[0]'(by rw [hen]; exact hk)) := List.getElem?_eq_getElem _
      have hc0 := hall 0 (by omega) 0 _ hv0
      have hspot : spot = none := by simpa [Addr.add] using World.cell?_spot hc0
      subst hspot
      refine ⟨b, off, rfl, fun i r hr j v hv => ?_⟩
      have hil : i < len := by
        have := (List.getElem?_eq_some_iff.1 hr).1
        simpa using this
      have hre : r = en (F i) := by
        rw [List.getElem?_map, List.getElem?_map, List.getElem?_range hil] at hr
        exact (Option.some.inj hr).symm
      subst hre
      have := hall i (by omega) j v hv
      rw [add_nat] at this
      rw [Nat.add_assoc]
      exact this
    · obtain ⟨i, hi', rfl⟩ := List.mem_map.1 hx
      exact (hF i (by have := List.mem_range.1 hi'; omega)).2
end
end Go.Proofs.Ytkcedcllefcboaa
