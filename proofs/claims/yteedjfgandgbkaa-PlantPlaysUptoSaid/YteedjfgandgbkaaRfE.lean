/-
  The reference plant's flushed: what a sector has for good. No conditions.
-/
import Derived.Test.YteedjfgandgbkaaJa0
import Derived.Test.YteedjfgandgbkaaLkA
import Derived.Test.YteedjfgandgbkaaIop
namespace Go.Proofs.Yteedjfgandgbkaa
open Go.RowKit Go.Maps
set_option linter.unusedVariables false
set_option linter.unusedSimpArgs false
/-- a sector as the reference has it: none, or 64 bytes in a block of bytes -/
def SecV (w : World) (u : Value) (o : Option Sec) : Prop := (o = none ∧ u = .slice none 0 0) ∨ ∃ (s : Sec) (b off c : Nat) (cu : Array Value), o = some s ∧ u = .slice (some ⟨b, off, none⟩) 64 c ∧ 64 ≤ c ∧ Bs w (some ⟨b, off, none⟩) 64 s.1 ∧ w.heap[b]? = some (.cells cu 5 (0, 0))
/-- a disk's sectors -/
def DiskR (w : World) (v : Value) (n : Nat) (fl : Int → Option Sec) : Prop := ∃ vals : List Value, w.ownsRow 0 36 1 v n vals ∧ ∀ (i : Nat) (u : Value), vals[i]? = some u → SecV w u (fl (i : Int))
/-- all disks' sectors -/
def HasR (w : World) (hv : Value) (ds : List (Nat × (Int → Option Sec))) : Prop := ∃ rows : List Value, w.ownsRow 0 60 1 hv ds.length rows ∧ ∀ (i : Nat) (v : Value), rows[i]? = some v → ∃ d, ds[i]? = some d ∧ DiskR w v d.1 d.2
theorem row_at {w : World} {e : TypeId} {v : Value} {n : Nat} {xs : List Value} (h : w.ownsRow 0 e 1 v n xs) {i : Nat} (hi : i < n) : ∃ g c u, v = .slice (some ⟨g, 0, none⟩) n c ∧ xs[i]? = some u ∧ w.cell? ⟨g, i, none⟩ = some u := by
  have hl : xs.length = n := by rw [h.1, Nat.mul_one]
  have hx : xs[i]? = some (xs[i]'(by omega)) := List.getElem?_eq_getElem _
  rcases id h.2 with ⟨_, h0⟩ | ⟨g, cap, cur, rfl, _⟩
  · omega
  · refine ⟨g, cap, _, rfl, hx, ?_⟩
    have := h.cells (g := g) rfl i _ hx
    rwa [add_nat, Nat.zero_add] at this
theorem has_at {w : World} {hv : Value} {ds : List (Nat × (Int → Option Sec))} (h : HasR w hv ds) {i : Nat} {d : Nat × (Int → Option Sec)} (hd : ds[i]? = some d) {k : Nat} (hk : k < d.1) :
    ∃ g c r rc u, hv = .slice (some ⟨g, 0, none⟩) ds.length c ∧ w.cell? ⟨g, i, none⟩ = some (.slice (some ⟨r, 0, none⟩) d.1 rc) ∧ w.cell? ⟨r, k, none⟩ = some u ∧ SecV w u (d.2 (k : Int)) := by
  obtain ⟨rows, h1, h2⟩ := h
  have hi := (List.getElem?_eq_some_iff.1 hd).1
  obtain ⟨g, c, v, e1, hv1, hc1⟩ := row_at h1 hi
  obtain ⟨d', hd', vals, g1, g2⟩ := h2 i v hv1
  rw [hd] at hd'
  injection hd' with hd'
  subst hd'
  obtain ⟨r, rc, u, e2, hu, hc2⟩ := row_at g1 hk
  subst e2
  exact ⟨g, c, r, rc, u, e1, hc1, hc2, g2 k u hu⟩
end Go.Proofs.Yteedjfgandgbkaa
