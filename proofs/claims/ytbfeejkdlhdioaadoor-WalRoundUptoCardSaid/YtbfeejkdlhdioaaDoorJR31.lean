/-
  Texts in one file: WmTa. Conditions: the tables and the errors read as the program's text lays them.
-/
import Derived.Test.YtbfeejkdlhdioaaDoorJR30
namespace Go.Proofs.YtbfeejkdlhdioaaDoor
open Go.RowKit
open Wl (B8 Gp)
set_option linter.unusedVariables false
set_option linter.unusedSimpArgs false
set_option maxRecDepth 20000
theorem Firsts.turn {F : Nat → Prop} {w w' : World} {g b0 n i : Nat} {ls : List B8} (h : Firsts w g b0 n i ls) (ht : Turn F w w') (hg : ¬ F g) (hb : ¬ F b0) : Firsts w' g b0 n i ls := by
  obtain ⟨cs, h1, h2, h3, h4⟩ := h
  exact ⟨cs, h1.turn ht hg, h2, h3, fun j l hj => by
    obtain ⟨a, m, q1, q2, q3⟩ := h4 j l hj
    refine ⟨a, m, q1, q2.turn ht fun b' o' _ e hb' => ?_, q3⟩
    injection e with e
    injection e with e1 e2
    exact hb (by rw [e1]; exact hb')⟩
theorem apart2 {F F' G G' : Nat → Prop} {n g : Nat} (h : ¬ (F g ∨ G g)) (hg : g < n) (hF : ∀ b, F' b → F b ∨ n ≤ b) (hG : ∀ b, G' b → G b ∨ n ≤ b) : ¬ (F' g ∨ G' g) := by
  rintro (e | e)
  · rcases hF g e with e | e
    · exact h (.inl e)
    · omega
  · rcases hG g e with e | e
    · exact h (.inr e)
    · omega
/-- both blocks are there -/
theorem Firsts.lt {w : World} {g b0 : Nat} {x y : UInt8} (h : Firsts w g b0 2 2 [[x], [y]]) : g < w.heap.size ∧ b0 < w.heap.size := by
  obtain ⟨cs, h1, h2, h3, h4⟩ := h
  refine ⟨h1.lt, ?_⟩
  obtain ⟨a, m, _, q2, _⟩ := h4 0 [x] rfl
  obtain rfl : 1 = m := q2.1
  obtain ⟨b, o, e, hc⟩ := q2.2.2 (by decide)
  injection e with e
  injection e with e1 e2
  subst e1
  exact World.block_lt_of_cell? _ _ (hc 0 (by decide))
/-- the two texts as cells -/
theorem Firsts.two {w : World} {g b0 : Nat} {x y : UInt8} (h : Firsts w g b0 2 2 [[x], [y]]) : ∃ a c, w.cell? ⟨g, 0, none⟩ = some (.slice (some ⟨b0, a, none⟩) 1 1) ∧ Bs w (some ⟨b0, a, none⟩) 1 [x] ∧ w.cell? ⟨g, 1, none⟩ = some (.slice (some ⟨b0, c, none⟩) 1 1) ∧ Bs w (some ⟨b0, c, none⟩) 1 [y] := by
  obtain ⟨cs, h1, h2, h3, h4⟩ := h
  obtain ⟨a, m, p1, p2, _⟩ := h4 0 [x] rfl
  obtain ⟨c, k, q1, q2, _⟩ := h4 1 [y] rfl
  obtain rfl : 1 = m := p2.1
  obtain rfl : 1 = k := q2.1
  exact ⟨a, c, by rw [h1.cell]; exact p1, p2, by rw [h1.cell]; exact q1, q2⟩
section
variable {w w' : World} {x p i : Nat} {F : Nat → Prop} {s : AP} {K : Nat} {d : AD} {S : Nat} {v : WalV} {vP vH : Value} {L : List Wl.Rec} {gs : List Gp}
/-- an open log whose plant's fuse is set -/
theorem Lg.fuse (h : Lg w x p i F s K d S v vP vH L gs) (m : Int) (hm : -9223372036854775808 ≤ m ∧ m ≤ 9223372036854775807) :
    Calls Tryd.prog 26 #[.pointer (some ⟨p, 0, none⟩), .int .i64 m] w fun e w' => e = .returned (.tuple #[]) ∧ Turn F w w' ∧ ∃ F', (∀ b, F' b → F b ∨ w.heap.size ≤ b) ∧ Lg w' x p i F' { s with fuse := m } K d S v vP vH L gs := by
  refine (fuseP h.pt m hm).mono ?_
  rintro e w' ⟨rfl, F', hp, ht, hF⟩
  rw [h.on, if_pos rfl, ← h.on] at hp
  have htl := tab_lt h.tab
  refine ⟨rfl, ht, F', hF, h.wb.turn ht fun b hb => (h.ap b hb).1, hp, tab_turn h.tab ht h.tf, ?_, h.ds, h.on, h.dry, fun b hb => ⟨fun e => ?_, (h.ap b hb).2⟩, h.lv, h.rm⟩
  · intro e
    rcases hF _ e with e | e
    · exact h.tf e
    · omega
  · rcases hF _ e with e | e
    · exact (h.ap b hb).1 e
    · have := h.glt hb
      omega
end
end Go.Proofs.YtbfeejkdlhdioaaDoor
