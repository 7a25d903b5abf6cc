/-
  Index: Range. No conditions.
-/
import Derived.Test.YtmlkdkbpbleilaaIyJ
namespace Go.Proofs.Ytmlkdkbpbleilaa
open Go.RowKit Go.Shelf
open Ix
set_option linter.unusedVariables false
theorem Range_walk {w : World} {x : Nat} {fr to : Key} :
    Calls Try.prog 25 #[.pointer (some ⟨x, 0, none⟩), strV fr, strV to] w fun e w' => ∃ a b c, e = .returned (.func (.func 34) #[] #[.pointer (some ⟨a, 0, none⟩), .pointer (some ⟨b, 0, none⟩), .pointer (some ⟨c, 0, none⟩)]) ∧ Turn nowhere w w' ∧
      (w.heap.size ≤ a ∧ w.heap.size ≤ b ∧ w.heap.size ≤ c) ∧ Blk w' a 24 #[.pointer (some ⟨x, 0, none⟩)] ∧ Blk w' b 9 #[strV fr] ∧ Blk w' c 9 #[strV to] := by
  go_enter Try.func25, Try.ntmps25
  go_wp2_with fail
  go_ret
  have h1 := (Blk.new w 24 #[.pointer (some ⟨x, 0, none⟩)])
  have h2 := (Blk.new (w.alloc (.cells #[.pointer (some ⟨x, 0, none⟩)] 24)) 9 #[strV fr])
  have h3 := (Blk.new ((w.alloc (.cells #[.pointer (some ⟨x, 0, none⟩)] 24)).alloc (.cells #[strV fr] 9)) 9 #[strV to])
  rw [World.size_alloc] at h2
  rw [World.size_alloc, World.size_alloc] at h3
  have t1 : ∀ (V : World) o, Turn nowhere V (V.alloc o) := fun V o => (Turn.refl nowhere V).alloc o
  exact ⟨_, _, _, rfl, ((t1 _ _).alloc _).alloc _, ⟨Nat.le_refl _, by first | omega | simp, by first | omega | simp⟩, (h1.turn (t1 _ _) fun e => e).turn (t1 _ _) fun e => e, h2.turn (t1 _ _) fun e => e, h3⟩
end Go.Proofs.Ytmlkdkbpbleilaa
