/-
  The reference plant's Write behind its questions: one write more waits. Condition: fewer than 2^40 wait.
-/
import Derived.Test.YteedjfgandgbkaaRfH
import Derived.Test.YteedjfgandgbkaaPure
namespace Go.Proofs.Yteedjfgandgbkaa
open Go.RowKit Go.Maps
set_option linter.unusedVariables false
set_option linter.unusedSimpArgs false
theorem info_waitR : (Try.prog.info? 72).map (fun i => (i.zero, i.size, i.bytes)) = some (some (.agg #[.int .i64 0, .int .i64 0, .slice none 0 0]), 3, 40) := by kernel_rfl
theorem build_waitR (x y : Int) (A : Option Addr) (n c : Nat) (W : World) : (Instr.build 72 #[(0, .int .i64 x), (1, .int .i64 y), (2, .slice A n c)]).run Try.prog W = .ok (.agg #[.int .i64 x, .int .i64 y, .slice A n c]) W := by kernel_rfl
/-- one more waits -/
theorem waits_more {w w' : World} {wv v' : Value} {R : List WtR} {x : WtR} {A : Option Addr} {c : Nat} (hw : WaitsR w wv R) (ho : w'.ownsRow 0 72 3 v' (R.length + 1) ((Classical.choose hw) ++ [.int .i64 (x.1 : Int), .int .i64 x.2.1, .slice A 64 c])) (hx : SecV w' (.slice A 64 c) (some x.2.2)) (hk : ∀ u s, SecV w u (some s) → SecV w' u (some s)) : WaitsR w' v' (R ++ [x]) := by
  have h1 := (Classical.choose_spec hw).1
  have h2 := (Classical.choose_spec hw).2
  generalize Classical.choose hw = vals at *
  have hl : vals.length = R.length * 3 := h1.1
  refine ⟨vals ++ [.int .i64 (x.1 : Int), .int .i64 x.2.1, .slice A 64 c], by rw [List.length_append]; exact ho, fun i y hi => ?_⟩
  by_cases hlt : i < R.length
  · rw [List.getElem?_append_left hlt] at hi
    obtain ⟨e0, e1, u, e2, hs⟩ := h2 i y hi
    exact ⟨by rw [List.getElem?_append_left (by omega)]; exact e0, by rw [List.getElem?_append_left (by omega)]; exact e1, u, by rw [List.getElem?_append_left (by omega)]; exact e2, hk _ _ hs⟩
  · have hi0 : i = R.length := by
      have := (List.getElem?_eq_some_iff.1 hi).1
      simp at this
      omega
    subst hi0
    have hxy : x = y := by simpa using hi
    subst hxy
    refine ⟨?_, ?_, _, ?_, hx⟩
    · rw [List.getElem?_append_right (by omega), hl, Nat.sub_self]; rfl
    · rw [List.getElem?_append_right (by omega), show R.length * 3 + 1 - vals.length = 1 from by omega]; rfl
    · rw [List.getElem?_append_right (by omega), show R.length * 3 + 2 - vals.length = 2 from by omega]; rfl
end Go.Proofs.Yteedjfgandgbkaa
