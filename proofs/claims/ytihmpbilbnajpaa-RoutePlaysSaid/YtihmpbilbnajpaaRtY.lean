/-
  Routes: the calls of RoutePlays that came in; the law's walk as its frame wants it. No conditions.
-/
import Derived.Test.YtihmpbilbnajpaaRtX
import Derived.Test.YtihmpbilbnajpaaRwn
namespace Go.Proofs.Ytihmpbilbnajpaa
open Go.RowKit Go.ChangeShapes Go.WideShapes Go.Deep
open Ix
open Rt (R)
set_option linter.unusedVariables false
section
variable {H : Type} {enc : TypeId × Value → H} {W : World} {base : Nat} {spare : Nat → Bool} {held : Bool}
set_option maxRecDepth 20000 in
theorem ops_of11 {fuel : Nat} {v : Value} {x : DataW H × List MemPlace} (h : DataW.trod enc Try.prog W base spare held fuel 23 [v] = some x) (hw : ∀ q ∈ x.1.weights Try.prog 23, q ≤ reachBytes) :
    ∃ (A : Option Addr) (n c : Nat) (os : List OpR), v = .slice A n c ∧ OpsAt W A n os := by
  obtain ⟨A, n, c, os, h1, h2, _, _, _, h6, _⟩ := open_rwsW (by_ := 64) Try.underlying23 (k := 4) (by kernel_rfl) (by decide) (by kernel_rfl) (by decide) OpR.cells (fun o => o.ok W) ⟨0, ⟨[], none, 0, 0, []⟩, []⟩ (fun _ => rfl) (fun n cs y hy hwy => by
    obtain ⟨hl, m, hf⟩ := open_fldsN (k := 4) Try.underlying40 (by kernel_rfl) hy
    obtain ⟨z0, t0, _⟩ := hf 0 _ 0 1 rfl (by kernel_rfl) (by kernel_rfl)
    obtain ⟨z1, t1, q1⟩ := hf 1 _ 1 2 rfl (by kernel_rfl) (by kernel_rfl)
    obtain ⟨z2, t2, _⟩ := hf 2 _ 3 1 rfl (by kernel_rfl) (by kernel_rfl)
    match cs, hl with
    | [a, b, c, d], _ =>
      have t0 : DataW.trod enc Try.prog W base spare held m 3 [a] = some z0 := t0
      have t1 : DataW.trod enc Try.prog W base spare held m 38 [b, c] = some z1 := t1
      have t2 : DataW.trod enc Try.prog W base spare held m 9 [d] = some z2 := t2
      obtain ⟨k, e0, _, w0⟩ := DataW.trod_int Try.underlying3 t0
      obtain ⟨r, e1, hr⟩ := rtc_of t1 fun q hq => hwy q (q1 q hq)
      obtain ⟨s, e2, _, ws⟩ := DataW.trod_string Try.underlying9 t2
      have h9 : s.data.toList.length ≤ maxLen := ws
      unfold maxLen at h9
      refine ⟨⟨k, r, s.data.toList⟩, ?_, i64_in w0, hr, by show s.data.toList.length ≤ _; omega⟩
      injection e0 with e0
      injection e2 with e2
      subst e0 e2
      show _ = _ :: (r.cells ++ _)
      rw [← e1]
      rfl) h hw
  exact ⟨A, n, c, os, h1, h2, h6⟩
end
theorem routePlays_walk (w : World) (A : Option Addr) (n c : Nat) (us : List RtV) (m : Int) (A2 : Option Addr) (n2 c2 : Nat) (os : List OpR) (ha : RtsAt w A n us) (hr : n * 40 ≤ 140737488355328) (hk : OpsAt w A2 n2 os) : Calls Try.prog 3 #[.slice A n c, .int .i64 m, .slice A2 n2 c2] w fun e w' => e = .returned (.bool true) ∧ Below w.heap.size w w' :=
  (plays_walk ha hr hk).mono fun e w' ⟨h1, h2⟩ => ⟨h1, h2.below (Nat.le_refl _) fun _ _ e => e⟩
end Go.Proofs.Ytihmpbilbnajpaa
