/-
  PlantPlays: its arguments that came in; the law's walk as its frame wants it. No conditions.
-/
import Derived.Test.YteedjfgandgbkaaPpO
import Derived.Test.YteedjfgandgbkaaKsOf
import Derived.Test.YteedjfgandgbkaaBulk
import Derived.Test.YteedjfgandgbkaaRwn
import Derived.Test.YteedjfgandgbkaaRwo
namespace Go.Proofs.Yteedjfgandgbkaa
open Go.RowKit Go.ChangeShapes Go.WideShapes Go.Deep
set_option linter.unusedVariables false
section
variable {H : Type} {enc : TypeId × Value → H} {W : World} {base : Nat} {spare : Nat → Bool} {held : Bool}
theorem ks_of {fuel : Nat} {v : Value} {x : DataW H × List MemPlace} (h : DataW.trod enc Try.prog W base spare held fuel 22 [v] = some x) : ∃ (A : Option Addr) (n c : Nat) (zs : List Int), v = .slice A n c ∧ Ks W nowhere A n zs := by
  rcases open_ints Try.underlying22 Try.underlying3 (by kernel_rfl) h with ⟨hcs, hx⟩ | ⟨x, l, c, zs, hcs, _, hl, hm, hz, hx, hcell, hwz⟩
  · injection hcs with hcs
    exact ⟨none, 0, 0, [], hcs, ks_of_none W⟩
  · injection hcs with hcs
    exact ⟨some x, l, c, _, hcs, ks_of_ints (cap := if spare x.block = true then c else l) (by split <;> omega) (by split <;> omega) (by simpa using hz) hcell⟩
theorem one_byteP {v : Value} {n : Nat} {y : DataW H × List MemPlace} (h : DataW.trod enc Try.prog W base spare held n 5 [v] = some y) : ∃ c : UInt8, v = .int .u8 (c.toNat : Int) := by
  obtain ⟨m, h0, _, hw⟩ := DataW.trod_int Try.underlying5 h
  cases h0
  have hr : 0 ≤ m ∧ m ≤ 255 := by simpa [Lit.wf, IntKind.min, IntKind.max, IntKind.signed, IntKind.bits] using hw
  refine ⟨UInt8.ofNat m.toNat, ?_⟩
  rw [UInt8.toNat_ofNat', show ((m.toNat % 2 ^ 8 : Nat) : Int) = m from by omega]
set_option maxRecDepth 20000 in
theorem ops_of3 {fuel : Nat} {v : Value} {x : DataW H × List MemPlace} (h : DataW.trod enc Try.prog W base spare held fuel 23 [v] = some x) (hw : ∀ q ∈ x.1.weights Try.prog 23, q ≤ reachBytes) :
    ∃ (A : Option Addr) (n c : Nat) (os : List OpP), v = .slice A n c ∧ OpsP W A n os ∧ n ≤ Rows.uptoBulk x.1 := by
  obtain ⟨A, n, c, os, h1, h2, _, _, _, h6, h7⟩ := open_rwsW (by_ := 64) Try.underlying23 (k := 6) (by kernel_rfl) (by decide) (by kernel_rfl) (by decide) OpP.cells (fun o => o.ok W) ⟨0, 0, 0, 0, 0, none, 0, 0, []⟩ (fun _ => rfl) (fun n cs y hy hwy => by
    obtain ⟨hl, m, hf⟩ := open_fldsN (k := 6) Try.underlying35 (by kernel_rfl) hy
    obtain ⟨z0, t0, _⟩ := hf 0 _ 0 1 rfl (by kernel_rfl) (by kernel_rfl)
    obtain ⟨z1, t1, _⟩ := hf 1 _ 1 1 rfl (by kernel_rfl) (by kernel_rfl)
    obtain ⟨z2, t2, _⟩ := hf 2 _ 2 1 rfl (by kernel_rfl) (by kernel_rfl)
    obtain ⟨z3, t3, _⟩ := hf 3 _ 3 1 rfl (by kernel_rfl) (by kernel_rfl)
    obtain ⟨z4, t4, _⟩ := hf 4 _ 4 1 rfl (by kernel_rfl) (by kernel_rfl)
    obtain ⟨z5, t5, _⟩ := hf 5 _ 5 1 rfl (by kernel_rfl) (by kernel_rfl)
    match cs, hl with
    | [a, b, c, d, e, f], _ =>
      have t0 : DataW.trod enc Try.prog W base spare held m 3 [a] = some z0 := t0
      have t1 : DataW.trod enc Try.prog W base spare held m 3 [b] = some z1 := t1
      have t2 : DataW.trod enc Try.prog W base spare held m 3 [c] = some z2 := t2
      have t3 : DataW.trod enc Try.prog W base spare held m 3 [d] = some z3 := t3
      have t4 : DataW.trod enc Try.prog W base spare held m 5 [e] = some z4 := t4
      have t5 : DataW.trod enc Try.prog W base spare held m 22 [f] = some z5 := t5
      obtain ⟨k0, e0, _, w0⟩ := DataW.trod_int Try.underlying3 t0
      obtain ⟨k1, e1, _, w1⟩ := DataW.trod_int Try.underlying3 t1
      obtain ⟨k2, e2, _, w2⟩ := DataW.trod_int Try.underlying3 t2
      obtain ⟨k3, e3, _, w3⟩ := DataW.trod_int Try.underlying3 t3
      obtain ⟨k4, e4⟩ := one_byteP t4
      obtain ⟨A, n, cp, zs, e5, hks⟩ := ks_of t5
      injection e0 with e0
      injection e1 with e1
      injection e2 with e2
      injection e3 with e3
      subst e0 e1 e2 e3 e4 e5
      exact ⟨⟨k0, k1, k2, k3, k4, A, n, cp, zs⟩, rfl, ⟨i64_in w0, i64_in w1, i64_in w2, i64_in w3, hks⟩⟩) h hw
  refine ⟨A, n, c, os, h1, ⟨h2, h6⟩, ?_⟩
  rcases h7 with ⟨_, h8⟩ | ⟨D, E, h8, h9⟩
  · omega
  · rw [h8]
    have := bulk_slice D E
    omega
end
theorem plantPlays_walk (A : Option Addr) (n c : Nat) (zs : List Int) (A2 : Option Addr) (n2 c2 : Nat) (os : List OpP) (w : World) (ha : Ks w nowhere A n zs) (hk : OpsP w A2 n2 os) (hn : n2 ≤ 1048576) : Calls Try.prog 3 #[.slice A n c, .slice A2 n2 c2] w fun e w' => e = .returned (.bool true) ∧ Below w.heap.size w w' :=
  (plays_walk ha hk hn).mono fun e w' ⟨h1, h2⟩ => ⟨h1, h2.below (Nat.le_refl _) fun _ _ e => e⟩
end Go.Proofs.Yteedjfgandgbkaa
