/-
  Ledgers: a configuration that came in; the laws' walks as their statements ask. No conditions.
-/
import Derived.Test.YthoefjaapjaeeaaLgP
import Derived.Test.YthoefjaapjaeeaaLgS
namespace Go.Proofs.Ythoefjaapjaeeaa
open Go.RowKit Go.ChangeShapes Go.WideShapes Go.Deep
open Lg (Ent)
set_option linter.unusedVariables false
section
variable {H : Type} {enc : TypeId × Value → H} {P : Program} {w : World} {base : Nat} {spare : Nat → Bool} {held : Bool}
theorem slice_len {t e : TypeId} {fuel by_ : Nat} {v : Value} {x : DataW H × List MemPlace} (ht : P.underlying t = some (.slice e)) (hby : P.bytesOf e = by_) (hb1 : 1 ≤ by_) (h : DataW.trod enc P w base spare held fuel t [v] = some x) (hw : ∀ q ∈ x.1.weights P t, q ≤ reachBytes) :
    ∃ (A : Option Addr) (n c : Nat), v = .slice A n c ∧ n ≤ 140737488355328 := by
  rcases open_slice ht h with ⟨h0, hx0⟩ | ⟨a, len, cap, m, n, D, Pl, hcs, hb, hl, hm, hmm, rfl, hi⟩
  · injection h0 with h0
    exact ⟨none, 0, 0, h0, by omega⟩
  · injection hcs with hcs
    have hb2 : len * by_ ≤ reachBytes := by
      have := hw ((((List.range len).map D).length + ((List.range (m - len)).map fun j => D (len + j)).length) * P.bytesOf e) (by
        unfold DataW.weights
        simp only [ht]
        exact List.mem_cons_self ..)
      rw [hby] at this
      simp only [List.length_map, List.length_range] at this
      have h3 : len * by_ ≤ (len + (m - len)) * by_ := Nat.mul_le_mul_right _ (by omega)
      omega
    have h1 := reachBytes_lt
    have h2 : len * 1 ≤ len * by_ := Nat.mul_le_mul_left _ hb1
    exact ⟨some a, len, cap, hcs, by omega⟩
end
section
variable {H : Type} {enc : TypeId × Value → H} {W : World} {base : Nat} {spare : Nat → Bool} {held : Bool}
theorem three {m : Nat} {a b c : Value} {z : DataW H × List MemPlace} (h : DataW.trod enc Try.prog W base spare held m 43 [a, b, c] = some z) : ∃ x y t : Int, a = .int .i64 x ∧ b = .int .i64 y ∧ c = .int .i64 t := by
  obtain ⟨hl, m, hf⟩ := open_flds Try.underlying43 (by kernel_rfl) (by kernel_rfl) h
  obtain ⟨c0, z0, e0, t0⟩ := hf 0 _ rfl
  obtain ⟨c1, z1, e1, t1⟩ := hf 1 _ rfl
  obtain ⟨c2, z2, e2, t2⟩ := hf 2 _ rfl
  obtain ⟨x0, g0, _, _⟩ := DataW.trod_int Try.underlying3 t0
  obtain ⟨x1, g1, _, _⟩ := DataW.trod_int Try.underlying3 t1
  obtain ⟨x2, g2, _, _⟩ := DataW.trod_int Try.underlying3 t2
  injection g0 with g0
  injection g1 with g1
  injection g2 with g2
  subst g0 g1 g2
  cases e0
  cases e1
  cases e2
  exact ⟨x0, x1, x2, rfl, rfl, rfl⟩
set_option maxRecDepth 20000 in
theorem cfg_of {r : Reach} {b0 : Nat} {v : Value} {d : DataW H} {p : List MemPlace} (hv : Value.okWide Try.prog W r b0 45 v) (h : DataW.Trod enc Try.prog W base spare held 45 v d p) (hw : ∀ q ∈ d.weights Try.prog 45, q ≤ reachBytes) :
    ∃ k : Cfg, v = .agg k.cells ∧ k.n ≤ 140737488355328 := by
  obtain ⟨cs, rfl, hsz⟩ := okWide_struct Try.underlying45 hv
  obtain ⟨fuel, hf⟩ := h
  have hf : DataW.trod enc Try.prog W base spare held fuel 45 cs.toList = some (d, p) := hf
  obtain ⟨hl, m, hf⟩ := open_fldsN (k := 11) Try.underlying45 (by kernel_rfl) hf
  obtain ⟨z0, t0, q0⟩ := hf 0 _ 0 1 rfl (by kernel_rfl) (by kernel_rfl)
  obtain ⟨z1, t1, q1⟩ := hf 1 _ 1 1 rfl (by kernel_rfl) (by kernel_rfl)
  obtain ⟨z2, t2, _⟩ := hf 2 _ 2 3 rfl (by kernel_rfl) (by kernel_rfl)
  obtain ⟨z3, t3, _⟩ := hf 3 _ 5 3 rfl (by kernel_rfl) (by kernel_rfl)
  obtain ⟨z4, t4, _⟩ := hf 4 _ 8 1 rfl (by kernel_rfl) (by kernel_rfl)
  obtain ⟨z5, t5, _⟩ := hf 5 _ 9 1 rfl (by kernel_rfl) (by kernel_rfl)
  obtain ⟨z6, t6, _⟩ := hf 6 _ 10 1 rfl (by kernel_rfl) (by kernel_rfl)
  obtain ⟨l⟩ := cs
  have hl : l.length = 11 := hl
  match l, hl with
  | [a0, a1, a2, a3, a4, a5, a6, a7, a8, a9, a10], _ =>
    have t0 : DataW.trod enc Try.prog W base spare held m 40 [a0] = some z0 := t0
    have t1 : DataW.trod enc Try.prog W base spare held m 41 [a1] = some z1 := t1
    have t2 : DataW.trod enc Try.prog W base spare held m 43 [a2, a3, a4] = some z2 := t2
    have t3 : DataW.trod enc Try.prog W base spare held m 43 [a5, a6, a7] = some z3 := t3
    have t4 : DataW.trod enc Try.prog W base spare held m 3 [a8] = some z4 := t4
    have t5 : DataW.trod enc Try.prog W base spare held m 3 [a9] = some z5 := t5
    have t6 : DataW.trod enc Try.prog W base spare held m 3 [a10] = some z6 := t6
    obtain ⟨A, n, c, rfl, hn⟩ := slice_len (by_ := 64) Try.underlying40 (by kernel_rfl) (by decide) t0 fun q hq => hw q (q0 q hq)
    obtain ⟨A2, n2, c2, rfl, _⟩ := slice_len (by_ := 40) Try.underlying41 (by kernel_rfl) (by decide) t1 fun q hq => hw q (q1 q hq)
    obtain ⟨i1, i2, i3, rfl, rfl, rfl⟩ := three t2
    obtain ⟨f1, f2, f3, rfl, rfl, rfl⟩ := three t3
    obtain ⟨x4, e4, _, _⟩ := DataW.trod_int Try.underlying3 t4
    obtain ⟨x5, e5, _, _⟩ := DataW.trod_int Try.underlying3 t5
    obtain ⟨x6, e6, _, _⟩ := DataW.trod_int Try.underlying3 t6
    injection e4 with e4
    injection e5 with e5
    injection e6 with e6
    subst e4 e5 e6
    exact ⟨⟨A, n, c, A2, n2, c2, i1, i2, i3, f1, f2, f3, x4, x5, x6⟩, rfl, hn⟩
end
theorem ledgerApart_walk (A1 : Option Addr) (n1 c1 : Nat) (fs : List Ent) (A2 : Option Addr) (n2 c2 : Nat) (es : List Ent) (w : World) (h1 : EntAt w A1 n1 fs) (h2 : EntAt w A2 n2 es) (r1 : n1 * 16 ≤ 140737488351232) (r2 : n2 * 16 ≤ 140737488351232) :
    Calls Try.prog 7 #[.slice A1 n1 c1, .slice A2 n2 c2] w fun e w' => e = .returned (.bool true) ∧ Below w.heap.size w w' :=
  (apart_walk h1 h2 (by omega) (by omega)).mono fun e w' ⟨h1, h2⟩ => ⟨h1, h2.below (Nat.le_refl _) fun _ _ e => e⟩
theorem ledgerOrder_walk (A1 : Option Addr) (n1 c1 : Nat) (fs : List Ent) (A2 : Option Addr) (n2 c2 : Nat) (es : List Ent) (w : World) (h1 : EntAt w A1 n1 fs) (h2 : EntAt w A2 n2 es) (z1 : A1 = none → c1 = 0) (z2 : A2 = none → c2 = 0) (hb : n1 + n2 ≤ 1048576) :
    Calls Try.prog 6 #[.slice A1 n1 c1, .slice A2 n2 c2] w fun e w' => e = .returned (.bool true) ∧ Below w.heap.size w w' :=
  (order_walk h1 h2 z1 z2 (by omega) (by omega)).mono fun e w' ⟨h1, h2⟩ => ⟨h1, h2.below (Nat.le_refl _) fun _ _ e => e⟩
theorem ledgerPays_walk (k : Cfg) (acq iss amt : Int) (A : Option Addr) (n c : Nat) (es : List Ent) (w : World) (hk : k.n ≤ 140737488355328) (ha : Mn.in64 acq) (hi : Mn.in64 iss) (h1 : EntAt w A n es) (z1 : A = none → c = 0) (r1 : n * 16 ≤ 140737488351232) :
    Calls Try.prog 4 #[.agg k.cells, .agg #[.int .i64 acq, .int .i64 iss, .int .i64 amt], .slice A n c] w fun e w' => e = .returned (.bool true) ∧ Below w.heap.size w w' :=
  (pays_walk ⟨ha, hi⟩ hk h1 z1 (by omega)).mono fun e w' ⟨h1, h2⟩ => ⟨h1, h2.below (Nat.le_refl _) fun _ _ e => e⟩
theorem ledgerNought_walk (k : Cfg) (A : Option Addr) (n c : Nat) (vs : List EnV) (acq iss amt : Int) (w : World) (hk : k.n ≤ 140737488355328) (h1 : EnsAt w A n vs) (r1 : n ≤ 140737488355328) (ha : Mn.in64 acq) (hi : Mn.in64 iss) :
    Calls Try.prog 5 #[.agg k.cells, .slice A n c, .agg #[.int .i64 acq, .int .i64 iss, .int .i64 amt]] w fun e w' => e = .returned (.bool true) ∧ Below w.heap.size w w' :=
  (nought_walk ⟨ha, hi⟩ hk h1 r1).mono fun e w' ⟨h1, h2⟩ => ⟨h1, h2.below (Nat.le_refl _) fun _ _ e => e⟩
theorem ledgerPosts_walk (ac : Int) (A : Option Addr) (n c : Nat) (vs : List EnV) (cl : Int) (w : World) (h1 : EnsAt w A n vs) (r1 : n ≤ 140737488355328) (hs : ∀ v ∈ vs, v.n ≤ 1048576) :
    Calls Try.prog 3 #[.int .i64 ac, .slice A n c, .int .i64 cl] w fun e w' => e = .returned (.bool true) ∧ Below w.heap.size w w' :=
  (posts_walk h1 r1 hs).mono fun e w' ⟨h1, h2⟩ => ⟨h1, h2.below (Nat.le_refl _) fun _ _ e => e⟩
end Go.Proofs.Ythoefjaapjaeeaa
