/-
  Routes: the landed table's calls as what the laws ask; arguments opened. No conditions.
-/
import Derived.Test.YtihmpbilbnajpaaRtU
import Derived.Test.YtihmpbilbnajpaaRtO
import Derived.Lib.SmallJoins
import Derived.OpenShut
namespace Go.Proofs.Ytihmpbilbnajpaa
open Go.RowKit Go.ChangeShapes Go.WideShapes Go.Deep
open Ix
open Rt (R)
set_option linter.unusedVariables false
set_option linter.unusedSimpArgs false
def TbF (t mb : Nat) (es : List RtV) : Nat → Prop := fun b => b = t ∨ b = mb ∨ LB es b
def AtX (w : World) (t : Nat) (F : Nat → Prop) (m : Int) (l : List R) : Prop := ∃ mb es, Tb w t mb m es ∧ es.map RtV.plain = l ∧ F = TbF t mb es
theorem apiX : Api AtX where
  turn := by
    rintro w w' t F G m l ⟨mb, es, h, rfl, rfl⟩ ht hn
    exact ⟨mb, es, h.turn ht (hn t (.inl rfl)) (hn mb (.inr (.inl rfl))) (fun b hb => hn b (.inr (.inr hb))), rfl, rfl⟩
  lt := by
    rintro w t b F m l ⟨mb, es, h, rfl, rfl⟩ (rfl | rfl | hb)
    · exact h.blk.lt
    · exact h.mp.lt
    · exact (h.lne hb).2.2
  srt := by
    rintro w t F m l ⟨mb, es, h, rfl, rfl⟩
    exact ⟨h.srt, by rw [List.length_map]; exact h.len⟩
  short := by
    rintro w t F m l ⟨mb, es, h, rfl, rfl⟩ x hx
    obtain ⟨e, he, rfl⟩ := List.mem_map.1 hx
    exact h.short e he
  new := by
    intro w A n c us m ha hr
    refine (New_walk ha hr).mono ?_
    rintro e w' (h | h | ⟨h1, h2, t, mb, es, rfl, htb, hpl, h3, h4, h5, h6⟩)
    · exact .inl h
    · exact .inr (.inl h)
    · exact .inr (.inr ⟨h1, h2, t, _, rfl, ⟨mb, es, htb, hpl, rfl⟩, fun b hb => by
        rcases hb with rfl | rfl | hb
        · exact h3
        · exact h4
        · exact h5 b hb, h6⟩)
  add := by
    rintro w t F m l r ⟨mb, es, h, rfl, rfl⟩ hr
    refine (Add_walk h hr).mono ?_
    rintro e w' ⟨rfl, es', htb, hpl, hlb, ht⟩
    exact ⟨rfl, _, ⟨mb, es', htb, hpl, rfl⟩, fun b hb => by
      rcases hb with rfl | rfl | hb
      · exact .inl (.inl rfl)
      · exact .inl (.inr (.inl rfl))
      · exact (hlb b hb).imp (fun h => .inr (.inr h)) (fun h => h), ht.mono fun b _ e => .inr (.inl e)⟩
  drop := by
    rintro w t F m l p ⟨mb, es, h, rfl, rfl⟩ hp
    refine (Drop_walk h hp).mono ?_
    rintro e w' ⟨rfl, es', htb, hpl, hlb, ht⟩
    exact ⟨rfl, _, ⟨mb, es', htb, hpl, rfl⟩, fun b hb => by
      rcases hb with rfl | rfl | hb
      · exact .inl (.inl rfl)
      · exact .inl (.inr (.inl rfl))
      · exact .inl (.inr (.inr (hlb b hb))), ht.mono fun b _ e => .inr (.inl e)⟩
  find := by
    rintro w t F m l p ⟨mb, es, h, rfl, rfl⟩ hp
    exact Find_walk h hp
  list := by
    rintro w t F m l ⟨mb, es, h, rfl, rfl⟩
    exact List_walk h
section
variable {H : Type} {enc : TypeId × Value → H} {W : World} {base : Nat} {spare : Nat → Bool} {held : Bool}
set_option maxRecDepth 20000 in
/-- the cells of a route that came in -/
theorem rtc_of {n : Nat} {cs : List Value} {y : DataW H × List MemPlace} (hy : DataW.trod enc Try.prog W base spare held n 38 cs = some y) (hwy : ∀ q ∈ y.1.weights Try.prog 38, q ≤ reachBytes) : ∃ r : RtV, cs = r.cells ∧ r.ok W := by
  obtain ⟨hl, m, hf⟩ := open_fldsW Try.underlying38 (by kernel_rfl) (by kernel_rfl) hy
  obtain ⟨c0, z0, e0, t0, _⟩ := hf 0 _ rfl
  obtain ⟨c1, z1, e1, t1, q1⟩ := hf 1 _ rfl
  obtain ⟨s, g0, _, ws⟩ := DataW.trod_string Try.underlying9 t0
  obtain ⟨A, n, c, zs, g1, i1, i2, i3, i4, i5⟩ := ints_of t1 fun q hq => hwy q (q1 q hq)
  injection g0 with g0
  subst g0 g1
  refine ⟨⟨s.data.toList, A, n, c, zs⟩, ?_, i1, i2, i3, i4, i5, by
    have h9 : s.data.toList.length ≤ maxLen := ws
    unfold maxLen at h9
    show s.data.toList.length ≤ _
    omega⟩
  have hl2 : cs.length = 2 := hl
  match cs, hl2 with
  | [a, b], _ =>
    cases e0
    cases e1
    rfl
/-- a route that came in -/
theorem rt_of {r : Reach} {b0 : Nat} {v : Value} {d : DataW H} {p : List MemPlace} (hv : Value.okWide Try.prog W r b0 38 v) (h : DataW.Trod enc Try.prog W base spare held 38 v d p) (hw : ∀ q ∈ d.weights Try.prog 38, q ≤ reachBytes) : ∃ r : RtV, v = .agg r.cells.toArray ∧ r.ok W := by
  obtain ⟨cs, rfl, hsz⟩ := okWide_struct Try.underlying38 hv
  obtain ⟨fuel, hf⟩ := h
  obtain ⟨r, e, hr⟩ := rtc_of hf hw
  have e : cs.toList = r.cells := e
  exact ⟨r, by rw [← e], hr⟩
set_option maxRecDepth 20000 in
/-- texts that came in -/
theorem texts_of {fuel : Nat} {v : Value} {x : DataW H × List MemPlace} (h : DataW.trod enc Try.prog W base spare held fuel 51 [v] = some x) (hw : ∀ q ∈ x.1.weights Try.prog 51, q ≤ reachBytes) :
    ∃ (A : Option Addr) (n c : Nat) (ks : List Key), v = .slice A n c ∧ TxA W A n ks := by
  obtain ⟨A, n, c, ks, h1, h2, _, _, _, h6, _⟩ := open_rwsW (by_ := 16) Try.underlying51 (k := 1) (by kernel_rfl) (by decide) (by kernel_rfl) (by decide) (fun k : Key => [strV k]) (fun k => k.length ≤ 9223372036854775807) [] (fun _ => rfl) (fun n cs y hy _ => by
    obtain ⟨s, g0, _, ws⟩ := DataW.trod_string Try.underlying9 hy
    refine ⟨s.data.toList, g0, ?_⟩
    have h9 : s.data.toList.length ≤ maxLen := ws
    unfold maxLen at h9
    omega) h hw
  exact ⟨A, n, c, ks, h1, h2, h6⟩
end
theorem routeOwn_walk (w : World) (A : Option Addr) (n c : Nat) (us : List RtV) (p : Key) (ha : RtsAt w A n us) (hr : n * 40 ≤ 140737488355328) (hp : p.length ≤ 9223372036854775807) : Calls Try.prog 6 #[.slice A n c, strV p] w fun e w' => e = .returned (.bool true) ∧ Below w.heap.size w w' :=
  (own_walk apiX ha hr hp).mono fun e w' ⟨h1, h2⟩ => ⟨h1, h2.below (Nat.le_refl _) fun _ _ e => e⟩
theorem routeLonger_walk (w : World) (A : Option Addr) (n c : Nat) (us : List RtV) (r : RtV) (p : Key) (ha : RtsAt w A n us) (hr : n * 40 ≤ 140737488355328) (hro : r.ok w) (hp : p.length ≤ 9223372036854775807) : Calls Try.prog 5 #[.slice A n c, .agg r.cells.toArray, strV p] w fun e w' => e = .returned (.bool true) ∧ Below w.heap.size w w' :=
  (longer_walk apiX ha hr hro hp).mono fun e w' ⟨h1, h2⟩ => ⟨h1, h2.below (Nat.le_refl _) fun _ _ e => e⟩
theorem routeOrder_walk (w : World) (A : Option Addr) (n c : Nat) (us : List RtV) (m : Int) (A2 : Option Addr) (n2 c2 : Nat) (ks : List Key) (ha : RtsAt w A n us) (hr : n * 40 ≤ 140737488355328) (hk : TxA w A2 n2 ks) : Calls Try.prog 4 #[.slice A n c, .int .i64 m, .slice A2 n2 c2] w fun e w' => e = .returned (.bool true) ∧ Below w.heap.size w w' :=
  (order_walk apiX ha hr hk).mono fun e w' ⟨h1, h2⟩ => ⟨h1, h2.below (Nat.le_refl _) fun _ _ e => e⟩
end Go.Proofs.Ytihmpbilbnajpaa
