/-
  Rows of numbers and of routes in memory; small laws. No conditions.
-/
import Derived.Test.YtihmpbilbnajpaaStk
import Derived.Test.YtihmpbilbnajpaaRtM
import Derived.Test.YtihmpbilbnajpaaGnl
import Derived.Test.YtihmpbilbnajpaaGrc
import Derived.Test.YtihmpbilbnajpaaAwk
import Derived.Test.YtihmpbilbnajpaaRwo
import Derived.Test.YtihmpbilbnajpaaBytes
import Derived.Laws.Slices
import Derived.Deep.Cut
import Derived.Deep.LoopGhost
import Derived.WalkSmall
import Derived.Deep.QuietTactic
import Derived.BigQuiet
namespace Go.Proofs.Ytihmpbilbnajpaa
open Go.RowKit Go.ChangeShapes Go.WideShapes Go.Deep
open Ix
set_option linter.unusedVariables false
set_option linter.unusedSimpArgs false
def one1 (z : Int) : List Value := [.int .i64 z]
/-- a row of numbers -/
def IA (w : World) (A : Option Addr) (n : Nat) (zs : List Int) : Prop := Rws w 1 A n (zs.map one1)
theorem IA.len {w : World} {A : Option Addr} {n : Nat} {zs : List Int} (h : IA w A n zs) : n = zs.length := by
  have := h.1
  rw [List.length_map] at this
  omega
theorem IA.still {w w' : World} {A : Option Addr} {n : Nat} {zs : List Int} (h : IA w A n zs) (ht : Turn nowhere w w') : IA w' A n zs := Rws.still h ht
theorem IA.at_ {w : World} {A : Option Addr} {n : Nat} {zs : List Int} (h : IA w A n zs) (hn : 0 < n) : ∃ b off, A = some ⟨b, off, none⟩ ∧ ∀ i z, zs[i]? = some z → w.cell? ⟨b, off + i * 1, none⟩ = some (.int .i64 z) := by
  obtain ⟨b, off, e, hc⟩ := h.2.2.2 hn
  refine ⟨b, off, e, fun i z hz => ?_⟩
  have := hc i (one1 z) (by rw [List.getElem?_map, hz]; rfl) 0 _ rfl
  exact this
theorem size_int : (Try.prog.info? 3).map (·.size) = some 1 := by kernel_rfl
theorem size_rt : (Try.prog.info? 38).map (·.size) = some 2 := by kernel_rfl
theorem elmI : Elm Try.prog 36 3 1 8 (.int .i64 0) := ⟨Try.underlying36, by kernel_rfl, rfl, by decide, by decide⟩
theorem elmRt : Elm Try.prog 22 38 2 40 (.agg #[.string ByteArray.empty, .slice none 0 0]) := ⟨Try.underlying22, by kernel_rfl, rfl, by decide, by decide⟩
/-- a route in memory: its prefix, where its members lie, which they are -/
structure RtV where
  pre : Key
  A : Option Addr
  n : Nat
  c : Nat
  to_ : List Int
def RtV.cells (r : RtV) : List Value := [strV r.pre, .slice r.A r.n r.c]
def RtV.plain (r : RtV) : Rt.R := (r.pre, r.to_)
structure RtV.ok (w : World) (r : RtV) : Prop where
  ia : IA w r.A r.n r.to_
  le : r.n ≤ r.c
  nil : r.A = none → r.c = 0
  room : r.n * 8 ≤ 140737488355328
  wf : ∀ z ∈ r.to_, -9223372036854775808 ≤ z ∧ z ≤ 9223372036854775807
  pl : r.pre.length ≤ 9223372036854775807
theorem RtV.one (r : RtV) : ∀ u ∈ r.cells, u.oneCell' = true := fun u hu => by
  simp only [RtV.cells, List.mem_cons, List.not_mem_nil, or_false] at hu
  rcases hu with rfl | rfl <;> rfl
theorem RtV.ok.still {w w' : World} {r : RtV} (h : r.ok w) (ht : Turn nowhere w w') : r.ok w' := ⟨h.ia.still ht, h.le, h.nil, h.room, h.wf, h.pl⟩
/-- routes in memory -/
def RtsAt (w : World) (A : Option Addr) (n : Nat) (vs : List RtV) : Prop := Rws w 2 A n (vs.map RtV.cells) ∧ ∀ v ∈ vs, v.ok w
theorem RtsAt.still {w w' : World} {A : Option Addr} {n : Nat} {vs : List RtV} (h : RtsAt w A n vs) (ht : Turn nowhere w w') : RtsAt w' A n vs := ⟨h.1.still ht, fun v hv => (h.2 v hv).still ht⟩
theorem RtsAt.len {w : World} {A : Option Addr} {n : Nat} {vs : List RtV} (h : RtsAt w A n vs) : n = vs.length := by
  have := h.1.1
  rw [List.length_map] at this
  omega
theorem Rws.el {w : World} {k n b off : Nat} {rs : List (List Value)} (h : Rws w k (some ⟨b, off, none⟩) n rs) {i : Nat} {r : List Value} (hr : rs[i]? = some r) : w.rangeAt b (off + i * k) r := fun j u hu => by
  obtain ⟨b', off', e, hc⟩ := h.at_ hr
  injection e with e
  injection e with e1 e2 e3
  subst e1 e2
  exact hc j u hu
theorem build0I (w : World) : (Instr.buildSlice 36 0 #[]).run Try.prog w = .ok (.slice (some ⟨w.heap.size, 0, none⟩) 0 0) (w.alloc (.cells #[] 3)) := by kernel_rfl
theorem build0T (w : World) : (Instr.buildSlice 22 0 #[]).run Try.prog w = .ok (.slice (some ⟨w.heap.size, 0, none⟩) 0 0) (w.alloc (.cells #[] 38)) := by kernel_rfl
theorem buildRt (k : Key) (A : Option Addr) (n c : Nat) (W : World) : (Instr.build 38 #[(0, strV k), (1, .slice A n c)]).run Try.prog W = .ok (.agg #[strV k, .slice A n c]) W := by kernel_rfl
section
variable {H : Type} {enc : TypeId × Value → H} {w : World} {base : Nat} {spare : Nat → Bool} {held : Bool}
set_option maxRecDepth 20000 in
/-- a slice of numbers that came in -/
theorem ints_of {fuel : Nat} {v : Value} {x : DataW H × List MemPlace} (h : DataW.trod enc Try.prog w base spare held fuel 36 [v] = some x) (hw : ∀ q ∈ x.1.weights Try.prog 36, q ≤ reachBytes) :
    ∃ (A : Option Addr) (n c : Nat) (zs : List Int), v = .slice A n c ∧ IA w A n zs ∧ n ≤ c ∧ (A = none → c = 0) ∧ n * 8 ≤ 140737488355328 ∧ ∀ z ∈ zs, -9223372036854775808 ≤ z ∧ z ≤ 9223372036854775807 := by
  obtain ⟨A, n, c, zs, h1, h2, h3, h4, h5, h6, _⟩ := open_rwsW (by_ := 8) Try.underlying36 (k := 1) (by kernel_rfl) (by decide) (by kernel_rfl) (by decide) one1 (fun z => -9223372036854775808 ≤ z ∧ z ≤ 9223372036854775807) 0 (fun _ => rfl) (fun n cs y hy _ => by
    obtain ⟨x0, g0, _, w0⟩ := DataW.trod_int Try.underlying3 hy
    exact ⟨x0, g0, i64_in w0⟩) h hw
  have := reachBytes_lt
  exact ⟨A, n, c, zs, h1, h2, h3, h4, by omega, h6⟩
set_option maxRecDepth 20000 in
/-- routes that came in -/
theorem routes_of {fuel : Nat} {v : Value} {x : DataW H × List MemPlace} (h : DataW.trod enc Try.prog w base spare held fuel 22 [v] = some x) (hw : ∀ q ∈ x.1.weights Try.prog 22, q ≤ reachBytes) :
    ∃ (A : Option Addr) (n c : Nat) (vs : List RtV), v = .slice A n c ∧ RtsAt w A n vs ∧ n ≤ c ∧ (A = none → c = 0) ∧ n * 40 ≤ 140737488355328 := by
  obtain ⟨A, n, c, vs, h1, h2, h3, h4, h5, h6, _⟩ := open_rwsW (by_ := 40) Try.underlying22 (k := 2) (by kernel_rfl) (by decide) (by kernel_rfl) (by decide) RtV.cells (fun v => v.ok w) ⟨[], none, 0, 0, []⟩ (fun _ => rfl) (fun n cs y hy hwy => by
    obtain ⟨hl, m, hf⟩ := open_fldsW Try.underlying38 (by kernel_rfl) (by kernel_rfl) hy
    obtain ⟨c0, z0, e0, t0, _⟩ := hf 0 _ rfl
    obtain ⟨c1, z1, e1, t1, q1⟩ := hf 1 _ rfl
    obtain ⟨s, g0, _, ws⟩ := DataW.trod_string Try.underlying9 t0
    obtain ⟨A, n, c, zs, g1, i1, i2, i3, i4, i5⟩ := ints_of t1 fun q hq => hwy q (q1 q hq)
    injection g0 with g0
    subst g0 g1
    refine ⟨⟨s.data.toList, A, n, c, zs⟩, ?_, i1, i2, i3, i4, i5, by
      have h9 : s.data.toList.length ≤ maxLen := ws
      unfold maxLen at h9
      show s.data.toList.length ≤ _
      omega⟩
    have hl2 : cs.length = 2 := hl
    match cs, hl2 with
    | [a, b], _ =>
      cases e0
      cases e1
      rfl) h hw
  have := reachBytes_lt
  exact ⟨A, n, c, vs, h1, ⟨h2, h6⟩, h3, h4, by omega⟩
end
end Go.Proofs.Ytihmpbilbnajpaa
