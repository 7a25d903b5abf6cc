/-
  A queue's calls as an argument; a row of booleans as an argument. No conditions.
-/
import Derived.Test.YtkcedcllefcboaaSfK
import Derived.Test.YtkcedcllefcboaaRwo
import Derived.SizedLaws
import Derived.OpenShut
import Derived.Lib.SmallJoins
namespace Go.Proofs.Ytkcedcllefcboaa
open Go.RowKit Go.ChangeShapes Go.WideShapes Go.Deep
set_option linter.unusedVariables false
set_option linter.unusedSimpArgs false
set_option maxRecDepth 20000
def boolC (b : Bool) : List Value := [.bool b]
/-- a call as it came in -/
structure SOp where
  kd : Int
  nm : List UInt8
  ty : Int
  A : Option Addr
  n : Nat
  c : Nat
  fs : List Fld
def SOp.cells (o : SOp) : List Value := [.int .i64 o.kd, strV o.nm, .int .i64 o.ty, .slice o.A o.n o.c]
theorem reach_eqS : reachBytes = 140737488351232 := by decide
structure SOp.okay (w : World) (o : SOp) : Prop where
  kd : -9223372036854775808 ≤ o.kd ∧ o.kd ≤ 9223372036854775807
  nm : o.nm.length ≤ 281474976710656
  nil : o.A = none → o.c = 0
  fs : Fq w o.A o.n o.fs
  sh : shortF o.fs
structure OpAt (w : World) (A : Option Addr) (n : Nat) (os : List SOp) : Prop where
  row : Rws w 4 A n (os.map SOp.cells)
  ok : ∀ o ∈ os, o.okay w
theorem SOp.okay.still {w w' : World} {o : SOp} (h : o.okay w) (ht : Turn nowhere w w') : o.okay w' := ⟨h.kd, h.nm, h.nil, h.fs.still ht, h.sh⟩
theorem OpAt.still {w w' : World} {A : Option Addr} {n : Nat} {os : List SOp} (h : OpAt w A n os) (ht : Turn nowhere w w') : OpAt w' A n os := ⟨h.row.still ht, fun o ho => (h.ok o ho).still ht⟩
theorem OpAt.len {w : World} {A : Option Addr} {n : Nat} {os : List SOp} (h : OpAt w A n os) : os.length = n := by
  have := h.row.1
  rwa [List.length_map] at this
theorem OpAt.rng {w : World} {A : Option Addr} {n : Nat} {os : List SOp} (h : OpAt w A n os) {i : Nat} {o : SOp} (ho : os[i]? = some o) : ∃ b off, A = some ⟨b, off, none⟩ ∧ w.rangeAt b (off + i * 4) o.cells := by
  obtain ⟨b, off, hA, hc⟩ := h.row.at_ (i := i) (r := o.cells) (by rw [List.getElem?_map, ho]; rfl)
  exact ⟨b, off, hA, fun j v hv => hc j v hv⟩
section
variable {H : Type} {enc : TypeId × Value → H} {W : World} {base : Nat} {spare : Nat → Bool} {held : Bool}
theorem i64_ofS {k : Int} (w : (Lit.int .i64 k).wf = true) : -9223372036854775808 ≤ k ∧ k ≤ 9223372036854775807 := i64_in w
set_option maxRecDepth 20000 in
theorem fq_of {fuel : Nat} {v : Value} {x : DataW H × List MemPlace} (h : DataW.trod enc Try.prog W base spare held fuel 33 [v] = some x) (hw : ∀ q ∈ x.1.weights Try.prog 33, q ≤ reachBytes) :
    ∃ (A : Option Addr) (n c : Nat) (fs : List Fld), v = .slice A n c ∧ Fq W A n fs ∧ (A = none → c = 0) ∧ shortF fs := by
  obtain ⟨A, n, c, fs, h1, h2, h3, h4, h5, h6, _⟩ := open_rwsW (by_ := 24) Try.underlying33 (k := 2) (by kernel_rfl) (by decide) (by kernel_rfl) (by decide) fldL (fun f : Fld => f.2.length ≤ 281474976710656) (0, []) (fun _ => rfl) (fun n cs y hy hwy => by
    obtain ⟨hl, m, hf⟩ := open_fldsW Try.underlying41 (by kernel_rfl) (by kernel_rfl) hy
    obtain ⟨c0, z0, e0, t0, _⟩ := hf 0 _ rfl
    obtain ⟨c1, z1, e1, t1, q1⟩ := hf 1 _ rfl
    obtain ⟨k, g0, _, _⟩ := DataW.trod_int Try.underlying3 t0
    obtain ⟨s, g1, hz1, ws⟩ := DataW.trod_string Try.underlying9 t1
    injection g0 with g0
    injection g1 with g1
    subst g0 g1
    have hs := hwy s.data.toList.length (q1 _ (by
      rw [hz1]
      simp [DataW.weights]))
    rw [reach_eqS] at hs
    refine ⟨(k, s.data.toList), ?_, by show s.data.toList.length ≤ _; omega⟩
    have hl2 : cs.length = 2 := hl
    match cs, hl2 with
    | [a, b], _ =>
      cases e0
      cases e1
      rfl) h hw
  have := reachBytes_lt
  exact ⟨A, n, c, fs, h1, ⟨h2, by omega⟩, h4, h6⟩
/-- a struct, whatever its fields: each field's cells with their reading, and its weights -/
theorem open_fldsN {P : Program} {e : TypeId} {fs : Array Go.Field} {n : Nat} {cs : List Value} {y : DataW H × List MemPlace} (he : P.underlying e = some (.struct fs)) (h : DataW.trod enc P W base spare held n e cs = some y) :
    cs.length = P.cellsOf e ∧ ∃ m : Nat, ∀ (j : Nat) (f : Go.Field), fs[j]? = some f → ∃ z : DataW H × List MemPlace, DataW.trod enc P W base spare held m f.type ((cs.drop f.offset).take (P.cellsOf f.type)) = some z ∧ ∀ q ∈ z.1.weights P f.type, q ∈ y.1.weights P e := by
  obtain ⟨ys, m, _, hy0, hl, hlen, hf⟩ := DataW.trod_struct he h
  refine ⟨hl, m, fun j f hj => ?_⟩
  have hjl : j < fs.size := (Array.getElem?_eq_some_iff.1 hj).1
  have hy : ys[j]? = some (ys[j]'(by omega)) := List.getElem?_eq_getElem (by omega)
  refine ⟨ys[j]'(by omega), (hf j f hj).trans hy, fun q hq => ?_⟩
  rw [hy0]
  unfold DataW.weights
  simp only [he]
  exact DataW.weights_mem_each (j := j) (t := f.type) (by simp [hj]) (by rw [List.getElem?_map, hy]; rfl) q hq
set_option maxRecDepth 20000 in
theorem sops16_of {fuel : Nat} {v : Value} {x : DataW H × List MemPlace} (h : DataW.trod enc Try.prog W base spare held fuel 22 [v] = some x) (hw : ∀ q ∈ x.1.weights Try.prog 22, q ≤ reachBytes) :
    ∃ (A : Option Addr) (n c : Nat) (os : List SOp), v = .slice A n c ∧ OpAt W A n os := by
  obtain ⟨A, n, c, os, h1, h2, _, _, _, h3, _⟩ := open_rwsW (by_ := 56) Try.underlying22 (k := 4) (by kernel_rfl) (by decide) (by kernel_rfl) (by decide) SOp.cells (SOp.okay W) ⟨0, [], 0, none, 0, 0, []⟩ (fun _ => rfl) (fun n cs y hy hwy => by
    obtain ⟨hl, m, hf⟩ := open_fldsN Try.underlying37 hy
    obtain ⟨z0, t0, _⟩ := hf 0 _ rfl
    obtain ⟨z1, t1, q1⟩ := hf 1 _ rfl
    obtain ⟨z2, t2, q2⟩ := hf 2 _ rfl
    have hl4 : cs.length = 4 := hl
    match cs, hl4 with
    | [a, b, c, d], _ =>
      obtain ⟨x0, g0, _, w0⟩ := DataW.trod_int Try.underlying3 (show DataW.trod enc Try.prog W base spare held m 3 [a] = some z0 from t0)
      obtain ⟨s1, g1, hz1, w1⟩ := DataW.trod_string Try.underlying9 (show DataW.trod enc Try.prog W base spare held m 9 [b] = some z1 from t1)
      obtain ⟨_, m2, hf2⟩ := open_fldsN Try.underlying35 (show DataW.trod enc Try.prog W base spare held m 35 [c, d] = some z2 from t2)
      obtain ⟨z3, t3, _⟩ := hf2 0 _ rfl
      obtain ⟨z4, t4, q4⟩ := hf2 1 _ rfl
      obtain ⟨x2, g2, _, w2⟩ := DataW.trod_int Try.underlying3 (show DataW.trod enc Try.prog W base spare held m2 3 [c] = some z3 from t3)
      obtain ⟨A4, n4, c4, fs4, rfl, hfq, hnil, hsh⟩ := fq_of (show DataW.trod enc Try.prog W base spare held m2 33 [d] = some z4 from t4) (fun q hq => hwy q (q2 q (q4 q hq)))
      injection g0 with g0
      injection g1 with g1
      injection g2 with g2
      subst g0 g1 g2
      have l1 : s1.data.toList.length ≤ reachBytes := hwy _ (q1 _ (by rw [hz1]; simp [DataW.weights]))
      rw [reach_eqS] at l1
      exact ⟨⟨x0, s1.data.toList, x2, A4, n4, c4, fs4⟩, rfl, ⟨i64_ofS w0, by show s1.data.toList.length ≤ _; omega, hnil, hfq, hsh⟩⟩) h hw
  exact ⟨A, n, c, os, h1, h2, h3⟩
theorem bools_of {fuel : Nat} {v : Value} {x : DataW H × List MemPlace} (h : DataW.trod enc Try.prog W base spare held fuel 48 [v] = some x) (hw : ∀ q ∈ x.1.weights Try.prog 48, q ≤ reachBytes) :
    ∃ (A : Option Addr) (n c : Nat) (bs : List Bool), v = .slice A n c ∧ Rws W 1 A n (bs.map boolC) := by
  obtain ⟨A, n, c, bs, h1, h2, _⟩ := open_rwsW (by_ := 1) Try.underlying48 (k := 1) (by kernel_rfl) (by decide) (by kernel_rfl) (by decide) boolC (fun _ => True) false (fun _ => rfl) (fun n cs y hy hwy => by
    obtain ⟨b, g, _⟩ := DataW.trod_bool Try.underlying4 hy
    exact ⟨b, g, trivial⟩) h hw
  exact ⟨A, n, c, bs, h1, h2⟩
end
end Go.Proofs.Ytkcedcllefcboaa
