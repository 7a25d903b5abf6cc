/-
  groatlaw03's PlantLast: its argument, opened to its cells. Its conditions are those of the reading of an argument.
-/
import Derived.Test.YtgagjfiboomigaaPlLc
import Derived.Deep.Slices
import Derived.Deep.Fields
import Derived.ChangeSame
namespace Go.Proofs.Ytgagjfiboomigaa
open Go.RowKit Go.Maps Go.ChangeShapes Go.WideShapes Go.Deep
set_option linter.unusedVariables false
section
variable {H : Type} {enc : TypeId × Value → H} {w : World} {base : Nat} {spare : Nat → Bool} {held : Bool}
theorem i64ok_of {n : Int} (h : (Lit.int .i64 n).wf = true) : i64ok n := i64_in h
theorem one_slice {v : Value} {n : Nat} {y : DataW H × List MemPlace} (h : DataW.trod enc Try.prog w base spare held n 22 [v] = some y) : v.oneCell' = true := by
  rcases DataW.trod_slice Try.underlying22 h with ⟨h0, _⟩ | ⟨a, len, cap, _, _, _, _, h0, _⟩
  · cases h0
    rfl
  · cases h0
    rfl
theorem one_int {v : Value} {n : Nat} {y : DataW H × List MemPlace} (h : DataW.trod enc Try.prog w base spare held n 3 [v] = some y) : ∃ m, v = .int .i64 m ∧ i64ok m := by
  obtain ⟨m, h0, _, hw⟩ := DataW.trod_int Try.underlying3 h
  cases h0
  exact ⟨m, rfl, i64ok_of hw⟩
theorem one_byte {v : Value} {n : Nat} {y : DataW H × List MemPlace} (h : DataW.trod enc Try.prog w base spare held n 5 [v] = some y) : ∃ c : UInt8, v = .int .u8 (c.toNat : Int) := by
  obtain ⟨m, h0, _, hw⟩ := DataW.trod_int Try.underlying5 h
  cases h0
  have hr : 0 ≤ m ∧ m ≤ 255 := by simpa [Lit.wf, IntKind.min, IntKind.max, IntKind.signed, IntKind.bits] using hw
  refine ⟨UInt8.ofNat m.toNat, ?_⟩
  rw [UInt8.toNat_ofNat', show ((m.toNat % 2 ^ 8 : Nat) : Int) = m from by omega]
theorem open_op {n : Nat} {cs : List Value} {x : DataW H × List MemPlace} (h : DataW.trod enc Try.prog w base spare held n 38 cs = some x) :
    ∃ o : OpV, cs = opCells o ∧ i64ok o.dev ∧ i64ok o.place ∧ i64ok o.n ∧ o.keep.oneCell' = true := by
  obtain ⟨ys, n', _, _, hlen, hyl, hf⟩ := DataW.trod_struct Try.underlying38 h
  rw [show Try.prog.cellsOf 38 = 6 from by kernel_rfl] at hlen
  obtain ⟨v0, v1, v2, v3, v4, v5, rfl⟩ : ∃ v0 v1 v2 v3 v4 v5, cs = [v0, v1, v2, v3, v4, v5] := by
    match cs, hlen with
    | [v0, v1, v2, v3, v4, v5], _ => exact ⟨v0, v1, v2, v3, v4, v5, rfl⟩
  have hys : ∀ j, j < 6 → ∃ y, ys[j]? = some y := fun j hj => ⟨_, List.getElem?_eq_getElem (by rw [hyl]; exact hj)⟩
  have e0 : DataW.trod enc Try.prog w base spare held n' 3 [v0] = ys[0]? := hf 0 _ rfl
  have e1 : DataW.trod enc Try.prog w base spare held n' 3 [v1] = ys[1]? := hf 1 _ rfl
  have e2 : DataW.trod enc Try.prog w base spare held n' 3 [v2] = ys[2]? := hf 2 _ rfl
  have e3 : DataW.trod enc Try.prog w base spare held n' 3 [v3] = ys[3]? := hf 3 _ rfl
  have e4 : DataW.trod enc Try.prog w base spare held n' 5 [v4] = ys[4]? := hf 4 _ rfl
  have e5 : DataW.trod enc Try.prog w base spare held n' 22 [v5] = ys[5]? := hf 5 _ rfl
  obtain ⟨y0, g0⟩ := hys 0 (by omega)
  obtain ⟨y1, g1⟩ := hys 1 (by omega)
  obtain ⟨y2, g2⟩ := hys 2 (by omega)
  obtain ⟨y3, g3⟩ := hys 3 (by omega)
  obtain ⟨y4, g4⟩ := hys 4 (by omega)
  obtain ⟨y5, g5⟩ := hys 5 (by omega)
  obtain ⟨m0, rfl, w0⟩ := one_int (e0.trans g0)
  obtain ⟨m1, rfl, w1⟩ := one_int (e1.trans g1)
  obtain ⟨m2, rfl, w2⟩ := one_int (e2.trans g2)
  obtain ⟨m3, rfl, w3⟩ := one_int (e3.trans g3)
  obtain ⟨c, rfl⟩ := one_byte (e4.trans g4)
  exact ⟨⟨m0, m1, m2, m3, c, v5⟩, rfl, w1, w2, w3, one_slice (e5.trans g5)⟩
theorem open_ops {fuel : Nat} {cs : List Value} {x : DataW H × List MemPlace} (h : DataW.trod enc Try.prog w base spare held fuel 34 cs = some x) :
    cs = [.slice none 0 0] ∨ ∃ a len cap os, cs = [.slice (some a) len cap] ∧ OpsAt w (some a) len os := by
  rcases open_slice Try.underlying34 h with ⟨h0, _⟩ | ⟨a, len, cap, m, n, D, Pl, hcs, hb, hl, hm, hmm, hx, hi⟩
  · exact .inl h0
  · refine .inr ⟨a, len, cap, ?_⟩
    have hlm : len ≤ m := by rw [hmm]; split <;> omega
    rw [show Try.prog.cellsOf 38 = 6 from by kernel_rfl] at hi
    have hone : ∀ i, ∃ o : OpV, i < len → (∀ j v, (opCells o)[j]? = some v → w.cell? (a.add (i * 6 + j)) = some v) ∧ i64ok o.dev ∧ i64ok o.place ∧ i64ok o.n ∧ o.keep.oneCell' = true := by
      intro i
      by_cases hil : i < len
      · obtain ⟨cs', hc, ht⟩ := hi i (by omega)
        obtain ⟨o, rfl, hw⟩ := open_op ht
        obtain ⟨_, _, hat⟩ := World.cells?_some hc
        refine ⟨o, fun _ => ⟨fun j v hj => ?_, hw⟩⟩
        have hj6 : j < 6 := (List.getElem?_eq_some_iff.1 hj).1
        rw [← Go.Deep.add_add, hat j hj6, hj]
      · exact ⟨⟨0, 0, 0, 0, 0, .bool false⟩, fun h => (hil h).elim⟩
    obtain ⟨f, hf⟩ := Classical.axiomOfChoice hone
    refine ⟨(List.range len).map f, hcs, by simp, by omega, fun o ho => ?_, fun hp => ?_⟩
    · obtain ⟨i, hi', rfl⟩ := List.mem_map.1 ho
      exact (hf i (List.mem_range.1 hi')).2
    · obtain ⟨b, off, spot⟩ := a
      have hc := (hf 0 hp).1 0 _ rfl
      have hspot : spot = none := by simpa [Addr.add] using World.cell?_spot hc
      subst hspot
      refine ⟨b, off, rfl, ?_, fun i o ho j v hj => ?_⟩
      · have h3 := World.block_lt_of_cell? _ _ hc
        simpa [Addr.add] using h3
      · have hil : i < len := by
          have := (List.getElem?_eq_some_iff.1 ho).1
          simpa using this
        have ho' : o = f i := by
          rw [List.getElem?_map, List.getElem?_range hil] at ho
          exact (Option.some.inj ho).symm
        subst ho'
        have := (hf i hil).1 j v hj
        rw [show (⟨b, off, none⟩ : Addr).add (i * 6 + j) = ⟨b, off + i * 6 + j, none⟩ from by rw [add_nat, Nat.add_assoc]] at this
        exact this
end
end Go.Proofs.Ytgagjfiboomigaa
