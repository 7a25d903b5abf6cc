/-
  Elements taken out of a row, as slices.Delete does it: what stands behind is moved to the left in place, the rest is cleared. No conditions; it imports nothing of the program.
-/
import Derived.Test.YtkcedcllefcboaaGri
namespace Go.Proofs.Ytkcedcllefcboaa
open Go.RowKit
set_option linter.unusedVariables false
set_option linter.unusedSimpArgs false
section
variable {P : Program} {st et : TypeId} {k by_ : Nat} {z : Value}
/-- append(s[:i], s[j:]...) in place -/
theorem delK_app (E : Elm P st et k by_ z) {ty : TypeId} {w : World} {b n c i j B : Nat} {rs : List (List Value)} (hown : Orw w B et k (.slice (some ⟨b, 0, none⟩) n c) rs) (hij : i ≤ j) (hj : j ≤ n) :
    ∃ w1, (Builtin.append_ #[st, st] ty #[.slice (some ⟨b, 0, none⟩) i c, .slice (fromK k (some ⟨b, 0, none⟩) c j) (n - j) (c - j)]).run P w = .ok (.slice (some ⟨b, 0, none⟩) (i + (n - j)) c) w1 ∧
      Orw w1 B et k (.slice (some ⟨b, 0, none⟩) (i + (n - j)) c) (rs.take i ++ rs.drop j) ∧ Turn (only b) w w1 := by
  obtain ⟨cur, hcur, hcs, htake, hn, hnc, hcm, hB⟩ := orw_block hown
  have hf := hown.1
  obtain ⟨i0, hi0, hz1⟩ := E.size
  have hfd : Fit k (rs.drop j) := hf.sub fun r hr => List.mem_of_mem_drop hr
  have hft : Fit k (rs.take i) := hf.sub fun r hr => List.mem_of_mem_take hr
  have hdl : (rs.drop j).flatten.length = (n - j) * k := by rw [flat_len hfd, List.length_drop, hn]
  have hlt : (rs.take i).length = i := by rw [List.length_take]; omega
  have hO : Orw w B et k (.slice (some ⟨b, 0, none⟩) i c) (rs.take i) := orw_of hcur hB hft hlt (by omega) hcm hcs (by
    rw [← flat_take i hf (by omega), ← htake, List.take_take, Nat.min_eq_left (Nat.mul_le_mul_right k (by omega))])
  have hcells : ∀ q u, rs.flatten[q]? = some u → w.cell? ⟨b, q, none⟩ = some u := fun q u h => by
    have := World.ownsRow.cells (g := b) hown.2 rfl q u h
    rwa [add_nat, Nat.zero_add] at this
  have hO2 := hO.2
  rw [hlt] at hO2
  obtain ⟨a, ha, hsrc⟩ : ∃ a, fromK k (some ⟨b, 0, none⟩) c j = some a ∧ ∀ q u, (rs.drop j).flatten[q]? = some u → w.cell? (a.add q) = some u := by
    by_cases hcj : c = j
    · refine ⟨⟨b, 0, none⟩, by unfold fromK; rw [if_pos hcj], fun q u hu => ?_⟩
      have := (List.getElem?_eq_some_iff.1 hu).1
      rw [hdl, show n - j = 0 from by omega, Nat.zero_mul] at this
      omega
    · refine ⟨⟨b, 0 + j * k, none⟩, fromK_at (by omega), fun q u hu => ?_⟩
      rw [← flat_drop j hf (by omega), List.getElem?_drop] at hu
      rw [add_nat, Nat.zero_add]
      exact hcells _ _ hu
  obtain ⟨w1, g1, g2, g3⟩ := run_append_fits (P := P) w B st ty et i0 k E.und hi0 hz1 b i c _ hO2 a (n - j) (c - j) (rs.drop j).flatten hdl hsrc (flat_one hfd) (by omega)
  rw [ha]
  have hl : (rs.take i ++ rs.drop j).length = i + (n - j) := by rw [List.length_append, hlt, List.length_drop, hn]
  refine ⟨w1, g1, ⟨hft.app hfd, ?_⟩, (Turn.refl (only b) w).grown g3 fun g e hg => (Option.some.inj e).symm⟩
  rw [hl, List.flatten_append]
  exact g2
/-- clear of a part of a block -/
theorem run_clearK (E : Elm P st et k by_ z) (hv : ∀ w, (zeroValue et).run P w = .ok z w) (h1 : ∀ u ∈ z.cells.toList, u.oneCell' = true) {ty : TypeId} {w : World} {b o n c : Nat} {cur : Array Value} (hb : Blk w b et cur) (hfit : o + n * k ≤ cur.size) :
    ∃ w', (Builtin.clear_ #[st] ty #[.slice (some ⟨b, o, none⟩) n c]).run P w = .ok (.tuple #[]) w' ∧ Turn (only b) w w' ∧ ∃ cur', Blk w' b et cur' ∧ cur'.size = cur.size ∧ cur'.toList.take o = cur.toList.take o := by
  have hzl : (Builtin.zeroCells z.cells n).toList.length = n * k := by
    rw [Array.length_toList, size_zeroCells, E.zsz]
  have hz1 : ∀ u ∈ (Builtin.zeroCells z.cells n).toList, u.oneCell' = true := by
    intro u hu
    unfold Builtin.zeroCells at hu
    simp only [Array.toList_map, List.mem_map] at hu
    obtain ⟨q, hq, rfl⟩ := hu
    have hk := E.pos
    have hlt : q % z.cells.size < z.cells.size := Nat.mod_lt _ (by rw [E.zsz]; exact hk)
    rw [getElem!_pos z.cells _ hlt]
    exact h1 _ (by rw [← Array.getElem_toList]; exact List.getElem_mem _)
  have hst := run_storeCells_at (P := P) b o et (Builtin.zeroCells z.cells n).toList 0 cur w hb (by rw [hzl]; omega) hz1
  simp only [Nat.add_zero] at hst
  rcases Nat.eq_zero_or_pos n with h0 | h0
  · subst h0
    refine ⟨w, ?_, Turn.refl _ _, cur, hb, rfl, rfl⟩
    simp [Builtin.clear_, run_underlying E.und]
  · obtain ⟨m, rfl⟩ : ∃ m, n = m + 1 := ⟨n - 1, by omega⟩
    obtain ⟨row, hrow⟩ : ∃ row, row = (cur.toList.take o ++ (Builtin.zeroCells z.cells (m + 1)).toList ++ cur.toList.drop (o + (Builtin.zeroCells z.cells (m + 1)).toList.length)).toArray := ⟨_, rfl⟩
    rw [← hrow] at hst
    refine ⟨w.setRow b row, ?_, setRow_turn' w b row, row, setRow_heap w b _ row _ _ hb, ?_, ?_⟩
    · simp [Builtin.clear_, run_underlying E.und, hv, hst]
    · rw [hrow, List.size_toArray, sg_len _ _ _ (by rw [hzl, Array.length_toList]; omega), Array.length_toList]
    · rw [hrow, List.toList_toArray, List.append_assoc, List.take_append_of_le_length (by rw [List.length_take, Array.length_toList]; omega), List.take_take, Nat.min_self]
/-- a row whose block was cleared behind its end -/
theorem Orw.cleared {w w' : World} {B b n c o : Nat} {rs : List (List Value)} {cur cur' : Array Value} (h : Orw w B et k (.slice (some ⟨b, 0, none⟩) n c) rs) (hb : Blk w b et cur) (hb' : Blk w' b et cur') (hs : cur'.size = cur.size) (ho : n * k ≤ o) (ht : cur'.toList.take o = cur.toList.take o) : Orw w' B et k (.slice (some ⟨b, 0, none⟩) n c) rs := by
  obtain ⟨cur0, hcur, hcs, htake, hn, hnc, hcm, hB⟩ := orw_block h
  obtain rfl := hcur.inj hb
  refine orw_of hb' hB h.1 hn hnc hcm (hs.trans hcs) ?_
  have := congrArg (List.take (n * k)) ht
  rw [List.take_take, List.take_take, Nat.min_eq_left ho] at this
  rw [this, htake]
end
end Go.Proofs.Ytkcedcllefcboaa
