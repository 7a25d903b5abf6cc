/-
  An append leaves the old slice as it reads. No conditions.
-/
import Derived.Test.YtgdlidjjogoiaaaGreatDoorFdT
import Derived.Test.YtgdlidjjogoiaaaGreatDoorFdN
import Derived.Deep.Upon
namespace Go.Proofs.YtgdlidjjogoiaaaGreatDoor
open Go.RowKit
open Fdd
set_option linter.unusedVariables false
theorem append_old {w : World} {B n c : Nat} {A : Option Addr} {bs : List UInt8} (hown : Own w B 5 (.slice A n c) bs) (hB : B ≤ w.heap.size) (xs : List UInt8) (h0 : 0 < bs.length) (hlen : bs.length + xs.length ≤ 140737488355328) {m c1 : Nat} (hm : xs.length = m) :
    ∃ A' c' w', (Builtin.append_ #[22, 22] 22 #[.slice A n c, .slice (some ⟨w.heap.size, 0, none⟩) m c1]).run Tryz.prog (w.alloc (.cells (bcs xs).toArray 5)) = .ok (.slice A' (bs.length + m) c') w' ∧
      Own w' B 5 (.slice A' (bs.length + m) c') (bs ++ xs) ∧ Ext w w' (.slice A n c) (.slice A' (bs.length + m) c') ∧ Bs w' A n bs := by
  obtain ⟨A', c', w', hrun, ho, he⟩ := append_news hown hB xs hlen (c := c1) hm
  refine ⟨A', c', w', hrun, ho, he, ?_⟩
  have hown1 : Own (w.alloc (.cells (bcs xs).toArray 5)) B 5 (.slice A n c) bs := hown.alloc _
  obtain ⟨A1, n1, c1', hform, hbs1, hnc1, _⟩ := hown1.form
  injection hform with f1 f2 f3
  subst f1 f2 f3
  have hl := hbs1.1
  obtain ⟨g, off, rfl, hcell⟩ := hbs1.2.2 (by omega)
  rcases hown1.2 with ⟨hnil, _⟩ | ⟨g', cap', cur, hv, hg1, hg, hn, hm', hs', ht'⟩
  · cases hnil
  · injection hv with hv1 hv2 hv3
    injection hv1 with hv1
    injection hv1 with hv1 hv4
    subst hv1 hv4 hv3
    have hblk : Blk (w.alloc (.cells (bcs xs).toArray 5)) g 5 cur := hg
    have hcame : Came (w.alloc (.cells (bcs xs).toArray 5)) 1 (some ⟨g, 0, none⟩) g 0 n c (bcs bs) := by
      refine ⟨by omega, fun _ => rfl, fun _ => hblk.lt, by rw [bcs_length]; omega, fun j u hj => ?_, fun j hj => ?_⟩
      · have hjl : j < bs.length := by
          have := (List.getElem?_eq_some_iff.1 hj).1
          rwa [bcs_length] at this
        rw [bcs_at bs j hjl] at hj
        rw [← hj]
        exact hcell j (by omega)
      · rw [hblk.cell]
        exact ⟨by rw [Array.getElem?_eq_getElem (by omega)]; rfl, hblk.frozen _⟩
    obtain ⟨i0, hi0, hz0, hz1, hz2⟩ := info_parts byteInfo
    have hsrc : Src Tryz.prog 1 22 (.slice (some ⟨w.heap.size, 0, none⟩) m c1) m (bcs xs) (w.alloc (.cells (bcs xs).toArray 5)) := by
      refine Src.ofSlice _ Tryz.underlying22 ⟨w.heap.size, 0, none⟩ m c1 (bcs xs) (by rw [bcs_length]; omega) (fun j u hj => ?_) (bcs_one xs)
      rw [add_nat, Nat.zero_add, (Blk.new w 5 (bcs xs).toArray).cell j]
      simpa using hj
    obtain ⟨v2, w2, hrun2, hup⟩ := run_append_upon (P := Tryz.prog) hcame 22 22 22 i0 _ 1 Tryz.underlying22 hi0 hz0 hz1 hz2 rfl (Upon.start hcame) _ m (bcs xs) hsrc (by unfold maxLen; omega) (by omega)
    rw [hrun] at hrun2
    injection hrun2 with e1 e2
    subst e1 e2
    refine ⟨hl, hbs1.2.1, fun _ => ⟨g, 0, rfl, fun i hi => ?_⟩⟩
    rw [hup.old hblk.lt (fun j hj e => by have := e.2; omega)]
    exact hcell i hi
end Go.Proofs.YtgdlidjjogoiaaaGreatDoor
