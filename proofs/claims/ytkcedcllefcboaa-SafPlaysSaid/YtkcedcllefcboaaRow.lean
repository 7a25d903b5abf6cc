/-
  A BLOCK OF BYTES THAT IS KNOWN WHOLE: its cells, a store into it, what is kept of it. No conditions.
-/
import Derived.Test.YtkcedcllefcboaaAppend
namespace Go.Proofs.Ytkcedcllefcboaa
open Go.RowKit
/-- block g is just these bytes, none frozen -/
def Row (w : World) (g : Nat) (e : TypeId) (bs : List UInt8) : Prop := w.heap[g]? = some (.cells (byteCells bs) e (0, 0))
theorem Row.lt {w : World} {g : Nat} {e : TypeId} {bs : List UInt8} (h : Row w g e bs) : g < w.heap.size := (Array.getElem?_eq_some_iff.1 h).1
theorem Row.cell {w : World} {g : Nat} {e : TypeId} {bs : List UInt8} (h : Row w g e bs) (i : Nat) (hi : i < bs.length) : w.cell? ⟨g, i, none⟩ = some (.int .u8 ((bs.getD i 0).toNat : Int)) := by
  rw [← byteCells_at bs i hi]
  unfold Row at h
  simp only [World.cell?, h]
  rfl
theorem Row.frozen {w : World} {g : Nat} {e : TypeId} {bs : List UInt8} (h : Row w g e bs) (i : Nat) : w.frozen? ⟨g, i, none⟩ = false := by
  unfold Row at h
  simp [World.frozen?, h]
theorem Row.drew {w : World} {g : Nat} {e : TypeId} {bs : List UInt8} (h : Row w g e bs) : Row w.drew g e bs := h
theorem byteCells_set (bs : List UInt8) (i : Nat) (x : UInt8) : (byteCells bs).setIfInBounds i (.int .u8 (x.toNat : Int)) = byteCells (bs.set i x) := by
  unfold byteCells
  apply Array.ext'
  simp [List.map_set]
theorem Row.set {w : World} {g : Nat} {e : TypeId} {bs : List UInt8} (h : Row w g e bs) (i : Nat) (x : UInt8) : Row (w.setCell ⟨g, i, none⟩ (.int .u8 (x.toNat : Int))) g e (bs.set i x) := by
  unfold Row at h ⊢
  rw [← byteCells_set]
  simp [World.setCell, Array.getElem?_modify, h]
theorem Row.below {w w' : World} {g B : Nat} {e : TypeId} {bs : List UInt8} (h : Row w g e bs) (hb : Below B w w') (hg : g < B) : Row w' g e bs := (hb.block g hg).trans h
theorem Row.new (w : World) (e : TypeId) (bs : List UInt8) : Row (w.alloc (.cells (byteCells bs) e)) w.heap.size e bs := heap_alloc_new w _
theorem Row.bs {w : World} {g : Nat} {e : TypeId} {bs : List UInt8} (h : Row w g e bs) {n : Nat} (hn : n ≤ bs.length) (hm : n ≤ maxLen) : Bs w (some ⟨g, 0, none⟩) n (bs.take n) := by
  refine ⟨by rw [List.length_take]; omega, hm, fun _ => ⟨g, 0, rfl, fun i hi => ?_⟩⟩
  have hc := h.cell i (by omega)
  rw [Nat.zero_add, hc, List.getD_eq_getElem?_getD, List.getD_eq_getElem?_getD, List.getElem?_take, if_pos hi]
theorem madeBytes (n : Nat) : madeCells (Value.int .u8 0).cells n = byteCells (List.replicate n 0) := by
  unfold madeCells byteCells
  apply Array.ext'
  simp [Value.cells]
  apply List.ext_getElem
  · simp
  · intro i h1 h2
    simp [Nat.mod_one]
/-- block g begins with these bytes, none of it is frozen -/
def Head (w : World) (g : Nat) (e : TypeId) (bs : List UInt8) : Prop :=
  ∃ cur, w.heap[g]? = some (.cells cur e (0, 0)) ∧ bs.length ≤ cur.size ∧ ∀ i, i < bs.length → cur[i]? = some (Value.int .u8 ((bs.getD i 0).toNat : Int))
theorem Head.lt {w : World} {g : Nat} {e : TypeId} {bs : List UInt8} (h : Head w g e bs) : g < w.heap.size := by
  obtain ⟨cur, h1, _⟩ := h
  exact (Array.getElem?_eq_some_iff.1 h1).1
theorem Head.cell {w : World} {g : Nat} {e : TypeId} {bs : List UInt8} (h : Head w g e bs) (i : Nat) (hi : i < bs.length) : w.cell? ⟨g, i, none⟩ = some (.int .u8 ((bs.getD i 0).toNat : Int)) := by
  obtain ⟨cur, h1, _, h3⟩ := h
  rw [← h3 i hi]
  simp only [World.cell?, h1]
  rfl
theorem Head.frozen {w : World} {g : Nat} {e : TypeId} {bs : List UInt8} (h : Head w g e bs) (i : Nat) : w.frozen? ⟨g, i, none⟩ = false := by
  obtain ⟨cur, h1, _⟩ := h
  simp [World.frozen?, h1]
theorem Head.drew {w : World} {g : Nat} {e : TypeId} {bs : List UInt8} (h : Head w g e bs) : Head w.drew g e bs := h
theorem Head.set {w : World} {g : Nat} {e : TypeId} {bs : List UInt8} (h : Head w g e bs) (i : Nat) (x : UInt8) : Head (w.setCell ⟨g, i, none⟩ (.int .u8 (x.toNat : Int))) g e (bs.set i x) := by
  obtain ⟨cur, h1, h2, h3⟩ := h
  refine ⟨cur.setIfInBounds i (.int .u8 (x.toNat : Int)), by simp [World.setCell, Array.getElem?_modify, h1], by simpa using h2, fun j hj => ?_⟩
  rw [List.length_set] at hj
  rw [Array.getElem?_setIfInBounds, List.getD_eq_getElem?_getD, List.getElem?_set]
  by_cases e1 : i = j
  · subst e1
    have : i < cur.size := by omega
    simp [this, hj]
  · rw [if_neg e1, if_neg e1, h3 j hj, List.getD_eq_getElem?_getD]
theorem Head.below {w w' : World} {g B : Nat} {e : TypeId} {bs : List UInt8} (h : Head w g e bs) (hb : Below B w w') (hg : g < B) : Head w' g e bs := by
  obtain ⟨cur, h1, h2⟩ := h
  exact ⟨cur, (hb.block g hg).trans h1, h2⟩
theorem Head.bs {w : World} {g : Nat} {e : TypeId} {bs : List UInt8} (h : Head w g e bs) {n : Nat} (hn : bs.length = n) (hm : n ≤ maxLen) : Bs w (some ⟨g, 0, none⟩) n bs := by
  refine ⟨hn, hm, fun _ => ⟨g, 0, rfl, fun i hi => ?_⟩⟩
  rw [Nat.zero_add]
  exact h.cell i (by omega)
/-- an owned row that is not empty begins with its bytes -/
theorem Own.head {w : World} {B : Nat} {e : TypeId} {v : Value} {bs : List UInt8} (h : Own w B e v bs) (hp : 0 < bs.length) : ∃ g c, v = .slice (some ⟨g, 0, none⟩) bs.length c ∧ B ≤ g ∧ Head w g e bs := by
  obtain ⟨_, h2⟩ := id h
  rcases h2 with ⟨rfl, h0⟩ | ⟨g, cap, cur, rfl, hb, hg, hn, hm, hs, ht⟩
  · omega
  · refine ⟨g, cap, rfl, hb, cur, hg, by omega, fun i hi => ?_⟩
    rw [← bcs_at bs i hi, ← ht, List.getElem?_take, if_pos (by omega), Array.getElem?_toList]
end Go.Proofs.Ytkcedcllefcboaa
