/-
  A [][]byte argument as a list of lists. Condition: its bulk is at most 1048576.
-/
import Derived.Test.YtagoijgmoaffdaaBulk
import Derived.Test.YtagoijgmoaffdaaMem
import Derived.Deep.Matrix
namespace Go.Proofs.Ytagoijgmoaffdaa
open Go.RowKit Go.ChangeShapes Go.WideShapes Go.Deep
set_option linter.unusedVariables false
/-- slices of bytes, one for each of these lists -/
def Ls (w : World) (A : Option Addr) (n : Nat) (ls : List (List UInt8)) : Prop :=
  ls.length = n ∧ n ≤ 1048576 ∧ (0 < n → ∃ b off, A = some ⟨b, off, none⟩ ∧ ∀ i l, ls[i]? = some l → ∃ a m c, w.cell? ⟨b, off + i, none⟩ = some (.slice a m c) ∧ Bs w a m l ∧ (a = none → c = 0) ∧ m ≤ 1048576)
theorem bs_still {w w' : World} {A : Option Addr} {n : Nat} {bs : List UInt8} (h : Bs w A n bs) (ht : Turn nowhere w w') : Bs w' A n bs := by
  obtain ⟨h1, h2, h3⟩ := h
  refine ⟨h1, h2, fun hp => ?_⟩
  obtain ⟨b, off, e, hc⟩ := h3 hp
  exact ⟨b, off, e, fun i hi => by rw [ht.cell (World.block_lt_of_cell? _ _ (hc i hi)) (fun e => e)]; exact hc i hi⟩
theorem Ls.still {w w' : World} {A : Option Addr} {n : Nat} {ls : List (List UInt8)} (h : Ls w A n ls) (ht : Turn nowhere w w') : Ls w' A n ls := by
  obtain ⟨h1, h2, h3⟩ := h
  refine ⟨h1, h2, fun hp => ?_⟩
  obtain ⟨b, off, e, hc⟩ := h3 hp
  refine ⟨b, off, e, fun i l hi => ?_⟩
  obtain ⟨a, m, c, g1, g2, g3, g4⟩ := hc i l hi
  exact ⟨a, m, c, by rw [ht.cell (World.block_lt_of_cell? _ _ g1) (fun e => e)]; exact g1, bs_still g2 ht, g3, g4⟩
theorem Ls.at_ {w : World} {A : Option Addr} {n : Nat} {ls : List (List UInt8)} (h : Ls w A n ls) {i : Nat} (hi : i < n) : ∃ b off a m c l, A = some ⟨b, off, none⟩ ∧ ls[i]? = some l ∧ w.cell? ⟨b, off + i, none⟩ = some (.slice a m c) ∧ Bs w a m l ∧ (a = none → c = 0) ∧ m ≤ 1048576 := by
  obtain ⟨h1, h2, h3⟩ := h
  obtain ⟨b, off, e, hc⟩ := h3 (by omega)
  obtain ⟨a, m, c, g⟩ := hc i _ (List.getElem?_eq_getElem (by omega))
  exact ⟨b, off, a, m, c, _, e, List.getElem?_eq_getElem (by omega), g⟩
theorem ls_nil (w : World) (A : Option Addr) : Ls w A 0 [] := ⟨rfl, by omega, fun h => by omega⟩
theorem bulk_mem {H : Type} {d : DataW H} : ∀ {l : List (DataW H)}, d ∈ l → Rows.uptoBulk d ≤ Rows.uptoBulkAll l
  | [], h => by cases h
  | e :: r, h => by
    simp only [Rows.uptoBulkAll]
    rcases List.mem_cons.1 h with rfl | h
    · omega
    · have := bulk_mem h
      omega
theorem bulk_row {H : Type} {k : IntKind} {A : Option Addr} {L C : Nat} {zs : List Int} (hz : zs.length = C) (hA : A = none → C = 0) : C ≤ Rows.uptoBulk (intRow (H := H) k A L zs) := by
  cases A with
  | none => have := hA rfl; omega
  | some a =>
    have h := bulk_slice (H := H) (lits k (zs.take L)) (lits k (zs.drop L))
    have e1 : (lits (H := H) k (zs.take L)).length + (lits (H := H) k (zs.drop L)).length = zs.length := by simp [lits]; omega
    show C ≤ Rows.uptoBulk (.slice (lits k (zs.take L)) (lits k (zs.drop L)))
    omega
section
variable {H : Type} {enc : TypeId × Value → H} {w : World} {base : Nat} {held : Bool}
theorem open_ls {fuel : Nat} {cs : List Value} {x : DataW H × List MemPlace} (h : DataW.trod enc Try.prog w base (fun _ => true) held fuel 28 cs = some x) (hk : Rows.uptoBulk x.1 ≤ 1048576) :
    cs = [.slice none 0 0] ∨ ∃ a len cap ls, cs = [.slice (some a) len cap] ∧ Ls w (some a) len ls := by
  rcases open_int_rows Try.underlying28 Try.underlying22 Try.underlying5 (by kernel_rfl) (by kernel_rfl) h with ⟨h0, _⟩ | ⟨a, len, cap, A, L, C, Z, hcs, hb, hl, hm, hx, hr⟩
  · exact .inl h0
  · refine .inr ⟨a, len, cap, (List.range len).map fun r => ((Z r).take (L r)).map fun z => UInt8.ofNat z.toNat, hcs, by simp, ?_, fun hp => ?_⟩
    · rw [hx] at hk
      have hk : Rows.uptoBulk (DataW.slice ((List.range len).map fun r => intRow (H := H) .u8 (A r) (L r) (Z r)) ((List.range (cap - len)).map fun j => intRow (H := H) .u8 (A (len + j)) (L (len + j)) (Z (len + j)))) ≤ 1048576 := hk
      have := bulk_slice (H := H) ((List.range len).map fun r => intRow .u8 (A r) (L r) (Z r)) ((List.range (cap - len)).map fun j => intRow .u8 (A (len + j)) (L (len + j)) (Z (len + j)))
      have e1 : ((List.range len).map fun r => intRow (H := H) .u8 (A r) (L r) (Z r)).length = len := by simp
      omega
    · obtain ⟨b, off, spot⟩ := a
      have hc := (hr 0 (by omega)).1
      have hspot : spot = none := by simpa [Addr.add] using World.cell?_spot hc
      subst hspot
      refine ⟨b, off, rfl, fun i l hi => ?_⟩
      have hil : i < len := by
        have := (List.getElem?_eq_some_iff.1 hi).1
        simpa using this
      have hle : l = ((Z i).take (L i)).map fun z => UInt8.ofNat z.toNat := by
        rw [List.getElem?_map, List.getElem?_range hil] at hi
        exact (Option.some.inj hi).symm
      obtain ⟨g1, g2, g3, g4, g5, g6, g7⟩ := hr i (by omega)
      refine ⟨A i, L i, C i, ?_, ?_, g6, ?_⟩
      · rw [show (⟨b, off, none⟩ : Addr).add i = ⟨b, off + i, none⟩ from by by_cases h0 : i = 0 <;> simp [Addr.add, h0]] at g1
        exact g1
      · rw [hle]
        cases hA : A i with
        | none =>
          have h0 := g6 hA
          have hL0 : L i = 0 := by omega
          have hZ0 : Z i = [] := List.eq_nil_of_length_eq_zero (by omega)
          rw [hL0]
          exact bs_nil w none
        | some a' =>
          have := bs_of_ints (w := w) (x := a') (len := L i) (cap := C i) (zs := Z i) g2 g3 g4 (fun j hj => (g7 a' hA).2 j (by omega)) g5
          exact this
      · have h1 : Rows.uptoBulk (intRow (H := H) .u8 (A i) (L i) (Z i)) ≤ Rows.uptoBulkAll ((List.range len).map fun r => intRow (H := H) .u8 (A r) (L r) (Z r)) := bulk_mem (List.mem_map.2 ⟨i, List.mem_range.2 hil, rfl⟩)
        have h2 := bulk_row (H := H) (k := .u8) (L := L i) g4 g6
        rw [hx] at hk
        simp only [Rows.uptoBulk] at hk
        omega
end
end Go.Proofs.Ytagoijgmoaffdaa
