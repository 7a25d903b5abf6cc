/-
  Texts in one file: KsB WmX CrcTab. Conditions: the tables and the errors read as the program's text lays them.
-/
import Derived.Test.YthfhalbdfmahdaaDoorJW0
import Derived.Test.YthfhalbdfmahdaaDoorJW12
import Derived.Test.YthfhalbdfmahdaaDoorJW7
import Derived.Test.YthfhalbdfmahdaaDoorJW33
import Derived.Test.YthfhalbdfmahdaaDoorJW34
import Derived.Test.YthfhalbdfmahdaaDoorRows
import Derived.Test.YthfhalbdfmahdaaDoorJW5
import Derived.Lib.LaidTab
namespace Go.Proofs.YthfhalbdfmahdaaDoor
open Go.RowKit Go.ChangeShapes Go.WideShapes Go.Deep
set_option linter.unusedVariables false
section
variable {H : Type} {enc : TypeId × Value → H} {w : World} {base : Nat} {spare : Nat → Bool} {held : Bool}
set_option maxRecDepth 20000 in
/-- a slice of numbers that came in -/
theorem ksB_of {fuel : Nat} {v : Value} {x : DataW H × List MemPlace} (h : DataW.trod enc Tryd.prog w base spare held fuel 34 [v] = some x) (hw : ∀ q ∈ x.1.weights Tryd.prog 34, q ≤ reachBytes) :
    ∃ (A : Option Addr) (n c : Nat) (zs : List Int), v = .slice A n c ∧ Ks w nowhere A n zs ∧ (∀ z ∈ zs, -9223372036854775808 ≤ z ∧ z ≤ 9223372036854775807) ∧ n ≤ 140737488355328 := by
  obtain ⟨A, n, c, zs, h1, h2, h3, h4, h5, h6, _⟩ := open_rwsW (by_ := 8) Tryd.underlying34 (k := 1) (by kernel_rfl) (by decide) (by kernel_rfl) (by decide) (fun z : Int => [Value.int .i64 z]) (fun z => -9223372036854775808 ≤ z ∧ z ≤ 9223372036854775807) 0 (fun _ => rfl) (fun n cs y hy _ => by
    obtain ⟨x0, g0, _, w0⟩ := DataW.trod_int Tryd.underlying3 hy
    exact ⟨x0, g0, i64_in w0⟩) h hw
  refine ⟨A, n, c, zs, h1, ?_, h6, h2.2.2.1⟩
  have hl : zs.length = n := by have := h2.1; rwa [List.length_map] at this
  have hn := h2.2.2.1
  refine ⟨hl, by omega, fun hp => ?_⟩
  obtain ⟨b, off, e, hc⟩ := h2.2.2.2 hp
  have hcell : ∀ i, i < n → w.cell? ⟨b, off + i, none⟩ = some (.int .i64 (zs.getD i 0)) := fun i hi => by
    have h7 := hc i [Value.int .i64 (zs.getD i 0)] (by rw [List.getElem?_map, List.getD_eq_getElem?_getD, List.getElem?_eq_getElem (by omega)]; rfl) 0 _ rfl
    rwa [Nat.mul_one, Nat.add_zero] at h7
  exact ⟨b, off, e, World.block_lt_of_cell? _ _ (hcell 0 hp), fun e => e, hcell⟩
end
end Go.Proofs.YthfhalbdfmahdaaDoor
namespace Go.Proofs.YthfhalbdfmahdaaDoor
open Go.RowKit
set_option linter.unusedVariables false
theorem walNumbers_walk (A0 : Option Addr) (n0 c0 : Nat) (vs : List LtV) (A1 : Option Addr) (n1 c1 : Nat) (zs : List Int) (w : World) (h0 : LtsAt w A0 n0 vs) (h1 : Ks w nowhere A1 n1 zs) (hz : ∀ z ∈ zs, -9223372036854775808 ≤ z ∧ z ≤ 9223372036854775807) (hn1 : n1 ≤ 140737488355328) (htab : Tab w) :
    Calls Tryd.prog 9 #[.slice A0 n0 c0, .slice A1 n1 c1] w fun r w' => r = .returned (.bool true) ∧ Below w.heap.size w w' :=
  (walNumbers_main A0 n0 c0 vs A1 n1 c1 zs w h0 h1 hz h0.row.2.2.1 hn1 htab).mono fun _ _ h => ⟨h.1, h.2.below (Nat.le_refl _) fun _ _ e => e⟩
end Go.Proofs.YthfhalbdfmahdaaDoor
namespace Go.Proofs.YthfhalbdfmahdaaDoor
open Go.RowKit Go.ChangeShapes Go.WideShapes Go.ChangeAt
theorem gTab : Tryd.prog.globalNamed "groat/crc.steps" = some 0 := by kernel_rfl
theorem gTabType : (Tryd.prog.globals[0]?).map (·.type) = some 148 := by kernel_rfl
theorem cells_tab : Tryd.prog.cellsOf 148 = 16 := by kernel_rfl
theorem cells_u32 : Tryd.prog.cellsOf 126 = 1 := by kernel_rfl
theorem tab_of_laid {W : World} (h : laidMetH Tryd.prog [("groat/crc.steps", Rows.laid_groat_crc_steps)] W) : Tab W := by
  have ht : Lib.TabIs Tryd.prog W "groat/crc.steps" .u32 [0, 274646895, 549293790, 820201905, 1098587580, 1361435347, 1640403810, 1905808397, 2197175160, 2460548119, 2722870694, 2987750089, 3280807620, 3553878443, 3811616794, 4084100981] :=
    Lib.tabIs_of_head (rest := []) gTab gTabType Tryd.underlying148 Tryd.underlying126 cells_u32 cells_tab h
  intro k hk
  rw [ht.cell gTab k (by simpa using hk)]
  have : ∀ k : Fin 16, ([0, 274646895, 549293790, 820201905, 1098587580, 1361435347, 1640403810, 1905808397, 2197175160, 2460548119, 2722870694, 2987750089, 3280807620, 3553878443, 3811616794, 4084100981] : List Int).getD k.val 0 = ((Crc.tab.getD k.val 0 : Nat) : Int) := by decide
  rw [← this ⟨k, hk⟩]
end Go.Proofs.YthfhalbdfmahdaaDoor
