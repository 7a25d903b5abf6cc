/-
  FROM THE CARD's LIST TO THE ROWS' CELLS: where field's rows read as the program's text lays them, their cells hold their strings.
-/
import Derived.Test.YtgdlidjjogoiaaaGreatDoorRows
import Derived.Test.YtgdlidjjogoiaaaGreatDoorFdB
import Derived.LaidSub
import Derived.MakeChecks
import Derived.Lib.SmallJoins
import Derived.Lib.LaidTab
import Derived.OpenShut
namespace Go.Proofs.YtgdlidjjogoiaaaGreatDoor
open Go.RowKit Go.ChangeShapes Go.WideShapes Go.ChangeAt
open Fdd
set_option linter.unusedVariables false
def rowD (r : Rw) : DataW Unit := .agg [.lit (.string r.d), .lit (.string r.h), .lit (.string r.s), .lit (.string r.m)]
theorem rows_datum : (Rows.laid_groat_field_rows : DataW Unit) = .agg [rowD (rws 0), rowD (rws 1), rowD (rws 2), rowD (rws 3)] := rfl
theorem gRows : Tryz.prog.globalNamed "groat/field.rows" = some 0 := by kernel_rfl
theorem gRowsType : (Tryz.prog.globals[0]?).map (·.type) = some 72 := by kernel_rfl
theorem cells_rows : Tryz.prog.cellsOf 72 = 16 := by kernel_rfl
theorem cells_row : Tryz.prog.cellsOf 71 = 4 := by kernel_rfl
theorem list4 {l : List Value} (h : l.length = 4) : ∃ a b c d, l = [a, b, c, d] := by
  match l, h with
  | [a, b, c, d], _ => exact ⟨a, b, c, d, rfl⟩
section
variable {enc : TypeId × Value → Unit} {w : World} {base : Nat} {spare : Nat → Bool} {held : Bool}
theorem str_of {n : Nat} {v : Value} {y : DataW Unit × List MemPlace} {l : List UInt8} (h : DataW.trod enc Tryz.prog w base spare held n 9 [v] = some y) (hy : y.1 = .lit (.string l)) : v = strV l := by
  obtain ⟨s, hc, rfl, _⟩ := DataW.trod_string Tryz.underlying9 h
  injection hc with hc
  injection hy with hy
  injection hy with hy
  rw [hc, ← hy]
  rfl
theorem cells_str : Tryz.prog.cellsOf 9 = 1 := by kernel_rfl
theorem row_of {n : Nat} {cs : List Value} {y : DataW Unit × List MemPlace} {r : Rw} (h : DataW.trod enc Tryz.prog w base spare held n 71 cs = some y) (hy : y.1 = rowD r) : cs = rowV r := by
  obtain ⟨ys, m, _, hx, hl, hyl, hf⟩ := DataW.trod_struct Tryz.underlying71 h
  rw [cells_row] at hl
  obtain ⟨c0, c1, c2, c3, rfl⟩ := list4 hl
  have f0 : DataW.trod enc Tryz.prog w base spare held m 9 (([c0, c1, c2, c3].drop 0).take (Tryz.prog.cellsOf 9)) = ys[0]? := hf 0 _ rfl
  have f1 : DataW.trod enc Tryz.prog w base spare held m 9 (([c0, c1, c2, c3].drop 1).take (Tryz.prog.cellsOf 9)) = ys[1]? := hf 1 _ rfl
  have f2 : DataW.trod enc Tryz.prog w base spare held m 9 (([c0, c1, c2, c3].drop 2).take (Tryz.prog.cellsOf 9)) = ys[2]? := hf 2 _ rfl
  have f3 : DataW.trod enc Tryz.prog w base spare held m 9 (([c0, c1, c2, c3].drop 3).take (Tryz.prog.cellsOf 9)) = ys[3]? := hf 3 _ rfl
  rw [cells_str] at f0 f1 f2 f3
  have hyl4 : ys.length = 4 := hyl
  clear hf hl hyl
  match ys, hyl4 with
  | [y0, y1, y2, y3], _ =>
    have e0 : DataW.trod enc Tryz.prog w base spare held m 9 [c0] = some y0 := f0
    have e1 : DataW.trod enc Tryz.prog w base spare held m 9 [c1] = some y1 := f1
    have e2 : DataW.trod enc Tryz.prog w base spare held m 9 [c2] = some y2 := f2
    have e3 : DataW.trod enc Tryz.prog w base spare held m 9 [c3] = some y3 := f3
    rw [hx] at hy
    unfold rowD at hy
    simp only [List.map_cons, List.map_nil, DataW.agg.injEq, List.cons.injEq, and_true] at hy
    rw [str_of e0 hy.1, str_of e1 hy.2.1, str_of e2 hy.2.2.1, str_of e3 hy.2.2.2]
    rfl
end
theorem rows_of_laid {W : World} {l : List (String × DataW Unit)} (hl : l.filter (fun x => x.1 == "groat/field.rows") = [("groat/field.rows", Rows.laid_groat_field_rows)]) (h : laidMetH Tryz.prog l W) : RowsT W := by
  have h1 := h.filter (fun x => x.1 == "groat/field.rows")
  rw [hl, Go.MakeChecks.laidMetH_plain _ _ _ rfl] at h1
  obtain ⟨ps, ⟨g, t, cs, fuel, p, q, hg, ht, hv, hd, _, _⟩, _⟩ := h1
  obtain rfl := Option.some.inj (gRows.symm.trans hg)
  obtain rfl := Option.some.inj (gRowsType.symm.trans ht)
  rw [rows_datum] at hd
  obtain ⟨xs, m, _, hx, hlen, hxl, hf⟩ := DataW.trod_array Tryz.underlying72 hd
  have hm : xs.map (·.1) = [rowD (rws 0), rowD (rws 1), rowD (rws 2), rowD (rws 3)] := by
    have := congrArg Prod.fst hx
    injection this with this
    exact this.symm
  rw [cells_rows] at hlen
  intro k hk j v hj
  have hfk := hf k hk
  rw [cells_row] at hfk
  have hxk : xs[k]? = some xs[k] := List.getElem?_eq_getElem (by omega)
  rw [hxk] at hfk
  have hdk : xs[k].1 = rowD (rws k) := by
    have h2 := congrArg (fun l => l[k]?) hm
    simp only [List.getElem?_map, hxk, Option.map_some] at h2
    have hkk : k = 0 ∨ k = 1 ∨ k = 2 ∨ k = 3 := by omega
    rcases hkk with rfl | rfl | rfl | rfl <;> simpa using h2
  have hrow := row_of hfk hdk
  have hcell : W.cell? ⟨0, k * 4 + j, none⟩ = cs[k * 4 + j]? := World.var?_cell hg hv (k * 4 + j)
  rw [hcell]
  rw [← hrow] at hj
  have hj4 : j < 4 := by
    have := (List.getElem?_eq_some_iff.1 hj).1
    simp at this
    omega
  rw [List.getElem?_take, if_pos hj4, List.getElem?_drop] at hj
  rw [← Array.getElem?_toList]
  exact hj
end Go.Proofs.YtgdlidjjogoiaaaGreatDoor
