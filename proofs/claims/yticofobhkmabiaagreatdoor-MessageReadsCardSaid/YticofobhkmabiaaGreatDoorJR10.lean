/-
  PROOF: groatlaw05: for every input the law MessageReads returns true, and each argument reads as it did (with the texts MsEnv, MsArg, MsWit, MsRw, shortened, ahead of it). Its conditions are the row's own cells (the listed variables read as the program's text lays them: the card ties them).
-/
import Derived.Test.YticofobhkmabiaaGreatDoorJR6
import Derived.Test.YticofobhkmabiaaGreatDoorJR3
import Derived.Stop.LaidTwo
import Derived.Deep.Slices
import Derived.LaidSub
import Derived.Test.YticofobhkmabiaaGreatDoorJR9
import Derived.Test.YticofobhkmabiaaGreatDoorJR8
import Derived.Deep.SlicePairs
import Derived.Lib.SmallJoins
import Derived.SizedLaws
import Derived.OpenShut
import Derived.LaidHandle
import Derived.Test.YticofobhkmabiaaGreatDoorCards
import Derived.Test.YticofobhkmabiaaGreatDoorTie
import Derived.WalkKit
import Derived.ProofKit
import Derived.ShutString
import Derived.ChangeOld
import Derived.Below
import Derived.LaidMore
import Derived.Deep.DeepHandedRow
import Derived.Deep.DeepWitnessRowRef
import Derived.Lib.LaidTab
import Derived.Test.YticofobhkmabiaaGreatDoorJR0
set_option linter.unusedVariables false
set_option linter.unusedSimpArgs false
set_option maxRecDepth 40000
set_option maxHeartbeats 20000000
namespace Go.Proofs.YticofobhkmabiaaGreatDoor
open Go.RowKit Go.ChangeShapes Go.WideShapes Go.ChangeAt Go.Deep
open Fdd
theorem star : "*" ++ "errors.errorString" = "*errors.errorString" := by decide
theorem row_es (u : TypeId) (h : Tryz.prog.typeName? 3 u = some "*errors.errorString") : u = 236 :=
 typeName_ptr_named (nm := "errors.errorString") (by rw [star]; kernel_rfl) (by kernel_rfl) (by decide) u (by rw [star]; exact h)
def sentD (text : List UInt8) : DataW Unit := .iface "*errors.errorString" (.ptr (.agg [.lit (.string text)]))
theorem cells_es : Tryz.prog.cellsOf 238 = 1 := by kernel_rfl
theorem cells_s1 : Tryz.prog.cellsOf 9 = 1 := by kernel_rfl
theorem sent1 {n : String} {text : List UInt8} {g : Nat} {W : World} {l : List (String × DataW Unit)} (hl : l.filter (fun x => x.1 == n) = [(n, sentD text)]) (h : laidMetH Tryz.prog l W)
 (hg : Tryz.prog.globalNamed n = some g) (ht : (Tryz.prog.globals[g]?).map (·.type) = some 43) : ∃ a, SenAt W g a := by
 have h1 := h.filter (fun x => x.1 == n)
 rw [hl, Go.MakeChecks.laidMetH_plain _ _ _ rfl] at h1
 obtain ⟨ps, ⟨g0, t0, cs0, f0, p0, q0, hg0, ht0, hv0, hd0, _, e0⟩, _, hrows⟩ := h1
 obtain rfl := Option.some.inj (hg.symm.trans hg0)
 obtain rfl := Option.some.inj (ht.symm.trans ht0)
 subst e0
 obtain ⟨l0⟩ := cs0
 have ok0 : ∀ u v, l0 = [.iface u v] → Value.okWide Tryz.prog W .any 0 u v := fun u v e => by
  subst e
  exact (hrows g 0 (by simp [MemPlace.row])).2 u v (by simpa using World.var?_cell hg0 hv0 0)
 obtain ⟨a0, s0, rfl, hc0, hs0, hz0, rfl⟩ := errorString_of_trod Tryz.underlying43 row_es Tryz.underlying236 Tryz.underlying238 rfl rfl Tryz.underlying9 cells_es cells_s1 hd0 ok0
 obtain ⟨c0, t0, hb0⟩ := (hrows a0.block a0.off (by simp [MemPlace.row])).1
 exact ⟨a0, by simpa using World.var?_cell hg0 hv0 0, c0, t0, hb0⟩
theorem sent2 {n0 n1 : String} {x0 x1 : List UInt8} {g0 g1 : Nat} {a b : Addr} {W : World} {l : List (String × DataW Unit)} (h : laidMetH Tryz.prog l W) (hl : l.filter (fun x => x.1 == n0 || x.1 == n1) = [(n0, sentD x0), (n1, sentD x1)])
 (hg0 : Tryz.prog.globalNamed n0 = some g0) (ht0 : (Tryz.prog.globals[g0]?).map (·.type) = some 43) (hg1 : Tryz.prog.globalNamed n1 = some g1) (ht1 : (Tryz.prog.globals[g1]?).map (·.type) = some 43)
 (ha : SenAt W g0 a) (hb : SenAt W g1 b) : a ≠ b := by
 have h1 := h.filter (fun x => x.1 == n0 || x.1 == n1)
 rw [hl, Go.MakeChecks.laidMetH_plain _ _ _ rfl] at h1
 obtain ⟨a0, a1, s0, s1, c0, c1, t0, t1, hv0, hv1, _, _, _, _, _, _, hne, _, _⟩ := laid_sentinels2 h1 hg0 ht0 hg1 ht1 Tryz.underlying43 row_es Tryz.underlying236 Tryz.underlying238 rfl rfl Tryz.underlying9 cells_es cells_s1
 have e0 : W.cell? ⟨g0, 0, none⟩ = some (.iface 236 (.pointer (some a0))) := by simpa using World.var?_cell hg0 hv0 0
 have e1 : W.cell? ⟨g1, 0, none⟩ = some (.iface 236 (.pointer (some a1))) := by simpa using World.var?_cell hg1 hv1 0
 have ea : a = a0 := by
  have := ha.1.symm.trans e0
  injection this with this
  injection this with _ this
  injection this with this
  injection this
 have eb : b = a1 := by
  have := hb.1.symm.trans e1
  injection this with this
  injection this with _ this
  injection this with this
  injection this
 rw [ea, eb]
 exact hne
theorem g_errDialect : Tryz.prog.globalNamed "groat/message.errDialect" = some 0 := by kernel_rfl
theorem gt_errDialect : (Tryz.prog.globals[0]?).map (·.type) = some 43 := by kernel_rfl
theorem g_errType : Tryz.prog.globalNamed "groat/message.errType" = some 1 := by kernel_rfl
theorem gt_errType : (Tryz.prog.globals[1]?).map (·.type) = some 43 := by kernel_rfl
theorem g_errLong : Tryz.prog.globalNamed "groat/message.errLong" = some 2 := by kernel_rfl
theorem gt_errLong : (Tryz.prog.globals[2]?).map (·.type) = some 43 := by kernel_rfl
theorem g_errMap : Tryz.prog.globalNamed "groat/message.errMap" = some 3 := by kernel_rfl
theorem gt_errMap : (Tryz.prog.globals[3]?).map (·.type) = some 43 := by kernel_rfl
theorem g_errMore : Tryz.prog.globalNamed "groat/message.errMore" = some 4 := by kernel_rfl
theorem gt_errMore : (Tryz.prog.globals[4]?).map (·.type) = some 43 := by kernel_rfl
theorem g_errField : Tryz.prog.globalNamed "groat/message.errField" = some 6 := by kernel_rfl
theorem gt_errField : (Tryz.prog.globals[6]?).map (·.type) = some 43 := by kernel_rfl
theorem g_errText : Tryz.prog.globalNamed "groat/message.errText" = some 9 := by kernel_rfl
theorem gt_errText : (Tryz.prog.globals[9]?).map (·.type) = some 43 := by kernel_rfl
theorem g_errBytes : Tryz.prog.globalNamed "groat/message.errBytes" = some 10 := by kernel_rfl
theorem gt_errBytes : (Tryz.prog.globals[10]?).map (·.type) = some 43 := by kernel_rfl
theorem g_errShort : Tryz.prog.globalNamed "groat/message.errShort" = some 11 := by kernel_rfl
theorem gt_errShort : (Tryz.prog.globals[11]?).map (·.type) = some 43 := by kernel_rfl
theorem gEt : Tryz.prog.globalNamed "errors.errorType" = some 8 := by kernel_rfl
theorem rt_type : (Tryz.prog.cutTypes.find? (·.1 == "internal/reflectlite.rtype")).map (·.2) = some 151 := by kernel_rfl
theorem er_only : ((List.range Tryz.prog.types.size).all fun u => !(Tryz.prog.rowNamed u [101, 114, 114, 111, 114]) || u == 43) = true := by kernel_rfl
theorem etype_of_laid {W : World} {l : List (String × DataW Unit)} (hl : l.filter (fun x => x.1 == "errors.errorType") = [("errors.errorType", Rows.laid_errors_errorType)]) (h : laidMetH Tryz.prog l W) : W.cell? ⟨8, 0, none⟩ = some (.iface 151 (.agg #[.pointer (some ⟨21, 43, none⟩)])) := by
 have h1 := h.filter (fun x => x.1 == "errors.errorType")
 rw [hl] at h1
 obtain ⟨_, h2⟩ : laidMet Tryz.prog [] W ∧ handlesMet Tryz.prog [("errors.errorType", Rows.laid_errors_errorType)] W := h1
 have h3 := h2 _ (List.mem_singleton.2 rfl)
 obtain ⟨name, u, ty, hn, hu, hty, hr, hv⟩ : ∃ name u ty, (Rows.laid_errors_errorType : DataW Unit).handleName? = some name ∧ (Tryz.prog.cutTypes.find? (·.1 == "internal/reflectlite.rtype")).map (·.2) = some u ∧ ty < Tryz.prog.types.size ∧ Tryz.prog.rowNamed ty name = true ∧ W.var? Tryz.prog "errors.errorType" = some #[.iface u (.agg #[typeHandle Tryz.prog ty])] := h3
 obtain rfl : [101, 114, 114, 111, 114] = name := Option.some.inj ((show (Rows.laid_errors_errorType : DataW Unit).handleName? = some [101, 114, 114, 111, 114] from by kernel_rfl).symm.trans hn)
 obtain rfl := Option.some.inj (rt_type.symm.trans hu)
 have hq := List.all_eq_true.1 er_only ty (List.mem_range.2 hty)
 rw [hr] at hq
 obtain rfl : ty = 43 := by simpa using hq
 have := World.var?_cell gEt hv 0
 simpa [typeHandle, show Tryz.prog.globals.size = 21 from by kernel_rfl] using this
def zeros64s : List Int := [0,1,56,2,57,49,28,3,61,58,42,50,38,29,17,4,62,47,59,36,45,43,51,22,53,39,33,30,24,18,12,5,63,55,48,27,60,41,37,16,46,35,44,21,52,32,23,11,54,26,40,15,34,20,31,10,25,14,19,9,13,8,7,6]
theorem gZer : Tryz.prog.globalNamed "math/bits.deBruijn64tab" = some 20 := by kernel_rfl
theorem zer_datum : (Rows.laid_math_bits_deBruijn64tab : DataW Unit) = Lib.tabData .u8 zeros64s := by kernel_rfl
theorem zer_of_laid {W : World} {l : List (String × DataW Unit)} (hl : l.filter (fun x => x.1 == "math/bits.deBruijn64tab") = [("math/bits.deBruijn64tab", Rows.laid_math_bits_deBruijn64tab)]) (h : laidMetH Tryz.prog l W) : ZerT W := by
 have h1 := h.filter (fun x => x.1 == "math/bits.deBruijn64tab")
 rw [hl, Go.MakeChecks.laidMetH_plain _ _ _ rfl, zer_datum] at h1
 have h2 := Lib.tabIs_of_head (t := 247) (e := 5) (n := 64) gZer (by kernel_rfl) Tryz.underlying247 Tryz.underlying5 (by kernel_rfl) (by kernel_rfl) h1
 exact h2.cell gZer 15 (by decide)
theorem gTong : Tryz.prog.globalNamed "groat/message.tongues" = some 5 := by kernel_rfl
theorem gTongType : (Tryz.prog.globals[5]?).map (·.type) = some 86 := by kernel_rfl
theorem cells_tongs : Tryz.prog.cellsOf 86 = 12 := by kernel_rfl
theorem cells_tong : Tryz.prog.cellsOf 70 = 3 := by kernel_rfl
theorem cells_i : Tryz.prog.cellsOf 3 = 1 := by kernel_rfl
def tongD (k : Int) (v u : List UInt8) : DataW Unit := .agg [.lit (.int .i64 k), .lit (.string v), .lit (.string u)]
theorem tong_datum : (Rows.laid_groat_message_tongues : DataW Unit) = .agg [tongD 0 [] [], tongD 1 [48] [], tongD 2 [49] [], tongD 3 [57] [48, 48]] := rfl
theorem list3 {l : List Value} (h : l.length = 3) : ∃ a b c, l = [a, b, c] := by
 match l, h with
 | [a, b, c], _ => exact ⟨a, b, c, rfl⟩
section
variable {enc : TypeId × Value → Unit} {w : World} {base : Nat} {spare : Nat → Bool} {held : Bool}
theorem int_of {n : Nat} {v : Value} {y : DataW Unit × List MemPlace} {k : Int} (h : DataW.trod enc Tryz.prog w base spare held n 3 [v] = some y) (hy : y.1 = .lit (.int .i64 k)) : v = .int .i64 k := by
 obtain ⟨s, hc, rfl, _⟩ := DataW.trod_int Tryz.underlying3 h
 injection hc with hc
 injection hy with hy
 injection hy with _ hy
 rw [hc, ← hy]
theorem tong_of {n : Nat} {cs : List Value} {y : DataW Unit × List MemPlace} {k : Int} {v u : List UInt8} (h : DataW.trod enc Tryz.prog w base spare held n 70 cs = some y) (hy : y.1 = tongD k v u) : cs = [.int .i64 k, strV v, strV u] := by
 obtain ⟨ys, m, _, hx, hl, hyl, hf⟩ := DataW.trod_struct Tryz.underlying70 h
 rw [cells_tong] at hl
 obtain ⟨c0, c1, c2, rfl⟩ := list3 hl
 have f0 : DataW.trod enc Tryz.prog w base spare held m 3 (([c0, c1, c2].drop 0).take (Tryz.prog.cellsOf 3)) = ys[0]? := hf 0 _ rfl
 have f1 : DataW.trod enc Tryz.prog w base spare held m 9 (([c0, c1, c2].drop 1).take (Tryz.prog.cellsOf 9)) = ys[1]? := hf 1 _ rfl
 have f2 : DataW.trod enc Tryz.prog w base spare held m 9 (([c0, c1, c2].drop 2).take (Tryz.prog.cellsOf 9)) = ys[2]? := hf 2 _ rfl
 rw [cells_s1] at f1 f2
 rw [cells_i] at f0
 have hyl3 : ys.length = 3 := hyl
 clear hf hl hyl
 match ys, hyl3 with
 | [y0, y1, y2], _ =>
   have e0 : DataW.trod enc Tryz.prog w base spare held m 3 [c0] = some y0 := f0
   have e1 : DataW.trod enc Tryz.prog w base spare held m 9 [c1] = some y1 := f1
   have e2 : DataW.trod enc Tryz.prog w base spare held m 9 [c2] = some y2 := f2
   rw [hx] at hy
   unfold tongD at hy
   simp only [List.map_cons, List.map_nil, DataW.agg.injEq, List.cons.injEq, and_true] at hy
   rw [int_of e0 hy.1, str_of e1 hy.2.1, str_of e2 hy.2.2]
theorem row3_of {n : Nat} {cs : List Value} {y : DataW Unit × List MemPlace} {a b c : Int} (h : DataW.trod enc Tryz.prog w base spare held n 110 cs = some y) (hy : y.1 = .agg [.lit (.int .i64 a), .lit (.int .i64 b), .lit (.int .i64 c)]) : cs = [.int .i64 a, .int .i64 b, .int .i64 c] := by
 obtain ⟨ys, m, _, hx, hl, hyl, hf⟩ := DataW.trod_struct Tryz.underlying110 h
 rw [show Tryz.prog.cellsOf 110 = 3 from by kernel_rfl] at hl
 obtain ⟨c0, c1, c2, rfl⟩ := list3 hl
 have f0 : DataW.trod enc Tryz.prog w base spare held m 3 (([c0, c1, c2].drop 0).take (Tryz.prog.cellsOf 3)) = ys[0]? := hf 0 _ rfl
 have f1 : DataW.trod enc Tryz.prog w base spare held m 3 (([c0, c1, c2].drop 1).take (Tryz.prog.cellsOf 3)) = ys[1]? := hf 1 _ rfl
 have f2 : DataW.trod enc Tryz.prog w base spare held m 3 (([c0, c1, c2].drop 2).take (Tryz.prog.cellsOf 3)) = ys[2]? := hf 2 _ rfl
 rw [cells_i] at f0 f1 f2
 have hyl3 : ys.length = 3 := hyl
 clear hf hl hyl
 match ys, hyl3 with
 | [y0, y1, y2], _ =>
   have e0 : DataW.trod enc Tryz.prog w base spare held m 3 [c0] = some y0 := f0
   have e1 : DataW.trod enc Tryz.prog w base spare held m 3 [c1] = some y1 := f1
   have e2 : DataW.trod enc Tryz.prog w base spare held m 3 [c2] = some y2 := f2
   rw [hx] at hy
   simp only [List.map_cons, List.map_nil, DataW.agg.injEq, List.cons.injEq, and_true] at hy
   rw [int_of e0 hy.1, int_of e1 hy.2.1, int_of e2 hy.2.2]
end
theorem tong_of_laid {W : World} {l : List (String × DataW Unit)} (hl : l.filter (fun x => x.1 == "groat/message.tongues") = [("groat/message.tongues", Rows.laid_groat_message_tongues)]) (h : laidMetH Tryz.prog l W) : ∀ i v, tongCells[i]? = some v → W.cell? ⟨5, i, none⟩ = some v := by
 have h1 := h.filter (fun x => x.1 == "groat/message.tongues")
 rw [hl, Go.MakeChecks.laidMetH_plain _ _ _ rfl] at h1
 obtain ⟨ps, ⟨g, t, cs, fuel, p, q, hg, ht, hv, hd, _, _⟩, _⟩ := h1
 obtain rfl := Option.some.inj (gTong.symm.trans hg)
 obtain rfl := Option.some.inj (gTongType.symm.trans ht)
 rw [tong_datum] at hd
 obtain ⟨xs, m, _, hx, hlen, hxl, hf⟩ := DataW.trod_array Tryz.underlying86 hd
 have hm : xs.map (·.1) = [tongD 0 [] [], tongD 1 [48] [], tongD 2 [49] [], tongD 3 [57] [48, 48]] := by
  have := congrArg Prod.fst hx
  injection this with this
  exact this.symm
 rw [cells_tongs] at hlen
 obtain ⟨x0, x1, x2, x3, rfl⟩ : ∃ a b c d, xs = [a, b, c, d] := by
  match xs, hxl with
  | [a, b, c, d], _ => exact ⟨a, b, c, d, rfl⟩
 ·simp only [List.map_cons, List.map_nil, List.cons.injEq, and_true] at hm
  have k0 := tong_of (hf 0 (by decide)) hm.1
  have k1 := tong_of (hf 1 (by decide)) hm.2.1
  have k2 := tong_of (hf 2 (by decide)) hm.2.2.1
  have k3 := tong_of (hf 3 (by decide)) hm.2.2.2
  rw [cells_tong] at k0 k1 k2 k3
  have hall : cs.toList = tongCells := by
   have e : cs.toList = ((cs.toList.drop (0 * 3)).take 3) ++ ((cs.toList.drop (1 * 3)).take 3) ++ ((cs.toList.drop (2 * 3)).take 3) ++ ((cs.toList.drop (3 * 3)).take 3) := by
    generalize cs.toList = L at hlen
    match L, hlen with
    | [b0, b1, b2, b3, b4, b5, b6, b7, b8, b9, b10, b11], _ => rfl
   rw [e, k0, k1, k2, k3]
   rfl
  intro i v hi
  rw [← hall] at hi
  have := World.var?_cell hg hv i
  rw [this, ← hi, Array.getElem?_toList]
theorem gMr : Tryz.prog.globalNamed "groat/message.rows" = some 7 := by kernel_rfl
theorem gMrType : (Tryz.prog.globals[7]?).map (·.type) = some 108 := by kernel_rfl
def row3D (r : Int × Int × Int) : DataW Unit := .agg [.lit (.int .i64 r.1), .lit (.int .i64 r.2.1), .lit (.int .i64 r.2.2)]
theorem mr_datum : (Rows.laid_groat_message_rows : DataW Unit) = .slice (mrows.map row3D) [] := rfl
theorem row_key (j i : Nat) (hj : j < 17) (hi : i < 3) : rowCells[j * 3 + i]? = ((mrows[j]?).map fun r => [Value.int .i64 r.1, .int .i64 r.2.1, .int .i64 r.2.2]).bind fun l => l[i]? := by
 have hjj : j = 0 ∨ j = 1 ∨ j = 2 ∨ j = 3 ∨ j = 4 ∨ j = 5 ∨ j = 6 ∨ j = 7 ∨ j = 8 ∨ j = 9 ∨ j = 10 ∨ j = 11 ∨ j = 12 ∨ j = 13 ∨ j = 14 ∨ j = 15 ∨ j = 16 := by omega
 have hii : i = 0 ∨ i = 1 ∨ i = 2 := by omega
 rcases hii with rfl | rfl | rfl <;> rcases hjj with rfl | rfl | rfl | rfl | rfl | rfl | rfl | rfl | rfl | rfl | rfl | rfl | rfl | rfl | rfl | rfl | rfl <;> rfl
theorem rows3_of_laid {W : World} {l : List (String × DataW Unit)} (hl : l.filter (fun x => x.1 == "groat/message.rows") = [("groat/message.rows", Rows.laid_groat_message_rows)]) (h : laidMetH Tryz.prog l W) : ∃ b off c, W.cell? ⟨7, 0, none⟩ = some (.slice (some ⟨b, off, none⟩) 17 c) ∧ ∀ i v, rowCells[i]? = some v → W.cell? ⟨b, off + i, none⟩ = some v := by
 have h1 := h.filter (fun x => x.1 == "groat/message.rows")
 rw [hl, Go.MakeChecks.laidMetH_plain _ _ _ rfl] at h1
 obtain ⟨ps, ⟨g, t, cs, fuel, p, q, hg, ht, hv, hd, _, _⟩, _⟩ := h1
 obtain rfl := Option.some.inj (gMr.symm.trans hg)
 obtain rfl := Option.some.inj (gMrType.symm.trans ht)
 rw [mr_datum] at hd
 rcases open_slice Tryz.underlying108 hd with ⟨_, hx⟩ | ⟨a, len, cap, m, n, D, Pl, hcs, hb, hlc, hm, hmm, hx, hi⟩
 ·cases hx
 ·have hx1 := congrArg Prod.fst hx
  injection hx1 with e1 e2
  have hlen : len = 17 := by
   have h17 : mrows.length = 17 := rfl
   have := congrArg List.length e1
   simp only [List.length_map, List.length_range] at this
   omega
  subst hlen
  have hlm : 17 ≤ m := by rw [hmm]; split <;> omega
  rw [show Tryz.prog.cellsOf 110 = 3 from by kernel_rfl] at hi
  have key : ∀ i r, mrows[i]? = some r → ∀ j v, [Value.int .i64 r.1, .int .i64 r.2.1, .int .i64 r.2.2][j]? = some v → W.cell? (a.add (i * 3 + j)) = some v := by
   intro i r hr j v hj
   have hi17 : i < 17 := (List.getElem?_eq_some_iff.1 hr).1
   obtain ⟨cs', hc, ht'⟩ := hi i (by omega)
   have hD : D i = row3D r := by
    have h2 := congrArg (fun l => l[i]?) e1
    simp only [List.getElem?_map, hr, Option.map_some, List.getElem?_range hi17] at h2
    exact (Option.some.inj h2).symm
   have := row3_of ht' hD
   subst this
   obtain ⟨_, _, hat⟩ := World.cells?_some hc
   have hj3 : j < 3 := (List.getElem?_eq_some_iff.1 hj).1
   rw [← Go.Deep.add_add, hat j hj3, hj]
  have hcell : W.cell? ⟨7, 0, none⟩ = some (.slice (some a) 17 cap) := by
   have := World.var?_cell hg hv 0
   rw [this, ← Array.getElem?_toList, hcs]
   rfl
  obtain ⟨b, off, spot⟩ := a
  have hsp : spot = none := by
   have := key 0 _ rfl 0 _ rfl
   simpa [Addr.add] using World.cell?_spot this
  subst hsp
  refine ⟨b, off, cap, hcell, fun i v hi => ?_⟩
  have hlt : i < 51 := (List.getElem?_eq_some_iff.1 hi).1
  have hq : ∃ r, mrows[i / 3]? = some r := ⟨_, List.getElem?_eq_getElem (show i / 3 < mrows.length from by show i / 3 < 17; omega)⟩
  obtain ⟨r, hr⟩ := hq
  have h9 := row_key (i / 3) (i % 3) (by omega) (by omega)
  rw [show i / 3 * 3 + i % 3 = i from by omega] at h9
  simp only [hr, Option.map_some, Option.bind_some] at h9
  have := key (i / 3) r hr (i % 3) v (h9.symm.trans hi)
  rw [show i / 3 * 3 + i % 3 = i from by omega] at this
  rw [show (⟨b, off, none⟩ : Addr).add i = ⟨b, off + i, none⟩ from by rw [add_nat]] at this
  exact this
theorem env_of_laid {W : World} {l : List (String × DataW Unit)} (hl : l = Rows.messageWritesRow.laid) (h : laidMetH Tryz.prog l W) : ∃ s, Env s W := by
 subst hl
 obtain ⟨a_dialect, h_dialect⟩ := sent1 (n := "groat/message.errDialect") rfl h g_errDialect gt_errDialect
 obtain ⟨a_type_, h_type_⟩ := sent1 (n := "groat/message.errType") rfl h g_errType gt_errType
 obtain ⟨a_long, h_long⟩ := sent1 (n := "groat/message.errLong") rfl h g_errLong gt_errLong
 obtain ⟨a_map, h_map⟩ := sent1 (n := "groat/message.errMap") rfl h g_errMap gt_errMap
 obtain ⟨a_more, h_more⟩ := sent1 (n := "groat/message.errMore") rfl h g_errMore gt_errMore
 obtain ⟨a_field, h_field⟩ := sent1 (n := "groat/message.errField") rfl h g_errField gt_errField
 obtain ⟨a_text, h_text⟩ := sent1 (n := "groat/message.errText") rfl h g_errText gt_errText
 obtain ⟨a_bytes, h_bytes⟩ := sent1 (n := "groat/message.errBytes") rfl h g_errBytes gt_errBytes
 obtain ⟨a_short, h_short⟩ := sent1 (n := "groat/message.errShort") rfl h g_errShort gt_errShort
 refine ⟨⟨a_dialect, a_type_, a_long, a_map, a_more, a_field, a_text, a_bytes, a_short⟩, ⟨h_dialect, h_type_, h_long, h_map, h_more, h_field, h_text, h_bytes, h_short, ⟨?_, ?_, ?_, ?_, ?_, ?_, ?_, ?_, ?_, ?_, ?_, ?_, ?_, ?_, ?_, ?_⟩, etype_of_laid rfl h⟩, ⟨rows3_of_laid rfl h, tong_of_laid rfl h⟩, rows_of_laid rfl h, pow_of_laid rfl h, zer_of_laid rfl h⟩
 ·exact (sent2 (n0 := "groat/message.errDialect") (n1 := "groat/message.errMore") h rfl g_errDialect gt_errDialect g_errMore gt_errMore h_dialect h_more).symm
 ·exact (sent2 (n0 := "groat/message.errType") (n1 := "groat/message.errMore") h rfl g_errType gt_errType g_errMore gt_errMore h_type_ h_more).symm
 ·exact (sent2 (n0 := "groat/message.errLong") (n1 := "groat/message.errMore") h rfl g_errLong gt_errLong g_errMore gt_errMore h_long h_more).symm
 ·exact (sent2 (n0 := "groat/message.errMap") (n1 := "groat/message.errMore") h rfl g_errMap gt_errMap g_errMore gt_errMore h_map h_more).symm
 ·exact (sent2 (n0 := "groat/message.errDialect") (n1 := "groat/message.errMap") h rfl g_errDialect gt_errDialect g_errMap gt_errMap h_dialect h_map).symm
 ·exact (sent2 (n0 := "groat/message.errType") (n1 := "groat/message.errMap") h rfl g_errType gt_errType g_errMap gt_errMap h_type_ h_map).symm
 ·exact (sent2 (n0 := "groat/message.errLong") (n1 := "groat/message.errMap") h rfl g_errLong gt_errLong g_errMap gt_errMap h_long h_map).symm
 ·exact (sent2 (n0 := "groat/message.errDialect") (n1 := "groat/message.errLong") h rfl g_errDialect gt_errDialect g_errLong gt_errLong h_dialect h_long).symm
 ·exact (sent2 (n0 := "groat/message.errType") (n1 := "groat/message.errLong") h rfl g_errType gt_errType g_errLong gt_errLong h_type_ h_long).symm
 ·exact (sent2 (n0 := "groat/message.errDialect") (n1 := "groat/message.errType") h rfl g_errDialect gt_errDialect g_errType gt_errType h_dialect h_type_).symm
 ·exact sent2 (n0 := "groat/message.errField") (n1 := "groat/message.errText") h rfl g_errField gt_errField g_errText gt_errText h_field h_text
 ·exact sent2 (n0 := "groat/message.errField") (n1 := "groat/message.errBytes") h rfl g_errField gt_errField g_errBytes gt_errBytes h_field h_bytes
 ·exact sent2 (n0 := "groat/message.errField") (n1 := "groat/message.errShort") h rfl g_errField gt_errField g_errShort gt_errShort h_field h_short
 ·exact (sent2 (n0 := "groat/message.errText") (n1 := "groat/message.errShort") h rfl g_errText gt_errText g_errShort gt_errShort h_text h_short).symm
 ·exact (sent2 (n0 := "groat/message.errBytes") (n1 := "groat/message.errShort") h rfl g_errBytes gt_errBytes g_errShort gt_errShort h_bytes h_short).symm
 ·exact (sent2 (n0 := "groat/message.errText") (n1 := "groat/message.errBytes") h rfl g_errText gt_errText g_errBytes gt_errBytes h_text h_bytes).symm
theorem fl_turnF {F : Nat → Prop} {w w' : World} {A : Option Addr} {n : Nat} {fs : List Fld} (h : Fl w A n fs) (ht : Turn F w w') (hA : ∀ b o t, A = some ⟨b, o, t⟩ → ¬ F b) : Fl w' A n fs := by
 obtain ⟨q1, q2, q3⟩ := h
 refine ⟨q1, q2, fun hp => ?_⟩
 obtain ⟨b9, o9, e9, h9⟩ := q3 hp
 exact ⟨b9, o9, e9, fun i f hf j v hv => (ht.cell (World.block_lt_of_cell? _ _ (h9 i f hf j v hv)) (hA b9 o9 none e9)).trans (h9 i f hf j v hv)⟩
theorem own_block {w : World} {B n c : Nat} {A : Option Addr} {l : List UInt8} (h : Own w B 5 (.slice A n c) l) : 0 < n → ∃ g cur, A = some ⟨g, 0, none⟩ ∧ B ≤ g ∧ Blk w g 5 cur ∧ n ≤ cur.size := fun hp => by
 obtain ⟨A9, n9, c9, hf, hb, _, _⟩ := h.form
 injection hf with q1 q2 q3
 subst q1 q2 q3
 have hn := hb.1
 rcases h.2 with ⟨e, h0⟩ | ⟨g, cap, cur, e, hB, hg, h1, _, h2, _⟩
 ·omega
 ·injection e with e1 e2 e3
  subst e1 e3
  exact ⟨g, cur, rfl, hB, hg, by omega⟩
theorem eqz {a : Act} {o : Oper} {W : World} {x y : Operand} {t u : TypeId} {i j : Int} (ho : o.op = .binOp .eql t x y u) (hx : a.eval x = .int .i64 i) (hy : a.eval y = .int .i64 j) (he : i = j) : (execOp a.eval o).run Tryz.prog W = .ok (.value (.bool true)) W := by
 subst he
 unfold execOp
 simp only [ho, hx, hy]
 go_simp
theorem nez {a : Act} {o : Oper} {W : World} {x y : Operand} {t u : TypeId} {i j : Int} (ho : o.op = .binOp .neq t x y u) (hx : a.eval x = .int .i64 i) (hy : a.eval y = .int .i64 j) (he : i = j) : (execOp a.eval o).run Tryz.prog W = .ok (.value (.bool false)) W := by
 subst he
 unfold execOp
 simp only [ho, hx, hy]
 go_simp
theorem nezT {a : Act} {o : Oper} {W : World} {x y : Operand} {t u : TypeId} {i j : Int} (ho : o.op = .binOp .neq t x y u) (hx : a.eval x = .int .i64 i) (hy : a.eval y = .int .i64 j) (he : i ≠ j) : (execOp a.eval o).run Tryz.prog W = .ok (.value (.bool true)) W := by
 unfold execOp
 simp only [ho, hx, hy]
 go_simp
 try exact he
theorem messageReads_walk {s : Sents} (x0 : Int) (A : Option Addr) (n c : Nat) (b : List UInt8) (W : World) (he0 : Env s W) (hb0 : Bs W A n b) (hz0 : A = none → c = 0) (hnc0 : n ≤ c) (hn0 : n ≤ 140737488355328) :
 Calls Tryz.prog 4 #[.int .i64 x0, .slice A n c] W fun e W' => e = .returned (.bool true) ∧ Below W.heap.size W W' := by
 have HE := zH he0
 have HB := zH hb0
 have HZ := zH hz0
 have HNC := zH hnc0
 have HN := zH hn0
 have y9 : (n : Int) ≤ 140737488355328 := by omega
 clear he0 hb0 hz0 hnc0 hn0
 go_enter Tryz.func4, Tryz.ntmps4
 go_upto_region 1 with fail
 refine wp_region_lit ?_
 have hS := shown_walk (s := s) W HE.out
 refine wpList_op rfl fun K9 HK9 => ?_
 go_wp2_with fail
 refine (hS).mono ?_
 rintro e w1 ⟨rfl, htx⟩
 refine HK9.out _ _ ?_
 clear HK9
 try simp only [zz]
 have HT1 := zH htx
 clear htx hS
 refine wA (.bool true) ?_
 simp only [zz]
 go_upto_region 2 with fail
 refine wp_region_lit ?_
 refine wR (v := .slice (some ⟨w1.heap.size, 0, none⟩) 0 0) (w' := w1.alloc (.cells #[] 5)) rfl (exec_make0 rfl) ?_
 simp only [zz]
 refine wM (.slice A n c) ?_
 simp only [zz]
 have hown0 := Own.empty w1 w1.heap.size 5 (Nat.le_refl _)
 have hb2t : Below w1.heap.size w1 (w1.alloc (.cells #[] 5)) := (Below.refl _ w1).alloc (Nat.le_refl _) _
 have hte : Turn nowhere w1 (w1.alloc (.cells #[] 5)) := (Turn.refl nowhere w1).alloc _
 have hb8 := bs_still (bs_still HB.out HT1.out) hte
 generalize w1.alloc (.cells #[] 5) = w2 at *
 refine wpList_append_bytes w2 rfl _ _ _ rfl w1.heap.size 5 byteInfo Tryz.underlying26 _ [] rfl hown0 A n c b rfl hb8 HZ.out (by have := HN.out; simp; omega) hte.size ?_
 intro v3 w3 ho3 hbl3
 rw [List.nil_append] at ho3
 have HT2 := zH (Turn.of_below (hb2t.trans hbl3) (Nat.le_refl _))
 have HOW := zH ho3
 obtain ⟨A3, n3, c3, rfl, hbs3, hnc3, _⟩ := ho3.form
 have hnn : n3 = n := by rw [← hbs3.1, HB.out.1]
 subst hnn
 have HB3 := zH hbs3
 have HC3 := zH hnc3
 clear hown0 hb2t hte hb8 ho3 hbl3 hbs3 hnc3
 try simp only [zz]
 refine wA (.slice A3 n3 c3) ?_
 simp only [zz]
 obtain ⟨r, hr⟩ : ∃ r, r = mdecode x0 b := ⟨_, rfl⟩
 have HR := zH hr
 go_upto_region 3 with fail
 refine wp_region_lit ?_
 refine wM (.int .i64 x0) ?_
 simp only [zz]
 refine wM (.slice A3 n3 c3) ?_
 simp only [zz]
 have hD := Decode_walk (s := s) (dd := x0) (c := c3) (HE.out.turn (HT1.out.next HT2.out)) HB3.out HC3.out HN.out
 rw [← hr] at hD
 refine wpList_op rfl fun K9 HK9 => ?_
 go_wp2_with fail
 refine (hD).mono ?_
 rintro e w4 ⟨Am, nm, cm, rfl, hfx, hgx, htx⟩
 refine HK9.out _ _ ?_
 clear HK9
 try simp only [zz]
 clear hD
 have HT4 := zH htx
 have HF4 := zH hfx
 have HG4 := zH hgx
 clear htx hfx hgx
 refine wM (.tuple #[msgV (msgE r).1 Am nm cm, .int .i64 (codeE r)]) ?_
 simp only [zz]
 refine wE (msgV (msgE r).1 Am nm cm) ?_
 simp only [zz]
 refine wE (.int .i64 (codeE r)) ?_
 simp only [zz]
 refine wpList_new 24 (.tmp 7) (.tmp 22) #[.int .i64 (msgE r).1, .slice Am nm cm] rfl rfl (zero_msg _) rfl rfl rfl rfl rfl rfl (by rw [size_msg]; rfl) (msgA_one _ _ _ _) ?_
 intro w5 gx hgs5 hbx hux
 simp only [zz]
 have HBgx := zH hbx
 have HT5 := zH hux
 clear hbx hux
 refine wA (.int .i64 (codeE r)) ?_
 simp only [zz]
 go_upto_region 4 with fail
 refine wp_region_lit ?_
 refine wM (.int .i64 x0) ?_
 simp only [zz]
 refine wM (.slice A n3 c) ?_
 simp only [zz]
 have hD := rDecode_walk (dd := x0) (bs_still HB.out (((HT1.out.next HT2.out).next HT4.out).next HT5.out)) HNC.out HZ.out HN.out
 rw [← mdecode_long, ← hr] at hD
 clear hr
 refine wpList_op rfl fun K9 HK9 => ?_
 go_wp2_with fail
 refine (hD).mono ?_
 rintro e w6 ⟨Ar, nr, cr, rfl, hfx, hgx, htx⟩
 refine HK9.out _ _ ?_
 clear HK9
 try simp only [zz]
 clear hD
 have HT6 := zH htx
 have HF6 := zH hfx
 clear htx hfx hgx
 refine wM (.tuple #[msgV (msgE r).1 Ar nr cr, .int .i64 (codeE r)]) ?_
 simp only [zz]
 refine wE (msgV (msgE r).1 Ar nr cr) ?_
 simp only [zz]
 refine wE (.int .i64 (codeE r)) ?_
 simp only [zz]
 refine wpList_new 24 (.tmp 9) (.tmp 28) #[.int .i64 (msgE r).1, .slice Ar nr cr] rfl rfl (zero_msg _) rfl rfl rfl rfl rfl rfl (by rw [size_msg]; rfl) (msgA_one _ _ _ _) ?_
 intro w7 gy _ hbx hux
 simp only [zz]
 have HBgy := zH hbx
 have HT7 := zH hux
 clear hbx hux
 refine wA (.int .i64 (codeE r)) ?_
 simp only [zz]
 go_upto_region 5 with fail
 refine wp_region_lit ?_
 refine wM (.bool true) ?_
 simp only [zz]
 refine wR (v := .bool false) rfl (ix_not (b := true) rfl rfl) ?_
 simp only [zz]
 refine wM (.bool false) ?_
 simp only [zz]
 refine wR (v := msgV (msgE r).1 Am nm cm) rfl (gx_loads rfl rfl (blk_range (HBgx.out.turn (HT6.out.next HT7.out) (fun e => e))) Tryz.underlying24 rfl (by rw [size_msg]; rfl)) ?_
 simp only [zz]
 refine wR (v := msgV (msgE r).1 Ar nr cr) rfl (gx_loads rfl rfl (blk_range HBgy.out) Tryz.underlying24 rfl (by rw [size_msg]; rfl)) ?_
 simp only [zz]
 have hS := Same_walk (ty1 := (msgE r).1) (ty2 := (msgE r).1) (c1 := cm) (c2 := cr) (HF4.out.still ((HT5.out.next HT6.out).next HT7.out)) (HF6.out.still HT7.out)
 rw [decide_eq_true (show (msgE r).1 = (msgE r).1 ∧ (msgE r).2 = (msgE r).2 from ⟨rfl, rfl⟩)] at hS
 refine wpList_op rfl fun K9 HK9 => ?_
 go_wp2_with fail
 refine (hS).mono ?_
 rintro e w8 ⟨rfl, htx⟩
 refine HK9.out _ _ ?_
 clear HK9
 try simp only [zz]
 clear hS
 have HT8 := zH htx
 clear htx
 refine wR (v := .bool false) rfl (ix_not (b := true) rfl rfl) ?_
 simp only [zz]
 refine wR (v := .bool false) rfl (ix_pickF rfl rfl rfl) ?_
 simp only [zz]
 refine wM (.bool false) ?_
 simp only [zz]
 refine wM (.int .i64 (codeE r)) ?_
 simp only [zz]
 refine wM (.int .i64 (codeE r)) ?_
 simp only [zz]
 refine wR (v := .bool false) rfl (nez rfl rfl rfl rfl) ?_
 simp only [zz]
 refine wR (v := .bool false) rfl (ix_pickF rfl rfl rfl) ?_
 simp only [zz]
 refine wM (.bool false) ?_
 simp only [zz]
 refine wM (.slice A3 n3 c3) ?_
 simp only [zz]
 refine wR (v := strV b) rfl (exec_strBs (l := b) rfl rfl (bs_still HB3.out ((((HT4.out.next HT5.out).next HT6.out).next HT7.out).next HT8.out))) ?_
 simp only [zz]
 refine wM (.slice A n3 c) ?_
 simp only [zz]
 refine wR (v := strV b) rfl (exec_strBs (l := b) rfl rfl (bs_still HB.out ((((((HT1.out.next HT2.out).next HT4.out).next HT5.out).next HT6.out).next HT7.out).next HT8.out))) ?_
 simp only [zz]
 refine wR (v := .bool false) rfl (sneqF (l := b) (m := b) rfl rfl rfl rfl) ?_
 simp only [zz]
 refine wR (v := .bool false) rfl (ix_pickF rfl rfl rfl) ?_
 simp only [zz]
 go_upto_region 7 with fail
 refine wp_region_lit ?_
 refine wA (.int .i64 0) ?_
 simp only [zz]
 have HOB := zH (fun hp => own_block HOW.out hp)
 have HT38 := zH ((((HT4.out.next HT5.out).next HT6.out).next HT7.out).next HT8.out)
 have HW18 := zH ((((((HT1.out.next HT2.out).next HT4.out).next HT5.out).next HT6.out).next HT7.out).next HT8.out)
 have HF8 := zH (HF4.out.still (((HT5.out.next HT6.out).next HT7.out).next HT8.out))
 have HX8 := zH (HBgx.out.turn ((HT6.out.next HT7.out).next HT8.out) (fun e => e))
 have HSZ := zH (show W.heap.size ≤ w1.heap.size from HT1.out.size)
 go_wp2_with fail
 go_loopg [11] n3 (fun gk iv wr => ∃ (i : Nat), i + gk = n3 ∧ iv = .int .i64 (i : Int) ∧ (0 < n3 → ∃ g cur, A3 = some ⟨g, 0, none⟩ ∧ w1.heap.size ≤ g ∧ g < w3.heap.size ∧ Blk wr g 5 cur ∧ n3 ≤ cur.size) ∧ Turn (fun q => ∃ s, A3 = some ⟨q, 0, s⟩ ∧ w1.heap.size ≤ q ∧ q < w3.heap.size) w8 wr)
 case atStart => exact ⟨0, by omega, rfl, (fun hp => by
  obtain ⟨g, cur, h1, h2, h3, h4⟩ := HOB.out hp
  exact ⟨g, cur, h1, h2, h3.lt, h3.turn HT38.out (fun e => e), h4⟩), Turn.refl _ _⟩
 obtain ⟨i, hig, rfl, hbk, htr⟩ := hrel
 have HIG := zH hig
 have HBK := zH hbk
 have HTR := zH htr
 clear hig hbk htr
 go_upto_region 8 with fail
 refine wp_region_lit ?_
 refine wM (.int .i64 (i : Int)) ?_
 simp only [zz]
 refine wM (.slice A3 n3 c3) ?_
 simp only [zz]
 refine wR (v := .int .i64 (n3 : Int)) rfl (gx_len rfl rfl Tryz.underlying26) ?_
 simp only [zz]
 by_cases hlt : i < n3
 ·have HLT := zH hlt
  have y1 : (i : Int) < (n3 : Int) := by omega
  obtain ⟨g, cur, rfl, hg1, hg3, hbg, hcs⟩ := HBK.out (by omega)
  have HBG := zH hbg
  have HCS := zH hcs
  have HG1 := zH hg1
  have HG3 := zH hg3
  clear hg1 hg3 hbg hcs hlt
  refine wR (v := .bool true) rfl (ix_lss rfl rfl rfl (decide_eq_true y1)) ?_
  simp only [zz]
  go_upto_region 10 with fail
  refine wp_region_lit ?_
  refine wM (.slice (some ⟨g, 0, none⟩) n3 c3) ?_
  simp only [zz]
  refine wM (.int .i64 (i : Int)) ?_
  simp only [zz]
  refine wR (v := .pointer (some ⟨g, 0 + i * 1, none⟩)) rfl (gx_iaddr (i := i) (sz := 1) rfl rfl rfl Tryz.underlying26 size_byte1 HLT.out (by omega)) ?_
  simp only [zz]
  refine wpList_store1 (v := .int .u8 99) rfl 5 (.tmp 58) (.const (.int .u8 99)) rfl HBG.out rfl rfl (by have := HCS.out; have := HLT.out; omega) rfl rfl size_byte1 ?_
  intro hbz huz
  have HBZ := zH hbz
  have HTZ := zH (HTR.out.trans huz (fun q hq e => by
   have e : q = g := e
   subst e
   exact ⟨none, rfl, HG1.out, HG3.out⟩))
  have HSZ2 := zH (show n3 ≤ (cur.setIfInBounds (0 + i * 1) (.int .u8 99)).size from by rw [Array.size_setIfInBounds]; exact HCS.out)
  clear hbz huz
  generalize wr.setCell ⟨g, 0 + i * 1, none⟩ (.int .u8 99) = wz at *
  generalize cur.setIfInBounds (0 + i * 1) (.int .u8 99) = cz at *
  try simp only [zz]
  go_upto_region 9 with fail
  refine wp_region_lit ?_
  refine wM (.int .i64 (i : Int)) ?_
  simp only [zz]
  refine wR (v := .int .i64 ((i + 1 : Nat) : Int)) rfl (ix_add rfl rfl rfl (by omega) (by omega)) ?_
  simp only [zz]
  refine wA (.int .i64 ((i + 1 : Nat) : Int)) ?_
  simp only [zz]
  go_wp2_with fail
  go_roundg (gk - 1)
  case measure => have := HIG.out; have := HLT.out; omega
  case rel => exact ⟨i + 1, by have := HIG.out; have := HLT.out; omega, by go_num, fun _ => ⟨g, cz, rfl, HG1.out, HG3.out, HBZ.out, HSZ2.out⟩, HTZ.out⟩
 ·refine wR (v := .bool false) rfl (ix_lss rfl rfl rfl (decide_eq_false (by omega))) ?_
  simp only [zz]
  clear hlt
  have HWX := zH (show Turn nowhere W wr from HW18.out.trans HTR.out (fun q hq e => by
   obtain ⟨_, _, h1, _⟩ := e
   have := HSZ.out
   omega))
  have HFX := zH (fl_turnF HF8.out HTR.out (fun b o t e h => by
   obtain ⟨_, _, _, h3⟩ := h
   have := HG4.out b o t e
   omega))
  have HXX := zH (HX8.out.turn HTR.out (fun h => by
   obtain ⟨_, _, _, h3⟩ := h
   have := HT4.out.size
   omega))
  cases r with
  | error k =>
    have HKN := zH (mdecode_err HR.out.symm)
    go_upto_region 11 with fail
    refine wp_region_lit ?_
    refine wM (.int .i64 k) ?_
    simp only [zz]
    refine wR (v := .bool true) rfl (nezT (i := k) (j := 0) rfl rfl rfl HKN.out) ?_
    simp only [zz]
    go_upto_region 12 with fail
    refine wp_region_lit ?_
    refine wA (.bool true) ?_
    simp only [zz]
    go_wp2_with fail
    go_ret
    exact ⟨rfl, (HWX.out).below (Nat.le_refl _) (fun _ _ e=>e)⟩
  | ok p =>
    obtain ⟨ty, fs⟩ := p
    have HEN := zH (mdecode_one HR.out.symm)
    have HCK := zH (show mcheck ty fs = 0 from by
     obtain ⟨_, ⟨h1, h2, h3, _⟩, _⟩ := mencode_ok.1 HEN.out
     exact mcheck_zero.2 ⟨h1, h2, h3⟩)
    go_upto_region 11 with fail
    refine wp_region_lit ?_
    refine wM (.int .i64 0) ?_
    simp only [zz]
    refine wR (v := .bool false) rfl (nez (i := 0) (j := 0) rfl rfl rfl rfl) ?_
    simp only [zz]
    go_upto_region 13 with fail
    refine wp_region_lit ?_
    refine wM (.int .i64 x0) ?_
    simp only [zz]
    refine wR (v := msgV ty Am nm cm) rfl (gx_loads rfl rfl (blk_range HXX.out) Tryz.underlying24 rfl (by rw [size_msg]; rfl)) ?_
    simp only [zz]
    have hE := enc_at (s := s) (c := cm) (fs := fs) HEN.out (HE.out.turn HWX.out) HFX.out
    refine wpList_op rfl fun K9 HK9 => ?_
    go_wp2_with fail
    refine (hE).mono ?_
    rintro e w9 ⟨A9e, n9e, c9e, rfl, hox, htx⟩
    refine HK9.out _ _ ?_
    clear HK9
    try simp only [zz]
    clear hE
    have HT9 := zH htx
    clear htx
    obtain ⟨A9, n9, c9, hf9, hb9, hnc9, hz9⟩ := hox.form
    injection hf9 with q1 q2 q3
    subst q1 q2 q3
    have HS9 := zH hb9
    clear hox hb9 hnc9 hz9
    refine wM (.tuple #[.slice A9e n9e c9e, .int .i64 0]) ?_
    simp only [zz]
    refine wE (.slice A9e n9e c9e) ?_
    simp only [zz]
    refine wE (.int .i64 0) ?_
    simp only [zz]
    refine wA (.slice A9e n9e c9e) ?_
    simp only [zz]
    refine wA (.int .i64 0) ?_
    simp only [zz]
    go_upto_region 14 with fail
    refine wp_region_lit ?_
    refine wM (.int .i64 0) ?_
    simp only [zz]
    refine wR (v := .bool true) rfl (eqz (i := 0) (j := 0) rfl rfl rfl rfl) ?_
    simp only [zz]
    refine wM (.bool true) ?_
    simp only [zz]
    refine wM (.slice A9e n9e c9e) ?_
    simp only [zz]
    refine wR (v := strV b) rfl (exec_strBs (l := b) rfl rfl HS9.out) ?_
    simp only [zz]
    refine wM (.slice A n3 c) ?_
    simp only [zz]
    refine wR (v := strV b) rfl (exec_strBs (l := b) rfl rfl (bs_still HB.out (HWX.out.next HT9.out))) ?_
    simp only [zz]
    refine wR (v := .bool true) rfl (seql_same (l := b) rfl rfl rfl) ?_
    simp only [zz]
    refine wR (v := .bool true) rfl (ix_pickT rfl rfl rfl) ?_
    simp only [zz]
    refine wM (.bool true) ?_
    simp only [zz]
    refine wR (v := msgV ty Am nm cm) rfl (gx_loads rfl rfl (blk_range (HXX.out.turn HT9.out (fun e => e))) Tryz.underlying24 rfl (by rw [size_msg]; rfl)) ?_
    simp only [zz]
    have hC := Check_walk (s := s) (ty := ty) (c := cm) (fs := fs) (HE.out.turn (HWX.out.next HT9.out)) (HFX.out.still HT9.out)
    rw [HCK.out] at hC
    refine wpList_op (by go_simp) fun K9 HK9 => ?_
    go_wp2_with fail
    refine (hC).mono ?_
    rintro e wa ⟨rfl, htx⟩
    refine HK9.out _ _ ?_
    clear HK9
    try simp only [zz]
    clear hC
    have HTa := zH htx
    clear htx
    refine wR (v := .bool true) (by go_simp) (eqz (i := 0) (j := 0) rfl rfl rfl rfl) ?_
    simp only [zz]
    refine wR (v := .bool true) (by go_simp) (ix_pickT rfl rfl rfl) ?_
    simp only [zz]
    refine wR (v := .bool true) (by go_simp) (gx_assign rfl rfl) ?_
    simp only [zz]
    go_wp2_with fail
    go_ret
    exact ⟨rfl, (((HWX.out.next HT9.out).next HTa.out)).below (Nat.le_refl _) (fun _ _ e=>e)⟩
open Go.Maps
section
variable {H : Type} {enc : TypeId × Value → H} {W : World} {base : Nat} {spare : Nat → Bool} {held : Bool}
end
noncomputable def hbase (os : Os) : World := (World.holding Tryz.prog os ⟨#[], #[], []⟩).setCell ⟨8, 0, none⟩ (.iface 151 (.agg #[.pointer (some ⟨21, 43, none⟩)]))
noncomputable def hworld (os : Os) (laid : List (String × DataW Unit)) : World := (hbase os).layVars Tryz.prog (laid.filter fun x => x.2.handleName?.isNone)
theorem hworld_os (os : Os) (laid : List (String × DataW Unit)) : (hworld os laid).os = os := (World.layVars_os _ _ _).trans rfl
theorem laidH_hworld {os : Os} {laid : List (String × DataW Unit)} (args : Array Value)
 (hf : (hbase os).layFits Tryz.prog (laid.filter fun x => x.2.handleName?.isNone) [] = true)
 (hi : (hbase os).layIfaces Tryz.prog (laid.filter fun x => x.2.handleName?.isNone) (hworld os laid) = true)
 (hh : (laid.filter fun x => x.2.handleName?.isSome).all (handleAtB Tryz.prog ((hworld os laid).forCall (fun _ _ => 0) ⟨#[], args, []⟩).memory) = true) :
 laidMetH Tryz.prog laid ((hworld os laid).forCall (fun _ _ => 0) ⟨#[], args, []⟩).memory := by
 refine laidMetH_of_parts ?_ hh
 unfold hworld at hi ⊢
 generalize (laid.filter fun x => x.2.handleName?.isNone) = l at *
 have e1 : (l.filter fun x => (l.map (·.1)).contains x.1) = l := List.filter_eq_self.2 fun x hx => List.contains_iff_mem.2 (List.mem_map.2 ⟨x, hx, rfl⟩)
 have e2 : (l.filter fun x => !(l.map (·.1)).contains x.1) = [] := List.filter_eq_nil_iff.2 fun x hx => by rw [List.contains_iff_mem.2 (List.mem_map.2 ⟨x, hx, rfl⟩)]; simp
 have h : laidMet Tryz.prog l ((hbase os).layVars Tryz.prog l) := laidMet_layVars (w0 := hbase os) (l.map (·.1)) [] (by rw [e1]) (by rw [e1]; exact hf) (by rw [e1]; exact hi) (by rw [e2]; exact LaidIn.none)
 exact h.of_heap (by simp [World.memory, World.forCall, Input.heap])
end Go.Proofs.YticofobhkmabiaaGreatDoor
namespace Go.Proofs.YticofobhkmabiaaGreatDoor.messageReads
open Go.ChangeShapes Go.WideShapes Go.ChangeAt Go.RowKit
open Go.ChangeMaps (open_string shut_string)
theorem own : ownKnob Tryz.prog.godebug = none := by kernel_rfl
theorem laidOut : laidOutB Tryz.prog = true := by kernel_rfl
theorem contract (H : Type) (enc : TypeId × Value → H) (W : World) (base : Nat) (args : Array Value) (ds gs : List (DataW H)) (before : List MemPlace)
 (hval : ∀ (j : Nat) t v, Tryz.f4.params[j]? = some t → args[j]? = some v → Value.okWide Tryz.prog W .any base t v)
 (hW : DataW.Whole enc Tryz.prog Tryz.f4.params.toList Rows.messageReadsSpec.vars false W args.toList ds gs before) (hsz0 : (DataW.weightsEach Tryz.prog (Tryz.f4.params.toList ++ Rows.messageReadsSpec.plain.varTypes Tryz.prog) (ds ++ gs)).all (· ≤ reachBytes) = true) (hL : laidMetH Tryz.prog Rows.messageReadsRow.laid W) (hsh : W.ShapedOpen Tryz.prog) :
 Calls Tryz.prog 4 args W fun e W' => ∃ v, e = .returned v ∧ Rows.messageReadsSpec.post enc Tryz.prog Tryz.f4 false true false false W args v W' := by
 have hW' := hW
 obtain ⟨p, q, hA0, hV, rfl, hfz, hnd⟩ := hW
 have hA : DataW.TrodAll enc Tryz.prog W 0 (fun _ => true) true Tryz.f4.params.toList args.toList ds p := hA0
 have hsz : (DataW.weightsEach Tryz.prog (Tryz.f4.params.toList ++ Rows.messageReadsSpec.plain.varTypes Tryz.prog) (ds ++ gs)).all (· ≤ reachBytes) = true := hsz0
 rw [Tryz.params4] at hA hval hsz
 obtain ⟨v0, vs0, d0, ds0, p0, q0, hargs, rfl, rfl, h0, r0⟩ := trodAll_cons hA
 obtain ⟨v1, vs1, d1, ds1, p1, q1, rfl, rfl, rfl, h1, r1⟩ := trodAll_cons r0
 obtain ⟨rfl, rfl, rfl⟩ := trodAll_nil r1
 obtain rfl : args = #[v0, v1] := by cases args; simp_all
 obtain ⟨rfl, rfl⟩ := trodVars_none hV
 obtain ⟨x0, rfl, rfl, rfl, w0⟩ := open_int Tryz.underlying3 (hval 0 3 v0 rfl rfl) h0
 obtain ⟨a1, len1, cap1, rfl⟩ := okWide_slice Tryz.underlying26 (hval 1 26 v1 rfl rfl)
 have k1 := h1
 have lt1 : ∀ x ∈ p1, x.block < W.heap.size := by obtain ⟨m, hm⟩ := k1; exact DataW.trod_lt m _ _ _ hm
 obtain ⟨z1, w1, nn1, lc1, hd1⟩ : ∃ bs, Bs W a1 len1 bs ∧ (a1 = none → cap1 = 0) ∧ len1 ≤ cap1 ∧ ((d1 = .nil ∧ cap1 = 0) ∨ ∃ es sp, d1 = .slice es sp ∧ es.length + sp.length = cap1) := by
  obtain ⟨fuel, hf⟩ := h1
  rcases open_ints Tryz.underlying26 Tryz.underlying5 (by kernel_rfl) hf with ⟨hcs, hx⟩ | ⟨x, l, c, zs, hcs, _, hl, hm, hz, hx, hcell, hwz⟩
  ·simp [Value.cells] at hcs
   obtain ⟨rfl, rfl, rfl⟩ := hcs
   exact ⟨[], bs_of_none W, fun _ => rfl, Nat.le_refl _, .inl ⟨(Prod.mk.injEq .. ▸ hx).1, rfl⟩⟩
  ·simp [Value.cells] at hcs
   obtain ⟨rfl, rfl, rfl⟩ := hcs
   have hz2 : zs.length = cap1 := by simpa using hz
   exact ⟨_, bs_of_ints hl hm hz2 hcell hwz, (fun h => by cases h), hl, .inr ⟨_, _, (Prod.mk.injEq .. ▸ hx).1, by simp [lits]; omega⟩⟩
 have rb1 : cap1 ≤ 140737488351232 := by
  rcases hd1 with ⟨_, h⟩ | ⟨es, sp, rfl, h⟩
  ·omega
  ·have hs := sized_slice hsz (j := 1) (t := 26) (e := 5) rfl rfl Tryz.underlying26
   rw [show Tryz.prog.bytesOf 5 = 1 from by kernel_rfl] at hs
   simp only [reachBytes] at hs
   omega
 obtain ⟨s, henv⟩ := env_of_laid (l := Rows.messageReadsRow.laid) rfl hL
 clear hA0
 refine (messageReads_walk x0 a1 len1 cap1 z1 W henv w1 nn1 lc1 (by omega)).mono fun e W' ⟨he, bel⟩ => ?_
 subst he
 exact ⟨_, rfl, _, _, _, [], _, [], hW', trodAll_mk1 (shut_bool Tryz.underlying4 _), (trodAll_cons_mk (shut_int Tryz.underlying3 w0) (trodAll_cons_mk (Below.trod laidOut (by kernel_rfl) (of_decide_eq_true (by kernel_rfl)) k1 bel lt1) trodAll_mk0)), rfl, bel.frame _, fun h => by cases h⟩
theorem laid_met (os : Os) : laidMetH Tryz.prog Rows.messageReadsRow.laid ((hworld os Rows.messageReadsRow.laid).forCall (fun _ _ => 0) ⟨#[], #[.int .i64 0, .slice none 0 0], []⟩).memory :=
 laidH_hworld _ (by kernel_rfl) (by kernel_rfl) (by kernel_rfl)
theorem reads (os : Os) {H : Type} (enc : TypeId × Value → H) : ∃ places, DataW.whole enc Tryz.prog ((hworld os Rows.messageReadsRow.laid).forCall (fun _ _ => 0) ⟨#[], #[.int .i64 0, .slice none 0 0], []⟩).memory Tryz.f4.params.toList Rows.messageReadsSpec.vars false [.int .i64 0, .slice none 0 0] 8 = some ([.lit (.int .i64 0), .nil], [], places) :=
 ⟨[], by kernel_rfl⟩
theorem lifted (os : Os) (started : os.Started) (H : Type) (enc : TypeId × Value → H) (F : Stop.Interp) :
 ReturnsInHanded {} Tryz.checked os 4 .any ((OpenSpec.ofChange Rows.messageReadsSpec).preRow enc Tryz.prog Tryz.f4 Rows.messageReadsRow.domain false Rows.messageReadsRow.laid) (((OpenSpec.ofChange Rows.messageReadsSpec).at F).post enc Tryz.prog Tryz.f4 false true false false) := by
 obtain ⟨places, hx⟩ := reads os enc
 refine returnsInHanded_of_row (C := Tryz.checked) (s := OpenSpec.ofChange Rows.messageReadsSpec) own started (by kernel_rfl) Tryz.func4
  (witness_zip (enc := enc) (C := Tryz.checked) false (hworld os Rows.messageReadsRow.laid) #[.int .i64 0, .slice none 0 0] (hworld_os _ _) (World.shaped_of_ZipB (by kernel_rfl) (by kernel_rfl)) (by kernel_rfl)
   (OpenSpec.preRow_of_cond 8 hx (by kernel_rfl) (fun k hk => by cases hk) (by kernel_rfl) (laid_met os))) ?_
 intro W base args ds gs before hval hW _ hcond hsz hL hsh _
 exact contract H enc W base args ds gs before hval hW hsz hL hsh
theorem said : Rows.MessageReadsSaid :=
 OpenClaim.holds_of_cond 4 Tryz.f4 rfl rfl rfl rfl rfl rfl rfl ⟨rfl, rfl, rfl, rfl, rfl⟩ rfl rfl rfl rfl rfl (by kernel_rfl) Tryz.func4 (by kernel_rfl)
  (of_decide_eq_true (by kernel_rfl)) (by unfold Func.isWrapper; first | (rw [if_pos (by decide +kernel)]; kernel_rfl) | (rw [if_neg (by decide +kernel)]; exact ⟨rfl, rfl⟩))
  (fun os started H enc _ F => by rw [OpenClaim.pre_eq_preRow]; exact lifted os started H enc F)
theorem plain (f : FuncId) (fn : Func) (hf : Tryz.pinned.checked.prog.funcNamed "groat/groatlaw05.MessageReads" = some f) (hfn : Tryz.pinned.checked.prog.funcs[f]? = some fn) :
 true = Tryz.pinned.checked.prog.looks [] ∧ ∀ (j : Nat) t, fn.params[j]? = some t → Tryz.pinned.checked.prog.wantsStandIn t = false := by
 obtain rfl : f = 4 := Option.some.inj ((show Tryz.prog.funcNamed "groat/groatlaw05.MessageReads" = some 4 by kernel_rfl).symm.trans hf) |>.symm
 obtain rfl : fn = Tryz.f4 := (Option.some.inj (Tryz.func4.symm.trans hfn)).symm
 refine ⟨by kernel_rfl, fun j t ht => ?_⟩
 rw [Tryz.params4] at ht
 have hm : t ∈ [3, 26] := by simpa using Array.mem_of_getElem? ht
 have hall : ([3, 26].all fun u => !Tryz.prog.wantsStandIn u) = true := by kernel_rfl
 exact (show Tryz.prog.wantsStandIn t = false by simpa using List.all_eq_true.1 hall t hm)
theorem card : Rows.MessageReadsCardSaid :=
 Claim7.holds_tied_plain_at .later [] _ _ _ _ said (fun _ h => by cases h) (by kernel_rfl) (fun _ h => by cases h) messageReads_row_tie rfl ⟨rfl, rfl⟩ (by kernel_rfl) rfl plain (by kernel_rfl)
#print axioms card
end Go.Proofs.YticofobhkmabiaaGreatDoor.messageReads
