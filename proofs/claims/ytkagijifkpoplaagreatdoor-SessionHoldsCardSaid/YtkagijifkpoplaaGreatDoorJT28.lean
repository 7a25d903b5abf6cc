/-
  Texts in one file. Conditions: the tables and the errors read as laid.
-/
import Derived.Test.YtkagijifkpoplaaGreatDoorJT27
import Derived.Test.YtkagijifkpoplaaGreatDoorJT18
import Derived.Test.YtkagijifkpoplaaGreatDoorJT15
import Derived.Deep.SlicePairs
import Derived.Lib.SmallJoins
import Derived.SizedLaws
import Derived.OpenShut
import Derived.Test.YtkagijifkpoplaaGreatDoorJT0
import Derived.Test.YtkagijifkpoplaaGreatDoorRows
import Derived.Test.YtkagijifkpoplaaGreatDoorJT11
import Derived.LaidSub
import Derived.MakeChecks
import Derived.Lib.LaidTab
import Derived.Test.YtkagijifkpoplaaGreatDoorJT16
import Derived.Stop.LaidTwo
import Derived.Deep.Slices
import Derived.WalkKit
import Derived.ProofKit
import Derived.Lay
import Derived.LaidMore
import Derived.Deep.DeepHandedRow
import Derived.Stop.Joined
import Derived.LaidHandle
import Derived.Test.YtkagijifkpoplaaGreatDoorJT1
set_option linter.unusedVariables false
set_option linter.unusedSimpArgs false
set_option maxRecDepth 40000
set_option maxHeartbeats 20000000
namespace Go.Proofs.YtkagijifkpoplaaGreatDoor
open Go.RowKit
open Sh (Wd B8 H8)
open Fdd
set_option maxRecDepth 20000
def sealT (r : Except Int B8) (ty : Int) : Int := match r with
 | .ok _ => ty
 | .error _ => 0
def sealF (r : Except Int B8) (fs : List Fld) : List Fld := match r with
 | .ok t => setM 64 t fs
 | .error _ => []
theorem set_len (t : B8) (fs : List Fld) : (setM 64 t fs).length = (bareM fs).length + 1 := by
 have h : ∀ (x : Fld) (l : List Fld), (insM x l).length = l.length + 1 := by
  intro x l
  induction l with
  | nil => rfl
  | cons y l ih => unfold insM; split <;> simp [ih]
 rw [setM, h]
 rfl
theorem same_yes {w : World} {ty : Int} {A1 A2 : Option Addr} {n1 c1 n2 c2 : Nat} {fs : List Fld} (h1 : Fl w A1 n1 fs) (h2 : Fl w A2 n2 fs) :
 Calls Tryz.prog 11 #[msgV ty A1 n1 c1, msgV ty A2 n2 c2] w fun e w' => e = .returned (.bool true) ∧ Turn nowhere w w' := by
 refine (Same_walk h1 h2).mono ?_
 rintro e w' ⟨rfl, ht⟩
 exact ⟨by rw [decide_eq_true ⟨rfl, rfl⟩], ht⟩
def SealQ (r : Except Int B8) (ty : Int) (fs : List Fld) (w : World) (e : Ending) (w' : World) : Prop :=
 ∃ (A : Option Addr) (n c : Nat), e = .returned (.tuple #[msgV (sealT r ty) A n c, .int .i64 (codeE r)]) ∧ Fl w' A n (sealF r fs) ∧ (A = none → c = 0) ∧ Turn nowhere w w'
theorem SealP.q {r : Except Int B8} {ty : Int} {fs : List Fld} {w w' : World} {e : Ending} (h : SealP r ty fs w e w') (hn : fs.length * 24 ≤ 140737488351232) : SealQ r ty fs w e w' := by
 obtain ⟨ty', A, n, c, rfl, ht, hm⟩ := h
 cases r with
 | error k =>
   obtain ⟨rfl, rfl, rfl, rfl⟩ := hm
   exact ⟨none, 0, 0, rfl, ⟨rfl, by decide, fun h => absurd h (by decide)⟩, fun _ => rfl, ht⟩
 | ok t =>
   obtain ⟨rfl, rfl, ho⟩ := hm
   have h1 := ho.fl (by rw [set_len]; have := bare_len fs; omega)
   exact ⟨A, _, c, rfl, h1.1, h1.2.2.2.2, ht⟩
open Go.Maps Go.ChangeShapes Go.WideShapes Go.Deep
theorem cells_msg : Tryz.prog.cellsOf 29 = 2 := by kernel_rfl
theorem cells_fld : Tryz.prog.cellsOf 38 = 2 := by kernel_rfl
theorem cells_int1 : Tryz.prog.cellsOf 3 = 1 := by kernel_rfl
theorem cells_str1 : Tryz.prog.cellsOf 9 = 1 := by kernel_rfl
theorem bytes_fld : Tryz.prog.bytesOf 38 = 24 := by kernel_rfl
section
variable {H : Type} {enc : TypeId × Value → H} {W : World} {base : Nat} {spare : Nat → Bool} {held : Bool}
theorem fl_of {A : Option Addr} {len cap fuel : Nat} {v : Value} {x : DataW H × List MemPlace} (h : DataW.trod enc Tryz.prog W base spare held fuel 27 [v] = some x) (hw : ∀ k ∈ x.1.weights Tryz.prog 27, k ≤ reachBytes) :
 ∃ A n c fs, v = .slice A n c ∧ Fl W A n fs ∧ n ≤ c ∧ (A = none → c = 0) ∧ ∀ f ∈ fs, (-9223372036854775808 ≤ f.1 ∧ f.1 ≤ 9223372036854775807) ∧ f.2.length ≤ 9223372036854775807 := by
 rcases open_slice_pairs Tryz.underlying27 Tryz.underlying38 cells_fld rfl rfl cells_int1 cells_str1 h with ⟨h0, _⟩ | ⟨a, len, cap, m, n, V0, V1, D0, D1, P0, P1, hcs, hb, hl, hm, hmm, rfl, hi⟩
 ·injection h0 with h0
  exact ⟨none, 0, 0, [], h0, ⟨rfl, Nat.zero_le _, fun h => absurd h (by decide)⟩, Nat.le_refl _, fun _ => rfl, fun f hf => by cases hf⟩
 ·injection hcs with hcs
  have hlm : len ≤ m := by rw [hmm]; split <;> omega
  have hb2 : len * 24 ≤ reachBytes := by
   have := hw ((((List.range len).map fun i => DataW.agg [D0 i, D1 i]).length + ((List.range (m - len)).map fun j => DataW.agg [D0 (len + j), D1 (len + j)]).length) * Tryz.prog.bytesOf 38) (by
    unfold DataW.weights
    simp only [Tryz.underlying27]
    exact List.mem_cons_self ..)
   rw [bytes_fld] at this
   simp only [List.length_map, List.length_range] at this
   omega
  have hn : len ≤ 140737488355328 := by
   have := reachBytes_lt
   omega
  have one : ∀ i, ∃ f : Fld, i < m → (V0 i = .int .i64 f.1 ∧ V1 i = strV f.2) ∧ (-9223372036854775808 ≤ f.1 ∧ f.1 ≤ 9223372036854775807) ∧ f.2.length ≤ 9223372036854775807 := by
   intro i
   by_cases him : i < m
   ·obtain ⟨_, _, t0, t1⟩ := hi i him
    obtain ⟨k, e0, _, w0⟩ := DataW.trod_int Tryz.underlying3 t0
    obtain ⟨s, e1, _, ws⟩ := DataW.trod_string Tryz.underlying9 t1
    injection e0 with e0
    injection e1 with e1
    exact ⟨(k, s.data.toList), fun _ => ⟨⟨e0, e1⟩, i64_in w0, by
     have h9 : s.data.toList.length ≤ maxLen := ws
     unfold maxLen at h9
     omega⟩⟩
   ·exact ⟨(0, []), fun h => absurd h him⟩
  obtain ⟨F, hF⟩ := Classical.axiomOfChoice one
  refine ⟨some a, len, cap, (List.range len).map F, hcs, ⟨by simp, hn, fun hp => ?_⟩, hl, (fun h => by cases h), fun f hf => ?_⟩
  ·obtain ⟨b, off, spot⟩ := a
   have hc := (hi 0 (by omega)).1
   have hspot : spot = none := by simpa [Addr.add] using World.cell?_spot hc
   subst hspot
   refine ⟨b, off, rfl, fun i f hf j v hv => ?_⟩
   have hil : i < len := by
    have := (List.getElem?_eq_some_iff.1 hf).1
    simpa using this
   have hfe : f = F i := by
    rw [List.getElem?_map, List.getElem?_range hil] at hf
    exact (Option.some.inj hf).symm
   subst hfe
   obtain ⟨⟨q0, q1⟩, _⟩ := hF i (by omega)
   obtain ⟨k0, k1, _, _⟩ := hi i (by omega)
   have hj : j < 2 := by
    have := (List.getElem?_eq_some_iff.1 hv).1
    simpa [fldA] using this
   have h2 : j = 0 ∨ j = 1 := by omega
   rcases h2 with rfl | rfl
   ·have e : v = .int .i64 (F i).1 := by
     have : some (Value.int .i64 (F i).1) = some v := hv
     exact (Option.some.inj this).symm
    rw [e, ← q0, ← k0, add_nat]
    rfl
   ·have e : v = strV (F i).2 := by
     have : some (strV (F i).2) = some v := hv
     exact (Option.some.inj this).symm
    rw [e, ← q1, ← k1, add_nat, Nat.add_assoc]
  ·obtain ⟨i, hi', rfl⟩ := List.mem_map.1 hf
   exact (hF i (by have := List.mem_range.1 hi'; omega)).2
theorem msg_of {b0 : Nat} {r : Reach} {v : Value} {d : DataW H} {p : List MemPlace} (hv : Value.okWide Tryz.prog W r b0 29 v) (h : DataW.Trod enc Tryz.prog W base spare held 29 v d p) (hw : ∀ k ∈ d.weights Tryz.prog 29, k ≤ reachBytes) :
 ∃ ty A n c fs, v = msgV ty A n c ∧ Fl W A n fs ∧ (-9223372036854775808 ≤ ty ∧ ty ≤ 9223372036854775807) ∧ n ≤ c ∧ (A = none → c = 0) ∧ ∀ f ∈ fs, (-9223372036854775808 ≤ f.1 ∧ f.1 ≤ 9223372036854775807) ∧ f.2.length ≤ 9223372036854775807 := by
 obtain ⟨v0, v1, y0, y1, n, rfl, rfl, _, t0, t1⟩ := Go.Joins.open_agg2 Tryz.underlying29 (by kernel_rfl) cells_msg hv h
 obtain ⟨k, e0, _, w0⟩ := DataW.trod_int Tryz.underlying3 t0
 injection e0 with e0
 subst e0
 obtain ⟨A, n, c, fs, rfl, hf, hnc, hz, hfs⟩ := fl_of (A := none) (len := 0) (cap := 0) t1 (fun k hk => hw k (by
  unfold DataW.weights
  simp only [Tryz.underlying29]
  show k ∈ DataW.weightsEach Tryz.prog [3, 27] [y0.1, y1.1]
  unfold DataW.weightsEach DataW.weightsEach
  exact List.mem_append_right _ (List.mem_append_left _ hk)))
 exact ⟨k, A, n, c, fs, rfl, hf, i64_in w0, hnc, hz, hfs⟩
end
section
variable {H : Type} {enc : TypeId × Value → H} {W : World} {base : Nat} {spare : Nat → Bool} {held : Bool}
theorem fl_room {fuel : Nat} {v : Value} {x : DataW H × List MemPlace} (h : DataW.trod enc Tryz.prog W base spare held fuel 27 [v] = some x) (hw : ∀ k ∈ x.1.weights Tryz.prog 27, k ≤ reachBytes) :
 ∀ A n c, v = .slice A n c → n * 24 ≤ reachBytes := by
 rcases open_slice_pairs Tryz.underlying27 Tryz.underlying38 cells_fld rfl rfl cells_int1 cells_str1 h with ⟨h0, _⟩ | ⟨a, len, cap, m, n, V0, V1, D0, D1, P0, P1, hcs, hb, hl, hm, hmm, rfl, hi⟩
 ·injection h0 with h0
  intro A n c e
  rw [h0] at e
  injection e with _ e2 _
  omega
 ·injection hcs with hcs
  have hlm : len ≤ m := by rw [hmm]; split <;> omega
  have hb2 : len * 24 ≤ reachBytes := by
   have := hw ((((List.range len).map fun i => DataW.agg [D0 i, D1 i]).length + ((List.range (m - len)).map fun j => DataW.agg [D0 (len + j), D1 (len + j)]).length) * Tryz.prog.bytesOf 38) (by
    unfold DataW.weights
    simp only [Tryz.underlying27]
    exact List.mem_cons_self ..)
   rw [bytes_fld] at this
   simp only [List.length_map, List.length_range] at this
   omega
  intro A n c e
  rw [hcs] at e
  injection e with _ e2 _
  omega
theorem msg_room {b0 : Nat} {r : Reach} {v : Value} {d : DataW H} {p : List MemPlace} (hv : Value.okWide Tryz.prog W r b0 29 v) (h : DataW.Trod enc Tryz.prog W base spare held 29 v d p) (hw : ∀ k ∈ d.weights Tryz.prog 29, k ≤ reachBytes) :
 ∀ ty A n c, v = msgV ty A n c → n * 24 ≤ 140737488351232 := by
 obtain ⟨v0, v1, y0, y1, n, rfl, rfl, _, t0, t1⟩ := Go.Joins.open_agg2 Tryz.underlying29 (by kernel_rfl) cells_msg hv h
 have hr := fl_room t1 (fun k hk => hw k (by
  unfold DataW.weights
  simp only [Tryz.underlying29]
  show k ∈ DataW.weightsEach Tryz.prog [3, 27] [y0.1, y1.1]
  unfold DataW.weightsEach DataW.weightsEach
  exact List.mem_append_right _ (List.mem_append_left _ hk)))
 intro ty A n c e
 unfold msgV at e
 injection e with e
 have e2 : v1 = .slice A n c := by
  have : (#[v0, v1] : Array Value)[1]? = some (.slice A n c) := by rw [e]; rfl
  exact Option.some.inj this
 have := hr A n c e2
 have hrb : reachBytes = 140737488351232 := by decide
 omega
end
section
variable {H : Type} {enc : TypeId × Value → H} {P : Program} {w : World} {base : Nat} {spare : Nat → Bool} {held : Bool}
end
section
variable {H : Type} {enc : TypeId × Value → H} {P : Program} {w : World} {base : Nat} {spare : Nat → Bool} {held : Bool}
theorem open_fldsN {e : TypeId} {fs : Array Go.Field} {n k : Nat} {cs : List Value} {y : DataW H × List MemPlace} (he : P.underlying e = some (.struct fs)) (hC : P.cellsOf e = k) (h : DataW.trod enc P w base spare held n e cs = some y) :
 cs.length = k ∧ ∃ m : Nat, ∀ (j : Nat) (f : Go.Field) (o c : Nat), fs[j]? = some f → f.offset = o → P.cellsOf f.type = c → ∃ z : DataW H × List MemPlace, DataW.trod enc P w base spare held m f.type ((cs.drop o).take c) = some z ∧ ∀ q ∈ z.1.weights P f.type, q ∈ y.1.weights P e := by
 obtain ⟨ys, m, _, hy0, hl, hlen, hf⟩ := DataW.trod_struct he h
 rw [hC] at hl
 refine ⟨hl, m, fun j f o c hj ho hc => ?_⟩
 subst ho hc
 have hjl : j < fs.size := (Array.getElem?_eq_some_iff.1 hj).1
 have h1 := hf j f hj
 have hy : ys[j]? = some (ys[j]'(by omega)) := List.getElem?_eq_getElem (by omega)
 refine ⟨ys[j]'(by omega), by rw [h1, hy], fun q hq => ?_⟩
 rw [hy0]
 unfold DataW.weights
 simp only [he]
 exact DataW.weights_mem_each (j := j) (t := f.type) (by simp [hj]) (by rw [List.getElem?_map, hy]; rfl) q hq
end
open Go.ChangeAt
def rowD (r : Rw) : DataW Unit := .agg [.lit (.string r.d), .lit (.string r.h), .lit (.string r.s), .lit (.string r.m)]
theorem rows_datum : (Rows.laid_groat_field_rows : DataW Unit) = .agg [rowD (rws 0), rowD (rws 1), rowD (rws 2), rowD (rws 3)] := rfl
theorem gRows : Tryz.prog.globalNamed "groat/field.rows" = some 13 := by kernel_rfl
theorem gRowsType : (Tryz.prog.globals[13]?).map (·.type) = some 220 := by kernel_rfl
theorem cells_rows : Tryz.prog.cellsOf 220 = 16 := by kernel_rfl
theorem cells_row : Tryz.prog.cellsOf 219 = 4 := by kernel_rfl
theorem list4 {l : List Value} (h : l.length = 4) : ∃ a b c d, l = [a, b, c, d] := by
 match l, h with
 | [a, b, c, d], _ => exact ⟨a, b, c, d, rfl⟩
section
variable {enc : TypeId × Value → Unit} {w : World} {base : Nat} {spare : Nat → Bool} {held : Bool}
theorem str_of {n : Nat} {v : Value} {y : DataW Unit × List MemPlace} {l : List UInt8} (h : DataW.trod enc Tryz.prog w base spare held n 9 [v] = some y) (hy : y.1 = .lit (.string l)) : v = strV l := by
 obtain ⟨s, hc, rfl, _⟩ := DataW.trod_string Tryz.underlying9 h
 injection hc with hc
 injection hy with hy
 injection hy with hy
 rw [hc, ← hy]
 rfl
theorem cells_str : Tryz.prog.cellsOf 9 = 1 := by kernel_rfl
theorem row_of {n : Nat} {cs : List Value} {y : DataW Unit × List MemPlace} {r : Rw} (h : DataW.trod enc Tryz.prog w base spare held n 219 cs = some y) (hy : y.1 = rowD r) : cs = rowV r := by
 obtain ⟨ys, m, _, hx, hl, hyl, hf⟩ := DataW.trod_struct Tryz.underlying219 h
 rw [cells_row] at hl
 obtain ⟨c0, c1, c2, c3, rfl⟩ := list4 hl
 have f0 : DataW.trod enc Tryz.prog w base spare held m 9 (([c0, c1, c2, c3].drop 0).take (Tryz.prog.cellsOf 9)) = ys[0]? := hf 0 _ rfl
 have f1 : DataW.trod enc Tryz.prog w base spare held m 9 (([c0, c1, c2, c3].drop 1).take (Tryz.prog.cellsOf 9)) = ys[1]? := hf 1 _ rfl
 have f2 : DataW.trod enc Tryz.prog w base spare held m 9 (([c0, c1, c2, c3].drop 2).take (Tryz.prog.cellsOf 9)) = ys[2]? := hf 2 _ rfl
 have f3 : DataW.trod enc Tryz.prog w base spare held m 9 (([c0, c1, c2, c3].drop 3).take (Tryz.prog.cellsOf 9)) = ys[3]? := hf 3 _ rfl
 rw [cells_str] at f0 f1 f2 f3
 have hyl4 : ys.length = 4 := hyl
 clear hf hl hyl
 match ys, hyl4 with
 | [y0, y1, y2, y3], _ =>
   have e0 : DataW.trod enc Tryz.prog w base spare held m 9 [c0] = some y0 := f0
   have e1 : DataW.trod enc Tryz.prog w base spare held m 9 [c1] = some y1 := f1
   have e2 : DataW.trod enc Tryz.prog w base spare held m 9 [c2] = some y2 := f2
   have e3 : DataW.trod enc Tryz.prog w base spare held m 9 [c3] = some y3 := f3
   rw [hx] at hy
   unfold rowD at hy
   simp only [List.map_cons, List.map_nil, DataW.agg.injEq, List.cons.injEq, and_true] at hy
   rw [str_of e0 hy.1, str_of e1 hy.2.1, str_of e2 hy.2.2.1, str_of e3 hy.2.2.2]
   rfl
end
theorem rows_of_laid {W : World} {l : List (String × DataW Unit)} (hl : l.filter (fun x => x.1 == "groat/field.rows") = [("groat/field.rows", Rows.laid_groat_field_rows)]) (h : laidMetH Tryz.prog l W) : RowsT W := by
 have h1 := h.filter (fun x => x.1 == "groat/field.rows")
 rw [hl, Go.MakeChecks.laidMetH_plain _ _ _ rfl] at h1
 obtain ⟨ps, ⟨g, t, cs, fuel, p, q, hg, ht, hv, hd, _, _⟩, _⟩ := h1
 obtain rfl := Option.some.inj (gRows.symm.trans hg)
 obtain rfl := Option.some.inj (gRowsType.symm.trans ht)
 rw [rows_datum] at hd
 obtain ⟨xs, m, _, hx, hlen, hxl, hf⟩ := DataW.trod_array Tryz.underlying220 hd
 have hm : xs.map (·.1) = [rowD (rws 0), rowD (rws 1), rowD (rws 2), rowD (rws 3)] := by
  have := congrArg Prod.fst hx
  injection this with this
  exact this.symm
 rw [cells_rows] at hlen
 intro k hk j v hj
 have hfk := hf k hk
 rw [cells_row] at hfk
 have hxk : xs[k]? = some xs[k] := List.getElem?_eq_getElem (by omega)
 rw [hxk] at hfk
 have hdk : xs[k].1 = rowD (rws k) := by
  have h2 := congrArg (fun l => l[k]?) hm
  simp only [List.getElem?_map, hxk, Option.map_some] at h2
  have hkk : k = 0 ∨ k = 1 ∨ k = 2 ∨ k = 3 := by omega
  rcases hkk with rfl | rfl | rfl | rfl <;> simpa using h2
 have hrow := row_of hfk hdk
 have hcell : W.cell? ⟨13, k * 4 + j, none⟩ = cs[k * 4 + j]? := World.var?_cell hg hv (k * 4 + j)
 rw [hcell]
 rw [← hrow] at hj
 have hj4 : j < 4 := by
  have := (List.getElem?_eq_some_iff.1 hj).1
  simp at this
  omega
 rw [List.getElem?_take, if_pos hj4, List.getElem?_drop] at hj
 rw [← Array.getElem?_toList]
 exact hj
theorem pow_datum : (Rows.laid_internal_strconv_uint64pow10 : DataW Unit) = Lib.tabData .u64 Lib.pow10Tab := by kernel_rfl
theorem pow_of_laid {W : World} {l : List (String × DataW Unit)} (hl : l.filter (fun x => x.1 == "internal/strconv.uint64pow10") = [("internal/strconv.uint64pow10", Rows.laid_internal_strconv_uint64pow10)]) (h : laidMetH Tryz.prog l W) : PowT W := by
 have h1 := h.filter (fun x => x.1 == "internal/strconv.uint64pow10")
 rw [hl, Go.MakeChecks.laidMetH_plain _ _ _ rfl, pow_datum] at h1
 exact Lib.tabIs_of_head (t := 248) (e := 128) (n := 20) gPow (by kernel_rfl) Tryz.underlying248 Tryz.underlying128 (by kernel_rfl) (by kernel_rfl) h1
theorem star : "*" ++ "errors.errorString" = "*errors.errorString" := by decide
theorem row_es (u : TypeId) (h : Tryz.prog.typeName? 3 u = some "*errors.errorString") : u = 259 :=
 typeName_ptr_named (nm := "errors.errorString") (by rw [star]; kernel_rfl) (by kernel_rfl) (by decide) u (by rw [star]; exact h)
def sentD (text : List UInt8) : DataW Unit := .iface "*errors.errorString" (.ptr (.agg [.lit (.string text)]))
theorem cells_es : Tryz.prog.cellsOf 277 = 1 := by kernel_rfl
theorem cells_s1 : Tryz.prog.cellsOf 9 = 1 := by kernel_rfl
theorem sent1 {n : String} {text : List UInt8} {g : Nat} {W : World} {l : List (String × DataW Unit)} (hl : l.filter (fun x => x.1 == n) = [(n, sentD text)]) (h : laidMetH Tryz.prog l W)
 (hg : Tryz.prog.globalNamed n = some g) (ht : (Tryz.prog.globals[g]?).map (·.type) = some 83) : ∃ a, SenAt W g a := by
 have h1 := h.filter (fun x => x.1 == n)
 rw [hl, Go.MakeChecks.laidMetH_plain _ _ _ rfl] at h1
 obtain ⟨ps, ⟨g0, t0, cs0, f0, p0, q0, hg0, ht0, hv0, hd0, _, e0⟩, _, hrows⟩ := h1
 obtain rfl := Option.some.inj (hg.symm.trans hg0)
 obtain rfl := Option.some.inj (ht.symm.trans ht0)
 subst e0
 obtain ⟨l0⟩ := cs0
 have ok0 : ∀ u v, l0 = [.iface u v] → Value.okWide Tryz.prog W .any 0 u v := fun u v e => by
  subst e
  exact (hrows g 0 (by simp [MemPlace.row])).2 u v (by simpa using World.var?_cell hg0 hv0 0)
 obtain ⟨a0, s0, rfl, hc0, hs0, hz0, rfl⟩ := errorString_of_trod Tryz.underlying83 row_es Tryz.underlying259 Tryz.underlying277 rfl rfl Tryz.underlying9 cells_es cells_s1 hd0 ok0
 obtain ⟨c0, t0, hb0⟩ := (hrows a0.block a0.off (by simp [MemPlace.row])).1
 exact ⟨a0, by simpa using World.var?_cell hg0 hv0 0, c0, t0, hb0⟩
theorem sent2 {n0 n1 : String} {x0 x1 : List UInt8} {g0 g1 : Nat} {a b : Addr} {W : World} {l : List (String × DataW Unit)} (h : laidMetH Tryz.prog l W) (hl : l.filter (fun x => x.1 == n0 || x.1 == n1) = [(n0, sentD x0), (n1, sentD x1)])
 (hg0 : Tryz.prog.globalNamed n0 = some g0) (ht0 : (Tryz.prog.globals[g0]?).map (·.type) = some 83) (hg1 : Tryz.prog.globalNamed n1 = some g1) (ht1 : (Tryz.prog.globals[g1]?).map (·.type) = some 83)
 (ha : SenAt W g0 a) (hb : SenAt W g1 b) : a ≠ b := by
 have h1 := h.filter (fun x => x.1 == n0 || x.1 == n1)
 rw [hl, Go.MakeChecks.laidMetH_plain _ _ _ rfl] at h1
 obtain ⟨a0, a1, s0, s1, c0, c1, t0, t1, hv0, hv1, _, _, _, _, _, _, hne, _, _⟩ := laid_sentinels2 h1 hg0 ht0 hg1 ht1 Tryz.underlying83 row_es Tryz.underlying259 Tryz.underlying277 rfl rfl Tryz.underlying9 cells_es cells_s1
 have e0 : W.cell? ⟨g0, 0, none⟩ = some (.iface 259 (.pointer (some a0))) := by simpa using World.var?_cell hg0 hv0 0
 have e1 : W.cell? ⟨g1, 0, none⟩ = some (.iface 259 (.pointer (some a1))) := by simpa using World.var?_cell hg1 hv1 0
 have ea : a = a0 := by
  have := ha.1.symm.trans e0
  injection this with this
  injection this with _ this
  injection this with this
  injection this
 have eb : b = a1 := by
  have := hb.1.symm.trans e1
  injection this with this
  injection this with _ this
  injection this with this
  injection this
 rw [ea, eb]
 exact hne
theorem g_errDialect : Tryz.prog.globalNamed "groat/message.errDialect" = some 0 := by kernel_rfl
theorem gt_errDialect : (Tryz.prog.globals[0]?).map (·.type) = some 83 := by kernel_rfl
theorem g_errType : Tryz.prog.globalNamed "groat/message.errType" = some 1 := by kernel_rfl
theorem gt_errType : (Tryz.prog.globals[1]?).map (·.type) = some 83 := by kernel_rfl
theorem g_errLong : Tryz.prog.globalNamed "groat/message.errLong" = some 2 := by kernel_rfl
theorem gt_errLong : (Tryz.prog.globals[2]?).map (·.type) = some 83 := by kernel_rfl
theorem g_errMap : Tryz.prog.globalNamed "groat/message.errMap" = some 3 := by kernel_rfl
theorem gt_errMap : (Tryz.prog.globals[3]?).map (·.type) = some 83 := by kernel_rfl
theorem g_errMore : Tryz.prog.globalNamed "groat/message.errMore" = some 4 := by kernel_rfl
theorem gt_errMore : (Tryz.prog.globals[4]?).map (·.type) = some 83 := by kernel_rfl
theorem g_errField : Tryz.prog.globalNamed "groat/message.errField" = some 7 := by kernel_rfl
theorem gt_errField : (Tryz.prog.globals[7]?).map (·.type) = some 83 := by kernel_rfl
theorem g_errText : Tryz.prog.globalNamed "groat/message.errText" = some 10 := by kernel_rfl
theorem gt_errText : (Tryz.prog.globals[10]?).map (·.type) = some 83 := by kernel_rfl
theorem g_errBytes : Tryz.prog.globalNamed "groat/message.errBytes" = some 11 := by kernel_rfl
theorem gt_errBytes : (Tryz.prog.globals[11]?).map (·.type) = some 83 := by kernel_rfl
theorem g_errShort : Tryz.prog.globalNamed "groat/message.errShort" = some 12 := by kernel_rfl
theorem gt_errShort : (Tryz.prog.globals[12]?).map (·.type) = some 83 := by kernel_rfl
theorem gEt : Tryz.prog.globalNamed "errors.errorType" = some 9 := by kernel_rfl
theorem rt_type : (Tryz.prog.cutTypes.find? (·.1 == "internal/reflectlite.rtype")).map (·.2) = some 180 := by kernel_rfl
theorem er_only : ((List.range Tryz.prog.types.size).all fun u => !(Tryz.prog.rowNamed u [101, 114, 114, 111, 114]) || u == 83) = true := by kernel_rfl
theorem etype_of_laid {W : World} {l : List (String × DataW Unit)} (hl : l.filter (fun x => x.1 == "errors.errorType") = [("errors.errorType", Rows.laid_errors_errorType)]) (h : laidMetH Tryz.prog l W) : W.cell? ⟨9, 0, none⟩ = some (.iface 180 (.agg #[.pointer (some ⟨20, 83, none⟩)])) := by
 have h1 := h.filter (fun x => x.1 == "errors.errorType")
 rw [hl] at h1
 obtain ⟨_, h2⟩ : laidMet Tryz.prog [] W ∧ handlesMet Tryz.prog [("errors.errorType", Rows.laid_errors_errorType)] W := h1
 have h3 := h2 _ (List.mem_singleton.2 rfl)
 obtain ⟨name, u, ty, hn, hu, hty, hr, hv⟩ : ∃ name u ty, (Rows.laid_errors_errorType : DataW Unit).handleName? = some name ∧ (Tryz.prog.cutTypes.find? (·.1 == "internal/reflectlite.rtype")).map (·.2) = some u ∧ ty < Tryz.prog.types.size ∧ Tryz.prog.rowNamed ty name = true ∧ W.var? Tryz.prog "errors.errorType" = some #[.iface u (.agg #[typeHandle Tryz.prog ty])] := h3
 obtain rfl : [101, 114, 114, 111, 114] = name := Option.some.inj ((show (Rows.laid_errors_errorType : DataW Unit).handleName? = some [101, 114, 114, 111, 114] from by kernel_rfl).symm.trans hn)
 obtain rfl := Option.some.inj (rt_type.symm.trans hu)
 have hq := List.all_eq_true.1 er_only ty (List.mem_range.2 hty)
 rw [hr] at hq
 obtain rfl : ty = 83 := by simpa using hq
 have := World.var?_cell gEt hv 0
 simpa [typeHandle, show Tryz.prog.globals.size = 20 from by kernel_rfl] using this
def zeros64s : List Int := [0,1,56,2,57,49,28,3,61,58,42,50,38,29,17,4,62,47,59,36,45,43,51,22,53,39,33,30,24,18,12,5,63,55,48,27,60,41,37,16,46,35,44,21,52,32,23,11,54,26,40,15,34,20,31,10,25,14,19,9,13,8,7,6]
theorem gZer : Tryz.prog.globalNamed "math/bits.deBruijn64tab" = some 19 := by kernel_rfl
theorem zer_datum : (Rows.laid_math_bits_deBruijn64tab : DataW Unit) = Lib.tabData .u8 zeros64s := by kernel_rfl
theorem zer_of_laid {W : World} {l : List (String × DataW Unit)} (hl : l.filter (fun x => x.1 == "math/bits.deBruijn64tab") = [("math/bits.deBruijn64tab", Rows.laid_math_bits_deBruijn64tab)]) (h : laidMetH Tryz.prog l W) : ZerT W := by
 have h1 := h.filter (fun x => x.1 == "math/bits.deBruijn64tab")
 rw [hl, Go.MakeChecks.laidMetH_plain _ _ _ rfl, zer_datum] at h1
 have h2 := Lib.tabIs_of_head (t := 89) (e := 5) (n := 64) gZer (by kernel_rfl) Tryz.underlying89 Tryz.underlying5 (by kernel_rfl) (by kernel_rfl) h1
 exact h2.cell gZer 15 (by decide)
theorem gTong : Tryz.prog.globalNamed "groat/message.tongues" = some 6 := by kernel_rfl
theorem gTongType : (Tryz.prog.globals[6]?).map (·.type) = some 139 := by kernel_rfl
theorem cells_tongs : Tryz.prog.cellsOf 139 = 12 := by kernel_rfl
theorem cells_tong : Tryz.prog.cellsOf 112 = 3 := by kernel_rfl
theorem cells_i : Tryz.prog.cellsOf 3 = 1 := by kernel_rfl
def tongD (k : Int) (v u : List UInt8) : DataW Unit := .agg [.lit (.int .i64 k), .lit (.string v), .lit (.string u)]
theorem tong_datum : (Rows.laid_groat_message_tongues : DataW Unit) = .agg [tongD 0 [] [], tongD 1 [48] [], tongD 2 [49] [], tongD 3 [57] [48, 48]] := rfl
theorem list3 {l : List Value} (h : l.length = 3) : ∃ a b c, l = [a, b, c] := by
 match l, h with
 | [a, b, c], _ => exact ⟨a, b, c, rfl⟩
section
variable {enc : TypeId × Value → Unit} {w : World} {base : Nat} {spare : Nat → Bool} {held : Bool}
theorem int_of {n : Nat} {v : Value} {y : DataW Unit × List MemPlace} {k : Int} (h : DataW.trod enc Tryz.prog w base spare held n 3 [v] = some y) (hy : y.1 = .lit (.int .i64 k)) : v = .int .i64 k := by
 obtain ⟨s, hc, rfl, _⟩ := DataW.trod_int Tryz.underlying3 h
 injection hc with hc
 injection hy with hy
 injection hy with _ hy
 rw [hc, ← hy]
theorem tong_of {n : Nat} {cs : List Value} {y : DataW Unit × List MemPlace} {k : Int} {v u : List UInt8} (h : DataW.trod enc Tryz.prog w base spare held n 112 cs = some y) (hy : y.1 = tongD k v u) : cs = [.int .i64 k, strV v, strV u] := by
 obtain ⟨ys, m, _, hx, hl, hyl, hf⟩ := DataW.trod_struct Tryz.underlying112 h
 rw [cells_tong] at hl
 obtain ⟨c0, c1, c2, rfl⟩ := list3 hl
 have f0 : DataW.trod enc Tryz.prog w base spare held m 3 (([c0, c1, c2].drop 0).take (Tryz.prog.cellsOf 3)) = ys[0]? := hf 0 _ rfl
 have f1 : DataW.trod enc Tryz.prog w base spare held m 9 (([c0, c1, c2].drop 1).take (Tryz.prog.cellsOf 9)) = ys[1]? := hf 1 _ rfl
 have f2 : DataW.trod enc Tryz.prog w base spare held m 9 (([c0, c1, c2].drop 2).take (Tryz.prog.cellsOf 9)) = ys[2]? := hf 2 _ rfl
 rw [cells_s1] at f1 f2
 rw [cells_i] at f0
 have hyl3 : ys.length = 3 := hyl
 clear hf hl hyl
 match ys, hyl3 with
 | [y0, y1, y2], _ =>
   have e0 : DataW.trod enc Tryz.prog w base spare held m 3 [c0] = some y0 := f0
   have e1 : DataW.trod enc Tryz.prog w base spare held m 9 [c1] = some y1 := f1
   have e2 : DataW.trod enc Tryz.prog w base spare held m 9 [c2] = some y2 := f2
   rw [hx] at hy
   unfold tongD at hy
   simp only [List.map_cons, List.map_nil, DataW.agg.injEq, List.cons.injEq, and_true] at hy
   rw [int_of e0 hy.1, str_of e1 hy.2.1, str_of e2 hy.2.2]
theorem row3_of {n : Nat} {cs : List Value} {y : DataW Unit × List MemPlace} {a b c : Int} (h : DataW.trod enc Tryz.prog w base spare held n 147 cs = some y) (hy : y.1 = .agg [.lit (.int .i64 a), .lit (.int .i64 b), .lit (.int .i64 c)]) : cs = [.int .i64 a, .int .i64 b, .int .i64 c] := by
 obtain ⟨ys, m, _, hx, hl, hyl, hf⟩ := DataW.trod_struct Tryz.underlying147 h
 rw [show Tryz.prog.cellsOf 147 = 3 from by kernel_rfl] at hl
 obtain ⟨c0, c1, c2, rfl⟩ := list3 hl
 have f0 : DataW.trod enc Tryz.prog w base spare held m 3 (([c0, c1, c2].drop 0).take (Tryz.prog.cellsOf 3)) = ys[0]? := hf 0 _ rfl
 have f1 : DataW.trod enc Tryz.prog w base spare held m 3 (([c0, c1, c2].drop 1).take (Tryz.prog.cellsOf 3)) = ys[1]? := hf 1 _ rfl
 have f2 : DataW.trod enc Tryz.prog w base spare held m 3 (([c0, c1, c2].drop 2).take (Tryz.prog.cellsOf 3)) = ys[2]? := hf 2 _ rfl
 rw [cells_i] at f0 f1 f2
 have hyl3 : ys.length = 3 := hyl
 clear hf hl hyl
 match ys, hyl3 with
 | [y0, y1, y2], _ =>
   have e0 : DataW.trod enc Tryz.prog w base spare held m 3 [c0] = some y0 := f0
   have e1 : DataW.trod enc Tryz.prog w base spare held m 3 [c1] = some y1 := f1
   have e2 : DataW.trod enc Tryz.prog w base spare held m 3 [c2] = some y2 := f2
   rw [hx] at hy
   simp only [List.map_cons, List.map_nil, DataW.agg.injEq, List.cons.injEq, and_true] at hy
   rw [int_of e0 hy.1, int_of e1 hy.2.1, int_of e2 hy.2.2]
end
theorem tong_of_laid {W : World} {l : List (String × DataW Unit)} (hl : l.filter (fun x => x.1 == "groat/message.tongues") = [("groat/message.tongues", Rows.laid_groat_message_tongues)]) (h : laidMetH Tryz.prog l W) : ∀ i v, tongCells[i]? = some v → W.cell? ⟨6, i, none⟩ = some v := by
 have h1 := h.filter (fun x => x.1 == "groat/message.tongues")
 rw [hl, Go.MakeChecks.laidMetH_plain _ _ _ rfl] at h1
 obtain ⟨ps, ⟨g, t, cs, fuel, p, q, hg, ht, hv, hd, _, _⟩, _⟩ := h1
 obtain rfl := Option.some.inj (gTong.symm.trans hg)
 obtain rfl := Option.some.inj (gTongType.symm.trans ht)
 rw [tong_datum] at hd
 obtain ⟨xs, m, _, hx, hlen, hxl, hf⟩ := DataW.trod_array Tryz.underlying139 hd
 have hm : xs.map (·.1) = [tongD 0 [] [], tongD 1 [48] [], tongD 2 [49] [], tongD 3 [57] [48, 48]] := by
  have := congrArg Prod.fst hx
  injection this with this
  exact this.symm
 rw [cells_tongs] at hlen
 obtain ⟨x0, x1, x2, x3, rfl⟩ : ∃ a b c d, xs = [a, b, c, d] := by
  match xs, hxl with
  | [a, b, c, d], _ => exact ⟨a, b, c, d, rfl⟩
 ·simp only [List.map_cons, List.map_nil, List.cons.injEq, and_true] at hm
  have k0 := tong_of (hf 0 (by decide)) hm.1
  have k1 := tong_of (hf 1 (by decide)) hm.2.1
  have k2 := tong_of (hf 2 (by decide)) hm.2.2.1
  have k3 := tong_of (hf 3 (by decide)) hm.2.2.2
  rw [cells_tong] at k0 k1 k2 k3
  have hall : cs.toList = tongCells := by
   have e : cs.toList = ((cs.toList.drop (0 * 3)).take 3) ++ ((cs.toList.drop (1 * 3)).take 3) ++ ((cs.toList.drop (2 * 3)).take 3) ++ ((cs.toList.drop (3 * 3)).take 3) := by
    generalize cs.toList = L at hlen
    match L, hlen with
    | [b0, b1, b2, b3, b4, b5, b6, b7, b8, b9, b10, b11], _ => rfl
   rw [e, k0, k1, k2, k3]
   rfl
  intro i v hi
  rw [← hall] at hi
  have := World.var?_cell hg hv i
  rw [this, ← hi, Array.getElem?_toList]
theorem gMr : Tryz.prog.globalNamed "groat/message.rows" = some 8 := by kernel_rfl
theorem gMrType : (Tryz.prog.globals[8]?).map (·.type) = some 145 := by kernel_rfl
def row3D (r : Int × Int × Int) : DataW Unit := .agg [.lit (.int .i64 r.1), .lit (.int .i64 r.2.1), .lit (.int .i64 r.2.2)]
theorem mr_datum : (Rows.laid_groat_message_rows : DataW Unit) = .slice (mrows.map row3D) [] := rfl
theorem row_key (j i : Nat) (hj : j < 17) (hi : i < 3) : rowCells[j * 3 + i]? = ((mrows[j]?).map fun r => [Value.int .i64 r.1, .int .i64 r.2.1, .int .i64 r.2.2]).bind fun l => l[i]? := by
 have hjj : j = 0 ∨ j = 1 ∨ j = 2 ∨ j = 3 ∨ j = 4 ∨ j = 5 ∨ j = 6 ∨ j = 7 ∨ j = 8 ∨ j = 9 ∨ j = 10 ∨ j = 11 ∨ j = 12 ∨ j = 13 ∨ j = 14 ∨ j = 15 ∨ j = 16 := by omega
 have hii : i = 0 ∨ i = 1 ∨ i = 2 := by omega
 rcases hii with rfl | rfl | rfl <;> rcases hjj with rfl | rfl | rfl | rfl | rfl | rfl | rfl | rfl | rfl | rfl | rfl | rfl | rfl | rfl | rfl | rfl | rfl <;> rfl
theorem rows3_of_laid {W : World} {l : List (String × DataW Unit)} (hl : l.filter (fun x => x.1 == "groat/message.rows") = [("groat/message.rows", Rows.laid_groat_message_rows)]) (h : laidMetH Tryz.prog l W) : ∃ b off c, W.cell? ⟨8, 0, none⟩ = some (.slice (some ⟨b, off, none⟩) 17 c) ∧ ∀ i v, rowCells[i]? = some v → W.cell? ⟨b, off + i, none⟩ = some v := by
 have h1 := h.filter (fun x => x.1 == "groat/message.rows")
 rw [hl, Go.MakeChecks.laidMetH_plain _ _ _ rfl] at h1
 obtain ⟨ps, ⟨g, t, cs, fuel, p, q, hg, ht, hv, hd, _, _⟩, _⟩ := h1
 obtain rfl := Option.some.inj (gMr.symm.trans hg)
 obtain rfl := Option.some.inj (gMrType.symm.trans ht)
 rw [mr_datum] at hd
 rcases open_slice Tryz.underlying145 hd with ⟨_, hx⟩ | ⟨a, len, cap, m, n, D, Pl, hcs, hb, hlc, hm, hmm, hx, hi⟩
 ·cases hx
 ·have hx1 := congrArg Prod.fst hx
  injection hx1 with e1 e2
  have hlen : len = 17 := by
   have h17 : mrows.length = 17 := rfl
   have := congrArg List.length e1
   simp only [List.length_map, List.length_range] at this
   omega
  subst hlen
  have hlm : 17 ≤ m := by rw [hmm]; split <;> omega
  rw [show Tryz.prog.cellsOf 147 = 3 from by kernel_rfl] at hi
  have key : ∀ i r, mrows[i]? = some r → ∀ j v, [Value.int .i64 r.1, .int .i64 r.2.1, .int .i64 r.2.2][j]? = some v → W.cell? (a.add (i * 3 + j)) = some v := by
   intro i r hr j v hj
   have hi17 : i < 17 := (List.getElem?_eq_some_iff.1 hr).1
   obtain ⟨cs', hc, ht'⟩ := hi i (by omega)
   have hD : D i = row3D r := by
    have h2 := congrArg (fun l => l[i]?) e1
    simp only [List.getElem?_map, hr, Option.map_some, List.getElem?_range hi17] at h2
    exact (Option.some.inj h2).symm
   have := row3_of ht' hD
   subst this
   obtain ⟨_, _, hat⟩ := World.cells?_some hc
   have hj3 : j < 3 := (List.getElem?_eq_some_iff.1 hj).1
   rw [← Go.Deep.add_add, hat j hj3, hj]
  have hcell : W.cell? ⟨8, 0, none⟩ = some (.slice (some a) 17 cap) := by
   have := World.var?_cell hg hv 0
   rw [this, ← Array.getElem?_toList, hcs]
   rfl
  obtain ⟨b, off, spot⟩ := a
  have hsp : spot = none := by
   have := key 0 _ rfl 0 _ rfl
   simpa [Addr.add] using World.cell?_spot this
  subst hsp
  refine ⟨b, off, cap, hcell, fun i v hi => ?_⟩
  have hlt : i < 51 := (List.getElem?_eq_some_iff.1 hi).1
  have hq : ∃ r, mrows[i / 3]? = some r := ⟨_, List.getElem?_eq_getElem (show i / 3 < mrows.length from by show i / 3 < 17; omega)⟩
  obtain ⟨r, hr⟩ := hq
  have h9 := row_key (i / 3) (i % 3) (by omega) (by omega)
  rw [show i / 3 * 3 + i % 3 = i from by omega] at h9
  simp only [hr, Option.map_some, Option.bind_some] at h9
  have := key (i / 3) r hr (i % 3) v (h9.symm.trans hi)
  rw [show i / 3 * 3 + i % 3 = i from by omega] at this
  rw [show (⟨b, off, none⟩ : Addr).add i = ⟨b, off + i, none⟩ from by rw [add_nat]] at this
  exact this
theorem env_of_laid {W : World} {l : List (String × DataW Unit)} (hl : l = Rows.sessionSealsRow.laid) (h : laidMetH Tryz.prog l W) : ∃ s, Env s W := by
 subst hl
 obtain ⟨a_dialect, h_dialect⟩ := sent1 (n := "groat/message.errDialect") rfl h g_errDialect gt_errDialect
 obtain ⟨a_type_, h_type_⟩ := sent1 (n := "groat/message.errType") rfl h g_errType gt_errType
 obtain ⟨a_long, h_long⟩ := sent1 (n := "groat/message.errLong") rfl h g_errLong gt_errLong
 obtain ⟨a_map, h_map⟩ := sent1 (n := "groat/message.errMap") rfl h g_errMap gt_errMap
 obtain ⟨a_more, h_more⟩ := sent1 (n := "groat/message.errMore") rfl h g_errMore gt_errMore
 obtain ⟨a_field, h_field⟩ := sent1 (n := "groat/message.errField") rfl h g_errField gt_errField
 obtain ⟨a_text, h_text⟩ := sent1 (n := "groat/message.errText") rfl h g_errText gt_errText
 obtain ⟨a_bytes, h_bytes⟩ := sent1 (n := "groat/message.errBytes") rfl h g_errBytes gt_errBytes
 obtain ⟨a_short, h_short⟩ := sent1 (n := "groat/message.errShort") rfl h g_errShort gt_errShort
 refine ⟨⟨a_dialect, a_type_, a_long, a_map, a_more, a_field, a_text, a_bytes, a_short⟩, ⟨h_dialect, h_type_, h_long, h_map, h_more, h_field, h_text, h_bytes, h_short, ⟨?_, ?_, ?_, ?_, ?_, ?_, ?_, ?_, ?_, ?_, ?_, ?_, ?_, ?_, ?_, ?_⟩, etype_of_laid rfl h⟩, ⟨rows3_of_laid rfl h, tong_of_laid rfl h⟩, rows_of_laid rfl h, pow_of_laid rfl h, zer_of_laid rfl h⟩
 ·exact (sent2 (n0 := "groat/message.errDialect") (n1 := "groat/message.errMore") h rfl g_errDialect gt_errDialect g_errMore gt_errMore h_dialect h_more).symm
 ·exact (sent2 (n0 := "groat/message.errType") (n1 := "groat/message.errMore") h rfl g_errType gt_errType g_errMore gt_errMore h_type_ h_more).symm
 ·exact (sent2 (n0 := "groat/message.errLong") (n1 := "groat/message.errMore") h rfl g_errLong gt_errLong g_errMore gt_errMore h_long h_more).symm
 ·exact (sent2 (n0 := "groat/message.errMap") (n1 := "groat/message.errMore") h rfl g_errMap gt_errMap g_errMore gt_errMore h_map h_more).symm
 ·exact (sent2 (n0 := "groat/message.errDialect") (n1 := "groat/message.errMap") h rfl g_errDialect gt_errDialect g_errMap gt_errMap h_dialect h_map).symm
 ·exact (sent2 (n0 := "groat/message.errType") (n1 := "groat/message.errMap") h rfl g_errType gt_errType g_errMap gt_errMap h_type_ h_map).symm
 ·exact (sent2 (n0 := "groat/message.errLong") (n1 := "groat/message.errMap") h rfl g_errLong gt_errLong g_errMap gt_errMap h_long h_map).symm
 ·exact (sent2 (n0 := "groat/message.errDialect") (n1 := "groat/message.errLong") h rfl g_errDialect gt_errDialect g_errLong gt_errLong h_dialect h_long).symm
 ·exact (sent2 (n0 := "groat/message.errType") (n1 := "groat/message.errLong") h rfl g_errType gt_errType g_errLong gt_errLong h_type_ h_long).symm
 ·exact (sent2 (n0 := "groat/message.errDialect") (n1 := "groat/message.errType") h rfl g_errDialect gt_errDialect g_errType gt_errType h_dialect h_type_).symm
 ·exact sent2 (n0 := "groat/message.errField") (n1 := "groat/message.errText") h rfl g_errField gt_errField g_errText gt_errText h_field h_text
 ·exact sent2 (n0 := "groat/message.errField") (n1 := "groat/message.errBytes") h rfl g_errField gt_errField g_errBytes gt_errBytes h_field h_bytes
 ·exact sent2 (n0 := "groat/message.errField") (n1 := "groat/message.errShort") h rfl g_errField gt_errField g_errShort gt_errShort h_field h_short
 ·exact (sent2 (n0 := "groat/message.errText") (n1 := "groat/message.errShort") h rfl g_errText gt_errText g_errShort gt_errShort h_text h_short).symm
 ·exact (sent2 (n0 := "groat/message.errBytes") (n1 := "groat/message.errShort") h rfl g_errBytes gt_errBytes g_errShort gt_errShort h_bytes h_short).symm
 ·exact (sent2 (n0 := "groat/message.errText") (n1 := "groat/message.errBytes") h rfl g_errText gt_errText g_errBytes gt_errBytes h_text h_bytes).symm
theorem gKt : Tryz.prog.globalNamed "groat/sha.constants" = some 5 := by kernel_rfl
def kInts : List Int := Sh.K.map Int.ofNat
theorem kt_datum : (Rows.laid_groat_sha_constants : DataW Unit) = Lib.tabData .u32 kInts := by kernel_rfl
theorem kt_at (t : Nat) (ht : t < 64) : kInts.getD t 0 = ((Sh.kt t).toNat : Int) := by
 have h : ∀ t, t < 64 → kInts.getD t 0 = ((Sh.kt t).toNat : Int) := by decide +kernel
 exact h t ht
theorem kt_of_laid {W : World} {l : List (String × DataW Unit)} (hl : l.filter (fun x => x.1 == "groat/sha.constants") = [("groat/sha.constants", Rows.laid_groat_sha_constants)]) (h : laidMetH Tryz.prog l W) : KT W := by
 have h1 := h.filter (fun x => x.1 == "groat/sha.constants")
 rw [hl, Go.MakeChecks.laidMetH_plain _ _ _ rfl, kt_datum] at h1
 have h2 := Lib.tabIs_of_head (t := 130) (e := 93) (n := 64) gKt (by kernel_rfl) Tryz.underlying130 Tryz.underlying93 (by kernel_rfl) (by kernel_rfl) h1
 intro t ht
 rw [h2.cell gKt t (by rw [show kInts.length = 64 from rfl]; exact ht), kt_at t ht]
theorem reach_eq : reachBytes = 140737488351232 := by decide
section
variable {H : Type} {enc : TypeId × Value → H} {W : World} {base : Nat} {held : Bool}
theorem key_of {fuel : Nat} {v : Value} {x : DataW H × List MemPlace} (h : DataW.trod enc Tryz.prog W base (fun _ => true) held fuel 22 [v] = some x) (hw : ∀ q ∈ x.1.weights Tryz.prog 22, q ≤ reachBytes) : ∃ A n c k, v = .slice A n c ∧ Key W A n c k := by
 rcases open_ints Tryz.underlying22 Tryz.underlying5 (by kernel_rfl) h with ⟨hcs, hx⟩ | ⟨a, l, c, zs, hcs, _, hl, hm, hz, hx, hcell, hwz⟩
 ·injection hcs with hcs
  exact ⟨none, 0, 0, [], hcs, bs_of_none W, Nat.le_refl _, fun _ => rfl, by decide⟩
 ·injection hcs with hcs
  have hz2 : zs.length = c := by simpa using hz
  refine ⟨some a, l, c, _, hcs, bs_of_ints hl hm hz2 hcell hwz, hl, (fun h => by cases h), ?_⟩
  subst hx
  have := hw (((lits .u8 (zs.take l)).length + (lits .u8 (zs.drop l)).length) * Tryz.prog.bytesOf 5) (by
   unfold DataW.weights
   simp only [Tryz.underlying22]
   exact List.mem_cons_self ..)
  rw [show Tryz.prog.bytesOf 5 = 1 from by kernel_rfl, reach_eq] at this
  simp [lits] at this
  omega
theorem stand_of {m : Nat} {a b : Value} {z : DataW H × List MemPlace} (h : DataW.trod enc Tryz.prog W base (fun _ => true) held m 24 [a, b] = some z) : ∃ x y : Int, a = .int .i64 x ∧ b = .int .i64 y := by
 obtain ⟨hl, m, hf⟩ := open_flds Tryz.underlying24 (by kernel_rfl) (by kernel_rfl) h
 obtain ⟨c0, z0, e0, t0⟩ := hf 0 _ rfl
 obtain ⟨c1, z1, e1, t1⟩ := hf 1 _ rfl
 obtain ⟨x, ex, _, _⟩ := DataW.trod_int Tryz.underlying3 t0
 obtain ⟨y, ey, _, _⟩ := DataW.trod_int Tryz.underlying3 t1
 injection ex with ex
 injection ey with ey
 refine ⟨x, y, ?_, ?_⟩
 ·rw [← ex]; simpa using e0
 ·rw [← ey]; simpa using e1
theorem mem_of {r : Reach} {b0 : Nat} {v : Value} {d : DataW H} {p : List MemPlace} (hv : Value.okWide Tryz.prog W r b0 26 v) (h : DataW.Trod enc Tryz.prog W base (fun _ => true) held 26 v d p) (hw : ∀ q ∈ d.weights Tryz.prog 26, q ≤ reachBytes) :
 ∃ code dl A n c m1 m2 k, v = .agg (memC code dl A n c m1 m2) ∧ Key W A n c k := by
 obtain ⟨cs, rfl, hsz⟩ := okWide_struct Tryz.underlying26 hv
 obtain ⟨fuel, hf⟩ := h
 have hf : DataW.trod enc Tryz.prog W base (fun _ => true) held fuel 26 cs.toList = some (d, p) := hf
 obtain ⟨hl, m, hf⟩ := open_fldsN (k := 5) Tryz.underlying26 (by kernel_rfl) hf
 obtain ⟨z0, t0, q0⟩ := hf 0 _ 0 1 rfl (by kernel_rfl) (by kernel_rfl)
 obtain ⟨z1, t1, q1⟩ := hf 1 _ 1 1 rfl (by kernel_rfl) (by kernel_rfl)
 obtain ⟨z2, t2, q2⟩ := hf 2 _ 2 1 rfl (by kernel_rfl) (by kernel_rfl)
 obtain ⟨z3, t3, _⟩ := hf 3 _ 3 2 rfl (by kernel_rfl) (by kernel_rfl)
 obtain ⟨l⟩ := cs
 have hl : l.length = 5 := hl
 match l, hl with
 | [a0, a1, a2, a3, a4], _ =>
   have t0 : DataW.trod enc Tryz.prog W base (fun _ => true) held m 9 [a0] = some z0 := t0
   have t1 : DataW.trod enc Tryz.prog W base (fun _ => true) held m 3 [a1] = some z1 := t1
   have t2 : DataW.trod enc Tryz.prog W base (fun _ => true) held m 22 [a2] = some z2 := t2
   have t3 : DataW.trod enc Tryz.prog W base (fun _ => true) held m 24 [a3, a4] = some z3 := t3
   obtain ⟨s, es, _, _⟩ := DataW.trod_string Tryz.underlying9 t0
   obtain ⟨x1, e1, _, _⟩ := DataW.trod_int Tryz.underlying3 t1
   obtain ⟨A, n, c, k, rfl, hk⟩ := key_of t2 fun q hq => hw q (q2 q hq)
   obtain ⟨x3, x4, rfl, rfl⟩ := stand_of t3
   injection es with es
   injection e1 with e1
   subst es e1
   exact ⟨s.data.toList, x1, A, n, c, x3, x4, k, rfl, hk⟩
theorem mg_of {b0 : Nat} {r : Reach} {v : Value} {d : DataW H} {p : List MemPlace} (hv : Value.okWide Tryz.prog W r b0 29 v) (h : DataW.Trod enc Tryz.prog W base (fun _ => true) held 29 v d p) (hw : ∀ k ∈ d.weights Tryz.prog 29, k ≤ reachBytes) :
 ∃ ty A n c fs, v = msgV ty A n c ∧ Mg W A n c fs := by
 obtain ⟨ty, A, n, c, fs, e, hf, _, _, hz, htx⟩ := msg_of hv h hw
 exact ⟨ty, A, n, c, fs, e, hf, hz, msg_room hv h hw ty A n c e, fun f hf => (htx f hf).2⟩
end
theorem bare_set (t : B8) (fs : List Fld) : bareM (setM 64 t fs) = bareM fs := oth_set 64 t fs
theorem set_set (t u : B8) (fs : List Fld) : setM 64 t (setM 64 u fs) = setM 64 t fs := by
 unfold setM
 rw [oth_ins, oth_oth]
theorem macR_set (d ty : Int) (key t : B8) (fs : List Fld) : macR d ty key (setM 64 t fs) = macR d ty key fs := by
 unfold macR
 rw [bare_set]
theorem mencode_check {d ty : Int} {fs : List Fld} {b : B8} (h : mencode d ty fs = .ok b) : mcheck ty fs = 0 := by
 unfold mencode at h
 split at h
 ·split at h
  ·assumption
  ·cases h
 ·cases h
theorem macT_len (key b : B8) : (Sh.macT key b).length = 16 := by
 unfold Sh.macT
 rw [hex_len, List.length_take, Sh.mac_len]
 rfl
theorem macR_facts {d ty : Int} {key t : B8} {fs : List Fld} (h : macR d ty key fs = .ok t) : (bareM fs).length ≤ 24 ∧ t.length = 16 ∧ Rise ((bareM fs).map (·.1)) := by
 unfold macR at h
 split at h
 ·rename_i b hb
  injection h with h
  subst h
  obtain ⟨_, h1, h2⟩ := mcheck_zero.1 (mencode_check hb)
  exact ⟨h1, macT_len _ _, h2.1⟩
 ·cases h
theorem mem_ins {x y : Fld} : ∀ {l : List Fld}, y ∈ insM x l → y = x ∨ y ∈ l
 | [], h => by
   unfold insM at h
   exact .inl (List.mem_singleton.1 h)
 | f :: r, h => by
   unfold insM at h
   split at h
   ·rcases List.mem_cons.1 h with h | h
    ·exact .inl h
    ·exact .inr h
   ·rcases List.mem_cons.1 h with h | h
    ·exact .inr (h ▸ List.mem_cons_self ..)
    ·rcases mem_ins h with h | h
     ·exact .inl h
     ·exact .inr (List.mem_cons_of_mem _ h)
theorem set_txts {t : B8} {fs : List Fld} (no : Int) (ht : t.length ≤ 9223372036854775807) (h : Txts fs) : Txts (setM no t fs) := fun f hf => by
 rcases mem_ins hf with rfl | hf
 ·exact ht
 ·exact h f (List.mem_filter.1 hf).1
theorem mg_sealed {w w' : World} {d ty : Int} {key t : B8} {A A' : Option Addr} {n c n' c' : Nat} {fs : List Fld} (h : Mg w A n c fs) (hr : macR d ty key fs = .ok t) (hf : Fl w' A' n' (setM 64 t fs)) (hc : A' = none → c' = 0) : Mg w' A' n' c' (setM 64 t fs) := by
 obtain ⟨h1, h2, _⟩ := macR_facts hr
 refine ⟨hf, hc, ?_, set_txts 64 (by omega) h.tx⟩
 have := hf.1
 rw [set_len] at this
 omega
def cnt64 (fs : List Fld) : Nat := (hasM 64 fs).length
theorem cnt_set (t : B8) (fs : List Fld) : cnt64 (setM 64 t fs) = 1 := by
 unfold cnt64
 rw [has_set]
 rfl
theorem cnt_snoc {l : List Fld} {i : Nat} {f : Fld} (hf : l[i]? = some f) : cnt64 (l.take (i + 1)) = cnt64 (l.take i) + if f.1 = 64 then 1 else 0 := by
 unfold cnt64 hasM
 rw [List.take_add_one, hf, List.filter_append, List.length_append]
 by_cases h : f.1 = 64 <;> simp [h]
theorem cnt_le (l : List Fld) : cnt64 l ≤ l.length := List.length_filter_le _ _
theorem rise_pw {fs : List Fld} (h : Rise (fs.map (·.1))) : fs.Pairwise (fun a b => a.1 < b.1) := List.pairwise_map.1 h
theorem rise_get : ∀ {fs : List Fld}, fs.Pairwise (fun a b => a.1 < b.1) → ∀ f ∈ fs, getM f.1 fs = some f.2
 | [], _, f, h => by cases h
 | g :: r, hp, f, h => by
   rw [List.pairwise_cons] at hp
   unfold getM
   rcases List.mem_cons.1 h with rfl | h
   ·rw [if_pos rfl]
   ·rw [if_neg (by have := hp.1 f h; omega)]
    exact rise_get hp.2 f h
theorem get_bare {no : Int} (hn : no ≠ 64) : ∀ fs : List Fld, getM no (bareM fs) = getM no fs
 | [] => rfl
 | g :: r => by
   have ih := get_bare hn r
   unfold bareM at ih ⊢
   by_cases h : g.1 = 64
   ·rw [List.filter_cons_of_neg (by simp [h]), ih]
    conv => rhs; unfold getM
    rw [if_neg (by omega)]
   ·rw [List.filter_cons_of_pos (by simp [h])]
    unfold getM
    rw [ih]
theorem set_same {d ty : Int} {key t : B8} {fs : List Fld} (hr : macR d ty key fs = .ok t) {i : Nat} {f : Fld} (hf : (setM 64 t fs)[i]? = some f) (hn : f.1 ≠ 64) : getM f.1 fs = some f.2 := by
 obtain ⟨_, _, hg⟩ := macR_facts hr
 have hm : f ∈ bareM fs := by
  rw [← bare_set t fs]
  exact List.mem_filter.2 ⟨List.mem_of_getElem? hf, by simpa using hn⟩
 rw [← get_bare hn]
 exact rise_get (rise_pw hg) f hm
set_option maxRecDepth 20000
theorem Seal_err {s : Sents} {w : World} {code key : B8} {d m1 m2 ty : Int} {Ak A : Option Addr} {nk ck n c : Nat} {fs : List Fld} (he : Env s w) (hk : KT w) (hkey : Key w Ak nk ck key) (hf : Mg w A n c fs) {k : Int} (hr : macR d ty key fs = .error k) : Calls Tryz.prog 8 #[.agg (memC code d Ak nk ck m1 m2), msgV ty A n c] w fun e w' => e = .returned (.tuple #[msgV 0 none 0 0, .int .i64 k]) ∧ Turn nowhere w w' :=
 (Seal_walk he hk hkey hf).mono fun e w' h => by
  rw [hr] at h
  obtain ⟨ty', A, n, c, rfl, ht, rfl, rfl, rfl, rfl⟩ := h
  exact ⟨rfl, ht⟩
theorem Seal_ok {s : Sents} {w : World} {code key : B8} {d m1 m2 ty : Int} {Ak A : Option Addr} {nk ck n c : Nat} {fs : List Fld} (he : Env s w) (hk : KT w) (hkey : Key w Ak nk ck key) (hf : Mg w A n c fs) {t : B8} (hr : macR d ty key fs = .ok t) : Calls Tryz.prog 8 #[.agg (memC code d Ak nk ck m1 m2), msgV ty A n c] w fun e w' => ∃ (A' : Option Addr) (n' c' : Nat), e = .returned (.tuple #[msgV ty A' n' c', .int .i64 0]) ∧ Mg w' A' n' c' (setM 64 t fs) ∧ Turn nowhere w w' :=
 (Seal_walk he hk hkey hf).mono fun e w' h => by
  rw [hr] at h
  obtain ⟨ty', A', n', c', rfl, ht, rfl, rfl, ho⟩ := h
  have h1 := ho.fl (by rw [set_len]; have := bare_len fs; have := hf.fl.1; have := hf.lim; omega)
  exact ⟨A', _, c', rfl, mg_sealed hf hr h1.1 h1.2.2.2.2, ht⟩
theorem rGet_yes {w : World} {ty no : Int} {A : Option Addr} {n c : Nat} {fs : List Fld} {t : B8} (hf : Fl w A n fs) (h : getM no fs = some t) :
 Calls Tryz.prog 24 #[msgV ty A n c, .int .i64 no] w fun e w' => e = .returned (.tuple #[strV t, .bool true]) ∧ Turn nowhere w w' := by
 have h1 := rGet_walk (ty := ty) (no := no) (c := c) hf
 rw [h] at h1
 exact h1
theorem witness_zip {H : Type} {enc : TypeId × Value → H} {C : Checked} {os : Os} {f : FuncId} {fn : Func} {s : OpenSpec} {conds : List PathCond} {apart : Bool} {laid : List (String × DataW Unit)} (modest : Bool) (w0 : World) (args : Array Value) (hos : w0.os = os)
 (hsh : (w0.forCall (fun _ _ => 0) ⟨#[], args, []⟩).Shaped C.prog)
 (hok : Input.okWideB C.prog (w0.forCall (fun _ _ => 0) ⟨#[], args, []⟩) f ⟨#[], args, []⟩ = true)
 (hrow : s.preRow enc C.prog fn conds apart laid (w0.forCall (fun _ _ => 0) ⟨#[], args, []⟩).memory args) :
 ∃ (w : World) (tape : Tape) (i : Input), w.os = os ∧ (w.forCall tape i).Shaped C.prog ∧ i.vars = [] ∧ Input.okWide C.prog (w.forCall tape i) .any w.heap.size f i ∧
  s.preRow enc C.prog fn conds apart laid (w.forCall tape i).memory i.args ∧ ({ modest := modest } : Assume).holds C.prog (lone (Frame.enter C.prog f i.args .normal) [] (w.forCall tape i)) :=
 ⟨w0, fun _ _ => 0, ⟨#[], args, []⟩, hos, hsh, (Input.okWide_of_okWideB (base := 0) hok).1, (Input.okWide_of_okWideB hok).2, hrow, by
  simp only [Assume.holds]
  exact ⟨by simp, by simp, fun _ => Modest.zero, by simp, by simp⟩⟩
noncomputable def hbase (os : Os) : World := (World.holding Tryz.prog os ⟨#[], #[], []⟩).setCell ⟨9, 0, none⟩ (.iface 180 (.agg #[.pointer (some ⟨20, 83, none⟩)]))
noncomputable def hworld (os : Os) (laid : List (String × DataW Unit)) : World := (hbase os).layVars Tryz.prog (laid.filter fun x => x.2.handleName?.isNone)
theorem hworld_os (os : Os) (laid : List (String × DataW Unit)) : (hworld os laid).os = os := (World.layVars_os _ _ _).trans rfl
theorem laidH_hworld {os : Os} {laid : List (String × DataW Unit)} (args : Array Value)
 (hf : (hbase os).layFits Tryz.prog (laid.filter fun x => x.2.handleName?.isNone) [] = true)
 (hi : (hbase os).layIfaces Tryz.prog (laid.filter fun x => x.2.handleName?.isNone) (hworld os laid) = true)
 (hh : (laid.filter fun x => x.2.handleName?.isSome).all (handleAtB Tryz.prog ((hworld os laid).forCall (fun _ _ => 0) ⟨#[], args, []⟩).memory) = true) :
 laidMetH Tryz.prog laid ((hworld os laid).forCall (fun _ _ => 0) ⟨#[], args, []⟩).memory := by
 refine laidMetH_of_parts ?_ hh
 unfold hworld at hi ⊢
 generalize (laid.filter fun x => x.2.handleName?.isNone) = l at *
 have e1 : (l.filter fun x => (l.map (·.1)).contains x.1) = l := List.filter_eq_self.2 fun x hx => List.contains_iff_mem.2 (List.mem_map.2 ⟨x, hx, rfl⟩)
 have e2 : (l.filter fun x => !(l.map (·.1)).contains x.1) = [] := List.filter_eq_nil_iff.2 fun x hx => by rw [List.contains_iff_mem.2 (List.mem_map.2 ⟨x, hx, rfl⟩)]; simp
 have h : laidMet Tryz.prog l ((hbase os).layVars Tryz.prog l) := laidMet_layVars (w0 := hbase os) (l.map (·.1)) [] (by rw [e1]) (by rw [e1]; exact hf) (by rw [e1]; exact hi) (by rw [e2]; exact LaidIn.none)
 exact h.of_heap (by simp [World.memory, World.forCall, Input.heap])
end Go.Proofs.YtkagijifkpoplaaGreatDoor
