/-
  Several texts in one file, in their order:
  - Arguments that are arrays of two or three ints, opened and shut. No conditions.
  - SLICES THAT READ AS BYTES: what a walk is told of a []byte; that it reads so still behind new blocks; a new block; from the reading of an argument to it. No conditions of its own; it imports nothing of the program.
  - A ROW OF BYTES THAT THE CALL ITSELF MADE: what it holds, and append of a slice of bytes onto it, the source nil or not. Condition: the sum of the two lengths is at most 2^47.
  - A BLOCK OF BYTES THAT IS KNOWN WHOLE: its cells, a store into it, what is kept of it. No conditions.
  - WHAT A CALL TURNS: a world that is as it was but for some blocks and new ones; a block of cells, a block that is a map. No conditions; it imports nothing of the program.
  - A REGION THAT DRAWS ITS ORDER AND WRITES AT ITS END WHAT IT READ: reads are taken first under a fact S on the world, which is owed only till operation k (which waits for them) has come up. No conditions; it imports nothing of the program.
  - A REGION THAT DRAWS ITS ORDER AND NEVER BREAKS A FACT S: reads are taken first, whichever way they wait for one another; calls behind. No conditions; it imports nothing of the program.
  - A REGION THAT DRAWS ITS ORDER AND NEVER BREAKS A FACT S, INSIDE A FENCE: Alw's own text, turned. No conditions; it imports nothing of the program.
  - An argument that is a slice of structs of one-cell fields, opened to rows of cells; rows of cells in memory. No conditions; it imports nothing of the program.
  - STORES OF SEVERAL CELLS into a block that is known whole. No conditions; it imports nothing of the program.
  - VALUES THAT ARE BUILT OF PARTS OF SEVERAL CELLS: a slice of one element; a struct. No conditions; it imports nothing of the program.
  - Rows of elements of any number of cells that are the call's own, and grow; copies into their middle. No conditions; it imports nothing of the program.
  - Operations in general: an element's address, a new variable, a build of four, a store into the middle of a block. No conditions; it imports nothing of the program.
  - Rows of elements of any number of cells: a part of a slice, copies into the middle, an element's address, a load of a whole element. No conditions; it imports nothing of the program.
  - An element put into the middle of a row, as slices.Insert does it, whatever the element's cells; elements taken out of a row, as slices.Delete does it: what its copies leave. No conditions; it imports nothing of the program.
  - Elements taken out of a row, as slices.Delete does it: what stands behind is moved to the left in place, the rest is cleared. No conditions; it imports nothing of the program.
  - Operations in general, more of them: a new variable that is stored into at once, slices built of some elements, worlds one behind the other. No conditions; it imports nothing of the program.
  - Operations on ints and bools, an equation each. No conditions.
  - Strings as values, and the operations on them, an equation each. No conditions.
  - Index: the mathematics of its trees, six texts in one. No conditions.
  - Index: pairs and pointers as elements of rows; operations in general. No conditions.
-/
import Derived.Test.YtmlkdkbpbleilaaProg
import Derived.WalkKit
import Derived.ProofKit
import Derived.OpenShut
import Derived.Lib.SmallJoins
import Derived.Below
import Derived.Lib.Hide
import Derived.Laws.AppendOwnNone
import Derived.OwnWalk
import Derived.Deep.Draws
import Derived.Outline
import Derived.StillTailTactics
import Derived.Laws.Rows
import Derived.Deep.RegionHeld3
import Derived.Deep.MidRow
import Derived.StillTail
import Derived.OrdersIn
import Derived.ChangeSame
import Derived.Deep.Slices
import Derived.Deep.Fields
import Derived.SizedLaws
import Derived.Carry
import Derived.Laws.Tables
import Derived.Laws.OwnMore
import Derived.Maps.AppendAt
import Derived.Laws.CopyRow
import Derived.Lib.AppendZerosOnto
import Derived.Lib.Overlaps
import Derived.Laws.Externs
import Derived.Laws.IdiomStrings
import Derived.Laws.Concat
import Derived.Laws.Strings
import Derived.Laws.Strings3
import Derived.Lib.Bytealg
import Derived.Laws.EntriesVeiled
import Derived.Laws.Slices
import Derived.Deep.Cut
import Derived.Deep.LoopGhost
import Derived.WalkSmall
import Derived.Deep.QuietTactic
import Derived.BigQuiet
import Derived.Laws.Bits64
namespace Go.Proofs.Ytmlkdkbpbleilaa
open Go.ChangeShapes Go.WideShapes Go.RowKit Go.Deep
set_option linter.unusedVariables false
section
variable {H : Type} {enc : TypeId × Value → H} {P : Program} {w : World} {base : Nat} {spare : Nat → Bool} {held : Bool}
theorem okWide_array {t e : TypeId} {n : Nat} {r : Reach} {b0 : Nat} {v : Value} (ht : P.underlying t = some (.array n e)) (h : Value.okWide P w r b0 t v) : ∃ cs, v = .agg cs ∧ cs.size = P.cellsOf t := by
  simp only [Value.okWide, ht] at h
  obtain ⟨cs, h1, h2, _⟩ := h
  exact ⟨cs, h1, h2⟩
theorem open_iarr2 {t e : TypeId} {k : IntKind} {r : Reach} {b0 : Nat} {v : Value} {d : DataW H} {p : List MemPlace} (ht : P.underlying t = some (.array 2 e)) (he : P.underlying e = some (.int k)) (hce : P.cellsOf e = 1) (hC : P.cellsOf t = 2)
    (hv : Value.okWide P w r b0 t v) (h : DataW.Trod enc P w base spare held t v d p) :
    ∃ a b : Int, v = .agg #[.int k a, .int k b] ∧ d = .agg [.lit (.int k a), .lit (.int k b)] ∧ p = [] ∧ (Lit.int k a).wf = true ∧ (Lit.int k b).wf = true := by
  obtain ⟨cs, rfl, hsz⟩ := okWide_array ht hv
  obtain ⟨c0, c1, rfl⟩ := Go.Joins.array2 (hsz.trans hC)
  obtain ⟨fuel, hf⟩ := h
  obtain ⟨xs, m, _, hx, _, hl, hi⟩ := DataW.trod_array ht hf
  match xs, hl with
  | [y0, y1], _ =>
    have h0 := hi 0 (by omega)
    have h1 := hi 1 (by omega)
    simp [Value.cells, hce] at h0 h1
    obtain ⟨a, ea, rfl, wa⟩ := DataW.trod_int he h0
    obtain ⟨b, eb, rfl, wb⟩ := DataW.trod_int he h1
    simp at ea eb hx
    subst ea eb
    exact ⟨a, b, rfl, hx.1, hx.2, wa, wb⟩
theorem shut_iarr2 {t e : TypeId} {k : IntKind} {a b : Int} (ht : P.underlying t = some (.array 2 e)) (he : P.underlying e = some (.int k)) (hce : P.cellsOf e = 1) (hC : P.cellsOf t = 2) (wa : (Lit.int k a).wf = true) (wb : (Lit.int k b).wf = true) :
    DataW.Trod enc P w base spare held t (.agg #[.int k a, .int k b]) (.agg [.lit (.int k a), .lit (.int k b)]) [] := by
  refine ⟨2, ?_⟩
  unfold DataW.trod
  rw [ht]
  have r2 : List.range 2 = [0, 1] := rfl
  simp [Value.cells, hC, hce, r2, DataW.trod, he, wa, wb]
theorem open_iarr3 {t e : TypeId} {k : IntKind} {r : Reach} {b0 : Nat} {v : Value} {d : DataW H} {p : List MemPlace} (ht : P.underlying t = some (.array 3 e)) (he : P.underlying e = some (.int k)) (hce : P.cellsOf e = 1) (hC : P.cellsOf t = 3)
    (hv : Value.okWide P w r b0 t v) (h : DataW.Trod enc P w base spare held t v d p) :
    ∃ a b c : Int, v = .agg #[.int k a, .int k b, .int k c] ∧ d = .agg [.lit (.int k a), .lit (.int k b), .lit (.int k c)] ∧ p = [] ∧ (Lit.int k a).wf = true ∧ (Lit.int k b).wf = true ∧ (Lit.int k c).wf = true := by
  obtain ⟨cs, rfl, hsz⟩ := okWide_array ht hv
  obtain ⟨c0, c1, c2, rfl⟩ := Go.Joins.array3 (hsz.trans hC)
  obtain ⟨fuel, hf⟩ := h
  obtain ⟨xs, m, _, hx, _, hl, hi⟩ := DataW.trod_array ht hf
  match xs, hl with
  | [y0, y1, y2], _ =>
    have h0 := hi 0 (by omega)
    have h1 := hi 1 (by omega)
    have h2 := hi 2 (by omega)
    simp [Value.cells, hce] at h0 h1 h2
    obtain ⟨a, ea, rfl, wa⟩ := DataW.trod_int he h0
    obtain ⟨b, eb, rfl, wb⟩ := DataW.trod_int he h1
    obtain ⟨c, ec, rfl, wc⟩ := DataW.trod_int he h2
    simp at ea eb ec hx
    subst ea eb ec
    exact ⟨a, b, c, rfl, hx.1, hx.2, wa, wb, wc⟩
theorem shut_iarr3 {t e : TypeId} {k : IntKind} {a b c : Int} (ht : P.underlying t = some (.array 3 e)) (he : P.underlying e = some (.int k)) (hce : P.cellsOf e = 1) (hC : P.cellsOf t = 3) (wa : (Lit.int k a).wf = true) (wb : (Lit.int k b).wf = true) (wc : (Lit.int k c).wf = true) :
    DataW.Trod enc P w base spare held t (.agg #[.int k a, .int k b, .int k c]) (.agg [.lit (.int k a), .lit (.int k b), .lit (.int k c)]) [] := by
  refine ⟨2, ?_⟩
  unfold DataW.trod
  rw [ht]
  have r2 : List.range 3 = [0, 1, 2] := rfl
  simp [Value.cells, hC, hce, r2, DataW.trod, he, wa, wb, wc]
end
end Go.Proofs.Ytmlkdkbpbleilaa

namespace Go.Proofs.Ytmlkdkbpbleilaa
open Go.RowKit Go.ChangeShapes Go.WideShapes Go.ChangeAt
/-- a slice that reads as bytes -/
def Bs (w : World) (a : Option Addr) (len : Nat) (bs : List UInt8) : Prop :=
  bs.length = len ∧ len ≤ maxLen ∧ (0 < len → ∃ b off, a = some ⟨b, off, none⟩ ∧ ∀ i, i < len → w.cell? ⟨b, off + i, none⟩ = some (.int .u8 ((bs.getD i 0).toNat : Int)))
theorem ret_int {k : IntKind} {a b : Int} (h : a = b) : Ending.returned (.int k a) = .returned (.int k b) := by rw [h]
theorem ret_bool {a b : Bool} (h : a = b) : Ending.returned (.bool a) = .returned (.bool b) := by rw [h]
theorem bs_below {w w' : World} {a : Option Addr} {len : Nat} {bs : List UInt8} (h : Bs w a len bs) (hb : Below w.heap.size w w') : Bs w' a len bs := by
  obtain ⟨h1, h2, h3⟩ := h
  refine ⟨h1, h2, fun hp => ?_⟩
  obtain ⟨b, off, e, hc⟩ := h3 hp
  refine ⟨b, off, e, fun i hi => ?_⟩
  rw [hb.cell (World.block_lt_of_cell? _ _ (hc i hi))]
  exact hc i hi
theorem bs_nil (w : World) (a : Option Addr) : Bs w a 0 [] := ⟨rfl, Nat.zero_le _, fun h => by omega⟩
def byteCells (bs : List UInt8) : Array Value := (bs.map fun x => Value.int .u8 (x.toNat : Int)).toArray
theorem byteCells_at (bs : List UInt8) (i : Nat) (h : i < bs.length) : (byteCells bs)[i]? = some (.int .u8 ((bs.getD i 0).toNat : Int)) := by
  unfold byteCells
  rw [List.getElem?_toArray, List.getElem?_map, List.getD_eq_getElem?_getD, List.getElem?_eq_getElem h]
  rfl
theorem bs_new (w : World) (bs : List UInt8) (e : TypeId) (frozen : Nat × Nat) (k : Nat) (hk : k = w.heap.size) (hm : bs.length ≤ maxLen) : Bs (w.alloc (.cells (byteCells bs) e frozen)) (some ⟨k, 0, none⟩) bs.length bs := by
  subst hk
  refine ⟨rfl, hm, fun _ => ⟨_, _, rfl, fun i hi => ?_⟩⟩
  rw [← byteCells_at bs i hi]
  have hb : (w.alloc (.cells (byteCells bs) e frozen)).heap[w.heap.size]? = some (.cells (byteCells bs) e frozen) := by
    show (w.heap.push _)[w.heap.size]? = _
    simp
  simp only [World.cell?, hb, Nat.zero_add]
  rfl
theorem below_new (w : World) (o : Obj) : Below w.heap.size w (w.alloc o) := (Below.refl _ _).alloc (Nat.le_refl _) o
/-- from the reading of a []byte argument -/
theorem bs_of_ints {w : World} {x : Addr} {len cap : Nat} {zs : List Int} (hl : len ≤ cap) (hm : cap ≤ maxLen) (hz : zs.length = cap)
    (hcell : ∀ i, i < zs.length → w.cell? (x.add i) = some (.int .u8 (zs.getD i 0))) (hwz : ∀ n ∈ zs, (Lit.int IntKind.u8 n).wf = true) :
    Bs w (some x) len ((zs.take len).map fun z => UInt8.ofNat z.toNat) := by
  refine ⟨by simp; omega, Nat.le_trans hl hm, fun hp => ?_⟩
  obtain ⟨b, off, spot⟩ := x
  have hc := hcell 0 (by omega)
  have hspot : spot = none := by simpa [Addr.add] using World.cell?_spot hc
  subst hspot
  refine ⟨b, off, rfl, fun i hi => ?_⟩
  have h := hcell i (by omega)
  have hmem : zs.getD i 0 ∈ zs := by
    rw [List.getD_eq_getElem?_getD, List.getElem?_eq_getElem (by omega)]
    exact List.getElem_mem _
  have hw := hwz _ hmem
  have he : ((zs.take len).map fun z => UInt8.ofNat z.toNat).getD i 0 = UInt8.ofNat (zs.getD i 0).toNat := by
    rw [List.getD_eq_getElem?_getD, List.getElem?_map, List.getElem?_take, if_pos hi, List.getD_eq_getElem?_getD, List.getElem?_eq_getElem (by omega)]
    rfl
  rw [he]
  have hr : 0 ≤ zs.getD i 0 ∧ zs.getD i 0 ≤ 255 := by
    simpa [Lit.wf, IntKind.min, IntKind.max, IntKind.signed, IntKind.bits] using hw
  have h2 : ((UInt8.ofNat (zs.getD i 0).toNat).toNat : Int) = zs.getD i 0 := by
    rw [UInt8.toNat_ofNat']
    omega
  rw [h2]
  have hadd : (⟨b, off, none⟩ : Addr).add i = ⟨b, off + i, none⟩ := by
    by_cases h0 : i = 0 <;> simp [Addr.add, h0]
  rw [← hadd]
  exact h
theorem bs_of_none (w : World) : Bs w none 0 [] := bs_nil w none
theorem u32_nat {x : Int} (h : (Lit.int .u32 x).wf = true) : ∃ n : Nat, x = (n : Int) ∧ n < 4294967296 := by
  have hr : 0 ≤ x ∧ x ≤ 4294967295 := by
    simpa [Lit.wf, IntKind.min, IntKind.max, IntKind.signed, IntKind.bits] using h
  exact ⟨x.toNat, by omega, by omega⟩
theorem i64_in {x : Int} (h : (Lit.int .i64 x).wf = true) : -9223372036854775808 ≤ x ∧ x ≤ 9223372036854775807 := by
  simpa [Lit.wf, IntKind.min, IntKind.max, IntKind.signed, IntKind.bits] using h
end Go.Proofs.Ytmlkdkbpbleilaa

namespace Go.Proofs.Ytmlkdkbpbleilaa
open Go.RowKit
/-- bytes as cells -/
def bcs (bs : List UInt8) : List Value := bs.map fun x => Value.int .u8 (x.toNat : Int)
theorem bcs_length (bs : List UInt8) : (bcs bs).length = bs.length := List.length_map ..
theorem bcs_append (a b : List UInt8) : bcs (a ++ b) = bcs a ++ bcs b := List.map_append ..
theorem bcs_at (bs : List UInt8) (i : Nat) (h : i < bs.length) : (bcs bs)[i]? = some (.int .u8 ((bs.getD i 0).toNat : Int)) := by
  unfold bcs
  rw [List.getElem?_map, List.getD_eq_getElem?_getD, List.getElem?_eq_getElem h]
  rfl
theorem bcs_one (bs : List UInt8) : ∀ u ∈ bcs bs, u.oneCell' = true := fun u hu => by
  obtain ⟨_, _, rfl⟩ := List.mem_map.1 hu
  rfl
/-- v is a row of the call's own, from block B on, that holds these bytes -/
def Own (w : World) (B : Nat) (e : TypeId) (v : Value) (bs : List UInt8) : Prop := w.ownsRow B e 1 v bs.length (bcs bs)
theorem add_nat (b off i : Nat) : (⟨b, off, none⟩ : Addr).add i = ⟨b, off + i, none⟩ := by
  by_cases h0 : i = 0 <;> simp [Addr.add, h0]
theorem Own.form {w : World} {B : Nat} {e : TypeId} {v : Value} {bs : List UInt8} (h : Own w B e v bs) : ∃ a n c, v = .slice a n c ∧ Bs w a n bs ∧ n ≤ c ∧ (a = none → c = 0) := by
  obtain ⟨_, h2⟩ := id h
  rcases h2 with ⟨rfl, h0⟩ | ⟨g, cap, cur, rfl, hb, hg, hn, hm, hs, ht⟩
  · have hb : bs = [] := List.eq_nil_of_length_eq_zero h0
    subst hb
    exact ⟨none, 0, 0, rfl, bs_nil w none, Nat.le_refl _, fun _ => rfl⟩
  · refine ⟨_, _, _, rfl, ⟨rfl, Nat.le_trans hn hm, fun _ => ⟨g, 0, rfl, fun i hi => ?_⟩⟩, hn, fun h => by cases h⟩
    have hc := World.ownsRow.cells (g := g) h rfl i _ (bcs_at bs i hi)
    rw [add_nat] at hc
    exact hc
theorem Own.empty (w : World) (B : Nat) (e : TypeId) (hB : B ≤ w.heap.size) : Own (w.alloc (.cells #[] e)) B e (.slice (some ⟨w.heap.size, 0, none⟩) 0 0) [] :=
  World.ownsRow_made w #[] 0 hB (Nat.zero_le _) rfl
theorem Own.below {w w' : World} {B C : Nat} {e : TypeId} {v : Value} {bs : List UInt8} (h : Own w B e v bs) (hb : Below C w w') (hC : w.heap.size ≤ C) : Own w' B e v bs := by
  refine ⟨h.1, ?_⟩
  rcases h.2 with hn | ⟨g, cap, cur, rfl, hb1, hgg, rest⟩
  · exact .inl hn
  · have hlt : g < w.heap.size := (Array.getElem?_eq_some_iff.1 hgg).1
    exact .inr ⟨g, cap, cur, rfl, hb1, by rw [hb.block g (by omega)]; exact hgg, rest⟩
theorem wp_append_bytes {P : Program} (w : World) {o : Oper} {a : Act} {K : Act → World → Prop} {Q : Exit → Act → World → Prop} (s x : Operand) (t : TypeId)
    (ho : o.op = .call { callee := .builtin .append, args := #[s, x], argTypes := #[t, t] })
    (B : Nat) (e : TypeId) (hinfo : (P.info? e).map (fun i => (i.zero, i.size, i.bytes)) = some (some (.int .u8 0), 1, 1)) (ht : P.underlying t = some (.slice e))
    (v : Value) (olds : List UInt8) (hs : a.eval s = v) (hown : Own w B e v olds)
    (A : Option Addr) (m c : Nat) (news : List UInt8) (hx : a.eval x = .slice A m c) (hb : Bs w A m news) (hc : A = none → c = 0)
    (hsum : olds.length + m ≤ 140737488355328) (hbase : B ≤ w.heap.size)
    (h : ∀ v' w', Own w' B e v' (olds ++ news) → Below B w w' → K (a.put o.dst v') w') : o.wp P a w K Q := by
  obtain ⟨i0, hi0, hz0, hz1, hz2⟩ := info_parts hinfo
  obtain ⟨hl, hm, hcell⟩ := hb
  rcases A with _ | ad
  · obtain rfl := hc rfl
    have hm0 : m = 0 := by
      rcases Nat.eq_zero_or_pos m with h0 | h0
      · exact h0
      · obtain ⟨_, _, h1, _⟩ := hcell h0; cases h1
    subst hm0
    have hn : news = [] := List.eq_nil_of_length_eq_zero hl
    subst hn
    rw [List.append_nil] at h
    have hrun := run_append_owned_none (P := P) (w := w) B t o.type e i0 1 ht hi0 v _ _ hown
    unfold Oper.wp
    simp [execOp, ho, resolve, invoke, builtin, hs, hx, hrun, Result.andThen]
    exact h v w hown (Below.refl _ _)
  · refine wp_append_own w s x t ho B e i0 _ 1 1 ht hi0 hz0 hz1 hz2 rfl (by omega) v _ _ hs hown ad m c (bcs news) hx (by rw [bcs_length, hl, Nat.mul_one]) ?_ (bcs_one news) (by simp only [maxLen]; omega) (by omega) hbase ?_
    · intro j u hu
      have hj : j < news.length := by
        have := (List.getElem?_eq_some_iff.1 hu).1
        rwa [bcs_length] at this
      obtain ⟨b, off, e1, hcc⟩ := hcell (by omega)
      injection e1 with e1
      subst e1
      rw [bcs_at news j hj] at hu
      injection hu with hu
      subst hu
      rw [add_nat]
      exact hcc j (by omega)
    · intro v' w' ho' hg _
      refine h v' w' ?_ ((Below.refl _ _).grown hg hbase fun k hk => (hown.lt k hk).1)
      unfold Own
      rw [List.length_append, bcs_append, hl]
      exact ho'
theorem wpList_append_bytes {P : Program} (w : World) {ops : Array Oper} {rest : List Oper} {o : Oper} {a : Act} {Q : Exit → Act → World → Prop} (hgd : Region.wanted o (yielded ops a.tmps) = true) (s x : Operand) (t : TypeId)
    (ho : o.op = .call { callee := .builtin .append, args := #[s, x], argTypes := #[t, t] })
    (B : Nat) (e : TypeId) (hinfo : (P.info? e).map (fun i => (i.zero, i.size, i.bytes)) = some (some (.int .u8 0), 1, 1)) (ht : P.underlying t = some (.slice e))
    (v : Value) (olds : List UInt8) (hs : a.eval s = v) (hown : Own w B e v olds)
    (A : Option Addr) (m c : Nat) (news : List UInt8) (hx : a.eval x = .slice A m c) (hb : Bs w A m news) (hc : A = none → c = 0)
    (hsum : olds.length + m ≤ 140737488355328) (hbase : B ≤ w.heap.size)
    (h : ∀ v' w', Own w' B e v' (olds ++ news) → Below B w w' → wpList P ops Q rest (a.put o.dst v') w') : wpList P ops Q (o :: rest) a w :=
  wpList_step fun K hK => by
    rw [if_pos hgd]
    exact wp_append_bytes w s x t ho B e hinfo ht v olds hs hown A m c news hx hb hc hsum hbase fun v' w' h1 h2 => hK _ _ (h v' w' h1 h2)
end Go.Proofs.Ytmlkdkbpbleilaa

namespace Go.Proofs.Ytmlkdkbpbleilaa
open Go.RowKit
/-- block g is just these bytes, none frozen -/
def Row (w : World) (g : Nat) (e : TypeId) (bs : List UInt8) : Prop := w.heap[g]? = some (.cells (byteCells bs) e (0, 0))
theorem Row.lt {w : World} {g : Nat} {e : TypeId} {bs : List UInt8} (h : Row w g e bs) : g < w.heap.size := (Array.getElem?_eq_some_iff.1 h).1
theorem Row.cell {w : World} {g : Nat} {e : TypeId} {bs : List UInt8} (h : Row w g e bs) (i : Nat) (hi : i < bs.length) : w.cell? ⟨g, i, none⟩ = some (.int .u8 ((bs.getD i 0).toNat : Int)) := by
  rw [← byteCells_at bs i hi]
  unfold Row at h
  simp only [World.cell?, h]
  rfl
theorem Row.frozen {w : World} {g : Nat} {e : TypeId} {bs : List UInt8} (h : Row w g e bs) (i : Nat) : w.frozen? ⟨g, i, none⟩ = false := by
  unfold Row at h
  simp [World.frozen?, h]
theorem Row.drew {w : World} {g : Nat} {e : TypeId} {bs : List UInt8} (h : Row w g e bs) : Row w.drew g e bs := h
theorem byteCells_set (bs : List UInt8) (i : Nat) (x : UInt8) : (byteCells bs).setIfInBounds i (.int .u8 (x.toNat : Int)) = byteCells (bs.set i x) := by
  unfold byteCells
  apply Array.ext'
  simp [List.map_set]
theorem Row.set {w : World} {g : Nat} {e : TypeId} {bs : List UInt8} (h : Row w g e bs) (i : Nat) (x : UInt8) : Row (w.setCell ⟨g, i, none⟩ (.int .u8 (x.toNat : Int))) g e (bs.set i x) := by
  unfold Row at h ⊢
  rw [← byteCells_set]
  simp [World.setCell, Array.getElem?_modify, h]
theorem Row.below {w w' : World} {g B : Nat} {e : TypeId} {bs : List UInt8} (h : Row w g e bs) (hb : Below B w w') (hg : g < B) : Row w' g e bs := (hb.block g hg).trans h
theorem Row.new (w : World) (e : TypeId) (bs : List UInt8) : Row (w.alloc (.cells (byteCells bs) e)) w.heap.size e bs := heap_alloc_new w _
theorem Row.bs {w : World} {g : Nat} {e : TypeId} {bs : List UInt8} (h : Row w g e bs) {n : Nat} (hn : n ≤ bs.length) (hm : n ≤ maxLen) : Bs w (some ⟨g, 0, none⟩) n (bs.take n) := by
  refine ⟨by rw [List.length_take]; omega, hm, fun _ => ⟨g, 0, rfl, fun i hi => ?_⟩⟩
  have hc := h.cell i (by omega)
  rw [Nat.zero_add, hc, List.getD_eq_getElem?_getD, List.getD_eq_getElem?_getD, List.getElem?_take, if_pos hi]
theorem madeBytes (n : Nat) : madeCells (Value.int .u8 0).cells n = byteCells (List.replicate n 0) := by
  unfold madeCells byteCells
  apply Array.ext'
  simp [Value.cells]
  apply List.ext_getElem
  · simp
  · intro i h1 h2
    simp [Nat.mod_one]
/-- block g begins with these bytes, none of it is frozen -/
def Head (w : World) (g : Nat) (e : TypeId) (bs : List UInt8) : Prop :=
  ∃ cur, w.heap[g]? = some (.cells cur e (0, 0)) ∧ bs.length ≤ cur.size ∧ ∀ i, i < bs.length → cur[i]? = some (Value.int .u8 ((bs.getD i 0).toNat : Int))
theorem Head.lt {w : World} {g : Nat} {e : TypeId} {bs : List UInt8} (h : Head w g e bs) : g < w.heap.size := by
  obtain ⟨cur, h1, _⟩ := h
  exact (Array.getElem?_eq_some_iff.1 h1).1
theorem Head.cell {w : World} {g : Nat} {e : TypeId} {bs : List UInt8} (h : Head w g e bs) (i : Nat) (hi : i < bs.length) : w.cell? ⟨g, i, none⟩ = some (.int .u8 ((bs.getD i 0).toNat : Int)) := by
  obtain ⟨cur, h1, _, h3⟩ := h
  rw [← h3 i hi]
  simp only [World.cell?, h1]
  rfl
theorem Head.frozen {w : World} {g : Nat} {e : TypeId} {bs : List UInt8} (h : Head w g e bs) (i : Nat) : w.frozen? ⟨g, i, none⟩ = false := by
  obtain ⟨cur, h1, _⟩ := h
  simp [World.frozen?, h1]
theorem Head.drew {w : World} {g : Nat} {e : TypeId} {bs : List UInt8} (h : Head w g e bs) : Head w.drew g e bs := h
theorem Head.set {w : World} {g : Nat} {e : TypeId} {bs : List UInt8} (h : Head w g e bs) (i : Nat) (x : UInt8) : Head (w.setCell ⟨g, i, none⟩ (.int .u8 (x.toNat : Int))) g e (bs.set i x) := by
  obtain ⟨cur, h1, h2, h3⟩ := h
  refine ⟨cur.setIfInBounds i (.int .u8 (x.toNat : Int)), by simp [World.setCell, Array.getElem?_modify, h1], by simpa using h2, fun j hj => ?_⟩
  rw [List.length_set] at hj
  rw [Array.getElem?_setIfInBounds, List.getD_eq_getElem?_getD, List.getElem?_set]
  by_cases e1 : i = j
  · subst e1
    have : i < cur.size := by omega
    simp [this, hj]
  · rw [if_neg e1, if_neg e1, h3 j hj, List.getD_eq_getElem?_getD]
theorem Head.below {w w' : World} {g B : Nat} {e : TypeId} {bs : List UInt8} (h : Head w g e bs) (hb : Below B w w') (hg : g < B) : Head w' g e bs := by
  obtain ⟨cur, h1, h2⟩ := h
  exact ⟨cur, (hb.block g hg).trans h1, h2⟩
theorem Head.bs {w : World} {g : Nat} {e : TypeId} {bs : List UInt8} (h : Head w g e bs) {n : Nat} (hn : bs.length = n) (hm : n ≤ maxLen) : Bs w (some ⟨g, 0, none⟩) n bs := by
  refine ⟨hn, hm, fun _ => ⟨g, 0, rfl, fun i hi => ?_⟩⟩
  rw [Nat.zero_add]
  exact h.cell i (by omega)
/-- an owned row that is not empty begins with its bytes -/
theorem Own.head {w : World} {B : Nat} {e : TypeId} {v : Value} {bs : List UInt8} (h : Own w B e v bs) (hp : 0 < bs.length) : ∃ g c, v = .slice (some ⟨g, 0, none⟩) bs.length c ∧ B ≤ g ∧ Head w g e bs := by
  obtain ⟨_, h2⟩ := id h
  rcases h2 with ⟨rfl, h0⟩ | ⟨g, cap, cur, rfl, hb, hg, hn, hm, hs, ht⟩
  · omega
  · refine ⟨g, cap, rfl, hb, cur, hg, by omega, fun i hi => ?_⟩
    rw [← bcs_at bs i hi, ← ht, List.getElem?_take, if_pos (by omega), Array.getElem?_toList]
end Go.Proofs.Ytmlkdkbpbleilaa

namespace Go.Proofs.Ytmlkdkbpbleilaa
open Go.RowKit
/-- w' is w but for the blocks of F, and new ones -/
structure Turn (F : Nat → Prop) (w w' : World) : Prop where
  os : w'.os = w.os
  tape : w'.tape = w.tape
  output : w'.output = w.output
  size : w.heap.size ≤ w'.heap.size
  block : ∀ k, k < w.heap.size → ¬ F k → w'.heap[k]? = w.heap[k]?
def nowhere : Nat → Prop := fun _ => False
section
variable {F G : Nat → Prop} {w w1 w' : World}
theorem Turn.refl (F : Nat → Prop) (w : World) : Turn F w w := ⟨rfl, rfl, rfl, Nat.le_refl _, fun _ _ _ => rfl⟩
theorem Turn.mono (h : Turn F w w') (hf : ∀ k, k < w.heap.size → F k → G k) : Turn G w w' :=
  ⟨h.os, h.tape, h.output, h.size, fun k hk hn => h.block k hk fun hF => hn (hf k hk hF)⟩
theorem Turn.trans (h : Turn F w w1) (g : Turn G w1 w') (hg : ∀ k, k < w.heap.size → G k → F k) : Turn F w w' :=
  ⟨g.os.trans h.os, g.tape.trans h.tape, g.output.trans h.output, Nat.le_trans h.size g.size,
    fun k hk hn => (g.block k (Nat.lt_of_lt_of_le hk h.size) fun hG => hn (hg k hk hG)).trans (h.block k hk hn)⟩
theorem Turn.drew (h : Turn F w w') : Turn F w w'.drew := ⟨h.os, h.tape, h.output, h.size, h.block⟩
theorem Turn.drewN (h : Turn F w w') (n : Nat) : Turn F w (w'.drewN n) := ⟨h.os, h.tape, h.output, h.size, h.block⟩
theorem Turn.alloc (h : Turn F w w') (o : Obj) : Turn F w (w'.alloc o) :=
  ⟨h.os, h.tape, h.output, Nat.le_trans h.size (by simp), fun k hk hn => (Below.heap_alloc w' o k (Nat.lt_of_lt_of_le hk h.size)).trans (h.block k hk hn)⟩
theorem Turn.setCell (h : Turn F w w') {p : Addr} (hp : p.block < w.heap.size → F p.block) (u : Value) : Turn F w (w'.setCell p u) :=
  ⟨h.os, h.tape, h.output, by simpa [World.setCell] using h.size, fun k hk hn => (heap_setCell_other w' p k u (by
    rintro rfl
    exact hn (hp hk))).trans (h.block k hk hn)⟩
theorem Turn.grown (h : Turn F w w1) {row : Option Nat} (hg : w1.grownBy w' row) (hr : ∀ g, row = some g → g < w.heap.size → F g) : Turn F w w' :=
  ⟨hg.os.trans h.os, hg.tape.trans h.tape, hg.output.trans h.output, Nat.le_trans h.size hg.size,
    fun k hk hn => (hg.block k (Nat.lt_of_lt_of_le hk h.size) fun e => hn (hr k e.symm hk)).trans (h.block k hk hn)⟩
theorem Turn.of_below {B : Nat} (h : Below B w w') (hB : w.heap.size ≤ B) : Turn nowhere w w' := ⟨h.os, h.tape, h.output, h.size, fun k hk _ => h.block k (by omega)⟩
theorem Turn.below (h : Turn F w w') {B : Nat} (hB : B ≤ w.heap.size) (hF : ∀ k, k < B → ¬ F k) : Below B w w' :=
  ⟨h.os, h.tape, h.output, h.size, fun k hk => h.block k (by omega) (hF k hk)⟩
theorem Turn.cell (h : Turn F w w') {p : Addr} (hp : p.block < w.heap.size) (hn : ¬ F p.block) : w'.cell? p = w.cell? p := World.cell?_of_block (h.block _ hp hn)
theorem Turn.frozen (h : Turn F w w') {p : Addr} (hp : p.block < w.heap.size) (hn : ¬ F p.block) : w'.frozen? p = w.frozen? p := World.frozen?_of_block (h.block _ hp hn)
end
/-- the one block p -/
def only (p : Nat) : Nat → Prop := fun k => k = p
theorem Turn.at_ {w w' : World} {p : Nat} (h : Turn (only p) w w') (i : Nat) (u : Value) : Turn (only p) w (w'.setCell ⟨p, i, none⟩ u) := h.setCell (p := ⟨p, i, none⟩) (fun _ => rfl) u
theorem Turn.grow1 {w w' : World} {p : Nat} (h : Turn (only p) w w') : w.grownBy w' (some p) := ⟨h.os, h.tape, h.output, h.size, fun k hk hn => h.block k hk fun e => hn (by rw [show k = p from e])⟩
/-- block g is just the cells cs of element type t, none frozen -/
def Blk (w : World) (g : Nat) (t : TypeId) (cs : Array Value) : Prop := w.heap[g]? = some (.cells cs t (0, 0))
section
variable {F : Nat → Prop} {w w' : World} {g : Nat} {t : TypeId} {cs : Array Value}
theorem Blk.lt (h : Blk w g t cs) : g < w.heap.size := (Array.getElem?_eq_some_iff.1 h).1
theorem Blk.cell (h : Blk w g t cs) (i : Nat) : w.cell? ⟨g, i, none⟩ = cs[i]? := cell_of_row w g i cs t (0, 0) h
theorem Blk.frozen (h : Blk w g t cs) (i : Nat) : w.frozen? ⟨g, i, none⟩ = false := by
  unfold Blk at h
  simp [World.frozen?, h]
theorem Blk.new (w : World) (t : TypeId) (cs : Array Value) : Blk (w.alloc (.cells cs t)) w.heap.size t cs := heap_alloc_new w _
theorem Blk.drew (h : Blk w g t cs) : Blk w.drew g t cs := h
theorem Blk.drewN (h : Blk w g t cs) (n : Nat) : Blk (w.drewN n) g t cs := h
theorem Blk.alloc (h : Blk w g t cs) (o : Obj) : Blk (w.alloc o) g t cs := (Below.heap_alloc w o g h.lt).trans h
theorem Blk.set_ (h : Blk w g t cs) (i : Nat) (u : Value) : Blk (w.setCell ⟨g, i, none⟩ u) g t (cs.setIfInBounds i u) := heap_setCell_same w g i cs t u h
theorem Blk.far (h : Blk w g t cs) {p : Addr} (hp : g ≠ p.block) (u : Value) : Blk (w.setCell p u) g t cs := (heap_setCell_other w p g u hp).trans h
theorem Blk.turn (h : Blk w g t cs) (ht : Turn F w w') (hn : ¬ F g) : Blk w' g t cs := (ht.block g h.lt hn).trans h
theorem Blk.grown {row : Option Nat} (h : Blk w g t cs) (hb : w.grownBy w' row) (hg : some g ≠ row) : Blk w' g t cs := (hb.block g h.lt hg).trans h
theorem Blk.ne_ {g' : Nat} {t' : TypeId} {cs' : Array Value} (h : Blk w g t cs) (h' : Blk w g' t' cs') (hne : t ≠ t') : g ≠ g' := by
  rintro rfl
  unfold Blk at h h'
  rw [h] at h'
  injection h' with h'
  injection h' with _ ht
  exact hne ht
theorem Blk.inj {t' : TypeId} {cs' : Array Value} (h : Blk w g t cs) (h' : Blk w g t' cs') : cs = cs' := by
  unfold Blk at h h'
  rw [h] at h'
  injection h' with h'
  injection h' with e
end
/-- a step of a quiet region whose run is known -/
theorem wpStill_run {P : Program} {ops : Array Oper} {w : World} {Q : Act → Prop} {a : Act} {o : Oper} {rest : List Oper} (hw : Region.wanted o (yielded ops a.tmps) = true) {v : Value}
    (hrun : (execOp a.eval o).run P w = .ok (.value v) w) (h : wpStill P ops w Q rest (a.put o.dst v)) : wpStill P ops w Q (o :: rest) a := by
  refine wpStill_step fun K hK => ?_
  rw [if_pos hw]
  unfold Oper.still
  rw [hrun, Oper.stillUpon_value]
  exact hK _ h
theorem wpStill_load {P : Program} {ops : Array Oper} {w : World} {Q : Act → Prop} {a : Act} {o : Oper} {rest : List Oper} (hw : Region.wanted o (yielded ops a.tmps) = true) (ty : TypeId) (x : Operand) (ho : o.op = .load ty x)
    (p v : Value) (hx : a.eval x = p) (hrun : (Instr.loadAt ty p).run P w = .ok v w) (h : wpStill P ops w Q rest (a.put o.dst v)) : wpStill P ops w Q (o :: rest) a :=
  wpStill_run hw (by
    unfold execOp
    simp only [ho, hx, hrun, Sem.run_bind, Sem.run_pure, Result.andThen_ok]) h
theorem cells_ne_map {w : World} {g b : Nat} {t : TypeId} {cs : Array Value} {es : Array MapEntry} {clock : Nat} (h : Blk w g t cs) (h' : w.heap[b]? = some (.map es clock)) : g ≠ b := by
  rintro rfl
  unfold Blk at h
  rw [h] at h'
  injection h' with h'
  cases h'
end Go.Proofs.Ytmlkdkbpbleilaa

namespace Go.Proofs.Ytmlkdkbpbleilaa
section
variable {P : Program} {md : Region.Mode} {ops : Array Oper} {Q : Exit → Act → World → Prop} {S : World → Prop} {k : Nat} {rest : List Oper}
/-- whatever order is picked, and S holds as long as k has not come up -/
def Till (P : Program) (md : Region.Mode) (ops : Array Oper) (Q : Exit → Act → World → Prop) (S : World → Prop) (k : Nat) : Nat → Array Bool → Act → World → Prop
  | 0, l, a, w => Region.ready md ops l = [] ∧ Q .normal a w
  | n + 1, l, a, w => (Region.ready md ops l = [] → Q .normal a w) ∧
      ∀ i ∈ Region.ready md ops l, wpOp P ops Q i (fun a' w' => ((l.setIfInBounds i true).getD k true = false → S w') ∧ Till P md ops Q S k n (l.setIfInBounds i true) a' w') a w
theorem till_any : ∀ (n : Nat) (l : Array Bool) (a : Act) (w : World), Till P md ops Q S k n l a w → wpAny P md ops Q n l a w
  | 0, _, _, _, h => h
  | n + 1, _, _, _, h => ⟨h.1, fun i hi => wpOp_mono (fun _ _ h' => till_any n _ _ _ h'.2) (h.2 i hi)⟩
theorem till_first {i : Nat} {o : Oper} {v : Value} (hi : ops[i]? = some o) (hsel : ∀ (j : Nat) (o : Oper) cs b, ops[j]? = some o → o.op ≠ .select cs b) (hki : k ≠ i)
    (hk : ∃ ok, ops[k]? = some ok ∧ ∃ e ∈ ok.after, Region.binds md e = true ∧ e.on = i) :
    ∀ (n : Nat) (l : Array Bool) (a : Act) (w : World), l.getD k true = false →
      (∀ j oj, ops[j]? = some oj → j ≠ i → l.getD j true = false → (∀ e ∈ oj.after, Region.binds md e = true → e.on ≠ i) → o.apart ops oj = true) →
      i ∈ Region.ready md ops l → YieldsIf P ops S o v a → S w → (∀ c a w, Q (.panic c) (a.put o.dst v) w → Q (.panic c) a w) →
      Till P md ops Q S k n (l.setIfInBounds i true) (a.put o.dst v) w → Till P md ops Q S k (n + 1) l a w := by
  have hread : ∀ (l : Array Bool) (j : Nat), i ∈ Region.ready md ops l → j ∈ Region.ready md ops l → j ≠ i → ∃ oj, ops[j]? = some oj ∧ l.getD j true = false ∧ j ≠ k ∧ ∀ e ∈ oj.after, Region.binds md e = true → e.on ≠ i := by
    intro l j hr hj hji
    obtain ⟨h0, oj, hoj, hall⟩ := mem_ready.1 hj
    have hun := (mem_ready.1 hr).1
    have hno : ∀ e ∈ oj.after, Region.binds md e = true → e.on ≠ i := by
      intro e he hb heq
      have h2 := hall e he hb
      rw [heq] at h2
      rcases Nat.lt_or_ge i l.size with hlt | hge
      · rw [Array.getD_eq_getD_getElem?, Array.getElem?_eq_getElem hlt] at h2 hun
        simp only [Option.getD_some] at h2 hun
        rw [h2] at hun
        cases hun
      · rw [Array.getD_eq_getD_getElem?, Array.getElem?_eq_none hge] at h2
        cases h2
    refine ⟨oj, hoj, h0, ?_, hno⟩
    rintro rfl
    obtain ⟨ok, hok, e, he, hb, hon⟩ := hk
    rw [hoj] at hok
    injection hok with hok
    subst hok
    exact hno e he hb hon
  intro n
  induction n with
  | zero =>
    intro l a w hkl _ hr hy hS _ H
    refine ⟨fun h => (by rw [h] at hr; cases hr), fun j hj => ?_⟩
    by_cases hji : j = i
    · subst hji
      exact hy.wpOp hi hS ⟨fun _ => hS, H⟩
    · have := ready_mono hj hji
      rw [H.1] at this
      cases this
  | succ n ih =>
    intro l a w hkl hfree hr hy hS hQ H
    refine ⟨fun h => (by rw [h] at hr; cases hr), fun j hj => ?_⟩
    by_cases hji : j = i
    · subst hji
      exact hy.wpOp hi hS ⟨fun _ => hS, H⟩
    · obtain ⟨oj, hoj, hjun, hjk, hno⟩ := hread l j hr hj hji
      have h1 := H.2 j (ready_mono hj hji)
      have h2 := wpOp_putIf hoj (hfree j oj hoj hji hjun hno) (fun cs b => hsel i o cs b hi) (fun cs b => hsel j oj cs b hoj) hQ hy h1
      have hk' : (l.setIfInBounds j true).getD k true = false := by rw [getD_set_ne true hjk]; exact hkl
      have hk2 : ((l.setIfInBounds i true).setIfInBounds j true).getD k true = false := by rw [getD_set_ne true hjk, getD_set_ne true (Ne.symm hki)]; exact hkl
      refine wpOp_mono (fun a' w' h3 => ⟨fun _ => h3.2.1 hk2, ih (l.setIfInBounds j true) a' w' hk' ?_ (ready_mono hr (Ne.symm hji)) h3.1 (h3.2.1 hk2) hQ ?_⟩) h2
      · intro m om hm hmi hun hn
        refine hfree m om hm hmi ?_ hn
        by_cases hjm : j = m
        · subst hjm
          exact hjun
        · rwa [getD_set_ne true hjm] at hun
      · rw [Array.setIfInBounds_comm _ _ hji]
        exact h3.2.2
theorem till_take {i : Nat} {o : Oper} {v : Value} {n : Nat} {l : Array Bool} {a : Act} {w : World} (hi0 : ops.toList[i]? = some o) (hs : Region.noSelect ops = true)
    (hf : (Region.free md ops l i && (Region.ready md ops l).contains i && Region.waitsFor md ops k i && !(l.getD k true) && decide (k ≠ i)) = true)
    (hQ : ∀ c a w, Q (.panic c) (a.put o.dst v) w → Q (.panic c) a w) (hy : YieldsIf P ops S o v a) (hS : S w)
    (h : Till P md ops Q S k n (l.setIfInBounds i true) (a.put o.dst v) w) : Till P md ops Q S k (n + 1) l a w := by
  have hi : ops[i]? = some o := by rw [← hi0, Array.getElem?_toList]
  simp only [Bool.and_eq_true, decide_eq_true_eq, Bool.not_eq_true'] at hf
  obtain ⟨⟨⟨⟨h1, h2⟩, h3⟩, h4⟩, h5⟩ := hf
  exact till_first hi (Region.noSelect_spec hs) h5 (Region.waitsFor_spec h3) n l a w h4 (Region.free_spec hi h1) (by simpa using h2) hy hS hQ h
/-- one alone may come up -/
theorem till_only {i : Nat} {o : Oper} {n : Nat} {l : Array Bool} {a : Act} {w : World} (hr : Region.ready md ops l = [i]) (ho0 : ops.toList[i]? = some o)
    (hw : Region.wanted o (yielded ops a.tmps) = true)
    (h : o.wp P a w (fun a' w' => ((l.setIfInBounds i true).getD k true = false → S w') ∧ Till P md ops Q S k n (l.setIfInBounds i true) a' w') Q) : Till P md ops Q S k (n + 1) l a w := by
  have ho : ops[i]? = some o := by rw [← ho0, Array.getElem?_toList]
  refine ⟨fun h0 => (by rw [h0] at hr; cases hr), fun j hj => ?_⟩
  rw [hr] at hj
  obtain rfl : j = i := by simpa using hj
  unfold wpOp
  simp only [ho, hw, if_true]
  exact .inl h
def chainFrom (md : Region.Mode) (ops : Array Oper) : Nat → Array Bool → Nat → Bool
  | 0, l, _ => (Region.ready md ops l).isEmpty
  | c + 1, l, i => Region.ready md ops l == [i] && chainFrom md ops c (l.setIfInBounds i true) (i + 1)
/-- the last ones come up one behind the other: they are walked as a plain list -/
theorem till_chain : ∀ (rest : List Oper) (n : Nat) (l : Array Bool) (a : Act) (w : World) (i : Nat), (∀ j o, rest[j]? = some o → ops[i + j]? = some o) → chainFrom md ops rest.length l i = true →
    ((l.setIfInBounds i true).getD k true = true) → rest.length ≤ n → wpList P ops Q rest a w → Till P md ops Q S k n l a w
  | [], n, l, a, w, i, _, hc, _, _, h => by
    have h0 : Region.ready md ops l = [] := by simpa [chainFrom] using hc
    cases n with
    | zero => exact ⟨h0, h⟩
    | succ n => exact ⟨fun _ => h, fun j hj => by rw [h0] at hj; cases hj⟩
  | o :: rest, 0, l, a, w, i, _, _, _, hn, h => by simp at hn
  | o :: rest, n + 1, l, a, w, i, hops, hc, hk, hn, h => by
    simp only [List.length_cons, chainFrom, Bool.and_eq_true, beq_iff_eq] at hc
    obtain ⟨h1, h2⟩ := hc
    refine ⟨fun h0 => (by rw [h0] at h1; cases h1), fun j hj => ?_⟩
    rw [h1] at hj
    obtain rfl : j = i := by simpa using hj
    have ho : ops[j]? = some o := hops 0 o rfl
    have hw : wpOp P ops Q j (wpList P ops Q rest) a w := by
      unfold wpOp
      simp only [ho]
      unfold wpList at h
      exact h
    refine wpOp_mono (fun a' w' h' => ⟨fun e => (by rw [hk] at e; cases e), till_chain rest n _ a' w' (j + 1) (fun m om hm => ?_) h2 ?_ (by simpa using hn) h'⟩) hw
    · have := hops (m + 1) om hm
      rwa [show j + (m + 1) = j + 1 + m from by omega] at this
    · by_cases e : j + 1 = k
      · subst e
        rw [Array.getD_eq_getD_getElem?, Array.getElem?_setIfInBounds]
        by_cases hs : j + 1 < (l.setIfInBounds j true).size
        · rw [if_pos rfl, if_pos hs]
          rfl
        · rw [if_pos rfl, if_neg hs]
          rfl
      · rw [getD_set_ne true e]
        exact hk
/-- all that is owed by kernel: k comes up now, or has come up; the others behind one another -/
theorem till_tail (i : Nat) {n : Nat} {l : Array Bool} {a : Act} {w : World} (hops : ops.toList.drop i = rest) (hc : (chainFrom md ops rest.length l i && (l.setIfInBounds i true).getD k true && decide (rest.length ≤ n)) = true)
    (h : wpList P ops Q rest a w) : Till P md ops Q S k n l a w := by
  simp only [Bool.and_eq_true, decide_eq_true_eq] at hc
  refine till_chain rest n l a w i (fun j o hj => ?_) hc.1.1 hc.1.2 hc.2 h
  rw [← hops, List.getElem?_drop] at hj
  simpa using hj
theorem till_mono {S' : World → Prop} (hS : ∀ w, S' w → S w) : ∀ (n : Nat) (l : Array Bool) (a : Act) (w : World), Till P md ops Q S' k n l a w → Till P md ops Q S k n l a w
  | 0, _, _, _, h => h
  | n + 1, _, _, _, h => ⟨h.1, fun i hi => wpOp_mono (fun _ _ h' => ⟨fun e => hS _ (h'.1 e), till_mono hS n _ _ _ h'.2⟩) (h.2 i hi)⟩
/-- one alone may come up: what follows behind a letter -/
theorem till_step {i : Nat} {o : Oper} {n : Nat} {l : Array Bool} {a : Act} {w : World} (hr : Region.ready md ops l = [i]) (ho0 : ops.toList[i]? = some o) (hw : Region.wanted o (yielded ops a.tmps) = true)
    (h : ∀ K : Act → World → Prop, Shut (∀ a' w', (((l.setIfInBounds i true).getD k true = false → S w') ∧ Till P md ops Q S k n (l.setIfInBounds i true) a' w') → K a' w') → o.wp P a w K Q) : Till P md ops Q S k (n + 1) l a w :=
  till_only hr ho0 hw (h _ fun _ _ h' => h')
theorem till_done {n : Nat} {l : Array Bool} {a : Act} {w : World} (hr : Region.ready md ops l = []) (h : Q .normal a w) : Till P md ops Q S k n l a w := by
  cases n with
  | zero => exact ⟨hr, h⟩
  | succ n => exact ⟨fun _ => h, fun j hj => by rw [hr] at hj; cases hj⟩
theorem wp_region_till (S : World → Prop) (k : Nat) {id : Nat} {a : Act} {w : World} (hm : P.follows .mixedOrders = true)
    (h : Till P .any ops (NoPanic Q) S k ops.size (Array.replicate ops.size false) a w.drew) : (Code.region id ops true).wp P Q a w :=
  wp_region_noPanic (wp_region_any hm (till_any _ _ _ _ h))
theorem wp_run {o : Oper} {a : Act} {w w' : World} {K : Act → World → Prop} {v : Value} (hr : (execOp a.eval o).run P w = .ok (.value v) w') (h : K (a.put o.dst v) w') : o.wp P a w K Q := by
  unfold Oper.wp
  rw [hr]
  exact h
theorem wp_append {o : Oper} {a : Act} {w w' : World} {K : Act → World → Prop} (s x : Operand) (t : TypeId) (ho : o.op = .call { callee := .builtin .append, args := #[s, x], argTypes := #[t, t] }) {v u r : Value} (hs : a.eval s = v) (hx : a.eval x = u)
    (hr : (Builtin.append_ #[t, t] o.type #[v, u]).run P w = .ok r w') (h : K (a.put o.dst r) w') : o.wp P a w K Q := by
  unfold Oper.wp execOp
  simp only [ho, resolve, invoke, builtin, Sem.run_bind, Sem.run_pure, Result.andThen_ok, List.map_toArray, List.map_cons, List.map_nil, hs, hx, hr]
  exact h
end
end Go.Proofs.Ytmlkdkbpbleilaa

namespace Go.Proofs.Ytmlkdkbpbleilaa
section
variable {P : Program} {md : Region.Mode} {ops : Array Oper} {Q : Exit → Act → World → Prop} {S : World → Prop}
/-- whatever order is picked, and S holds behind each operation -/
def Alw (P : Program) (md : Region.Mode) (ops : Array Oper) (Q : Exit → Act → World → Prop) (S : World → Prop) : Nat → Array Bool → Act → World → Prop
  | 0, l, a, w => Region.ready md ops l = [] ∧ Q .normal a w
  | n + 1, l, a, w => (Region.ready md ops l = [] → Q .normal a w) ∧
      ∀ i ∈ Region.ready md ops l, wpOp P ops Q i (fun a' w' => S w' ∧ Alw P md ops Q S n (l.setIfInBounds i true) a' w') a w
theorem alw_any : ∀ (n : Nat) (l : Array Bool) (a : Act) (w : World), Alw P md ops Q S n l a w → wpAny P md ops Q n l a w
  | 0, _, _, _, h => h
  | n + 1, _, _, _, h => ⟨h.1, fun i hi => wpOp_mono (fun _ _ h' => alw_any n _ _ _ h'.2) (h.2 i hi)⟩
theorem alw_first {i : Nat} {o : Oper} {v : Value} (hi : ops[i]? = some o) (hsel : ∀ (j : Nat) (o : Oper) cs b, ops[j]? = some o → o.op ≠ .select cs b) :
    ∀ (n : Nat) (l : Array Bool) (a : Act) (w : World),
      (∀ j oj, ops[j]? = some oj → j ≠ i → l.getD j true = false → (∀ e ∈ oj.after, Region.binds md e = true → e.on ≠ i) → o.apart ops oj = true) →
      i ∈ Region.ready md ops l → YieldsIf P ops S o v a → S w → (∀ c a w, Q (.panic c) (a.put o.dst v) w → Q (.panic c) a w) →
      Alw P md ops Q S n (l.setIfInBounds i true) (a.put o.dst v) w → Alw P md ops Q S (n + 1) l a w := by
  have hread : ∀ (l : Array Bool) (j : Nat), i ∈ Region.ready md ops l → j ∈ Region.ready md ops l → j ≠ i → ∃ oj, ops[j]? = some oj ∧ l.getD j true = false ∧ ∀ e ∈ oj.after, Region.binds md e = true → e.on ≠ i := by
    intro l j hr hj hji
    obtain ⟨h0, oj, hoj, hall⟩ := mem_ready.1 hj
    have hun := (mem_ready.1 hr).1
    refine ⟨oj, hoj, h0, fun e he hb heq => ?_⟩
    have h2 := hall e he hb
    rw [heq] at h2
    rcases Nat.lt_or_ge i l.size with hlt | hge
    · rw [Array.getD_eq_getD_getElem?, Array.getElem?_eq_getElem hlt] at h2 hun
      simp only [Option.getD_some] at h2 hun
      rw [h2] at hun
      cases hun
    · rw [Array.getD_eq_getD_getElem?, Array.getElem?_eq_none hge] at h2
      cases h2
  intro n
  induction n with
  | zero =>
    intro l a w _ hr hy hS _ H
    refine ⟨fun h => (by rw [h] at hr; cases hr), fun j hj => ?_⟩
    by_cases hji : j = i
    · subst hji
      exact hy.wpOp hi hS ⟨hS, H⟩
    · have := ready_mono hj hji
      rw [H.1] at this
      cases this
  | succ n ih =>
    intro l a w hfree hr hy hS hQ H
    refine ⟨fun h => (by rw [h] at hr; cases hr), fun j hj => ?_⟩
    by_cases hji : j = i
    · subst hji
      exact hy.wpOp hi hS ⟨hS, H⟩
    · obtain ⟨oj, hoj, hjun, hno⟩ := hread l j hr hj hji
      have h1 := H.2 j (ready_mono hj hji)
      have h2 := wpOp_putIf hoj (hfree j oj hoj hji hjun hno) (fun cs b => hsel i o cs b hi) (fun cs b => hsel j oj cs b hoj) hQ hy h1
      refine wpOp_mono (fun a' w' h3 => ⟨h3.2.1, ih (l.setIfInBounds j true) a' w' ?_ (ready_mono hr (Ne.symm hji)) h3.1 h3.2.1 hQ ?_⟩) h2
      · intro m om hm hmi hun hn
        refine hfree m om hm hmi ?_ hn
        by_cases hjm : j = m
        · subst hjm
          exact hjun
        · rwa [getD_set_ne true hjm] at hun
      · rw [Array.setIfInBounds_comm _ _ hji]
        exact h3.2.2
theorem alw_take {i : Nat} {o : Oper} {v : Value} {n : Nat} {l : Array Bool} {a : Act} {w : World} (hi0 : ops.toList[i]? = some o) (hs : Region.noSelect ops = true)
    (hf : (Region.free md ops l i && (Region.ready md ops l).contains i) = true)
    (hQ : ∀ c a w, Q (.panic c) (a.put o.dst v) w → Q (.panic c) a w) (hy : YieldsIf P ops S o v a) (hS : S w)
    (h : Alw P md ops Q S n (l.setIfInBounds i true) (a.put o.dst v) w) : Alw P md ops Q S (n + 1) l a w := by
  have hi : ops[i]? = some o := by rw [← hi0, Array.getElem?_toList]
  simp only [Bool.and_eq_true] at hf
  exact alw_first hi (Region.noSelect_spec hs) n l a w (Region.free_spec hi hf.1) (by simpa using hf.2) hy hS hQ h
theorem alw_step {i : Nat} {o : Oper} {n : Nat} {l : Array Bool} {a : Act} {w : World} (hr : Region.ready md ops l = [i]) (ho0 : ops.toList[i]? = some o) (hw : Region.wanted o (yielded ops a.tmps) = true)
    (h : ∀ K : Act → World → Prop, Shut (∀ a' w', (S w' ∧ Alw P md ops Q S n (l.setIfInBounds i true) a' w') → K a' w') → o.wp P a w K Q) : Alw P md ops Q S (n + 1) l a w := by
  have ho : ops[i]? = some o := by rw [← ho0, Array.getElem?_toList]
  refine ⟨fun h0 => (by rw [h0] at hr; cases hr), fun j hj => ?_⟩
  rw [hr] at hj
  obtain rfl : j = i := by simpa using hj
  unfold wpOp
  simp only [ho, hw, if_true]
  exact .inl (h _ fun _ _ h' => h')
theorem alw_done {n : Nat} {l : Array Bool} {a : Act} {w : World} (hr : Region.ready md ops l = []) (h : Q .normal a w) : Alw P md ops Q S n l a w := by
  cases n with
  | zero => exact ⟨hr, h⟩
  | succ n => exact ⟨fun _ => h, fun j hj => by rw [hr] at hj; cases hj⟩
theorem wp_region_alw (S : World → Prop) {id : Nat} {a : Act} {w : World} (hm : P.follows .mixedOrders = true)
    (h : Alw P .any ops (NoPanic Q) S ops.size (Array.replicate ops.size false) a w.drew) : (Code.region id ops true).wp P Q a w :=
  wp_region_noPanic (wp_region_any hm (alw_any _ _ _ _ h))
end
end Go.Proofs.Ytmlkdkbpbleilaa

namespace Go.Proofs.Ytmlkdkbpbleilaa
section
variable {F : Fence} {m : Nat} {P : Program} {md : Region.Mode} {ops : Array Oper} {Q Q' : Exit → Act → World → Prop} {S : World → Prop}
theorem oper_monoQ {o : Oper} {a : Act} {w : World} {K : Act → World → Prop} (hq : ∀ e a w, Q e a w → Q' e a w) (hh : o.wpIn F m P a w K Q) : o.wpIn F m P a w K Q' := by
  unfold Oper.wpIn at *
  refine ⟨hh.1, ?_⟩
  have hh := hh.2
  generalize (o.semAt F.round a.eval).run P w = r at *
  cases r with
  | ok x w' =>
    cases x <;> simp only [Oper.uponIn] at hh ⊢ <;>
      first
        | exact hh
        | exact ⟨hh.1, CallsIn.mono hh.2 (fun e w'' he => by cases e <;> first | exact he | exact hq _ _ _ he | exact (let ⟨a, w, h⟩ := he; ⟨a, w, hq _ _ _ h⟩))⟩
        | exact ⟨hh.1, RoundIn.mono hh.2 (fun e w'' he => by cases e <;> first | exact he | exact hq _ _ _ he | exact (let ⟨a, w, h⟩ := he; ⟨a, w, hq _ _ _ h⟩))⟩
  | halt x w' => cases x <;> simp only [Oper.uponIn] at hh ⊢ <;> exact hq _ _ _ hh
theorem wpOpIn_monoQ {i : Nat} {a : Act} {w : World} {K : Act → World → Prop} (hq : ∀ e a w, Q e a w → Q' e a w) (hh : wpOpIn F m P ops Q i K a w) : wpOpIn F m P ops Q' i K a w := by
  unfold wpOpIn at *
  split
  · exact by simpa [*] using hh
  · rename_i o ho
    simp only [ho] at hh
    split
    · rename_i hw; simp only [hw, if_true] at hh; exact oper_monoQ hq hh
    · rename_i hw; simp only [hw] at hh; exact hh
/-- what o yields where S holds, and it is about to make no call -/
def YIn (P : Program) (ops : Array Oper) (S : World → Prop) (o : Oper) (v : Value) (a : Act) : Prop := YieldsIf P ops S o v a ∧ ∀ w, o.about P w a.eval = none
theorem YIn.of_same {o : Oper} {v : Value} {a a' : Act} (hy : YIn P ops S o v a) (he : execOp a'.eval o = execOp a.eval o)
    (hw : Region.wanted o (yielded ops a'.tmps) = Region.wanted o (yielded ops a.tmps)) (hb : ∀ w, o.about P w a'.eval = o.about P w a.eval) : YIn P ops S o v a' :=
  ⟨hy.1.of_same he hw, fun w => by rw [hb w]; exact hy.2 w⟩
theorem YIn.wpOpIn {i : Nat} {o : Oper} {v : Value} {a : Act} (hro : F.round = none) (hi : ops[i]? = some o) (hy : YIn P ops S o v a)
    {K : Act → World → Prop} {w : World} (hS : S w) (h : K (a.put o.dst v) w) : wpOpIn F m P ops Q i K a w := by
  unfold Go.wpOpIn
  simp only [hi]
  have hab : ∀ f, o.about P w a.eval = some f → F.fn f := fun f hf => by rw [hy.2 w] at hf; cases hf
  rcases hy.1 with ⟨hw, hv⟩ | ⟨hw, rfl⟩
  · simp only [hw, if_true, Oper.wpIn, hro, Oper.semAt_none, hv w hS, Oper.uponIn]; exact ⟨hab, h⟩
  · simp only [hw, Bool.false_eq_true, if_false]; exact ⟨hab, h⟩
theorem wpOpIn_putY {j : Nat} {oi oj : Oper} {v : Value} (hro : F.round = none) (hj : ops[j]? = some oj) (hap : oi.apart ops oj = true)
    (hsi : ∀ cs b, oi.op ≠ .select cs b) (hsj : ∀ cs b, oj.op ≠ .select cs b)
    (hQ : ∀ c a w, Q (.panic c) (a.put oi.dst v) w → Q (.panic c) a w) {K : Act → World → Prop} {a : Act} {w : World}
    (hy : YIn P ops S oi v a) (h : wpOpIn F m P ops Q j K (a.put oi.dst v) w) :
    wpOpIn F m P ops Q j (fun a' w' => YIn P ops S oi v a' ∧ K (a'.put oi.dst v) w') a w := by
  obtain ⟨h1, h2, h3⟩ := Oper.apart_spec hap
  have keep : ∀ (a : Act), YIn P ops S oi v a → ∀ u, YIn P ops S oi v (a.put oj.dst u) := fun a hy u =>
    hy.of_same (execOp_put oi hsi a oj.dst u h3) (wanted_put oi a oj.dst u h3) (fun w => about_put oi w a oj.dst u h3)
  have keepD : ∀ d, YIn P ops S oi v { a with defers := d :: a.defers } := fun d => hy.of_same rfl rfl (fun _ => rfl)
  unfold wpOpIn at *
  simp only [hj] at *
  rw [wanted_put oj a oi.dst v h1, about_put oj w a oi.dst v h1] at h
  split
  · rename_i hw
    simp only [hw, if_true] at h
    unfold Oper.wpIn at *
    rw [about_put oj w a oi.dst v h1] at h
    refine ⟨h.1, ?_⟩
    have h := h.2
    rw [hro, Oper.semAt_none, execOp_put oj hsj a oi.dst v h1] at h
    rw [hro, Oper.semAt_none]
    generalize (execOp a.eval oj).run P w = r at *
    cases r with
    | ok x w' =>
      cases x <;> simp only [Oper.uponIn] at h ⊢
      case value u => exact ⟨keep a hy u, by rw [← Act.put_comm a v u h2]; exact h⟩
      case skip => exact ⟨keep a hy _, by rw [← Act.put_comm a v undef h2]; exact h⟩
      case defer d =>
        refine ⟨keep _ (keepD d) _, ?_⟩
        rw [← Act.put_comm _ v undef h2, ← Act.put_defers]
        exact h
      case enter f args =>
        refine ⟨h.1, CallsIn.mono h.2 fun e w'' he => ?_⟩
        cases e with
        | returned u => exact ⟨keep a hy u, by rw [← Act.put_comm a v u h2]; exact he⟩
        | panicked c => exact hQ _ _ _ he
        | outgrown => exact he
      case row row args => exact ⟨h.1, RowsIn.mono h.2 fun u w'' he => ⟨keep a hy u, by rw [← Act.put_comm a v u h2]; exact he⟩⟩
      case round l f tmps assign body =>
        refine ⟨h.1, RoundIn.mono h.2 fun e w'' he => ?_⟩
        cases e with
        | returned u => exact ⟨keep a hy u, by rw [← Act.put_comm a v u h2]; exact he⟩
        | panicked c => exact hQ _ _ _ he
        | outgrown => exact he
    | halt x w' =>
      cases x <;> simp only [Oper.uponIn] at h ⊢
      case panic u => exact hQ _ _ _ h
  · rename_i hw
    simp only [hw] at h
    exact ⟨h.1, keep a hy _, by rw [← Act.put_comm a v undef h2]; exact h.2⟩
/-- whatever order is picked, and S holds behind each operation -/
def AlwI (F : Fence) (m : Nat) (P : Program) (md : Region.Mode) (ops : Array Oper) (Q : Exit → Act → World → Prop) (S : World → Prop) : Nat → Array Bool → Act → World → Prop
  | 0, l, a, w => Region.ready md ops l = [] ∧ Q .normal a w
  | n + 1, l, a, w => (Region.ready md ops l = [] → Q .normal a w) ∧
      ∀ i ∈ Region.ready md ops l, wpOpIn F m P ops Q i (fun a' w' => S w' ∧ AlwI F m P md ops Q S n (l.setIfInBounds i true) a' w') a w
theorem alwI_any (hq : ∀ e a w, Q e a w → Q' e a w) : ∀ (n : Nat) (l : Array Bool) (a : Act) (w : World), AlwI F m P md ops Q S n l a w → wpAnyIn F m P md ops Q' n l a w
  | 0, _, _, _, h => ⟨h.1, hq _ _ _ h.2⟩
  | n + 1, _, _, _, h => ⟨fun h0 => hq _ _ _ (h.1 h0), fun i hi => wpOpIn_monoQ hq (wpOpIn_mono (fun _ _ h' => alwI_any hq n _ _ _ h'.2) (h.2 i hi))⟩
theorem alwI_first {i : Nat} {o : Oper} {v : Value} (hro : F.round = none) (hi : ops[i]? = some o) (hsel : ∀ (j : Nat) (o : Oper) cs b, ops[j]? = some o → o.op ≠ .select cs b) :
    ∀ (n : Nat) (l : Array Bool) (a : Act) (w : World),
      (∀ j oj, ops[j]? = some oj → j ≠ i → l.getD j true = false → (∀ e ∈ oj.after, Region.binds md e = true → e.on ≠ i) → o.apart ops oj = true) →
      i ∈ Region.ready md ops l → YIn P ops S o v a → S w → (∀ c a w, Q (.panic c) (a.put o.dst v) w → Q (.panic c) a w) →
      AlwI F m P md ops Q S n (l.setIfInBounds i true) (a.put o.dst v) w → AlwI F m P md ops Q S (n + 1) l a w := by
  have hread : ∀ (l : Array Bool) (j : Nat), i ∈ Region.ready md ops l → j ∈ Region.ready md ops l → j ≠ i → ∃ oj, ops[j]? = some oj ∧ l.getD j true = false ∧ ∀ e ∈ oj.after, Region.binds md e = true → e.on ≠ i := by
    intro l j hr hj hji
    obtain ⟨h0, oj, hoj, hall⟩ := mem_ready.1 hj
    have hun := (mem_ready.1 hr).1
    refine ⟨oj, hoj, h0, fun e he hb heq => ?_⟩
    have h2 := hall e he hb
    rw [heq] at h2
    rcases Nat.lt_or_ge i l.size with hlt | hge
    · rw [Array.getD_eq_getD_getElem?, Array.getElem?_eq_getElem hlt] at h2 hun
      simp only [Option.getD_some] at h2 hun
      rw [h2] at hun
      cases hun
    · rw [Array.getD_eq_getD_getElem?, Array.getElem?_eq_none hge] at h2
      cases h2
  intro n
  induction n with
  | zero =>
    intro l a w _ hr hy hS _ H
    refine ⟨fun h => (by rw [h] at hr; cases hr), fun j hj => ?_⟩
    by_cases hji : j = i
    · subst hji
      exact hy.wpOpIn hro hi hS ⟨hS, H⟩
    · have := ready_mono hj hji
      rw [H.1] at this
      cases this
  | succ n ih =>
    intro l a w hfree hr hy hS hQ H
    refine ⟨fun h => (by rw [h] at hr; cases hr), fun j hj => ?_⟩
    by_cases hji : j = i
    · subst hji
      exact hy.wpOpIn hro hi hS ⟨hS, H⟩
    · obtain ⟨oj, hoj, hjun, hno⟩ := hread l j hr hj hji
      have h1 := H.2 j (ready_mono hj hji)
      have h2 := wpOpIn_putY hro hoj (hfree j oj hoj hji hjun hno) (fun cs b => hsel i o cs b hi) (fun cs b => hsel j oj cs b hoj) hQ hy h1
      refine wpOpIn_mono (fun a' w' h3 => ⟨h3.2.1, ih (l.setIfInBounds j true) a' w' ?_ (ready_mono hr (Ne.symm hji)) h3.1 h3.2.1 hQ ?_⟩) h2
      · intro m2 om hm hmi hun hn
        refine hfree m2 om hm hmi ?_ hn
        by_cases hjm : j = m2
        · subst hjm
          exact hjun
        · rwa [getD_set_ne true hjm] at hun
      · rw [Array.setIfInBounds_comm _ _ hji]
        exact h3.2.2
theorem alwI_take {i : Nat} {o : Oper} {v : Value} {n : Nat} {l : Array Bool} {a : Act} {w : World} (hro : F.round = none) (hi0 : ops.toList[i]? = some o) (hs : Region.noSelect ops = true)
    (hf : (Region.free md ops l i && (Region.ready md ops l).contains i) = true)
    (hQ : ∀ c a w, Q (.panic c) (a.put o.dst v) w → Q (.panic c) a w) (hy : YieldsIf P ops S o v a) (hab : ∀ w, o.about P w a.eval = none) (hS : S w)
    (h : AlwI F m P md ops Q S n (l.setIfInBounds i true) (a.put o.dst v) w) : AlwI F m P md ops Q S (n + 1) l a w := by
  have hi : ops[i]? = some o := by rw [← hi0, Array.getElem?_toList]
  simp only [Bool.and_eq_true] at hf
  exact alwI_first hro hi (Region.noSelect_spec hs) n l a w (Region.free_spec hi hf.1) (by simpa using hf.2) ⟨hy, hab⟩ hS hQ h
theorem alwI_step {i : Nat} {o : Oper} {n : Nat} {l : Array Bool} {a : Act} {w : World} (hr : Region.ready md ops l = [i]) (ho0 : ops.toList[i]? = some o) (hw : Region.wanted o (yielded ops a.tmps) = true)
    (h : ∀ K : Act → World → Prop, Shut (∀ a' w', (S w' ∧ AlwI F m P md ops Q S n (l.setIfInBounds i true) a' w') → K a' w') → o.wpIn F m P a w K Q) : AlwI F m P md ops Q S (n + 1) l a w := by
  have ho : ops[i]? = some o := by rw [← ho0, Array.getElem?_toList]
  refine ⟨fun h0 => (by rw [h0] at hr; cases hr), fun j hj => ?_⟩
  rw [hr] at hj
  obtain rfl : j = i := by simpa using hj
  unfold wpOpIn
  simp only [ho, hw, if_true]
  exact h _ fun _ _ h' => h'
theorem alwI_done {n : Nat} {l : Array Bool} {a : Act} {w : World} (hr : Region.ready md ops l = []) (h : Q .normal a w) : AlwI F m P md ops Q S n l a w := by
  cases n with
  | zero => exact ⟨hr, h⟩
  | succ n => exact ⟨fun _ => h, fun j hj => by rw [hr] at hj; cases hj⟩
theorem wpIn_region_alw (S : World → Prop) {id : Nat} {a : Act} {w : World} (hm : P.follows .mixedOrders = true)
    (h : AlwI F m P .any ops (NoPanic Q) S ops.size (Array.replicate ops.size false) a w.drew) : (Code.region id ops true).wpIn F m P Q a w :=
  wpIn_region_any hm (alwI_any NoPanic.imp _ _ _ _ h)
/-- whatever order is picked, and S holds as long as k has not come up -/
def TillI (F : Fence) (m : Nat) (P : Program) (md : Region.Mode) (ops : Array Oper) (Q : Exit → Act → World → Prop) (S : World → Prop) (k : Nat) : Nat → Array Bool → Act → World → Prop
  | 0, l, a, w => Region.ready md ops l = [] ∧ Q .normal a w
  | n + 1, l, a, w => (Region.ready md ops l = [] → Q .normal a w) ∧
      ∀ i ∈ Region.ready md ops l, wpOpIn F m P ops Q i (fun a' w' => ((l.setIfInBounds i true).getD k true = false → S w') ∧ TillI F m P md ops Q S k n (l.setIfInBounds i true) a' w') a w
theorem tillI_any {k : Nat} (hq : ∀ e a w, Q e a w → Q' e a w) : ∀ (n : Nat) (l : Array Bool) (a : Act) (w : World), TillI F m P md ops Q S k n l a w → wpAnyIn F m P md ops Q' n l a w
  | 0, _, _, _, h => ⟨h.1, hq _ _ _ h.2⟩
  | n + 1, _, _, _, h => ⟨fun h0 => hq _ _ _ (h.1 h0), fun i hi => wpOpIn_monoQ hq (wpOpIn_mono (fun _ _ h' => tillI_any hq n _ _ _ h'.2) (h.2 i hi))⟩
theorem tillI_of_alw {S' : World → Prop} {k : Nat} : ∀ (n : Nat) (l : Array Bool) (a : Act) (w : World), l.getD k true = true → AlwI F m P md ops Q S' n l a w → TillI F m P md ops Q S k n l a w
  | 0, _, _, _, _, h => h
  | n + 1, l, _, _, hk, h => ⟨h.1, fun i hi => wpOpIn_mono (fun _ _ h' => by
      have hk2 : (l.setIfInBounds i true).getD k true = true := by
        by_cases e : i = k
        · subst e
          rw [Array.getD_eq_getD_getElem?, Array.getElem?_setIfInBounds, if_pos rfl]
          split <;> rfl
        · rw [getD_set_ne true e]
          exact hk
      exact ⟨fun e => (by rw [hk2] at e; cases e), tillI_of_alw n _ _ _ hk2 h'.2⟩) (h.2 i hi)⟩
theorem tillI_first {k i : Nat} {o : Oper} {v : Value} (hro : F.round = none) (hi : ops[i]? = some o) (hsel : ∀ (j : Nat) (o : Oper) cs b, ops[j]? = some o → o.op ≠ .select cs b) (hki : k ≠ i)
    (hk : ∃ ok, ops[k]? = some ok ∧ ∃ e ∈ ok.after, Region.binds md e = true ∧ e.on = i) :
    ∀ (n : Nat) (l : Array Bool) (a : Act) (w : World), l.getD k true = false →
      (∀ j oj, ops[j]? = some oj → j ≠ i → l.getD j true = false → (∀ e ∈ oj.after, Region.binds md e = true → e.on ≠ i) → o.apart ops oj = true) →
      i ∈ Region.ready md ops l → YIn P ops S o v a → S w → (∀ c a w, Q (.panic c) (a.put o.dst v) w → Q (.panic c) a w) →
      TillI F m P md ops Q S k n (l.setIfInBounds i true) (a.put o.dst v) w → TillI F m P md ops Q S k (n + 1) l a w := by
  have hread : ∀ (l : Array Bool) (j : Nat), i ∈ Region.ready md ops l → j ∈ Region.ready md ops l → j ≠ i → ∃ oj, ops[j]? = some oj ∧ l.getD j true = false ∧ j ≠ k ∧ ∀ e ∈ oj.after, Region.binds md e = true → e.on ≠ i := by
    intro l j hr hj hji
    obtain ⟨h0, oj, hoj, hall⟩ := mem_ready.1 hj
    have hun := (mem_ready.1 hr).1
    have hno : ∀ e ∈ oj.after, Region.binds md e = true → e.on ≠ i := by
      intro e he hb heq
      have h2 := hall e he hb
      rw [heq] at h2
      rcases Nat.lt_or_ge i l.size with hlt | hge
      · rw [Array.getD_eq_getD_getElem?, Array.getElem?_eq_getElem hlt] at h2 hun
        simp only [Option.getD_some] at h2 hun
        rw [h2] at hun
        cases hun
      · rw [Array.getD_eq_getD_getElem?, Array.getElem?_eq_none hge] at h2
        cases h2
    refine ⟨oj, hoj, h0, ?_, hno⟩
    rintro rfl
    obtain ⟨ok, hok, e, he, hb, hon⟩ := hk
    rw [hoj] at hok
    injection hok with hok
    subst hok
    exact hno e he hb hon
  intro n
  induction n with
  | zero =>
    intro l a w hkl _ hr hy hS _ H
    refine ⟨fun h => (by rw [h] at hr; cases hr), fun j hj => ?_⟩
    by_cases hji : j = i
    · subst hji
      exact hy.wpOpIn hro hi hS ⟨fun _ => hS, H⟩
    · have := ready_mono hj hji
      rw [H.1] at this
      cases this
  | succ n ih =>
    intro l a w hkl hfree hr hy hS hQ H
    refine ⟨fun h => (by rw [h] at hr; cases hr), fun j hj => ?_⟩
    by_cases hji : j = i
    · subst hji
      exact hy.wpOpIn hro hi hS ⟨fun _ => hS, H⟩
    · obtain ⟨oj, hoj, hjun, hjk, hno⟩ := hread l j hr hj hji
      have h1 := H.2 j (ready_mono hj hji)
      have h2 := wpOpIn_putY hro hoj (hfree j oj hoj hji hjun hno) (fun cs b => hsel i o cs b hi) (fun cs b => hsel j oj cs b hoj) hQ hy h1
      have hk' : (l.setIfInBounds j true).getD k true = false := by rw [getD_set_ne true hjk]; exact hkl
      have hk2 : ((l.setIfInBounds i true).setIfInBounds j true).getD k true = false := by rw [getD_set_ne true hjk, getD_set_ne true (Ne.symm hki)]; exact hkl
      refine wpOpIn_mono (fun a' w' h3 => ⟨fun _ => h3.2.1 hk2, ih (l.setIfInBounds j true) a' w' hk' ?_ (ready_mono hr (Ne.symm hji)) h3.1 (h3.2.1 hk2) hQ ?_⟩) h2
      · intro m2 om hm hmi hun hn
        refine hfree m2 om hm hmi ?_ hn
        by_cases hjm : j = m2
        · subst hjm
          exact hjun
        · rwa [getD_set_ne true hjm] at hun
      · rw [Array.setIfInBounds_comm _ _ hji]
        exact h3.2.2
theorem tillI_take {k i : Nat} {o : Oper} {v : Value} {n : Nat} {l : Array Bool} {a : Act} {w : World} (hro : F.round = none) (hi0 : ops.toList[i]? = some o) (hs : Region.noSelect ops = true)
    (hf : (Region.free md ops l i && (Region.ready md ops l).contains i && Region.waitsFor md ops k i && !(l.getD k true) && decide (k ≠ i)) = true)
    (hQ : ∀ c a w, Q (.panic c) (a.put o.dst v) w → Q (.panic c) a w) (hy : YieldsIf P ops S o v a) (hab : ∀ w, o.about P w a.eval = none) (hS : S w)
    (h : TillI F m P md ops Q S k n (l.setIfInBounds i true) (a.put o.dst v) w) : TillI F m P md ops Q S k (n + 1) l a w := by
  have hi : ops[i]? = some o := by rw [← hi0, Array.getElem?_toList]
  simp only [Bool.and_eq_true, decide_eq_true_eq, Bool.not_eq_true'] at hf
  obtain ⟨⟨⟨⟨h1, h2⟩, h3⟩, h4⟩, h5⟩ := hf
  exact tillI_first hro hi (Region.noSelect_spec hs) h5 (Region.waitsFor_spec h3) n l a w h4 (Region.free_spec hi h1) (by simpa using h2) ⟨hy, hab⟩ hS hQ h
theorem tillI_step {k i : Nat} {o : Oper} {n : Nat} {l : Array Bool} {a : Act} {w : World} (hr : Region.ready md ops l = [i]) (ho0 : ops.toList[i]? = some o) (hw : Region.wanted o (yielded ops a.tmps) = true)
    (h : ∀ K : Act → World → Prop, Shut (∀ a' w', (((l.setIfInBounds i true).getD k true = false → S w') ∧ TillI F m P md ops Q S k n (l.setIfInBounds i true) a' w') → K a' w') → o.wpIn F m P a w K Q) : TillI F m P md ops Q S k (n + 1) l a w := by
  have ho : ops[i]? = some o := by rw [← ho0, Array.getElem?_toList]
  refine ⟨fun h0 => (by rw [h0] at hr; cases hr), fun j hj => ?_⟩
  rw [hr] at hj
  obtain rfl : j = i := by simpa using hj
  unfold wpOpIn
  simp only [ho, hw, if_true]
  exact h _ fun _ _ h' => h'
theorem wpIn_region_till (S : World → Prop) (k : Nat) {id : Nat} {a : Act} {w : World} (hm : P.follows .mixedOrders = true)
    (h : TillI F m P .any ops (NoPanic Q) S k ops.size (Array.replicate ops.size false) a w.drew) : (Code.region id ops true).wpIn F m P Q a w :=
  wpIn_region_any hm (tillI_any NoPanic.imp _ _ _ _ h)
theorem tillI_pureAt {k i : Nat} {o : Oper} {v : Value} (hro : F.round = none) (hi : ops[i]? = some o) (hsel : ∀ (j : Nat) (o : Oper) cs b, ops[j]? = some o → o.op ≠ .select cs b) (hki : k ≠ i) :
    ∀ (n : Nat) (l : Array Bool) (a : Act) (w : World), 
      (∀ j oj, ops[j]? = some oj → j ≠ i → l.getD j true = false → (∀ e ∈ oj.after, Region.binds md e = true → e.on ≠ i) → o.apart ops oj = true) →
      i ∈ Region.ready md ops l → YIn P ops (fun _ => True) o v a → (l.getD k true = false → S w) → (∀ c a w, Q (.panic c) (a.put o.dst v) w → Q (.panic c) a w) →
      TillI F m P md ops Q S k n (l.setIfInBounds i true) (a.put o.dst v) w → TillI F m P md ops Q S k (n + 1) l a w := by
  have hread : ∀ (l : Array Bool) (j : Nat), i ∈ Region.ready md ops l → j ∈ Region.ready md ops l → j ≠ i → ∃ oj, ops[j]? = some oj ∧ l.getD j true = false ∧ ∀ e ∈ oj.after, Region.binds md e = true → e.on ≠ i := by
    intro l j hr hj hji
    obtain ⟨h0, oj, hoj, hall⟩ := mem_ready.1 hj
    have hun := (mem_ready.1 hr).1
    refine ⟨oj, hoj, h0, fun e he hb heq => ?_⟩
    have h2 := hall e he hb
    rw [heq] at h2
    rcases Nat.lt_or_ge i l.size with hlt | hge
    · rw [Array.getD_eq_getD_getElem?, Array.getElem?_eq_getElem hlt] at h2 hun
      simp only [Option.getD_some] at h2 hun
      rw [h2] at hun
      cases hun
    · rw [Array.getD_eq_getD_getElem?, Array.getElem?_eq_none hge] at h2
      cases h2
  intro n
  induction n with
  | zero =>
    intro l a w _ hr hy hS _ H
    refine ⟨fun h => (by rw [h] at hr; cases hr), fun j hj => ?_⟩
    by_cases hji : j = i
    · subst hji
      exact hy.wpOpIn hro hi trivial ⟨fun e => hS (by rwa [getD_set_ne true hki.symm] at e), H⟩
    · have := ready_mono hj hji
      rw [H.1] at this
      cases this
  | succ n ih =>
    intro l a w hfree hr hy hS hQ H
    refine ⟨fun h => (by rw [h] at hr; cases hr), fun j hj => ?_⟩
    by_cases hji : j = i
    · subst hji
      exact hy.wpOpIn hro hi trivial ⟨fun e => hS (by rwa [getD_set_ne true hki.symm] at e), H⟩
    · obtain ⟨oj, hoj, hjun, hno⟩ := hread l j hr hj hji
      have h1 := H.2 j (ready_mono hj hji)
      have h2 := wpOpIn_putY hro (S := fun _ => True) hoj (hfree j oj hoj hji hjun hno) (fun cs b => hsel i o cs b hi) (fun cs b => hsel j oj cs b hoj) hQ hy h1
      refine wpOpIn_mono (fun a' w' h3 => ⟨fun e => ?_, ih (l.setIfInBounds j true) a' w' ?_ (ready_mono hr (Ne.symm hji)) h3.1 (fun e => ?_) hQ ?_⟩) h2
      · exact h3.2.1 (by rw [Array.setIfInBounds_comm _ _ (Ne.symm hji), getD_set_ne true hki.symm]; exact e)
      · intro m2 om hm hmi hun hn
        refine hfree m2 om hm hmi ?_ hn
        by_cases hjm : j = m2
        · subst hjm
          exact hjun
        · rwa [getD_set_ne true hjm] at hun
      · exact h3.2.1 (by rw [Array.setIfInBounds_comm _ _ (Ne.symm hji), getD_set_ne true hki.symm]; exact e)
      · rw [Array.setIfInBounds_comm _ _ hji]
        exact h3.2.2
theorem tillI_pure {k i : Nat} {o : Oper} {v : Value} {n : Nat} {l : Array Bool} {a : Act} {w : World} (hro : F.round = none) (hi0 : ops.toList[i]? = some o) (hs : Region.noSelect ops = true)
    (hf : (Region.free md ops l i && (Region.ready md ops l).contains i && decide (k ≠ i)) = true)
    (hQ : ∀ c a w, Q (.panic c) (a.put o.dst v) w → Q (.panic c) a w) (hy : YieldsIf P ops (fun _ => True) o v a) (hab : ∀ w, o.about P w a.eval = none) (hS : S w)
    (h : TillI F m P md ops Q S k n (l.setIfInBounds i true) (a.put o.dst v) w) : TillI F m P md ops Q S k (n + 1) l a w := by
  have hi : ops[i]? = some o := by rw [← hi0, Array.getElem?_toList]
  simp only [Bool.and_eq_true, decide_eq_true_eq] at hf
  obtain ⟨⟨h1, h2⟩, h5⟩ := hf
  exact tillI_pureAt hro hi (Region.noSelect_spec hs) h5 n l a w (Region.free_spec hi h1) (by simpa using h2) ⟨hy, hab⟩ (fun _ => hS) hQ h
theorem tillI_firstL {k i : Nat} {ms : List Nat} {o : Oper} {v : Value} (hro : F.round = none) (hi : ops[i]? = some o) (hsel : ∀ (j : Nat) (o : Oper) cs b, ops[j]? = some o → o.op ≠ .select cs b) (hki : k ∈ ms) (hni : ∀ m ∈ ms, m ≠ i)
    (hk : ∀ m ∈ ms, ∃ b ∈ i :: ms, ∃ om, ops[m]? = some om ∧ ∃ e ∈ om.after, Region.binds md e = true ∧ e.on = b) :
    ∀ (n : Nat) (l : Array Bool) (a : Act) (w : World), (∀ m ∈ ms, l.getD m true = false) →
      (∀ j oj, ops[j]? = some oj → j ≠ i → l.getD j true = false → (∀ e ∈ oj.after, Region.binds md e = true → e.on ≠ i) → o.apart ops oj = true) →
      i ∈ Region.ready md ops l → YIn P ops S o v a → S w → (∀ c a w, Q (.panic c) (a.put o.dst v) w → Q (.panic c) a w) →
      TillI F m P md ops Q S k n (l.setIfInBounds i true) (a.put o.dst v) w → TillI F m P md ops Q S k (n + 1) l a w := by
  have hread : ∀ (l : Array Bool) (j : Nat), (∀ m ∈ ms, l.getD m true = false) → i ∈ Region.ready md ops l → j ∈ Region.ready md ops l → j ≠ i → ∃ oj, ops[j]? = some oj ∧ l.getD j true = false ∧ (∀ m ∈ ms, j ≠ m) ∧ ∀ e ∈ oj.after, Region.binds md e = true → e.on ≠ i := by
    intro l j hl hr hj hji
    obtain ⟨h0, oj, hoj, hall⟩ := mem_ready.1 hj
    have hun := (mem_ready.1 hr).1
    have hno : ∀ b, l.getD b true = false → ∀ e ∈ oj.after, Region.binds md e = true → e.on ≠ b := by
      intro b hb0 e he hb heq
      have h2 := hall e he hb
      rw [heq] at h2
      rcases Nat.lt_or_ge b l.size with hlt | hge
      · rw [Array.getD_eq_getD_getElem?, Array.getElem?_eq_getElem hlt] at h2 hb0
        simp only [Option.getD_some] at h2 hb0
        rw [h2] at hb0
        cases hb0
      · rw [Array.getD_eq_getD_getElem?, Array.getElem?_eq_none hge] at h2
        cases h2
    refine ⟨oj, hoj, h0, ?_, hno i hun⟩
    rintro m hm rfl
    obtain ⟨b, hb, ok, hok, e, he, hb2, hon⟩ := hk j hm
    rw [hoj] at hok
    injection hok with hok
    subst hok
    refine hno b ?_ e he hb2 hon
    rcases List.mem_cons.1 hb with rfl | hb
    · exact hun
    · exact hl b hb
  intro n
  induction n with
  | zero =>
    intro l a w hkl _ hr hy hS _ H
    refine ⟨fun h => (by rw [h] at hr; cases hr), fun j hj => ?_⟩
    by_cases hji : j = i
    · subst hji
      exact hy.wpOpIn hro hi hS ⟨fun _ => hS, H⟩
    · have := ready_mono hj hji
      rw [H.1] at this
      cases this
  | succ n ih =>
    intro l a w hkl hfree hr hy hS hQ H
    refine ⟨fun h => (by rw [h] at hr; cases hr), fun j hj => ?_⟩
    by_cases hji : j = i
    · subst hji
      exact hy.wpOpIn hro hi hS ⟨fun _ => hS, H⟩
    · obtain ⟨oj, hoj, hjun, hjk, hno⟩ := hread l j hkl hr hj hji
      have h1 := H.2 j (ready_mono hj hji)
      have h2 := wpOpIn_putY hro hoj (hfree j oj hoj hji hjun hno) (fun cs b => hsel i o cs b hi) (fun cs b => hsel j oj cs b hoj) hQ hy h1
      have hk' : ∀ m ∈ ms, (l.setIfInBounds j true).getD m true = false := fun m hm => by rw [getD_set_ne true (hjk m hm)]; exact hkl m hm
      have hk2 : ((l.setIfInBounds i true).setIfInBounds j true).getD k true = false := by rw [getD_set_ne true (hjk k hki), getD_set_ne true (Ne.symm (hni k hki))]; exact hkl k hki
      refine wpOpIn_mono (fun a' w' h3 => ⟨fun _ => h3.2.1 hk2, ih (l.setIfInBounds j true) a' w' hk' ?_ (ready_mono hr (Ne.symm hji)) h3.1 (h3.2.1 hk2) hQ ?_⟩) h2
      · intro m2 om hm hmi hun hn
        refine hfree m2 om hm hmi ?_ hn
        by_cases hjm : j = m2
        · subst hjm
          exact hjun
        · rwa [getD_set_ne true hjm] at hun
      · rw [Array.setIfInBounds_comm _ _ hji]
        exact h3.2.2
theorem tillI_takeL (ms : List Nat) {k i : Nat} {o : Oper} {v : Value} {n : Nat} {l : Array Bool} {a : Act} {w : World} (hro : F.round = none) (hi0 : ops.toList[i]? = some o) (hs : Region.noSelect ops = true)
    (hf : (Region.free md ops l i && (Region.ready md ops l).contains i && ms.contains k && ms.all fun m => !(l.getD m true) && m != i && (i :: ms).any fun b => Region.waitsFor md ops m b) = true)
    (hQ : ∀ c a w, Q (.panic c) (a.put o.dst v) w → Q (.panic c) a w) (hy : YieldsIf P ops S o v a) (hab : ∀ w, o.about P w a.eval = none) (hS : S w)
    (h : TillI F m P md ops Q S k n (l.setIfInBounds i true) (a.put o.dst v) w) : TillI F m P md ops Q S k (n + 1) l a w := by
  have hi : ops[i]? = some o := by rw [← hi0, Array.getElem?_toList]
  simp only [Bool.and_eq_true, List.all_eq_true, Bool.not_eq_true', bne_iff_ne, List.any_eq_true] at hf
  obtain ⟨⟨⟨h1, h2⟩, h3⟩, h4⟩ := hf
  exact tillI_firstL (ms := ms) hro hi (Region.noSelect_spec hs) (by simpa using h3) (fun m hm => (h4 m hm).1.2)
    (fun m hm => by obtain ⟨b, hb, hw⟩ := (h4 m hm).2; exact ⟨b, hb, Region.waitsFor_spec hw⟩) n l a w (fun m hm => (h4 m hm).1.1) (Region.free_spec hi h1) (by simpa using h2) ⟨hy, hab⟩ hS hQ h
end
end Go.Proofs.Ytmlkdkbpbleilaa

namespace Go.Proofs.Ytmlkdkbpbleilaa
open Go.RowKit Go.ChangeShapes Go.WideShapes Go.Deep
set_option linter.unusedVariables false
/-- n rows of k cells each, one behind the other -/
def Rws (w : World) (k : Nat) (A : Option Addr) (n : Nat) (rs : List (List Value)) : Prop :=
  rs.length = n ∧ (∀ r ∈ rs, r.length = k) ∧ n ≤ 140737488355328 ∧ (0 < n → ∃ b off, A = some ⟨b, off, none⟩ ∧ ∀ i r, rs[i]? = some r → ∀ j v, r[j]? = some v → w.cell? ⟨b, off + i * k + j, none⟩ = some v)
theorem rws_nil (w : World) (k : Nat) (A : Option Addr) : Rws w k A 0 [] := ⟨rfl, fun r h => (by cases h), Nat.zero_le _, fun h => absurd h (by decide)⟩
theorem Rws.turn {w w' : World} {k n : Nat} {A : Option Addr} {rs : List (List Value)} {F : Nat → Prop} (h : Rws w k A n rs) (ht : Turn F w w') (hn : ∀ b off s, A = some ⟨b, off, s⟩ → 0 < n → b < w.heap.size → ¬ F b) : Rws w' k A n rs := by
  obtain ⟨h1, h2, h3, h4⟩ := h
  refine ⟨h1, h2, h3, fun hp => ?_⟩
  obtain ⟨b, off, rfl, hc⟩ := h4 hp
  refine ⟨b, off, rfl, fun i r hr j v hv => ?_⟩
  have hcell := hc i r hr j v hv
  have hlt := World.block_lt_of_cell? _ _ hcell
  rw [ht.cell (p := ⟨b, off + i * k + j, none⟩) hlt (hn b off none rfl hp hlt)]
  exact hcell
theorem Rws.still {w w' : World} {k n : Nat} {A : Option Addr} {rs : List (List Value)} (h : Rws w k A n rs) (ht : Turn nowhere w w') : Rws w' k A n rs := h.turn ht fun _ _ _ _ _ _ e => e
theorem Rws.at_ {w : World} {k n : Nat} {A : Option Addr} {rs : List (List Value)} (h : Rws w k A n rs) {i : Nat} {r : List Value} (hr : rs[i]? = some r) : ∃ b off, A = some ⟨b, off, none⟩ ∧ ∀ j v, r[j]? = some v → w.cell? ⟨b, off + i * k + j, none⟩ = some v := by
  obtain ⟨h1, h2, h3, h4⟩ := h
  have hi := (List.getElem?_eq_some_iff.1 hr).1
  obtain ⟨b, off, rfl, hc⟩ := h4 (by omega)
  exact ⟨b, off, rfl, hc i r hr⟩
section
variable {H : Type} {enc : TypeId × Value → H} {P : Program} {w : World} {base : Nat} {spare : Nat → Bool} {held : Bool}
/-- a struct of one-cell fields, whatever their number: each cell with its reading -/
theorem open_flds {e : TypeId} {fs : Array Go.Field} {n : Nat} {cs : List Value} {y : DataW H × List MemPlace} (he : P.underlying e = some (.struct fs)) (hone : oneCellFields P fs = true) (hC : P.cellsOf e = fs.size) (h : DataW.trod enc P w base spare held n e cs = some y) :
    cs.length = fs.size ∧ ∃ m : Nat, ∀ (j : Nat) (f : Go.Field), fs[j]? = some f → ∃ (c : Value) (z : DataW H × List MemPlace), cs[j]? = some c ∧ DataW.trod enc P w base spare held m f.type [c] = some z := by
  obtain ⟨ys, m, _, _, hl, hlen, hf⟩ := DataW.trod_struct he h
  rw [hC] at hl
  refine ⟨hl, m, fun j f hj => ?_⟩
  obtain ⟨ho, hk⟩ := hone_of hone j f hj
  have hjl : j < fs.size := (Array.getElem?_eq_some_iff.1 hj).1
  have h1 := hf j f hj
  rw [ho, hk, List.drop_eq_getElem_cons (by omega)] at h1
  have hy : ys[j]? = some (ys[j]'(by omega)) := List.getElem?_eq_getElem (by omega)
  exact ⟨cs[j]'(by omega), ys[j]'(by omega), List.getElem?_eq_getElem (by omega), by
    have h2 : DataW.trod enc P w base spare held m f.type [cs[j]'(by omega)] = ys[j]? := h1
    rw [h2, hy]⟩
/-- a slice whose elements read as 'en x' -/
theorem open_rws {α : Type} {t e : TypeId} {fuel k by_ : Nat} {v : Value} {x : DataW H × List MemPlace} (ht : P.underlying t = some (.slice e)) (hC : P.cellsOf e = k) (hk : 0 < k) (hby : P.bytesOf e = by_) (hb1 : 1 ≤ by_) (en : α → List Value) (Q : α → Prop) (d0 : α) (hen : ∀ x, (en x).length = k)
    (dec : ∀ n cs y, DataW.trod enc P w base spare held n e cs = some y → ∃ x : α, cs = en x ∧ Q x) (h : DataW.trod enc P w base spare held fuel t [v] = some x) (hw : ∀ q ∈ x.1.weights P t, q ≤ reachBytes) :
    ∃ (A : Option Addr) (n c : Nat) (xs : List α), v = .slice A n c ∧ Rws w k A n (xs.map en) ∧ n ≤ c ∧ (A = none → c = 0) ∧ n * by_ ≤ reachBytes ∧ (∀ x ∈ xs, Q x) ∧ (x.1 = .nil ∧ n = 0 ∨ ∃ D E, x.1 = .slice D E ∧ D.length = n) := by
  rcases open_slice ht h with ⟨h0, hx0⟩ | ⟨a, len, cap, m, n, D, Pl, hcs, hb, hl, hm, hmm, rfl, hi⟩
  · injection h0 with h0
    exact ⟨none, 0, 0, [], h0, rws_nil w k none, Nat.le_refl _, fun _ => rfl, by omega, fun x hx => (by cases hx), .inl ⟨by rw [hx0], rfl⟩⟩
  · injection hcs with hcs
    have hlm : len ≤ m := by rw [hmm]; split <;> omega
    have hb2 : len * by_ ≤ reachBytes := by
      have := hw ((((List.range len).map D).length + ((List.range (m - len)).map fun j => D (len + j)).length) * P.bytesOf e) (by
        unfold DataW.weights
        simp only [ht]
        exact List.mem_cons_self ..)
      rw [hby] at this
      simp only [List.length_map, List.length_range] at this
      have h3 : len * by_ ≤ (len + (m - len)) * by_ := Nat.mul_le_mul_right _ (by omega)
      omega
    have hn : len ≤ 140737488355328 := by
      have h1 := reachBytes_lt
      have h2 : len * 1 ≤ len * by_ := Nat.mul_le_mul_left _ hb1
      omega
    rw [hC] at hi
    have one : ∀ i, ∃ x : α, i < m → w.cells? base (a.add (i * k)) k = some (en x) ∧ Q x := by
      intro i
      by_cases him : i < m
      · obtain ⟨cs, hc, ht'⟩ := hi i him
        obtain ⟨x, rfl, hq⟩ := dec _ _ _ ht'
        exact ⟨x, fun _ => ⟨hc, hq⟩⟩
      · exact ⟨d0, fun h => absurd h him⟩
    obtain ⟨F, hF⟩ := Classical.axiomOfChoice one
    refine ⟨some a, len, cap, (List.range len).map F, hcs, ⟨by simp, fun r hr => ?_, hn, fun hp => ?_⟩, hl, (fun h => by cases h), hb2, fun x hx => ?_, .inr ⟨_, _, rfl, by simp⟩⟩
    · obtain ⟨x, _, rfl⟩ := List.mem_map.1 hr
      exact hen x
    · have hall : ∀ i, i < m → ∀ j v, (en (F i))[j]? = some v → w.cell? (a.add (i * k + j)) = some v := by
        intro i him j v hv
        obtain ⟨_, hcl, hat⟩ := World.cells?_some (hF i him).1
        have hj : j < k := by
          have := (List.getElem?_eq_some_iff.1 hv).1
          rwa [hen] at this
        have := hat j hj
        rw [hv] at this
        rw [← this, Go.Deep.add_add]
      obtain ⟨b, off, spot⟩ := a
      have hv0 : (en (F 0))[0]? = some ((en (F 0))[0]'(by rw [hen]; exact hk)) := List.getElem?_eq_getElem _
      have hc0 := hall 0 (by omega) 0 _ hv0
      have hspot : spot = none := by simpa [Addr.add] using World.cell?_spot hc0
      subst hspot
      refine ⟨b, off, rfl, fun i r hr j v hv => ?_⟩
      have hil : i < len := by
        have := (List.getElem?_eq_some_iff.1 hr).1
        simpa using this
      have hre : r = en (F i) := by
        rw [List.getElem?_map, List.getElem?_map, List.getElem?_range hil] at hr
        exact (Option.some.inj hr).symm
      subst hre
      have := hall i (by omega) j v hv
      rw [add_nat] at this
      rw [Nat.add_assoc]
      exact this
    · obtain ⟨i, hi', rfl⟩ := List.mem_map.1 hx
      exact (hF i (by have := List.mem_range.1 hi'; omega)).2
end
end Go.Proofs.Ytmlkdkbpbleilaa

namespace Go.Proofs.Ytmlkdkbpbleilaa
open Go.RowKit
theorem setCells_blk : ∀ (vs : List Value) (w : World) (g o : Nat) (t : TypeId) (C : Array Value), Blk w g t C →
    ∃ C', Blk (w.setCells g o vs) g t C' ∧ C'.size = C.size ∧ ∀ j, C'[j]? = if o ≤ j ∧ j < o + vs.length ∧ j < C.size then vs[j - o]? else C[j]?
  | [], w, g, o, t, C, h => ⟨C, h, rfl, fun j => by rw [if_neg (by simp; omega)]⟩
  | v :: r, w, g, o, t, C, h => by
    obtain ⟨C', h1, h2, h3⟩ := setCells_blk r (w.setCell ⟨g, o, none⟩ v) g (o + 1) t _ (h.set_ o v)
    refine ⟨C', h1, by rw [h2, Array.size_setIfInBounds], fun j => ?_⟩
    rw [h3, Array.size_setIfInBounds, List.length_cons]
    by_cases e : j = o
    · subst e
      rw [if_neg (by omega), Array.getElem?_setIfInBounds, if_pos rfl]
      by_cases hj : j < C.size
      · rw [if_pos hj, if_pos ⟨by omega, by omega, hj⟩, Nat.sub_self]
        rfl
      · rw [if_neg hj, if_neg (by omega), Array.getElem?_eq_none (by omega)]
    · by_cases c : o + 1 ≤ j ∧ j < o + 1 + r.length ∧ j < C.size
      · rw [if_pos c, if_pos ⟨by omega, by omega, c.2.2⟩, show j - o = (j - (o + 1)) + 1 from by omega, List.getElem?_cons_succ]
      · rw [if_neg c, Array.getElem?_setIfInBounds, if_neg (fun h => e h.symm), if_neg (by omega)]
theorem setCells_turn : ∀ (vs : List Value) (w : World) (g o : Nat), Turn (only g) w (w.setCells g o vs)
  | [], _, _, _ => Turn.refl _ _
  | v :: r, w, g, o => ((Turn.refl _ w).at_ o v).trans (setCells_turn r _ g (o + 1)) fun _ _ h => h
theorem blk_there {w : World} {g : Nat} {t : TypeId} {C : Array Value} (h : Blk w g t C) (o n : Nat) (hn : o + n ≤ C.size) : w.there g o n := fun j hj =>
  ⟨by rw [h.cell, Array.getElem?_eq_getElem (by omega)]; rfl, h.frozen _⟩
/-- a value of as many cells as the block has goes into it -/
theorem run_store_row {P : Program} {w : World} {g : Nat} {t ty : TypeId} {old cells : Array Value} (hb : Blk w g t old) (hs : old.size = cells.size) (hi : (P.info? ty).map (·.size) = some cells.size)
    (h1 : ∀ v ∈ cells.toList, v.oneCell' = true) : ∃ w', (Instr.storeAt ty (.pointer (some ⟨g, 0, none⟩)) (.agg cells)).run P w = .ok () w' ∧ Blk w' g t cells ∧ Turn (only g) w w' := by
  have hr := run_storeAt_mid (P := P) w g 0 ty cells (blk_there hb 0 _ (by omega)) hi (Array.all_eq_true_iff_forall_mem.2 fun v hv => h1 v (by simpa using hv))
  obtain ⟨C', c1, c2, c3⟩ := setCells_blk cells.toList w g 0 t old hb
  have ht := setCells_turn cells.toList w g 0
  generalize w.setCells g 0 cells.toList = w' at *
  refine ⟨w', hr, ?_, ht⟩
  have : C' = cells := by
    apply Array.ext_getElem?
    intro j
    rw [c3]
    by_cases hj : j < cells.size
    · rw [if_pos ⟨by omega, by simpa using hj, by omega⟩]
      simp
    · rw [if_neg (by simp; omega), Array.getElem?_eq_none (by omega), Array.getElem?_eq_none (by omega)]
  exact this ▸ c1
section
variable {P : Program} {ops : Array Oper} {rest : List Oper} {o : Oper} {a : Act} {w : World} {Q : Exit → Act → World → Prop}
theorem wpList_store_row (hgd : Region.wanted o (yielded ops a.tmps) = true) (ty : TypeId) (x y : Operand) (ho : o.op = .store ty x y) {g : Nat} {t : TypeId} {old : Array Value} (cells : Array Value) (hb : Blk w g t old)
    (hx : a.eval x = .pointer (some ⟨g, 0, none⟩)) (hy : a.eval y = .agg cells) (hs : old.size = cells.size) (hi : (P.info? ty).map (·.size) = some cells.size) (h1 : ∀ v ∈ cells.toList, v.oneCell' = true)
    (h : ∀ w', Blk w' g t cells → Turn (only g) w w' → wpList P ops Q rest (a.put o.dst undef) w') : wpList P ops Q (o :: rest) a w :=
  wpList_step fun K hK => by
    rw [if_pos hgd]
    obtain ⟨w', hr, h2, h3⟩ := run_store_row (P := P) hb hs hi h1
    unfold Oper.wp execOp
    simp only [ho, hx, hy, hr, Sem.run_bind, Sem.run_pure, Result.andThen_ok]
    exact hK _ _ (h w' h2 h3)
/-- an operation whose run is known -/
theorem wpList_run (hgd : Region.wanted o (yielded ops a.tmps) = true) {v : Value} {w' : World} (hr : (execOp a.eval o).run P w = .ok (.value v) w') (h : wpList P ops Q rest (a.put o.dst v) w') : wpList P ops Q (o :: rest) a w :=
  wpList_step fun K hK => by
    rw [if_pos hgd]
    unfold Oper.wp
    rw [hr]
    exact hK _ _ h
end
theorem exec_lookup {P : Program} {a : Act} {o : Oper} {t : TypeId} {m x : Operand} {c : Bool} {M k v : Value} {W : World} (ho : o.op = .lookup t m x c) (hm : a.eval m = M) (hx : a.eval x = k) (h : (Instr.lookup t M k c).run P W = .ok v W) :
    (execOp a.eval o).run P W = .ok (.value v) W := by
  unfold execOp
  simp only [ho, hm, hx, h, Sem.run_bind, Sem.run_pure, Result.andThen_ok]
theorem exec_slice {P : Program} {a : Act} {o : Oper} {t : TypeId} {x : Operand} {lo hi mx : Option Operand} {u v : Value} {l h m : Option Value} {W W' : World} (ho : o.op = .slice t x lo hi mx) (hx : a.eval x = u) (hl : lo.map a.eval = l) (hh : hi.map a.eval = h) (hm : mx.map a.eval = m)
    (hr : (Instr.sliceAt t u l h m).run P W = .ok v W') : (execOp a.eval o).run P W = .ok (.value v) W' := by
  unfold execOp
  simp only [ho, hx, hl, hh, hm, hr, Sem.run_bind, Sem.run_pure, Result.andThen_ok]
theorem exec_load {P : Program} {a : Act} {o : Oper} {ty : TypeId} {x : Operand} {p v : Value} {W : World} (ho : o.op = .load ty x) (hx : a.eval x = p) (h : (Instr.loadAt ty p).run P W = .ok v W) : (execOp a.eval o).run P W = .ok (.value v) W := by
  unfold execOp
  simp only [ho, hx, h, Sem.run_bind, Sem.run_pure, Result.andThen_ok]
section
variable {P : Program} {a : Act} {o : Oper} {W : World}
theorem exec_move {x : Operand} {v : Value} (ho : o.op = .move x) (hx : a.eval x = v) : (execOp a.eval o).run P W = .ok (.value v) W := by
  unfold execOp
  simp only [ho, hx, Sem.run_pure]
theorem exec_nil {x : Operand} {p : Addr} (ho : o.op = .nilCheck x) (hx : a.eval x = .pointer (some p)) : (execOp a.eval o).run P W = .ok (.value (.pointer (some p))) W := by
  unfold execOp
  simp only [ho, hx, Sem.run_pure]
/-- where a field lies -/
def fieldOff (P : Program) (s : TypeId) (k : Nat) : Option Nat :=
  match P.underlying s with
  | some (.struct fs) => match fs[k]? with
    | some f => match P.info? f.type with
      | some i => if i.size = 0 then none else some f.offset
      | none => none
    | none => none
  | _ => none
theorem exec_field {s : TypeId} {k d b off : Nat} {x : Operand} (ho : o.op = .fieldAddr s x k) (hx : a.eval x = .pointer (some ⟨b, off, none⟩)) (hf : fieldOff P s k = some d) :
    (execOp a.eval o).run P W = .ok (.value (.pointer (some ⟨b, off + d, none⟩))) W := by
  unfold execOp
  unfold fieldOff at hf
  split at hf
  · rename_i fs hu
    split at hf
    · rename_i f hfs
      split at hf
      · rename_i i hi
        split at hf
        · cases hf
        · rename_i hz
          cases hf
          simp [ho, hx, Instr.fieldAt, run_underlying hu, hfs, Instr.sureAddr, fieldPlace, sizeOf, typeInfo, hi, hz, add_nat, Result.andThen]
      · cases hf
    · cases hf
  · cases hf
/-- a cell that is read -/
def plainB (P : Program) (t : TypeId) : Bool :=
  match P.underlying t with
  | some (.struct _) | some (.array _ _) | none => false
  | _ => true
theorem exec_load1 {ty : TypeId} {x : Operand} {p : Addr} {v : Value} (ho : o.op = .load ty x) (hx : a.eval x = .pointer (some p)) (hp : plainB P ty = true) (hc : W.cell? p = some v) : (execOp a.eval o).run P W = .ok (.value v) W := by
  unfold execOp
  have hagg : (isAgg ty).run P W = .ok false W := by
    unfold isAgg
    unfold plainB at hp
    split at hp
    · cases hp
    · cases hp
    · cases hp
    · rename_i h1 h2 h3
      cases hu : P.underlying ty with
      | none => exact absurd hu h3
      | some d =>
        rw [Sem.run_bind, run_underlying hu W]
        cases d <;> first | rfl | exact absurd hu (h1 _) | exact absurd hu (h2 _ _)
  simp [ho, hx, Instr.loadAt, Instr.sureAddr, loadVar, hagg, hc, Result.andThen]
theorem exec_makeMap {t : TypeId} (ho : o.op = .makeMap t none) : (execOp a.eval o).run P W = .ok (.value (.map (some W.heap.size))) (W.alloc (.map #[] 0)) := by
  unfold execOp
  simp only [ho]
  simp only [Option.map_none, run_makeMap, Sem.run_bind, Sem.run_pure, Result.andThen_ok]
theorem exec_buildSlice1 {t : TypeId} {x : Operand} {u v : Value} {W' : World} (ho : o.op = .buildSlice t 1 #[(0, x)]) (hx : a.eval x = u) (h : (Instr.buildSlice t 1 #[(0, u)]).run P W = .ok v W') : (execOp a.eval o).run P W = .ok (.value v) W' := by
  unfold execOp
  simp only [ho, List.map_toArray, List.map_cons, List.map_nil, hx, h, Sem.run_bind, Sem.run_pure, Result.andThen_ok]
theorem exec_append {t : TypeId} {x y : Operand} {u v r : Value} {W' : World} (ho : o.op = .call { callee := .builtin .append, args := #[x, y], argTypes := #[t, t] }) (hx : a.eval x = u) (hy : a.eval y = v) (hr : (Builtin.append_ #[t, t] o.type #[u, v]).run P W = .ok r W') :
    (execOp a.eval o).run P W = .ok (.value r) W' := by
  unfold execOp
  simp only [ho, resolve, invoke, builtin, Sem.run_bind, Sem.run_pure, Result.andThen_ok, List.map_toArray, List.map_cons, List.map_nil, hx, hy, hr]
end
end Go.Proofs.Ytmlkdkbpbleilaa

namespace Go.Proofs.Ytmlkdkbpbleilaa
open Go.RowKit
theorem splice_at : ∀ (l : List Value) (k off : Nat) (cells : Array Value), ((l.zipIdx k).foldl (fun cs (x : Value × Nat) => cs.setIfInBounds (off + x.2) x.1) cells).size = cells.size ∧
    ∀ j, ((l.zipIdx k).foldl (fun cs (x : Value × Nat) => cs.setIfInBounds (off + x.2) x.1) cells)[j]? = if off + k ≤ j ∧ j < off + k + l.length ∧ j < cells.size then l[j - (off + k)]? else cells[j]?
  | [], k, off, cells => ⟨rfl, fun j => by
      rw [if_neg (by simp; omega)]
      rfl⟩
  | v :: r, k, off, cells => by
    simp only [List.zipIdx_cons, List.foldl_cons]
    obtain ⟨h1, h2⟩ := splice_at r (k + 1) off (cells.setIfInBounds (off + k) v)
    refine ⟨by rw [h1, Array.size_setIfInBounds], fun j => ?_⟩
    rw [h2, Array.size_setIfInBounds, List.length_cons]
    by_cases e : j = off + k
    · subst e
      rw [if_neg (by omega), Array.getElem?_setIfInBounds]
      by_cases hs : off + k < cells.size
      · rw [if_pos rfl, if_pos hs, if_pos ⟨by omega, by omega, hs⟩, Nat.sub_self]
        rfl
      · rw [if_pos rfl, if_neg hs, if_neg (by omega), Array.getElem?_eq_none (by omega)]
    · by_cases c : off + (k + 1) ≤ j ∧ j < off + (k + 1) + r.length ∧ j < cells.size
      · rw [if_pos c, if_pos ⟨by omega, by omega, c.2.2⟩, show j - (off + k) = (j - (off + (k + 1))) + 1 from by omega, List.getElem?_cons_succ]
      · rw [if_neg c, Array.getElem?_setIfInBounds, if_neg (fun h => e h.symm)]
        rw [if_neg (by omega)]
theorem splice_all (vs cells : Array Value) (h : vs.size = cells.size) : vs.zipIdx.foldl (fun cs (x : Value × Nat) => cs.setIfInBounds (0 + x.2) x.1) cells = vs := by
  have hz : vs.zipIdx = (vs.toList.zipIdx 0).toArray := by
    apply Array.ext'
    simp [Array.toList_zipIdx]
  rw [hz, List.foldl_toArray]
  obtain ⟨h1, h2⟩ := splice_at vs.toList 0 0 cells
  apply Array.ext_getElem?
  intro j
  rw [h2]
  by_cases hj : j < vs.size
  · rw [if_pos ⟨by omega, by simpa using hj, by omega⟩]
    simp
  · rw [if_neg (by simp; omega), Array.getElem?_eq_none (by omega), Array.getElem?_eq_none (by omega)]
theorem run_buildSlice_one {P : Program} {t e : TypeId} {i : TypeInfo} {z v : Value} (ht : P.underlying t = some (.slice e)) (hi : P.info? e = some i) (hz : i.zero = some z) (hs : v.cells.size = i.size) (hzs : z.cells.size = i.size)
    (h0 : 0 < i.size) (hsm : i.size ≤ 16777216) (w : World) :
    (Instr.buildSlice t 1 #[(0, v)]).run P w = .ok (.slice (some ⟨w.heap.size, 0, none⟩) 1 1) (w.alloc (.cells v.cells e)) := by
  have hfill : Instr.fill (fun j => some (j * i.size, i.size)) ((Array.range (1 * i.size)).map (z.cells[· % z.cells.size]!)) [(0, v)] = some v.cells := by
    unfold Instr.fill
    simp only [Nat.zero_mul, hs, Nat.one_mul, Array.size_map, Array.size_range, Nat.zero_add]
    rw [if_neg (by simp)]
    unfold Instr.fill
    congr 1
    have := splice_all v.cells (Array.map (fun x => z.cells[x % z.cells.size]!) (Array.range i.size)) (by simp [hs])
    simpa using this
  have g1 : ¬ (16777216 < i.size) := by omega
  have g2 : i.size ≠ 0 := by omega
  simp only [Nat.one_mul] at hfill
  simp [Instr.buildSlice, run_underlying ht, sizeOf, typeInfo, zeroValue, hi, hz, g1, g2, hfill, newRow]
theorem wpList_buildSlice_one {P : Program} {ops : Array Oper} {rest : List Oper} {o : Oper} {a : Act} {w : World} {Q : Exit → Act → World → Prop} (hgd : Region.wanted o (yielded ops a.tmps) = true) (x : Operand) (t : TypeId)
    (ho : o.op = Op.buildSlice t 1 #[(0, x)]) (v : Value) (hx : a.eval x = v) {e : TypeId} {i : TypeInfo} {z : Value} (ht : P.underlying t = some (.slice e)) (hi : P.info? e = some i) (hz : i.zero = some z) (hs : v.cells.size = i.size)
    (hzs : z.cells.size = i.size) (h0 : 0 < i.size) (hsm : i.size ≤ 16777216)
    (h : wpList P ops Q rest (a.put o.dst (.slice (some ⟨w.heap.size, 0, none⟩) 1 1)) (w.alloc (.cells v.cells e))) : wpList P ops Q (o :: rest) a w :=
  wpList_step fun K hK => by
    rw [if_pos hgd]
    unfold Oper.wp execOp
    simp only [ho, List.map_toArray, List.map_cons, List.map_nil, hx, run_buildSlice_one ht hi hz hs hzs h0 hsm w, Sem.run_bind, Sem.run_pure, Result.andThen_ok]
    exact hK _ _ h
end Go.Proofs.Ytmlkdkbpbleilaa

namespace Go.Proofs.Ytmlkdkbpbleilaa
open Go.RowKit Go.ChangeShapes Go.WideShapes Go.Deep
set_option linter.unusedVariables false
set_option linter.unusedSimpArgs false
/-- a slice type and its element: so many cells, so many bytes, its zero value -/
structure Elm (P : Program) (st et : TypeId) (k by_ : Nat) (z : Value) : Prop where
  und : P.underlying st = some (.slice et)
  inf : (P.info? et).map (fun i => (i.zero, i.size, i.bytes)) = some (some z, k, by_)
  zsz : z.cells.size = k
  pos : 0 < k
  byp : 1 ≤ by_
/-- n rows of k cells: all of k cells, each cell one cell -/
def Fit (k : Nat) (rs : List (List Value)) : Prop := ∀ r ∈ rs, r.length = k ∧ ∀ u ∈ r, u.oneCell' = true
theorem Fit.app {k : Nat} {a b : List (List Value)} (h : Fit k a) (g : Fit k b) : Fit k (a ++ b) := fun r hr => by
  rcases List.mem_append.1 hr with hr | hr
  · exact h r hr
  · exact g r hr
theorem Fit.nil (k : Nat) : Fit k [] := fun r h => (by cases h)
theorem Fit.one {k : Nat} {r : List Value} (h : r.length = k) (g : ∀ u ∈ r, u.oneCell' = true) : Fit k [r] := fun x hx => by
  obtain rfl : x = r := by simpa using hx
  exact ⟨h, g⟩
theorem Fit.sub {k : Nat} {a b : List (List Value)} (h : Fit k b) (g : ∀ r ∈ a, r ∈ b) : Fit k a := fun r hr => h r (g r hr)
theorem flat_len {k : Nat} : ∀ {rs : List (List Value)}, Fit k rs → rs.flatten.length = rs.length * k
  | [], _ => by simp
  | r :: rs, h => by
    rw [List.flatten_cons, List.length_append, flat_len (rs := rs) (fun x hx => h x (List.mem_cons_of_mem _ hx)), (h r (List.mem_cons_self ..)).1, List.length_cons, Nat.succ_mul]
    omega
theorem flat_at {k : Nat} : ∀ {rs : List (List Value)} {i j : Nat} {r : List Value}, Fit k rs → rs[i]? = some r → j < k → rs.flatten[i * k + j]? = r[j]?
  | [], i, j, r, _, h, _ => by cases h
  | q :: rs, 0, j, r, h, hr, hj => by
    obtain rfl : q = r := by simpa using hr
    rw [Nat.zero_mul, Nat.zero_add, List.flatten_cons, List.getElem?_append_left (by rw [(h q (List.mem_cons_self ..)).1]; exact hj)]
  | q :: rs, i + 1, j, r, h, hr, hj => by
    have hq := (h q (List.mem_cons_self ..)).1
    rw [List.flatten_cons, show (i + 1) * k + j = q.length + (i * k + j) from by rw [hq, Nat.succ_mul]; omega, List.getElem?_append_right (by omega), Nat.add_sub_cancel_left]
    exact flat_at (fun x hx => h x (List.mem_cons_of_mem _ hx)) (by simpa using hr) hj
theorem flat_one {k : Nat} {rs : List (List Value)} (h : Fit k rs) : ∀ u ∈ rs.flatten, u.oneCell' = true := fun u hu => by
  obtain ⟨r, hr, hu⟩ := List.mem_flatten.1 hu
  exact (h r hr).2 u hu
theorem flat_get {k : Nat} (hk : 0 < k) {rs : List (List Value)} (h : Fit k rs) {j : Nat} {u : Value} (hu : rs.flatten[j]? = some u) : ∃ r, rs[j / k]? = some r ∧ r[j % k]? = some u := by
  have hjl : j < rs.length * k := by
    have := (List.getElem?_eq_some_iff.1 hu).1
    rwa [flat_len h] at this
  have hd : j / k < rs.length := (Nat.div_lt_iff_lt_mul hk).2 hjl
  have hr : rs[j / k]? = some rs[j / k] := List.getElem?_eq_getElem hd
  refine ⟨_, hr, ?_⟩
  have := flat_at (j := j % k) h hr (Nat.mod_lt _ hk)
  rw [show j / k * k + j % k = j from by rw [Nat.mul_comm]; exact Nat.div_add_mod j k] at this
  rw [← this, hu]
/-- a row of the call's own, newer than B -/
def Orw (w : World) (B : Nat) (et : TypeId) (k : Nat) (v : Value) (rs : List (List Value)) : Prop := Fit k rs ∧ w.ownsRow B et k v rs.length rs.flatten
section
variable {w w' : World} {B k : Nat} {et : TypeId} {v : Value} {rs : List (List Value)} {F : Nat → Prop}
theorem Orw.nil (w : World) (B : Nat) (et : TypeId) (k : Nat) : Orw w B et k (.slice none 0 0) [] := ⟨Fit.nil k, World.ownsRow_nil _ _ _ _⟩
theorem Orw.turn (h : Orw w B et k v rs) (ht : Turn F w w') (hF : ∀ b, v.ownBlock = some b → ¬ F b) : Orw w' B et k v rs := by
  refine ⟨h.1, h.2.1, ?_⟩
  rcases h.2.2 with h0 | ⟨g, cap, cur, rfl, hb1, hgg, rest⟩
  · exact .inl h0
  · have hlt : g < w.heap.size := (Array.getElem?_eq_some_iff.1 hgg).1
    exact .inr ⟨g, cap, cur, rfl, hb1, by rw [ht.block g hlt (hF g rfl)]; exact hgg, rest⟩
theorem Orw.still (h : Orw w B et k v rs) (ht : Turn nowhere w w') : Orw w' B et k v rs := h.turn ht fun _ _ e => e
theorem Orw.less {C : Nat} (h : Orw w B et k v rs) (hC : C ≤ B) : Orw w C et k v rs := by
  refine ⟨h.1, h.2.1, ?_⟩
  rcases h.2.2 with h0 | ⟨g, cap, cur, rfl, hb1, rest⟩
  · exact .inl h0
  · exact .inr ⟨g, cap, cur, rfl, Nat.le_trans hC hb1, rest⟩
theorem Orw.form (h : Orw w B et k v rs) : ∃ A c, v = .slice A rs.length c ∧ rs.length ≤ c ∧ c ≤ maxLen ∧ (A = none → c = 0) ∧ (∀ a, A = some a → B ≤ a.block ∧ a.block < w.heap.size) := by
  rcases h.2.2 with ⟨rfl, h0⟩ | ⟨g, cap, cur, rfl, hb1, hg, h1, h2, _⟩
  · exact ⟨none, 0, (by rw [h0]), (by omega), (by unfold maxLen; omega), fun _ => rfl, fun a e => (by cases e)⟩
  · exact ⟨_, _, rfl, h1, h2, fun e => (by cases e), fun a e => (by obtain rfl := Option.some.inj e; exact ⟨hb1, (Array.getElem?_eq_some_iff.1 hg).1⟩)⟩
theorem Orw.lt (h : Orw w B et k v rs) {b : Nat} (hb : v.ownBlock = some b) : B ≤ b ∧ b < w.heap.size := by
  rcases h.2.2 with ⟨rfl, h0⟩ | ⟨g, cap, cur, rfl, hb1, hg, h1, h2, _⟩
  · cases hb
  · obtain rfl : g = b := Option.some.inj hb
    exact ⟨hb1, (Array.getElem?_eq_some_iff.1 hg).1⟩
/-- a block of another sort is not its own -/
theorem Orw.ne {g : Nat} {t : TypeId} {cs : Array Value} (h : Orw w B et k v rs) (hg : Blk w g t cs) (ht : t ≠ et) : ∀ b, v.ownBlock = some b → b ≠ g := by
  intro b hb e
  subst e
  rcases h.2.2 with ⟨rfl, _⟩ | ⟨g', cap, cur, rfl, _, hg', _⟩
  · cases hb
  · obtain rfl : g' = b := Option.some.inj hb
    exact (show Blk w g' et cur from hg').ne_ hg (fun h => ht h.symm) rfl
theorem Orw.rws {A : Option Addr} {n c : Nat} (h : Orw w B et k (.slice A n c) rs) (hn : rs.length ≤ 140737488355328) (hk : 0 < k) : Rws w k A n rs := by
  obtain ⟨A', c', e, _⟩ := h.form
  injection e with e1 e2 e3
  subst e1 e2 e3
  refine ⟨rfl, fun r hr => (h.1 r hr).1, hn, fun hp => ?_⟩
  rcases h.2.2 with ⟨e, h0⟩ | ⟨g, cap, cur, e, hb1, hg, h1, h2, h3, h4⟩
  · omega
  · injection e with e1 e2 e3
    subst e1
    refine ⟨g, 0, rfl, fun i r hr j u hu => ?_⟩
    have hj : j < k := by
      have := (List.getElem?_eq_some_iff.1 hu).1
      rwa [(h.1 r (List.mem_of_getElem? hr)).1] at this
    have hf := flat_at h.1 hr hj
    rw [hu] at hf
    have := World.ownsRow.cells (g := g) h.2 rfl (i * k + j) u hf
    rw [add_nat] at this
    rw [Nat.zero_add] at this ⊢
    exact this
end
section
variable {P : Program} {st et : TypeId} {k by_ : Nat} {z : Value}
/-- append of elements that lie anywhere -/
theorem orw_grow (E : Elm P st et k by_ z) {B : Nat} {w : World} {v : Value} {rs news : List (List Value)} {A : Option Addr} {m c : Nat} {ty : TypeId} (hown : Orw w B et k v rs) (hB : B ≤ w.heap.size) (hb : Rws w k A m news) (hf : Fit k news) (hc : A = none → c = 0) (hlen : (rs.length + m) * by_ ≤ 140737488355328) :
    ∃ A' c' w', (Builtin.append_ #[st, st] ty #[v, .slice A m c]).run P w = .ok (.slice A' (rs.length + m) c') w' ∧ Orw w' B et k (.slice A' (rs.length + m) c') (rs ++ news) ∧ w.grownBy w' v.ownBlock ∧ ((Value.slice A' (rs.length + m) c').ownBlock = v.ownBlock ∨ (Value.slice A' (rs.length + m) c').ownBlock = some w.heap.size) := by
  obtain ⟨h1, _, _, h3⟩ := hb
  obtain ⟨i0, hi0, hz0, hz1, hz2⟩ := info_parts E.inf
  rcases A with _ | A
  · obtain rfl := hc rfl
    have hm0 : m = 0 := by
      rcases Nat.eq_zero_or_pos m with h0 | h0
      · exact h0
      · obtain ⟨_, _, h4, _⟩ := h3 h0; cases h4
    subst hm0
    have hn : news = [] := List.eq_nil_of_length_eq_zero h1
    subst hn
    have hrun := run_append_owned_none (P := P) (w := w) B st ty et i0 k E.und hi0 v _ _ hown.2
    obtain ⟨A', c', rfl, _⟩ := hown.form
    exact ⟨A', c', w, hrun, by rw [List.append_nil]; exact hown, ⟨rfl, rfl, rfl, Nat.le_refl _, fun _ _ _ => rfl⟩, .inl rfl⟩
  · have hk := E.pos
    have hle : (rs.length + m) * 1 ≤ (rs.length + m) * by_ := Nat.mul_le_mul_left _ E.byp
    obtain ⟨v', w', g1, g2, g3, _, g5⟩ := run_append_own_at (P := P) w B st ty et i0 z k by_ E.und hi0 hz0 hz1 hz2 E.zsz E.pos v rs.length _ hown.2 A m c news.flatten (by rw [flat_len hf, h1]) (fun j u hj => by
        obtain ⟨r, hr, hu⟩ := flat_get E.pos hf hj
        have hm : 0 < m := by
          have := (List.getElem?_eq_some_iff.1 hr).1
          rw [h1] at this
          exact Nat.lt_of_le_of_lt (Nat.zero_le _) this
        obtain ⟨b, off, e, hcell⟩ := h3 hm
        obtain rfl := Option.some.inj e
        have := hcell _ r hr _ u hu
        rw [add_nat]
        rwa [Nat.add_assoc, show j / k * k + j % k = j from by rw [Nat.mul_comm]; exact Nat.div_add_mod j k] at this) (flat_one hf) (by unfold maxLen; omega) hlen hB
    have hO : Orw w' B et k v' (rs ++ news) := ⟨hown.1.app hf, by
      rw [List.length_append, h1, List.flatten_append]
      exact g2⟩
    obtain ⟨A', c', rfl, _⟩ := hO.form
    rw [List.length_append, h1] at g1 hO g5
    exact ⟨A', c', w', g1, hO, g3, g5⟩
theorem orw_more (E : Elm P st et k by_ z) {F : Nat → Prop} {W1 w : World} {v : Value} {rs news : List (List Value)} {A : Option Addr} {m c : Nat} {ty : TypeId} (hown : Orw w W1.heap.size et k v rs) (hT : Turn F W1 w) (hb : Rws w k A m news) (hf : Fit k news) (hc : A = none → c = 0) (hlen : (rs.length + m) * by_ ≤ 140737488355328) :
    ∃ A' c' w', (Builtin.append_ #[st, st] ty #[v, .slice A m c]).run P w = .ok (.slice A' (rs.length + m) c') w' ∧ Orw w' W1.heap.size et k (.slice A' (rs.length + m) c') (rs ++ news) ∧ Turn F W1 w' := by
  obtain ⟨A', c', w', h1, h2, h3, _⟩ := orw_grow E (ty := ty) hown hT.size hb hf hc hlen
  exact ⟨A', c', w', h1, h2, hT.grown h3 fun g e hg => by
    have := (hown.lt e).1
    omega⟩
/-- an element in a block of its own: what is built of one -/
theorem build_one (E : Elm P st et k by_ z) (r : List Value) (hr : r.length = k) (h63 : k ≤ 4096) (u : Value) (hu : u.cells = r.toArray) (W : World) : (Instr.buildSlice st 1 #[(0, u)]).run P W = .ok (.slice (some ⟨W.heap.size, 0, none⟩) 1 1) (W.alloc (.cells r.toArray et)) := by
  obtain ⟨i0, hi0, hz0, hz1, hz2⟩ := info_parts E.inf
  have := run_buildSlice_one (P := P) (v := u) E.und hi0 hz0 (by rw [hz1, hu]; simpa using hr) (by rw [hz1]; exact E.zsz) (by rw [hz1]; exact E.pos) (by rw [hz1]; omega) W
  rw [hu] at this
  exact this
theorem rws_one {w : World} {r : List Value} (hr : r.length = k) (hw : Blk w w.heap.size et r.toArray → True) : Rws (w.alloc (.cells r.toArray et)) k (some ⟨w.heap.size, 0, none⟩) 1 [r] := by
  refine ⟨rfl, fun x hx => ?_, by omega, fun _ => ⟨_, _, rfl, fun i x hx j u hu => ?_⟩⟩
  · obtain rfl : x = r := by simpa using hx
    exact hr
  · have hi : i = 0 := by
      have := (List.getElem?_eq_some_iff.1 hx).1
      simpa using this
    subst hi
    obtain rfl : r = x := by simpa using hx
    rw [(Blk.new w et r.toArray).cell, Nat.zero_mul, Nat.zero_add]
    simpa using hu
/-- append of one element -/
theorem orw_add (E : Elm P st et k by_ z) {F : Nat → Prop} {W1 w : World} {v : Value} {rs : List (List Value)} {ty : TypeId} (hown : Orw w W1.heap.size et k v rs) (hT : Turn F W1 w) (r : List Value) (hr : r.length = k) (h1 : ∀ u ∈ r, u.oneCell' = true) (hlen : (rs.length + 1) * by_ ≤ 140737488355328) :
    ∃ A' c' w', (Builtin.append_ #[st, st] ty #[v, .slice (some ⟨w.heap.size, 0, none⟩) 1 1]).run P (w.alloc (.cells r.toArray et)) = .ok (.slice A' (rs.length + 1) c') w' ∧ Orw w' W1.heap.size et k (.slice A' (rs.length + 1) c') (rs ++ [r]) ∧ Turn F W1 w' :=
  orw_more E (c := 1) (hown.still ((Turn.refl nowhere w).alloc (.cells r.toArray et))) (hT.alloc _) (rws_one hr fun _ => trivial) (Fit.one hr h1) (fun h => by cases h) hlen
/-- append(T{}, l...): a copy -/
theorem copy_rws (E : Elm P st et k by_ z) {w : World} {A : Option Addr} {m c : Nat} {rs : List (List Value)} {ty : TypeId} (hb : Rws w k A m rs) (hf : Fit k rs) (hc : A = none → c = 0) (hm : m * by_ ≤ 140737488355328) :
    ∃ A' c' w', (Builtin.append_ #[st, st] ty #[.slice (some ⟨w.heap.size, 0, none⟩) 0 0, .slice A m c]).run P (w.alloc (.cells #[] et)) = .ok (.slice A' m c') w' ∧ Orw w' w.heap.size et k (.slice A' m c') rs ∧ Turn nowhere w w' := by
  have hT := (Turn.refl nowhere w).alloc (.cells #[] et)
  obtain ⟨A', c', w', h1, h2, h3⟩ := orw_more E (ty := ty) (rs := []) (c := c) (W1 := w) (show Orw (w.alloc (.cells #[] et)) w.heap.size et k (.slice (some ⟨w.heap.size, 0, none⟩) 0 0) [] from
    ⟨Fit.nil k, World.ownsRow_made w #[] 0 (Nat.le_refl _) (by unfold maxLen; omega) (by simp)⟩) hT (hb.still hT) hf hc (by simpa using hm)
  have hl : ([] : List (List Value)).length + m = m := by simp
  rw [hl] at h1 h2
  exact ⟨A', c', w', h1, h2, h3⟩
end
end Go.Proofs.Ytmlkdkbpbleilaa

namespace Go.Proofs.Ytmlkdkbpbleilaa
open Go.RowKit
set_option linter.unusedVariables false
set_option linter.unusedSimpArgs false
theorem gx_iaddr {P : Program} {a : Act} {o : Oper} {W : World} {t e : TypeId} {x y : Operand} {b off n c i sz m : Nat} {k : IntKind} (ho : o.op = .indexAddr t x y) (hx : a.eval x = .slice (some ⟨b, off, none⟩) n c) (hy : a.eval y = .int k (i : Int))
    (ht : P.underlying t = some (.slice e)) (hs : (P.info? e).map (·.size) = some sz) (hi : i < n) (hm : off + i * sz = m) : (execOp a.eval o).run P W = .ok (.value (.pointer (some ⟨b, m, none⟩))) W := by
  obtain ⟨j, hj, hjs⟩ := Option.map_eq_some_iff.1 hs
  subst hm
  unfold execOp
  simp [ho, hx, hy, Instr.indexAt, run_underlying ht, asIntOf, sizeOf, typeInfo, hj, hjs, hi, add_nat, Result.andThen]
theorem gx_alloc {P : Program} {a : Act} {o : Oper} {W : World} {t : TypeId} {z : Value} (ho : o.op = .alloc t) (hz : (zeroValue t).run P W = .ok z W) :
    (execOp a.eval o).run P W = .ok (.value (.pointer (some ⟨W.heap.size, 0, none⟩))) (W.alloc (.cells z.cells t)) := by
  unfold execOp
  simp [ho, Instr.alloc, hz, newVar, Result.andThen, newRow]
theorem gx_build4 {P : Program} {a : Act} {o : Oper} {t : TypeId} {x0 x1 x2 x3 : Operand} {u0 u1 u2 u3 r : Value} {W : World} (ho : o.op = .build t #[(0, x0), (1, x1), (2, x2), (3, x3)]) (h0 : a.eval x0 = u0) (h1 : a.eval x1 = u1) (h2 : a.eval x2 = u2) (h3 : a.eval x3 = u3)
    (h : (Instr.build t #[(0, u0), (1, u1), (2, u2), (3, u3)]).run P W = .ok r W) : (execOp a.eval o).run P W = .ok (.value r) W := by
  unfold execOp
  simp only [ho, List.map_toArray, List.map_cons, List.map_nil, h0, h1, h2, h3, h, Sem.run_bind, Sem.run_pure, Result.andThen_ok]
theorem gx_build2 {P : Program} {a : Act} {o : Oper} {t : TypeId} {x0 x1 : Operand} {u0 u1 r : Value} {W : World} (ho : o.op = .build t #[(0, x0), (1, x1)]) (h0 : a.eval x0 = u0) (h1 : a.eval x1 = u1)
    (h : (Instr.build t #[(0, u0), (1, u1)]).run P W = .ok r W) : (execOp a.eval o).run P W = .ok (.value r) W := by
  unfold execOp
  simp only [ho, List.map_toArray, List.map_cons, List.map_nil, h0, h1, h, Sem.run_bind, Sem.run_pure, Result.andThen_ok]
theorem gx_assign {P : Program} {a : Act} {o : Oper} {W : World} {x : Operand} {v : Value} (ho : o.op = .assign x) (hx : a.eval x = v) : (execOp a.eval o).run P W = .ok (.value v) W := by
  unfold execOp
  simp only [ho, hx, Sem.run_pure]
theorem gx_make {P : Program} {a : Act} {o : Oper} {t : TypeId} {x y : Operand} {u u' v : Value} {W W' : World} (ho : o.op = .makeSlice t x y) (hx : a.eval x = u) (hy : a.eval y = u') (h : (Instr.makeSlice t u u').run P W = .ok v W') : (execOp a.eval o).run P W = .ok (.value v) W' := by
  unfold execOp
  simp only [ho, hx, hy, h, Sem.run_bind, Sem.run_pure, Result.andThen_ok]
theorem gx_len {P : Program} {a : Act} {o : Oper} {W : World} {x : Operand} {t : TypeId} {e : TypeId} {A : Option Addr} {n c : Nat} (ho : o.op = .call { callee := .builtin .len, args := #[x], argTypes := #[t] }) (hx : a.eval x = .slice A n c) (ht : P.underlying t = some (.slice e)) : (execOp a.eval o).run P W = .ok (.value (.int .i64 (n : Int))) W := by
  unfold execOp
  simp [ho, hx, resolve, invoke, builtin, Builtin.len_, run_underlying ht, Result.andThen]
  rfl
/-- a value of several cells goes into the middle of a block -/
theorem wpList_store_mid {P : Program} {ops : Array Oper} {rest : List Oper} {o : Oper} {a : Act} {w : World} {Q : Exit → Act → World → Prop} (hgd : Region.wanted o (yielded ops a.tmps) = true) (ty : TypeId) (x y : Operand) (ho : o.op = .store ty x y) {g off : Nat} {t : TypeId} {old : Array Value} (cells : Array Value) (hb : Blk w g t old)
    (hx : a.eval x = .pointer (some ⟨g, off, none⟩)) (hy : a.eval y = .agg cells) (hs : off + cells.size ≤ old.size) (hi : (P.info? ty).map (·.size) = some cells.size) (h1 : ∀ v ∈ cells.toList, v.oneCell' = true)
    (h : ∀ w' C', Blk w' g t C' → C'.size = old.size → (∀ j, C'[j]? = if off ≤ j ∧ j < off + cells.size then cells[j - off]? else old[j]?) → Turn (only g) w w' → wpList P ops Q rest (a.put o.dst undef) w') : wpList P ops Q (o :: rest) a w :=
  wpList_step fun K hK => by
    rw [if_pos hgd]
    have hr := run_storeAt_mid (P := P) w g off ty cells (blk_there hb off _ hs) hi (Array.all_eq_true_iff_forall_mem.2 fun v hv => h1 v (by simpa using hv))
    obtain ⟨C', c1, c2, c3⟩ := setCells_blk cells.toList w g off t old hb
    have ht := setCells_turn cells.toList w g off
    generalize w.setCells g off cells.toList = w' at *
    unfold Oper.wp execOp
    simp only [ho, hx, hy, hr, Sem.run_bind, Sem.run_pure, Result.andThen_ok]
    refine hK _ _ (h w' C' c1 c2 (fun j => ?_) ht)
    rw [c3]
    have hl : cells.toList.length = cells.size := by simp
    rw [hl]
    by_cases hj : off ≤ j ∧ j < off + cells.size
    · rw [if_pos hj, if_pos ⟨hj.1, hj.2, by omega⟩, Array.getElem?_toList]
    · rw [if_neg hj, if_neg (by omega)]
/-- a value of one cell goes into a block -/
theorem wpList_store1 {P : Program} {ops : Array Oper} {rest : List Oper} {o : Oper} {a : Act} {w : World} {Q : Exit → Act → World → Prop} (hgd : Region.wanted o (yielded ops a.tmps) = true) (ty : TypeId) (x y : Operand) (ho : o.op = .store ty x y) {g i : Nat} {t : TypeId} {old : Array Value} {v : Value} (hb : Blk w g t old)
    (hx : a.eval x = .pointer (some ⟨g, i, none⟩)) (hy : a.eval y = v) (hi : i < old.size) (hv : v.cells = #[v]) (h1 : v.oneCell' = true) (hsz : (P.info? ty).map (·.size) = some 1)
    (h : Blk (w.setCell ⟨g, i, none⟩ v) g t (old.setIfInBounds i v) → Turn (only g) w (w.setCell ⟨g, i, none⟩ v) → wpList P ops Q rest (a.put o.dst undef) (w.setCell ⟨g, i, none⟩ v)) : wpList P ops Q (o :: rest) a w :=
  wpList_step fun K hK => by
    rw [if_pos hgd]
    obtain ⟨j, hj, hjs⟩ := Option.map_eq_some_iff.1 hsz
    have hc : w.cell? ⟨g, i, none⟩ = some (old[i]) := by rw [hb.cell i, Array.getElem?_eq_getElem hi]
    have hf : w.frozen? ⟨g, i, none⟩ = false := hb.frozen i
    have hst : (Instr.storeAt ty (.pointer (some ⟨g, i, none⟩)) v).run P w = .ok () (w.setCell ⟨g, i, none⟩ v) := by
      have h0 : (⟨g, i, none⟩ : Addr).add 0 = ⟨g, i, none⟩ := by simp [Addr.add]
      simp [Instr.storeAt, storeVar, hv, Instr.sureAddr, sizeOf, typeInfo, hj, hjs, Result.andThen, storeCells, run_store _ _ _ _ _ h1, stored, h0, hc, hf]
    unfold Oper.wp execOp
    simp only [ho, hx, hy, hst, Sem.run_bind, Sem.run_pure, Result.andThen_ok]
    exact hK _ _ (h (hb.set_ i v) ((Turn.refl _ w).at_ i v))
end Go.Proofs.Ytmlkdkbpbleilaa

namespace Go.Proofs.Ytmlkdkbpbleilaa
open Go.RowKit
set_option linter.unusedVariables false
set_option linter.unusedSimpArgs false
section
variable {α : Type}
theorem sg_take (l cs : List α) (o : Nat) (h : o + cs.length ≤ l.length) : (l.take o ++ cs ++ l.drop (o + cs.length)).take (o + cs.length) = l.take o ++ cs := by
  rw [List.take_append_of_le_length (by rw [List.length_append, List.length_take]; omega)]
  exact List.take_of_length_le (by rw [List.length_append, List.length_take]; omega)
theorem sg_len (l cs : List α) (o : Nat) (h : o + cs.length ≤ l.length) : (l.take o ++ cs ++ l.drop (o + cs.length)).length = l.length := by
  rw [List.length_append, List.length_append, List.length_take, List.length_drop]
  omega
end
section
variable {P : Program} {st et : TypeId} {k by_ : Nat} {z : Value}
theorem Elm.size (E : Elm P st et k by_ z) : ∃ i, P.info? et = some i ∧ i.size = k := by
  obtain ⟨i0, hi0, _, hz1, _⟩ := info_parts E.inf
  exact ⟨i0, hi0, hz1⟩
theorem Elm.sizeM (E : Elm P st et k by_ z) : (P.info? et).map (·.size) = some k := by
  obtain ⟨i, h1, h2⟩ := E.size
  rw [h1, ← h2]
  rfl
/-- s[:e] -/
theorem sl_to (E : Elm P st et k by_ z) (A : Option Addr) (n c e : Nat) (hc : e ≤ c) (W : World) : (Instr.sliceAt st (.slice A n c) none (some (.int .i64 (e : Int))) none).run P W = .ok (.slice A e c) W := by
  obtain ⟨i, hi1, hi2⟩ := E.size
  have b1 : (0 : Int) ≤ (e : Int) ∧ (e : Int) ≤ (c : Int) := ⟨by omega, by omega⟩
  simp [Instr.sliceAt, Instr.slice, Instr.sliceBounds, Instr.sliceBound, asIntOf, run_underlying E.und, sizeOf, typeInfo, hi1, b1]
  rw [if_pos (show e ≤ c by omega)]
  cases A <;> simp [Addr.add]
def fromK (k : Nat) (A : Option Addr) (c d : Nat) : Option Addr := if c = d then A else A.map (·.add (d * k))
/-- s[d:] -/
theorem sl_from (E : Elm P st et k by_ z) (A : Option Addr) (n c d : Nat) (h0 : d ≤ n) (hc : n ≤ c) (W : World) : (Instr.sliceAt st (.slice A n c) (some (.int .i64 (d : Int))) none none).run P W = .ok (.slice (fromK k A c d) (n - d) (c - d)) W := by
  obtain ⟨i, hi1, hi2⟩ := E.size
  have b1 : (0 : Int) ≤ (d : Int) ∧ (d : Int) ≤ (n : Int) := ⟨by omega, by omega⟩
  simp [Instr.sliceAt, Instr.slice, Instr.sliceBounds, Instr.sliceBound, asIntOf, run_underlying E.und, sizeOf, typeInfo, hi1, hi2, b1, fromK]
  intro h
  omega
theorem fromK_at {g o c d : Nat} (h : d < c) : fromK k (some ⟨g, o, none⟩) c d = some ⟨g, o + d * k, none⟩ := by
  unfold fromK
  rw [if_neg (by omega)]
  show some ((⟨g, o, none⟩ : Addr).add (d * k)) = _
  rw [add_nat]
theorem rws_to {w : World} {A : Option Addr} {n e : Nat} {rs : List (List Value)} (h : Rws w k A n rs) (he : e ≤ n) : Rws w k A e (rs.take e) := by
  obtain ⟨h1, h2, h3, h4⟩ := h
  refine ⟨by rw [List.length_take]; omega, fun r hr => h2 r (List.mem_of_mem_take hr), by omega, fun hp => ?_⟩
  obtain ⟨b, off, e1, hc⟩ := h4 (by omega)
  refine ⟨b, off, e1, fun i r hr j v hv => hc i r ?_ j v hv⟩
  rw [List.getElem?_take] at hr
  split at hr
  · exact hr
  · cases hr
theorem rws_from {w : World} {A : Option Addr} {n c d : Nat} {rs : List (List Value)} (h : Rws w k A n rs) (hd : d ≤ n) (hc : n ≤ c) : Rws w k (fromK k A c d) (n - d) (rs.drop d) := by
  obtain ⟨h1, h2, h3, h4⟩ := h
  refine ⟨by rw [List.length_drop]; omega, fun r hr => h2 r (List.mem_of_mem_drop hr), by omega, fun hp => ?_⟩
  obtain ⟨b, off, rfl, hcell⟩ := h4 (by omega)
  rw [fromK_at (by omega)]
  refine ⟨_, _, rfl, fun i r hr j v hv => ?_⟩
  rw [List.getElem?_drop] at hr
  have := hcell (d + i) r hr j v hv
  rw [show off + d * k + i * k + j = off + (d + i) * k + j from by rw [Nat.add_mul]; omega]
  exact this
/-- an element's address -/
theorem el_addr (E : Elm P st et k by_ z) {a : Act} {o : Oper} {W : World} {x y : Operand} {b off n c i : Nat} {kd : IntKind} (ho : o.op = .indexAddr st x y) (hx : a.eval x = .slice (some ⟨b, off, none⟩) n c) (hy : a.eval y = .int kd (i : Int)) (hi : i < n) :
    (execOp a.eval o).run P W = .ok (.value (.pointer (some ⟨b, off + i * k, none⟩))) W := gx_iaddr ho hx hy E.und E.sizeM hi rfl
/-- a copy into the middle of a block -/
theorem run_copyK (E : Elm P st et k by_ z) {w : World} {ty : TypeId} {g o dLen dCap sLen sCap : Nat} {a : Addr} {cur : Array Value} {cs : List Value} (hg : Blk w g et cur) (hn : cs.length = Nat.min sLen dLen * k)
    (hsrc : ∀ j v, cs[j]? = some v → w.cell? (a.add j) = some v) (hfit : o + cs.length ≤ cur.size) (h1 : ∀ v ∈ cs, v.oneCell' = true) :
    (Builtin.copy_ #[st, st] ty #[.slice (some ⟨g, o, none⟩) dLen dCap, .slice (some a) sLen sCap]).run P w = .ok (goInt (Nat.min sLen dLen)) (w.setRow g (cur.toList.take o ++ cs ++ cur.toList.drop (o + cs.length)).toArray) := by
  obtain ⟨i0, hi0, hz0, hz1, hz2⟩ := info_parts E.inf
  have hl := run_loadCells_list (P := P) w a cs hsrc
  have hst := run_storeCells_at (P := P) g o et cs 0 cur w hg (by simpa using hfit) h1
  rw [hn] at hl
  simp [Builtin.copy_, run_underlying E.und, Builtin.lenOf, Builtin.firstCells, sizeOf, typeInfo, hi0, hz1, hl, hst]
end
end Go.Proofs.Ytmlkdkbpbleilaa

namespace Go.Proofs.Ytmlkdkbpbleilaa
open Go.RowKit
set_option linter.unusedVariables false
set_option linter.unusedSimpArgs false
theorem flat_take {k : Nat} : ∀ {rs : List (List Value)} (i : Nat), Fit k rs → i ≤ rs.length → rs.flatten.take (i * k) = (rs.take i).flatten
  | rs, 0, _, _ => by simp
  | [], i + 1, _, h => by simp at h
  | r :: rs, i + 1, hf, h => by
    have hr := (hf r (List.mem_cons_self ..)).1
    rw [List.flatten_cons, Nat.succ_mul, List.take_succ_cons, List.flatten_cons, show i * k + k = r.length + i * k from by rw [hr, Nat.add_comm], List.take_length_add_append, flat_take i (fun x hx => hf x (List.mem_cons_of_mem _ hx)) (by simpa using h)]
theorem flat_drop {k : Nat} : ∀ {rs : List (List Value)} (i : Nat), Fit k rs → i ≤ rs.length → rs.flatten.drop (i * k) = (rs.drop i).flatten
  | rs, 0, _, _ => by simp
  | [], i + 1, _, h => by simp at h
  | r :: rs, i + 1, hf, h => by
    have hr := (hf r (List.mem_cons_self ..)).1
    rw [List.flatten_cons, Nat.succ_mul, List.drop_succ_cons, show i * k + k = r.length + i * k from by rw [hr, Nat.add_comm], List.drop_length_add_append, flat_drop i (fun x hx => hf x (List.mem_cons_of_mem _ hx)) (by simpa using h)]
theorem setRow_turn' (w : World) (g : Nat) (cs : Array Value) : Turn (only g) w (w.setRow g cs) := ⟨rfl, rfl, rfl, by simp, fun k _ hk => setRow_other w g k cs hk⟩
theorem orw_block {w : World} {B k b n c : Nat} {et : TypeId} {rs : List (List Value)} (h : Orw w B et k (.slice (some ⟨b, 0, none⟩) n c) rs) : ∃ cur, Blk w b et cur ∧ cur.size = c * k ∧ cur.toList.take (n * k) = rs.flatten ∧ rs.length = n ∧ n ≤ c ∧ c ≤ maxLen ∧ B ≤ b := by
  rcases h.2.2 with ⟨e, _⟩ | ⟨g', cap, cur, e, hb, hg', h1, h2, h3, h4⟩
  · cases e
  · injection e with e1 e2 e3
    injection e1 with e1
    injection e1 with e1 _ _
    subst e1 e2 e3
    exact ⟨cur, hg', h3, h4, rfl, h1, h2, hb⟩
/-- a row made anew out of a block that is known whole -/
theorem orw_of {w : World} {B k b n c : Nat} {et : TypeId} {rs : List (List Value)} {cur : Array Value} (hb : Blk w b et cur) (hB : B ≤ b) (hf : Fit k rs) (hn : rs.length = n) (hnc : n ≤ c) (hc : c ≤ maxLen) (hs : cur.size = c * k) (ht : cur.toList.take (n * k) = rs.flatten) : Orw w B et k (.slice (some ⟨b, 0, none⟩) n c) rs := by
  subst hn
  exact ⟨hf, by rw [flat_len hf], .inr ⟨b, c, cur, rfl, hB, hb, hnc, hc, hs, ht⟩⟩
section
variable {α : Type}
/-- first what stands behind is moved on, then the new one copied into its place -/
theorem sg_ins (l x d : List α) (a : Nat) (h : a + x.length + d.length ≤ l.length) :
    let l1 := l.take (a + x.length) ++ d ++ l.drop (a + x.length + d.length)
    (l1.take a ++ x ++ l1.drop (a + x.length)).take (a + x.length + d.length) = l.take a ++ x ++ d := by
  intro l1
  have h1 : l1.drop (a + x.length) = d ++ l.drop (a + x.length + d.length) := by
    show (l.take (a + x.length) ++ d ++ _).drop _ = _
    rw [List.append_assoc]
    exact List.drop_left' (by rw [List.length_take]; omega)
  have h2 : l1.take a = l.take a := by
    show (l.take (a + x.length) ++ d ++ _).take _ = _
    rw [List.append_assoc, List.take_append_of_le_length (by rw [List.length_take]; omega), List.take_take, Nat.min_eq_left (by omega)]
  rw [h1, h2, ← List.append_assoc, List.take_append_of_le_length (by simp only [List.length_append, List.length_take]; omega)]
  exact List.take_of_length_le (by simp only [List.length_append, List.length_take]; omega)
end
theorem sg_two {α : Type} (l x d : List α) (a : Nat) (h : a + x.length + d.length ≤ l.length) :
    let l1 := l.take a ++ x ++ l.drop (a + x.length)
    (l1.take (a + x.length) ++ d ++ l1.drop (a + x.length + d.length)).take (a + x.length + d.length) = l.take a ++ x ++ d := by
  intro l1
  have hl : l1.length = l.length := sg_len l x a (by omega)
  rw [sg_take l1 d (a + x.length) (by omega), sg_take l x a (by omega)]
section
variable {P : Program} {st et : TypeId} {k by_ : Nat} {z : Value}
/-- there is room: what stands behind is moved on by one, then the element is copied into its place -/
theorem insK_room (E : Elm P st et k by_ z) {ty : TypeId} {w : World} {b n c i g : Nat} {rs : List (List Value)} {x : List Value} (hown : Orw w 0 et k (.slice (some ⟨b, 0, none⟩) n c) rs) (hi : i < n) (hx : Blk w g et x.toArray) (hxk : x.length = k) (hx1 : ∀ u ∈ x, u.oneCell' = true) (hg : b ≠ g) (hroom : n + 1 ≤ c) (tb : TypeId) :
    (∀ lb cb, (Extern.SlicesOverlaps.overlaps #[st, st] #[tb] #[.slice (some ⟨g, 0, none⟩) 1 1, .slice (some ⟨b, (i + 1) * k, none⟩) lb cb]).run P w = .ok (.bool false) w) ∧
    ∃ w3, (Builtin.copy_ #[st, st] ty #[.slice (some ⟨b, (i + 1) * k, none⟩) (n + 1 - (i + 1)) (c - (i + 1)), .slice (some ⟨b, i * k, none⟩) (n + 1 - i) (c - i)]).run P w.drew = .ok (goInt (Nat.min (n + 1 - i) (n + 1 - (i + 1)))) w3 ∧
      ∃ w4, (Builtin.copy_ #[st, st] ty #[.slice (some ⟨b, i * k, none⟩) (n + 1 - i) (c - i), .slice (some ⟨g, 0, none⟩) 1 1]).run P w3 = .ok (goInt (Nat.min 1 (n + 1 - i))) w4 ∧
        Orw w4 0 et k (.slice (some ⟨b, 0, none⟩) (n + 1) c) (rs.take i ++ x :: rs.drop i) ∧ Turn (only b) w w4 := by
  obtain ⟨cur, hcur, hcs, htake, hn, hnc, hcm, _⟩ := orw_block hown
  have hf := hown.1
  have hk := E.pos
  have e1 : (i + 1) * k = i * k + k := Nat.succ_mul i k
  have e2 : (n + 1) * k = n * k + k := Nat.succ_mul n k
  have e3 : (n - i) * k = n * k - i * k := Nat.sub_mul n i k
  have m1 : i * k + k ≤ n * k := by rw [← e1]; exact Nat.mul_le_mul_right k (by omega)
  have m2 : n * k + k ≤ c * k := by rw [← e2]; exact Nat.mul_le_mul_right k hroom
  have hcells : ∀ j u, rs.flatten[j]? = some u → w.cell? ⟨b, j, none⟩ = some u := fun j u h => by
    have := World.ownsRow.cells (g := b) hown.2 rfl j u h
    rwa [add_nat, Nat.zero_add] at this
  have hfd : Fit k (rs.drop i) := hf.sub fun r hr => List.mem_of_mem_drop hr
  have hdk : (rs.drop i).flatten.length = n * k - i * k := by rw [flat_len hfd, List.length_drop, hn, e3]
  have hdd := flat_drop i hf (by omega)
  have hc3 := run_copyK E (w := w.drew) (ty := ty) (g := b) (o := (i + 1) * k) (dLen := n + 1 - (i + 1)) (dCap := c - (i + 1)) (sLen := n + 1 - i) (sCap := c - i) (a := ⟨b, i * k, none⟩) (cs := (rs.drop i).flatten) hcur.drew (by
      rw [hdk, ← e3]
      congr 1
      simp only [Nat.min_def]
      split <;> omega) (fun j u h => by
      rw [add_nat]
      rw [← hdd, List.getElem?_drop] at h
      exact hcells _ _ h) (by rw [hdk, hcs, e1]; omega) (flat_one hfd)
  have hB3 : Blk (w.drew.setRow b (cur.toList.take ((i + 1) * k) ++ (rs.drop i).flatten ++ cur.toList.drop ((i + 1) * k + (rs.drop i).flatten.length)).toArray) b et _ := setRow_heap w.drew b _ _ _ _ hcur.drew
  have hT3 : Turn (only b) w (w.drew.setRow b (cur.toList.take ((i + 1) * k) ++ (rs.drop i).flatten ++ cur.toList.drop ((i + 1) * k + (rs.drop i).flatten.length)).toArray) := (Turn.refl (only b) w).drew.trans (setRow_turn' w.drew b _) fun _ _ e => e
  generalize w.drew.setRow b (cur.toList.take ((i + 1) * k) ++ (rs.drop i).flatten ++ cur.toList.drop ((i + 1) * k + (rs.drop i).flatten.length)).toArray = w3 at *
  have hls : (cur.toList.take ((i + 1) * k) ++ (rs.drop i).flatten ++ cur.toList.drop ((i + 1) * k + (rs.drop i).flatten.length)).length = c * k := by
    rw [sg_len _ _ _ (by rw [hdk, Array.length_toList, hcs, e1]; omega), Array.length_toList, hcs]
  have hx3 := hx.turn hT3 (fun e => hg (by have e : g = b := e; exact e.symm))
  have hc4 := run_copyK E (w := w3) (ty := ty) (g := b) (o := i * k) (dLen := n + 1 - i) (dCap := c - i) (sLen := 1) (sCap := 1) (a := ⟨g, 0, none⟩) (cs := x) hB3 (by
      rw [hxk, show Nat.min 1 (n + 1 - i) = 1 from by simp only [Nat.min_def]; split <;> omega, Nat.one_mul]) (fun j u h => by
      rw [add_nat, Nat.zero_add, hx3.cell]
      simpa using h) (by rw [hxk, List.size_toArray, hls]; omega) hx1
  have hL : (rs.take i ++ x :: rs.drop i).length = n + 1 := by
    rw [List.length_append, List.length_cons, List.length_take, List.length_drop, hn]
    omega
  refine ⟨fun lb cb => ?_, w3, hc3, _, hc4, ?_, hT3.trans (setRow_turn' w3 b _) fun _ _ e => e⟩
  · obtain ⟨i0, hi0, hz1⟩ := E.size
    exact Lib.run_overlaps_apart w st tb et E.und k (fun W => by simp [sizeOf, typeInfo, hi0, hz1]) ⟨g, 0, none⟩ ⟨b, (i + 1) * k, none⟩ 1 1 lb cb (fun e => hg e.symm) et et k (c * k)
      (by
        have h : w.heap[g]? = some (.cells x.toArray et (0, 0)) := hx
        simp [World.shape?, h, hxk])
      (by
        have h : w.heap[b]? = some (.cells cur et (0, 0)) := hcur
        simp [World.shape?, h, hcs]) (by omega) (hx.frozen 0) (hx.frozen k)
  · refine orw_of (setRow_heap w3 b _ _ _ _ hB3) (Nat.zero_le _) ?_ hL hroom hcm ?_ ?_
    · exact (hf.sub fun r hr => List.mem_of_mem_take hr).app (fun r hr => by
        rcases List.mem_cons.1 hr with rfl | hr
        · exact ⟨hxk, hx1⟩
        · exact hfd r hr)
    · rw [List.size_toArray, List.toList_toArray, sg_len _ _ _ (by rw [hls, hxk]; omega), hls]
    · have h := sg_ins cur.toList x (rs.drop i).flatten (i * k) (by rw [hxk, hdk, Array.length_toList, hcs]; omega)
      simp only at h
      rw [hxk, ← e1, hdk] at h
      rw [show (n + 1) * k = (i + 1) * k + (n * k - i * k) from by rw [e1, e2]; omega, List.toList_toArray, List.toList_toArray, hdk, hxk]
      have hti : cur.toList.take (i * k) = (rs.take i).flatten := by
        rw [← flat_take i hf (by omega), ← htake, List.take_take, Nat.min_eq_left (by omega)]
      rw [← e1, h, hti, List.flatten_append, List.flatten_cons, List.append_assoc]
/-- no room: a new row is made, the element and what stands behind it are copied into it -/
theorem insK_grow (E : Elm P st et k by_ z) {ty tn : TypeId} (htn : P.underlying tn = some (.int .i64)) {w : World} {A : Option Addr} {n c i g : Nat} {rs : List (List Value)} {x : List Value} (hown : Orw w 0 et k (.slice A n c) rs) (hi : i < n) (hx : Blk w g et x.toArray) (hxk : x.length = k) (hx1 : ∀ u ∈ x, u.oneCell' = true) (hroom : c < n + 1) (hsz : (n + 1) * by_ ≤ 140737488355328) :
    ∃ b, A = some ⟨b, 0, none⟩ ∧ ∃ g2 c2 w2, w.heap.size ≤ g2 ∧ (Builtin.append_ #[st, tn] st #[.slice A i c, .int .i64 ((n + 1 - i : Nat) : Int)]).run P w = .ok (.slice (some ⟨g2, 0, none⟩) (n + 1) c2) w2 ∧ n + 1 ≤ c2 ∧ c2 ≤ maxLen ∧
      ∃ w3, (Builtin.copy_ #[st, st] ty #[.slice (some ⟨g2, i * k, none⟩) (n + 1 - i) (c2 - i), .slice (some ⟨g, 0, none⟩) 1 1]).run P w2 = .ok (goInt (Nat.min 1 (n + 1 - i))) w3 ∧
        ∃ w4, (Builtin.copy_ #[st, st] ty #[.slice (some ⟨g2, (i + 1) * k, none⟩) (n + 1 - (i + 1)) (c2 - (i + 1)), .slice (some ⟨b, i * k, none⟩) (n - i) (c - i)]).run P w3.drew = .ok (goInt (Nat.min (n - i) (n + 1 - (i + 1)))) w4 ∧
          Orw w4 0 et k (.slice (some ⟨g2, 0, none⟩) (n + 1) c2) (rs.take i ++ x :: rs.drop i) ∧ Turn nowhere w w4 := by
  obtain ⟨i0, hi0, hz0, hz1, hz2⟩ := info_parts E.inf
  have hf := hown.1
  have hkp := E.pos
  obtain ⟨b, rfl⟩ : ∃ b, A = some ⟨b, 0, none⟩ := by
    rcases hown.2.2 with ⟨e, h0⟩ | ⟨g', cap, cur, e, _⟩
    · injection e with e1 e2 e3
      omega
    · injection e with e1 e2 e3
      exact ⟨g', e1⟩
  refine ⟨b, rfl, ?_⟩
  obtain ⟨cur0, hcur0, _, _, hn, hnc, _, _⟩ := orw_block hown
  have e1 : (i + 1) * k = i * k + k := Nat.succ_mul i k
  have e2 : (n + 1) * k = n * k + k := Nat.succ_mul n k
  have e3 : (n - i) * k = n * k - i * k := Nat.sub_mul n i k
  have m1 : i * k + k ≤ n * k := by rw [← e1]; exact Nat.mul_le_mul_right k (by omega)
  have hle1 : (n + 1) * 1 ≤ (n + 1) * by_ := Nat.mul_le_mul_left _ E.byp
  have hcells : ∀ j u, rs.flatten[j]? = some u → w.cell? ⟨b, j, none⟩ = some u := fun j u h => by
    have := World.ownsRow.cells (g := b) hown.2 rfl j u h
    rwa [add_nat, Nat.zero_add] at this
  have hfd : Fit k (rs.drop i) := hf.sub fun r hr => List.mem_of_mem_drop hr
  have hft : Fit k (rs.take i) := hf.sub fun r hr => List.mem_of_mem_take hr
  have hdk : (rs.drop i).flatten.length = n * k - i * k := by rw [flat_len hfd, List.length_drop, hn, e3]
  have htk : (rs.take i).flatten.length = i * k := by rw [flat_len hft, List.length_take, hn, Nat.min_eq_left (by omega)]
  have hdd := flat_drop i hf (by omega)
  have htt := flat_take i hf (by omega)
  have hbw : b < w.heap.size := hcur0.lt
  have hold : (Builtin.firstCells i0.size i (.slice (some ⟨b, 0, none⟩) i c)).run P w.drew = .ok (rs.take i).flatten.toArray w.drew := by
    have hl := run_loadCells_list (P := P) w.drew ⟨b, 0, none⟩ (rs.take i).flatten (fun j u h => by
      rw [add_nat, Nat.zero_add]
      rw [← htt, List.getElem?_take] at h
      split at h
      · exact hcells j u h
      · cases h)
    rw [htk] at hl
    rw [hz1]
    exact hl
  have hby2 : (n + 1 - i) * i0.bytes ≤ (n + 1) * i0.bytes := Nat.mul_le_mul_right _ (by omega)
  have hap := Lib.run_append_grow_zeros (P := P) w st tn st et i0 z .i64 .i64 E.und htn hi0 hz0 (some ⟨b, 0, none⟩) i c (rs.take i).flatten hold (n + 1 - i) (by omega) (by omega) (by omega) (by omega) (by rw [hz2] at *; omega)
    (by rw [hz2, show i + (n + 1 - i) = n + 1 from by omega]; exact growslice_fits hroom hsz)
  rw [show i + (n + 1 - i) = n + 1 from by omega] at hap
  have hGe : n + 1 ≤ grownCap w (n + 1) c et := grownCap_ge w _ _ _
  have hGm : grownCap w (n + 1) c et ≤ maxLen := grownCap_le_maxLen w (n + 1) c et (by unfold maxLen; omega)
  generalize grownCap w (n + 1) c et = G at *
  have m3 : n * k + k ≤ G * k := by rw [← e2]; exact Nat.mul_le_mul_right k hGe
  obtain ⟨ROW, hROW⟩ : ∃ ROW : Array Value, ROW = (rs.take i).flatten.toArray ++ Builtin.zeroCells z.cells (n + 1 - i) ++ Builtin.zeroCells z.cells (G - (n + 1)) := ⟨_, rfl⟩
  rw [← hROW] at hap
  have hRs : ROW.size = G * k := by
    rw [hROW]
    simp only [Array.size_append, Builtin.zeroCells, Array.size_map, Array.size_range, List.size_toArray, htk, E.zsz]
    rw [← Nat.add_mul, ← Nat.add_mul]
    congr 1
    omega
  have hRt : ROW.toList.take (i * k) = (rs.take i).flatten := by
    rw [hROW, Array.toList_append, Array.toList_append, List.append_assoc, List.take_append_of_le_length (by simp only [List.toList_toArray]; omega)]
    exact List.take_of_length_le (by simp only [List.toList_toArray]; omega)
  obtain ⟨g2, hg2⟩ : ∃ g2, g2 = w.heap.size := ⟨_, rfl⟩
  have hB2 : Blk (w.drew.alloc (.cells ROW et)) g2 et ROW := by rw [hg2]; exact Blk.new w.drew _ _
  have hT2 : Turn nowhere w (w.drew.alloc (.cells ROW et)) := ((Turn.refl nowhere w).drew).alloc _
  rw [← hg2] at hap
  generalize w.drew.alloc (.cells ROW et) = w2 at *
  have hg2b : b ≠ g2 := by omega
  have hgg : g ≠ g2 := by have := hx.lt; omega
  have hx2 := hx.turn hT2 (fun e => e)
  have hc3 := run_copyK E (w := w2) (ty := ty) (g := g2) (o := i * k) (dLen := n + 1 - i) (dCap := G - i) (sLen := 1) (sCap := 1) (a := ⟨g, 0, none⟩) (cs := x) hB2 (by
      rw [hxk, show Nat.min 1 (n + 1 - i) = 1 from by simp only [Nat.min_def]; split <;> omega, Nat.one_mul]) (fun j u h => by
      rw [add_nat, Nat.zero_add, hx2.cell]
      simpa using h) (by rw [hxk, hRs]; omega) hx1
  have hB3 : Blk (w2.setRow g2 (ROW.toList.take (i * k) ++ x ++ ROW.toList.drop (i * k + x.length)).toArray) g2 et _ := setRow_heap w2 g2 _ _ _ _ hB2
  have hT3 := setRow_turn' w2 g2 (ROW.toList.take (i * k) ++ x ++ ROW.toList.drop (i * k + x.length)).toArray
  generalize w2.setRow g2 (ROW.toList.take (i * k) ++ x ++ ROW.toList.drop (i * k + x.length)).toArray = w3 at *
  have hls : (ROW.toList.take (i * k) ++ x ++ ROW.toList.drop (i * k + x.length)).length = G * k := by
    rw [sg_len _ _ _ (by rw [hxk, Array.length_toList, hRs]; omega), Array.length_toList, hRs]
  have hc4 := run_copyK E (w := w3.drew) (ty := ty) (g := g2) (o := (i + 1) * k) (dLen := n + 1 - (i + 1)) (dCap := G - (i + 1)) (sLen := n - i) (sCap := c - i) (a := ⟨b, i * k, none⟩) (cs := (rs.drop i).flatten) hB3.drew (by
      rw [hdk, ← e3]
      congr 1
      simp only [Nat.min_def]
      split <;> omega) (fun j u h => by
      rw [add_nat]
      rw [← hdd, List.getElem?_drop] at h
      have := hcells _ _ h
      show w3.cell? ⟨b, i * k + j, none⟩ = _
      rw [hT3.cell (p := ⟨b, i * k + j, none⟩) (by show b < w2.heap.size; have := hT2.size; omega) hg2b, hT2.cell (p := ⟨b, i * k + j, none⟩) hbw (fun e => e)]
      exact this) (by rw [hdk, List.size_toArray, hls, e1]; omega) (flat_one hfd)
  have hL : (rs.take i ++ x :: rs.drop i).length = n + 1 := by
    rw [List.length_append, List.length_cons, List.length_take, List.length_drop, hn]
    omega
  refine ⟨g2, G, w2, by omega, hap, hGe, hGm, w3, hc3, _, hc4, ?_, ?_⟩
  · refine orw_of (setRow_heap w3.drew g2 _ _ _ _ hB3.drew) (Nat.zero_le _) ?_ hL hGe hGm ?_ ?_
    · exact hft.app (fun r hr => by
        rcases List.mem_cons.1 hr with rfl | hr
        · exact ⟨hxk, hx1⟩
        · exact hfd r hr)
    · rw [List.size_toArray, List.toList_toArray, sg_len _ _ _ (by rw [hls, hdk, e1]; omega), hls]
    · have h := sg_two ROW.toList x (rs.drop i).flatten (i * k) (by rw [hxk, hdk, Array.length_toList, hRs]; omega)
      simp only at h
      rw [hxk, ← e1, hdk] at h
      rw [show (n + 1) * k = (i + 1) * k + (n * k - i * k) from by rw [e1, e2]; omega, List.toList_toArray, List.toList_toArray, hdk, hxk, ← e1, h, hRt, List.flatten_append, List.flatten_cons, List.append_assoc]
  · refine ((hT2.trans hT3 fun q hq e => ?_).trans (((Turn.refl (only g2) w3).drew).trans (setRow_turn' w3.drew g2 _) fun _ _ e => e) fun q hq e => ?_)
    · have e : q = g2 := e
      omega
    · have e : q = g2 := e
      omega
end
end Go.Proofs.Ytmlkdkbpbleilaa

namespace Go.Proofs.Ytmlkdkbpbleilaa
open Go.RowKit
set_option linter.unusedVariables false
set_option linter.unusedSimpArgs false
section
variable {P : Program} {st et : TypeId} {k by_ : Nat} {z : Value}
/-- append(s[:i], s[j:]...) in place -/
theorem delK_app (E : Elm P st et k by_ z) {ty : TypeId} {w : World} {b n c i j B : Nat} {rs : List (List Value)} (hown : Orw w B et k (.slice (some ⟨b, 0, none⟩) n c) rs) (hij : i ≤ j) (hj : j ≤ n) :
    ∃ w1, (Builtin.append_ #[st, st] ty #[.slice (some ⟨b, 0, none⟩) i c, .slice (fromK k (some ⟨b, 0, none⟩) c j) (n - j) (c - j)]).run P w = .ok (.slice (some ⟨b, 0, none⟩) (i + (n - j)) c) w1 ∧
      Orw w1 B et k (.slice (some ⟨b, 0, none⟩) (i + (n - j)) c) (rs.take i ++ rs.drop j) ∧ Turn (only b) w w1 := by
  obtain ⟨cur, hcur, hcs, htake, hn, hnc, hcm, hB⟩ := orw_block hown
  have hf := hown.1
  obtain ⟨i0, hi0, hz1⟩ := E.size
  have hfd : Fit k (rs.drop j) := hf.sub fun r hr => List.mem_of_mem_drop hr
  have hft : Fit k (rs.take i) := hf.sub fun r hr => List.mem_of_mem_take hr
  have hdl : (rs.drop j).flatten.length = (n - j) * k := by rw [flat_len hfd, List.length_drop, hn]
  have hlt : (rs.take i).length = i := by rw [List.length_take]; omega
  have hO : Orw w B et k (.slice (some ⟨b, 0, none⟩) i c) (rs.take i) := orw_of hcur hB hft hlt (by omega) hcm hcs (by
    rw [← flat_take i hf (by omega), ← htake, List.take_take, Nat.min_eq_left (Nat.mul_le_mul_right k (by omega))])
  have hcells : ∀ q u, rs.flatten[q]? = some u → w.cell? ⟨b, q, none⟩ = some u := fun q u h => by
    have := World.ownsRow.cells (g := b) hown.2 rfl q u h
    rwa [add_nat, Nat.zero_add] at this
  have hO2 := hO.2
  rw [hlt] at hO2
  obtain ⟨a, ha, hsrc⟩ : ∃ a, fromK k (some ⟨b, 0, none⟩) c j = some a ∧ ∀ q u, (rs.drop j).flatten[q]? = some u → w.cell? (a.add q) = some u := by
    by_cases hcj : c = j
    · refine ⟨⟨b, 0, none⟩, by unfold fromK; rw [if_pos hcj], fun q u hu => ?_⟩
      have := (List.getElem?_eq_some_iff.1 hu).1
      rw [hdl, show n - j = 0 from by omega, Nat.zero_mul] at this
      omega
    · refine ⟨⟨b, 0 + j * k, none⟩, fromK_at (by omega), fun q u hu => ?_⟩
      rw [← flat_drop j hf (by omega), List.getElem?_drop] at hu
      rw [add_nat, Nat.zero_add]
      exact hcells _ _ hu
  obtain ⟨w1, g1, g2, g3⟩ := run_append_fits (P := P) w B st ty et i0 k E.und hi0 hz1 b i c _ hO2 a (n - j) (c - j) (rs.drop j).flatten hdl hsrc (flat_one hfd) (by omega)
  rw [ha]
  have hl : (rs.take i ++ rs.drop j).length = i + (n - j) := by rw [List.length_append, hlt, List.length_drop, hn]
  refine ⟨w1, g1, ⟨hft.app hfd, ?_⟩, (Turn.refl (only b) w).grown g3 fun g e hg => (Option.some.inj e).symm⟩
  rw [hl, List.flatten_append]
  exact g2
/-- clear of a part of a block -/
theorem run_clearK (E : Elm P st et k by_ z) (hv : ∀ w, (zeroValue et).run P w = .ok z w) (h1 : ∀ u ∈ z.cells.toList, u.oneCell' = true) {ty : TypeId} {w : World} {b o n c : Nat} {cur : Array Value} (hb : Blk w b et cur) (hfit : o + n * k ≤ cur.size) :
    ∃ w', (Builtin.clear_ #[st] ty #[.slice (some ⟨b, o, none⟩) n c]).run P w = .ok (.tuple #[]) w' ∧ Turn (only b) w w' ∧ ∃ cur', Blk w' b et cur' ∧ cur'.size = cur.size ∧ cur'.toList.take o = cur.toList.take o := by
  have hzl : (Builtin.zeroCells z.cells n).toList.length = n * k := by
    rw [Array.length_toList, size_zeroCells, E.zsz]
  have hz1 : ∀ u ∈ (Builtin.zeroCells z.cells n).toList, u.oneCell' = true := by
    intro u hu
    unfold Builtin.zeroCells at hu
    simp only [Array.toList_map, List.mem_map] at hu
    obtain ⟨q, hq, rfl⟩ := hu
    have hk := E.pos
    have hlt : q % z.cells.size < z.cells.size := Nat.mod_lt _ (by rw [E.zsz]; exact hk)
    rw [getElem!_pos z.cells _ hlt]
    exact h1 _ (by rw [← Array.getElem_toList]; exact List.getElem_mem _)
  have hst := run_storeCells_at (P := P) b o et (Builtin.zeroCells z.cells n).toList 0 cur w hb (by rw [hzl]; omega) hz1
  simp only [Nat.add_zero] at hst
  rcases Nat.eq_zero_or_pos n with h0 | h0
  · subst h0
    refine ⟨w, ?_, Turn.refl _ _, cur, hb, rfl, rfl⟩
    simp [Builtin.clear_, run_underlying E.und]
  · obtain ⟨m, rfl⟩ : ∃ m, n = m + 1 := ⟨n - 1, by omega⟩
    obtain ⟨row, hrow⟩ : ∃ row, row = (cur.toList.take o ++ (Builtin.zeroCells z.cells (m + 1)).toList ++ cur.toList.drop (o + (Builtin.zeroCells z.cells (m + 1)).toList.length)).toArray := ⟨_, rfl⟩
    rw [← hrow] at hst
    refine ⟨w.setRow b row, ?_, setRow_turn' w b row, row, setRow_heap w b _ row _ _ hb, ?_, ?_⟩
    · simp [Builtin.clear_, run_underlying E.und, hv, hst]
    · rw [hrow, List.size_toArray, sg_len _ _ _ (by rw [hzl, Array.length_toList]; omega), Array.length_toList]
    · rw [hrow, List.toList_toArray, List.append_assoc, List.take_append_of_le_length (by rw [List.length_take, Array.length_toList]; omega), List.take_take, Nat.min_self]
/-- a row whose block was cleared behind its end -/
theorem Orw.cleared {w w' : World} {B b n c o : Nat} {rs : List (List Value)} {cur cur' : Array Value} (h : Orw w B et k (.slice (some ⟨b, 0, none⟩) n c) rs) (hb : Blk w b et cur) (hb' : Blk w' b et cur') (hs : cur'.size = cur.size) (ho : n * k ≤ o) (ht : cur'.toList.take o = cur.toList.take o) : Orw w' B et k (.slice (some ⟨b, 0, none⟩) n c) rs := by
  obtain ⟨cur0, hcur, hcs, htake, hn, hnc, hcm, hB⟩ := orw_block h
  obtain rfl := hcur.inj hb
  refine orw_of hb' hB h.1 hn hnc hcm (hs.trans hcs) ?_
  have := congrArg (List.take (n * k)) ht
  rw [List.take_take, List.take_take, Nat.min_eq_left ho] at this
  rw [this, htake]
end
end Go.Proofs.Ytmlkdkbpbleilaa

namespace Go.Proofs.Ytmlkdkbpbleilaa
open Go.RowKit
set_option linter.unusedVariables false
set_option linter.unusedSimpArgs false
theorem wpList_new {P : Program} {ops : Array Oper} {rest : List Oper} {o1 o2 : Oper} {a : Act} {w : World} {Q : Exit → Act → World → Prop} {zs : Array Value} (ty : TypeId) (x y : Operand) (cells : Array Value)
    (hg1 : Region.wanted o1 (yielded ops a.tmps) = true) (ho1 : o1.op = .alloc ty) (hz : (zeroValue ty).run P w = .ok (.agg zs) w) (hzs : (Value.agg zs).cells = zs)
    (hg2 : Region.wanted o2 (yielded ops (a.put o1.dst (.pointer (some ⟨w.heap.size, 0, none⟩))).tmps) = true) (ho2 : o2.op = .store ty x y)
    (hx : (a.put o1.dst (.pointer (some ⟨w.heap.size, 0, none⟩))).eval x = .pointer (some ⟨w.heap.size, 0, none⟩)) (hy : (a.put o1.dst (.pointer (some ⟨w.heap.size, 0, none⟩))).eval y = .agg cells)
    (hs : zs.size = cells.size) (hi : (P.info? ty).map (·.size) = some cells.size) (h1 : ∀ v ∈ cells.toList, v.oneCell' = true)
    (h : ∀ w' g, w.heap.size ≤ g → Blk w' g ty cells → Turn nowhere w w' → wpList P ops Q rest ((a.put o1.dst (.pointer (some ⟨g, 0, none⟩))).put o2.dst undef) w') : wpList P ops Q (o1 :: o2 :: rest) a w := by
  have hb := Blk.new w ty (Value.agg zs).cells
  have hu := (Turn.refl nowhere w).alloc (.cells (Value.agg zs).cells ty)
  refine wpList_run hg1 (gx_alloc ho1 hz) ?_
  refine wpList_store_row hg2 ty x y ho2 cells hb hx hy (by rw [hzs]; exact hs) hi h1 fun w' hb' hu' => ?_
  refine h w' _ (Nat.le_refl _) hb' (hu.trans hu' fun k hk e => ?_)
  have e : k = w.heap.size := e
  omega
theorem bx_slice3 {P : Program} {a : Act} {o : Oper} {t : TypeId} {x y z : Operand} {u v r q : Value} {W W' : World} (ho : o.op = .buildSlice t 3 #[(0, x), (1, y), (2, z)]) (hx : a.eval x = u) (hy : a.eval y = v) (hz : a.eval z = r)
    (h : (Instr.buildSlice t 3 #[(0, u), (1, v), (2, r)]).run P W = .ok q W') : (execOp a.eval o).run P W = .ok (.value q) W' := by
  unfold execOp
  simp only [ho, List.map_toArray, List.map_cons, List.map_nil, hx, hy, hz, h, Sem.run_bind, Sem.run_pure, Result.andThen_ok]
theorem bx_slice0 {P : Program} {a : Act} {o : Oper} {t : TypeId} {q : Value} {W W' : World} (ho : o.op = .buildSlice t 0 #[])
    (h : (Instr.buildSlice t 0 #[]).run P W = .ok q W') : (execOp a.eval o).run P W = .ok (.value q) W' := by
  unfold execOp
  simp only [ho, List.map_toArray, List.map_nil, h, Sem.run_bind, Sem.run_pure, Result.andThen_ok]
end Go.Proofs.Ytmlkdkbpbleilaa

namespace Go.Proofs.Ytmlkdkbpbleilaa
open Go.RowKit
set_option linter.unusedVariables false
set_option linter.unusedSimpArgs false
section
variable {a : Act} {o : Oper} {W : World} {x y : Operand} {i j : Int}
theorem ix_lss {r : Bool} (ho : o.op = .binOp .lss 3 x y 3) (hx : a.eval x = .int .i64 i) (hy : a.eval y = .int .i64 j) (h : decide (i < j) = r) : (execOp a.eval o).run Try.prog W = .ok (.value (.bool r)) W := by
  subst h
  unfold execOp
  simp only [ho, hx, hy]
  go_simp
theorem ix_leq {r : Bool} (ho : o.op = .binOp .leq 3 x y 3) (hx : a.eval x = .int .i64 i) (hy : a.eval y = .int .i64 j) (h : decide (i ≤ j) = r) : (execOp a.eval o).run Try.prog W = .ok (.value (.bool r)) W := by
  subst h
  unfold execOp
  simp only [ho, hx, hy]
  go_simp
theorem ix_gtr {r : Bool} (ho : o.op = .binOp .gtr 3 x y 3) (hx : a.eval x = .int .i64 i) (hy : a.eval y = .int .i64 j) (h : decide (j < i) = r) : (execOp a.eval o).run Try.prog W = .ok (.value (.bool r)) W := by
  subst h
  unfold execOp
  simp only [ho, hx, hy]
  go_simp
theorem ix_geq {r : Bool} (ho : o.op = .binOp .geq 3 x y 3) (hx : a.eval x = .int .i64 i) (hy : a.eval y = .int .i64 j) (h : decide (j ≤ i) = r) : (execOp a.eval o).run Try.prog W = .ok (.value (.bool r)) W := by
  subst h
  unfold execOp
  simp only [ho, hx, hy]
  go_simp
theorem ix_eql {t u : TypeId} {r : Bool} (ho : o.op = .binOp .eql t x y u) (hx : a.eval x = .int .i64 i) (hy : a.eval y = .int .i64 j) (h : decide (i = j) = r) : (execOp a.eval o).run Try.prog W = .ok (.value (.bool r)) W := by
  subst h
  unfold execOp
  simp [ho, hx, hy, eqGuard]
  go_simp
  by_cases hij : i = j <;> simp [hij]
theorem ix_neq {t u : TypeId} {r : Bool} (ho : o.op = .binOp .neq t x y u) (hx : a.eval x = .int .i64 i) (hy : a.eval y = .int .i64 j) (h : decide (i ≠ j) = r) : (execOp a.eval o).run Try.prog W = .ok (.value (.bool r)) W := by
  subst h
  unfold execOp
  simp [ho, hx, hy, eqGuard]
  go_simp
  by_cases hij : i = j <;> simp [hij]
theorem ix_add {r : Int} (ho : o.op = .binOp .add 3 x y 3) (hx : a.eval x = .int .i64 i) (hy : a.eval y = .int .i64 j) (h : i + j = r) (hb : -9223372036854775808 ≤ r ∧ r ≤ 9223372036854775807) : (execOp a.eval o).run Try.prog W = .ok (.value (.int .i64 r)) W := by
  have hw : IntKind.i64.wrap r = r := by rw [IntKind.wrap_i64]; omega
  unfold execOp
  simp only [ho, hx, hy]
  go_simp
  try exact hw
theorem ix_sub {r : Int} (ho : o.op = .binOp .sub 3 x y 3) (hx : a.eval x = .int .i64 i) (hy : a.eval y = .int .i64 j) (h : i - j = r) (hb : -9223372036854775808 ≤ r ∧ r ≤ 9223372036854775807) : (execOp a.eval o).run Try.prog W = .ok (.value (.int .i64 r)) W := by
  have hw : IntKind.i64.wrap r = r := by rw [IntKind.wrap_i64]; omega
  unfold execOp
  simp only [ho, hx, hy]
  go_simp
  try exact hw
theorem ix_mul {r : Int} (ho : o.op = .binOp .mul 3 x y 3) (hx : a.eval x = .int .i64 i) (hy : a.eval y = .int .i64 j) (h : i * j = r) (hb : -9223372036854775808 ≤ r ∧ r ≤ 9223372036854775807) : (execOp a.eval o).run Try.prog W = .ok (.value (.int .i64 r)) W := by
  have hw : IntKind.i64.wrap r = r := by rw [IntKind.wrap_i64]; omega
  unfold execOp
  simp only [ho, hx, hy]
  go_simp
  try (rw [h]; exact hw)
theorem ix_q256 {n : Nat} (ho : o.op = .binOp .quo 3 x (.const (.int .i64 256)) 3) (hx : a.eval x = .int .i64 (n : Int)) (hn : n ≤ 9223372036854775807) : (execOp a.eval o).run Try.prog W = .ok (.value (.int .i64 ((n / 256 : Nat) : Int))) W := by
  unfold execOp
  simp only [ho, hx]
  go_simp
  first | rfl | (rw [IntKind.wrap_i64]; omega)
theorem ix_r256 {n : Nat} (ho : o.op = .binOp .rem 3 x (.const (.int .i64 256)) 3) (hx : a.eval x = .int .i64 (n : Int)) (hn : n ≤ 9223372036854775807) : (execOp a.eval o).run Try.prog W = .ok (.value (.int .i64 ((n % 256 : Nat) : Int))) W := by
  unfold execOp
  simp only [ho, hx]
  go_simp
  exact Int.tmod_eq_emod_of_nonneg (by omega)
theorem ix_shr8 {n : Nat} {tu : TypeId} (ho : o.op = .binOp .shr 3 x (.const (.int .u64 8)) tu) (hx : a.eval x = .int .i64 (n : Int)) (hn : n ≤ 9223372036854775807) : (execOp a.eval o).run Try.prog W = .ok (.value (.int .i64 ((n / 256 : Nat) : Int))) W := by
  unfold execOp
  simp only [ho, hx]
  go_simp
theorem ix_shl8 {n : Nat} {tu : TypeId} (ho : o.op = .binOp .shl 3 x (.const (.int .u64 8)) tu) (hx : a.eval x = .int .i64 (n : Int)) (hn : n < 256) : (execOp a.eval o).run Try.prog W = .ok (.value (.int .i64 ((256 * n : Nat) : Int))) W := by
  unfold execOp
  simp only [ho, hx]
  go_simp
  rw [IntKind.wrap_i64]
  omega
theorem ix_or8 {n m : Nat} (ho : o.op = .binOp .or 3 x y 3) (hx : a.eval x = .int .i64 ((256 * n : Nat) : Int)) (hy : a.eval y = .int .i64 (m : Int)) (hn : n < 256) (hm : m < 256) : (execOp a.eval o).run Try.prog W = .ok (.value (.int .i64 ((256 * n + m : Nat) : Int))) W := by
  unfold execOp
  simp only [ho, hx, hy]
  go_simp
  simp only [bits]
  have e1 : (256 * (n : Int) % 2 ^ IntKind.i64.bits).toNat = 256 * n := by simp [IntKind.bits]; omega
  have e2 : ((m : Int) % 2 ^ IntKind.i64.bits).toNat = m := by simp [IntKind.bits]; omega
  have e3 : 256 * n ||| m = 256 * n + m := (Nat.two_pow_add_eq_or_of_lt (i := 8) hm n).symm
  rw [BitVec.toNat_or, BitVec.toNat_ofInt, BitVec.toNat_ofInt]
  rw [show (((2 ^ IntKind.i64.bits : Nat)) : Int) = 2 ^ IntKind.i64.bits from by rfl, e1, e2, e3, IntKind.wrap_i64]
  omega
theorem ix_b2i {k : Nat} (hk : k < 256) (ho : o.op = .convert 5 3 x) (hx : a.eval x = .int .u8 (k : Int)) : (execOp a.eval o).run Try.prog W = .ok (.value (.int .i64 (k : Int))) W := by
  unfold execOp
  simp only [ho, hx]
  go_simp
  rw [IntKind.wrap_i64]
  omega
theorem ix_i2b {k : Nat} (ho : o.op = .convert 3 5 x) (hx : a.eval x = .int .i64 (k : Int)) : (execOp a.eval o).run Try.prog W = .ok (.value (.int .u8 (((UInt8.ofNat k).toNat : Nat) : Int))) W := by
  unfold execOp
  simp only [ho, hx]
  go_simp
  simp [IntKind.wrap, IntKind.bits, IntKind.signed]
theorem ix_not {t : TypeId} {b : Bool} (ho : o.op = .unOp .not t x) (hx : a.eval x = .bool b) : (execOp a.eval o).run Try.prog W = .ok (.value (.bool (!b))) W := by
  unfold execOp
  simp only [ho, hx]
  go_simp
theorem ix_pickT {c : Operand} {v : Value} (ho : o.op = .pick c x y) (hc : a.eval c = .bool true) (hx : a.eval x = v) : (execOp a.eval o).run Try.prog W = .ok (.value v) W := by
  unfold execOp
  simp [ho, hc, hx, asBool, Result.andThen]
theorem ix_pickF {c : Operand} {v : Value} (ho : o.op = .pick c x y) (hc : a.eval c = .bool false) (hy : a.eval y = v) : (execOp a.eval o).run Try.prog W = .ok (.value v) W := by
  unfold execOp
  simp [ho, hc, hy, asBool, Result.andThen]
theorem ix_extract {n : Nat} {vs : Array Value} {v : Value} (ho : o.op = .extract x n) (hx : a.eval x = .tuple vs) (hv : vs[n]? = some v) : (execOp a.eval o).run Try.prog W = .ok (.value v) W := by
  unfold execOp
  simp only [ho, hx]
  go_simp
end
end Go.Proofs.Ytmlkdkbpbleilaa

namespace Go.Proofs.Ytmlkdkbpbleilaa
open Go.RowKit
set_option linter.unusedVariables false
/-- bytes as a string's value -/
def strV (l : List UInt8) : Value := .string ⟨l.toArray⟩
theorem strV_cells (l : List UInt8) : (strV l).cells = #[strV l] := rfl
theorem strV_one (l : List UInt8) : (strV l).oneCell' = true := rfl
theorem str_size (l : List UInt8) : (ByteArray.mk l.toArray).size = l.length := by simp [ByteArray.size]
theorem str_ext (n m : Nat) (l : List UInt8) : (ByteArray.mk l.toArray).extract n m = ByteArray.mk ((l.take m).drop n).toArray := by
  apply ByteArray.ext
  apply Array.ext'
  rw [ByteArray.data_extract]
  simp [List.extract_eq_take_drop, List.drop_take]
theorem str_to (n : Nat) (l : List UInt8) : (ByteArray.mk l.toArray).extract 0 n = ByteArray.mk (l.take n).toArray := by rw [str_ext, List.drop_zero]
theorem str_from (n : Nat) (l : List UInt8) : (ByteArray.mk l.toArray).extract n (ByteArray.mk l.toArray).size = ByteArray.mk (l.drop n).toArray := by rw [str_ext, str_size, List.take_length]
section
variable {a : Act} {o : Oper} {W : World}
theorem exec_str {x : Operand} {b off n c : Nat} {l : List UInt8} (ho : o.op = .convert 69 9 x) (hx : a.eval x = .slice (some ⟨b, off, none⟩) n c) (hl : l.length = n) (hr : W.rangeAt b off (bcs l)) : (execOp a.eval o).run Try.prog W = .ok (.value (strV l)) W := by
  subst hl
  have h := run_convert_bytes_back (P := Try.prog) W 69 9 5 ⟨b, off, none⟩ c l Try.underlying69 Try.underlying5 Try.underlying9 (fun j hj => by
    rw [add_nat]
    refine hr j _ ?_
    rw [bcs_at l j hj, List.getD_eq_getElem?_getD, List.getElem?_eq_getElem hj]
    rfl)
  unfold execOp
  simp only [ho, hx, h, Sem.run_bind, Sem.run_pure, Result.andThen_ok, strV]
theorem exec_nilstr {x : Operand} {c : Nat} (ho : o.op = .convert 69 9 x) (hx : a.eval x = .slice none 0 c) : (execOp a.eval o).run Try.prog W = .ok (.value (strV [])) W := by
  have h := run_convert_bytes_string (P := Try.prog) W 69 9 5 none 0 c Try.underlying69 Try.underlying5 Try.underlying9
  unfold execOp
  simp only [ho, hx, h, Sem.run_bind]
  rfl
/-- whatever the slice is -/
theorem exec_strBs {x : Operand} {A : Option Addr} {n c : Nat} {l : List UInt8} (ho : o.op = .convert 69 9 x) (hx : a.eval x = .slice A n c) (hb : Bs W A n l) : (execOp a.eval o).run Try.prog W = .ok (.value (strV l)) W := by
  obtain ⟨h1, h2, h3⟩ := hb
  by_cases hp : 0 < n
  · obtain ⟨b, off, rfl, hc⟩ := h3 hp
    exact exec_str ho hx h1 (fun j v hj => by
      have hjl : j < l.length := by
        have := (List.getElem?_eq_some_iff.1 hj).1
        rwa [bcs_length] at this
      rw [bcs_at l j hjl] at hj
      rw [← hj]
      exact hc j (by omega))
  · have h0 : n = 0 := by omega
    subst h0
    have hl : l = [] := List.eq_nil_of_length_eq_zero h1
    subst hl
    have h := run_convert_bytes_string (P := Try.prog) W 69 9 5 A 0 c Try.underlying69 Try.underlying5 Try.underlying9
    unfold execOp
    simp only [ho, hx, h, Sem.run_bind]
    cases A <;> rfl
theorem exec_sadd {x y : Operand} {l m : List UInt8} {t u : TypeId} (ho : o.op = .binOp .add t x y u) (hx : a.eval x = strV l) (hy : a.eval y = strV m) (hs : l.length + m.length ≤ 8388608) : (execOp a.eval o).run Try.prog W = .ok (.value (strV (l ++ m))) W := by
  have h := run_string_add_lists (P := Try.prog) W l m (by omega) (by omega)
  unfold execOp
  simp [ho, hx, hy, strV, eqGuard, binOp, h]
theorem exec_seql {x y : Operand} {l m : List UInt8} {t u : TypeId} (ho : o.op = .binOp .eql t x y u) (hx : a.eval x = strV l) (hy : a.eval y = strV m) : (execOp a.eval o).run Try.prog W = .ok (.value (.bool (l == m))) W := by
  unfold execOp
  simp [ho, hx, hy, strV, eqGuard, binOp_string_eql]
theorem exec_sneq {x y : Operand} {l m : List UInt8} {t u : TypeId} (ho : o.op = .binOp .neq t x y u) (hx : a.eval x = strV l) (hy : a.eval y = strV m) : (execOp a.eval o).run Try.prog W = .ok (.value (.bool (!(l == m)))) W := by
  unfold execOp
  simp [ho, hx, hy, strV, eqGuard, binOp_string_neq]
theorem exec_sto {x y : Operand} {l : List UInt8} {n : Nat} (ho : o.op = .slice 9 x none (some y) none) (hx : a.eval x = strV l) (hy : a.eval y = .int .i64 (n : Int)) (hn : n ≤ l.length) : (execOp a.eval o).run Try.prog W = .ok (.value (strV (l.take n))) W := by
  have h := run_slice_string_h (P := Try.prog) W 9 ⟨l.toArray⟩ Try.underlying9 .i64 (n : Int) (by omega) (by rw [str_size]; omega)
  rw [Int.toNat_natCast, str_to] at h
  unfold execOp
  simp only [ho, Option.map, hx, hy, strV, run_sliceAt_string (P := Try.prog) W 9 _ _ _ _ Try.underlying9, h, Sem.run_bind, Sem.run_pure, Result.andThen_ok]
theorem exec_sfrom {x y : Operand} {l : List UInt8} {n : Nat} (ho : o.op = .slice 9 x (some y) none none) (hx : a.eval x = strV l) (hy : a.eval y = .int .i64 (n : Int)) (hn : n ≤ l.length) : (execOp a.eval o).run Try.prog W = .ok (.value (strV (l.drop n))) W := by
  have h := run_slice_string_l (P := Try.prog) W 9 ⟨l.toArray⟩ Try.underlying9 .i64 (n : Int) (by omega) (by rw [str_size]; omega)
  rw [Int.toNat_natCast, str_from] at h
  unfold execOp
  simp only [ho, Option.map, hx, hy, strV, run_sliceAt_string (P := Try.prog) W 9 _ _ _ _ Try.underlying9, h, Sem.run_bind, Sem.run_pure, Result.andThen_ok]
theorem exec_sidx {x y : Operand} {l : List UInt8} {i : Nat} {k : IntKind} (ho : o.op = .index 9 x y) (hx : a.eval x = strV l) (hy : a.eval y = .int k (i : Int)) (hi : i < l.length) : (execOp a.eval o).run Try.prog W = .ok (.value (.int .u8 ((l.getD i 0).toNat : Int))) W := by
  have h := run_index_string (P := Try.prog) W 9 ⟨l.toArray⟩ k (i : Int) Try.underlying9
  rw [dif_pos ⟨by omega, by rw [str_size]; omega⟩] at h
  unfold execOp
  simp only [ho, hx, hy, strV, h, Sem.run_bind, Sem.run_pure, Result.andThen_ok]
  rw [List.getD_eq_getElem?_getD, List.getElem?_eq_getElem hi]
  rfl
theorem exec_slen {x : Operand} {l : List UInt8} (ho : o.op = .call { callee := .builtin .len, args := #[x], argTypes := #[9] }) (hx : a.eval x = strV l) : (execOp a.eval o).run Try.prog W = .ok (.value (.int .i64 (l.length : Int))) W := by
  have h := run_len_string (P := Try.prog) W 9 o.type ⟨l.toArray⟩ Try.underlying9
  rw [str_size] at h
  unfold execOp
  simp only [ho, resolve, invoke, builtin, Sem.run_bind, Sem.run_pure, Result.andThen_ok, List.map_toArray, List.map_cons, List.map_nil, hx, strV, h]
  rfl
end
end Go.Proofs.Ytmlkdkbpbleilaa

namespace Go.Proofs.Ytmlkdkbpbleilaa.Ix
set_option linter.unusedVariables false
abbrev Key := List UInt8
abbrev Pr := Key × Int
/-! ### the order of keys -/
def klt : Key → Key → Bool
  | [], [] => false
  | [], _ :: _ => true
  | _ :: _, [] => false
  | x :: a, y :: b => if x.toNat < y.toNat then true else if y.toNat < x.toNat then false else klt a b
theorem klt_irr : ∀ a : Key, klt a a = false
  | [] => rfl
  | x :: a => by
    unfold klt
    rw [if_neg (Nat.lt_irrefl _), if_neg (Nat.lt_irrefl _), klt_irr a]
theorem klt_tr : ∀ {a b c : Key}, klt a b = true → klt b c = true → klt a c = true
  | [], [], _, h, _ => by cases h
  | [], _ :: _, [], _, h => by cases h
  | [], _ :: _, _ :: _, _, _ => rfl
  | _ :: _, [], _, h, _ => by cases h
  | _ :: _, _ :: _, [], _, h => by cases h
  | x :: a, y :: b, z :: c, h, g => by
    unfold klt at h g ⊢
    by_cases h1 : x.toNat < y.toNat
    · by_cases g1 : y.toNat < z.toNat
      · rw [if_pos (by omega)]
      · rw [if_neg g1] at g
        by_cases g2 : z.toNat < y.toNat
        · rw [if_pos g2] at g; cases g
        · rw [if_pos (by omega)]
    · rw [if_neg h1] at h
      by_cases h2 : y.toNat < x.toNat
      · rw [if_pos h2] at h; cases h
      · rw [if_neg h2] at h
        by_cases g1 : y.toNat < z.toNat
        · rw [if_pos (by omega)]
        · rw [if_neg g1] at g
          by_cases g2 : z.toNat < y.toNat
          · rw [if_pos g2] at g; cases g
          · rw [if_neg g2] at g
            rw [if_neg (by omega), if_neg (by omega)]
            exact klt_tr h g
theorem klt_eq : ∀ {a b : Key}, klt a b = false → klt b a = false → a = b
  | [], [], _, _ => rfl
  | [], _ :: _, h, _ => by cases h
  | _ :: _, [], _, h => by cases h
  | x :: a, y :: b, h, g => by
    unfold klt at h g
    by_cases h1 : x.toNat < y.toNat
    · rw [if_pos h1] at h; cases h
    · rw [if_neg h1] at h
      by_cases h2 : y.toNat < x.toNat
      · rw [if_pos h2] at g; cases g
      · rw [if_neg h2] at h
        rw [if_neg h2, if_neg h1] at g
        rw [klt_eq h g, UInt8.toNat_inj.1 (show x.toNat = y.toNat by omega)]
theorem klt_as {a b : Key} (h : klt a b = true) : klt b a = false := by
  cases g : klt b a with
  | false => rfl
  | true =>
    have := klt_tr h g
    rw [klt_irr] at this
    cases this
theorem klt_ne {a b : Key} (h : klt a b = true) : a ≠ b := by
  rintro rfl
  rw [klt_irr] at h
  cases h
/-! ### rows by rising keys -/
def Srt (l : List Pr) : Prop := l.Pairwise fun a b => klt a.1 b.1 = true
/-- all keys below k; all above k -/
def Bel (l : List Pr) (k : Key) : Prop := ∀ p ∈ l, klt p.1 k = true
def Abo (l : List Pr) (k : Key) : Prop := ∀ p ∈ l, klt k p.1 = true
def lget (k : Key) : List Pr → Option Int
  | [] => none
  | p :: l => if p.1 = k then some p.2 else lget k l
def lput (k : Key) (n : Int) : List Pr → List Pr
  | [] => [(k, n)]
  | p :: l => if p.1 = k then (k, n) :: l else if klt k p.1 = true then (k, n) :: p :: l else p :: lput k n l
def ldrop (k : Key) (l : List Pr) : List Pr := l.filter fun p => p.1 != k
theorem Bel.app {a b : List Pr} {k : Key} (h : Bel a k) (g : Bel b k) : Bel (a ++ b) k := fun p hp => by
  rcases List.mem_append.1 hp with hp | hp
  · exact h p hp
  · exact g p hp
theorem Abo.app {a b : List Pr} {k : Key} (h : Abo a k) (g : Abo b k) : Abo (a ++ b) k := fun p hp => by
  rcases List.mem_append.1 hp with hp | hp
  · exact h p hp
  · exact g p hp
theorem lget_bel : ∀ {a : List Pr} {k : Key} (b : List Pr), Bel a k → lget k (a ++ b) = lget k b
  | [], _, _, _ => rfl
  | p :: a, k, b, h => by
    show (if p.1 = k then _ else lget k (a ++ b)) = _
    rw [if_neg (klt_ne (h p (List.mem_cons_self ..))), lget_bel b fun q hq => h q (List.mem_cons_of_mem _ hq)]
theorem lget_abo : ∀ {a b : List Pr} {k : Key}, Abo b k → lget k (a ++ b) = lget k a
  | [], [], _, _ => rfl
  | [], p :: b, k, h => by
    show (if p.1 = k then _ else lget k b) = none
    rw [if_neg (fun e => klt_ne (h p (List.mem_cons_self ..)) e.symm)]
    exact lget_abo (a := []) fun q hq => h q (List.mem_cons_of_mem _ hq)
  | p :: a, b, k, h => by
    show (if p.1 = k then _ else lget k (a ++ b)) = if p.1 = k then _ else lget k a
    rw [lget_abo h]
theorem lget_mid {a b c : List Pr} {k : Key} (ha : Bel a k) (hc : Abo c k) : lget k (a ++ (b ++ c)) = lget k b := by
  rw [lget_bel _ ha, lget_abo hc]
theorem lput_bel : ∀ {a : List Pr} {k : Key} {n : Int} (b : List Pr), Bel a k → lput k n (a ++ b) = a ++ lput k n b
  | [], _, _, _, _ => rfl
  | p :: a, k, n, b, h => by
    have hp := h p (List.mem_cons_self ..)
    show (if p.1 = k then _ else if klt k p.1 = true then _ else p :: lput k n (a ++ b)) = _
    rw [if_neg (klt_ne hp), if_neg (by rw [klt_as hp]; decide), lput_bel b fun q hq => h q (List.mem_cons_of_mem _ hq)]
    rfl
theorem lput_abo : ∀ {a b : List Pr} {k : Key} {n : Int}, Abo b k → lput k n (a ++ b) = lput k n a ++ b
  | [], [], _, _, _ => rfl
  | [], p :: b, k, n, h => by
    have hp := h p (List.mem_cons_self ..)
    show (if p.1 = k then _ else if klt k p.1 = true then (k, n) :: p :: b else _) = _
    rw [if_neg (fun e => klt_ne hp e.symm), if_pos hp]
    rfl
  | p :: a, b, k, n, h => by
    show (if p.1 = k then _ else if klt k p.1 = true then _ else p :: lput k n (a ++ b)) = (if p.1 = k then _ else if klt k p.1 = true then _ else p :: lput k n a) ++ b
    rw [lput_abo h]
    split
    · rfl
    · split <;> rfl
theorem lput_mid {a b c : List Pr} {k : Key} {n : Int} (ha : Bel a k) (hc : Abo c k) : lput k n (a ++ (b ++ c)) = a ++ (lput k n b ++ c) := by
  rw [lput_bel _ ha, lput_abo hc]
theorem ldrop_bel {a : List Pr} {k : Key} (h : Bel a k) : ldrop k a = a := by
  unfold ldrop
  rw [List.filter_eq_self]
  intro p hp
  simpa using klt_ne (h p hp)
theorem ldrop_abo {a : List Pr} {k : Key} (h : Abo a k) : ldrop k a = a := by
  unfold ldrop
  rw [List.filter_eq_self]
  intro p hp
  simpa using fun e => klt_ne (h p hp) e.symm
theorem ldrop_app (a b : List Pr) (k : Key) : ldrop k (a ++ b) = ldrop k a ++ ldrop k b := List.filter_append _ _
theorem ldrop_mid {a b c : List Pr} {k : Key} (ha : Bel a k) (hc : Abo c k) : ldrop k (a ++ (b ++ c)) = a ++ (ldrop k b ++ c) := by
  rw [ldrop_app, ldrop_app, ldrop_bel ha, ldrop_abo hc]
/-- the place of the first pair whose key is not below k -/
def fnd (k : Key) : List Pr → Nat
  | [] => 0
  | p :: l => if klt p.1 k = true then fnd k l + 1 else 0
theorem fnd_le (k : Key) : ∀ l : List Pr, fnd k l ≤ l.length
  | [] => Nat.le_refl _
  | p :: l => by
    unfold fnd
    have := fnd_le k l
    split
    · rw [List.length_cons]; omega
    · exact Nat.zero_le _
theorem fnd_bel (k : Key) : ∀ l : List Pr, Bel (l.take (fnd k l)) k
  | [] => fun p hp => by cases hp
  | q :: l => fun p hp => by
    unfold fnd at hp
    split at hp
    · rename_i h
      rw [List.take_succ_cons] at hp
      rcases List.mem_cons.1 hp with rfl | hp
      · exact h
      · exact fnd_bel k l p hp
    · cases hp
theorem fnd_at {k : Key} : ∀ {l : List Pr} {p : Pr}, l[fnd k l]? = some p → klt p.1 k = false
  | [], p, h => by cases h
  | q :: l, p, h => by
    unfold fnd at h
    split at h
    · exact fnd_at (l := l) (by simpa using h)
    · rename_i hq
      obtain rfl : q = p := by simpa using h
      simpa using hq
theorem srt_app {a b : List Pr} : Srt (a ++ b) ↔ Srt a ∧ Srt b ∧ ∀ x ∈ a, ∀ y ∈ b, klt x.1 y.1 = true := List.pairwise_append
/-- behind the place all keys are above k, but perhaps the first one -/
theorem fnd_abo {k : Key} {l : List Pr} (hs : Srt l) : (∀ p, l[fnd k l]? = some p → p.1 = k → Abo (l.drop (fnd k l + 1)) k) ∧ ((∀ p, l[fnd k l]? = some p → p.1 ≠ k) → Abo (l.drop (fnd k l)) k) := by
  constructor
  · intro p hp e q hq
    obtain ⟨hj, hpe⟩ := List.getElem?_eq_some_iff.1 hp
    have h2 : l.drop (fnd k l) = p :: l.drop (fnd k l + 1) := by rw [List.drop_eq_getElem_cons hj, hpe]
    have h3 : Srt (l.drop (fnd k l)) := hs.sublist (List.drop_sublist _ _)
    rw [h2] at h3
    rw [← e]
    exact (List.pairwise_cons.1 h3).1 q hq
  · intro hne q hq
    cases hl : l[fnd k l]? with
    | none =>
      rw [List.drop_eq_nil_of_le (List.getElem?_eq_none_iff.1 hl)] at hq
      cases hq
    | some p =>
      obtain ⟨hj, hpe⟩ := List.getElem?_eq_some_iff.1 hl
      have h2 : l.drop (fnd k l) = p :: l.drop (fnd k l + 1) := by rw [List.drop_eq_getElem_cons hj, hpe]
      have hk : klt k p.1 = true := by
        cases hkp : klt k p.1 with
        | true => rfl
        | false => exact absurd (klt_eq (fnd_at hl) hkp) (hne p hl)
      have h3 : Srt (l.drop (fnd k l)) := hs.sublist (List.drop_sublist _ _)
      rw [h2] at h3 hq
      rcases List.mem_cons.1 hq with rfl | hq
      · exact hk
      · exact klt_tr hk ((List.pairwise_cons.1 h3).1 q hq)
/-- a row put into, by its place -/
theorem lput_at {k : Key} {n : Int} {l : List Pr} (hs : Srt l) : lput k n l = if (l[fnd k l]?.map (·.1)) = some k then l.set (fnd k l) (k, n) else l.take (fnd k l) ++ (k, n) :: l.drop (fnd k l) := by
  have hb := fnd_bel k l
  obtain ⟨h1, h2⟩ := fnd_abo (k := k) hs
  have e : l = l.take (fnd k l) ++ l.drop (fnd k l) := (List.take_append_drop _ _).symm
  by_cases h : (l[fnd k l]?.map (·.1)) = some k
  · rw [if_pos h]
    obtain ⟨p, hp, hk⟩ := Option.map_eq_some_iff.1 h
    obtain ⟨hj, hpe⟩ := List.getElem?_eq_some_iff.1 hp
    have hd : l.drop (fnd k l) = p :: l.drop (fnd k l + 1) := by rw [List.drop_eq_getElem_cons hj, hpe]
    rw [List.set_eq_take_append_cons_drop, if_pos hj]
    conv => lhs; rw [e, lput_bel _ hb, hd]
    congr 1
    show (if p.1 = k then _ else _) = _
    rw [if_pos hk]
  · rw [if_neg h]
    have ha := h2 fun p hp e => h (by rw [hp, ← e]; rfl)
    conv => lhs; rw [e, lput_bel _ hb, show l.drop (fnd k l) = [] ++ l.drop (fnd k l) from rfl, lput_abo ha]
    rfl
theorem lget_at {k : Key} {l : List Pr} (hs : Srt l) : lget k l = match l[fnd k l]? with
    | some p => if p.1 = k then some p.2 else none
    | none => none := by
  have hb := fnd_bel k l
  obtain ⟨h1, h2⟩ := fnd_abo (k := k) hs
  have e : l = l.take (fnd k l) ++ l.drop (fnd k l) := (List.take_append_drop _ _).symm
  conv => lhs; rw [e, lget_bel _ hb]
  cases hp : l[fnd k l]? with
  | none =>
    rw [List.drop_eq_nil_of_le (List.getElem?_eq_none_iff.1 hp)]
    rfl
  | some p =>
    obtain ⟨hj, hpe⟩ := List.getElem?_eq_some_iff.1 hp
    have hd : l.drop (fnd k l) = p :: l.drop (fnd k l + 1) := by rw [List.drop_eq_getElem_cons hj, hpe]
    by_cases hk : p.1 = k
    · rw [hd]
      show (if p.1 = k then _ else _) = if p.1 = k then _ else _
      rw [if_pos hk, if_pos hk]
    · have ha := h2 fun q hq e => hk (by rw [hp] at hq; injection hq with hq; rw [hq]; exact e)
      rw [show l.drop (fnd k l) = [] ++ l.drop (fnd k l) from rfl, lget_abo ha]
      show none = if p.1 = k then _ else _
      rw [if_neg hk]
end Go.Proofs.Ytmlkdkbpbleilaa.Ix
namespace Go.Proofs.Ytmlkdkbpbleilaa.Ix
set_option linter.unusedVariables false
/-- a tree of so many levels below its top -/
def Tr : Nat → Type
  | 0 => List Pr × Unit
  | d + 1 => List Pr × List (Tr d)
/-- the pairs of the top node -/
def Tr.ps : ∀ {d : Nat}, Tr d → List Pr
  | 0, t => t.1
  | _ + 1, t => t.1
/-- pairs between lists -/
def inter : List (List Pr) → List Pr → List Pr
  | [], ps => ps
  | a :: zs, [] => a ++ inter zs []
  | a :: zs, p :: ps => a ++ p :: inter zs ps
def pre (L : List (List Pr)) (ps : List Pr) : List Pr := (List.zipWith (fun a p => a ++ [p]) L ps).flatten
def post (ps : List Pr) (L : List (List Pr)) : List Pr := (List.zipWith (fun p a => p :: a) ps L).flatten
theorem pre_cons (a : List Pr) (L : List (List Pr)) (p : Pr) (ps : List Pr) : pre (a :: L) (p :: ps) = a ++ p :: pre L ps := by
  unfold pre
  rw [List.zipWith_cons_cons, List.flatten_cons, List.append_assoc]
  rfl
theorem post_cons (a : List Pr) (L : List (List Pr)) (p : Pr) (ps : List Pr) : post (p :: ps) (a :: L) = p :: a ++ post ps L := by
  unfold post
  rw [List.zipWith_cons_cons, List.flatten_cons]
theorem inter_post : ∀ (a : List Pr) (L : List (List Pr)) (ps : List Pr), L.length = ps.length → inter (a :: L) ps = a ++ post ps L
  | a, [], [], _ => rfl
  | a, b :: L, p :: ps, h => by
    show a ++ p :: inter (b :: L) ps = _
    rw [inter_post b L ps (by simpa using h), post_cons]
    rfl
  | _, [], _ :: _, h => by cases h
  | _, _ :: _, [], h => by cases h
/-- the lists ahead of the place i, the one there, those behind -/
theorem inter_at : ∀ (L M : List (List Pr)) (b : List Pr) (ps qs : List Pr), L.length = ps.length → M.length = qs.length → inter (L ++ b :: M) (ps ++ qs) = pre L ps ++ (b ++ post qs M)
  | [], M, b, [], qs, _, h => inter_post b M qs h
  | a :: L, M, b, p :: ps, qs, h, g => by
    show a ++ p :: inter (L ++ b :: M) (ps ++ qs) = _
    rw [inter_at L M b ps qs (by simpa using h) g, pre_cons]
    simp
  | [], _, _, _ :: _, _, h, _ => by cases h
  | _ :: _, _, _, [], _, h, _ => by cases h
theorem pre_snoc : ∀ (L : List (List Pr)) (ps : List Pr) (a : List Pr) (p : Pr), L.length = ps.length → pre (L ++ [a]) (ps ++ [p]) = pre L ps ++ (a ++ [p])
  | [], [], a, p, _ => by
    show pre (a :: []) (p :: []) = _
    rw [pre_cons]
    rfl
  | b :: L, q :: ps, a, p, h => by
    show pre (b :: (L ++ [a])) (q :: (ps ++ [p])) = _
    rw [pre_cons, pre_snoc L ps a p (by simpa using h), pre_cons]
    simp
  | [], _ :: _, _, _, h => by cases h
  | _ :: _, [], _, _, h => by cases h
/-- what a tree holds, from left to right -/
def flat : ∀ {d : Nat}, Tr d → List Pr
  | 0, t => t.1
  | d + 1, t => inter (t.2.map (flat (d := d))) t.1
/-- each node but the top has m to M pairs, and one kid more, or none; the top has its own bounds -/
def Nd (m M : Nat) : ∀ {d : Nat}, Nat → Nat → Tr d → Prop
  | 0, lo, hi, t => lo ≤ t.1.length ∧ t.1.length ≤ hi
  | d + 1, lo, hi, t => lo ≤ t.1.length ∧ t.1.length ≤ hi ∧ t.2.length = t.1.length + 1 ∧ ∀ k ∈ t.2, Nd m M (d := d) m M k
theorem Nd.mono {m M lo hi lo' hi' : Nat} : ∀ {d : Nat} {t : Tr d}, Nd m M lo hi t → lo' ≤ t.ps.length → t.ps.length ≤ hi' → Nd m M lo' hi' t
  | 0, _, _, h1, h2 => ⟨h1, h2⟩
  | _ + 1, _, h, h1, h2 => ⟨h1, h2, h.2.2.1, h.2.2.2⟩
theorem Nd.lo {m M lo hi : Nat} : ∀ {d : Nat} {t : Tr d}, Nd m M lo hi t → lo ≤ t.ps.length
  | 0, _, h => h.1
  | _ + 1, _, h => h.1
theorem Nd.hi {m M lo hi : Nat} : ∀ {d : Nat} {t : Tr d}, Nd m M lo hi t → t.ps.length ≤ hi
  | 0, _, h => h.2
  | _ + 1, _, h => h.2.1
/-! ### how many keys a tree has -/
theorem inter_len : ∀ (L : List (List Pr)) (ps : List Pr), L.length = ps.length + 1 → (inter L ps).length = ps.length + (L.map List.length).sum
  | [a], [], _ => by simp [inter]
  | a :: b :: L, p :: ps, h => by
    show (a ++ p :: inter (b :: L) ps).length = _
    rw [List.length_append, List.length_cons, inter_len (b :: L) ps (by simpa using h)]
    simp
    omega
  | [], _, h => by cases h
  | [a], _ :: _, h => by cases h
  | _ :: _ :: _, [], h => by cases h
theorem sum_ge {α : Type} (f : α → Nat) (b : Nat) : ∀ l : List α, (∀ x ∈ l, b ≤ f x) → l.length * b ≤ (l.map f).sum
  | [], _ => by simp
  | x :: l, h => by
    have h1 := sum_ge f b l fun y hy => h y (List.mem_cons_of_mem _ hy)
    have h2 := h x (List.mem_cons_self ..)
    rw [List.map_cons, List.sum_cons, List.length_cons, Nat.succ_mul]
    omega
/-- a node that is not the top has at least (m + 1) to the power of its levels, less one, keys -/
theorem flat_ge {m M : Nat} : ∀ {d : Nat} {t : Tr d} {lo hi : Nat}, Nd m M lo hi t → (lo + 1) * (m + 1) ^ d ≤ (flat t).length + 1
  | 0, t, lo, hi, h => by
    show (lo + 1) * 1 ≤ t.1.length + 1
    have := h.1
    omega
  | d + 1, t, lo, hi, h => by
    obtain ⟨h1, h2, h3, h4⟩ := h
    show _ ≤ (inter (t.2.map flat) t.1).length + 1
    rw [inter_len _ _ (by rw [List.length_map]; exact h3), List.map_map]
    have h5 : t.2.length * ((m + 1) ^ (d + 1) - 1) ≤ (t.2.map (List.length ∘ flat)).sum := sum_ge _ _ _ fun k hk => by
      have := flat_ge (h4 k hk)
      rw [Nat.pow_succ, Nat.mul_comm ((m + 1) ^ d)]
      show _ ≤ (flat k).length
      omega
    have hp : 1 ≤ (m + 1) ^ (d + 1) := Nat.one_le_pow _ _ (by omega)
    have h6 : t.2.length * ((m + 1) ^ (d + 1) - 1) + t.2.length = t.2.length * (m + 1) ^ (d + 1) := by
      rw [Nat.mul_sub, Nat.mul_one]
      have : t.2.length ≤ t.2.length * (m + 1) ^ (d + 1) := Nat.le_mul_of_pos_right _ (by omega)
      omega
    have h7 : (lo + 1) * (m + 1) ^ (d + 1) ≤ t.2.length * (m + 1) ^ (d + 1) := Nat.mul_le_mul_right _ (by omega)
    omega
/-! ### what lies ahead of a place is below the key, what lies behind it above -/
theorem mem_pre : ∀ {L : List (List Pr)} {ps : List Pr} {x : Pr}, x ∈ pre L ps → x ∈ ps ∨ ∃ a ∈ L, x ∈ a
  | a :: L, p :: ps, x, h => by
    rw [pre_cons] at h
    rcases List.mem_append.1 h with h | h
    · exact .inr ⟨a, List.mem_cons_self .., h⟩
    · rcases List.mem_cons.1 h with h | h
      · exact .inl (by rw [h]; exact List.mem_cons_self ..)
      · rcases mem_pre h with h | ⟨b, hb, h⟩
        · exact .inl (List.mem_cons_of_mem _ h)
        · exact .inr ⟨b, List.mem_cons_of_mem _ hb, h⟩
  | [], _, _, h => by cases h
  | _ :: _, [], _, h => by cases h
theorem pre_bel {k : Key} : ∀ {L : List (List Pr)} {ps : List Pr}, Srt (pre L ps) → Bel ps k → L.length = ps.length → Bel (pre L ps) k
  | [], [], _, _, _ => fun p hp => by cases hp
  | a :: L, p :: ps, hs, hb, h => by
    rw [pre_cons] at hs ⊢
    have hp : klt p.1 k = true := hb p (List.mem_cons_self ..)
    obtain ⟨_, h2, h3⟩ := srt_app.1 hs
    intro x hx
    rcases List.mem_append.1 hx with hx | hx
    · exact klt_tr (h3 x hx p (List.mem_cons_self ..)) hp
    · rcases List.mem_cons.1 hx with rfl | hx
      · exact hp
      · exact pre_bel (List.pairwise_cons.1 h2).2 (fun q hq => hb q (List.mem_cons_of_mem _ hq)) (by simpa using h) x hx
  | [], _ :: _, _, _, h => by cases h
  | _ :: _, [], _, _, h => by cases h
theorem post_abo {k : Key} {p : Pr} {ps : List Pr} {M : List (List Pr)} (hs : Srt (post (p :: ps) M)) (hk : klt k p.1 = true) : Abo (post (p :: ps) M) k := by
  cases M with
  | nil => intro x hx; cases hx
  | cons a M =>
    rw [post_cons] at hs ⊢
    intro x hx
    rcases List.mem_cons.1 hx with rfl | hx
    · exact hk
    · exact klt_tr hk ((List.pairwise_cons.1 hs).1 x hx)
/-- a tree's top at the place of a key: ahead, the kid there, behind -/
theorem at_fnd {L : List (List Pr)} {ps : List Pr} (k : Key) (h : L.length = ps.length + 1) (hs : Srt (inter L ps)) :
    ∃ A b B, L = A ++ b :: B ∧ A.length = fnd k ps ∧ B.length = (ps.drop (fnd k ps)).length ∧ L[fnd k ps]? = some b ∧ inter L ps = pre A (ps.take (fnd k ps)) ++ (b ++ post (ps.drop (fnd k ps)) B) ∧
      Srt b ∧ Bel (pre A (ps.take (fnd k ps))) k ∧ ((∀ p, ps[fnd k ps]? = some p → p.1 ≠ k) → Abo (post (ps.drop (fnd k ps)) B) k) := by
  obtain ⟨i, hi⟩ : ∃ i, i = fnd k ps := ⟨_, rfl⟩
  have hle : i ≤ ps.length := by rw [hi]; exact fnd_le k ps
  have hlt : i < L.length := by omega
  rw [← hi]
  have e1 : L = L.take i ++ L[i] :: L.drop (i + 1) := by rw [← List.drop_eq_getElem_cons hlt, List.take_append_drop]
  have l1 : (L.take i).length = (ps.take i).length := by rw [List.length_take, List.length_take]; omega
  have l2 : (L.drop (i + 1)).length = (ps.drop i).length := by rw [List.length_drop, List.length_drop]; omega
  have e2 : inter L ps = pre (L.take i) (ps.take i) ++ (L[i] ++ post (ps.drop i) (L.drop (i + 1))) := by
    conv => lhs; rw [e1, ← List.take_append_drop i ps]
    exact inter_at _ _ _ _ _ l1 l2
  have hs2 := hs
  rw [e2] at hs2
  obtain ⟨s1, s2, _⟩ := srt_app.1 hs2
  obtain ⟨s3, s4, _⟩ := srt_app.1 s2
  refine ⟨L.take i, L[i], L.drop (i + 1), e1, by rw [List.length_take]; omega, l2, List.getElem?_eq_getElem hlt, e2, s3, pre_bel s1 (by rw [hi]; exact fnd_bel k ps) l1, fun hne => ?_⟩
  cases hd : ps.drop i with
  | nil =>
    intro x hx
    unfold post at hx
    simp at hx
  | cons p qs =>
    have hp : ps[i]? = some p := by
      have : (ps.drop i)[0]? = some p := by rw [hd]; rfl
      rwa [List.getElem?_drop, Nat.add_zero] at this
    have hk : klt k p.1 = true := by
      cases hkp : klt k p.1 with
      | true => rfl
      | false => exact absurd (klt_eq (fnd_at (by rw [← hi]; exact hp)) hkp) (hne p hp)
    rw [hd] at s4
    exact post_abo s4 hk
end Go.Proofs.Ytmlkdkbpbleilaa.Ix
namespace Go.Proofs.Ytmlkdkbpbleilaa.Ix
set_option linter.unusedVariables false
/-- two halves of a node, and the pair between them -/
def splitL : ∀ {d : Nat}, Tr d → Tr d
  | 0, t => (t.1.take (t.1.length / 2), ())
  | _ + 1, t => (t.1.take (t.1.length / 2), t.2.take (t.1.length / 2 + 1))
def splitM {d : Nat} (t : Tr d) : Pr := (t.ps)[t.ps.length / 2]?.getD ([], 0)
def splitR : ∀ {d : Nat}, Tr d → Tr d
  | 0, t => (t.1.drop (t.1.length / 2 + 1), ())
  | _ + 1, t => (t.1.drop (t.1.length / 2 + 1), t.2.drop (t.1.length / 2 + 1))
theorem ps_half {ps : List Pr} (h : 1 ≤ ps.length) : ps = ps.take (ps.length / 2) ++ (ps[ps.length / 2]?.getD ([], 0)) :: ps.drop (ps.length / 2 + 1) := by
  have hl : ps.length / 2 < ps.length := by omega
  rw [List.getElem?_eq_getElem hl]
  show ps = ps.take (ps.length / 2) ++ ps[ps.length / 2] :: ps.drop (ps.length / 2 + 1)
  rw [← List.drop_eq_getElem_cons hl, List.take_append_drop]
/-- the lists of a node cut in two -/
theorem inter_two : ∀ {A B : List (List Pr)} {x y : List Pr} {P Q : List Pr} {p : Pr}, A.length = P.length → B.length = Q.length → inter (A ++ x :: y :: B) (P ++ p :: Q) = pre A P ++ (x ++ p :: (y ++ post Q B)) := by
  intro A B x y P Q p h g
  rw [inter_at A (y :: B) x P (p :: Q) h (by simpa using g), post_cons]
  rfl
theorem inter_join : ∀ {A B : List (List Pr)} {x : List Pr} {P Q : List Pr}, A.length = P.length → B.length = Q.length → inter (A ++ x :: B) (P ++ Q) = pre A P ++ (x ++ post Q B) := by
  intro A B x P Q h g
  exact inter_at A B x P Q h g
theorem inter_cut : ∀ {L M : List (List Pr)} {P Q : List Pr} {p : Pr}, L.length = P.length + 1 → M.length = Q.length + 1 → inter (L ++ M) (P ++ p :: Q) = inter L P ++ p :: inter M Q
  | [a], M, [], Q, p, _, _ => by
    show a ++ p :: inter M Q = (a ++ []) ++ p :: inter M Q
    rw [List.append_nil]
  | a :: b :: L, M, q :: P, Q, p, h, g => by
    show a ++ q :: inter ((b :: L) ++ M) (P ++ p :: Q) = (a ++ q :: inter (b :: L) P) ++ p :: inter M Q
    rw [inter_cut (by simpa using h) g]
    simp
  | [], _, _, _, _, h, _ => by cases h
  | [a], _, _ :: _, _, _, h, _ => by cases h
  | _ :: _ :: _, _, [], _, _, h, _ => by cases h
theorem split_flat {m M lo hi : Nat} : ∀ {d : Nat} {t : Tr d}, Nd m M lo hi t → 1 ≤ t.ps.length → flat t = flat (splitL t) ++ splitM t :: flat (splitR t)
  | 0, t, _, h => ps_half h
  | d + 1, t, hn, h => by
    obtain ⟨_, _, h3, _⟩ := hn
    have h : 1 ≤ t.1.length := h
    show inter (t.2.map flat) t.1 = inter ((t.2.take (t.1.length / 2 + 1)).map flat) (t.1.take (t.1.length / 2)) ++ splitM t :: inter ((t.2.drop (t.1.length / 2 + 1)).map flat) (t.1.drop (t.1.length / 2 + 1))
    rw [← inter_cut (by rw [List.length_map, List.length_take, List.length_take]; omega) (by rw [List.length_map, List.length_drop, List.length_drop]; omega), ← List.map_append, List.take_append_drop]
    congr 1
    exact ps_half h
theorem split_nd {m M lo hi : Nat} : ∀ {d : Nat} {t : Tr d}, Nd m M lo hi t → t.ps.length = M + 1 → m = M / 2 → 1 ≤ M → Nd m M m M (splitL t) ∧ Nd m M m M (splitR t)
  | 0, t, hn, h, hm, h1 => by
    have h : t.1.length = M + 1 := h
    constructor
    · show m ≤ (t.1.take (t.1.length / 2)).length ∧ (t.1.take (t.1.length / 2)).length ≤ M
      rw [List.length_take]; omega
    · show m ≤ (t.1.drop (t.1.length / 2 + 1)).length ∧ (t.1.drop (t.1.length / 2 + 1)).length ≤ M
      rw [List.length_drop]; omega
  | d + 1, t, hn, h, hm, h1 => by
    obtain ⟨_, _, h3, h4⟩ := hn
    have h : t.1.length = M + 1 := h
    constructor
    · refine ⟨?_, ?_, ?_, fun k hk => h4 k (List.mem_of_mem_take hk)⟩
      · show m ≤ (t.1.take (t.1.length / 2)).length
        rw [List.length_take]; omega
      · show (t.1.take (t.1.length / 2)).length ≤ M
        rw [List.length_take]; omega
      · show (t.2.take (t.1.length / 2 + 1)).length = (t.1.take (t.1.length / 2)).length + 1
        rw [List.length_take, List.length_take]; omega
    · refine ⟨?_, ?_, ?_, fun k hk => h4 k (List.mem_of_mem_drop hk)⟩
      · show m ≤ (t.1.drop (t.1.length / 2 + 1)).length
        rw [List.length_drop]; omega
      · show (t.1.drop (t.1.length / 2 + 1)).length ≤ M
        rw [List.length_drop]; omega
      · show (t.2.drop (t.1.length / 2 + 1)).length = (t.1.drop (t.1.length / 2 + 1)).length + 1
        rw [List.length_drop, List.length_drop]; omega
/-- put, as the program does it -/
def tput (k : Key) (n : Int) (M : Nat) : ∀ {d : Nat}, Tr d → Tr d
  | 0, t => (if (t.1[fnd k t.1]?).map (·.1) = some k then t.1.set (fnd k t.1) (k, n) else t.1.take (fnd k t.1) ++ (k, n) :: t.1.drop (fnd k t.1), ())
  | d + 1, t =>
    if (t.1[fnd k t.1]?).map (·.1) = some k then (t.1.set (fnd k t.1) (k, n), t.2)
    else match t.2[fnd k t.1]? with
      | none => t
      | some c =>
        if M < (tput k n M c).ps.length then (t.1.take (fnd k t.1) ++ splitM (tput k n M c) :: t.1.drop (fnd k t.1), t.2.take (fnd k t.1) ++ splitL (tput k n M c) :: splitR (tput k n M c) :: t.2.drop (fnd k t.1 + 1))
        else (t.1, t.2.set (fnd k t.1) (tput k n M c))
theorem set_at {α : Type} (l : List α) (i : Nat) (x : α) (h : i < l.length) : l.set i x = l.take i ++ x :: l.drop (i + 1) := by
  rw [List.set_eq_take_append_cons_drop, if_pos h]
/-- a pair of the top whose key is k: its number set -/
theorem inter_set {L : List (List Pr)} {ps : List Pr} {k : Key} {n : Int} (h : L.length = ps.length + 1) (hs : Srt (inter L ps)) (hk : (ps[fnd k ps]?).map (·.1) = some k) : inter L (ps.set (fnd k ps) (k, n)) = lput k n (inter L ps) := by
  obtain ⟨p, hp, hpk⟩ := Option.map_eq_some_iff.1 hk
  obtain ⟨hj, hpe⟩ := List.getElem?_eq_some_iff.1 hp
  obtain ⟨A, b, B, hL, hA, hB, hb, he, _, hbel, _⟩ := at_fnd k h hs
  rw [set_at _ _ _ hj]
  have hd : ps.drop (fnd k ps) = p :: ps.drop (fnd k ps + 1) := by rw [List.drop_eq_getElem_cons hj, hpe]
  rw [hd] at he hB
  cases B with
  | nil => cases hB
  | cons y B =>
    have l1 : A.length = (ps.take (fnd k ps)).length := by rw [List.length_take]; omega
    have l2 : B.length = (ps.drop (fnd k ps + 1)).length := by simpa using hB
    rw [post_cons] at he
    have hbb : Bel (pre A (ps.take (fnd k ps)) ++ b) k := hbel.app fun x hx => by
      rw [he] at hs
      obtain ⟨_, s2, _⟩ := srt_app.1 hs
      have := (srt_app.1 s2).2.2 x hx p (by simp)
      rwa [hpk] at this
    rw [he, hL, inter_two l1 l2, show pre A (ps.take (fnd k ps)) ++ (b ++ (p :: y ++ post (ps.drop (fnd k ps + 1)) B)) = (pre A (ps.take (fnd k ps)) ++ b) ++ (p :: (y ++ post (ps.drop (fnd k ps + 1)) B)) from by simp, lput_bel _ hbb]
    show _ = (pre A (ps.take (fnd k ps)) ++ b) ++ (if p.1 = k then _ else _)
    rw [if_pos hpk]
    simp
theorem tput_ok {k : Key} {n : Int} {m M : Nat} (hm : m = M / 2) (h2 : 2 ≤ M) : ∀ {d : Nat} {t : Tr d} {lo hi : Nat}, Nd m M lo hi t → Srt (flat t) → flat (tput k n M t) = lput k n (flat t) ∧ Nd m M lo (hi + 1) (tput k n M t)
  | 0, t, lo, hi, hn, hs => by
    have hs : Srt t.1 := hs
    constructor
    · show (if _ then _ else _) = lput k n t.1
      rw [lput_at hs]
    · obtain ⟨h3, h4⟩ := hn
      have := fnd_le k t.1
      show lo ≤ (if (t.1[fnd k t.1]?).map (·.1) = some k then t.1.set (fnd k t.1) (k, n) else t.1.take (fnd k t.1) ++ (k, n) :: t.1.drop (fnd k t.1)).length ∧ (if (t.1[fnd k t.1]?).map (·.1) = some k then t.1.set (fnd k t.1) (k, n) else t.1.take (fnd k t.1) ++ (k, n) :: t.1.drop (fnd k t.1)).length ≤ hi + 1
      by_cases hk : (t.1[fnd k t.1]?).map (·.1) = some k
      · rw [if_pos hk, List.length_set]; omega
      · rw [if_neg hk, List.length_append, List.length_cons, List.length_take, List.length_drop]
        omega
  | d + 1, t, lo, hi, hn, hs => by
    obtain ⟨h3, h4, h5, h6⟩ := hn
    have hs : Srt (inter (t.2.map flat) t.1) := hs
    have hlen : (t.2.map (flat (d := d))).length = t.1.length + 1 := by rw [List.length_map]; exact h5
    by_cases hk : (t.1[fnd k t.1]?).map (·.1) = some k
    · have e : tput k n M t = ((t.1.set (fnd k t.1) (k, n), t.2) : Tr (d + 1)) := if_pos hk
      rw [e]
      refine ⟨?_, ?_⟩
      · show inter (t.2.map flat) (t.1.set (fnd k t.1) (k, n)) = lput k n (inter (t.2.map flat) t.1)
        exact inter_set hlen hs hk
      · refine ⟨?_, ?_, ?_, h6⟩
        · show lo ≤ (t.1.set _ _).length
          rw [List.length_set]; exact h3
        · show (t.1.set _ _).length ≤ hi + 1
          rw [List.length_set]; omega
        · show t.2.length = (t.1.set _ _).length + 1
          rw [List.length_set]; exact h5
    · obtain ⟨A, b, B, hL, hA, hB, hb, he, hsb, hbel, habo⟩ := at_fnd k hlen hs
      have habo := habo fun p hp e => hk (by rw [hp, ← e]; rfl)
      have hle := fnd_le k t.1
      obtain ⟨c, hc, hcb⟩ : ∃ c, t.2[fnd k t.1]? = some c ∧ flat c = b := by
        rw [List.getElem?_map] at hb
        cases hq : t.2[fnd k t.1]? with
        | none => rw [hq] at hb; cases hb
        | some c => rw [hq] at hb; exact ⟨c, rfl, by simpa using hb⟩
      obtain ⟨hi2, hce⟩ := List.getElem?_eq_some_iff.1 hc
      have hcm : c ∈ t.2 := by rw [← hce]; exact List.getElem_mem hi2
      obtain ⟨r1, r2⟩ := tput_ok (k := k) (n := n) hm h2 (h6 c hcm) (by rw [hcb]; exact hsb)
      have e : tput k n M t = ((if M < (tput k n M c).ps.length then (t.1.take (fnd k t.1) ++ splitM (tput k n M c) :: t.1.drop (fnd k t.1), t.2.take (fnd k t.1) ++ splitL (tput k n M c) :: splitR (tput k n M c) :: t.2.drop (fnd k t.1 + 1)) else (t.1, t.2.set (fnd k t.1) (tput k n M c))) : Tr (d + 1)) := by
        refine (if_neg hk).trans ?_
        rw [hc]
      have l1 : A.length = (t.1.take (fnd k t.1)).length := by rw [List.length_take]; omega
      have hA2 : A = (t.2.take (fnd k t.1)).map flat := by
        have := congrArg (List.take (fnd k t.1)) hL
        rw [← List.map_take] at this
        rw [this, List.take_left' hA]
      have hB2 : B = (t.2.drop (fnd k t.1 + 1)).map flat := by
        have := congrArg (List.drop (fnd k t.1 + 1)) hL
        rw [← List.map_drop] at this
        rw [this, show A ++ b :: B = (A ++ [b]) ++ B from by simp, List.drop_left' (by simp; omega)]
      have hflat : lput k n (inter (t.2.map flat) t.1) = pre A (t.1.take (fnd k t.1)) ++ (lput k n b ++ post (t.1.drop (fnd k t.1)) B) := by
        rw [he, lput_mid hbel habo]
      by_cases hover : M < (tput k n M c).ps.length
      · rw [e.trans (if_pos hover)]
        have hM1 : (tput k n M c).ps.length = M + 1 := by have := r2.hi; omega
        have hsf := split_flat r2 (by omega)
        obtain ⟨n1, n2⟩ := split_nd r2 hM1 hm (by omega)
        refine ⟨?_, ?_⟩
        · show inter ((t.2.take (fnd k t.1) ++ splitL (tput k n M c) :: splitR (tput k n M c) :: t.2.drop (fnd k t.1 + 1)).map flat) (t.1.take (fnd k t.1) ++ splitM (tput k n M c) :: t.1.drop (fnd k t.1)) = lput k n (inter (t.2.map flat) t.1)
          rw [List.map_append, List.map_cons, List.map_cons, ← hA2, ← hB2, inter_two l1 hB, hflat, ← hcb, ← r1, hsf]
          simp
        · refine ⟨?_, ?_, ?_, ?_⟩
          · show lo ≤ (t.1.take _ ++ _ :: t.1.drop _).length
            rw [List.length_append, List.length_cons, List.length_take, List.length_drop]; omega
          · show (t.1.take _ ++ _ :: t.1.drop _).length ≤ hi + 1
            rw [List.length_append, List.length_cons, List.length_take, List.length_drop]; omega
          · show (t.2.take _ ++ _ :: _ :: t.2.drop _).length = (t.1.take _ ++ _ :: t.1.drop _).length + 1
            simp only [List.length_append, List.length_cons, List.length_take, List.length_drop]; omega
          · intro x hx
            have hx : x ∈ t.2.take _ ++ _ :: _ :: t.2.drop _ := hx
            simp only [List.mem_append, List.mem_cons] at hx
            rcases hx with hx | rfl | rfl | hx
            · exact h6 x (List.mem_of_mem_take hx)
            · exact n1
            · exact n2
            · exact h6 x (List.mem_of_mem_drop hx)
      · rw [e.trans (if_neg hover)]
        refine ⟨?_, ?_⟩
        · show inter ((t.2.set (fnd k t.1) (tput k n M c)).map flat) t.1 = lput k n (inter (t.2.map flat) t.1)
          rw [set_at _ _ _ hi2, List.map_append, List.map_cons, ← hA2, ← hB2, hflat, r1, hcb]
          have hj := inter_join (x := lput k n b) l1 hB
          rw [List.take_append_drop] at hj
          exact hj
        · refine ⟨h3, by show t.1.length ≤ hi + 1; omega, ?_, ?_⟩
          · show (t.2.set _ _).length = t.1.length + 1
            rw [List.length_set]; exact h5
          · intro x hx
            have hx : x ∈ t.2.set _ _ := hx
            rcases List.mem_or_eq_of_mem_set hx with hx | rfl
            · exact h6 x hx
            · exact r2.mono r2.lo (by omega)
end Go.Proofs.Ytmlkdkbpbleilaa.Ix
namespace Go.Proofs.Ytmlkdkbpbleilaa.Ix
set_option linter.unusedVariables false
def lastP (ps : List Pr) : Pr := ps[ps.length - 1]?.getD ([], 0)
theorem last_cut {α : Type} {l : List α} (h : 1 ≤ l.length) : ∃ x, l[l.length - 1]? = some x ∧ l = l.take (l.length - 1) ++ [x] := by
  have hl : l.length - 1 < l.length := by omega
  refine ⟨l[l.length - 1], List.getElem?_eq_getElem hl, ?_⟩
  have h2 : l.drop (l.length - 1) = [l[l.length - 1]] := by
    rw [List.drop_eq_getElem_cons hl, List.drop_eq_nil_of_le (by omega)]
  conv => lhs; rw [← List.take_append_drop (l.length - 1) l, h2]
theorem last_ps {ps : List Pr} (h : 1 ≤ ps.length) : ps = ps.take (ps.length - 1) ++ [lastP ps] := by
  obtain ⟨x, h1, h2⟩ := last_cut h
  have : lastP ps = x := by unfold lastP; rw [h1]; rfl
  rw [this]; exact h2
/-- a pair handed on from the node ahead -/
def lendL {d : Nat} (l : Tr d) (p : Pr) (c : Tr d) : Tr d × Pr × Tr d :=
  match d, l, c with
  | 0, l, c => ((l.1.take (l.1.length - 1), ()), lastP l.1, (p :: c.1, ()))
  | _ + 1, l, c => ((l.1.take (l.1.length - 1), l.2.take (l.2.length - 1)), lastP l.1, (p :: c.1, (l.2[l.2.length - 1]?).toList ++ c.2))
/-- a pair handed on from the node behind -/
def lendR {d : Nat} (c : Tr d) (p : Pr) (r : Tr d) : Tr d × Pr × Tr d :=
  match d, c, r with
  | 0, c, r => ((c.1 ++ [p], ()), r.1[0]?.getD ([], 0), (r.1.drop 1, ()))
  | _ + 1, c, r => ((c.1 ++ [p], c.2 ++ (r.2[0]?).toList), r.1[0]?.getD ([], 0), (r.1.drop 1, r.2.drop 1))
/-- two nodes and the pair between them in one -/
def joinK {d : Nat} (l : Tr d) (p : Pr) (r : Tr d) : Tr d :=
  match d, l, r with
  | 0, l, r => (l.1 ++ p :: r.1, ())
  | _ + 1, l, r => (l.1 ++ p :: r.1, l.2 ++ r.2)
theorem lendL_ok {m M lo hi lo2 hi2 : Nat} : ∀ {d : Nat} {l c : Tr d} {p : Pr}, Nd m M lo hi l → Nd m M lo2 hi2 c → 1 ≤ l.ps.length →
    flat (lendL l p c).1 ++ (lendL l p c).2.1 :: flat (lendL l p c).2.2 = flat l ++ p :: flat c ∧ Nd m M (lo - 1) (hi - 1) (lendL l p c).1 ∧ Nd m M (lo2 + 1) (hi2 + 1) (lendL l p c).2.2 ∧ (lendL l p c).1.ps.length = l.ps.length - 1 ∧ (lendL l p c).2.2.ps.length = c.ps.length + 1
  | 0, l, c, p, hl, hc, h => by
    obtain ⟨h1, h2⟩ := hl
    obtain ⟨h3, h4⟩ := hc
    have h : 1 ≤ l.1.length := h
    refine ⟨?_, ⟨?_, ?_⟩, ⟨?_, ?_⟩, ?_, rfl⟩
    · show l.1.take (l.1.length - 1) ++ lastP l.1 :: (p :: c.1) = l.1 ++ p :: c.1
      conv => rhs; rw [last_ps h]
      simp
    · show lo - 1 ≤ (l.1.take (l.1.length - 1)).length
      rw [List.length_take]; omega
    · show (l.1.take (l.1.length - 1)).length ≤ hi - 1
      rw [List.length_take]; omega
    · show lo2 + 1 ≤ (p :: c.1).length
      rw [List.length_cons]; omega
    · show (p :: c.1).length ≤ hi2 + 1
      rw [List.length_cons]; omega
    · show (l.1.take (l.1.length - 1)).length = l.1.length - 1
      rw [List.length_take]; omega
  | d + 1, l, c, p, hl, hc, h => by
    obtain ⟨h1, h2, h3, h4⟩ := hl
    obtain ⟨h5, h6, h7, h8⟩ := hc
    have h : 1 ≤ l.1.length := h
    obtain ⟨x, hx, hxl⟩ := last_cut (l := l.2) (by omega)
    have hxm : x ∈ l.2 := by rw [hxl]; simp
    refine ⟨?_, ⟨?_, ?_, ?_, ?_⟩, ⟨?_, ?_, ?_, ?_⟩, ?_, rfl⟩
    · show inter ((l.2.take (l.2.length - 1)).map flat) (l.1.take (l.1.length - 1)) ++ lastP l.1 :: inter (((l.2[l.2.length - 1]?).toList ++ c.2).map flat) (p :: c.1) = inter (l.2.map flat) l.1 ++ p :: inter (c.2.map flat) c.1
      rw [hx]
      show _ ++ lastP l.1 :: (flat x ++ p :: inter (c.2.map flat) c.1) = _
      have e : inter (l.2.map flat) l.1 = inter ((l.2.take (l.2.length - 1)).map flat) (l.1.take (l.1.length - 1)) ++ lastP l.1 :: flat x := by
        conv => lhs; rw [hxl, last_ps h, List.map_append]
        rw [show ([x] : List (Tr d)).map flat = [flat x] from rfl, inter_cut (by rw [List.length_map, List.length_take, List.length_take]; omega) rfl]
        show _ ++ _ :: (flat x ++ inter [] []) = _
        rw [show inter [] [] = ([] : List Pr) from rfl, List.append_nil]
      rw [e]
      simp
    · show lo - 1 ≤ (l.1.take (l.1.length - 1)).length
      rw [List.length_take]; omega
    · show (l.1.take (l.1.length - 1)).length ≤ hi - 1
      rw [List.length_take]; omega
    · show (l.2.take (l.2.length - 1)).length = (l.1.take (l.1.length - 1)).length + 1
      rw [List.length_take, List.length_take]; omega
    · intro k hk
      exact h4 k (List.mem_of_mem_take hk)
    · show lo2 + 1 ≤ (p :: c.1).length
      rw [List.length_cons]; omega
    · show (p :: c.1).length ≤ hi2 + 1
      rw [List.length_cons]; omega
    · show ((l.2[l.2.length - 1]?).toList ++ c.2).length = (p :: c.1).length + 1
      rw [hx]
      simp
      omega
    · intro k hk
      have hk : k ∈ (l.2[l.2.length - 1]?).toList ++ c.2 := hk
      rw [hx] at hk
      rcases List.mem_append.1 hk with hk | hk
      · have : k = x := by simpa using hk
        rw [this]; exact h4 x hxm
      · exact h8 k hk
    · show (l.1.take (l.1.length - 1)).length = l.1.length - 1
      rw [List.length_take]; omega
theorem head_cut {α : Type} {l : List α} (h : 1 ≤ l.length) : ∃ x, l[0]? = some x ∧ l = x :: l.drop 1 := by
  cases l with
  | nil => cases h
  | cons x l => exact ⟨x, rfl, rfl⟩
theorem lendR_ok {m M lo hi lo2 hi2 : Nat} : ∀ {d : Nat} {c r : Tr d} {p : Pr}, Nd m M lo hi c → Nd m M lo2 hi2 r → 1 ≤ r.ps.length →
    flat (lendR c p r).1 ++ (lendR c p r).2.1 :: flat (lendR c p r).2.2 = flat c ++ p :: flat r ∧ Nd m M (lo + 1) (hi + 1) (lendR c p r).1 ∧ Nd m M (lo2 - 1) (hi2 - 1) (lendR c p r).2.2 ∧ (lendR c p r).1.ps.length = c.ps.length + 1 ∧ (lendR c p r).2.2.ps.length = r.ps.length - 1
  | 0, c, r, p, hc, hr, h => by
    obtain ⟨h1, h2⟩ := hc
    obtain ⟨h3, h4⟩ := hr
    have h : 1 ≤ r.1.length := h
    obtain ⟨q, hq, hql⟩ := head_cut h
    refine ⟨?_, ⟨?_, ?_⟩, ⟨?_, ?_⟩, ?_, ?_⟩
    · show (c.1 ++ [p]) ++ r.1[0]?.getD ([], 0) :: r.1.drop 1 = c.1 ++ p :: r.1
      conv => rhs; rw [hql]
      rw [hq]
      simp
    · show lo + 1 ≤ (c.1 ++ [p]).length
      simp; omega
    · show (c.1 ++ [p]).length ≤ hi + 1
      simp; omega
    · show lo2 - 1 ≤ (r.1.drop 1).length
      rw [List.length_drop]; omega
    · show (r.1.drop 1).length ≤ hi2 - 1
      rw [List.length_drop]; omega
    · show (c.1 ++ [p]).length = c.1.length + 1
      simp
    · show (r.1.drop 1).length = r.1.length - 1
      rw [List.length_drop]
  | d + 1, c, r, p, hc, hr, h => by
    obtain ⟨h1, h2, h3, h4⟩ := hc
    obtain ⟨h5, h6, h7, h8⟩ := hr
    have h : 1 ≤ r.1.length := h
    obtain ⟨q, hq, hql⟩ := head_cut h
    obtain ⟨x, hx, hxl⟩ := head_cut (l := r.2) (by omega)
    have hxm : x ∈ r.2 := by rw [hxl]; simp
    refine ⟨?_, ⟨?_, ?_, ?_, ?_⟩, ⟨?_, ?_, ?_, ?_⟩, ?_, ?_⟩
    · show inter ((c.2 ++ (r.2[0]?).toList).map flat) (c.1 ++ [p]) ++ r.1[0]?.getD ([], 0) :: inter ((r.2.drop 1).map flat) (r.1.drop 1) = inter (c.2.map flat) c.1 ++ p :: inter (r.2.map flat) r.1
      have e : inter (r.2.map flat) r.1 = flat x ++ q :: inter ((r.2.drop 1).map flat) (r.1.drop 1) := by
        conv => lhs; rw [hxl, hql]
        rfl
      rw [hx, hq, e]
      show inter ((c.2 ++ [x]).map flat) (c.1 ++ [p]) ++ _ = _
      rw [List.map_append, show ([x] : List (Tr d)).map flat = [flat x] from rfl, inter_cut (by rw [List.length_map]; exact h3) rfl]
      show (_ ++ p :: (flat x ++ inter [] [])) ++ _ = _
      rw [show inter [] [] = ([] : List Pr) from rfl, List.append_nil]
      simp
    · show lo + 1 ≤ (c.1 ++ [p]).length
      simp; omega
    · show (c.1 ++ [p]).length ≤ hi + 1
      simp; omega
    · show (c.2 ++ (r.2[0]?).toList).length = (c.1 ++ [p]).length + 1
      rw [hx]
      simp
      omega
    · intro k hk
      have hk : k ∈ c.2 ++ (r.2[0]?).toList := hk
      rw [hx] at hk
      rcases List.mem_append.1 hk with hk | hk
      · exact h4 k hk
      · have : k = x := by simpa using hk
        rw [this]; exact h8 x hxm
    · show lo2 - 1 ≤ (r.1.drop 1).length
      rw [List.length_drop]; omega
    · show (r.1.drop 1).length ≤ hi2 - 1
      rw [List.length_drop]; omega
    · show (r.2.drop 1).length = (r.1.drop 1).length + 1
      rw [List.length_drop, List.length_drop]; omega
    · intro k hk
      exact h8 k (List.mem_of_mem_drop hk)
    · show (c.1 ++ [p]).length = c.1.length + 1
      simp
    · show (r.1.drop 1).length = r.1.length - 1
      rw [List.length_drop]
theorem joinK_ok {m M lo hi lo2 hi2 : Nat} : ∀ {d : Nat} {l r : Tr d} {p : Pr}, Nd m M lo hi l → Nd m M lo2 hi2 r →
    flat (joinK l p r) = flat l ++ p :: flat r ∧ Nd m M (lo + lo2 + 1) (hi + hi2 + 1) (joinK l p r) ∧ (joinK l p r).ps.length = l.ps.length + r.ps.length + 1
  | 0, l, r, p, hl, hr => by
    obtain ⟨h1, h2⟩ := hl
    obtain ⟨h3, h4⟩ := hr
    refine ⟨rfl, ⟨?_, ?_⟩, ?_⟩
    · show _ ≤ (l.1 ++ p :: r.1).length
      simp; omega
    · show (l.1 ++ p :: r.1).length ≤ _
      simp; omega
    · show (l.1 ++ p :: r.1).length = l.1.length + r.1.length + 1
      simp; omega
  | d + 1, l, r, p, hl, hr => by
    obtain ⟨h1, h2, h3, h4⟩ := hl
    obtain ⟨h5, h6, h7, h8⟩ := hr
    refine ⟨?_, ⟨?_, ?_, ?_, ?_⟩, ?_⟩
    · show inter ((l.2 ++ r.2).map flat) (l.1 ++ p :: r.1) = _
      rw [List.map_append, inter_cut (by rw [List.length_map]; exact h3) (by rw [List.length_map]; exact h7)]
      rfl
    · show _ ≤ (l.1 ++ p :: r.1).length
      simp; omega
    · show (l.1 ++ p :: r.1).length ≤ _
      simp; omega
    · show (l.2 ++ r.2).length = (l.1 ++ p :: r.1).length + 1
      simp; omega
    · intro k hk
      rcases List.mem_append.1 (show k ∈ l.2 ++ r.2 from hk) with hk | hk
      · exact h4 k hk
      · exact h8 k hk
    · show (l.1 ++ p :: r.1).length = l.1.length + r.1.length + 1
      simp; omega
/-! ### two neighbours in a node -/
theorem two_cut {α : Type} {l : List α} {j : Nat} {x y : α} (hx : l[j]? = some x) (hy : l[j + 1]? = some y) : l = l.take j ++ x :: y :: l.drop (j + 2) := by
  obtain ⟨h1, h2⟩ := List.getElem?_eq_some_iff.1 hx
  obtain ⟨h3, h4⟩ := List.getElem?_eq_some_iff.1 hy
  have e1 : l.drop j = x :: l.drop (j + 1) := by rw [List.drop_eq_getElem_cons h1, h2]
  have e2 : l.drop (j + 1) = y :: l.drop (j + 2) := by rw [List.drop_eq_getElem_cons h3, h4]
  rw [← e2, ← e1, List.take_append_drop]
theorem one_cut {α : Type} {l : List α} {j : Nat} {x : α} (hx : l[j]? = some x) : l = l.take j ++ x :: l.drop (j + 1) := by
  obtain ⟨h1, h2⟩ := List.getElem?_eq_some_iff.1 hx
  have e1 : l.drop j = x :: l.drop (j + 1) := by rw [List.drop_eq_getElem_cons h1, h2]
  rw [← e1, List.take_append_drop]
abbrev nodeT {d : Nat} (ps : List Pr) (ks : List (Tr d)) : Tr (d + 1) := (ps, ks)
def sz {d : Nat} (t : Tr (d + 1)) (j : Nat) : Nat := ((t.2[j]?).map (fun c => c.ps.length)).getD 0
def lendLeft {d : Nat} (i : Nat) (t : Tr (d + 1)) : Tr (d + 1) :=
  match t.2[i - 1]?, t.2[i]?, t.1[i - 1]? with
  | some l, some c, some p => (t.1.take (i - 1) ++ (lendL l p c).2.1 :: t.1.drop i, t.2.take (i - 1) ++ (lendL l p c).1 :: (lendL l p c).2.2 :: t.2.drop (i + 1))
  | _, _, _ => t
def lendRight {d : Nat} (i : Nat) (t : Tr (d + 1)) : Tr (d + 1) :=
  match t.2[i]?, t.2[i + 1]?, t.1[i]? with
  | some c, some r, some p => (t.1.take i ++ (lendR c p r).2.1 :: t.1.drop (i + 1), t.2.take i ++ (lendR c p r).1 :: (lendR c p r).2.2 :: t.2.drop (i + 2))
  | _, _, _ => t
def joinAt {d : Nat} (i : Nat) (t : Tr (d + 1)) : Tr (d + 1) :=
  match t.2[i]?, t.2[i + 1]?, t.1[i]? with
  | some l, some r, some p => (t.1.take i ++ t.1.drop (i + 1), t.2.take i ++ joinK l p r :: t.2.drop (i + 2))
  | _, _, _ => t
/-- a kid that has one pair too few is mended -/
def mend {d : Nat} (m i : Nat) (t : Tr (d + 1)) : Tr (d + 1) :=
  if m ≤ sz t i then t
  else if 0 < i ∧ m < sz t (i - 1) then lendLeft i t
  else if i + 1 < t.2.length ∧ m < sz t (i + 1) then lendRight i t
  else if 0 < i then joinAt (i - 1) t
  else joinAt i t
section
variable {d : Nat} {t : Tr (d + 1)} {m M lo hi : Nat}
theorem nb {i : Nat} (hlen : t.2.length = t.1.length + 1) (hi1 : i + 1 < t.2.length) : ∃ x y p, t.2[i]? = some x ∧ t.2[i + 1]? = some y ∧ t.1[i]? = some p ∧ t.2 = t.2.take i ++ x :: y :: t.2.drop (i + 2) ∧ t.1 = t.1.take i ++ p :: t.1.drop (i + 1) ∧
    flat t = pre ((t.2.take i).map flat) (t.1.take i) ++ (flat x ++ p :: (flat y ++ post (t.1.drop (i + 1)) ((t.2.drop (i + 2)).map flat))) ∧
    (∀ x' y' p', flat (nodeT (t.1.take i ++ p' :: t.1.drop (i + 1)) (t.2.take i ++ x' :: y' :: t.2.drop (i + 2))) = pre ((t.2.take i).map flat) (t.1.take i) ++ (flat x' ++ p' :: (flat y' ++ post (t.1.drop (i + 1)) ((t.2.drop (i + 2)).map flat)))) ∧
    (∀ z, flat (nodeT (t.1.take i ++ t.1.drop (i + 1)) (t.2.take i ++ z :: t.2.drop (i + 2))) = pre ((t.2.take i).map flat) (t.1.take i) ++ (flat z ++ post (t.1.drop (i + 1)) ((t.2.drop (i + 2)).map flat))) := by
  have g1 : t.2[i]? = some t.2[i] := List.getElem?_eq_getElem (by omega)
  have g2 : t.2[i + 1]? = some t.2[i + 1] := List.getElem?_eq_getElem hi1
  have g3 : t.1[i]? = some t.1[i] := List.getElem?_eq_getElem (by omega)
  have c1 := two_cut g1 g2
  have c2 := one_cut g3
  have l1 : ((t.2.take i).map (flat (d := d))).length = (t.1.take i).length := by rw [List.length_map, List.length_take, List.length_take]; omega
  have l2 : ((t.2.drop (i + 2)).map (flat (d := d))).length = (t.1.drop (i + 1)).length := by rw [List.length_map, List.length_drop, List.length_drop]; omega
  have hF : ∀ x' y' p', flat (nodeT (t.1.take i ++ p' :: t.1.drop (i + 1)) (t.2.take i ++ x' :: y' :: t.2.drop (i + 2))) = pre ((t.2.take i).map flat) (t.1.take i) ++ (flat x' ++ p' :: (flat y' ++ post (t.1.drop (i + 1)) ((t.2.drop (i + 2)).map flat))) := by
    intro x' y' p'
    show inter ((t.2.take i ++ x' :: y' :: t.2.drop (i + 2)).map flat) (t.1.take i ++ p' :: t.1.drop (i + 1)) = _
    rw [List.map_append, List.map_cons, List.map_cons, inter_two l1 l2]
  refine ⟨_, _, _, g1, g2, g3, c1, c2, ?_, hF, ?_⟩
  · rw [← hF]
    congr 1
    exact Prod.ext c2 c1
  · intro z
    show inter ((t.2.take i ++ z :: t.2.drop (i + 2)).map flat) (t.1.take i ++ t.1.drop (i + 1)) = _
    rw [List.map_append, List.map_cons, inter_join l1 l2]
theorem sz_at {j : Nat} {c : Tr d} (h : t.2[j]? = some c) : sz t j = c.ps.length := by unfold sz; rw [h]; rfl
theorem two_nd {i : Nat} {x y : Tr d} {p : Pr} (hlen : t.2.length = t.1.length + 1) (hi1 : i + 1 < t.2.length) (h1 : lo ≤ t.1.length) (h2 : t.1.length ≤ hi) (hk : ∀ j c, t.2[j]? = some c → j ≠ i → j ≠ i + 1 → Nd m M m M c) (hx : Nd m M m M x) (hy : Nd m M m M y) :
    Nd m M lo hi (nodeT (t.1.take i ++ p :: t.1.drop (i + 1)) (t.2.take i ++ x :: y :: t.2.drop (i + 2))) := by
  refine ⟨?_, ?_, ?_, ?_⟩
  · show lo ≤ (t.1.take i ++ p :: t.1.drop (i + 1)).length
    simp only [List.length_append, List.length_cons, List.length_take, List.length_drop]; omega
  · show (t.1.take i ++ p :: t.1.drop (i + 1)).length ≤ hi
    simp only [List.length_append, List.length_cons, List.length_take, List.length_drop]; omega
  · show (t.2.take i ++ x :: y :: t.2.drop (i + 2)).length = (t.1.take i ++ p :: t.1.drop (i + 1)).length + 1
    simp only [List.length_append, List.length_cons, List.length_take, List.length_drop]; omega
  · intro k hkm
    have hkm : k ∈ t.2.take i ++ x :: y :: t.2.drop (i + 2) := hkm
    simp only [List.mem_append, List.mem_cons] at hkm
    rcases hkm with hkm | rfl | rfl | hkm
    · obtain ⟨j, hj, hje⟩ := List.mem_iff_getElem.1 hkm
      have hj2 : j < i := by rw [List.length_take] at hj; omega
      exact hk j k (by rw [← hje, List.getElem_take]; exact List.getElem?_eq_getElem _) (by omega) (by omega)
    · exact hx
    · exact hy
    · obtain ⟨j, hj, hje⟩ := List.mem_iff_getElem.1 hkm
      exact hk (i + 2 + j) k (by rw [← hje, List.getElem_drop]; exact List.getElem?_eq_getElem _) (by omega) (by omega)
theorem join_nd {i : Nat} {z : Tr d} (hlen : t.2.length = t.1.length + 1) (hi1 : i + 1 < t.2.length) (h1 : lo ≤ t.1.length) (h2 : t.1.length ≤ hi) (hk : ∀ j c, t.2[j]? = some c → j ≠ i → j ≠ i + 1 → Nd m M m M c) (hz : Nd m M m M z) :
    Nd m M (lo - 1) hi (nodeT (t.1.take i ++ t.1.drop (i + 1)) (t.2.take i ++ z :: t.2.drop (i + 2))) := by
  refine ⟨?_, ?_, ?_, ?_⟩
  · show lo - 1 ≤ (t.1.take i ++ t.1.drop (i + 1)).length
    simp only [List.length_append, List.length_take, List.length_drop]; omega
  · show (t.1.take i ++ t.1.drop (i + 1)).length ≤ hi
    simp only [List.length_append, List.length_take, List.length_drop]; omega
  · show (t.2.take i ++ z :: t.2.drop (i + 2)).length = (t.1.take i ++ t.1.drop (i + 1)).length + 1
    simp only [List.length_append, List.length_cons, List.length_take, List.length_drop]; omega
  · intro k hkm
    have hkm : k ∈ t.2.take i ++ z :: t.2.drop (i + 2) := hkm
    simp only [List.mem_append, List.mem_cons] at hkm
    rcases hkm with hkm | rfl | hkm
    · obtain ⟨j, hj, hje⟩ := List.mem_iff_getElem.1 hkm
      have hj2 : j < i := by rw [List.length_take] at hj; omega
      exact hk j k (by rw [← hje, List.getElem_take]; exact List.getElem?_eq_getElem _) (by omega) (by omega)
    · exact hz
    · obtain ⟨j, hj, hje⟩ := List.mem_iff_getElem.1 hkm
      exact hk (i + 2 + j) k (by rw [← hje, List.getElem_drop]; exact List.getElem?_eq_getElem _) (by omega) (by omega)
theorem mend_ok {i : Nat} (hm : m = M / 2) (h2 : 2 ≤ M) (hlen : t.2.length = t.1.length + 1) (hp : 1 ≤ t.1.length) (hlo : lo ≤ t.1.length) (hhi : t.1.length ≤ hi) (hi1 : i < t.2.length)
    (hk : ∀ j c, t.2[j]? = some c → j ≠ i → Nd m M m M c) (hc : ∀ c, t.2[i]? = some c → Nd m M (m - 1) M c) : flat (mend m i t) = flat t ∧ Nd m M (lo - 1) hi (mend m i t) := by
  have gi : t.2[i]? = some t.2[i] := List.getElem?_eq_getElem hi1
  have hci := hc _ gi
  unfold mend
  by_cases c1 : m ≤ sz t i
  · rw [if_pos c1]
    refine ⟨rfl, by omega, hhi, hlen, fun k hkm => ?_⟩
    obtain ⟨j, hj, hje⟩ := List.mem_iff_getElem.1 hkm
    have hg : t.2[j]? = some k := by rw [← hje]; exact List.getElem?_eq_getElem _
    by_cases e : j = i
    · subst e
      rw [sz_at hg] at c1
      exact (hc k hg).mono c1 (hc k hg).hi
    · exact hk j k hg e
  · rw [if_neg c1]
    rw [sz_at gi] at c1
    have hcl := hci.lo
    by_cases c2 : 0 < i ∧ m < sz t (i - 1)
    · rw [if_pos c2]
      obtain ⟨j, rfl⟩ : ∃ j, i = j + 1 := ⟨i - 1, by omega⟩
      obtain ⟨x, y, p, g1, g2, g3, _, _, hf, hF, _⟩ := nb (i := j) hlen hi1
      have hxk := hk j x g1 (by omega)
      have hyk := hc y g2
      obtain ⟨_, c2⟩ := c2
      rw [show j + 1 - 1 = j from rfl, sz_at g1] at c2
      have hye : y = t.2[j + 1] := by rw [g2] at gi; exact Option.some.inj gi
      rw [← hye] at c1
      obtain ⟨q1, q2, q3, q4, q5⟩ := lendL_ok (p := p) hxk hyk (by omega)
      have e : lendLeft (j + 1) t = (nodeT (t.1.take j ++ (lendL x p y).2.1 :: t.1.drop (j + 1)) (t.2.take j ++ (lendL x p y).1 :: (lendL x p y).2.2 :: t.2.drop (j + 2))) := by
        unfold lendLeft
        rw [show j + 1 - 1 = j from rfl, g1, g2, g3]
      rw [e]
      refine ⟨?_, ?_⟩
      · rw [hF, hf]
        congr 1
        have := congrArg (· ++ post (t.1.drop (j + 1)) ((t.2.drop (j + 2)).map flat)) q1
        simpa using this
      · exact (two_nd hlen hi1 hlo hhi (fun j' c hj' a b => hk j' c hj' b) (q2.mono (by omega) (by have := hxk.hi; omega)) (q3.mono (by have := hyk.lo; omega) (by omega))).mono (by
          show lo - 1 ≤ (t.1.take j ++ _ :: t.1.drop (j + 1)).length
          simp only [List.length_append, List.length_cons, List.length_take, List.length_drop]; omega) (by
          show (t.1.take j ++ _ :: t.1.drop (j + 1)).length ≤ hi
          simp only [List.length_append, List.length_cons, List.length_take, List.length_drop]; omega)
    · rw [if_neg c2]
      by_cases c3 : i + 1 < t.2.length ∧ m < sz t (i + 1)
      · rw [if_pos c3]
        obtain ⟨x, y, p, g1, g2, g3, _, _, hf, hF, _⟩ := nb (i := i) hlen c3.1
        have hxk := hc x g1
        have hyk := hk (i + 1) y g2 (by omega)
        obtain ⟨c31, c3⟩ := c3
        rw [sz_at g2] at c3
        have hxe : x = t.2[i] := by rw [g1] at gi; exact Option.some.inj gi
        rw [← hxe] at c1
        obtain ⟨q1, q2, q3, q4, q5⟩ := lendR_ok (p := p) hxk hyk (by omega)
        have e : lendRight i t = (nodeT (t.1.take i ++ (lendR x p y).2.1 :: t.1.drop (i + 1)) (t.2.take i ++ (lendR x p y).1 :: (lendR x p y).2.2 :: t.2.drop (i + 2))) := by
          unfold lendRight
          rw [g1, g2, g3]
        rw [e]
        refine ⟨?_, ?_⟩
        · rw [hF, hf]
          congr 1
          have := congrArg (· ++ post (t.1.drop (i + 1)) ((t.2.drop (i + 2)).map flat)) q1
          simpa using this
        · exact (two_nd hlen c31 hlo hhi (fun j' c hj' a b => hk j' c hj' a) (q2.mono (by have := hxk.lo; omega) (by omega)) (q3.mono (by omega) (by have := hyk.hi; omega))).mono (by
            show lo - 1 ≤ (t.1.take i ++ _ :: t.1.drop (i + 1)).length
            simp only [List.length_append, List.length_cons, List.length_take, List.length_drop]; omega) (by
            show (t.1.take i ++ _ :: t.1.drop (i + 1)).length ≤ hi
            simp only [List.length_append, List.length_cons, List.length_take, List.length_drop]; omega)
      · rw [if_neg c3]
        by_cases c4 : 0 < i
        · rw [if_pos c4]
          obtain ⟨j, rfl⟩ : ∃ j, i = j + 1 := ⟨i - 1, by omega⟩
          obtain ⟨x, y, p, g1, g2, g3, _, _, hf, _, hJ⟩ := nb (i := j) hlen hi1
          have hxk := hk j x g1 (by omega)
          have hyk := hc y g2
          have c2' : ¬ m < x.ps.length := fun e => c2 ⟨by omega, by rw [show j + 1 - 1 = j from rfl, sz_at g1]; exact e⟩
          have hye : y = t.2[j + 1] := by rw [g2] at gi; exact Option.some.inj gi
          rw [← hye] at c1
          obtain ⟨q1, q2, q3⟩ := joinK_ok (p := p) hxk hyk
          have e : joinAt (j + 1 - 1) t = (nodeT (t.1.take j ++ t.1.drop (j + 1)) (t.2.take j ++ joinK x p y :: t.2.drop (j + 2))) := by
            unfold joinAt
            rw [show j + 1 - 1 = j from rfl, g1, g2, g3]
          rw [e]
          refine ⟨?_, ?_⟩
          · rw [hJ, hf, q1]
            simp
          · exact join_nd hlen hi1 hlo hhi (fun j' c hj' a b => hk j' c hj' b) (q2.mono (by have := hxk.lo; omega) (by omega))
        · rw [if_neg c4]
          obtain rfl : i = 0 := by omega
          obtain ⟨x, y, p, g1, g2, g3, _, _, hf, _, hJ⟩ := nb (i := 0) hlen (by omega)
          have hxk := hc x g1
          have hyk := hk 1 y g2 (by omega)
          have c3' : ¬ m < y.ps.length := fun e => c3 ⟨by omega, by rw [sz_at g2]; exact e⟩
          have hxe : x = t.2[0] := by rw [g1] at gi; exact Option.some.inj gi
          rw [← hxe] at c1
          obtain ⟨q1, q2, q3⟩ := joinK_ok (p := p) hxk hyk
          have e : joinAt 0 t = (nodeT (t.1.take 0 ++ t.1.drop (0 + 1)) (t.2.take 0 ++ joinK x p y :: t.2.drop (0 + 2))) := by
            unfold joinAt
            rw [g1, g2, g3]
          rw [e]
          refine ⟨?_, ?_⟩
          · rw [hJ, hf, q1]
            simp
          · exact join_nd hlen (by omega) hlo hhi (fun j' c hj' a b => hk j' c hj' a) (q2.mono (by have := hyk.lo; omega) (by omega))
end
end Go.Proofs.Ytmlkdkbpbleilaa.Ix
namespace Go.Proofs.Ytmlkdkbpbleilaa.Ix
set_option linter.unusedVariables false
/-- the pair with the highest key taken away -/
def tlast (m : Nat) : ∀ {d : Nat}, Tr d → Pr × Tr d
  | 0, t => (lastP t.1, (t.1.take (t.1.length - 1), ()))
  | d + 1, t => match t.2[t.2.length - 1]? with
    | none => (([], 0), t)
    | some c => ((tlast m c).1, mend m (t.2.length - 1) (nodeT t.1 (t.2.set (t.2.length - 1) (tlast m c).2)))
/-- drop, as the program does it -/
def tdrop (k : Key) (m : Nat) : ∀ {d : Nat}, Tr d → Tr d
  | 0, t => (if (t.1[fnd k t.1]?).map (·.1) = some k then t.1.take (fnd k t.1) ++ t.1.drop (fnd k t.1 + 1) else t.1, ())
  | d + 1, t => match t.2[fnd k t.1]? with
    | none => t
    | some c =>
      if (t.1[fnd k t.1]?).map (·.1) = some k then mend m (fnd k t.1) (nodeT (t.1.set (fnd k t.1) (tlast m c).1) (t.2.set (fnd k t.1) (tlast m c).2))
      else mend m (fnd k t.1) (nodeT t.1 (t.2.set (fnd k t.1) (tdrop k m c)))
theorem set_kids {d : Nat} {ks : List (Tr d)} {i : Nat} {c : Tr d} {m M : Nat} (h : ∀ k ∈ ks, Nd m M m M k) (hc : Nd m M (m - 1) M c) :
    (∀ j x, (ks.set i c)[j]? = some x → j ≠ i → Nd m M m M x) ∧ (∀ x, (ks.set i c)[i]? = some x → Nd m M (m - 1) M x) := by
  constructor
  · intro j x hj hne
    rw [List.getElem?_set_ne (fun e => hne e.symm)] at hj
    exact h x (List.mem_of_getElem? hj)
  · intro x hx
    rw [List.getElem?_set] at hx
    rw [if_pos rfl] at hx
    split at hx
    · obtain rfl := Option.some.inj hx
      exact hc
    · cases hx
theorem tlast_ok {m M : Nat} (hm : m = M / 2) (h2 : 2 ≤ M) : ∀ {d : Nat} {t : Tr d} {lo hi : Nat}, Nd m M lo hi t → 1 ≤ lo → flat t = flat (tlast m t).2 ++ [(tlast m t).1] ∧ Nd m M (lo - 1) hi (tlast m t).2
  | 0, t, lo, hi, hn, h1 => by
    obtain ⟨h3, h4⟩ := hn
    refine ⟨last_ps (ps := t.1) (by omega), ?_, ?_⟩
    · show lo - 1 ≤ (t.1.take (t.1.length - 1)).length
      rw [List.length_take]; omega
    · show (t.1.take (t.1.length - 1)).length ≤ hi
      rw [List.length_take]; omega
  | d + 1, t, lo, hi, hn, h1 => by
    obtain ⟨h3, h4, h5, h6⟩ := hn
    obtain ⟨c, hc, hcl⟩ := last_cut (l := t.2) (by omega)
    have hcm : c ∈ t.2 := List.mem_of_getElem? hc
    obtain ⟨r1, r2⟩ := tlast_ok hm h2 (h6 c hcm) (by omega)
    have e : tlast m t = ((tlast m c).1, mend m (t.2.length - 1) (nodeT t.1 (t.2.set (t.2.length - 1) (tlast m c).2))) := by
      conv => lhs; unfold tlast
      rw [hc]
    rw [e]
    obtain ⟨s1, s2⟩ := set_kids (i := t.2.length - 1) h6 r2
    have hl : (t.2.set (t.2.length - 1) (tlast m c).2).length = t.2.length := List.length_set ..
    obtain ⟨q1, q2⟩ := mend_ok (t := nodeT t.1 (t.2.set (t.2.length - 1) (tlast m c).2)) (lo := lo) (hi := hi) (i := t.2.length - 1) hm h2 (hl.trans h5) (by show 1 ≤ t.1.length; omega) h3 h4 (by show _ < (t.2.set (t.2.length - 1) (tlast m c).2).length; omega) s1 s2
    refine ⟨?_, q2⟩
    rw [q1]
    have hlt : t.2.length - 1 < t.2.length := by omega
    have l1 : ((t.2.take (t.2.length - 1)).map (flat (d := d))).length = (t.1).length := by rw [List.length_map, List.length_take]; omega
    have f1 : flat t = pre ((t.2.take (t.2.length - 1)).map flat) t.1 ++ (flat c ++ post [] []) := by
      show inter (t.2.map flat) t.1 = _
      conv => lhs; rw [hcl, List.map_append]
      have := inter_at ((t.2.take (t.2.length - 1)).map flat) [] (flat c) t.1 [] l1 rfl
      rw [List.append_nil] at this
      exact this
    have f2 : flat (nodeT t.1 (t.2.set (t.2.length - 1) (tlast m c).2)) = pre ((t.2.take (t.2.length - 1)).map flat) t.1 ++ (flat (tlast m c).2 ++ post [] []) := by
      show inter ((t.2.set (t.2.length - 1) (tlast m c).2).map flat) t.1 = _
      rw [set_at _ _ _ hlt, List.drop_eq_nil_of_le (by omega), List.map_append]
      have := inter_at ((t.2.take (t.2.length - 1)).map flat) [] (flat (tlast m c).2) t.1 [] l1 rfl
      rw [List.append_nil] at this
      exact this
    have hp : post [] [] = [] := rfl
    rw [f1, f2, r1, hp]
    simp
theorem ldrop_at {k : Key} {l : List Pr} (hs : Srt l) : ldrop k l = if (l[fnd k l]?.map (·.1)) = some k then l.take (fnd k l) ++ l.drop (fnd k l + 1) else l := by
  have hb := fnd_bel k l
  obtain ⟨h1, h2⟩ := fnd_abo (k := k) hs
  have e : l = l.take (fnd k l) ++ l.drop (fnd k l) := (List.take_append_drop _ _).symm
  by_cases h : (l[fnd k l]?.map (·.1)) = some k
  · rw [if_pos h]
    obtain ⟨p, hp, hk⟩ := Option.map_eq_some_iff.1 h
    obtain ⟨hj, hpe⟩ := List.getElem?_eq_some_iff.1 hp
    have hd : l.drop (fnd k l) = p :: l.drop (fnd k l + 1) := by rw [List.drop_eq_getElem_cons hj, hpe]
    conv => lhs; rw [e, ldrop_app, ldrop_bel hb, hd]
    congr 1
    unfold ldrop
    rw [List.filter_cons_of_neg (by simp [hk])]
    exact ldrop_abo (h1 p hp hk)
  · rw [if_neg h]
    have ha := h2 fun p hp e => h (by rw [hp, ← e]; rfl)
    conv => lhs; rw [e, ldrop_app, ldrop_bel hb, ldrop_abo ha]
    exact e.symm
theorem tdrop_ok {k : Key} {m M : Nat} (hm : m = M / 2) (h2 : 2 ≤ M) : ∀ {d : Nat} {t : Tr d} {lo hi : Nat}, Nd m M lo hi t → 1 ≤ lo → Srt (flat t) → flat (tdrop k m t) = ldrop k (flat t) ∧ Nd m M (lo - 1) hi (tdrop k m t)
  | 0, t, lo, hi, hn, h1, hs => by
    have hs : Srt t.1 := hs
    obtain ⟨h3, h4⟩ := hn
    have hle := fnd_le k t.1
    refine ⟨?_, ?_⟩
    · show (if _ then _ else _) = ldrop k t.1
      rw [ldrop_at hs]
    · show lo - 1 ≤ (if (t.1[fnd k t.1]?).map (·.1) = some k then t.1.take (fnd k t.1) ++ t.1.drop (fnd k t.1 + 1) else t.1).length ∧ (if (t.1[fnd k t.1]?).map (·.1) = some k then t.1.take (fnd k t.1) ++ t.1.drop (fnd k t.1 + 1) else t.1).length ≤ hi
      by_cases hk : (t.1[fnd k t.1]?).map (·.1) = some k
      · rw [if_pos hk, List.length_append, List.length_take, List.length_drop]; omega
      · rw [if_neg hk]; omega
  | d + 1, t, lo, hi, hn, h1, hs => by
    obtain ⟨h3, h4, h5, h6⟩ := hn
    have hs : Srt (inter (t.2.map flat) t.1) := hs
    have hlen : (t.2.map (flat (d := d))).length = t.1.length + 1 := by rw [List.length_map]; exact h5
    obtain ⟨A, b, B, hL, hA, hB, hb, he, hsb, hbel, habo⟩ := at_fnd k hlen hs
    have hle := fnd_le k t.1
    obtain ⟨c, hc, hcb⟩ : ∃ c, t.2[fnd k t.1]? = some c ∧ flat c = b := by
      rw [List.getElem?_map] at hb
      cases hq : t.2[fnd k t.1]? with
      | none => rw [hq] at hb; cases hb
      | some c => rw [hq] at hb; exact ⟨c, rfl, by simpa using hb⟩
    obtain ⟨hi2, hce⟩ := List.getElem?_eq_some_iff.1 hc
    have hcm : c ∈ t.2 := List.mem_of_getElem? hc
    have l1 : A.length = (t.1.take (fnd k t.1)).length := by rw [List.length_take]; omega
    have hA2 : A = (t.2.take (fnd k t.1)).map flat := by
      have := congrArg (List.take (fnd k t.1)) hL
      rw [← List.map_take] at this
      rw [this, List.take_left' hA]
    have hB2 : B = (t.2.drop (fnd k t.1 + 1)).map flat := by
      have := congrArg (List.drop (fnd k t.1 + 1)) hL
      rw [← List.map_drop] at this
      rw [this, show A ++ b :: B = (A ++ [b]) ++ B from by simp, List.drop_left' (by simp; omega)]
    by_cases hk : (t.1[fnd k t.1]?).map (·.1) = some k
    · obtain ⟨r1, r2⟩ := tlast_ok hm h2 (h6 c hcm) (by omega)
      have e : tdrop k m t = mend m (fnd k t.1) (nodeT (t.1.set (fnd k t.1) (tlast m c).1) (t.2.set (fnd k t.1) (tlast m c).2)) := by
        conv => lhs; unfold tdrop
        rw [hc]
        exact if_pos hk
      rw [e]
      obtain ⟨s1, s2⟩ := set_kids (i := fnd k t.1) h6 r2
      have hl : (t.2.set (fnd k t.1) (tlast m c).2).length = t.2.length := List.length_set ..
      have hl2 : (t.1.set (fnd k t.1) (tlast m c).1).length = t.1.length := List.length_set ..
      obtain ⟨q1, q2⟩ := mend_ok (t := nodeT (t.1.set (fnd k t.1) (tlast m c).1) (t.2.set (fnd k t.1) (tlast m c).2)) (lo := lo) (hi := hi) (i := fnd k t.1) hm h2 (by show (t.2.set _ _).length = (t.1.set _ _).length + 1; omega) (by show 1 ≤ (t.1.set _ _).length; omega) (by show lo ≤ (t.1.set _ _).length; omega) (by show (t.1.set _ _).length ≤ hi; omega) (by show _ < (t.2.set _ _).length; omega) s1 s2
      refine ⟨?_, q2⟩
      rw [q1]
      obtain ⟨p, hp, hpk⟩ := Option.map_eq_some_iff.1 hk
      obtain ⟨hj, hpe⟩ := List.getElem?_eq_some_iff.1 hp
      have hd : t.1.drop (fnd k t.1) = p :: t.1.drop (fnd k t.1 + 1) := by rw [List.drop_eq_getElem_cons hj, hpe]
      have hs2 := hs
      rw [he] at hs2
      rw [hd] at he hB hs2
      show inter ((t.2.set (fnd k t.1) (tlast m c).2).map flat) (t.1.set (fnd k t.1) (tlast m c).1) = ldrop k (inter (t.2.map flat) t.1)
      cases hBc : B with
      | nil => rw [hBc] at hB; cases hB
      | cons y B' =>
        rw [hBc] at he hB hs2 hB2
        have l2 : B'.length = (t.1.drop (fnd k t.1 + 1)).length := by simpa using hB
        rw [post_cons] at he hs2
        have hbb : Bel (pre A (t.1.take (fnd k t.1)) ++ b) k := hbel.app fun x hx => by
          obtain ⟨_, s2, _⟩ := srt_app.1 hs2
          have := (srt_app.1 s2).2.2 x hx p (by simp)
          rwa [hpk] at this
        have hab : Abo (y ++ post (t.1.drop (fnd k t.1 + 1)) B') k := fun x hx => by
          obtain ⟨_, s2, _⟩ := srt_app.1 hs2
          obtain ⟨_, s3, _⟩ := srt_app.1 s2
          have := (List.pairwise_cons.1 s3).1 x hx
          rwa [hpk] at this
        rw [set_at _ _ _ hi2, set_at _ _ _ hj, List.map_append, List.map_cons, ← hA2, ← hB2, inter_two l1 l2, he]
        rw [show pre A (t.1.take (fnd k t.1)) ++ (b ++ (p :: y ++ post (t.1.drop (fnd k t.1 + 1)) B')) = (pre A (t.1.take (fnd k t.1)) ++ b) ++ ([p] ++ (y ++ post (t.1.drop (fnd k t.1 + 1)) B')) from by simp, ldrop_app, ldrop_bel hbb, ldrop_app, ldrop_abo hab]
        rw [show ldrop k [p] = [] from by unfold ldrop; rw [List.filter_cons_of_neg (by simp [hpk])]; rfl, ← hcb, r1]
        simp
    · obtain ⟨r1, r2⟩ := tdrop_ok (k := k) hm h2 (h6 c hcm) (by omega) (by rw [hcb]; exact hsb)
      have e : tdrop k m t = mend m (fnd k t.1) (nodeT t.1 (t.2.set (fnd k t.1) (tdrop k m c))) := by
        conv => lhs; unfold tdrop
        rw [hc]
        exact if_neg hk
      rw [e]
      obtain ⟨s1, s2⟩ := set_kids (i := fnd k t.1) h6 r2
      have hl : (t.2.set (fnd k t.1) (tdrop k m c)).length = t.2.length := List.length_set ..
      obtain ⟨q1, q2⟩ := mend_ok (t := nodeT t.1 (t.2.set (fnd k t.1) (tdrop k m c))) (lo := lo) (hi := hi) (i := fnd k t.1) hm h2 (hl.trans h5) (by show 1 ≤ t.1.length; omega) h3 h4 (by show _ < (t.2.set _ _).length; omega) s1 s2
      refine ⟨?_, q2⟩
      rw [q1]
      have habo := habo fun p hp e => hk (by rw [hp, ← e]; rfl)
      show inter ((t.2.set (fnd k t.1) (tdrop k m c)).map flat) t.1 = ldrop k (inter (t.2.map flat) t.1)
      rw [set_at _ _ _ hi2, List.map_append, List.map_cons, ← hA2, ← hB2, he, ldrop_mid hbel habo, ← hcb, ← r1]
      have hj := inter_join (x := flat (tdrop k m c)) l1 hB
      rw [List.take_append_drop] at hj
      exact hj
/-- what is looked up -/
def tget (k : Key) : ∀ {d : Nat}, Tr d → Option Int
  | 0, t => match t.1[fnd k t.1]? with
    | some p => if p.1 = k then some p.2 else none
    | none => none
  | d + 1, t => match t.1[fnd k t.1]?, t.2[fnd k t.1]? with
    | some p, some c => if p.1 = k then some p.2 else tget k c
    | none, some c => tget k c
    | _, none => none
theorem lget_found {L : List (List Pr)} {ps : List Pr} {k : Key} {p : Pr} (h : L.length = ps.length + 1) (hs : Srt (inter L ps)) (hp : ps[fnd k ps]? = some p) (hpk : p.1 = k) : lget k (inter L ps) = some p.2 := by
  obtain ⟨hj, hpe⟩ := List.getElem?_eq_some_iff.1 hp
  obtain ⟨A, b, B, hL, hA, hB, hb, he, _, hbel, _⟩ := at_fnd k h hs
  have hd : ps.drop (fnd k ps) = p :: ps.drop (fnd k ps + 1) := by rw [List.drop_eq_getElem_cons hj, hpe]
  rw [hd] at he hB
  cases B with
  | nil => cases hB
  | cons y B =>
    rw [post_cons] at he
    have hbb : Bel (pre A (ps.take (fnd k ps)) ++ b) k := hbel.app fun x hx => by
      rw [he] at hs
      obtain ⟨_, s2, _⟩ := srt_app.1 hs
      have := (srt_app.1 s2).2.2 x hx p (by simp)
      rwa [hpk] at this
    rw [he, show pre A (ps.take (fnd k ps)) ++ (b ++ (p :: y ++ post (ps.drop (fnd k ps + 1)) B)) = (pre A (ps.take (fnd k ps)) ++ b) ++ (p :: (y ++ post (ps.drop (fnd k ps + 1)) B)) from by simp, lget_bel _ hbb]
    show (if p.1 = k then _ else _) = _
    rw [if_pos hpk]
theorem tget_ok {k : Key} {m M : Nat} : ∀ {d : Nat} {t : Tr d} {lo hi : Nat}, Nd m M lo hi t → Srt (flat t) → tget k t = lget k (flat t)
  | 0, t, lo, hi, hn, hs => by
    have hs : Srt t.1 := hs
    show _ = lget k t.1
    rw [lget_at hs]
    rfl
  | d + 1, t, lo, hi, hn, hs => by
    obtain ⟨h3, h4, h5, h6⟩ := hn
    have hs : Srt (inter (t.2.map flat) t.1) := hs
    have hlen : (t.2.map (flat (d := d))).length = t.1.length + 1 := by rw [List.length_map]; exact h5
    obtain ⟨A, b, B, hL, hA, hB, hb, he, hsb, hbel, habo⟩ := at_fnd k hlen hs
    obtain ⟨c, hc, hcb⟩ : ∃ c, t.2[fnd k t.1]? = some c ∧ flat c = b := by
      rw [List.getElem?_map] at hb
      cases hq : t.2[fnd k t.1]? with
      | none => rw [hq] at hb; cases hb
      | some c => rw [hq] at hb; exact ⟨c, rfl, by simpa using hb⟩
    have hcm : c ∈ t.2 := List.mem_of_getElem? hc
    have r := tget_ok (k := k) (h6 c hcm) (by rw [hcb]; exact hsb)
    show _ = lget k (inter (t.2.map flat) t.1)
    unfold tget
    rw [hc]
    cases hp : t.1[fnd k t.1]? with
    | none =>
      rw [he, lget_mid hbel (habo fun p hp2 => by rw [hp] at hp2; cases hp2), ← hcb]
      exact r
    | some p =>
      by_cases hpk : p.1 = k
      · show (if p.1 = k then _ else _) = _
        rw [if_pos hpk, lget_found hlen hs hp hpk]
      · show (if p.1 = k then _ else _) = _
        rw [if_neg hpk, he, lget_mid hbel (habo fun q hq e => hpk (by rw [hp] at hq; rw [Option.some.inj hq]; exact e)), ← hcb]
        exact r
end Go.Proofs.Ytmlkdkbpbleilaa.Ix
namespace Go.Proofs.Ytmlkdkbpbleilaa.Ix
set_option linter.unusedVariables false
/-- a pair that is not below the end (an empty end: there is none) -/
def stopAt (to : Key) (p : Pr) : Bool := to != [] && !klt p.1 to
/-- those that are not below from -/
def fdrop (from_ : Key) (l : List Pr) : List Pr := l.filter fun p => !klt p.1 from_
/-- behind l, the rest is told till somebody stops; whether nobody did -/
def scan (to : Key) (go : List Pr → Pr → Bool) : List Pr → List Pr → List Pr × Bool
  | l, [] => (l, true)
  | l, p :: r => if stopAt to p = true then (l, false) else if go l p = true then scan to go (l ++ [p]) r else (l ++ [p], false)
theorem scan_app {to : Key} {go : List Pr → Pr → Bool} : ∀ (a l b : List Pr), scan to go l (a ++ b) = if (scan to go l a).2 = true then scan to go (scan to go l a).1 b else scan to go l a
  | [], l, b => rfl
  | p :: a, l, b => by
    show (if stopAt to p = true then _ else if go l p = true then scan to go (l ++ [p]) (a ++ b) else _) = if (if stopAt to p = true then _ else if go l p = true then scan to go (l ++ [p]) a else _).2 = true then scan to go (if stopAt to p = true then _ else if go l p = true then scan to go (l ++ [p]) a else _).1 b else (if stopAt to p = true then _ else if go l p = true then scan to go (l ++ [p]) a else _)
    by_cases h1 : stopAt to p = true
    · rw [if_pos h1, if_pos h1]
      rfl
    · rw [if_neg h1, if_neg h1]
      by_cases h2 : go l p = true
      · rw [if_pos h2, if_pos h2]
        exact scan_app a (l ++ [p]) b
      · rw [if_neg h2, if_neg h2]
        rfl
theorem fdrop_app (k : Key) (a b : List Pr) : fdrop k (a ++ b) = fdrop k a ++ fdrop k b := List.filter_append _ _
theorem fdrop_bel {k : Key} {a : List Pr} (h : Bel a k) : fdrop k a = [] := by
  unfold fdrop
  rw [List.filter_eq_nil_iff]
  intro p hp
  simp [h p hp]
/-- none of a row is below k -/
def Nlo (l : List Pr) (k : Key) : Prop := ∀ p ∈ l, klt p.1 k = false
theorem fdrop_nlo {k : Key} {a : List Pr} (h : Nlo a k) : fdrop k a = a := by
  unfold fdrop
  rw [List.filter_eq_self]
  intro p hp
  simp [h p hp]
theorem post_nlo {k : Key} {ps : List Pr} {M : List (List Pr)} (hs : Srt (post ps M)) (h : ∀ p, ps[0]? = some p → klt p.1 k = false) : Nlo (post ps M) k := by
  cases ps with
  | nil => intro x hx; unfold post at hx; simp at hx
  | cons p ps =>
    cases M with
    | nil => intro x hx; unfold post at hx; simp at hx
    | cons a M =>
      rw [post_cons] at hs ⊢
      have hp := h p rfl
      intro x hx
      rcases List.mem_cons.1 hx with rfl | hx
      · exact hp
      · have hpx := (List.pairwise_cons.1 hs).1 x hx
        cases hxk : klt x.1 k with
        | false => rfl
        | true =>
          have := klt_tr hpx hxk
          rw [hp] at this
          cases this
/-- from the place of the key on: the kid there from the key on, then pairs and kids, whole -/
theorem fdrop_at {L : List (List Pr)} {ps : List Pr} (k : Key) (h : L.length = ps.length + 1) (hs : Srt (inter L ps)) :
    ∃ A b B, L = A ++ b :: B ∧ A.length = fnd k ps ∧ B.length = (ps.drop (fnd k ps)).length ∧ Srt b ∧ Srt (post (ps.drop (fnd k ps)) B) ∧ fdrop k (inter L ps) = fdrop k b ++ post (ps.drop (fnd k ps)) B ∧ Nlo (post (ps.drop (fnd k ps)) B) k := by
  obtain ⟨A, b, B, hL, hA, hB, hb, he, hsb, hbel, _⟩ := at_fnd k h hs
  have hs2 := hs
  rw [he] at hs2
  obtain ⟨_, s2, _⟩ := srt_app.1 hs2
  obtain ⟨_, s3, _⟩ := srt_app.1 s2
  have hn : Nlo (post (ps.drop (fnd k ps)) B) k := post_nlo s3 fun p hp => by
    rw [List.getElem?_drop, Nat.add_zero] at hp
    exact fnd_at hp
  refine ⟨A, b, B, hL, hA, hB, hsb, s3, ?_, hn⟩
  rw [he, fdrop_app, fdrop_app, fdrop_bel hbel, fdrop_nlo hn]
  rfl
/-- what a range is: by the keys, and by going till the end -/
def rng (from_ to : Key) (l : List Pr) : List Pr := l.filter fun p => !klt p.1 from_ && (to == [] || klt p.1 to)
theorem rng_while {from_ to : Key} {l : List Pr} (hs : Srt l) : rng from_ to l = (fdrop from_ l).takeWhile fun p => !stopAt to p := by
  have key : ∀ l : List Pr, Srt l → (l.filter fun p => (to == [] || klt p.1 to)) = l.takeWhile fun p => !stopAt to p := by
    intro l
    induction l with
    | nil => intro _; rfl
    | cons p l ih =>
      intro hs
      obtain ⟨h1, h2⟩ := List.pairwise_cons.1 hs
      by_cases ht : to = []
      · subst ht
        have e1 : ∀ q : Pr, stopAt [] q = false := fun q => rfl
        rw [List.filter_cons_of_pos (by simp), List.takeWhile_cons_of_pos (by simp [e1]), ih h2]
      · by_cases hp : klt p.1 to = true
        · rw [List.filter_cons_of_pos (by simp [hp]), List.takeWhile_cons_of_pos (by simp [stopAt, hp]), ih h2]
        · have hpf : klt p.1 to = false := by simpa using hp
          rw [List.filter_cons_of_neg (by simp [hpf, ht]), List.takeWhile_cons_of_neg (by simp [stopAt, hpf, ht]), List.filter_eq_nil_iff]
          intro q hq
          have hpq := h1 q hq
          have hqf : klt q.1 to = false := by
            cases e : klt q.1 to with
            | false => rfl
            | true => have := klt_tr hpq e; rw [hpf] at this; cases this
          simp [hqf, ht]
  have h := key (fdrop from_ l) (hs.sublist (List.filter_sublist ..))
  rw [← h]
  unfold rng fdrop
  rw [List.filter_filter]
  congr 1
  funext p
  rw [Bool.and_comm]
/-- nobody but the end stops -/
theorem scan_all {to : Key} : ∀ (r l : List Pr), (scan to (fun _ _ => true) l r).1 = l ++ r.takeWhile fun p => !stopAt to p
  | [], l => (List.append_nil l).symm
  | p :: r, l => by
    show (if stopAt to p = true then _ else if true = true then scan to _ (l ++ [p]) r else _).1 = _
    by_cases h : stopAt to p = true
    · rw [if_pos h, List.takeWhile_cons_of_neg (by simp [h]), List.append_nil]
    · rw [if_neg h, if_pos rfl, scan_all r (l ++ [p]), List.takeWhile_cons_of_pos (by simp [h])]
      simp
/-- it stops behind so many -/
theorem scan_most {to : Key} {n : Nat} : ∀ (r l : List Pr), l.length < n → (scan to (fun l _ => l.length + 1 != n) l r).1 = (l ++ r.takeWhile fun p => !stopAt to p).take n
  | [], l, h => by
    show l = _
    rw [List.takeWhile_nil, List.append_nil, List.take_of_length_le (by omega)]
  | p :: r, l, h => by
    show (if stopAt to p = true then _ else if (l.length + 1 != n) = true then scan to _ (l ++ [p]) r else _).1 = _
    by_cases h1 : stopAt to p = true
    · rw [if_pos h1, List.takeWhile_cons_of_neg (by simp [h1]), List.append_nil, List.take_of_length_le (by omega)]
    · rw [if_neg h1, List.takeWhile_cons_of_pos (by simp [h1])]
      by_cases h2 : l.length + 1 = n
      · rw [if_neg (by simp [h2])]
        show l ++ [p] = _
        rw [show l ++ p :: List.takeWhile (fun p => !stopAt to p) r = (l ++ [p]) ++ List.takeWhile (fun p => !stopAt to p) r from by simp, List.take_left' (by simp [h2])]
      · rw [if_pos (by simp [h2]), scan_most r (l ++ [p]) (by simp; omega)]
        simp
end Go.Proofs.Ytmlkdkbpbleilaa.Ix

namespace Go.Proofs.Ytmlkdkbpbleilaa
open Go.RowKit
set_option linter.unusedVariables false
set_option linter.unusedSimpArgs false
/-- a pair's cells; a kid's -/
def encP (p : Ix.Pr) : List Value := [strV p.1, .int .i64 p.2]
def encK (k : Nat) : List Value := [.pointer (some ⟨k, 0, none⟩)]
theorem encP_len (p : Ix.Pr) : (encP p).length = 2 := rfl
theorem encK_len (k : Nat) : (encK k).length = 1 := rfl
theorem encP_one (p : Ix.Pr) : ∀ u ∈ encP p, u.oneCell' = true := fun u hu => by
  simp [encP] at hu
  rcases hu with rfl | rfl <;> rfl
theorem encK_one (k : Nat) : ∀ u ∈ encK k, u.oneCell' = true := fun u hu => by
  simp [encK] at hu
  subst hu; rfl
theorem elmP : Elm Try.prog 59 65 2 24 (.agg #[.string ByteArray.empty, .int .i64 0]) := ⟨Try.underlying59, by kernel_rfl, rfl, by decide, by decide⟩
theorem elmK : Elm Try.prog 60 56 1 8 (.pointer none) := ⟨Try.underlying60, by kernel_rfl, rfl, by decide, by decide⟩
theorem zvP (w : World) : (zeroValue 65).run Try.prog w = .ok (.agg #[.string ByteArray.empty, .int .i64 0]) w := by kernel_rfl
theorem zvK (w : World) : (zeroValue 56).run Try.prog w = .ok (.pointer none) w := by kernel_rfl
theorem zvP_one : ∀ u ∈ (Value.agg #[.string ByteArray.empty, .int .i64 0]).cells.toList, u.oneCell' = true := fun u hu => by
  have hu : u ∈ [Value.string ByteArray.empty, Value.int .i64 0] := hu
  simp at hu
  rcases hu with rfl | rfl <;> rfl
theorem zvK_one : ∀ u ∈ (Value.pointer none).cells.toList, u.oneCell' = true := fun u hu => by
  have hu : u ∈ [Value.pointer none] := hu
  simp at hu
  subst hu; rfl
theorem size_pair : (Try.prog.info? 65).map (·.size) = some 2 := by kernel_rfl
theorem size_node : (Try.prog.info? 62).map (·.size) = some 2 := by kernel_rfl
theorem size_ptr : (Try.prog.info? 56).map (·.size) = some 1 := by kernel_rfl
theorem size_sP : (Try.prog.info? 59).map (·.size) = some 1 := by kernel_rfl
theorem size_sK : (Try.prog.info? 60).map (·.size) = some 1 := by kernel_rfl
theorem fitP (l : List Ix.Pr) : Fit 2 (l.map encP) := fun r hr => by
  obtain ⟨p, _, rfl⟩ := List.mem_map.1 hr
  exact ⟨rfl, encP_one p⟩
theorem fitK (l : List Nat) : Fit 1 (l.map encK) := fun r hr => by
  obtain ⟨p, _, rfl⟩ := List.mem_map.1 hr
  exact ⟨rfl, encK_one p⟩
/-- what a call does to a row that it hands back: only its block turns, or a new one is made -/
def RowTo (w : World) (v : Value) (w' : World) (v' : Value) : Prop := Turn (fun b => v.ownBlock = some b) w w' ∧ ∀ b, v'.ownBlock = some b → v.ownBlock = some b ∨ w.heap.size ≤ b
theorem rws_blk {w : World} {g k : Nat} {t : TypeId} {x : List Value} (hx : Blk w g t x.toArray) (hk : x.length = k) : Rws w k (some ⟨g, 0, none⟩) 1 [x] := by
  refine ⟨rfl, fun y hy => ?_, by omega, fun _ => ⟨_, _, rfl, fun i y hy j u hu => ?_⟩⟩
  · obtain rfl : y = x := by simpa using hy
    exact hk
  · have hi : i = 0 := by
      have := (List.getElem?_eq_some_iff.1 hy).1
      simpa using this
    subst hi
    obtain rfl : x = y := by simpa using hy
    rw [hx.cell, Nat.zero_mul, Nat.zero_add]
    simpa using hu
theorem wanted_none {o : Oper} {y : Nat → Option Bool} (h : o.guard = none) : Region.wanted o y = true := by
  unfold Region.wanted
  rw [h]
theorem wpList_op {P : Program} {ops : Array Oper} {rest : List Oper} {o : Oper} {a : Act} {w : World} {Q : Exit → Act → World → Prop} (hgd : Region.wanted o (yielded ops a.tmps) = true) (h : ∀ K : Act → World → Prop, Hid (∀ a' w', wpList P ops Q rest a' w' → K a' w') → o.wp P a w K Q) : wpList P ops Q (o :: rest) a w :=
  wpList_step fun K hK => by
    rw [if_pos hgd]
    exact h K (Lib.hid hK)
section
variable {P : Program} {a : Act} {o : Oper} {W W' : World}
theorem gx_cap {x : Operand} {A : Option Addr} {n c : Nat} {t e : TypeId} (ho : o.op = .call { callee := .builtin .cap, args := #[x], argTypes := #[t] }) (hx : a.eval x = .slice A n c) (ht : P.underlying t = some (.slice e)) :
    (execOp a.eval o).run P W = .ok (.value (.int .i64 (c : Int))) W := by
  unfold execOp
  simp [ho, resolve, invoke, builtin, hx, Builtin.cap_, run_underlying ht, goInt]
theorem exec_copy {t : TypeId} {x y : Operand} {u v r : Value} (ho : o.op = .call { callee := .builtin .copy, args := #[x, y], argTypes := #[t, t] }) (hx : a.eval x = u) (hy : a.eval y = v) (hr : (Builtin.copy_ #[t, t] o.type #[u, v]).run P W = .ok r W') :
    (execOp a.eval o).run P W = .ok (.value r) W' := by
  unfold execOp
  simp only [ho, resolve, invoke, builtin, Sem.run_bind, Sem.run_pure, Result.andThen_ok, List.map_toArray, List.map_cons, List.map_nil, hx, hy, hr]
theorem exec_clear {t : TypeId} {x : Operand} {u r : Value} (ho : o.op = .call { callee := .builtin .clear, args := #[x], argTypes := #[t] }) (hx : a.eval x = u) (hr : (Builtin.clear_ #[t] o.type #[u]).run P W = .ok r W') :
    (execOp a.eval o).run P W = .ok (.value r) W' := by
  unfold execOp
  simp only [ho, resolve, invoke, builtin, Sem.run_bind, Sem.run_pure, Result.andThen_ok, List.map_toArray, List.map_cons, List.map_nil, hx, hr]
theorem exec_appz {t u : TypeId} {x y : Operand} {p v r : Value} (ho : o.op = .call { callee := .builtin .append, args := #[x, y], argTypes := #[t, u] }) (hx : a.eval x = p) (hy : a.eval y = v) (hr : (Builtin.append_ #[t, u] o.type #[p, v]).run P W = .ok r W') :
    (execOp a.eval o).run P W = .ok (.value r) W' := by
  unfold execOp
  simp only [ho, resolve, invoke, builtin, Sem.run_bind, Sem.run_pure, Result.andThen_ok, List.map_toArray, List.map_cons, List.map_nil, hx, hy, hr]
theorem gx_loads {ty : TypeId} {x : Operand} {b off : Nat} {cs : List Value} {d : TypeDesc} (ho : o.op = .load ty x) (hx : a.eval x = .pointer (some ⟨b, off, none⟩)) (hr : W.rangeAt b off cs)
    (hu : P.underlying ty = some d) (hd : d.isRow = true) (hi : (P.info? ty).map (·.size) = some cs.length) : (execOp a.eval o).run P W = .ok (.value (.agg cs.toArray)) W :=
  exec_load ho hx (run_loadAt_mid W b off ty cs d hr hu hd hi)
end
theorem blk_range {W : World} {g : Nat} {t : TypeId} {cs : Array Value} (h : Blk W g t cs) : W.rangeAt g 0 cs.toList := fun j v hj => by
  rw [Nat.zero_add, h.cell j]
  simpa using hj
/-- an element of a row -/
theorem Orw.el {w : World} {B b k n c : Nat} {et : TypeId} {rs : List (List Value)} (h : Orw w B et k (.slice (some ⟨b, 0, none⟩) n c) rs) {i : Nat} {r : List Value} (hr : rs[i]? = some r) : w.rangeAt b (i * k) r := fun j u hu => by
  have hk := (h.1 r (List.mem_of_getElem? hr)).1
  have hj : j < k := by
    have := (List.getElem?_eq_some_iff.1 hu).1
    rwa [hk] at this
  have hf := flat_at h.1 hr hj
  rw [hu] at hf
  have := World.ownsRow.cells (g := b) h.2 rfl (i * k + j) u hf
  rwa [add_nat, Nat.zero_add] at this
/-- a row that holds something lies somewhere -/
theorem Orw.some_ {w : World} {B k : Nat} {et : TypeId} {v : Value} {rs : List (List Value)} (h : Orw w B et k v rs) (h0 : 0 < rs.length) : ∃ b c, v = .slice (some ⟨b, 0, none⟩) rs.length c ∧ rs.length ≤ c ∧ c ≤ maxLen := by
  rcases h.2.2 with ⟨rfl, h1⟩ | ⟨g, cap, cur, rfl, hb1, hg, h1, h2, _⟩
  · omega
  · exact ⟨g, cap, rfl, h1, h2⟩
/-- s[i:j:len(s)], whose value nobody reads -/
theorem sl_three {P : Program} {st et : TypeId} {k by_ : Nat} {z : Value} (E : Elm P st et k by_ z) (A : Option Addr) (n c i j : Nat) (hij : i ≤ j) (hj : j ≤ n) (hc : n ≤ c) (W : World) : ∃ v, (Instr.sliceAt st (.slice A n c) (some (.int .i64 (i : Int))) (some (.int .i64 (j : Int))) (some (.int .i64 (n : Int)))).run P W = .ok v W := by
  obtain ⟨i0, hi1, hi2⟩ := E.size
  have hu := E.und
  have b1 : (0 : Int) ≤ (i : Int) ∧ (i : Int) ≤ (j : Int) := ⟨by omega, by omega⟩
  have b2 : (0 : Int) ≤ (j : Int) ∧ (j : Int) ≤ (n : Int) := ⟨by omega, by omega⟩
  have b3 : (0 : Int) ≤ (n : Int) ∧ (n : Int) ≤ (c : Int) := ⟨by omega, by omega⟩
  refine ⟨.slice (fromK k A n i) (j - i) (n - i), ?_⟩
  simp [Instr.sliceAt, Instr.slice, Instr.sliceBounds, Instr.sliceBound, asIntOf, run_underlying hu, sizeOf, typeInfo, hi1, hi2, b1, b2, b3, fromK]
  rw [if_pos hc, if_pos hj, if_pos hij]
theorem exec_eqnil {P : Program} {a : Act} {o : Oper} {W : World} {t u e : TypeId} {x y : Operand} {A : Option Addr} {n c : Nat} (ho : o.op = .binOp .eql t x y u) (hx : a.eval x = .slice A n c) (hy : a.eval y = .slice none 0 0) (ht : P.underlying t = some (.slice e)) {r : Bool} (hr : A.isNone = r) :
    (execOp a.eval o).run P W = .ok (.value (.bool r)) W := by
  subst hr
  unfold execOp
  have h : (Op.equal t (.slice A n c) (.slice none 0 0)).run P W = .ok A.isNone W := by
    have key : ∀ d : Nat, (Op.equalIn (d + 1) t (.slice A n c) (.slice none 0 0)).run P W = .ok A.isNone W := fun d => by cases A <;> simp [Op.equalIn, run_underlying ht]
    exact key 9999
  simp [ho, hx, hy, eqGuard, binOp, h]
/-- s[m:n] -/
theorem sl_mid {P : Program} {st et : TypeId} {k by_ : Nat} {z : Value} (E : Elm P st et k by_ z) (A : Option Addr) (m n c : Nat) (hm : m ≤ n) (hc : n ≤ c) (W : World) : (Instr.sliceAt st (.slice A m c) (some (.int .i64 (m : Int))) (some (.int .i64 (n : Int))) none).run P W = .ok (.slice (fromK k A c m) (n - m) (c - m)) W := by
  obtain ⟨i0, hi1, hi2⟩ := E.size
  have hu := E.und
  have b1 : (0 : Int) ≤ (m : Int) ∧ (m : Int) ≤ (n : Int) := ⟨by omega, by omega⟩
  have b2 : (0 : Int) ≤ (n : Int) ∧ (n : Int) ≤ (c : Int) := ⟨by omega, by omega⟩
  simp [Instr.sliceAt, Instr.slice, Instr.sliceBounds, Instr.sliceBound, asIntOf, run_underlying hu, sizeOf, typeInfo, hi1, hi2, b1, b2, fromK]
  rw [if_pos hc, if_pos hm]
theorem build0P (w : World) : (Instr.buildSlice 59 0 #[]).run Try.prog w = .ok (.slice (some ⟨w.heap.size, 0, none⟩) 0 0) (w.alloc (.cells #[] 65)) := by kernel_rfl
theorem build0K (w : World) : (Instr.buildSlice 60 0 #[]).run Try.prog w = .ok (.slice (some ⟨w.heap.size, 0, none⟩) 0 0) (w.alloc (.cells #[] 56)) := by kernel_rfl
end Go.Proofs.Ytmlkdkbpbleilaa
