/-
  Several texts in one file, in their order:
  - SLICES THAT READ AS BYTES: what a walk is told of a []byte; that it reads so still behind new blocks; a new block; from the reading of an argument to it. No conditions of its own; it imports nothing of the program.
  - A ROW OF BYTES THAT THE CALL ITSELF MADE: what it holds, and append of a slice of bytes onto it, the source nil or not. Condition: the sum of the two lengths is at most 2^47.
  - A BLOCK OF BYTES THAT IS KNOWN WHOLE: its cells, a store into it, what is kept of it. No conditions.
  - WHAT A CALL TURNS: a world that is as it was but for some blocks and new ones; a block of cells, a block that is a map. No conditions; it imports nothing of the program.
  - A REGION THAT DRAWS ITS ORDER AND WRITES AT ITS END WHAT IT READ: reads are taken first under a fact S on the world, which is owed only till operation k (which waits for them) has come up. No conditions; it imports nothing of the program.
  - STORES OF SEVERAL CELLS into a block that is known whole. No conditions; it imports nothing of the program.
  - Short names for what stands on each line of the walks. No conditions; it imports nothing of the program.
  - errors.Is and errors.As by their contracts, at this program's errors: one of errors.New, a fieldError around one, none. Go's own text of both is walked. No conditions.
  - errors.As by its contracts, at this program's errors: none, one of errors.New, a fieldError; errors.Is at a fieldError. Go's own text of both is walked. Condition: errors.errorType reads as the program's text lays it.
  - errors.Is at a fieldError; errors.As at this program's errors. Condition: errors.errorType reads as the program's text lays it.
  - errors.As at a fieldError. Condition: errors.errorType reads as the program's text lays it.
  - Fields of messages, in plain data: forms, parts, how they are written and read. No conditions; nothing of the program.
  - Fields in plain data: what is written is read, in one way. No conditions; nothing of the program.
  - Forms in plain data: what is put is taken, in one way. No conditions; nothing of the program.
  - Messages in plain data: fields, types, maps; how they are checked, written and read. No conditions; nothing of the program.
  - Operations in general: an element's address, a new variable, a build of four, a store into the middle of a block. No conditions; it imports nothing of the program.
  - Operations on ints and bools, an equation each. No conditions.
  - message's package-level variables as its text lays them; tell and tellField: which number an error is. Condition: the variables read as the program's text lays them.
  - Strings as values, and the operations on them, an equation each. No conditions.
  - A REGION THAT DRAWS ITS ORDER AND NEVER BREAKS A FACT S: reads are taken first, whichever way they wait for one another; calls behind. No conditions; it imports nothing of the program.
  - message's tongueOf. Condition: the dialects' table reads as the program's text lays it.
  - A drawn region: an operation that reads no memory may be taken first. No conditions.
  - The layings of contracts of the library (strings.TrimLeft, IndexByte, Repeat, strconv.Itoa, Atoi, bytes.Clone) at this program, in plain words. No conditions.
  - field's only, mayBe. No conditions.
  - VALUES THAT ARE BUILT OF PARTS OF SEVERAL CELLS: a slice of one element; a struct. No conditions; it imports nothing of the program.
  - field's parts. Condition: the rows read as the program's text lays them; the form may be.
  - field's codes: how they are made. No conditions.
  - field's codes: places, sizes; writing a byte for a character. Conditions: the text's characters are the code's.
  - field's codes: writing. Conditions: the text's characters are the code's.
  - field's codes: reading, a byte for a character. Condition: there are as many bytes as characters.
-/
import Derived.WalkKit
import Derived.ProofKit
import Derived.Below
import Derived.Lib.Hide
import Derived.Laws.AppendOwnNone
import Derived.OwnWalk
import Derived.Deep.Draws
import Derived.Outline
import Derived.StillTailTactics
import Derived.Laws.Rows
import Derived.Deep.RegionHeld3
import Derived.Deep.MidRow
import Derived.StillTail
import Derived.Carry
import Derived.Test.YticofobhkmabiaaGreatDoorChecked
import Derived.LaidEql
import Derived.Stop.Asserts
import Derived.RowKitTokens
import Derived.Lib.Bytealg
import Derived.Test.YticofobhkmabiaaGreatDoorProg
import Derived.Deep.Cut
import Derived.Deep.DeepCutAuto
import Derived.Deep.LoopGhost
import Derived.Laws.IdiomStrings
import Derived.Laws.Concat
import Derived.Laws.Strings
import Derived.Laws.Strings3
import Derived.Laws.ResultCell
import Derived.Shelf.Strings.SlTrimAscii
import Derived.Shelf.Small.Strs
import Derived.Shelf.Strconv.Atoi
import Derived.Shelf.Strconv.AtoiErr
import Derived.Shelf.LaysM
import Derived.Shelf.LaysC
import Derived.Shelf.Strconv.Itoa3
import Derived.Shelf.Strings.Repeat
import Derived.Ground.SlbCloneProg
import Derived.Shelf.Bytes.SlClone
import Derived.Laws.Tables
import Derived.Maps.AppendAt
import Derived.Laws.EntriesVeiled
namespace Go.Proofs.YticofobhkmabiaaGreatDoor
open Go.RowKit Go.ChangeShapes Go.WideShapes Go.ChangeAt
/-- a slice that reads as bytes -/
def Bs (w : World) (a : Option Addr) (len : Nat) (bs : List UInt8) : Prop :=
  bs.length = len ∧ len ≤ maxLen ∧ (0 < len → ∃ b off, a = some ⟨b, off, none⟩ ∧ ∀ i, i < len → w.cell? ⟨b, off + i, none⟩ = some (.int .u8 ((bs.getD i 0).toNat : Int)))
theorem ret_int {k : IntKind} {a b : Int} (h : a = b) : Ending.returned (.int k a) = .returned (.int k b) := by rw [h]
theorem ret_bool {a b : Bool} (h : a = b) : Ending.returned (.bool a) = .returned (.bool b) := by rw [h]
theorem bs_below {w w' : World} {a : Option Addr} {len : Nat} {bs : List UInt8} (h : Bs w a len bs) (hb : Below w.heap.size w w') : Bs w' a len bs := by
  obtain ⟨h1, h2, h3⟩ := h
  refine ⟨h1, h2, fun hp => ?_⟩
  obtain ⟨b, off, e, hc⟩ := h3 hp
  refine ⟨b, off, e, fun i hi => ?_⟩
  rw [hb.cell (World.block_lt_of_cell? _ _ (hc i hi))]
  exact hc i hi
theorem bs_nil (w : World) (a : Option Addr) : Bs w a 0 [] := ⟨rfl, Nat.zero_le _, fun h => by omega⟩
def byteCells (bs : List UInt8) : Array Value := (bs.map fun x => Value.int .u8 (x.toNat : Int)).toArray
theorem byteCells_at (bs : List UInt8) (i : Nat) (h : i < bs.length) : (byteCells bs)[i]? = some (.int .u8 ((bs.getD i 0).toNat : Int)) := by
  unfold byteCells
  rw [List.getElem?_toArray, List.getElem?_map, List.getD_eq_getElem?_getD, List.getElem?_eq_getElem h]
  rfl
theorem bs_new (w : World) (bs : List UInt8) (e : TypeId) (frozen : Nat × Nat) (k : Nat) (hk : k = w.heap.size) (hm : bs.length ≤ maxLen) : Bs (w.alloc (.cells (byteCells bs) e frozen)) (some ⟨k, 0, none⟩) bs.length bs := by
  subst hk
  refine ⟨rfl, hm, fun _ => ⟨_, _, rfl, fun i hi => ?_⟩⟩
  rw [← byteCells_at bs i hi]
  have hb : (w.alloc (.cells (byteCells bs) e frozen)).heap[w.heap.size]? = some (.cells (byteCells bs) e frozen) := by
    show (w.heap.push _)[w.heap.size]? = _
    simp
  simp only [World.cell?, hb, Nat.zero_add]
  rfl
theorem below_new (w : World) (o : Obj) : Below w.heap.size w (w.alloc o) := (Below.refl _ _).alloc (Nat.le_refl _) o
/-- from the reading of a []byte argument -/
theorem bs_of_ints {w : World} {x : Addr} {len cap : Nat} {zs : List Int} (hl : len ≤ cap) (hm : cap ≤ maxLen) (hz : zs.length = cap)
    (hcell : ∀ i, i < zs.length → w.cell? (x.add i) = some (.int .u8 (zs.getD i 0))) (hwz : ∀ n ∈ zs, (Lit.int IntKind.u8 n).wf = true) :
    Bs w (some x) len ((zs.take len).map fun z => UInt8.ofNat z.toNat) := by
  refine ⟨by simp; omega, Nat.le_trans hl hm, fun hp => ?_⟩
  obtain ⟨b, off, spot⟩ := x
  have hc := hcell 0 (by omega)
  have hspot : spot = none := by simpa [Addr.add] using World.cell?_spot hc
  subst hspot
  refine ⟨b, off, rfl, fun i hi => ?_⟩
  have h := hcell i (by omega)
  have hmem : zs.getD i 0 ∈ zs := by
    rw [List.getD_eq_getElem?_getD, List.getElem?_eq_getElem (by omega)]
    exact List.getElem_mem _
  have hw := hwz _ hmem
  have he : ((zs.take len).map fun z => UInt8.ofNat z.toNat).getD i 0 = UInt8.ofNat (zs.getD i 0).toNat := by
    rw [List.getD_eq_getElem?_getD, List.getElem?_map, List.getElem?_take, if_pos hi, List.getD_eq_getElem?_getD, List.getElem?_eq_getElem (by omega)]
    rfl
  rw [he]
  have hr : 0 ≤ zs.getD i 0 ∧ zs.getD i 0 ≤ 255 := by
    simpa [Lit.wf, IntKind.min, IntKind.max, IntKind.signed, IntKind.bits] using hw
  have h2 : ((UInt8.ofNat (zs.getD i 0).toNat).toNat : Int) = zs.getD i 0 := by
    rw [UInt8.toNat_ofNat']
    omega
  rw [h2]
  have hadd : (⟨b, off, none⟩ : Addr).add i = ⟨b, off + i, none⟩ := by
    by_cases h0 : i = 0 <;> simp [Addr.add, h0]
  rw [← hadd]
  exact h
theorem bs_of_none (w : World) : Bs w none 0 [] := bs_nil w none
theorem u32_nat {x : Int} (h : (Lit.int .u32 x).wf = true) : ∃ n : Nat, x = (n : Int) ∧ n < 4294967296 := by
  have hr : 0 ≤ x ∧ x ≤ 4294967295 := by
    simpa [Lit.wf, IntKind.min, IntKind.max, IntKind.signed, IntKind.bits] using h
  exact ⟨x.toNat, by omega, by omega⟩
theorem i64_in {x : Int} (h : (Lit.int .i64 x).wf = true) : -9223372036854775808 ≤ x ∧ x ≤ 9223372036854775807 := by
  simpa [Lit.wf, IntKind.min, IntKind.max, IntKind.signed, IntKind.bits] using h
end Go.Proofs.YticofobhkmabiaaGreatDoor

namespace Go.Proofs.YticofobhkmabiaaGreatDoor
open Go.RowKit
/-- bytes as cells -/
def bcs (bs : List UInt8) : List Value := bs.map fun x => Value.int .u8 (x.toNat : Int)
theorem bcs_length (bs : List UInt8) : (bcs bs).length = bs.length := List.length_map ..
theorem bcs_append (a b : List UInt8) : bcs (a ++ b) = bcs a ++ bcs b := List.map_append ..
theorem bcs_at (bs : List UInt8) (i : Nat) (h : i < bs.length) : (bcs bs)[i]? = some (.int .u8 ((bs.getD i 0).toNat : Int)) := by
  unfold bcs
  rw [List.getElem?_map, List.getD_eq_getElem?_getD, List.getElem?_eq_getElem h]
  rfl
theorem bcs_one (bs : List UInt8) : ∀ u ∈ bcs bs, u.oneCell' = true := fun u hu => by
  obtain ⟨_, _, rfl⟩ := List.mem_map.1 hu
  rfl
/-- v is a row of the call's own, from block B on, that holds these bytes -/
def Own (w : World) (B : Nat) (e : TypeId) (v : Value) (bs : List UInt8) : Prop := w.ownsRow B e 1 v bs.length (bcs bs)
theorem add_nat (b off i : Nat) : (⟨b, off, none⟩ : Addr).add i = ⟨b, off + i, none⟩ := by
  by_cases h0 : i = 0 <;> simp [Addr.add, h0]
theorem Own.form {w : World} {B : Nat} {e : TypeId} {v : Value} {bs : List UInt8} (h : Own w B e v bs) : ∃ a n c, v = .slice a n c ∧ Bs w a n bs ∧ n ≤ c ∧ (a = none → c = 0) := by
  obtain ⟨_, h2⟩ := id h
  rcases h2 with ⟨rfl, h0⟩ | ⟨g, cap, cur, rfl, hb, hg, hn, hm, hs, ht⟩
  · have hb : bs = [] := List.eq_nil_of_length_eq_zero h0
    subst hb
    exact ⟨none, 0, 0, rfl, bs_nil w none, Nat.le_refl _, fun _ => rfl⟩
  · refine ⟨_, _, _, rfl, ⟨rfl, Nat.le_trans hn hm, fun _ => ⟨g, 0, rfl, fun i hi => ?_⟩⟩, hn, fun h => by cases h⟩
    have hc := World.ownsRow.cells (g := g) h rfl i _ (bcs_at bs i hi)
    rw [add_nat] at hc
    exact hc
theorem Own.empty (w : World) (B : Nat) (e : TypeId) (hB : B ≤ w.heap.size) : Own (w.alloc (.cells #[] e)) B e (.slice (some ⟨w.heap.size, 0, none⟩) 0 0) [] :=
  World.ownsRow_made w #[] 0 hB (Nat.zero_le _) rfl
theorem Own.below {w w' : World} {B C : Nat} {e : TypeId} {v : Value} {bs : List UInt8} (h : Own w B e v bs) (hb : Below C w w') (hC : w.heap.size ≤ C) : Own w' B e v bs := by
  refine ⟨h.1, ?_⟩
  rcases h.2 with hn | ⟨g, cap, cur, rfl, hb1, hgg, rest⟩
  · exact .inl hn
  · have hlt : g < w.heap.size := (Array.getElem?_eq_some_iff.1 hgg).1
    exact .inr ⟨g, cap, cur, rfl, hb1, by rw [hb.block g (by omega)]; exact hgg, rest⟩
theorem wp_append_bytes {P : Program} (w : World) {o : Oper} {a : Act} {K : Act → World → Prop} {Q : Exit → Act → World → Prop} (s x : Operand) (t : TypeId)
    (ho : o.op = .call { callee := .builtin .append, args := #[s, x], argTypes := #[t, t] })
    (B : Nat) (e : TypeId) (hinfo : (P.info? e).map (fun i => (i.zero, i.size, i.bytes)) = some (some (.int .u8 0), 1, 1)) (ht : P.underlying t = some (.slice e))
    (v : Value) (olds : List UInt8) (hs : a.eval s = v) (hown : Own w B e v olds)
    (A : Option Addr) (m c : Nat) (news : List UInt8) (hx : a.eval x = .slice A m c) (hb : Bs w A m news) (hc : A = none → c = 0)
    (hsum : olds.length + m ≤ 140737488355328) (hbase : B ≤ w.heap.size)
    (h : ∀ v' w', Own w' B e v' (olds ++ news) → Below B w w' → K (a.put o.dst v') w') : o.wp P a w K Q := by
  obtain ⟨i0, hi0, hz0, hz1, hz2⟩ := info_parts hinfo
  obtain ⟨hl, hm, hcell⟩ := hb
  rcases A with _ | ad
  · obtain rfl := hc rfl
    have hm0 : m = 0 := by
      rcases Nat.eq_zero_or_pos m with h0 | h0
      · exact h0
      · obtain ⟨_, _, h1, _⟩ := hcell h0; cases h1
    subst hm0
    have hn : news = [] := List.eq_nil_of_length_eq_zero hl
    subst hn
    rw [List.append_nil] at h
    have hrun := run_append_owned_none (P := P) (w := w) B t o.type e i0 1 ht hi0 v _ _ hown
    unfold Oper.wp
    simp [execOp, ho, resolve, invoke, builtin, hs, hx, hrun, Result.andThen]
    exact h v w hown (Below.refl _ _)
  · refine wp_append_own w s x t ho B e i0 _ 1 1 ht hi0 hz0 hz1 hz2 rfl (by omega) v _ _ hs hown ad m c (bcs news) hx (by rw [bcs_length, hl, Nat.mul_one]) ?_ (bcs_one news) (by simp only [maxLen]; omega) (by omega) hbase ?_
    · intro j u hu
      have hj : j < news.length := by
        have := (List.getElem?_eq_some_iff.1 hu).1
        rwa [bcs_length] at this
      obtain ⟨b, off, e1, hcc⟩ := hcell (by omega)
      injection e1 with e1
      subst e1
      rw [bcs_at news j hj] at hu
      injection hu with hu
      subst hu
      rw [add_nat]
      exact hcc j (by omega)
    · intro v' w' ho' hg _
      refine h v' w' ?_ ((Below.refl _ _).grown hg hbase fun k hk => (hown.lt k hk).1)
      unfold Own
      rw [List.length_append, bcs_append, hl]
      exact ho'
theorem wpList_append_bytes {P : Program} (w : World) {ops : Array Oper} {rest : List Oper} {o : Oper} {a : Act} {Q : Exit → Act → World → Prop} (hgd : Region.wanted o (yielded ops a.tmps) = true) (s x : Operand) (t : TypeId)
    (ho : o.op = .call { callee := .builtin .append, args := #[s, x], argTypes := #[t, t] })
    (B : Nat) (e : TypeId) (hinfo : (P.info? e).map (fun i => (i.zero, i.size, i.bytes)) = some (some (.int .u8 0), 1, 1)) (ht : P.underlying t = some (.slice e))
    (v : Value) (olds : List UInt8) (hs : a.eval s = v) (hown : Own w B e v olds)
    (A : Option Addr) (m c : Nat) (news : List UInt8) (hx : a.eval x = .slice A m c) (hb : Bs w A m news) (hc : A = none → c = 0)
    (hsum : olds.length + m ≤ 140737488355328) (hbase : B ≤ w.heap.size)
    (h : ∀ v' w', Own w' B e v' (olds ++ news) → Below B w w' → wpList P ops Q rest (a.put o.dst v') w') : wpList P ops Q (o :: rest) a w :=
  wpList_step fun K hK => by
    rw [if_pos hgd]
    exact wp_append_bytes w s x t ho B e hinfo ht v olds hs hown A m c news hx hb hc hsum hbase fun v' w' h1 h2 => hK _ _ (h v' w' h1 h2)
end Go.Proofs.YticofobhkmabiaaGreatDoor

namespace Go.Proofs.YticofobhkmabiaaGreatDoor
open Go.RowKit
/-- block g is just these bytes, none frozen -/
def Row (w : World) (g : Nat) (e : TypeId) (bs : List UInt8) : Prop := w.heap[g]? = some (.cells (byteCells bs) e (0, 0))
theorem Row.lt {w : World} {g : Nat} {e : TypeId} {bs : List UInt8} (h : Row w g e bs) : g < w.heap.size := (Array.getElem?_eq_some_iff.1 h).1
theorem Row.cell {w : World} {g : Nat} {e : TypeId} {bs : List UInt8} (h : Row w g e bs) (i : Nat) (hi : i < bs.length) : w.cell? ⟨g, i, none⟩ = some (.int .u8 ((bs.getD i 0).toNat : Int)) := by
  rw [← byteCells_at bs i hi]
  unfold Row at h
  simp only [World.cell?, h]
  rfl
theorem Row.frozen {w : World} {g : Nat} {e : TypeId} {bs : List UInt8} (h : Row w g e bs) (i : Nat) : w.frozen? ⟨g, i, none⟩ = false := by
  unfold Row at h
  simp [World.frozen?, h]
theorem Row.drew {w : World} {g : Nat} {e : TypeId} {bs : List UInt8} (h : Row w g e bs) : Row w.drew g e bs := h
theorem byteCells_set (bs : List UInt8) (i : Nat) (x : UInt8) : (byteCells bs).setIfInBounds i (.int .u8 (x.toNat : Int)) = byteCells (bs.set i x) := by
  unfold byteCells
  apply Array.ext'
  simp [List.map_set]
theorem Row.set {w : World} {g : Nat} {e : TypeId} {bs : List UInt8} (h : Row w g e bs) (i : Nat) (x : UInt8) : Row (w.setCell ⟨g, i, none⟩ (.int .u8 (x.toNat : Int))) g e (bs.set i x) := by
  unfold Row at h ⊢
  rw [← byteCells_set]
  simp [World.setCell, Array.getElem?_modify, h]
theorem Row.below {w w' : World} {g B : Nat} {e : TypeId} {bs : List UInt8} (h : Row w g e bs) (hb : Below B w w') (hg : g < B) : Row w' g e bs := (hb.block g hg).trans h
theorem Row.new (w : World) (e : TypeId) (bs : List UInt8) : Row (w.alloc (.cells (byteCells bs) e)) w.heap.size e bs := heap_alloc_new w _
theorem Row.bs {w : World} {g : Nat} {e : TypeId} {bs : List UInt8} (h : Row w g e bs) {n : Nat} (hn : n ≤ bs.length) (hm : n ≤ maxLen) : Bs w (some ⟨g, 0, none⟩) n (bs.take n) := by
  refine ⟨by rw [List.length_take]; omega, hm, fun _ => ⟨g, 0, rfl, fun i hi => ?_⟩⟩
  have hc := h.cell i (by omega)
  rw [Nat.zero_add, hc, List.getD_eq_getElem?_getD, List.getD_eq_getElem?_getD, List.getElem?_take, if_pos hi]
theorem madeBytes (n : Nat) : madeCells (Value.int .u8 0).cells n = byteCells (List.replicate n 0) := by
  unfold madeCells byteCells
  apply Array.ext'
  simp [Value.cells]
  apply List.ext_getElem
  · simp
  · intro i h1 h2
    simp [Nat.mod_one]
/-- block g begins with these bytes, none of it is frozen -/
def Head (w : World) (g : Nat) (e : TypeId) (bs : List UInt8) : Prop :=
  ∃ cur, w.heap[g]? = some (.cells cur e (0, 0)) ∧ bs.length ≤ cur.size ∧ ∀ i, i < bs.length → cur[i]? = some (Value.int .u8 ((bs.getD i 0).toNat : Int))
theorem Head.lt {w : World} {g : Nat} {e : TypeId} {bs : List UInt8} (h : Head w g e bs) : g < w.heap.size := by
  obtain ⟨cur, h1, _⟩ := h
  exact (Array.getElem?_eq_some_iff.1 h1).1
theorem Head.cell {w : World} {g : Nat} {e : TypeId} {bs : List UInt8} (h : Head w g e bs) (i : Nat) (hi : i < bs.length) : w.cell? ⟨g, i, none⟩ = some (.int .u8 ((bs.getD i 0).toNat : Int)) := by
  obtain ⟨cur, h1, _, h3⟩ := h
  rw [← h3 i hi]
  simp only [World.cell?, h1]
  rfl
theorem Head.frozen {w : World} {g : Nat} {e : TypeId} {bs : List UInt8} (h : Head w g e bs) (i : Nat) : w.frozen? ⟨g, i, none⟩ = false := by
  obtain ⟨cur, h1, _⟩ := h
  simp [World.frozen?, h1]
theorem Head.drew {w : World} {g : Nat} {e : TypeId} {bs : List UInt8} (h : Head w g e bs) : Head w.drew g e bs := h
theorem Head.set {w : World} {g : Nat} {e : TypeId} {bs : List UInt8} (h : Head w g e bs) (i : Nat) (x : UInt8) : Head (w.setCell ⟨g, i, none⟩ (.int .u8 (x.toNat : Int))) g e (bs.set i x) := by
  obtain ⟨cur, h1, h2, h3⟩ := h
  refine ⟨cur.setIfInBounds i (.int .u8 (x.toNat : Int)), by simp [World.setCell, Array.getElem?_modify, h1], by simpa using h2, fun j hj => ?_⟩
  rw [List.length_set] at hj
  rw [Array.getElem?_setIfInBounds, List.getD_eq_getElem?_getD, List.getElem?_set]
  by_cases e1 : i = j
  · subst e1
    have : i < cur.size := by omega
    simp [this, hj]
  · rw [if_neg e1, if_neg e1, h3 j hj, List.getD_eq_getElem?_getD]
theorem Head.below {w w' : World} {g B : Nat} {e : TypeId} {bs : List UInt8} (h : Head w g e bs) (hb : Below B w w') (hg : g < B) : Head w' g e bs := by
  obtain ⟨cur, h1, h2⟩ := h
  exact ⟨cur, (hb.block g hg).trans h1, h2⟩
theorem Head.bs {w : World} {g : Nat} {e : TypeId} {bs : List UInt8} (h : Head w g e bs) {n : Nat} (hn : bs.length = n) (hm : n ≤ maxLen) : Bs w (some ⟨g, 0, none⟩) n bs := by
  refine ⟨hn, hm, fun _ => ⟨g, 0, rfl, fun i hi => ?_⟩⟩
  rw [Nat.zero_add]
  exact h.cell i (by omega)
/-- an owned row that is not empty begins with its bytes -/
theorem Own.head {w : World} {B : Nat} {e : TypeId} {v : Value} {bs : List UInt8} (h : Own w B e v bs) (hp : 0 < bs.length) : ∃ g c, v = .slice (some ⟨g, 0, none⟩) bs.length c ∧ B ≤ g ∧ Head w g e bs := by
  obtain ⟨_, h2⟩ := id h
  rcases h2 with ⟨rfl, h0⟩ | ⟨g, cap, cur, rfl, hb, hg, hn, hm, hs, ht⟩
  · omega
  · refine ⟨g, cap, rfl, hb, cur, hg, by omega, fun i hi => ?_⟩
    rw [← bcs_at bs i hi, ← ht, List.getElem?_take, if_pos (by omega), Array.getElem?_toList]
end Go.Proofs.YticofobhkmabiaaGreatDoor

namespace Go.Proofs.YticofobhkmabiaaGreatDoor
open Go.RowKit
/-- w' is w but for the blocks of F, and new ones -/
structure Turn (F : Nat → Prop) (w w' : World) : Prop where
  os : w'.os = w.os
  tape : w'.tape = w.tape
  output : w'.output = w.output
  size : w.heap.size ≤ w'.heap.size
  block : ∀ k, k < w.heap.size → ¬ F k → w'.heap[k]? = w.heap[k]?
def nowhere : Nat → Prop := fun _ => False
section
variable {F G : Nat → Prop} {w w1 w' : World}
theorem Turn.refl (F : Nat → Prop) (w : World) : Turn F w w := ⟨rfl, rfl, rfl, Nat.le_refl _, fun _ _ _ => rfl⟩
theorem Turn.mono (h : Turn F w w') (hf : ∀ k, k < w.heap.size → F k → G k) : Turn G w w' :=
  ⟨h.os, h.tape, h.output, h.size, fun k hk hn => h.block k hk fun hF => hn (hf k hk hF)⟩
theorem Turn.trans (h : Turn F w w1) (g : Turn G w1 w') (hg : ∀ k, k < w.heap.size → G k → F k) : Turn F w w' :=
  ⟨g.os.trans h.os, g.tape.trans h.tape, g.output.trans h.output, Nat.le_trans h.size g.size,
    fun k hk hn => (g.block k (Nat.lt_of_lt_of_le hk h.size) fun hG => hn (hg k hk hG)).trans (h.block k hk hn)⟩
theorem Turn.drew (h : Turn F w w') : Turn F w w'.drew := ⟨h.os, h.tape, h.output, h.size, h.block⟩
theorem Turn.drewN (h : Turn F w w') (n : Nat) : Turn F w (w'.drewN n) := ⟨h.os, h.tape, h.output, h.size, h.block⟩
theorem Turn.alloc (h : Turn F w w') (o : Obj) : Turn F w (w'.alloc o) :=
  ⟨h.os, h.tape, h.output, Nat.le_trans h.size (by simp), fun k hk hn => (Below.heap_alloc w' o k (Nat.lt_of_lt_of_le hk h.size)).trans (h.block k hk hn)⟩
theorem Turn.setCell (h : Turn F w w') {p : Addr} (hp : p.block < w.heap.size → F p.block) (u : Value) : Turn F w (w'.setCell p u) :=
  ⟨h.os, h.tape, h.output, by simpa [World.setCell] using h.size, fun k hk hn => (heap_setCell_other w' p k u (by
    rintro rfl
    exact hn (hp hk))).trans (h.block k hk hn)⟩
theorem Turn.grown (h : Turn F w w1) {row : Option Nat} (hg : w1.grownBy w' row) (hr : ∀ g, row = some g → g < w.heap.size → F g) : Turn F w w' :=
  ⟨hg.os.trans h.os, hg.tape.trans h.tape, hg.output.trans h.output, Nat.le_trans h.size hg.size,
    fun k hk hn => (hg.block k (Nat.lt_of_lt_of_le hk h.size) fun e => hn (hr k e.symm hk)).trans (h.block k hk hn)⟩
theorem Turn.of_below {B : Nat} (h : Below B w w') (hB : w.heap.size ≤ B) : Turn nowhere w w' := ⟨h.os, h.tape, h.output, h.size, fun k hk _ => h.block k (by omega)⟩
theorem Turn.below (h : Turn F w w') {B : Nat} (hB : B ≤ w.heap.size) (hF : ∀ k, k < B → ¬ F k) : Below B w w' :=
  ⟨h.os, h.tape, h.output, h.size, fun k hk => h.block k (by omega) (hF k hk)⟩
theorem Turn.cell (h : Turn F w w') {p : Addr} (hp : p.block < w.heap.size) (hn : ¬ F p.block) : w'.cell? p = w.cell? p := World.cell?_of_block (h.block _ hp hn)
theorem Turn.frozen (h : Turn F w w') {p : Addr} (hp : p.block < w.heap.size) (hn : ¬ F p.block) : w'.frozen? p = w.frozen? p := World.frozen?_of_block (h.block _ hp hn)
end
/-- the one block p -/
def only (p : Nat) : Nat → Prop := fun k => k = p
theorem Turn.at_ {w w' : World} {p : Nat} (h : Turn (only p) w w') (i : Nat) (u : Value) : Turn (only p) w (w'.setCell ⟨p, i, none⟩ u) := h.setCell (p := ⟨p, i, none⟩) (fun _ => rfl) u
theorem Turn.grow1 {w w' : World} {p : Nat} (h : Turn (only p) w w') : w.grownBy w' (some p) := ⟨h.os, h.tape, h.output, h.size, fun k hk hn => h.block k hk fun e => hn (by rw [show k = p from e])⟩
/-- block g is just the cells cs of element type t, none frozen -/
def Blk (w : World) (g : Nat) (t : TypeId) (cs : Array Value) : Prop := w.heap[g]? = some (.cells cs t (0, 0))
section
variable {F : Nat → Prop} {w w' : World} {g : Nat} {t : TypeId} {cs : Array Value}
theorem Blk.lt (h : Blk w g t cs) : g < w.heap.size := (Array.getElem?_eq_some_iff.1 h).1
theorem Blk.cell (h : Blk w g t cs) (i : Nat) : w.cell? ⟨g, i, none⟩ = cs[i]? := cell_of_row w g i cs t (0, 0) h
theorem Blk.frozen (h : Blk w g t cs) (i : Nat) : w.frozen? ⟨g, i, none⟩ = false := by
  unfold Blk at h
  simp [World.frozen?, h]
theorem Blk.new (w : World) (t : TypeId) (cs : Array Value) : Blk (w.alloc (.cells cs t)) w.heap.size t cs := heap_alloc_new w _
theorem Blk.drew (h : Blk w g t cs) : Blk w.drew g t cs := h
theorem Blk.drewN (h : Blk w g t cs) (n : Nat) : Blk (w.drewN n) g t cs := h
theorem Blk.alloc (h : Blk w g t cs) (o : Obj) : Blk (w.alloc o) g t cs := (Below.heap_alloc w o g h.lt).trans h
theorem Blk.set_ (h : Blk w g t cs) (i : Nat) (u : Value) : Blk (w.setCell ⟨g, i, none⟩ u) g t (cs.setIfInBounds i u) := heap_setCell_same w g i cs t u h
theorem Blk.far (h : Blk w g t cs) {p : Addr} (hp : g ≠ p.block) (u : Value) : Blk (w.setCell p u) g t cs := (heap_setCell_other w p g u hp).trans h
theorem Blk.turn (h : Blk w g t cs) (ht : Turn F w w') (hn : ¬ F g) : Blk w' g t cs := (ht.block g h.lt hn).trans h
theorem Blk.grown {row : Option Nat} (h : Blk w g t cs) (hb : w.grownBy w' row) (hg : some g ≠ row) : Blk w' g t cs := (hb.block g h.lt hg).trans h
theorem Blk.ne_ {g' : Nat} {t' : TypeId} {cs' : Array Value} (h : Blk w g t cs) (h' : Blk w g' t' cs') (hne : t ≠ t') : g ≠ g' := by
  rintro rfl
  unfold Blk at h h'
  rw [h] at h'
  injection h' with h'
  injection h' with _ ht
  exact hne ht
theorem Blk.inj {t' : TypeId} {cs' : Array Value} (h : Blk w g t cs) (h' : Blk w g t' cs') : cs = cs' := by
  unfold Blk at h h'
  rw [h] at h'
  injection h' with h'
  injection h' with e
end
/-- a step of a quiet region whose run is known -/
theorem wpStill_run {P : Program} {ops : Array Oper} {w : World} {Q : Act → Prop} {a : Act} {o : Oper} {rest : List Oper} (hw : Region.wanted o (yielded ops a.tmps) = true) {v : Value}
    (hrun : (execOp a.eval o).run P w = .ok (.value v) w) (h : wpStill P ops w Q rest (a.put o.dst v)) : wpStill P ops w Q (o :: rest) a := by
  refine wpStill_step fun K hK => ?_
  rw [if_pos hw]
  unfold Oper.still
  rw [hrun, Oper.stillUpon_value]
  exact hK _ h
theorem wpStill_load {P : Program} {ops : Array Oper} {w : World} {Q : Act → Prop} {a : Act} {o : Oper} {rest : List Oper} (hw : Region.wanted o (yielded ops a.tmps) = true) (ty : TypeId) (x : Operand) (ho : o.op = .load ty x)
    (p v : Value) (hx : a.eval x = p) (hrun : (Instr.loadAt ty p).run P w = .ok v w) (h : wpStill P ops w Q rest (a.put o.dst v)) : wpStill P ops w Q (o :: rest) a :=
  wpStill_run hw (by
    unfold execOp
    simp only [ho, hx, hrun, Sem.run_bind, Sem.run_pure, Result.andThen_ok]) h
theorem cells_ne_map {w : World} {g b : Nat} {t : TypeId} {cs : Array Value} {es : Array MapEntry} {clock : Nat} (h : Blk w g t cs) (h' : w.heap[b]? = some (.map es clock)) : g ≠ b := by
  rintro rfl
  unfold Blk at h
  rw [h] at h'
  injection h' with h'
  cases h'
end Go.Proofs.YticofobhkmabiaaGreatDoor

namespace Go.Proofs.YticofobhkmabiaaGreatDoor
section
variable {P : Program} {md : Region.Mode} {ops : Array Oper} {Q : Exit → Act → World → Prop} {S : World → Prop} {k : Nat} {rest : List Oper}
/-- whatever order is picked, and S holds as long as k has not come up -/
def Till (P : Program) (md : Region.Mode) (ops : Array Oper) (Q : Exit → Act → World → Prop) (S : World → Prop) (k : Nat) : Nat → Array Bool → Act → World → Prop
  | 0, l, a, w => Region.ready md ops l = [] ∧ Q .normal a w
  | n + 1, l, a, w => (Region.ready md ops l = [] → Q .normal a w) ∧
      ∀ i ∈ Region.ready md ops l, wpOp P ops Q i (fun a' w' => ((l.setIfInBounds i true).getD k true = false → S w') ∧ Till P md ops Q S k n (l.setIfInBounds i true) a' w') a w
theorem till_any : ∀ (n : Nat) (l : Array Bool) (a : Act) (w : World), Till P md ops Q S k n l a w → wpAny P md ops Q n l a w
  | 0, _, _, _, h => h
  | n + 1, _, _, _, h => ⟨h.1, fun i hi => wpOp_mono (fun _ _ h' => till_any n _ _ _ h'.2) (h.2 i hi)⟩
theorem till_first {i : Nat} {o : Oper} {v : Value} (hi : ops[i]? = some o) (hsel : ∀ (j : Nat) (o : Oper) cs b, ops[j]? = some o → o.op ≠ .select cs b) (hki : k ≠ i)
    (hk : ∃ ok, ops[k]? = some ok ∧ ∃ e ∈ ok.after, Region.binds md e = true ∧ e.on = i) :
    ∀ (n : Nat) (l : Array Bool) (a : Act) (w : World), l.getD k true = false →
      (∀ j oj, ops[j]? = some oj → j ≠ i → l.getD j true = false → (∀ e ∈ oj.after, Region.binds md e = true → e.on ≠ i) → o.apart ops oj = true) →
      i ∈ Region.ready md ops l → YieldsIf P ops S o v a → S w → (∀ c a w, Q (.panic c) (a.put o.dst v) w → Q (.panic c) a w) →
      Till P md ops Q S k n (l.setIfInBounds i true) (a.put o.dst v) w → Till P md ops Q S k (n + 1) l a w := by
  have hread : ∀ (l : Array Bool) (j : Nat), i ∈ Region.ready md ops l → j ∈ Region.ready md ops l → j ≠ i → ∃ oj, ops[j]? = some oj ∧ l.getD j true = false ∧ j ≠ k ∧ ∀ e ∈ oj.after, Region.binds md e = true → e.on ≠ i := by
    intro l j hr hj hji
    obtain ⟨h0, oj, hoj, hall⟩ := mem_ready.1 hj
    have hun := (mem_ready.1 hr).1
    have hno : ∀ e ∈ oj.after, Region.binds md e = true → e.on ≠ i := by
      intro e he hb heq
      have h2 := hall e he hb
      rw [heq] at h2
      rcases Nat.lt_or_ge i l.size with hlt | hge
      · rw [Array.getD_eq_getD_getElem?, Array.getElem?_eq_getElem hlt] at h2 hun
        simp only [Option.getD_some] at h2 hun
        rw [h2] at hun
        cases hun
      · rw [Array.getD_eq_getD_getElem?, Array.getElem?_eq_none hge] at h2
        cases h2
    refine ⟨oj, hoj, h0, ?_, hno⟩
    rintro rfl
    obtain ⟨ok, hok, e, he, hb, hon⟩ := hk
    rw [hoj] at hok
    injection hok with hok
    subst hok
    exact hno e he hb hon
  intro n
  induction n with
  | zero =>
    intro l a w hkl _ hr hy hS _ H
    refine ⟨fun h => (by rw [h] at hr; cases hr), fun j hj => ?_⟩
    by_cases hji : j = i
    · subst hji
      exact hy.wpOp hi hS ⟨fun _ => hS, H⟩
    · have := ready_mono hj hji
      rw [H.1] at this
      cases this
  | succ n ih =>
    intro l a w hkl hfree hr hy hS hQ H
    refine ⟨fun h => (by rw [h] at hr; cases hr), fun j hj => ?_⟩
    by_cases hji : j = i
    · subst hji
      exact hy.wpOp hi hS ⟨fun _ => hS, H⟩
    · obtain ⟨oj, hoj, hjun, hjk, hno⟩ := hread l j hr hj hji
      have h1 := H.2 j (ready_mono hj hji)
      have h2 := wpOp_putIf hoj (hfree j oj hoj hji hjun hno) (fun cs b => hsel i o cs b hi) (fun cs b => hsel j oj cs b hoj) hQ hy h1
      have hk' : (l.setIfInBounds j true).getD k true = false := by rw [getD_set_ne true hjk]; exact hkl
      have hk2 : ((l.setIfInBounds i true).setIfInBounds j true).getD k true = false := by rw [getD_set_ne true hjk, getD_set_ne true (Ne.symm hki)]; exact hkl
      refine wpOp_mono (fun a' w' h3 => ⟨fun _ => h3.2.1 hk2, ih (l.setIfInBounds j true) a' w' hk' ?_ (ready_mono hr (Ne.symm hji)) h3.1 (h3.2.1 hk2) hQ ?_⟩) h2
      · intro m om hm hmi hun hn
        refine hfree m om hm hmi ?_ hn
        by_cases hjm : j = m
        · subst hjm
          exact hjun
        · rwa [getD_set_ne true hjm] at hun
      · rw [Array.setIfInBounds_comm _ _ hji]
        exact h3.2.2
theorem till_take {i : Nat} {o : Oper} {v : Value} {n : Nat} {l : Array Bool} {a : Act} {w : World} (hi0 : ops.toList[i]? = some o) (hs : Region.noSelect ops = true)
    (hf : (Region.free md ops l i && (Region.ready md ops l).contains i && Region.waitsFor md ops k i && !(l.getD k true) && decide (k ≠ i)) = true)
    (hQ : ∀ c a w, Q (.panic c) (a.put o.dst v) w → Q (.panic c) a w) (hy : YieldsIf P ops S o v a) (hS : S w)
    (h : Till P md ops Q S k n (l.setIfInBounds i true) (a.put o.dst v) w) : Till P md ops Q S k (n + 1) l a w := by
  have hi : ops[i]? = some o := by rw [← hi0, Array.getElem?_toList]
  simp only [Bool.and_eq_true, decide_eq_true_eq, Bool.not_eq_true'] at hf
  obtain ⟨⟨⟨⟨h1, h2⟩, h3⟩, h4⟩, h5⟩ := hf
  exact till_first hi (Region.noSelect_spec hs) h5 (Region.waitsFor_spec h3) n l a w h4 (Region.free_spec hi h1) (by simpa using h2) hy hS hQ h
/-- one alone may come up -/
theorem till_only {i : Nat} {o : Oper} {n : Nat} {l : Array Bool} {a : Act} {w : World} (hr : Region.ready md ops l = [i]) (ho0 : ops.toList[i]? = some o)
    (hw : Region.wanted o (yielded ops a.tmps) = true)
    (h : o.wp P a w (fun a' w' => ((l.setIfInBounds i true).getD k true = false → S w') ∧ Till P md ops Q S k n (l.setIfInBounds i true) a' w') Q) : Till P md ops Q S k (n + 1) l a w := by
  have ho : ops[i]? = some o := by rw [← ho0, Array.getElem?_toList]
  refine ⟨fun h0 => (by rw [h0] at hr; cases hr), fun j hj => ?_⟩
  rw [hr] at hj
  obtain rfl : j = i := by simpa using hj
  unfold wpOp
  simp only [ho, hw, if_true]
  exact .inl h
def chainFrom (md : Region.Mode) (ops : Array Oper) : Nat → Array Bool → Nat → Bool
  | 0, l, _ => (Region.ready md ops l).isEmpty
  | c + 1, l, i => Region.ready md ops l == [i] && chainFrom md ops c (l.setIfInBounds i true) (i + 1)
/-- the last ones come up one behind the other: they are walked as a plain list -/
theorem till_chain : ∀ (rest : List Oper) (n : Nat) (l : Array Bool) (a : Act) (w : World) (i : Nat), (∀ j o, rest[j]? = some o → ops[i + j]? = some o) → chainFrom md ops rest.length l i = true →
    ((l.setIfInBounds i true).getD k true = true) → rest.length ≤ n → wpList P ops Q rest a w → Till P md ops Q S k n l a w
  | [], n, l, a, w, i, _, hc, _, _, h => by
    have h0 : Region.ready md ops l = [] := by simpa [chainFrom] using hc
    cases n with
    | zero => exact ⟨h0, h⟩
    | succ n => exact ⟨fun _ => h, fun j hj => by rw [h0] at hj; cases hj⟩
  | o :: rest, 0, l, a, w, i, _, _, _, hn, h => by simp at hn
  | o :: rest, n + 1, l, a, w, i, hops, hc, hk, hn, h => by
    simp only [List.length_cons, chainFrom, Bool.and_eq_true, beq_iff_eq] at hc
    obtain ⟨h1, h2⟩ := hc
    refine ⟨fun h0 => (by rw [h0] at h1; cases h1), fun j hj => ?_⟩
    rw [h1] at hj
    obtain rfl : j = i := by simpa using hj
    have ho : ops[j]? = some o := hops 0 o rfl
    have hw : wpOp P ops Q j (wpList P ops Q rest) a w := by
      unfold wpOp
      simp only [ho]
      unfold wpList at h
      exact h
    refine wpOp_mono (fun a' w' h' => ⟨fun e => (by rw [hk] at e; cases e), till_chain rest n _ a' w' (j + 1) (fun m om hm => ?_) h2 ?_ (by simpa using hn) h'⟩) hw
    · have := hops (m + 1) om hm
      rwa [show j + (m + 1) = j + 1 + m from by omega] at this
    · by_cases e : j + 1 = k
      · subst e
        rw [Array.getD_eq_getD_getElem?, Array.getElem?_setIfInBounds]
        by_cases hs : j + 1 < (l.setIfInBounds j true).size
        · rw [if_pos rfl, if_pos hs]
          rfl
        · rw [if_pos rfl, if_neg hs]
          rfl
      · rw [getD_set_ne true e]
        exact hk
/-- all that is owed by kernel: k comes up now, or has come up; the others behind one another -/
theorem till_tail (i : Nat) {n : Nat} {l : Array Bool} {a : Act} {w : World} (hops : ops.toList.drop i = rest) (hc : (chainFrom md ops rest.length l i && (l.setIfInBounds i true).getD k true && decide (rest.length ≤ n)) = true)
    (h : wpList P ops Q rest a w) : Till P md ops Q S k n l a w := by
  simp only [Bool.and_eq_true, decide_eq_true_eq] at hc
  refine till_chain rest n l a w i (fun j o hj => ?_) hc.1.1 hc.1.2 hc.2 h
  rw [← hops, List.getElem?_drop] at hj
  simpa using hj
theorem till_mono {S' : World → Prop} (hS : ∀ w, S' w → S w) : ∀ (n : Nat) (l : Array Bool) (a : Act) (w : World), Till P md ops Q S' k n l a w → Till P md ops Q S k n l a w
  | 0, _, _, _, h => h
  | n + 1, _, _, _, h => ⟨h.1, fun i hi => wpOp_mono (fun _ _ h' => ⟨fun e => hS _ (h'.1 e), till_mono hS n _ _ _ h'.2⟩) (h.2 i hi)⟩
/-- one alone may come up: what follows behind a letter -/
theorem till_step {i : Nat} {o : Oper} {n : Nat} {l : Array Bool} {a : Act} {w : World} (hr : Region.ready md ops l = [i]) (ho0 : ops.toList[i]? = some o) (hw : Region.wanted o (yielded ops a.tmps) = true)
    (h : ∀ K : Act → World → Prop, Shut (∀ a' w', (((l.setIfInBounds i true).getD k true = false → S w') ∧ Till P md ops Q S k n (l.setIfInBounds i true) a' w') → K a' w') → o.wp P a w K Q) : Till P md ops Q S k (n + 1) l a w :=
  till_only hr ho0 hw (h _ fun _ _ h' => h')
theorem till_done {n : Nat} {l : Array Bool} {a : Act} {w : World} (hr : Region.ready md ops l = []) (h : Q .normal a w) : Till P md ops Q S k n l a w := by
  cases n with
  | zero => exact ⟨hr, h⟩
  | succ n => exact ⟨fun _ => h, fun j hj => by rw [hr] at hj; cases hj⟩
theorem wp_region_till (S : World → Prop) (k : Nat) {id : Nat} {a : Act} {w : World} (hm : P.follows .mixedOrders = true)
    (h : Till P .any ops (NoPanic Q) S k ops.size (Array.replicate ops.size false) a w.drew) : (Code.region id ops true).wp P Q a w :=
  wp_region_noPanic (wp_region_any hm (till_any _ _ _ _ h))
theorem wp_run {o : Oper} {a : Act} {w w' : World} {K : Act → World → Prop} {v : Value} (hr : (execOp a.eval o).run P w = .ok (.value v) w') (h : K (a.put o.dst v) w') : o.wp P a w K Q := by
  unfold Oper.wp
  rw [hr]
  exact h
theorem wp_append {o : Oper} {a : Act} {w w' : World} {K : Act → World → Prop} (s x : Operand) (t : TypeId) (ho : o.op = .call { callee := .builtin .append, args := #[s, x], argTypes := #[t, t] }) {v u r : Value} (hs : a.eval s = v) (hx : a.eval x = u)
    (hr : (Builtin.append_ #[t, t] o.type #[v, u]).run P w = .ok r w') (h : K (a.put o.dst r) w') : o.wp P a w K Q := by
  unfold Oper.wp execOp
  simp only [ho, resolve, invoke, builtin, Sem.run_bind, Sem.run_pure, Result.andThen_ok, List.map_toArray, List.map_cons, List.map_nil, hs, hx, hr]
  exact h
end
end Go.Proofs.YticofobhkmabiaaGreatDoor

namespace Go.Proofs.YticofobhkmabiaaGreatDoor
open Go.RowKit
theorem setCells_blk : ∀ (vs : List Value) (w : World) (g o : Nat) (t : TypeId) (C : Array Value), Blk w g t C →
    ∃ C', Blk (w.setCells g o vs) g t C' ∧ C'.size = C.size ∧ ∀ j, C'[j]? = if o ≤ j ∧ j < o + vs.length ∧ j < C.size then vs[j - o]? else C[j]?
  | [], w, g, o, t, C, h => ⟨C, h, rfl, fun j => by rw [if_neg (by simp; omega)]⟩
  | v :: r, w, g, o, t, C, h => by
    obtain ⟨C', h1, h2, h3⟩ := setCells_blk r (w.setCell ⟨g, o, none⟩ v) g (o + 1) t _ (h.set_ o v)
    refine ⟨C', h1, by rw [h2, Array.size_setIfInBounds], fun j => ?_⟩
    rw [h3, Array.size_setIfInBounds, List.length_cons]
    by_cases e : j = o
    · subst e
      rw [if_neg (by omega), Array.getElem?_setIfInBounds, if_pos rfl]
      by_cases hj : j < C.size
      · rw [if_pos hj, if_pos ⟨by omega, by omega, hj⟩, Nat.sub_self]
        rfl
      · rw [if_neg hj, if_neg (by omega), Array.getElem?_eq_none (by omega)]
    · by_cases c : o + 1 ≤ j ∧ j < o + 1 + r.length ∧ j < C.size
      · rw [if_pos c, if_pos ⟨by omega, by omega, c.2.2⟩, show j - o = (j - (o + 1)) + 1 from by omega, List.getElem?_cons_succ]
      · rw [if_neg c, Array.getElem?_setIfInBounds, if_neg (fun h => e h.symm), if_neg (by omega)]
theorem setCells_turn : ∀ (vs : List Value) (w : World) (g o : Nat), Turn (only g) w (w.setCells g o vs)
  | [], _, _, _ => Turn.refl _ _
  | v :: r, w, g, o => ((Turn.refl _ w).at_ o v).trans (setCells_turn r _ g (o + 1)) fun _ _ h => h
theorem blk_there {w : World} {g : Nat} {t : TypeId} {C : Array Value} (h : Blk w g t C) (o n : Nat) (hn : o + n ≤ C.size) : w.there g o n := fun j hj =>
  ⟨by rw [h.cell, Array.getElem?_eq_getElem (by omega)]; rfl, h.frozen _⟩
/-- a value of as many cells as the block has goes into it -/
theorem run_store_row {P : Program} {w : World} {g : Nat} {t ty : TypeId} {old cells : Array Value} (hb : Blk w g t old) (hs : old.size = cells.size) (hi : (P.info? ty).map (·.size) = some cells.size)
    (h1 : ∀ v ∈ cells.toList, v.oneCell' = true) : ∃ w', (Instr.storeAt ty (.pointer (some ⟨g, 0, none⟩)) (.agg cells)).run P w = .ok () w' ∧ Blk w' g t cells ∧ Turn (only g) w w' := by
  have hr := run_storeAt_mid (P := P) w g 0 ty cells (blk_there hb 0 _ (by omega)) hi (Array.all_eq_true_iff_forall_mem.2 fun v hv => h1 v (by simpa using hv))
  obtain ⟨C', c1, c2, c3⟩ := setCells_blk cells.toList w g 0 t old hb
  have ht := setCells_turn cells.toList w g 0
  generalize w.setCells g 0 cells.toList = w' at *
  refine ⟨w', hr, ?_, ht⟩
  have : C' = cells := by
    apply Array.ext_getElem?
    intro j
    rw [c3]
    by_cases hj : j < cells.size
    · rw [if_pos ⟨by omega, by simpa using hj, by omega⟩]
      simp
    · rw [if_neg (by simp; omega), Array.getElem?_eq_none (by omega), Array.getElem?_eq_none (by omega)]
  exact this ▸ c1
section
variable {P : Program} {ops : Array Oper} {rest : List Oper} {o : Oper} {a : Act} {w : World} {Q : Exit → Act → World → Prop}
theorem wpList_store_row (hgd : Region.wanted o (yielded ops a.tmps) = true) (ty : TypeId) (x y : Operand) (ho : o.op = .store ty x y) {g : Nat} {t : TypeId} {old : Array Value} (cells : Array Value) (hb : Blk w g t old)
    (hx : a.eval x = .pointer (some ⟨g, 0, none⟩)) (hy : a.eval y = .agg cells) (hs : old.size = cells.size) (hi : (P.info? ty).map (·.size) = some cells.size) (h1 : ∀ v ∈ cells.toList, v.oneCell' = true)
    (h : ∀ w', Blk w' g t cells → Turn (only g) w w' → wpList P ops Q rest (a.put o.dst undef) w') : wpList P ops Q (o :: rest) a w :=
  wpList_step fun K hK => by
    rw [if_pos hgd]
    obtain ⟨w', hr, h2, h3⟩ := run_store_row (P := P) hb hs hi h1
    unfold Oper.wp execOp
    simp only [ho, hx, hy, hr, Sem.run_bind, Sem.run_pure, Result.andThen_ok]
    exact hK _ _ (h w' h2 h3)
/-- an operation whose run is known -/
theorem wpList_run (hgd : Region.wanted o (yielded ops a.tmps) = true) {v : Value} {w' : World} (hr : (execOp a.eval o).run P w = .ok (.value v) w') (h : wpList P ops Q rest (a.put o.dst v) w') : wpList P ops Q (o :: rest) a w :=
  wpList_step fun K hK => by
    rw [if_pos hgd]
    unfold Oper.wp
    rw [hr]
    exact hK _ _ h
end
theorem exec_lookup {P : Program} {a : Act} {o : Oper} {t : TypeId} {m x : Operand} {c : Bool} {M k v : Value} {W : World} (ho : o.op = .lookup t m x c) (hm : a.eval m = M) (hx : a.eval x = k) (h : (Instr.lookup t M k c).run P W = .ok v W) :
    (execOp a.eval o).run P W = .ok (.value v) W := by
  unfold execOp
  simp only [ho, hm, hx, h, Sem.run_bind, Sem.run_pure, Result.andThen_ok]
theorem exec_slice {P : Program} {a : Act} {o : Oper} {t : TypeId} {x : Operand} {lo hi mx : Option Operand} {u v : Value} {l h m : Option Value} {W W' : World} (ho : o.op = .slice t x lo hi mx) (hx : a.eval x = u) (hl : lo.map a.eval = l) (hh : hi.map a.eval = h) (hm : mx.map a.eval = m)
    (hr : (Instr.sliceAt t u l h m).run P W = .ok v W') : (execOp a.eval o).run P W = .ok (.value v) W' := by
  unfold execOp
  simp only [ho, hx, hl, hh, hm, hr, Sem.run_bind, Sem.run_pure, Result.andThen_ok]
theorem exec_load {P : Program} {a : Act} {o : Oper} {ty : TypeId} {x : Operand} {p v : Value} {W : World} (ho : o.op = .load ty x) (hx : a.eval x = p) (h : (Instr.loadAt ty p).run P W = .ok v W) : (execOp a.eval o).run P W = .ok (.value v) W := by
  unfold execOp
  simp only [ho, hx, h, Sem.run_bind, Sem.run_pure, Result.andThen_ok]
section
variable {P : Program} {a : Act} {o : Oper} {W : World}
theorem exec_move {x : Operand} {v : Value} (ho : o.op = .move x) (hx : a.eval x = v) : (execOp a.eval o).run P W = .ok (.value v) W := by
  unfold execOp
  simp only [ho, hx, Sem.run_pure]
theorem exec_nil {x : Operand} {p : Addr} (ho : o.op = .nilCheck x) (hx : a.eval x = .pointer (some p)) : (execOp a.eval o).run P W = .ok (.value (.pointer (some p))) W := by
  unfold execOp
  simp only [ho, hx, Sem.run_pure]
/-- where a field lies -/
def fieldOff (P : Program) (s : TypeId) (k : Nat) : Option Nat :=
  match P.underlying s with
  | some (.struct fs) => match fs[k]? with
    | some f => match P.info? f.type with
      | some i => if i.size = 0 then none else some f.offset
      | none => none
    | none => none
  | _ => none
theorem exec_field {s : TypeId} {k d b off : Nat} {x : Operand} (ho : o.op = .fieldAddr s x k) (hx : a.eval x = .pointer (some ⟨b, off, none⟩)) (hf : fieldOff P s k = some d) :
    (execOp a.eval o).run P W = .ok (.value (.pointer (some ⟨b, off + d, none⟩))) W := by
  unfold execOp
  unfold fieldOff at hf
  split at hf
  · rename_i fs hu
    split at hf
    · rename_i f hfs
      split at hf
      · rename_i i hi
        split at hf
        · cases hf
        · rename_i hz
          cases hf
          simp [ho, hx, Instr.fieldAt, run_underlying hu, hfs, Instr.sureAddr, fieldPlace, sizeOf, typeInfo, hi, hz, add_nat, Result.andThen]
      · cases hf
    · cases hf
  · cases hf
/-- a cell that is read -/
def plainB (P : Program) (t : TypeId) : Bool :=
  match P.underlying t with
  | some (.struct _) | some (.array _ _) | none => false
  | _ => true
theorem exec_load1 {ty : TypeId} {x : Operand} {p : Addr} {v : Value} (ho : o.op = .load ty x) (hx : a.eval x = .pointer (some p)) (hp : plainB P ty = true) (hc : W.cell? p = some v) : (execOp a.eval o).run P W = .ok (.value v) W := by
  unfold execOp
  have hagg : (isAgg ty).run P W = .ok false W := by
    unfold isAgg
    unfold plainB at hp
    split at hp
    · cases hp
    · cases hp
    · cases hp
    · rename_i h1 h2 h3
      cases hu : P.underlying ty with
      | none => exact absurd hu h3
      | some d =>
        rw [Sem.run_bind, run_underlying hu W]
        cases d <;> first | rfl | exact absurd hu (h1 _) | exact absurd hu (h2 _ _)
  simp [ho, hx, Instr.loadAt, Instr.sureAddr, loadVar, hagg, hc, Result.andThen]
theorem exec_makeMap {t : TypeId} (ho : o.op = .makeMap t none) : (execOp a.eval o).run P W = .ok (.value (.map (some W.heap.size))) (W.alloc (.map #[] 0)) := by
  unfold execOp
  simp only [ho]
  simp only [Option.map_none, run_makeMap, Sem.run_bind, Sem.run_pure, Result.andThen_ok]
theorem exec_buildSlice1 {t : TypeId} {x : Operand} {u v : Value} {W' : World} (ho : o.op = .buildSlice t 1 #[(0, x)]) (hx : a.eval x = u) (h : (Instr.buildSlice t 1 #[(0, u)]).run P W = .ok v W') : (execOp a.eval o).run P W = .ok (.value v) W' := by
  unfold execOp
  simp only [ho, List.map_toArray, List.map_cons, List.map_nil, hx, h, Sem.run_bind, Sem.run_pure, Result.andThen_ok]
theorem exec_append {t : TypeId} {x y : Operand} {u v r : Value} {W' : World} (ho : o.op = .call { callee := .builtin .append, args := #[x, y], argTypes := #[t, t] }) (hx : a.eval x = u) (hy : a.eval y = v) (hr : (Builtin.append_ #[t, t] o.type #[u, v]).run P W = .ok r W') :
    (execOp a.eval o).run P W = .ok (.value r) W' := by
  unfold execOp
  simp only [ho, resolve, invoke, builtin, Sem.run_bind, Sem.run_pure, Result.andThen_ok, List.map_toArray, List.map_cons, List.map_nil, hx, hy, hr]
end
end Go.Proofs.YticofobhkmabiaaGreatDoor

namespace Go.Proofs.YticofobhkmabiaaGreatDoor
open Go.RowKit
theorem zzA {α : Type} (l : List α) (i : Nat) (a : α) : l.toArray.setIfInBounds i a = (l.set i a).toArray := List.setIfInBounds_toArray l i a
theorem zz0 {α : Type} {x : α} {xs : List α} {a : α} : (x :: xs).set 0 a = a :: xs := List.set_cons_zero
theorem zz1 {α : Type} {x : α} {xs : List α} {i : Nat} {a : α} : (x :: xs).set (i + 1) a = x :: xs.set i a := List.set_cons_succ
theorem wR {P : Program} {ops : Array Oper} {rest : List Oper} {o : Oper} {a : Act} {w : World} {Q : Exit → Act → World → Prop} (hgd : Region.wanted o (yielded ops a.tmps) = true) {v : Value} {w' : World} (hr : (execOp a.eval o).run P w = .ok (.value v) w') (h : wpList P ops Q rest (a.put o.dst v) w') : wpList P ops Q (o :: rest) a w := wpList_run hgd hr h
theorem Turn.next {F : Nat → Prop} {w w1 w' : World} (h : Turn F w w1) (g : Turn F w1 w') : Turn F w w' := h.trans g (fun _ _ e => e)
end Go.Proofs.YticofobhkmabiaaGreatDoor
namespace Go.Proofs.YticofobhkmabiaaGreatDoor
open Go.RowKit Go.Extern.Stop Go.Stop Go.Extern
set_option maxRecDepth 20000
set_option linter.unusedVariables false
set_option linter.unusedSimpArgs false
theorem c_typeOf (v : Value) (w : World) : (callFunc 68 #[.iface 236 v]).run Tryz.prog w = .ok (.value (.iface 151 (.agg #[.pointer (some ⟨21, 236, none⟩)]))) w := by
  rw [@run_callFunc_extern Tryz.prog 68 _ Extern.ReflectliteType.typeOf Tryz.func68 (by kernel_rfl) (by kernel_rfl) (by kernel_rfl) (by kernel_rfl)]
  kernel_rfl
theorem c_comparable (w : World) : (callFunc 196 #[.agg #[.pointer (some ⟨21, 236, none⟩)]]).run Tryz.prog w = .ok (.value (.bool true)) w := by
  rw [@run_callFunc_extern Tryz.prog 196 _ (Extern.ReflectliteType.method fun t => do Extern.Rtype.noPackHeld "Comparable" t; pure (.bool (← typeInfo t).comparable)) Tryz.func196 (by kernel_rfl) (by kernel_rfl) (by kernel_rfl) (by kernel_rfl)]
  kernel_rfl
theorem is_methodC (v : Value) (w : World) : (Go.method 374 151 v "Comparable").run Tryz.prog w = .ok (196, v) w := by kernel_rfl
theorem is_comp : (Tryz.prog.info? 236).map (·.comparable) = some true := by kernel_rfl
theorem is_size : (Tryz.prog.info? 238).map (·.size) = some 1 := by kernel_rfl
theorem no_IsE (v : Value) (xT : TypeId) (w : World) : (Instr.typeAssert (.iface 236 v) xT 163 true).run Tryz.prog w = .ok (.tuple #[.nilIface, .bool false]) w := run_typeAssert_lacksB Tryz.underlying163 (by kernel_rfl) (by kernel_rfl) v xT w
theorem no_UnE (v : Value) (xT : TypeId) (w : World) : (Instr.typeAssert (.iface 236 v) xT 158 true).run Tryz.prog w = .ok (.tuple #[.nilIface, .bool false]) w := run_typeAssert_lacksB Tryz.underlying158 (by kernel_rfl) (by kernel_rfl) v xT w
theorem no_UsE (v : Value) (xT : TypeId) (w : World) : (Instr.typeAssert (.iface 236 v) xT 160 true).run Tryz.prog w = .ok (.tuple #[.nilIface, .bool false]) w := run_typeAssert_lacksB Tryz.underlying160 (by kernel_rfl) (by kernel_rfl) v xT w
theorem no_AsE (v : Value) (xT : TypeId) (w : World) : (Instr.typeAssert (.iface 236 v) xT 155 true).run Tryz.prog w = .ok (.tuple #[.nilIface, .bool false]) w := run_typeAssert_lacksB Tryz.underlying155 (by kernel_rfl) (by kernel_rfl) v xT w
theorem no_IsF (v : Value) (xT : TypeId) (w : World) : (Instr.typeAssert (.iface 80 v) xT 163 true).run Tryz.prog w = .ok (.tuple #[.nilIface, .bool false]) w := run_typeAssert_lacksB Tryz.underlying163 (by kernel_rfl) (by kernel_rfl) v xT w
theorem has_UnF (v : Value) (xT : TypeId) (w : World) : (Instr.typeAssert (.iface 80 v) xT 158 true).run Tryz.prog w = .ok (.tuple #[.iface 80 v, .bool true]) w := run_typeAssert_hasB Tryz.underlying158 (by kernel_rfl) v xT w
theorem method_UnF (v : Value) (w : World) : (Go.method 374 80 v "Unwrap").run Tryz.prog w = .ok (190, v) w := by kernel_rfl
/-- errors.Is at two of errors.New -/
theorem is_any (a b : Addr) (ca cb : Array Value) (ta tb : TypeId) (w : World) (ha : w.heap[a.block]? = some (.cells ca ta (0, 0))) (hb : w.heap[b.block]? = some (.cells cb tb (0, 0))) :
    Calls Tryz.prog 43 #[.iface 236 (.pointer (some a)), .iface 236 (.pointer (some b))] w fun e w' => e = .returned (.bool (decide (a = b))) ∧ w' = w := by
  obtain ⟨i, hi, hcmp⟩ := Option.map_eq_some_iff.1 is_comp
  obtain ⟨j, hj, hjs⟩ := Option.map_eq_some_iff.1 is_size
  have tT := c_typeOf
  have cT := c_comparable
  have mR := is_methodC
  have nE := no_IsE
  have uE := no_UnE
  have vE := no_UsE
  by_cases hab : a = b
  · subst hab
    rw [decide_eq_true rfl]
    have heq := run_eql_iface_ptr_same (P := Tryz.prog) w a Tryz.underlying43 Tryz.underlying236 hi hcmp hj
    go_enter Tryz.func43, Tryz.ntmps43
    go_wp2
    refine wp_loop_rounds 1 ?_
    rw [rounds_succ]
    go_wp2
    go_ret
    exact ⟨rfl, rfl⟩
  · rw [decide_eq_false hab]
    have heq := run_eql_iface_ptr_other (P := Tryz.prog) w Tryz.underlying43 Tryz.underlying236 hi hcmp hj (by rw [hjs]; decide) (a := a) (b := b) hab ha hb
    clear hab
    go_enter Tryz.func43, Tryz.ntmps43
    go_wp2
    refine wp_loop_rounds 1 ?_
    rw [rounds_succ]
    go_wp2
    go_ret
    exact ⟨rfl, rfl⟩
/-- errors.Is(nil, x) -/
theorem is_nil (b : Addr) (w : World) :
    Calls Tryz.prog 43 #[.nilIface, .iface 236 (.pointer (some b))] w fun e w' => e = .returned (.bool false) ∧ w' = w := by
  have hn := run_eql_iface_nil_left (P := Tryz.prog) w 236 (.pointer (some b)) Tryz.underlying43
  go_enter Tryz.func43, Tryz.ntmps43
  go_wp2
  go_ret
  exact ⟨rfl, rfl⟩
end Go.Proofs.YticofobhkmabiaaGreatDoor
namespace Go.Proofs.YticofobhkmabiaaGreatDoor
open Go.RowKit Go.Extern.Stop Go.Stop Go.Extern
set_option maxRecDepth 20000
set_option linter.unusedVariables false
set_option linter.unusedSimpArgs false
theorem c_valueOfP (t : Addr) (w : World) : (callFunc 64 #[.iface 82 (.pointer (some t))]).run Tryz.prog w = .ok (.value (.agg #[.pointer (some ⟨21, 82, none⟩), .pointer (some ⟨w.heap.size, 0, none⟩), .int .u64 150])) (w.alloc (.cells #[.pointer (some t)] 82)) := by
  rw [@run_callFunc_extern Tryz.prog 64 _ (fun args => ReflectliteValue.unpack (args.getD 0 (.tuple #[]))) Tryz.func64 (by kernel_rfl) (by kernel_rfl) (by kernel_rfl) (by kernel_rfl)]
  kernel_rfl
theorem c_valueOfF (no : Int) (u : Value) (w : World) : (callFunc 64 #[.iface 80 (.agg #[.int .i64 no, u])]).run Tryz.prog w = .ok (.value (.agg #[.pointer (some ⟨21, 80, none⟩), .pointer (some ⟨w.heap.size, 0, none⟩), .int .u64 153])) (w.alloc (.cells #[.int .i64 no, u] 80)) := by
  rw [@run_callFunc_extern Tryz.prog 64 _ (fun args => ReflectliteValue.unpack (args.getD 0 (.tuple #[]))) Tryz.func64 (by kernel_rfl) (by kernel_rfl) (by kernel_rfl) (by kernel_rfl)]
  kernel_rfl
theorem c_typeP (a : Addr) (w : World) : (callFunc 65 #[.agg #[.pointer (some ⟨21, 82, none⟩), .pointer (some a), .int .u64 150]]).run Tryz.prog w = .ok (.value (.iface 151 (.agg #[.pointer (some ⟨21, 82, none⟩)]))) w := by
  rw [@run_callFunc_extern Tryz.prog 65 _ (ReflectliteValue.methodAny (ReflectliteValue.valueError "reflectlite.Value.Type" 0) (fun t _ _ _ => ReflectliteType.toType t)) Tryz.func65 (by kernel_rfl) (by kernel_rfl) (by kernel_rfl) (by kernel_rfl)]
  kernel_rfl
theorem c_methodKind (x : Value) (w : World) : (Go.method 374 151 (.agg #[x]) "Kind").run Tryz.prog w = .ok (186, x) w := by kernel_rfl
theorem c_kindP (w : World) : (callFunc 186 #[.pointer (some ⟨21, 82, none⟩)]).run Tryz.prog w = .ok (.value (.int .u8 22)) w := by
  rw [@run_callFunc_extern Tryz.prog 186 _ (ReflectliteType.abiMethod fun t => do pure (.int .u8 (← Rtype.kind t))) Tryz.func186 (by kernel_rfl) (by kernel_rfl) (by kernel_rfl) (by kernel_rfl)]
  kernel_rfl
theorem c_kindF (w : World) : (callFunc 186 #[.pointer (some ⟨21, 80, none⟩)]).run Tryz.prog w = .ok (.value (.int .u8 25)) w := by
  rw [@run_callFunc_extern Tryz.prog 186 _ (ReflectliteType.abiMethod fun t => do pure (.int .u8 (← Rtype.kind t))) Tryz.func186 (by kernel_rfl) (by kernel_rfl) (by kernel_rfl) (by kernel_rfl)]
  kernel_rfl
theorem c_methodElem (x : Value) (w : World) : (Go.method 374 151 (.agg #[x]) "Elem").run Tryz.prog w = .ok (197, .agg #[x]) w := by kernel_rfl
theorem c_methodImpl (x : Value) (w : World) : (Go.method 374 151 (.agg #[x]) "Implements").run Tryz.prog w = .ok (198, .agg #[x]) w := by kernel_rfl
theorem c_methodAssign (x : Value) (w : World) : (Go.method 374 151 (.agg #[x]) "AssignableTo").run Tryz.prog w = .ok (195, .agg #[x]) w := by kernel_rfl
theorem c_elemP (w : World) : (callFunc 197 #[.agg #[.pointer (some ⟨21, 82, none⟩)]]).run Tryz.prog w = .ok (.value (.iface 151 (.agg #[.pointer (some ⟨21, 80, none⟩)]))) w := by
  rw [@run_callFunc_extern Tryz.prog 197 _ (ReflectliteType.method ReflectliteType.elem) Tryz.func197 (by kernel_rfl) (by kernel_rfl) (by kernel_rfl) (by kernel_rfl)]
  kernel_rfl
theorem c_implF (w : World) : (callFunc 198 #[.agg #[.pointer (some ⟨21, 80, none⟩)], .iface 151 (.agg #[.pointer (some ⟨21, 43, none⟩)])]).run Tryz.prog w = .ok (.value (.bool true)) w := by
  rw [@run_callFunc_extern Tryz.prog 198 _ (ReflectliteType.relation "Implements" ReflectliteType.implements_) Tryz.func198 (by kernel_rfl) (by kernel_rfl) (by kernel_rfl) (by kernel_rfl)]
  kernel_rfl
theorem c_assignF (w : World) : (callFunc 195 #[.agg #[.pointer (some ⟨21, 80, none⟩)], .iface 151 (.agg #[.pointer (some ⟨21, 80, none⟩)])]).run Tryz.prog w = .ok (.value (.bool true)) w := by
  rw [@run_callFunc_extern Tryz.prog 195 _ (ReflectliteType.relation "AssignableTo" ReflectliteType.assignableTo) Tryz.func195 (by kernel_rfl) (by kernel_rfl) (by kernel_rfl) (by kernel_rfl)]
  kernel_rfl
theorem c_assignE (w : World) : (callFunc 195 #[.agg #[.pointer (some ⟨21, 236, none⟩)], .iface 151 (.agg #[.pointer (some ⟨21, 80, none⟩)])]).run Tryz.prog w = .ok (.value (.bool false)) w := by
  rw [@run_callFunc_extern Tryz.prog 195 _ (ReflectliteType.relation "AssignableTo" ReflectliteType.assignableTo) Tryz.func195 (by kernel_rfl) (by kernel_rfl) (by kernel_rfl) (by kernel_rfl)]
  kernel_rfl
theorem c_typeOfF (v : Value) (w : World) : (callFunc 68 #[.iface 80 v]).run Tryz.prog w = .ok (.value (.iface 151 (.agg #[.pointer (some ⟨21, 80, none⟩)]))) w := by
  rw [@run_callFunc_extern Tryz.prog 68 _ Extern.ReflectliteType.typeOf Tryz.func68 (by kernel_rfl) (by kernel_rfl) (by kernel_rfl) (by kernel_rfl)]
  kernel_rfl
theorem rlm (z : Sem Value) (f : TypeId → Addr → Nat → Nat → Sem Value) (v : Value) :
    ReflectliteValue.method z f #[v] = (do match ← ReflectliteValue.parts v with | none => z | some (t, a, fl) => f t a fl (fl % 32)) := rfl
theorem c_partsP (a : Addr) (w : World) : (ReflectliteValue.parts (.agg #[.pointer (some ⟨21, 82, none⟩), .pointer (some a), .int .u64 150])).run Tryz.prog w = .ok (some (82, a, 150)) w := by kernel_rfl
theorem c_isNil (a p : Addr) (W : World) (ha : W.cell? a = some (.pointer (some p))) : (callFunc 66 #[.agg #[.pointer (some ⟨21, 82, none⟩), .pointer (some a), .int .u64 150]]).run Tryz.prog W = .ok (.value (.bool false)) W := by
  rw [@run_callFunc_extern Tryz.prog 66 _ (ReflectliteValue.method (ReflectliteValue.valueError "reflectlite.Value.IsNil" 0) ReflectliteValue.isNil) Tryz.func66 (by kernel_rfl) (by kernel_rfl) (by kernel_rfl) (by kernel_rfl)]
  rw [rlm]
  simp only [Sem.run_bind, c_partsP, Result.andThen]
  simp [ReflectliteValue.isNil, loadVar, isAgg, underlying, Tryz.underlying82, ha, Result.andThen]
theorem c_elemOfP (w : World) : (Rtype.elem? 82).run Tryz.prog w = .ok (some 80) w := by kernel_rfl
theorem c_mkF (p : Addr) (w : World) : (ReflectliteValue.mk 80 p ReflectliteValue.flagAddr).run Tryz.prog w = .ok (.agg #[.pointer (some ⟨21, 80, none⟩), .pointer (some p), .int .u64 409]) w := by kernel_rfl
theorem c_elemV (a p : Addr) (W : World) (ha : W.cell? a = some (.pointer (some p))) : (callFunc 96 #[.agg #[.pointer (some ⟨21, 82, none⟩), .pointer (some a), .int .u64 150]]).run Tryz.prog W = .ok (.value (.agg #[.pointer (some ⟨21, 80, none⟩), .pointer (some p), .int .u64 409])) W := by
  rw [@run_callFunc_extern Tryz.prog 96 _ (ReflectliteValue.method (ReflectliteValue.valueError "reflectlite.Value.Elem" 0) ReflectliteValue.elem) Tryz.func96 (by kernel_rfl) (by kernel_rfl) (by kernel_rfl) (by kernel_rfl)]
  rw [rlm]
  simp only [Sem.run_bind, c_partsP, Result.andThen]
  simp [ReflectliteValue.elem, loadVar, isAgg, underlying, Tryz.underlying82, ha, Result.andThen, c_elemOfP, c_mkF]
theorem c_partsFa (a : Addr) (w : World) : (ReflectliteValue.parts (.agg #[.pointer (some ⟨21, 80, none⟩), .pointer (some a), .int .u64 409])).run Tryz.prog w = .ok (some (80, a, 409)) w := by kernel_rfl
theorem c_partsF (a : Addr) (w : World) : (ReflectliteValue.parts (.agg #[.pointer (some ⟨21, 80, none⟩), .pointer (some a), .int .u64 153])).run Tryz.prog w = .ok (some (80, a, 153)) w := by kernel_rfl
theorem c_directF (w : World) : (Rtype.directlyAssignable 80 80).run Tryz.prog w = .ok true w := by kernel_rfl
theorem rls (v x : Value) : ReflectliteValue.set #[v, x] = (do
    let (some (dst, a, fl), some (src, b, _)) := (← ReflectliteValue.parts v, ← ReflectliteValue.parts x)
      | unsupported (.noEntry "extern/(internal/reflectlite.Value).Set.zeroValue")
    if fl / ReflectliteValue.flagAddr % 2 == 0 then unsupported (.noEntry "extern/(internal/reflectlite.Value).Set.unaddressable")
    let val ← loadVar src b
    if ← Rtype.directlyAssignable dst src then storeVar dst a val
    else if ← Rtype.implements dst src then
      if (← Rtype.kind src) == 20 then
        match val with
        | .nilIface => unsupported (.noEntry "extern/reflectlite: a nil value of one interface type handed on as a value of another")
        | _ => storeVar dst a val
      else storeVar dst a (.iface src val)
    else panicString ("reflectlite.Set: value of type " ++ (← Rtype.spelt src) ++ " is not assignable to type " ++ (← Rtype.spelt dst))
    pure (.tuple #[])) := rfl
end Go.Proofs.YticofobhkmabiaaGreatDoor
namespace Go.Proofs.YticofobhkmabiaaGreatDoor
open Go.RowKit Go.Extern.Stop Go.Stop Go.Extern
set_option maxRecDepth 20000
set_option linter.unusedVariables false
set_option linter.unusedSimpArgs false
theorem heap_new {w : World} {o : Obj} {a : Nat} {x : Obj} (h : w.heap[a]? = some x) : (w.alloc o).heap[a]? = some x := by
  have hlt : a < w.heap.size := (Array.getElem?_eq_some_iff.1 h).1
  rw [← h]
  simp only [World.alloc, Array.getElem?_push, Nat.ne_of_lt hlt, if_false]
set_option maxHeartbeats 1000000 in
theorem is_fe (no : Int) (a b : Addr) (ca cb : Array Value) (ta tb : TypeId) (w : World) (ha : w.heap[a.block]? = some (.cells ca ta (0, 0))) (hb : w.heap[b.block]? = some (.cells cb tb (0, 0))) :
    Calls Tryz.prog 43 #[.iface 80 (.agg #[.int .i64 no, .iface 236 (.pointer (some a))]), .iface 236 (.pointer (some b))] w fun e w' => e = .returned (.bool (decide (a = b))) ∧ Turn nowhere w w' := by
  obtain ⟨i, hi, hcmp⟩ := Option.map_eq_some_iff.1 is_comp
  obtain ⟨j, hj, hjs⟩ := Option.map_eq_some_iff.1 is_size
  have tT := c_typeOf
  have cT := c_comparable
  have mR := is_methodC
  have nE := no_IsE
  have uE := no_UnE
  have vE := no_UsE
  have nF := no_IsF
  have uF := has_UnF
  have mU := method_UnF
  by_cases hab : a = b
  · subst hab
    rw [decide_eq_true rfl]
    have heq := run_eql_iface_ptr_same (P := Tryz.prog) (w.alloc (.cells #[.int .i64 no, .iface 236 (.pointer (some a))] 80)) a Tryz.underlying43 Tryz.underlying236 hi hcmp hj
    have hty := run_eql_iface_types (P := Tryz.prog) 80 236 (.agg #[.int .i64 no, .iface 236 (.pointer (some a))]) (.pointer (some a)) Tryz.underlying43 (by decide) w
    
    go_enter Tryz.func43, Tryz.ntmps43
    go_wp2
    refine wp_loop_rounds 2 ?_
    rw [rounds_succ]
    go_wp2
    rw [rounds_succ]
    go_wp2
    go_ret
    exact ⟨rfl, (Turn.refl nowhere w).alloc _⟩
  · rw [decide_eq_false hab]
    have heq := run_eql_iface_ptr_other (P := Tryz.prog) (w.alloc (.cells #[.int .i64 no, .iface 236 (.pointer (some a))] 80)) Tryz.underlying43 Tryz.underlying236 hi hcmp hj (by rw [hjs]; decide) (a := a) (b := b) hab (heap_new ha) (heap_new hb)
    have hty := run_eql_iface_types (P := Tryz.prog) 80 236 (.agg #[.int .i64 no, .iface 236 (.pointer (some a))]) (.pointer (some b)) Tryz.underlying43 (by decide) w
    clear hab
    go_enter Tryz.func43, Tryz.ntmps43
    go_wp2
    refine wp_loop_rounds 2 ?_
    rw [rounds_succ]
    go_wp2
    rw [rounds_succ]
    go_wp2
    go_ret
    exact ⟨rfl, (Turn.refl nowhere w).alloc _⟩
theorem as_nil (t : Value) (w : World) :
    Calls Tryz.prog 41 #[.nilIface, t] w fun e w' => e = .returned (.bool false) ∧ w' = w := by
  go_enter Tryz.func41, Tryz.ntmps41
  go_wp2
  go_ret
  exact ⟨rfl, rfl⟩
set_option maxHeartbeats 1000000 in
theorem as_miss (a : Addr) (t : Addr) (w : World) (hg : w.cell? ⟨8, 0, none⟩ = some (.iface 151 (.agg #[.pointer (some ⟨21, 43, none⟩)]))) :
    Calls Tryz.prog 41 #[.iface 236 (.pointer (some a)), .iface 82 (.pointer (some t))] w fun e w' => e = .returned (.bool false) ∧ Turn nowhere w w' := by
  have x1 := c_valueOfP
  have x2 := c_typeP
  have x3 := c_methodKind
  have x4 := c_kindP
  have x5 := c_kindF
  have x6 := c_methodElem
  have x7 := c_methodImpl
  have x8 := c_methodAssign
  have x9 := c_elemP
  have y1 := c_implF
  have y2 := c_assignE
  have y3 := c_typeOf
  have y4 := c_isNil ⟨w.heap.size, 0, none⟩ t ((w.alloc (.cells #[.pointer (some t)] 82)).alloc (.cells #[.pointer (some ⟨21, 82, none⟩), .pointer (some ⟨w.heap.size, 0, none⟩), .int .u64 150] 114)) (by simp)
  have nE := no_AsE
  have uE := no_UnE
  have vE := no_UsE
  have hlt : 8 < w.heap.size := World.block_lt_of_cell? _ _ hg
  have hg2 : ((w.alloc (.cells #[.pointer (some t)] 82)).alloc (.cells #[.pointer (some ⟨21, 82, none⟩), .pointer (some ⟨w.heap.size, 0, none⟩), .int .u64 150] 114)).cell? ⟨8, 0, none⟩ = some (.iface 151 (.agg #[.pointer (some ⟨21, 43, none⟩)])) := by
    rw [World.cell?_alloc_lt _ _ ⟨8, 0, none⟩ (by simp; omega), World.cell?_alloc_lt _ _ ⟨8, 0, none⟩ hlt]; exact hg
  clear hlt
  go_enter Tryz.func41, Tryz.ntmps41
  go_wp2
  refine wp_loop_rounds 1 ?_
  rw [rounds_succ]
  go_wp2
  go_ret
  exact ⟨rfl, (((Turn.refl nowhere w).alloc _).alloc _).alloc _⟩
end Go.Proofs.YticofobhkmabiaaGreatDoor
namespace Go.Proofs.YticofobhkmabiaaGreatDoor
open Go.RowKit Go.Extern.Stop Go.Stop Go.Extern
set_option maxRecDepth 20000
set_option linter.unusedVariables false
set_option linter.unusedSimpArgs false
theorem sizeF : (Tryz.prog.info? 80).map (·.size) = some 2 := by kernel_rfl
theorem c_set (t b : Nat) (no : Int) (u : Value) (old : Array Value) (W : World) (hu : u.oneCell' = true) (ht : Blk W t 80 old) (ho : old.size = 2) (hb : Blk W b 80 #[.int .i64 no, u]) :
    (callFunc 97 #[.agg #[.pointer (some ⟨21, 80, none⟩), .pointer (some ⟨t, 0, none⟩), .int .u64 409], .agg #[.pointer (some ⟨21, 80, none⟩), .pointer (some ⟨b, 0, none⟩), .int .u64 153]]).run Tryz.prog W = .ok (.value (.tuple #[])) (W.setRow t #[.int .i64 no, u]) := by
  rw [@run_callFunc_extern Tryz.prog 97 _ ReflectliteValue.set Tryz.func97 (by kernel_rfl) (by kernel_rfl) (by kernel_rfl) (by kernel_rfl)]
  rw [rls]
  have l1 := run_loadVar_row (P := Tryz.prog) W b 80 80 _ _ _ hb Tryz.underlying80 rfl (by rw [sizeF]; rfl)
  have s1 := run_storeVar_row (P := Tryz.prog) W t 80 80 old #[.int .i64 no, u] ht (by rw [sizeF]; rfl) ho (by simp [hu]; rfl)
  simp only [Sem.run_bind, c_partsFa, c_partsF, Result.andThen]
  simp [ReflectliteValue.flagAddr, l1, c_directF, s1, Result.andThen]
set_option maxHeartbeats 1000000 in
theorem as_hit (no : Int) (u : Value) (t : Nat) (old : Array Value) (w : World) (hu : u.oneCell' = true) (hg : w.cell? ⟨8, 0, none⟩ = some (.iface 151 (.agg #[.pointer (some ⟨21, 43, none⟩)]))) (ht : Blk w t 80 old) (ho : old.size = 2) :
    Calls Tryz.prog 41 #[.iface 80 (.agg #[.int .i64 no, u]), .iface 82 (.pointer (some ⟨t, 0, none⟩))] w fun e w' => e = .returned (.bool true) ∧ Blk w' t 80 #[.int .i64 no, u] ∧ Turn (only t) w w' := by
  have x1 := c_valueOfP
  have x0 := c_valueOfF
  have x2 := c_typeP
  have x3 := c_methodKind
  have x4 := c_kindP
  have x5 := c_kindF
  have x6 := c_methodElem
  have x7 := c_methodImpl
  have x8 := c_methodAssign
  have x9 := c_elemP
  have y1 := c_implF
  have y2 := c_assignF
  have y3 := c_typeOfF
  have y4 := c_isNil ⟨w.heap.size, 0, none⟩ ⟨t, 0, none⟩ ((w.alloc (.cells #[.pointer (some ⟨t, 0, none⟩)] 82)).alloc (.cells #[.pointer (some ⟨21, 82, none⟩), .pointer (some ⟨w.heap.size, 0, none⟩), .int .u64 150] 114)) (by simp)
  have y5 := c_elemV ⟨w.heap.size, 0, none⟩ ⟨t, 0, none⟩ (((w.alloc (.cells #[.pointer (some ⟨t, 0, none⟩)] 82)).alloc (.cells #[.pointer (some ⟨21, 82, none⟩), .pointer (some ⟨w.heap.size, 0, none⟩), .int .u64 150] 114)).alloc (.cells #[.pointer (some ⟨21, 82, none⟩), .pointer (some ⟨w.heap.size, 0, none⟩), .int .u64 150] 114)) (by rw [World.cell?_alloc_lt _ _ ⟨w.heap.size, 0, none⟩ (by simp; omega)]; simp)
  have hb4 : Blk ((((w.alloc (.cells #[.pointer (some ⟨t, 0, none⟩)] 82)).alloc (.cells #[.pointer (some ⟨21, 82, none⟩), .pointer (some ⟨w.heap.size, 0, none⟩), .int .u64 150] 114)).alloc (.cells #[.pointer (some ⟨21, 82, none⟩), .pointer (some ⟨w.heap.size, 0, none⟩), .int .u64 150] 114)).alloc (.cells #[.int .i64 no, u] 80)) t 80 old := (((ht.alloc _).alloc _).alloc _).alloc _
  have y6 := c_set t (w.heap.size + 1 + 1 + 1) no u old ((((w.alloc (.cells #[.pointer (some ⟨t, 0, none⟩)] 82)).alloc (.cells #[.pointer (some ⟨21, 82, none⟩), .pointer (some ⟨w.heap.size, 0, none⟩), .int .u64 150] 114)).alloc (.cells #[.pointer (some ⟨21, 82, none⟩), .pointer (some ⟨w.heap.size, 0, none⟩), .int .u64 150] 114)).alloc (.cells #[.int .i64 no, u] 80)) hu hb4 ho (by
    have := Blk.new (((w.alloc (.cells #[.pointer (some ⟨t, 0, none⟩)] 82)).alloc (.cells #[.pointer (some ⟨21, 82, none⟩), .pointer (some ⟨w.heap.size, 0, none⟩), .int .u64 150] 114)).alloc (.cells #[.pointer (some ⟨21, 82, none⟩), .pointer (some ⟨w.heap.size, 0, none⟩), .int .u64 150] 114)) 80 #[.int .i64 no, u]
    simpa using this)
  have hlt : 8 < w.heap.size := World.block_lt_of_cell? _ _ hg
  have hg2 : ((w.alloc (.cells #[.pointer (some ⟨t, 0, none⟩)] 82)).alloc (.cells #[.pointer (some ⟨21, 82, none⟩), .pointer (some ⟨w.heap.size, 0, none⟩), .int .u64 150] 114)).cell? ⟨8, 0, none⟩ = some (.iface 151 (.agg #[.pointer (some ⟨21, 43, none⟩)])) := by
    rw [World.cell?_alloc_lt _ _ ⟨8, 0, none⟩ (by simp; omega), World.cell?_alloc_lt _ _ ⟨8, 0, none⟩ hlt]; exact hg
  have HT := Lib.hid ht
  have HB4 := Lib.hid hb4
  clear hlt ht hb4 hu ho
  go_enter Tryz.func41, Tryz.ntmps41
  go_wp2
  refine wp_loop_rounds 1 ?_
  rw [rounds_succ]
  go_wp2
  go_ret
  refine ⟨rfl, setRow_heap _ t _ _ _ _ HB4.out, ?_⟩
  refine Turn.trans ((((((Turn.refl nowhere w).alloc _).alloc _).alloc _).alloc _).mono fun _ _ e => e.elim) (G := only t) ⟨rfl, rfl, rfl, by simp, fun k hk hn => setRow_other _ t k _ hn⟩ fun _ _ e => e
end Go.Proofs.YticofobhkmabiaaGreatDoor
namespace Go.Proofs.YticofobhkmabiaaGreatDoor.Fdd
set_option linter.unusedVariables false
def dec : List UInt8 := [48, 49, 50, 51, 52, 53, 54, 55, 56, 57]
def hexs : List UInt8 := [48, 49, 50, 51, 52, 53, 54, 55, 56, 57, 97, 98, 99, 100, 101, 102]
def sgn : List UInt8 := [48, 49, 50, 51, 52, 53, 54, 55, 56, 57, 65, 66, 67, 68, 69, 70, 71, 72, 73, 74, 75, 76, 77, 78, 79, 80, 81, 82, 83, 84, 85, 86, 87, 88, 89, 90, 32]
def mk : List UInt8 := [67, 68]
def hexU : List UInt8 := [48, 49, 50, 51, 52, 53, 54, 55, 56, 57, 65, 66, 67, 68, 69, 70]
def eDec : List UInt8 := [240, 241, 242, 243, 244, 245, 246, 247, 248, 249]
def eSgn : List UInt8 := [240, 241, 242, 243, 244, 245, 246, 247, 248, 249, 193, 194, 195, 196, 197, 198, 199, 200, 201, 209, 210, 211, 212, 213, 214, 215, 216, 217, 226, 227, 228, 229, 230, 231, 232, 233, 64]
def eMk : List UInt8 := [195, 196]
/-- what stands for each sort of characters -/
structure Rw where
  d : List UInt8
  h : List UInt8
  s : List UInt8
  m : List UInt8
def rws : Nat → Rw
  | 1 => ⟨dec, hexU, sgn, mk⟩
  | 2 => ⟨[], [], sgn, mk⟩
  | 3 => ⟨eDec, [], eSgn, eMk⟩
  | _ => ⟨[], [], [], []⟩
structure Pt where
  n : Nat
  chars : List UInt8
  stands : List UInt8
structure Fm where
  kind : Int
  size : Int
  code : Int
def ptsOf (kind code : Int) (n : Nat) : List Pt :=
  if kind = 3 then [⟨n, sgn, (rws code.toNat).s⟩]
  else if kind = 4 then [⟨2 * n, hexs, (rws code.toNat).h⟩]
  else if kind = 5 then [⟨1, mk, (rws code.toNat).m⟩, ⟨n, dec, (rws code.toNat).d⟩]
  else [⟨n, dec, (rws code.toNat).d⟩]
/-- all characters are of a sort -/
def onlyOf (l cs : List UInt8) : Bool := l.all (cs.contains ·)
def Fm.may (f : Fm) : Bool := decide (1 ≤ f.kind ∧ f.kind ≤ 5) && (decide (1 ≤ f.code ∧ f.code ≤ 3) && decide (1 ≤ f.size ∧ f.size ≤ 64))
def rightAll : List Pt → List UInt8 → Bool
  | [], t => t == []
  | p :: r, t => decide (p.n ≤ t.length) && (onlyOf (t.take p.n) p.chars && rightAll r (t.drop p.n))
def Fm.right (f : Fm) (t : List UInt8) : Bool :=
  if f.kind = 2 then decide (1 ≤ t.length ∧ (t.length : Int) ≤ f.size) && rightAll (ptsOf 2 f.code t.length) t else rightAll (ptsOf f.kind f.code f.size.toNat) t
def Fm.check (f : Fm) (t : List UInt8) : Int := if f.may = true then if f.right t = true then 0 else 41 else 40
/-- two characters a byte -/
def pack (chars : List UInt8) : List UInt8 → List UInt8
  | a :: b :: r => UInt8.ofNat (16 * chars.idxOf a + chars.idxOf b) :: pack chars r
  | _ => []
def padded (t : List UInt8) : List UInt8 := if t.length % 2 = 1 then 48 :: t else t
def unpack (chars : List UInt8) : List UInt8 → List UInt8
  | [] => []
  | x :: r => chars.getD (x.toNat / 16) 0 :: chars.getD (x.toNat % 16) 0 :: unpack chars r
def packOk (chars : List UInt8) (b : List UInt8) : Bool := b.all fun x => decide (x.toNat / 16 < chars.length) && decide (x.toNat % 16 < chars.length)
def Pt.size (p : Pt) : Nat := if p.stands = [] then (p.n + 1) / 2 else p.n
def one (from_ to_ : List UInt8) (c : UInt8) : UInt8 := to_.getD (from_.idxOf c) 0
def Pt.enc (p : Pt) (t : List UInt8) : List UInt8 := if p.stands = [] then pack p.chars (padded t) else t.map (one p.chars p.stands)
def unpacked (chars b : List UInt8) (n : Nat) : Option (List UInt8) :=
  if packOk chars b = true then if n % 2 = 1 ∧ (unpack chars b).getD 0 0 ≠ 48 then none else some ((unpack chars b).drop ((unpack chars b).length - n)) else none
def Pt.dec (p : Pt) (b : List UInt8) : Option (List UInt8) :=
  if p.stands = [] then unpacked p.chars b p.n else if onlyOf b p.stands = true then some (b.map (one p.stands p.chars)) else none
def encAll : List Pt → List UInt8 → List UInt8
  | [], _ => []
  | p :: r, t => p.enc (t.take p.n) ++ encAll r (t.drop p.n)
def sizeAll : List Pt → Nat
  | [] => 0
  | p :: r => p.size + sizeAll r
def decAll : List Pt → List UInt8 → Option (List UInt8)
  | [], _ => some []
  | p :: r, b => match p.dec (b.take p.size) with
    | none => none
    | some t => (decAll r (b.drop p.size)).map (t ++ ·)
def takeAll (ps : List Pt) (b : List UInt8) : Except Int (List UInt8 × List UInt8) :=
  if b.length < sizeAll ps then .error 43 else match decAll ps b with
    | none => .error 42
    | some t => .ok (t, b.drop (sizeAll ps))
/-- a number of two digits -/
def two (n : Nat) : List UInt8 := [UInt8.ofNat (48 + n / 10), UInt8.ofNat (48 + n % 10)]
def val (t : List UInt8) : Nat := t.foldl (fun a c => a * 10 + (c.toNat - 48)) 0
def Fm.put (f : Fm) (t : List UInt8) : List UInt8 :=
  if f.kind = 2 then encAll (ptsOf 1 f.code 2) (two t.length) ++ encAll (ptsOf 2 f.code t.length) t else encAll (ptsOf f.kind f.code f.size.toNat) t
def Fm.take (f : Fm) (b : List UInt8) : Except Int (List UInt8 × List UInt8) :=
  if f.may = true then
    if f.kind = 2 then match takeAll (ptsOf 1 f.code 2) b with
      | .error e => .error e
      | .ok (t, r) => if 1 ≤ val t ∧ (val t : Int) ≤ f.size then takeAll (ptsOf 2 f.code (val t)) r else .error 42
    else takeAll (ptsOf f.kind f.code f.size.toNat) b
  else .error 40
theorem index_mem : ∀ (l : List UInt8) (c : UInt8), c ∈ l → Lib.indexByte l c = (l.idxOf c : Int)
  | [], c, h => by cases h
  | b :: l, c, h => by
    unfold Lib.indexByte
    rw [List.idxOf_cons]
    by_cases e : b = c
    · subst e
      simp
    · have e' : (b == c) = false := by simpa using e
      have hm : c ∈ l := by
        rcases List.mem_cons.1 h with h | h
        · exact absurd h.symm e
        · exact h
      have ih := index_mem l c hm
      rw [e', ih]
      have : (((l.idxOf c : Nat) : Int) == -1) = false := by simp
      simp [this]
theorem index_not : ∀ (l : List UInt8) (c : UInt8), c ∉ l → Lib.indexByte l c = -1
  | [], _, _ => rfl
  | b :: l, c, h => by
    have h1 : (b == c) = false := by
      simp
      intro e
      exact h (e ▸ List.mem_cons_self ..)
    have h2 := index_not l c fun hm => h (List.mem_cons_of_mem _ hm)
    unfold Lib.indexByte
    simp [h1, h2]
theorem onlyOf_mem {l cs : List UInt8} (h : onlyOf l cs = true) {c : UInt8} (hc : c ∈ l) : c ∈ cs := by
  simpa using List.all_eq_true.1 h c hc
theorem idx_lt {cs : List UInt8} {c : UInt8} (h : c ∈ cs) : cs.idxOf c < cs.length := List.idxOf_lt_length_iff.2 h
end Go.Proofs.YticofobhkmabiaaGreatDoor.Fdd
namespace Go.Proofs.YticofobhkmabiaaGreatDoor.Fdd
set_option linter.unusedVariables false
theorem onlyOf_of {l cs : List UInt8} (h : ∀ c ∈ l, c ∈ cs) : onlyOf l cs = true := by
  unfold onlyOf
  rw [List.all_eq_true]
  intro c hc
  simpa using h c hc
theorem one_inv {a b : List UInt8} (ha : a.Nodup) (hb : b.Nodup) (hl : a.length = b.length) {x : UInt8} (hx : x ∈ a) : one a b x ∈ b ∧ one b a (one a b x) = x := by
  have hi : a.idxOf x < a.length := idx_lt hx
  have hib : a.idxOf x < b.length := by omega
  have e1 : one a b x = b[a.idxOf x] := by
    unfold one
    rw [List.getD_eq_getElem?_getD, List.getElem?_eq_getElem hib]
    rfl
  have e2 : b.idxOf (one a b x) = a.idxOf x := by
    rw [e1]
    exact List.Nodup.idxOf_getElem hb _ hib
  refine ⟨by rw [e1]; exact List.getElem_mem _, ?_⟩
  show a.getD (b.idxOf (one a b x)) 0 = x
  rw [e2, List.getD_eq_getElem?_getD, List.getElem?_eq_getElem hi]
  exact List.getElem_idxOf hi
/-- what a part must be for its code to be one to one -/
structure GM (p : Pt) : Prop where
  c : p.chars.Nodup
  s : p.stands.Nodup
  z : p.stands = [] → p.chars[0]? = some 48 ∧ p.chars.length ≤ 16
  l : p.stands ≠ [] → p.stands.length = p.chars.length
theorem byte_of {a b : Nat} (ha : a < 16) (hb : b < 16) : (UInt8.ofNat (16 * a + b)).toNat = 16 * a + b := by
  rw [UInt8.toNat_ofNat']
  omega
theorem unpack_pack {ch : List UInt8} (hl : ch.length ≤ 16) : ∀ T : List UInt8, T.length % 2 = 0 → (∀ c ∈ T, c ∈ ch) → unpack ch (pack ch T) = T ∧ packOk ch (pack ch T) = true ∧ (pack ch T).length = T.length / 2
  | [], _, _ => ⟨rfl, rfl, rfl⟩
  | [_], h, _ => by simp at h
  | a :: b :: r, h, hm => by
    have ih := unpack_pack hl r (by simp at h; omega) fun c hc => hm c (List.mem_cons_of_mem _ (List.mem_cons_of_mem _ hc))
    have ha := hm a (List.mem_cons_self ..)
    have hb := hm b (List.mem_cons_of_mem _ (List.mem_cons_self ..))
    have ia := idx_lt ha
    have ib := idx_lt hb
    have hx := byte_of (a := ch.idxOf a) (b := ch.idxOf b) (by omega) (by omega)
    have h1 : (16 * ch.idxOf a + ch.idxOf b) / 16 = ch.idxOf a := by omega
    have h2 : (16 * ch.idxOf a + ch.idxOf b) % 16 = ch.idxOf b := by omega
    have g : ∀ c, c ∈ ch → ch.getD (ch.idxOf c) 0 = c := fun c hc => by
      rw [List.getD_eq_getElem?_getD, List.getElem?_eq_getElem (idx_lt hc)]
      exact List.getElem_idxOf (idx_lt hc)
    refine ⟨?_, ?_, ?_⟩
    · simp only [pack, unpack, hx, h1, h2, ih.1, g a ha, g b hb]
    · have h3 := ih.2.1
      unfold packOk at h3 ⊢
      rw [pack, List.all_cons, hx, h1, h2, decide_eq_true ia, decide_eq_true ib, h3]
      rfl
    · simp only [pack, List.length_cons, ih.2.2]
      omega
theorem pack_unpack {ch : List UInt8} (hn : ch.Nodup) (hl : ch.length ≤ 16) : ∀ b : List UInt8, packOk ch b = true → pack ch (unpack ch b) = b ∧ (∀ c ∈ unpack ch b, c ∈ ch) ∧ (unpack ch b).length = 2 * b.length
  | [], _ => ⟨rfl, by simp [unpack], rfl⟩
  | x :: r, h => by
    unfold packOk at h
    rw [List.all_cons, Bool.and_eq_true, Bool.and_eq_true, decide_eq_true_eq, decide_eq_true_eq] at h
    obtain ⟨⟨h1, h2⟩, h3⟩ := h
    have ih := pack_unpack hn hl r h3
    have g : ∀ i, i < ch.length → ch.getD i 0 ∈ ch ∧ ch.idxOf (ch.getD i 0) = i := fun i hi => by
      rw [List.getD_eq_getElem?_getD, List.getElem?_eq_getElem hi]
      exact ⟨List.getElem_mem _, List.Nodup.idxOf_getElem hn _ hi⟩
    refine ⟨?_, ?_, ?_⟩
    · simp only [unpack, pack, (g _ h1).2, (g _ h2).2, ih.1]
      congr 1
      apply UInt8.toNat_inj.1
      rw [UInt8.toNat_ofNat']
      have := x.toNat_lt
      omega
    · intro c hc
      simp only [unpack, List.mem_cons] at hc
      rcases hc with rfl | rfl | hc
      · exact (g _ h1).1
      · exact (g _ h2).1
      · exact ih.2.1 c hc
    · simp only [unpack, List.length_cons, ih.2.2]
      omega
theorem padded_two (t : List UInt8) : (padded t).length % 2 = 0 ∧ (padded t).length / 2 = (t.length + 1) / 2 := by
  unfold padded
  by_cases h : t.length % 2 = 1
  · rw [if_pos h, List.length_cons]
    omega
  · rw [if_neg h]
    omega
/-- written, and read again -/
theorem enc_dec {p : Pt} (h : GM p) {t : List UInt8} (ht : onlyOf t p.chars = true) (hn : t.length = p.n) : (p.enc t).length = p.size ∧ p.dec (p.enc t) = some t := by
  unfold Pt.enc Pt.size Pt.dec
  by_cases hs : p.stands = []
  · obtain ⟨h0, h16⟩ := h.z hs
    rw [if_pos hs, if_pos hs, if_pos hs]
    have h48 : 48 ∈ p.chars := List.mem_of_getElem? h0
    have hm : ∀ c ∈ padded t, c ∈ p.chars := by
      intro c hc
      unfold padded at hc
      split at hc
      · rcases List.mem_cons.1 hc with rfl | hc
        · exact h48
        · exact onlyOf_mem ht hc
      · exact onlyOf_mem ht hc
    obtain ⟨h1, h2, h3⟩ := unpack_pack h16 (padded t) (padded_two t).1 hm
    refine ⟨by rw [h3, (padded_two t).2, hn], ?_⟩
    unfold unpacked
    rw [if_pos h2, h1]
    unfold padded
    by_cases ho : t.length % 2 = 1
    · rw [if_pos ho, if_neg (by simp), List.length_cons, ← hn]
      rw [show t.length + 1 - t.length = 1 from by omega]
      rfl
    · rw [if_neg ho, if_neg (by rw [← hn]; intro h; exact ho h.1), hn, Nat.sub_self, List.drop_zero]
  · rw [if_neg hs, if_neg hs, if_neg hs]
    have hl := h.l hs
    refine ⟨by rw [List.length_map, hn], ?_⟩
    have hin : ∀ c ∈ t, one p.chars p.stands c ∈ p.stands ∧ one p.stands p.chars (one p.chars p.stands c) = c := fun c hc => one_inv h.c h.s hl.symm (onlyOf_mem ht hc)
    rw [if_pos (onlyOf_of fun c hc => by
      obtain ⟨d, hd, rfl⟩ := List.mem_map.1 hc
      exact (hin d hd).1)]
    rw [List.map_map]
    congr 1
    conv => rhs; rw [← List.map_id t]
    exact List.map_congr_left fun c hc => (hin c hc).2
/-- read, and written again -/
theorem dec_enc {p : Pt} (h : GM p) {b t : List UInt8} (hd : p.dec b = some t) (hb : b.length = p.size) : t.length = p.n ∧ onlyOf t p.chars = true ∧ p.enc t = b := by
  unfold Pt.dec at hd
  unfold Pt.size at hb
  unfold Pt.enc
  by_cases hs : p.stands = []
  · obtain ⟨h0, h16⟩ := h.z hs
    rw [if_pos hs] at hd hb ⊢
    unfold unpacked at hd
    by_cases hok : packOk p.chars b = true
    · rw [if_pos hok] at hd
      obtain ⟨h1, h2, h3⟩ := pack_unpack h.c h16 b hok
      by_cases hbad : p.n % 2 = 1 ∧ (unpack p.chars b).getD 0 0 ≠ 48
      · rw [if_pos hbad] at hd
        cases hd
      · rw [if_neg hbad] at hd
        injection hd with hd
        have hlen : t.length = p.n := by
          rw [← hd, List.length_drop, h3]
          omega
        have honly : onlyOf t p.chars = true := onlyOf_of fun c hc => h2 c (by rw [← hd] at hc; exact List.mem_of_mem_drop hc)
        refine ⟨hlen, honly, ?_⟩
        have hpad : padded t = unpack p.chars b := by
          unfold padded
          by_cases ho : p.n % 2 = 1
          · rw [hlen, if_pos ho, ← hd, h3, show 2 * b.length - p.n = 1 from by omega]
            cases hu : unpack p.chars b with
            | nil =>
              rw [hu] at h3
              simp at h3
              omega
            | cons x r =>
              have hx : x = 48 := by
                have := fun hne => hbad ⟨ho, hne⟩
                rw [hu] at this
                simpa using this
              rw [hx]
              rfl
          · rw [hlen, if_neg ho, ← hd, h3, show 2 * b.length - p.n = 0 from by omega, List.drop_zero]
        rw [hpad, h1]
    · rw [if_neg hok] at hd
      cases hd
  · rw [if_neg hs] at hd hb ⊢
    have hl := h.l hs
    by_cases hok : onlyOf b p.stands = true
    · rw [if_pos hok] at hd
      injection hd with hd
      have hin : ∀ c ∈ b, one p.stands p.chars c ∈ p.chars ∧ one p.chars p.stands (one p.stands p.chars c) = c := fun c hc => one_inv h.s h.c hl (onlyOf_mem hok hc)
      refine ⟨by rw [← hd, List.length_map, hb], ?_, ?_⟩
      · rw [← hd]
        exact onlyOf_of fun c hc => by
          obtain ⟨d, hd', rfl⟩ := List.mem_map.1 hc
          exact (hin d hd').1
      · rw [← hd, List.map_map]
        conv => rhs; rw [← List.map_id b]
        exact List.map_congr_left fun c hc => (hin c hc).2
    · rw [if_neg hok] at hd
      cases hd
theorem enc_all : ∀ (ps : List Pt) (t rest : List UInt8), (∀ p ∈ ps, GM p) → rightAll ps t = true → (encAll ps t).length = sizeAll ps ∧ decAll ps (encAll ps t ++ rest) = some t
  | [], t, rest, _, h => by
    have : t = [] := by simpa [rightAll] using h
    subst this
    exact ⟨rfl, rfl⟩
  | p :: r, t, rest, hg, h => by
    have h' : p.n ≤ t.length ∧ onlyOf (t.take p.n) p.chars = true ∧ rightAll r (t.drop p.n) = true := by simpa [rightAll] using h
    obtain ⟨h1, h2, h3⟩ := h'
    obtain ⟨e1, e2⟩ := enc_dec (hg p (List.mem_cons_self ..)) h2 (by rw [List.length_take]; omega)
    obtain ⟨e3, e4⟩ := enc_all r (t.drop p.n) rest (fun q hq => hg q (List.mem_cons_of_mem _ hq)) h3
    refine ⟨by rw [encAll, List.length_append, e1, e3]; rfl, ?_⟩
    unfold decAll
    rw [encAll, List.append_assoc, List.take_append_of_le_length (by omega), List.take_of_length_le (by omega), e2]
    simp only []
    rw [List.drop_append_of_le_length (by omega), List.drop_of_length_le (by omega), List.nil_append, e4]
    simp
theorem dec_all : ∀ (ps : List Pt) (b t : List UInt8), (∀ p ∈ ps, GM p) → sizeAll ps ≤ b.length → decAll ps b = some t → rightAll ps t = true ∧ encAll ps t = b.take (sizeAll ps)
  | [], b, t, _, _, h => by
    have : t = [] := by simpa [decAll] using h.symm
    subst this
    exact ⟨rfl, by simp [encAll, sizeAll]⟩
  | p :: r, b, t, hg, hl, h => by
    have hsz : sizeAll (p :: r) = p.size + sizeAll r := rfl
    rw [hsz] at hl
    unfold decAll at h
    cases hd : p.dec (b.take p.size) with
    | none => rw [hd] at h; cases h
    | some t1 =>
      rw [hd] at h
      simp only [Option.map_eq_some_iff] at h
      obtain ⟨t2, h2, rfl⟩ := h
      obtain ⟨e1, e2, e3⟩ := dec_enc (hg p (List.mem_cons_self ..)) hd (by rw [List.length_take]; omega)
      obtain ⟨e4, e5⟩ := dec_all r (b.drop p.size) t2 (fun q hq => hg q (List.mem_cons_of_mem _ hq)) (by rw [List.length_drop]; omega) h2
      have t1' : (t1 ++ t2).take p.n = t1 := by rw [List.take_append_of_le_length (by omega), List.take_of_length_le (by omega)]
      have t2' : (t1 ++ t2).drop p.n = t2 := by rw [List.drop_append_of_le_length (by omega), List.drop_of_length_le (by omega), List.nil_append]
      refine ⟨?_, ?_⟩
      · unfold rightAll
        rw [t1', t2', e2, e4, decide_eq_true (by rw [List.length_append]; omega)]
        rfl
      · rw [encAll, t1', t2', e3, e5, hsz, ← List.take_add]
theorem take_ok {ps : List Pt} (hg : ∀ p ∈ ps, GM p) {t rest : List UInt8} (h : rightAll ps t = true) : takeAll ps (encAll ps t ++ rest) = .ok (t, rest) := by
  obtain ⟨h1, h2⟩ := enc_all ps t rest hg h
  unfold takeAll
  rw [if_neg (by rw [List.length_append]; omega), h2]
  simp only []
  rw [List.drop_append_of_le_length (by omega), List.drop_of_length_le (by omega), List.nil_append]
theorem ok_take {ps : List Pt} (hg : ∀ p ∈ ps, GM p) {b t rest : List UInt8} (h : takeAll ps b = .ok (t, rest)) : rightAll ps t = true ∧ encAll ps t ++ rest = b := by
  unfold takeAll at h
  split at h
  · cases h
  · rename_i hl
    split at h
    · cases h
    · rename_i t' hd
      injection h with h
      injection h with h1 h2
      subst h1 h2
      obtain ⟨e1, e2⟩ := dec_all ps b t' hg (by omega) hd
      exact ⟨e1, by rw [e2, List.take_append_drop]⟩
theorem take_short {ps : List Pt} {b : List UInt8} (h : b.length < sizeAll ps) : takeAll ps b = .error 43 := by
  unfold takeAll
  rw [if_pos h]
end Go.Proofs.YticofobhkmabiaaGreatDoor.Fdd
namespace Go.Proofs.YticofobhkmabiaaGreatDoor.Fdd
set_option linter.unusedVariables false
theorem may_form {f : Fm} (h : f.may = true) : ∃ k s c : Nat, f = ⟨(k : Int), (s : Int), (c : Int)⟩ ∧ (1 ≤ k ∧ k ≤ 5) ∧ (1 ≤ c ∧ c ≤ 3) ∧ (1 ≤ s ∧ s ≤ 64) := by
  obtain ⟨k, s, c⟩ := f
  simp only [Fm.may, Bool.and_eq_true, decide_eq_true_eq] at h
  obtain ⟨h1, h2, h3⟩ := h
  refine ⟨k.toNat, s.toNat, c.toNat, ?_, by omega, by omega, by omega⟩
  rw [Int.toNat_of_nonneg (by omega), Int.toNat_of_nonneg (by omega), Int.toNat_of_nonneg (by omega)]
def gmB (p : Pt) : Bool := decide p.chars.Nodup && decide p.stands.Nodup && (!decide (p.stands = []) || (decide (p.chars[0]? = some 48) && decide (p.chars.length ≤ 16))) && (decide (p.stands = []) || decide (p.stands.length = p.chars.length))
theorem gm_of {p : Pt} (h : gmB p = true) : GM p := by
  unfold gmB at h
  simp only [Bool.and_eq_true, Bool.or_eq_true, decide_eq_true_eq, Bool.not_eq_true', decide_eq_false_iff_not] at h
  obtain ⟨⟨⟨h1, h2⟩, h3⟩, h4⟩ := h
  exact ⟨h1, h2, fun e => h3.resolve_left fun h => h e, fun e => h4.resolve_left e⟩
theorem gm_n {n m : Nat} {ch st : List UInt8} (h : gmB ⟨m, ch, st⟩ = true) : GM ⟨n, ch, st⟩ := gm_of h
theorem pts_gm {k : Int} {c n : Nat} (hc : 1 ≤ c ∧ c ≤ 3) : ∀ p ∈ ptsOf k (c : Int) n, GM p := by
  have hcc : c = 1 ∨ c = 2 ∨ c = 3 := by omega
  intro p hp
  unfold ptsOf at hp
  rw [Int.toNat_natCast] at hp
  split at hp
  · simp only [List.mem_singleton] at hp
    subst hp
    rcases hcc with rfl | rfl | rfl <;> exact gm_n (m := 0) (by decide)
  · split at hp
    · simp only [List.mem_singleton] at hp
      subst hp
      rcases hcc with rfl | rfl | rfl <;> exact gm_n (m := 0) (by decide)
    · split at hp
      · simp only [List.mem_cons, List.not_mem_nil, or_false] at hp
        rcases hp with rfl | rfl
        · rcases hcc with rfl | rfl | rfl <;> exact gm_n (m := 0) (by decide)
        · rcases hcc with rfl | rfl | rfl <;> exact gm_n (m := 0) (by decide)
      · simp only [List.mem_singleton] at hp
        subst hp
        rcases hcc with rfl | rfl | rfl <;> exact gm_n (m := 0) (by decide)
theorem two_len (n : Nat) : (two n).length = 2 := rfl
theorem two_ok {n : Nat} (h : n ≤ 99) : val (two n) = n ∧ onlyOf (two n) dec = true := by
  have key : ∀ n : Fin 100, val (two n.val) = n.val ∧ onlyOf (two n.val) dec = true := by decide +kernel
  exact key ⟨n, by omega⟩
theorem two_of {t : List UInt8} (hl : t.length = 2) (h : onlyOf t dec = true) : two (val t) = t ∧ val t ≤ 99 := by
  match t, hl with
  | [a, b], _ =>
    have ha := onlyOf_mem h (List.mem_cons_self ..)
    have hb := onlyOf_mem h (List.mem_cons_of_mem _ (List.mem_cons_self ..))
    have key : ∀ a ∈ dec, ∀ b ∈ dec, two (val [a, b]) = [a, b] ∧ val [a, b] ≤ 99 := by decide +kernel
    exact key a ha b hb
theorem num_right (c : Int) (t : List UInt8) : rightAll (ptsOf 1 c 2) t = true ↔ t.length = 2 ∧ onlyOf t dec = true := by
  have e : ptsOf 1 c 2 = [⟨2, dec, (rws c.toNat).d⟩] := rfl
  rw [e]
  unfold rightAll rightAll
  simp only [Bool.and_eq_true, decide_eq_true_eq, beq_iff_eq, List.drop_eq_nil_iff]
  constructor
  · rintro ⟨h1, h2, h3⟩
    rw [List.take_of_length_le h3] at h2
    exact ⟨by omega, h2⟩
  · rintro ⟨h1, h2⟩
    rw [List.take_of_length_le (by omega)]
    exact ⟨by omega, h2, by omega⟩
theorem right_len : ∀ (ps : List Pt) (t : List UInt8), rightAll ps t = true → t.length = (ps.map (·.n)).sum
  | [], t, h => by
    have : t = [] := by simpa [rightAll] using h
    subst this
    rfl
  | p :: r, t, h => by
    have h' : p.n ≤ t.length ∧ onlyOf (t.take p.n) p.chars = true ∧ rightAll r (t.drop p.n) = true := by simpa [rightAll] using h
    have ih := right_len r (t.drop p.n) h'.2.2
    rw [List.length_drop] at ih
    simp only [List.map_cons, List.sum_cons]
    omega
section
variable {k s c : Nat} {t b rest : List UInt8}
/-- a form in natural numbers -/
def nf (k s c : Nat) : Fm := ⟨(k : Int), (s : Int), (c : Int)⟩
theorem may_nf (hk : 1 ≤ k ∧ k ≤ 5) (hc : 1 ≤ c ∧ c ≤ 3) (hs : 1 ≤ s ∧ s ≤ 64) : (nf k s c).may = true := by
  show (decide (1 ≤ (k : Int) ∧ (k : Int) ≤ 5) && (decide (1 ≤ (c : Int) ∧ (c : Int) ≤ 3) && decide (1 ≤ (s : Int) ∧ (s : Int) ≤ 64))) = true
  rw [decide_eq_true (by omega), decide_eq_true (by omega), decide_eq_true (by omega)]
  rfl
theorem right_ll : (nf 2 s c).right t = (decide (1 ≤ t.length ∧ (t.length : Int) ≤ (s : Int)) && rightAll (ptsOf 2 (c : Int) t.length) t) := rfl
theorem right_nl (hk : k ≠ 2) : (nf k s c).right t = rightAll (ptsOf (k : Int) (c : Int) s) t := by
  unfold Fm.right nf
  rw [if_neg (by simp; omega)]
  rfl
theorem put_ll : (nf 2 s c).put t = encAll (ptsOf 1 (c : Int) 2) (two t.length) ++ encAll (ptsOf 2 (c : Int) t.length) t := rfl
theorem put_nl (hk : k ≠ 2) : (nf k s c).put t = encAll (ptsOf (k : Int) (c : Int) s) t := by
  unfold Fm.put nf
  rw [if_neg (by simp; omega)]
  rfl
theorem take_nl (hk : k ≠ 2) (hm : (nf k s c).may = true) : (nf k s c).take b = takeAll (ptsOf (k : Int) (c : Int) s) b := by
  unfold Fm.take
  rw [if_pos hm]
  unfold nf
  rw [if_neg (by simp; omega)]
  rfl
theorem take_ll (hm : (nf 2 s c).may = true) : (nf 2 s c).take b = match takeAll (ptsOf 1 (c : Int) 2) b with
      | .error e => .error e
      | .ok (t, r) => if 1 ≤ val t ∧ (val t : Int) ≤ (s : Int) then takeAll (ptsOf 2 (c : Int) (val t)) r else .error 42 := by
  unfold Fm.take
  rw [if_pos hm]
  rfl
theorem ll_right (h : (nf 2 s c).right t = true) : (1 ≤ t.length ∧ t.length ≤ s) ∧ rightAll (ptsOf 2 (c : Int) t.length) t = true := by
  rw [right_ll, Bool.and_eq_true, decide_eq_true_eq] at h
  exact ⟨⟨h.1.1, by omega⟩, h.2⟩
theorem fm_back (hk : 1 ≤ k ∧ k ≤ 5) (hc : 1 ≤ c ∧ c ≤ 3) (hs : 1 ≤ s ∧ s ≤ 64) (hr : (nf k s c).right t = true) : (nf k s c).take ((nf k s c).put t ++ rest) = .ok (t, rest) := by
  have hm := may_nf hk hc hs
  by_cases h2 : k = 2
  · subst h2
    obtain ⟨hl, hr2⟩ := ll_right hr
    have h2k := two_ok (n := t.length) (by omega)
    rw [take_ll hm, put_ll, List.append_assoc, take_ok (pts_gm hc) ((num_right _ _).2 ⟨rfl, h2k.2⟩)]
    simp only []
    rw [h2k.1, if_pos ⟨hl.1, by omega⟩]
    exact take_ok (pts_gm hc) hr2
  · rw [right_nl h2] at hr
    rw [take_nl h2 hm, put_nl h2]
    exact take_ok (pts_gm hc) hr
theorem fm_one (hk : 1 ≤ k ∧ k ≤ 5) (hc : 1 ≤ c ∧ c ≤ 3) (hs : 1 ≤ s ∧ s ≤ 64) (h : (nf k s c).take b = .ok (t, rest)) : (nf k s c).right t = true ∧ (nf k s c).put t ++ rest = b := by
  have hm := may_nf hk hc hs
  by_cases h2 : k = 2
  · subst h2
    rw [take_ll hm] at h
    split at h
    · cases h
    · rename_i t1 r1 h1
      split at h
      · rename_i hv
        obtain ⟨e1, e2⟩ := ok_take (pts_gm hc) h1
        obtain ⟨e3, e4⟩ := ok_take (pts_gm hc) h
        obtain ⟨l1, l2⟩ := (num_right _ _).1 e1
        obtain ⟨l3, l4⟩ := two_of l1 l2
        have hlen : t.length = val t1 := by
          have := right_len _ _ e3
          simpa [ptsOf] using this
        refine ⟨?_, ?_⟩
        · rw [right_ll, hlen, decide_eq_true hv, e3]
          rfl
        · rw [put_ll, hlen, l3, List.append_assoc, e4, e2]
      · cases h
  · rw [take_nl h2 hm] at h
    obtain ⟨e1, e2⟩ := ok_take (pts_gm hc) h
    rw [right_nl h2, put_nl h2]
    exact ⟨e1, e2⟩
theorem fm_len (hc : 1 ≤ c ∧ c ≤ 3) (hs : 1 ≤ s ∧ s ≤ 64) (hr : (nf k s c).right t = true) : ((nf k s c).put t).length = if k = 2 then sizeAll (ptsOf 1 (c : Int) 2) + sizeAll (ptsOf 2 (c : Int) t.length) else sizeAll (ptsOf (k : Int) (c : Int) s) := by
  by_cases h2 : k = 2
  · subst h2
    obtain ⟨hl, hr2⟩ := ll_right hr
    have h2k := two_ok (n := t.length) (by omega)
    rw [if_pos rfl, put_ll, List.length_append, (enc_all _ _ [] (pts_gm hc) ((num_right _ _).2 ⟨rfl, h2k.2⟩)).1, (enc_all _ _ [] (pts_gm hc) hr2).1]
  · rw [right_nl h2] at hr
    rw [if_neg h2, put_nl h2, (enc_all _ _ [] (pts_gm hc) hr).1]
theorem fm_short (hk : 1 ≤ k ∧ k ≤ 5) (hc : 1 ≤ c ∧ c ≤ 3) (hs : 1 ≤ s ∧ s ≤ 64) (hr : (nf k s c).right t = true) {i : Nat} (hi : i < ((nf k s c).put t).length) : (nf k s c).take (((nf k s c).put t).take i) = .error 43 := by
  have hm := may_nf hk hc hs
  have hlen := fm_len (t := t) hc hs hr
  by_cases h2 : k = 2
  · subst h2
    obtain ⟨hl, hr2⟩ := ll_right hr
    have h2k := two_ok (n := t.length) (by omega)
    have e1 := (enc_all _ _ [] (pts_gm hc) ((num_right (c : Int) _).2 ⟨two_len t.length, h2k.2⟩)).1
    rw [if_pos rfl] at hlen
    rw [take_ll hm]
    by_cases h1 : i < sizeAll (ptsOf 1 (c : Int) 2)
    · rw [take_short (by rw [List.length_take]; omega)]
    · rw [put_ll, List.take_append, List.take_of_length_le (by omega), take_ok (pts_gm hc) ((num_right _ _).2 ⟨rfl, h2k.2⟩)]
      simp only []
      rw [h2k.1, if_pos ⟨hl.1, by omega⟩, take_short (by rw [List.length_take, e1]; omega)]
  · rw [if_neg h2] at hlen
    rw [take_nl h2 hm, take_short (by rw [List.length_take]; omega)]
theorem right_code {c' : Nat} (n : Nat) (kk : Int) : rightAll (ptsOf kk (c : Int) n) t = rightAll (ptsOf kk (c' : Int) n) t := by
  unfold ptsOf
  split
  · rfl
  · split
    · rfl
    · split
      · rfl
      · rfl
theorem fm_code {c' : Nat} : (nf k s c).right t = (nf k s c').right t := by
  unfold Fm.right nf
  simp only [right_code (c := c) (c' := c')]
end
end Go.Proofs.YticofobhkmabiaaGreatDoor.Fdd
namespace Go.Proofs.YticofobhkmabiaaGreatDoor.Fdd
set_option linter.unusedVariables false
/-- a field's number, its kind, its size -/
def mrows : List (Int × Int × Int) := [(2, 2, 19), (3, 1, 6), (4, 1, 12), (7, 1, 10), (11, 1, 6), (32, 2, 11), (38, 3, 6), (39, 3, 2), (49, 1, 3), (64, 4, 8), (70, 1, 3), (74, 1, 10), (76, 1, 10), (86, 1, 16), (88, 1, 16), (90, 1, 20), (97, 5, 16)]
def mfind (no : Int) : List (Int × Int × Int) → Option (Int × Int)
  | [] => none
  | r :: l => if r.1 = no then some r.2 else mfind no l
def unsaid (d : Nat) (no : Int) : List UInt8 := if d = 3 ∧ no = 4 then [48, 48] else []
def mform (d : Nat) (no : Int) : Option Fm := (mfind no mrows).map fun r => ⟨r.1, r.2 - (unsaid d no).length, (d : Int)⟩
def mtypes : List Int := [100, 101, 110, 200, 201, 210, 220, 221, 230, 420, 421, 430, 500, 510, 800, 810]
abbrev Fld := Int × List UInt8
/-- what is wrong with a field's place or text: nothing; 52; 41 -/
def fieldBad (last : Int) (f : Fld) : Int := match mform 1 f.1 with
  | none => 52
  | some m => if f.1 ≤ last then 52 else if m.check f.2 = 0 then 0 else 41
def checkFs : Int → List Fld → Int
  | _, [] => 0
  | last, f :: r => if fieldBad last f = 0 then checkFs f.1 r else fieldBad last f
def mcheck (ty : Int) (fs : List Fld) : Int := if mtypes.contains ty = false then 51 else if 24 < fs.length then 5 else checkFs 0 fs
/-- what a dialect says of a field's text -/
def say (d : Nat) (f : Fld) : List UInt8 := Lib.trimPrefix f.2 (unsaid d f.1)
/-- the fields' bytes behind others; what can't be said -/
def putFs (d : Nat) : List UInt8 → List Fld → Option (List UInt8)
  | b, [] => some b
  | b, f :: r => match mform d f.1 with
    | none => none
    | some m => if m.check (say d f) = 0 then putFs d (b ++ m.put (say d f)) r else none
def half1 (fs : List Fld) : Nat := fs.foldl (fun a f => if f.1 ≤ 64 then a ||| 2 ^ (64 - f.1.toNat) else a) 0
def half2 (fs : List Fld) : Nat := fs.foldl (fun a f => if f.1 ≤ 64 then a else a ||| 2 ^ (128 - f.1.toNat)) 0
/-- the lowest k hexadecimal digits of a number -/
def hexk : Nat → Nat → List UInt8
  | 0, _ => []
  | k + 1, n => hexk k (n / 16) ++ [hexs.getD (n % 16) 0]
def halves (fs : List Fld) : List (List UInt8) := if half2 fs = 0 then [hexk 16 (half1 fs)] else [hexk 16 (half1 fs ||| 2 ^ 63), hexk 16 (half2 fs)]
def ver (d : Nat) : List UInt8 := if d = 1 then [48] else if d = 2 then [49] else [57]
def dig3 (n : Nat) : List UInt8 := [UInt8.ofNat (48 + n / 100), UInt8.ofNat (48 + n / 10 % 10), UInt8.ofNat (48 + n % 10)]
def typeFm (d : Nat) : Fm := nf 1 4 d
def mapFm (d : Nat) : Fm := nf 4 8 d
def mhead (d : Nat) (ty : Int) (fs : List Fld) : List UInt8 := (halves fs).foldl (fun b h => b ++ (mapFm d).put h) ((typeFm d).put (ver d ++ dig3 ty.toNat))
def mencode (d : Int) (ty : Int) (fs : List Fld) : Except Int (List UInt8) :=
  if 1 ≤ d ∧ d ≤ 3 then if mcheck ty fs = 0 then match putFs d.toNat (mhead d.toNat ty fs) fs with
    | none => .error 41
    | some b => .ok b
  else .error (mcheck ty fs) else .error 50
/-- hexadecimal digits as a number -/
def hexVal (t : List UInt8) : Nat := t.foldl (fun a c => a * 16 + hexs.idxOf c) 0
/-- the numbers of a half's fields -/
def nums (h ahead : Nat) : List Int := ((List.range 64).filter fun i => h.testBit (63 - i)).map fun i => ((ahead + i + 1 : Nat) : Int)
def mtype (d : Nat) (t : List UInt8) : Option Int :=
  if (ver d).isPrefixOf t = true then
    if (t.drop 1).length ≤ 18 ∧ onlyOf (t.drop 1) dec = true ∧ t.drop 1 ≠ [] then if mtypes.contains ((val (t.drop 1) : Nat) : Int) = true then some ((val (t.drop 1) : Nat) : Int) else none else none
  else none
def takeType (d : Nat) (b : List UInt8) : Except Int (Int × List UInt8) := match (typeFm d).take b with
  | .error e => .error e
  | .ok (t, r) => match mtype d t with
    | none => .error 51
    | some n => .ok (n, r)
def takeHalf (d : Nat) (b : List UInt8) : Except Int (Nat × List UInt8) := match (mapFm d).take b with
  | .error e => .error e
  | .ok (t, r) => .ok (hexVal t, r)
def takeMap (d : Nat) (b : List UInt8) : Except Int (List Int × List UInt8) := match takeHalf d b with
  | .error e => .error e
  | .ok (h, r) => if h.testBit 63 = false then .ok (nums h 0, r) else match takeHalf d r with
    | .error e => .error e
    | .ok (h2, r2) => if h2 = 0 then .error 53 else .ok (nums (h % 2 ^ 63) 0 ++ nums h2 64, r2)
def takeFs (d : Nat) : List Int → List UInt8 → Except Int (List Fld × List UInt8)
  | [], b => .ok ([], b)
  | no :: l, b => match mform d no with
    | none => .error 52
    | some f => match f.take b with
      | .error e => .error e
      | .ok (t, r) => match takeFs d l r with
        | .error e => .error e
        | .ok (fs, r2) => .ok ((no, unsaid d no ++ t) :: fs, r2)
def allForms (d : Nat) (l : List Int) : Bool := l.all fun no => (mform d no).isSome
def mdecode (d : Int) (b0 : List UInt8) : Except Int (Int × List Fld) :=
  if 1 ≤ d ∧ d ≤ 3 then match takeType d.toNat (b0.take 512) with
    | .error e => .error e
    | .ok (ty, b1) => match takeMap d.toNat b1 with
      | .error e => .error e
      | .ok (l, b2) => if allForms d.toNat l = true then match takeFs d.toNat l b2 with
          | .error e => .error e
          | .ok (fs, b3) => if b3 = [] then .ok (ty, fs) else .error 54
        else .error 52
  else .error 50
end Go.Proofs.YticofobhkmabiaaGreatDoor.Fdd
namespace Go.Proofs.YticofobhkmabiaaGreatDoor
open Go.RowKit
set_option linter.unusedVariables false
set_option linter.unusedSimpArgs false
theorem gx_iaddr {P : Program} {a : Act} {o : Oper} {W : World} {t e : TypeId} {x y : Operand} {b off n c i sz m : Nat} {k : IntKind} (ho : o.op = .indexAddr t x y) (hx : a.eval x = .slice (some ⟨b, off, none⟩) n c) (hy : a.eval y = .int k (i : Int))
    (ht : P.underlying t = some (.slice e)) (hs : (P.info? e).map (·.size) = some sz) (hi : i < n) (hm : off + i * sz = m) : (execOp a.eval o).run P W = .ok (.value (.pointer (some ⟨b, m, none⟩))) W := by
  obtain ⟨j, hj, hjs⟩ := Option.map_eq_some_iff.1 hs
  subst hm
  unfold execOp
  simp [ho, hx, hy, Instr.indexAt, run_underlying ht, asIntOf, sizeOf, typeInfo, hj, hjs, hi, add_nat, Result.andThen]
theorem gx_alloc {P : Program} {a : Act} {o : Oper} {W : World} {t : TypeId} {z : Value} (ho : o.op = .alloc t) (hz : (zeroValue t).run P W = .ok z W) :
    (execOp a.eval o).run P W = .ok (.value (.pointer (some ⟨W.heap.size, 0, none⟩))) (W.alloc (.cells z.cells t)) := by
  unfold execOp
  simp [ho, Instr.alloc, hz, newVar, Result.andThen, newRow]
theorem gx_build4 {P : Program} {a : Act} {o : Oper} {t : TypeId} {x0 x1 x2 x3 : Operand} {u0 u1 u2 u3 r : Value} {W : World} (ho : o.op = .build t #[(0, x0), (1, x1), (2, x2), (3, x3)]) (h0 : a.eval x0 = u0) (h1 : a.eval x1 = u1) (h2 : a.eval x2 = u2) (h3 : a.eval x3 = u3)
    (h : (Instr.build t #[(0, u0), (1, u1), (2, u2), (3, u3)]).run P W = .ok r W) : (execOp a.eval o).run P W = .ok (.value r) W := by
  unfold execOp
  simp only [ho, List.map_toArray, List.map_cons, List.map_nil, h0, h1, h2, h3, h, Sem.run_bind, Sem.run_pure, Result.andThen_ok]
theorem gx_build2 {P : Program} {a : Act} {o : Oper} {t : TypeId} {x0 x1 : Operand} {u0 u1 r : Value} {W : World} (ho : o.op = .build t #[(0, x0), (1, x1)]) (h0 : a.eval x0 = u0) (h1 : a.eval x1 = u1)
    (h : (Instr.build t #[(0, u0), (1, u1)]).run P W = .ok r W) : (execOp a.eval o).run P W = .ok (.value r) W := by
  unfold execOp
  simp only [ho, List.map_toArray, List.map_cons, List.map_nil, h0, h1, h, Sem.run_bind, Sem.run_pure, Result.andThen_ok]
theorem gx_assign {P : Program} {a : Act} {o : Oper} {W : World} {x : Operand} {v : Value} (ho : o.op = .assign x) (hx : a.eval x = v) : (execOp a.eval o).run P W = .ok (.value v) W := by
  unfold execOp
  simp only [ho, hx, Sem.run_pure]
theorem gx_make {P : Program} {a : Act} {o : Oper} {t : TypeId} {x y : Operand} {u u' v : Value} {W W' : World} (ho : o.op = .makeSlice t x y) (hx : a.eval x = u) (hy : a.eval y = u') (h : (Instr.makeSlice t u u').run P W = .ok v W') : (execOp a.eval o).run P W = .ok (.value v) W' := by
  unfold execOp
  simp only [ho, hx, hy, h, Sem.run_bind, Sem.run_pure, Result.andThen_ok]
theorem gx_len {P : Program} {a : Act} {o : Oper} {W : World} {x : Operand} {t : TypeId} {e : TypeId} {A : Option Addr} {n c : Nat} (ho : o.op = .call { callee := .builtin .len, args := #[x], argTypes := #[t] }) (hx : a.eval x = .slice A n c) (ht : P.underlying t = some (.slice e)) : (execOp a.eval o).run P W = .ok (.value (.int .i64 (n : Int))) W := by
  unfold execOp
  simp [ho, hx, resolve, invoke, builtin, Builtin.len_, run_underlying ht, Result.andThen]
  rfl
/-- a value of several cells goes into the middle of a block -/
theorem wpList_store_mid {P : Program} {ops : Array Oper} {rest : List Oper} {o : Oper} {a : Act} {w : World} {Q : Exit → Act → World → Prop} (hgd : Region.wanted o (yielded ops a.tmps) = true) (ty : TypeId) (x y : Operand) (ho : o.op = .store ty x y) {g off : Nat} {t : TypeId} {old : Array Value} (cells : Array Value) (hb : Blk w g t old)
    (hx : a.eval x = .pointer (some ⟨g, off, none⟩)) (hy : a.eval y = .agg cells) (hs : off + cells.size ≤ old.size) (hi : (P.info? ty).map (·.size) = some cells.size) (h1 : ∀ v ∈ cells.toList, v.oneCell' = true)
    (h : ∀ w' C', Blk w' g t C' → C'.size = old.size → (∀ j, C'[j]? = if off ≤ j ∧ j < off + cells.size then cells[j - off]? else old[j]?) → Turn (only g) w w' → wpList P ops Q rest (a.put o.dst undef) w') : wpList P ops Q (o :: rest) a w :=
  wpList_step fun K hK => by
    rw [if_pos hgd]
    have hr := run_storeAt_mid (P := P) w g off ty cells (blk_there hb off _ hs) hi (Array.all_eq_true_iff_forall_mem.2 fun v hv => h1 v (by simpa using hv))
    obtain ⟨C', c1, c2, c3⟩ := setCells_blk cells.toList w g off t old hb
    have ht := setCells_turn cells.toList w g off
    generalize w.setCells g off cells.toList = w' at *
    unfold Oper.wp execOp
    simp only [ho, hx, hy, hr, Sem.run_bind, Sem.run_pure, Result.andThen_ok]
    refine hK _ _ (h w' C' c1 c2 (fun j => ?_) ht)
    rw [c3]
    have hl : cells.toList.length = cells.size := by simp
    rw [hl]
    by_cases hj : off ≤ j ∧ j < off + cells.size
    · rw [if_pos hj, if_pos ⟨hj.1, hj.2, by omega⟩, Array.getElem?_toList]
    · rw [if_neg hj, if_neg (by omega)]
/-- a value of one cell goes into a block -/
theorem wpList_store1 {P : Program} {ops : Array Oper} {rest : List Oper} {o : Oper} {a : Act} {w : World} {Q : Exit → Act → World → Prop} (hgd : Region.wanted o (yielded ops a.tmps) = true) (ty : TypeId) (x y : Operand) (ho : o.op = .store ty x y) {g i : Nat} {t : TypeId} {old : Array Value} {v : Value} (hb : Blk w g t old)
    (hx : a.eval x = .pointer (some ⟨g, i, none⟩)) (hy : a.eval y = v) (hi : i < old.size) (hv : v.cells = #[v]) (h1 : v.oneCell' = true) (hsz : (P.info? ty).map (·.size) = some 1)
    (h : Blk (w.setCell ⟨g, i, none⟩ v) g t (old.setIfInBounds i v) → Turn (only g) w (w.setCell ⟨g, i, none⟩ v) → wpList P ops Q rest (a.put o.dst undef) (w.setCell ⟨g, i, none⟩ v)) : wpList P ops Q (o :: rest) a w :=
  wpList_step fun K hK => by
    rw [if_pos hgd]
    obtain ⟨j, hj, hjs⟩ := Option.map_eq_some_iff.1 hsz
    have hc : w.cell? ⟨g, i, none⟩ = some (old[i]) := by rw [hb.cell i, Array.getElem?_eq_getElem hi]
    have hf : w.frozen? ⟨g, i, none⟩ = false := hb.frozen i
    have hst : (Instr.storeAt ty (.pointer (some ⟨g, i, none⟩)) v).run P w = .ok () (w.setCell ⟨g, i, none⟩ v) := by
      have h0 : (⟨g, i, none⟩ : Addr).add 0 = ⟨g, i, none⟩ := by simp [Addr.add]
      simp [Instr.storeAt, storeVar, hv, Instr.sureAddr, sizeOf, typeInfo, hj, hjs, Result.andThen, storeCells, run_store _ _ _ _ _ h1, stored, h0, hc, hf]
    unfold Oper.wp execOp
    simp only [ho, hx, hy, hst, Sem.run_bind, Sem.run_pure, Result.andThen_ok]
    exact hK _ _ (h (hb.set_ i v) ((Turn.refl _ w).at_ i v))
end Go.Proofs.YticofobhkmabiaaGreatDoor
namespace Go.Proofs.YticofobhkmabiaaGreatDoor
open Go.RowKit
set_option linter.unusedVariables false
set_option linter.unusedSimpArgs false
section
variable {a : Act} {o : Oper} {W : World} {x y : Operand} {i j : Int}
theorem ix_lss {r : Bool} (ho : o.op = .binOp .lss 3 x y 3) (hx : a.eval x = .int .i64 i) (hy : a.eval y = .int .i64 j) (h : decide (i < j) = r) : (execOp a.eval o).run Tryz.prog W = .ok (.value (.bool r)) W := by
  subst h
  unfold execOp
  simp only [ho, hx, hy]
  go_simp
theorem ix_leq {r : Bool} (ho : o.op = .binOp .leq 3 x y 3) (hx : a.eval x = .int .i64 i) (hy : a.eval y = .int .i64 j) (h : decide (i ≤ j) = r) : (execOp a.eval o).run Tryz.prog W = .ok (.value (.bool r)) W := by
  subst h
  unfold execOp
  simp only [ho, hx, hy]
  go_simp
theorem ix_gtr {r : Bool} (ho : o.op = .binOp .gtr 3 x y 3) (hx : a.eval x = .int .i64 i) (hy : a.eval y = .int .i64 j) (h : decide (j < i) = r) : (execOp a.eval o).run Tryz.prog W = .ok (.value (.bool r)) W := by
  subst h
  unfold execOp
  simp only [ho, hx, hy]
  go_simp
theorem ix_geq {r : Bool} (ho : o.op = .binOp .geq 3 x y 3) (hx : a.eval x = .int .i64 i) (hy : a.eval y = .int .i64 j) (h : decide (j ≤ i) = r) : (execOp a.eval o).run Tryz.prog W = .ok (.value (.bool r)) W := by
  subst h
  unfold execOp
  simp only [ho, hx, hy]
  go_simp
theorem ix_eql {t u : TypeId} {r : Bool} (ho : o.op = .binOp .eql t x y u) (hx : a.eval x = .int .i64 i) (hy : a.eval y = .int .i64 j) (h : decide (i = j) = r) : (execOp a.eval o).run Tryz.prog W = .ok (.value (.bool r)) W := by
  subst h
  unfold execOp
  simp [ho, hx, hy, eqGuard]
  go_simp
  by_cases hij : i = j <;> simp [hij]
theorem ix_neq {t u : TypeId} {r : Bool} (ho : o.op = .binOp .neq t x y u) (hx : a.eval x = .int .i64 i) (hy : a.eval y = .int .i64 j) (h : decide (i ≠ j) = r) : (execOp a.eval o).run Tryz.prog W = .ok (.value (.bool r)) W := by
  subst h
  unfold execOp
  simp [ho, hx, hy, eqGuard]
  go_simp
  by_cases hij : i = j <;> simp [hij]
theorem ix_add {r : Int} (ho : o.op = .binOp .add 3 x y 3) (hx : a.eval x = .int .i64 i) (hy : a.eval y = .int .i64 j) (h : i + j = r) (hb : -9223372036854775808 ≤ r ∧ r ≤ 9223372036854775807) : (execOp a.eval o).run Tryz.prog W = .ok (.value (.int .i64 r)) W := by
  have hw : IntKind.i64.wrap r = r := by rw [IntKind.wrap_i64]; omega
  unfold execOp
  simp only [ho, hx, hy]
  go_simp
  try exact hw
theorem ix_sub {r : Int} (ho : o.op = .binOp .sub 3 x y 3) (hx : a.eval x = .int .i64 i) (hy : a.eval y = .int .i64 j) (h : i - j = r) (hb : -9223372036854775808 ≤ r ∧ r ≤ 9223372036854775807) : (execOp a.eval o).run Tryz.prog W = .ok (.value (.int .i64 r)) W := by
  have hw : IntKind.i64.wrap r = r := by rw [IntKind.wrap_i64]; omega
  unfold execOp
  simp only [ho, hx, hy]
  go_simp
  try exact hw
theorem ix_mul {r : Int} (ho : o.op = .binOp .mul 3 x y 3) (hx : a.eval x = .int .i64 i) (hy : a.eval y = .int .i64 j) (h : i * j = r) (hb : -9223372036854775808 ≤ r ∧ r ≤ 9223372036854775807) : (execOp a.eval o).run Tryz.prog W = .ok (.value (.int .i64 r)) W := by
  have hw : IntKind.i64.wrap r = r := by rw [IntKind.wrap_i64]; omega
  unfold execOp
  simp only [ho, hx, hy]
  go_simp
  try (rw [h]; exact hw)
theorem ix_q256 {n : Nat} (ho : o.op = .binOp .quo 3 x (.const (.int .i64 256)) 3) (hx : a.eval x = .int .i64 (n : Int)) (hn : n ≤ 9223372036854775807) : (execOp a.eval o).run Tryz.prog W = .ok (.value (.int .i64 ((n / 256 : Nat) : Int))) W := by
  unfold execOp
  simp only [ho, hx]
  go_simp
  first | rfl | (rw [IntKind.wrap_i64]; omega)
theorem ix_r256 {n : Nat} (ho : o.op = .binOp .rem 3 x (.const (.int .i64 256)) 3) (hx : a.eval x = .int .i64 (n : Int)) (hn : n ≤ 9223372036854775807) : (execOp a.eval o).run Tryz.prog W = .ok (.value (.int .i64 ((n % 256 : Nat) : Int))) W := by
  unfold execOp
  simp only [ho, hx]
  go_simp
  exact Int.tmod_eq_emod_of_nonneg (by omega)
theorem ix_shr8 {n : Nat} {tu : TypeId} (ho : o.op = .binOp .shr 3 x (.const (.int .u64 8)) tu) (hx : a.eval x = .int .i64 (n : Int)) (hn : n ≤ 9223372036854775807) : (execOp a.eval o).run Tryz.prog W = .ok (.value (.int .i64 ((n / 256 : Nat) : Int))) W := by
  unfold execOp
  simp only [ho, hx]
  go_simp
theorem ix_shl8 {n : Nat} {tu : TypeId} (ho : o.op = .binOp .shl 3 x (.const (.int .u64 8)) tu) (hx : a.eval x = .int .i64 (n : Int)) (hn : n < 256) : (execOp a.eval o).run Tryz.prog W = .ok (.value (.int .i64 ((256 * n : Nat) : Int))) W := by
  unfold execOp
  simp only [ho, hx]
  go_simp
  rw [IntKind.wrap_i64]
  omega
theorem ix_or8 {n m : Nat} (ho : o.op = .binOp .or 3 x y 3) (hx : a.eval x = .int .i64 ((256 * n : Nat) : Int)) (hy : a.eval y = .int .i64 (m : Int)) (hn : n < 256) (hm : m < 256) : (execOp a.eval o).run Tryz.prog W = .ok (.value (.int .i64 ((256 * n + m : Nat) : Int))) W := by
  unfold execOp
  simp only [ho, hx, hy]
  go_simp
  simp only [bits]
  have e1 : (256 * (n : Int) % 2 ^ IntKind.i64.bits).toNat = 256 * n := by simp [IntKind.bits]; omega
  have e2 : ((m : Int) % 2 ^ IntKind.i64.bits).toNat = m := by simp [IntKind.bits]; omega
  have e3 : 256 * n ||| m = 256 * n + m := (Nat.two_pow_add_eq_or_of_lt (i := 8) hm n).symm
  rw [BitVec.toNat_or, BitVec.toNat_ofInt, BitVec.toNat_ofInt]
  rw [show (((2 ^ IntKind.i64.bits : Nat)) : Int) = 2 ^ IntKind.i64.bits from by rfl, e1, e2, e3, IntKind.wrap_i64]
  omega
theorem ix_b2i {k : Nat} (hk : k < 256) (ho : o.op = .convert 5 3 x) (hx : a.eval x = .int .u8 (k : Int)) : (execOp a.eval o).run Tryz.prog W = .ok (.value (.int .i64 (k : Int))) W := by
  unfold execOp
  simp only [ho, hx]
  go_simp
  rw [IntKind.wrap_i64]
  omega
theorem ix_i2b {k : Nat} (ho : o.op = .convert 3 5 x) (hx : a.eval x = .int .i64 (k : Int)) : (execOp a.eval o).run Tryz.prog W = .ok (.value (.int .u8 (((UInt8.ofNat k).toNat : Nat) : Int))) W := by
  unfold execOp
  simp only [ho, hx]
  go_simp
  simp [IntKind.wrap, IntKind.bits, IntKind.signed]
theorem ix_not {t : TypeId} {b : Bool} (ho : o.op = .unOp .not t x) (hx : a.eval x = .bool b) : (execOp a.eval o).run Tryz.prog W = .ok (.value (.bool (!b))) W := by
  unfold execOp
  simp only [ho, hx]
  go_simp
theorem ix_pickT {c : Operand} {v : Value} (ho : o.op = .pick c x y) (hc : a.eval c = .bool true) (hx : a.eval x = v) : (execOp a.eval o).run Tryz.prog W = .ok (.value v) W := by
  unfold execOp
  simp [ho, hc, hx, asBool, Result.andThen]
theorem ix_pickF {c : Operand} {v : Value} (ho : o.op = .pick c x y) (hc : a.eval c = .bool false) (hy : a.eval y = v) : (execOp a.eval o).run Tryz.prog W = .ok (.value v) W := by
  unfold execOp
  simp [ho, hc, hy, asBool, Result.andThen]
theorem ix_extract {n : Nat} {vs : Array Value} {v : Value} (ho : o.op = .extract x n) (hx : a.eval x = .tuple vs) (hv : vs[n]? = some v) : (execOp a.eval o).run Tryz.prog W = .ok (.value v) W := by
  unfold execOp
  simp only [ho, hx]
  go_simp
end
end Go.Proofs.YticofobhkmabiaaGreatDoor
namespace Go.Proofs.YticofobhkmabiaaGreatDoor
open Go.RowKit
open Fdd
set_option linter.unusedVariables false
set_option linter.unusedSimpArgs false
/-- where message's errors lie -/
structure Sents where
  (dialect type_ long map more field text bytes short : Addr)
def SenAt (W : World) (g : Nat) (a : Addr) : Prop := W.cell? ⟨g, 0, none⟩ = some (.iface 236 (.pointer (some a))) ∧ ∃ c t, W.heap[a.block]? = some (.cells c t (0, 0))
theorem SenAt.turn {W W' : World} {g : Nat} {a : Addr} (h : SenAt W g a) (ht : Turn nowhere W W') : SenAt W' g a := by
  obtain ⟨h1, c, t, h2⟩ := h
  exact ⟨(ht.cell (World.block_lt_of_cell? _ _ h1) (fun e => e)).trans h1, c, t, (ht.block a.block (Array.getElem?_eq_some_iff.1 h2).1 (fun e => e)).trans h2⟩
def rowCells : List Value := mrows.flatMap fun r => [.int .i64 r.1, .int .i64 r.2.1, .int .i64 r.2.2]
def strOf (l : List UInt8) : Value := .string ⟨l.toArray⟩
def tongCells : List Value := [.int .i64 0, strOf [], strOf [], .int .i64 1, strOf [48], strOf [], .int .i64 2, strOf [49], strOf [], .int .i64 3, strOf [57], strOf [48, 48]]
structure Sen (s : Sents) (W : World) : Prop where
  dialect : SenAt W 0 s.dialect
  type_ : SenAt W 1 s.type_
  long : SenAt W 2 s.long
  map : SenAt W 3 s.map
  more : SenAt W 4 s.more
  field : SenAt W 6 s.field
  text : SenAt W 9 s.text
  bytes : SenAt W 10 s.bytes
  short : SenAt W 11 s.short
  ne : s.more ≠ s.dialect ∧ s.more ≠ s.type_ ∧ s.more ≠ s.long ∧ s.more ≠ s.map ∧ s.map ≠ s.dialect ∧ s.map ≠ s.type_ ∧ s.map ≠ s.long ∧ s.long ≠ s.dialect ∧ s.long ≠ s.type_ ∧ s.type_ ≠ s.dialect ∧ s.field ≠ s.text ∧ s.field ≠ s.bytes ∧ s.field ≠ s.short ∧ s.short ≠ s.text ∧ s.short ≠ s.bytes ∧ s.bytes ≠ s.text
  etype : W.cell? ⟨8, 0, none⟩ = some (.iface 151 (.agg #[.pointer (some ⟨21, 43, none⟩)]))
structure Tab (W : World) : Prop where
  rows : ∃ b off c, W.cell? ⟨7, 0, none⟩ = some (.slice (some ⟨b, off, none⟩) 17 c) ∧ ∀ i v, rowCells[i]? = some v → W.cell? ⟨b, off + i, none⟩ = some v
  tongues : ∀ i v, tongCells[i]? = some v → W.cell? ⟨5, i, none⟩ = some v
theorem Sen.turn {s : Sents} {W W' : World} (h : Sen s W) (ht : Turn nowhere W W') : Sen s W' where
  dialect := h.dialect.turn ht
  type_ := h.type_.turn ht
  long := h.long.turn ht
  map := h.map.turn ht
  more := h.more.turn ht
  field := h.field.turn ht
  text := h.text.turn ht
  bytes := h.bytes.turn ht
  short := h.short.turn ht
  ne := h.ne
  etype := (ht.cell (World.block_lt_of_cell? _ _ h.etype) (fun e => e)).trans h.etype
theorem Tab.turn {W W' : World} (h : Tab W) (ht : Turn nowhere W W') : Tab W' where
  rows := by
    obtain ⟨b, off, c, h1, h2⟩ := h.rows
    exact ⟨b, off, c, (ht.cell (World.block_lt_of_cell? _ _ h1) (fun e => e)).trans h1, fun i v hv => (ht.cell (World.block_lt_of_cell? _ _ (h2 i v hv)) (fun e => e)).trans (h2 i v hv)⟩
  tongues := fun i v hv => (ht.cell (World.block_lt_of_cell? _ _ (h.tongues i v hv)) (fun e => e)).trans (h.tongues i v hv)
theorem is_eq {a : Addr} {g : Nat} {w : World} (ha : SenAt w g a) :
    Calls Tryz.prog 43 #[.iface 236 (.pointer (some a)), .iface 236 (.pointer (some a))] w fun e w' => e = .returned (.bool true) ∧ w' = w := by
  obtain ⟨_, c, t, h⟩ := ha
  have := is_any a a c c t t w h h
  rw [decide_eq_true rfl] at this
  exact this
theorem is_ne {a b : Addr} {g g' : Nat} {w : World} (ha : SenAt w g a) (hb : SenAt w g' b) (hne : a ≠ b) :
    Calls Tryz.prog 43 #[.iface 236 (.pointer (some a)), .iface 236 (.pointer (some b))] w fun e w' => e = .returned (.bool false) ∧ w' = w := by
  obtain ⟨_, c, t, h⟩ := ha
  obtain ⟨_, c', t', h'⟩ := hb
  have := is_any a b c c' t t' w h h'
  rw [decide_eq_false hne] at this
  exact this
theorem fe_eq {no : Int} {a : Addr} {g : Nat} {w : World} (ha : SenAt w g a) :
    Calls Tryz.prog 43 #[.iface 80 (.agg #[.int .i64 no, .iface 236 (.pointer (some a))]), .iface 236 (.pointer (some a))] w fun e w' => e = .returned (.bool true) ∧ Turn nowhere w w' := by
  obtain ⟨_, c, t, h⟩ := ha
  have := is_fe no a a c c t t w h h
  rw [decide_eq_true rfl] at this
  exact this
theorem fe_ne {no : Int} {a b : Addr} {g g' : Nat} {w : World} (ha : SenAt w g a) (hb : SenAt w g' b) (hne : a ≠ b) :
    Calls Tryz.prog 43 #[.iface 80 (.agg #[.int .i64 no, .iface 236 (.pointer (some a))]), .iface 236 (.pointer (some b))] w fun e w' => e = .returned (.bool false) ∧ Turn nowhere w w' := by
  obtain ⟨_, c, t, h⟩ := ha
  obtain ⟨_, c', t', h'⟩ := hb
  have := is_fe no a b c c' t t' w h h'
  rw [decide_eq_false hne] at this
  exact this
set_option maxRecDepth 20000 in
theorem tellField_field {s : Sents} {w : World} (no : Int) (hs : Sen s w) :
    Calls Tryz.prog 42 #[.agg #[.int .i64 no, .iface 236 (.pointer (some s.field))]] w fun e w' => e = .returned (.int .i64 52) ∧ Turn nowhere w w' := by
  have HS := Lib.hid hs
  have HNE := Lib.hid hs.ne
  clear hs
  go_enter Tryz.func42, Tryz.ntmps42
  go_upto_region 1 with fail
  have ht0 := (Turn.refl nowhere w).alloc (.cells #[.int .i64 no, .iface 236 (.pointer (some s.field))] 80)
  have hb0 := Blk.new w 80 #[.int .i64 no, .iface 236 (.pointer (some s.field))]
  generalize World.alloc w _ = w0 at *
  obtain ⟨b0, hb00⟩ : ∃ b0, b0 = w.heap.size := ⟨_, rfl⟩
  rw [← hb00] at hb0 ⊢
  clear hb00
  have HT := Lib.hid ht0
  have HB := Lib.hid hb0
  clear ht0 hb0
  have c0 : w0.cell? ⟨b0, 0, none⟩ = some (.int .i64 no) := HB.out.cell 0
  have c1 : w0.cell? ⟨b0, 1, none⟩ = some (.iface 236 (.pointer (some s.field))) := HB.out.cell 1
  have cg : w0.cell? ⟨9, 0, none⟩ = some (.iface 236 (.pointer (some s.text))) := (HS.out.turn HT.out).text.1
  go_upto_region 3 with (go_at_call 43; refine (fe_ne (HS.out.turn HT.out).field (HS.out.turn HT.out).text HNE.out.2.2.2.2.2.2.2.2.2.2.1).mono ?_; rintro e w1 ⟨rfl, ht1⟩)
  have HT1 := Lib.hid (HT.out.next ht1)
  have HB1 := Lib.hid (HB.out.turn ht1 (fun e => e))
  clear ht1 c0 c1 cg HT HB
  have HT := HT1
  have HB := HB1
  clear HT1 HB1
  have c0 : w1.cell? ⟨b0, 0, none⟩ = some (.int .i64 no) := HB.out.cell 0
  have c1 : w1.cell? ⟨b0, 1, none⟩ = some (.iface 236 (.pointer (some s.field))) := HB.out.cell 1
  have cg : w1.cell? ⟨10, 0, none⟩ = some (.iface 236 (.pointer (some s.bytes))) := (HS.out.turn HT.out).bytes.1
  go_upto_region 5 with (go_at_call 43; refine (fe_ne (HS.out.turn HT.out).field (HS.out.turn HT.out).bytes HNE.out.2.2.2.2.2.2.2.2.2.2.2.1).mono ?_; rintro e w2 ⟨rfl, ht2⟩)
  have HT2 := Lib.hid (HT.out.next ht2)
  have HB2 := Lib.hid (HB.out.turn ht2 (fun e => e))
  clear ht2 c0 c1 cg HT HB
  have HT := HT2
  have HB := HB2
  clear HT2 HB2
  have c0 : w2.cell? ⟨b0, 0, none⟩ = some (.int .i64 no) := HB.out.cell 0
  have c1 : w2.cell? ⟨b0, 1, none⟩ = some (.iface 236 (.pointer (some s.field))) := HB.out.cell 1
  have cg : w2.cell? ⟨11, 0, none⟩ = some (.iface 236 (.pointer (some s.short))) := (HS.out.turn HT.out).short.1
  go_upto_region 7 with (go_at_call 43; refine (fe_ne (HS.out.turn HT.out).field (HS.out.turn HT.out).short HNE.out.2.2.2.2.2.2.2.2.2.2.2.2.1).mono ?_; rintro e w3 ⟨rfl, ht3⟩)
  have HT3 := Lib.hid (HT.out.next ht3)
  have HB3 := Lib.hid (HB.out.turn ht3 (fun e => e))
  clear ht3 c0 c1 cg HT HB
  have HT := HT3
  have HB := HB3
  clear HT3 HB3
  go_wp2_with fail
  go_ret
  exact ⟨rfl, HT.out⟩
set_option maxRecDepth 20000 in
theorem tellField_text {s : Sents} {w : World} (no : Int) (hs : Sen s w) :
    Calls Tryz.prog 42 #[.agg #[.int .i64 no, .iface 236 (.pointer (some s.text))]] w fun e w' => e = .returned (.int .i64 41) ∧ Turn nowhere w w' := by
  have HS := Lib.hid hs
  have HNE := Lib.hid hs.ne
  clear hs
  go_enter Tryz.func42, Tryz.ntmps42
  go_upto_region 1 with fail
  have ht0 := (Turn.refl nowhere w).alloc (.cells #[.int .i64 no, .iface 236 (.pointer (some s.text))] 80)
  have hb0 := Blk.new w 80 #[.int .i64 no, .iface 236 (.pointer (some s.text))]
  generalize World.alloc w _ = w0 at *
  obtain ⟨b0, hb00⟩ : ∃ b0, b0 = w.heap.size := ⟨_, rfl⟩
  rw [← hb00] at hb0 ⊢
  clear hb00
  have HT := Lib.hid ht0
  have HB := Lib.hid hb0
  clear ht0 hb0
  have c0 : w0.cell? ⟨b0, 0, none⟩ = some (.int .i64 no) := HB.out.cell 0
  have c1 : w0.cell? ⟨b0, 1, none⟩ = some (.iface 236 (.pointer (some s.text))) := HB.out.cell 1
  have cg : w0.cell? ⟨9, 0, none⟩ = some (.iface 236 (.pointer (some s.text))) := (HS.out.turn HT.out).text.1
  go_upto_region 2 with (go_at_call 43; refine (fe_eq (HS.out.turn HT.out).text).mono ?_; rintro e w1 ⟨rfl, ht1⟩)
  have HT1 := Lib.hid (HT.out.next ht1)
  have HB1 := Lib.hid (HB.out.turn ht1 (fun e => e))
  clear ht1 c0 c1 cg HT HB
  have HT := HT1
  have HB := HB1
  clear HT1 HB1
  go_wp2_with fail
  go_ret
  exact ⟨rfl, HT.out⟩
set_option maxRecDepth 20000 in
theorem tellField_bytes {s : Sents} {w : World} (no : Int) (hs : Sen s w) :
    Calls Tryz.prog 42 #[.agg #[.int .i64 no, .iface 236 (.pointer (some s.bytes))]] w fun e w' => e = .returned (.int .i64 42) ∧ Turn nowhere w w' := by
  have HS := Lib.hid hs
  have HNE := Lib.hid hs.ne
  clear hs
  go_enter Tryz.func42, Tryz.ntmps42
  go_upto_region 1 with fail
  have ht0 := (Turn.refl nowhere w).alloc (.cells #[.int .i64 no, .iface 236 (.pointer (some s.bytes))] 80)
  have hb0 := Blk.new w 80 #[.int .i64 no, .iface 236 (.pointer (some s.bytes))]
  generalize World.alloc w _ = w0 at *
  obtain ⟨b0, hb00⟩ : ∃ b0, b0 = w.heap.size := ⟨_, rfl⟩
  rw [← hb00] at hb0 ⊢
  clear hb00
  have HT := Lib.hid ht0
  have HB := Lib.hid hb0
  clear ht0 hb0
  have c0 : w0.cell? ⟨b0, 0, none⟩ = some (.int .i64 no) := HB.out.cell 0
  have c1 : w0.cell? ⟨b0, 1, none⟩ = some (.iface 236 (.pointer (some s.bytes))) := HB.out.cell 1
  have cg : w0.cell? ⟨9, 0, none⟩ = some (.iface 236 (.pointer (some s.text))) := (HS.out.turn HT.out).text.1
  go_upto_region 3 with (go_at_call 43; refine (fe_ne (HS.out.turn HT.out).bytes (HS.out.turn HT.out).text HNE.out.2.2.2.2.2.2.2.2.2.2.2.2.2.2.2).mono ?_; rintro e w1 ⟨rfl, ht1⟩)
  have HT1 := Lib.hid (HT.out.next ht1)
  have HB1 := Lib.hid (HB.out.turn ht1 (fun e => e))
  clear ht1 c0 c1 cg HT HB
  have HT := HT1
  have HB := HB1
  clear HT1 HB1
  have c0 : w1.cell? ⟨b0, 0, none⟩ = some (.int .i64 no) := HB.out.cell 0
  have c1 : w1.cell? ⟨b0, 1, none⟩ = some (.iface 236 (.pointer (some s.bytes))) := HB.out.cell 1
  have cg : w1.cell? ⟨10, 0, none⟩ = some (.iface 236 (.pointer (some s.bytes))) := (HS.out.turn HT.out).bytes.1
  go_upto_region 4 with (go_at_call 43; refine (fe_eq (HS.out.turn HT.out).bytes).mono ?_; rintro e w2 ⟨rfl, ht2⟩)
  have HT2 := Lib.hid (HT.out.next ht2)
  have HB2 := Lib.hid (HB.out.turn ht2 (fun e => e))
  clear ht2 c0 c1 cg HT HB
  have HT := HT2
  have HB := HB2
  clear HT2 HB2
  go_wp2_with fail
  go_ret
  exact ⟨rfl, HT.out⟩
set_option maxRecDepth 20000 in
theorem tellField_short {s : Sents} {w : World} (no : Int) (hs : Sen s w) :
    Calls Tryz.prog 42 #[.agg #[.int .i64 no, .iface 236 (.pointer (some s.short))]] w fun e w' => e = .returned (.int .i64 43) ∧ Turn nowhere w w' := by
  have HS := Lib.hid hs
  have HNE := Lib.hid hs.ne
  clear hs
  go_enter Tryz.func42, Tryz.ntmps42
  go_upto_region 1 with fail
  have ht0 := (Turn.refl nowhere w).alloc (.cells #[.int .i64 no, .iface 236 (.pointer (some s.short))] 80)
  have hb0 := Blk.new w 80 #[.int .i64 no, .iface 236 (.pointer (some s.short))]
  generalize World.alloc w _ = w0 at *
  obtain ⟨b0, hb00⟩ : ∃ b0, b0 = w.heap.size := ⟨_, rfl⟩
  rw [← hb00] at hb0 ⊢
  clear hb00
  have HT := Lib.hid ht0
  have HB := Lib.hid hb0
  clear ht0 hb0
  have c0 : w0.cell? ⟨b0, 0, none⟩ = some (.int .i64 no) := HB.out.cell 0
  have c1 : w0.cell? ⟨b0, 1, none⟩ = some (.iface 236 (.pointer (some s.short))) := HB.out.cell 1
  have cg : w0.cell? ⟨9, 0, none⟩ = some (.iface 236 (.pointer (some s.text))) := (HS.out.turn HT.out).text.1
  go_upto_region 3 with (go_at_call 43; refine (fe_ne (HS.out.turn HT.out).short (HS.out.turn HT.out).text HNE.out.2.2.2.2.2.2.2.2.2.2.2.2.2.1).mono ?_; rintro e w1 ⟨rfl, ht1⟩)
  have HT1 := Lib.hid (HT.out.next ht1)
  have HB1 := Lib.hid (HB.out.turn ht1 (fun e => e))
  clear ht1 c0 c1 cg HT HB
  have HT := HT1
  have HB := HB1
  clear HT1 HB1
  have c0 : w1.cell? ⟨b0, 0, none⟩ = some (.int .i64 no) := HB.out.cell 0
  have c1 : w1.cell? ⟨b0, 1, none⟩ = some (.iface 236 (.pointer (some s.short))) := HB.out.cell 1
  have cg : w1.cell? ⟨10, 0, none⟩ = some (.iface 236 (.pointer (some s.bytes))) := (HS.out.turn HT.out).bytes.1
  go_upto_region 5 with (go_at_call 43; refine (fe_ne (HS.out.turn HT.out).short (HS.out.turn HT.out).bytes HNE.out.2.2.2.2.2.2.2.2.2.2.2.2.2.2.1).mono ?_; rintro e w2 ⟨rfl, ht2⟩)
  have HT2 := Lib.hid (HT.out.next ht2)
  have HB2 := Lib.hid (HB.out.turn ht2 (fun e => e))
  clear ht2 c0 c1 cg HT HB
  have HT := HT2
  have HB := HB2
  clear HT2 HB2
  have c0 : w2.cell? ⟨b0, 0, none⟩ = some (.int .i64 no) := HB.out.cell 0
  have c1 : w2.cell? ⟨b0, 1, none⟩ = some (.iface 236 (.pointer (some s.short))) := HB.out.cell 1
  have cg : w2.cell? ⟨11, 0, none⟩ = some (.iface 236 (.pointer (some s.short))) := (HS.out.turn HT.out).short.1
  go_upto_region 6 with (go_at_call 43; refine (fe_eq (HS.out.turn HT.out).short).mono ?_; rintro e w3 ⟨rfl, ht3⟩)
  have HT3 := Lib.hid (HT.out.next ht3)
  have HB3 := Lib.hid (HB.out.turn ht3 (fun e => e))
  clear ht3 c0 c1 cg HT HB
  have HT := HT3
  have HB := HB3
  clear HT3 HB3
  go_wp2_with fail
  go_ret
  exact ⟨rfl, HT.out⟩
set_option maxRecDepth 20000 in
theorem tell_dialect {s : Sents} {w : World} (hs : Sen s w) :
    Calls Tryz.prog 20 #[.iface 236 (.pointer (some s.dialect))] w fun e w' => e = .returned (.int .i64 50) ∧ Turn nowhere w w' := by
  have HS := Lib.hid hs
  have HNE := Lib.hid hs.ne
  clear hs
  go_enter Tryz.func20, Tryz.ntmps20
  go_upto_region 2 with fail
  have ht0 := (Turn.refl nowhere w).alloc (.cells #[.int .i64 0, .nilIface] 80)
  have hb0 := Blk.new w 80 #[.int .i64 0, .nilIface]
  have hg0 : w.heap.size = w.heap.size := rfl
  generalize World.alloc w _ = w0 at *
  obtain ⟨b0, hb00⟩ : ∃ b0, b0 = w.heap.size := ⟨_, rfl⟩
  rw [← hb00] at hb0 ⊢
  have HG := Lib.hid hb00
  have HT := Lib.hid ht0
  have HB := Lib.hid hb0
  clear ht0 hb0 hb00 hg0
  have he := (HS.out.turn HT.out).etype
  go_upto_region 4 with (go_at_call 41; refine (as_miss s.dialect ⟨b0, 0, none⟩ _ he).mono ?_; rintro e w1 ⟨rfl, ht1⟩)
  have HT1 := Lib.hid (HT.out.next ht1)
  clear ht1 he HT HB
  have HT := HT1
  clear HT1
  have cg : w1.cell? ⟨0, 0, none⟩ = some (.iface 236 (.pointer (some s.dialect))) := (HS.out.turn HT.out).dialect.1
  go_upto_region 5 with (go_at_call 43; refine (is_eq (HS.out.turn HT.out).dialect).mono ?_; rintro e w1 ⟨rfl, rfl⟩)
  clear cg
  go_wp2_with fail
  go_ret
  exact ⟨rfl, HT.out⟩
set_option maxRecDepth 20000 in
theorem tell_type_ {s : Sents} {w : World} (hs : Sen s w) :
    Calls Tryz.prog 20 #[.iface 236 (.pointer (some s.type_))] w fun e w' => e = .returned (.int .i64 51) ∧ Turn nowhere w w' := by
  have HS := Lib.hid hs
  have HNE := Lib.hid hs.ne
  clear hs
  go_enter Tryz.func20, Tryz.ntmps20
  go_upto_region 2 with fail
  have ht0 := (Turn.refl nowhere w).alloc (.cells #[.int .i64 0, .nilIface] 80)
  have hb0 := Blk.new w 80 #[.int .i64 0, .nilIface]
  have hg0 : w.heap.size = w.heap.size := rfl
  generalize World.alloc w _ = w0 at *
  obtain ⟨b0, hb00⟩ : ∃ b0, b0 = w.heap.size := ⟨_, rfl⟩
  rw [← hb00] at hb0 ⊢
  have HG := Lib.hid hb00
  have HT := Lib.hid ht0
  have HB := Lib.hid hb0
  clear ht0 hb0 hb00 hg0
  have he := (HS.out.turn HT.out).etype
  go_upto_region 4 with (go_at_call 41; refine (as_miss s.type_ ⟨b0, 0, none⟩ _ he).mono ?_; rintro e w1 ⟨rfl, ht1⟩)
  have HT1 := Lib.hid (HT.out.next ht1)
  clear ht1 he HT HB
  have HT := HT1
  clear HT1
  have cg : w1.cell? ⟨0, 0, none⟩ = some (.iface 236 (.pointer (some s.dialect))) := (HS.out.turn HT.out).dialect.1
  go_upto_region 6 with (go_at_call 43; refine (is_ne (HS.out.turn HT.out).type_ (HS.out.turn HT.out).dialect HNE.out.2.2.2.2.2.2.2.2.2.1).mono ?_; rintro e w1 ⟨rfl, rfl⟩)
  clear cg
  have cg : w1.cell? ⟨1, 0, none⟩ = some (.iface 236 (.pointer (some s.type_))) := (HS.out.turn HT.out).type_.1
  go_upto_region 7 with (go_at_call 43; refine (is_eq (HS.out.turn HT.out).type_).mono ?_; rintro e w1 ⟨rfl, rfl⟩)
  clear cg
  go_wp2_with fail
  go_ret
  exact ⟨rfl, HT.out⟩
set_option maxRecDepth 20000 in
theorem tell_long {s : Sents} {w : World} (hs : Sen s w) :
    Calls Tryz.prog 20 #[.iface 236 (.pointer (some s.long))] w fun e w' => e = .returned (.int .i64 5) ∧ Turn nowhere w w' := by
  have HS := Lib.hid hs
  have HNE := Lib.hid hs.ne
  clear hs
  go_enter Tryz.func20, Tryz.ntmps20
  go_upto_region 2 with fail
  have ht0 := (Turn.refl nowhere w).alloc (.cells #[.int .i64 0, .nilIface] 80)
  have hb0 := Blk.new w 80 #[.int .i64 0, .nilIface]
  have hg0 : w.heap.size = w.heap.size := rfl
  generalize World.alloc w _ = w0 at *
  obtain ⟨b0, hb00⟩ : ∃ b0, b0 = w.heap.size := ⟨_, rfl⟩
  rw [← hb00] at hb0 ⊢
  have HG := Lib.hid hb00
  have HT := Lib.hid ht0
  have HB := Lib.hid hb0
  clear ht0 hb0 hb00 hg0
  have he := (HS.out.turn HT.out).etype
  go_upto_region 4 with (go_at_call 41; refine (as_miss s.long ⟨b0, 0, none⟩ _ he).mono ?_; rintro e w1 ⟨rfl, ht1⟩)
  have HT1 := Lib.hid (HT.out.next ht1)
  clear ht1 he HT HB
  have HT := HT1
  clear HT1
  have cg : w1.cell? ⟨0, 0, none⟩ = some (.iface 236 (.pointer (some s.dialect))) := (HS.out.turn HT.out).dialect.1
  go_upto_region 6 with (go_at_call 43; refine (is_ne (HS.out.turn HT.out).long (HS.out.turn HT.out).dialect HNE.out.2.2.2.2.2.2.2.1).mono ?_; rintro e w1 ⟨rfl, rfl⟩)
  clear cg
  have cg : w1.cell? ⟨1, 0, none⟩ = some (.iface 236 (.pointer (some s.type_))) := (HS.out.turn HT.out).type_.1
  go_upto_region 8 with (go_at_call 43; refine (is_ne (HS.out.turn HT.out).long (HS.out.turn HT.out).type_ HNE.out.2.2.2.2.2.2.2.2.1).mono ?_; rintro e w1 ⟨rfl, rfl⟩)
  clear cg
  have cg : w1.cell? ⟨2, 0, none⟩ = some (.iface 236 (.pointer (some s.long))) := (HS.out.turn HT.out).long.1
  go_upto_region 9 with (go_at_call 43; refine (is_eq (HS.out.turn HT.out).long).mono ?_; rintro e w1 ⟨rfl, rfl⟩)
  clear cg
  go_wp2_with fail
  go_ret
  exact ⟨rfl, HT.out⟩
set_option maxRecDepth 20000 in
theorem tell_map {s : Sents} {w : World} (hs : Sen s w) :
    Calls Tryz.prog 20 #[.iface 236 (.pointer (some s.map))] w fun e w' => e = .returned (.int .i64 53) ∧ Turn nowhere w w' := by
  have HS := Lib.hid hs
  have HNE := Lib.hid hs.ne
  clear hs
  go_enter Tryz.func20, Tryz.ntmps20
  go_upto_region 2 with fail
  have ht0 := (Turn.refl nowhere w).alloc (.cells #[.int .i64 0, .nilIface] 80)
  have hb0 := Blk.new w 80 #[.int .i64 0, .nilIface]
  have hg0 : w.heap.size = w.heap.size := rfl
  generalize World.alloc w _ = w0 at *
  obtain ⟨b0, hb00⟩ : ∃ b0, b0 = w.heap.size := ⟨_, rfl⟩
  rw [← hb00] at hb0 ⊢
  have HG := Lib.hid hb00
  have HT := Lib.hid ht0
  have HB := Lib.hid hb0
  clear ht0 hb0 hb00 hg0
  have he := (HS.out.turn HT.out).etype
  go_upto_region 4 with (go_at_call 41; refine (as_miss s.map ⟨b0, 0, none⟩ _ he).mono ?_; rintro e w1 ⟨rfl, ht1⟩)
  have HT1 := Lib.hid (HT.out.next ht1)
  clear ht1 he HT HB
  have HT := HT1
  clear HT1
  have cg : w1.cell? ⟨0, 0, none⟩ = some (.iface 236 (.pointer (some s.dialect))) := (HS.out.turn HT.out).dialect.1
  go_upto_region 6 with (go_at_call 43; refine (is_ne (HS.out.turn HT.out).map (HS.out.turn HT.out).dialect HNE.out.2.2.2.2.1).mono ?_; rintro e w1 ⟨rfl, rfl⟩)
  clear cg
  have cg : w1.cell? ⟨1, 0, none⟩ = some (.iface 236 (.pointer (some s.type_))) := (HS.out.turn HT.out).type_.1
  go_upto_region 8 with (go_at_call 43; refine (is_ne (HS.out.turn HT.out).map (HS.out.turn HT.out).type_ HNE.out.2.2.2.2.2.1).mono ?_; rintro e w1 ⟨rfl, rfl⟩)
  clear cg
  have cg : w1.cell? ⟨2, 0, none⟩ = some (.iface 236 (.pointer (some s.long))) := (HS.out.turn HT.out).long.1
  go_upto_region 10 with (go_at_call 43; refine (is_ne (HS.out.turn HT.out).map (HS.out.turn HT.out).long HNE.out.2.2.2.2.2.2.1).mono ?_; rintro e w1 ⟨rfl, rfl⟩)
  clear cg
  have cg : w1.cell? ⟨3, 0, none⟩ = some (.iface 236 (.pointer (some s.map))) := (HS.out.turn HT.out).map.1
  go_upto_region 11 with (go_at_call 43; refine (is_eq (HS.out.turn HT.out).map).mono ?_; rintro e w1 ⟨rfl, rfl⟩)
  clear cg
  go_wp2_with fail
  go_ret
  exact ⟨rfl, HT.out⟩
set_option maxRecDepth 20000 in
theorem tell_more {s : Sents} {w : World} (hs : Sen s w) :
    Calls Tryz.prog 20 #[.iface 236 (.pointer (some s.more))] w fun e w' => e = .returned (.int .i64 54) ∧ Turn nowhere w w' := by
  have HS := Lib.hid hs
  have HNE := Lib.hid hs.ne
  clear hs
  go_enter Tryz.func20, Tryz.ntmps20
  go_upto_region 2 with fail
  have ht0 := (Turn.refl nowhere w).alloc (.cells #[.int .i64 0, .nilIface] 80)
  have hb0 := Blk.new w 80 #[.int .i64 0, .nilIface]
  have hg0 : w.heap.size = w.heap.size := rfl
  generalize World.alloc w _ = w0 at *
  obtain ⟨b0, hb00⟩ : ∃ b0, b0 = w.heap.size := ⟨_, rfl⟩
  rw [← hb00] at hb0 ⊢
  have HG := Lib.hid hb00
  have HT := Lib.hid ht0
  have HB := Lib.hid hb0
  clear ht0 hb0 hb00 hg0
  have he := (HS.out.turn HT.out).etype
  go_upto_region 4 with (go_at_call 41; refine (as_miss s.more ⟨b0, 0, none⟩ _ he).mono ?_; rintro e w1 ⟨rfl, ht1⟩)
  have HT1 := Lib.hid (HT.out.next ht1)
  clear ht1 he HT HB
  have HT := HT1
  clear HT1
  have cg : w1.cell? ⟨0, 0, none⟩ = some (.iface 236 (.pointer (some s.dialect))) := (HS.out.turn HT.out).dialect.1
  go_upto_region 6 with (go_at_call 43; refine (is_ne (HS.out.turn HT.out).more (HS.out.turn HT.out).dialect HNE.out.1).mono ?_; rintro e w1 ⟨rfl, rfl⟩)
  clear cg
  have cg : w1.cell? ⟨1, 0, none⟩ = some (.iface 236 (.pointer (some s.type_))) := (HS.out.turn HT.out).type_.1
  go_upto_region 8 with (go_at_call 43; refine (is_ne (HS.out.turn HT.out).more (HS.out.turn HT.out).type_ HNE.out.2.1).mono ?_; rintro e w1 ⟨rfl, rfl⟩)
  clear cg
  have cg : w1.cell? ⟨2, 0, none⟩ = some (.iface 236 (.pointer (some s.long))) := (HS.out.turn HT.out).long.1
  go_upto_region 10 with (go_at_call 43; refine (is_ne (HS.out.turn HT.out).more (HS.out.turn HT.out).long HNE.out.2.2.1).mono ?_; rintro e w1 ⟨rfl, rfl⟩)
  clear cg
  have cg : w1.cell? ⟨3, 0, none⟩ = some (.iface 236 (.pointer (some s.map))) := (HS.out.turn HT.out).map.1
  go_upto_region 12 with (go_at_call 43; refine (is_ne (HS.out.turn HT.out).more (HS.out.turn HT.out).map HNE.out.2.2.2.1).mono ?_; rintro e w1 ⟨rfl, rfl⟩)
  clear cg
  have cg : w1.cell? ⟨4, 0, none⟩ = some (.iface 236 (.pointer (some s.more))) := (HS.out.turn HT.out).more.1
  go_upto_region 13 with (go_at_call 43; refine (is_eq (HS.out.turn HT.out).more).mono ?_; rintro e w1 ⟨rfl, rfl⟩)
  clear cg
  go_wp2_with fail
  go_ret
  exact ⟨rfl, HT.out⟩
set_option maxRecDepth 20000 in
theorem tell_field {s : Sents} {w : World} (no : Int) (hs : Sen s w) :
    Calls Tryz.prog 20 #[.iface 80 (.agg #[.int .i64 no, .iface 236 (.pointer (some s.field))])] w fun e w' => e = .returned (.int .i64 52) ∧ Turn nowhere w w' := by
  have HS := Lib.hid hs
  have HNE := Lib.hid hs.ne
  clear hs
  go_enter Tryz.func20, Tryz.ntmps20
  go_upto_region 2 with fail
  have ht0 := (Turn.refl nowhere w).alloc (.cells #[.int .i64 0, .nilIface] 80)
  have hb0 := Blk.new w 80 #[.int .i64 0, .nilIface]
  have hg0 : w.heap.size = w.heap.size := rfl
  generalize World.alloc w _ = w0 at *
  obtain ⟨b0, hb00⟩ : ∃ b0, b0 = w.heap.size := ⟨_, rfl⟩
  rw [← hb00] at hb0 ⊢
  have HG := Lib.hid hb00
  have HT := Lib.hid ht0
  have HB := Lib.hid hb0
  clear ht0 hb0 hb00 hg0
  have he := (HS.out.turn HT.out).etype
  go_upto_region 3 with (go_at_call 41; refine (as_hit no (.iface 236 (.pointer (some s.field))) b0 #[.int .i64 0, .nilIface] _ rfl he HB.out rfl).mono ?_; rintro e w1 ⟨rfl, hb1, ht1⟩)
  have HT1 := Lib.hid (HT.out.trans (ht1.mono (G := fun k => k = b0) fun _ _ e => e) (fun k hk e => by
    have := HG.out
    have e : k = b0 := e
    omega))
  have c0 : w1.cell? ⟨b0, 0, none⟩ = some (.int .i64 no) := hb1.cell 0
  have c1 : w1.cell? ⟨b0, 1, none⟩ = some (.iface 236 (.pointer (some s.field))) := hb1.cell 1
  clear ht1 he HT HB hb1
  go_wp2_with (go_at_call 42; refine (tellField_field no (HS.out.turn HT1.out)).mono ?_; rintro e w2 ⟨rfl, ht2⟩)
  go_ret
  exact ⟨rfl, HT1.out.next ht2⟩
set_option maxRecDepth 20000 in
theorem tell_text {s : Sents} {w : World} (no : Int) (hs : Sen s w) :
    Calls Tryz.prog 20 #[.iface 80 (.agg #[.int .i64 no, .iface 236 (.pointer (some s.text))])] w fun e w' => e = .returned (.int .i64 41) ∧ Turn nowhere w w' := by
  have HS := Lib.hid hs
  have HNE := Lib.hid hs.ne
  clear hs
  go_enter Tryz.func20, Tryz.ntmps20
  go_upto_region 2 with fail
  have ht0 := (Turn.refl nowhere w).alloc (.cells #[.int .i64 0, .nilIface] 80)
  have hb0 := Blk.new w 80 #[.int .i64 0, .nilIface]
  have hg0 : w.heap.size = w.heap.size := rfl
  generalize World.alloc w _ = w0 at *
  obtain ⟨b0, hb00⟩ : ∃ b0, b0 = w.heap.size := ⟨_, rfl⟩
  rw [← hb00] at hb0 ⊢
  have HG := Lib.hid hb00
  have HT := Lib.hid ht0
  have HB := Lib.hid hb0
  clear ht0 hb0 hb00 hg0
  have he := (HS.out.turn HT.out).etype
  go_upto_region 3 with (go_at_call 41; refine (as_hit no (.iface 236 (.pointer (some s.text))) b0 #[.int .i64 0, .nilIface] _ rfl he HB.out rfl).mono ?_; rintro e w1 ⟨rfl, hb1, ht1⟩)
  have HT1 := Lib.hid (HT.out.trans (ht1.mono (G := fun k => k = b0) fun _ _ e => e) (fun k hk e => by
    have := HG.out
    have e : k = b0 := e
    omega))
  have c0 : w1.cell? ⟨b0, 0, none⟩ = some (.int .i64 no) := hb1.cell 0
  have c1 : w1.cell? ⟨b0, 1, none⟩ = some (.iface 236 (.pointer (some s.text))) := hb1.cell 1
  clear ht1 he HT HB hb1
  go_wp2_with (go_at_call 42; refine (tellField_text no (HS.out.turn HT1.out)).mono ?_; rintro e w2 ⟨rfl, ht2⟩)
  go_ret
  exact ⟨rfl, HT1.out.next ht2⟩
set_option maxRecDepth 20000 in
theorem tell_bytes {s : Sents} {w : World} (no : Int) (hs : Sen s w) :
    Calls Tryz.prog 20 #[.iface 80 (.agg #[.int .i64 no, .iface 236 (.pointer (some s.bytes))])] w fun e w' => e = .returned (.int .i64 42) ∧ Turn nowhere w w' := by
  have HS := Lib.hid hs
  have HNE := Lib.hid hs.ne
  clear hs
  go_enter Tryz.func20, Tryz.ntmps20
  go_upto_region 2 with fail
  have ht0 := (Turn.refl nowhere w).alloc (.cells #[.int .i64 0, .nilIface] 80)
  have hb0 := Blk.new w 80 #[.int .i64 0, .nilIface]
  have hg0 : w.heap.size = w.heap.size := rfl
  generalize World.alloc w _ = w0 at *
  obtain ⟨b0, hb00⟩ : ∃ b0, b0 = w.heap.size := ⟨_, rfl⟩
  rw [← hb00] at hb0 ⊢
  have HG := Lib.hid hb00
  have HT := Lib.hid ht0
  have HB := Lib.hid hb0
  clear ht0 hb0 hb00 hg0
  have he := (HS.out.turn HT.out).etype
  go_upto_region 3 with (go_at_call 41; refine (as_hit no (.iface 236 (.pointer (some s.bytes))) b0 #[.int .i64 0, .nilIface] _ rfl he HB.out rfl).mono ?_; rintro e w1 ⟨rfl, hb1, ht1⟩)
  have HT1 := Lib.hid (HT.out.trans (ht1.mono (G := fun k => k = b0) fun _ _ e => e) (fun k hk e => by
    have := HG.out
    have e : k = b0 := e
    omega))
  have c0 : w1.cell? ⟨b0, 0, none⟩ = some (.int .i64 no) := hb1.cell 0
  have c1 : w1.cell? ⟨b0, 1, none⟩ = some (.iface 236 (.pointer (some s.bytes))) := hb1.cell 1
  clear ht1 he HT HB hb1
  go_wp2_with (go_at_call 42; refine (tellField_bytes no (HS.out.turn HT1.out)).mono ?_; rintro e w2 ⟨rfl, ht2⟩)
  go_ret
  exact ⟨rfl, HT1.out.next ht2⟩
set_option maxRecDepth 20000 in
theorem tell_short {s : Sents} {w : World} (no : Int) (hs : Sen s w) :
    Calls Tryz.prog 20 #[.iface 80 (.agg #[.int .i64 no, .iface 236 (.pointer (some s.short))])] w fun e w' => e = .returned (.int .i64 43) ∧ Turn nowhere w w' := by
  have HS := Lib.hid hs
  have HNE := Lib.hid hs.ne
  clear hs
  go_enter Tryz.func20, Tryz.ntmps20
  go_upto_region 2 with fail
  have ht0 := (Turn.refl nowhere w).alloc (.cells #[.int .i64 0, .nilIface] 80)
  have hb0 := Blk.new w 80 #[.int .i64 0, .nilIface]
  have hg0 : w.heap.size = w.heap.size := rfl
  generalize World.alloc w _ = w0 at *
  obtain ⟨b0, hb00⟩ : ∃ b0, b0 = w.heap.size := ⟨_, rfl⟩
  rw [← hb00] at hb0 ⊢
  have HG := Lib.hid hb00
  have HT := Lib.hid ht0
  have HB := Lib.hid hb0
  clear ht0 hb0 hb00 hg0
  have he := (HS.out.turn HT.out).etype
  go_upto_region 3 with (go_at_call 41; refine (as_hit no (.iface 236 (.pointer (some s.short))) b0 #[.int .i64 0, .nilIface] _ rfl he HB.out rfl).mono ?_; rintro e w1 ⟨rfl, hb1, ht1⟩)
  have HT1 := Lib.hid (HT.out.trans (ht1.mono (G := fun k => k = b0) fun _ _ e => e) (fun k hk e => by
    have := HG.out
    have e : k = b0 := e
    omega))
  have c0 : w1.cell? ⟨b0, 0, none⟩ = some (.int .i64 no) := hb1.cell 0
  have c1 : w1.cell? ⟨b0, 1, none⟩ = some (.iface 236 (.pointer (some s.short))) := hb1.cell 1
  clear ht1 he HT HB hb1
  go_wp2_with (go_at_call 42; refine (tellField_short no (HS.out.turn HT1.out)).mono ?_; rintro e w2 ⟨rfl, ht2⟩)
  go_ret
  exact ⟨rfl, HT1.out.next ht2⟩
set_option maxRecDepth 20000 in
theorem tell_nil {s : Sents} {w : World} (hs : Sen s w) :
    Calls Tryz.prog 20 #[.nilIface] w fun e w' => e = .returned (.int .i64 0) ∧ Turn nowhere w w' := by
  have HS := Lib.hid hs
  have HNE := Lib.hid hs.ne
  clear hs
  go_enter Tryz.func20, Tryz.ntmps20
  go_upto_region 2 with fail
  have ht0 := (Turn.refl nowhere w).alloc (.cells #[.int .i64 0, .nilIface] 80)
  have hb0 := Blk.new w 80 #[.int .i64 0, .nilIface]
  have hg0 : w.heap.size = w.heap.size := rfl
  generalize World.alloc w _ = w0 at *
  obtain ⟨b0, hb00⟩ : ∃ b0, b0 = w.heap.size := ⟨_, rfl⟩
  rw [← hb00] at hb0 ⊢
  have HG := Lib.hid hb00
  have HT := Lib.hid ht0
  have HB := Lib.hid hb0
  clear ht0 hb0 hb00 hg0
  go_upto_region 4 with (go_at_call 41; refine (as_nil _ _).mono ?_; rintro e w1 ⟨rfl, rfl⟩)
  clear HB
  have cg : w1.cell? ⟨0, 0, none⟩ = some (.iface 236 (.pointer (some s.dialect))) := (HS.out.turn HT.out).dialect.1
  go_upto_region 6 with (go_at_call 43; refine (is_nil s.dialect _).mono ?_; rintro e w1 ⟨rfl, rfl⟩)
  clear cg
  have cg : w1.cell? ⟨1, 0, none⟩ = some (.iface 236 (.pointer (some s.type_))) := (HS.out.turn HT.out).type_.1
  go_upto_region 8 with (go_at_call 43; refine (is_nil s.type_ _).mono ?_; rintro e w1 ⟨rfl, rfl⟩)
  clear cg
  have cg : w1.cell? ⟨2, 0, none⟩ = some (.iface 236 (.pointer (some s.long))) := (HS.out.turn HT.out).long.1
  go_upto_region 10 with (go_at_call 43; refine (is_nil s.long _).mono ?_; rintro e w1 ⟨rfl, rfl⟩)
  clear cg
  have cg : w1.cell? ⟨3, 0, none⟩ = some (.iface 236 (.pointer (some s.map))) := (HS.out.turn HT.out).map.1
  go_upto_region 12 with (go_at_call 43; refine (is_nil s.map _).mono ?_; rintro e w1 ⟨rfl, rfl⟩)
  clear cg
  have cg : w1.cell? ⟨4, 0, none⟩ = some (.iface 236 (.pointer (some s.more))) := (HS.out.turn HT.out).more.1
  go_upto_region 14 with (go_at_call 43; refine (is_nil s.more _).mono ?_; rintro e w1 ⟨rfl, rfl⟩)
  clear cg
  go_wp2_with fail
  go_ret
  exact ⟨rfl, HT.out⟩
/-- an error of message's, and its number -/
inductive ErrV (s : Sents) : Value → Int → Prop
  | nil : ErrV s .nilIface 0
  | dialect : ErrV s (.iface 236 (.pointer (some s.dialect))) 50
  | type_ : ErrV s (.iface 236 (.pointer (some s.type_))) 51
  | long : ErrV s (.iface 236 (.pointer (some s.long))) 5
  | map : ErrV s (.iface 236 (.pointer (some s.map))) 53
  | more : ErrV s (.iface 236 (.pointer (some s.more))) 54
  | field (no : Int) : ErrV s (.iface 80 (.agg #[.int .i64 no, .iface 236 (.pointer (some s.field))])) 52
  | text (no : Int) : ErrV s (.iface 80 (.agg #[.int .i64 no, .iface 236 (.pointer (some s.text))])) 41
  | bytes (no : Int) : ErrV s (.iface 80 (.agg #[.int .i64 no, .iface 236 (.pointer (some s.bytes))])) 42
  | short (no : Int) : ErrV s (.iface 80 (.agg #[.int .i64 no, .iface 236 (.pointer (some s.short))])) 43
theorem tell_walk {s : Sents} {w : World} {v : Value} {n : Int} (h : ErrV s v n) (hs : Sen s w) :
    Calls Tryz.prog 20 #[v] w fun e w' => e = .returned (.int .i64 n) ∧ Turn nowhere w w' := by
  cases h with
  | nil => exact tell_nil hs
  | dialect => exact tell_dialect hs
  | type_ => exact tell_type_ hs
  | long => exact tell_long hs
  | map => exact tell_map hs
  | more => exact tell_more hs
  | field no => exact tell_field no hs
  | text no => exact tell_text no hs
  | bytes no => exact tell_bytes no hs
  | short no => exact tell_short no hs
end Go.Proofs.YticofobhkmabiaaGreatDoor
namespace Go.Proofs.YticofobhkmabiaaGreatDoor
open Go.RowKit
set_option linter.unusedVariables false
/-- bytes as a string's value -/
def strV (l : List UInt8) : Value := .string ⟨l.toArray⟩
theorem strV_cells (l : List UInt8) : (strV l).cells = #[strV l] := rfl
theorem strV_one (l : List UInt8) : (strV l).oneCell' = true := rfl
theorem str_size (l : List UInt8) : (ByteArray.mk l.toArray).size = l.length := by simp [ByteArray.size]
theorem str_ext (n m : Nat) (l : List UInt8) : (ByteArray.mk l.toArray).extract n m = ByteArray.mk ((l.take m).drop n).toArray := by
  apply ByteArray.ext
  apply Array.ext'
  rw [ByteArray.data_extract]
  simp [List.extract_eq_take_drop, List.drop_take]
theorem str_to (n : Nat) (l : List UInt8) : (ByteArray.mk l.toArray).extract 0 n = ByteArray.mk (l.take n).toArray := by rw [str_ext, List.drop_zero]
theorem str_from (n : Nat) (l : List UInt8) : (ByteArray.mk l.toArray).extract n (ByteArray.mk l.toArray).size = ByteArray.mk (l.drop n).toArray := by rw [str_ext, str_size, List.take_length]
section
variable {a : Act} {o : Oper} {W : World}
theorem exec_str {x : Operand} {b off n c : Nat} {l : List UInt8} (ho : o.op = .convert 26 9 x) (hx : a.eval x = .slice (some ⟨b, off, none⟩) n c) (hl : l.length = n) (hr : W.rangeAt b off (bcs l)) : (execOp a.eval o).run Tryz.prog W = .ok (.value (strV l)) W := by
  subst hl
  have h := run_convert_bytes_back (P := Tryz.prog) W 26 9 5 ⟨b, off, none⟩ c l Tryz.underlying26 Tryz.underlying5 Tryz.underlying9 (fun j hj => by
    rw [add_nat]
    refine hr j _ ?_
    rw [bcs_at l j hj, List.getD_eq_getElem?_getD, List.getElem?_eq_getElem hj]
    rfl)
  unfold execOp
  simp only [ho, hx, h, Sem.run_bind, Sem.run_pure, Result.andThen_ok, strV]
theorem exec_nilstr {x : Operand} {c : Nat} (ho : o.op = .convert 26 9 x) (hx : a.eval x = .slice none 0 c) : (execOp a.eval o).run Tryz.prog W = .ok (.value (strV [])) W := by
  have h := run_convert_bytes_string (P := Tryz.prog) W 26 9 5 none 0 c Tryz.underlying26 Tryz.underlying5 Tryz.underlying9
  unfold execOp
  simp only [ho, hx, h, Sem.run_bind]
  rfl
/-- whatever the slice is -/
theorem exec_strBs {x : Operand} {A : Option Addr} {n c : Nat} {l : List UInt8} (ho : o.op = .convert 26 9 x) (hx : a.eval x = .slice A n c) (hb : Bs W A n l) : (execOp a.eval o).run Tryz.prog W = .ok (.value (strV l)) W := by
  obtain ⟨h1, h2, h3⟩ := hb
  by_cases hp : 0 < n
  · obtain ⟨b, off, rfl, hc⟩ := h3 hp
    exact exec_str ho hx h1 (fun j v hj => by
      have hjl : j < l.length := by
        have := (List.getElem?_eq_some_iff.1 hj).1
        rwa [bcs_length] at this
      rw [bcs_at l j hjl] at hj
      rw [← hj]
      exact hc j (by omega))
  · have h0 : n = 0 := by omega
    subst h0
    have hl : l = [] := List.eq_nil_of_length_eq_zero h1
    subst hl
    have h := run_convert_bytes_string (P := Tryz.prog) W 26 9 5 A 0 c Tryz.underlying26 Tryz.underlying5 Tryz.underlying9
    unfold execOp
    simp only [ho, hx, h, Sem.run_bind]
    cases A <;> rfl
theorem exec_sadd {x y : Operand} {l m : List UInt8} {t u : TypeId} (ho : o.op = .binOp .add t x y u) (hx : a.eval x = strV l) (hy : a.eval y = strV m) (hs : l.length + m.length ≤ 8388608) : (execOp a.eval o).run Tryz.prog W = .ok (.value (strV (l ++ m))) W := by
  have h := run_string_add_lists (P := Tryz.prog) W l m (by omega) (by omega)
  unfold execOp
  simp [ho, hx, hy, strV, eqGuard, binOp, h]
theorem exec_seql {x y : Operand} {l m : List UInt8} {t u : TypeId} (ho : o.op = .binOp .eql t x y u) (hx : a.eval x = strV l) (hy : a.eval y = strV m) : (execOp a.eval o).run Tryz.prog W = .ok (.value (.bool (l == m))) W := by
  unfold execOp
  simp [ho, hx, hy, strV, eqGuard, binOp_string_eql]
theorem exec_sneq {x y : Operand} {l m : List UInt8} {t u : TypeId} (ho : o.op = .binOp .neq t x y u) (hx : a.eval x = strV l) (hy : a.eval y = strV m) : (execOp a.eval o).run Tryz.prog W = .ok (.value (.bool (!(l == m)))) W := by
  unfold execOp
  simp [ho, hx, hy, strV, eqGuard, binOp_string_neq]
theorem exec_sto {x y : Operand} {l : List UInt8} {n : Nat} (ho : o.op = .slice 9 x none (some y) none) (hx : a.eval x = strV l) (hy : a.eval y = .int .i64 (n : Int)) (hn : n ≤ l.length) : (execOp a.eval o).run Tryz.prog W = .ok (.value (strV (l.take n))) W := by
  have h := run_slice_string_h (P := Tryz.prog) W 9 ⟨l.toArray⟩ Tryz.underlying9 .i64 (n : Int) (by omega) (by rw [str_size]; omega)
  rw [Int.toNat_natCast, str_to] at h
  unfold execOp
  simp only [ho, Option.map, hx, hy, strV, run_sliceAt_string (P := Tryz.prog) W 9 _ _ _ _ Tryz.underlying9, h, Sem.run_bind, Sem.run_pure, Result.andThen_ok]
theorem exec_sfrom {x y : Operand} {l : List UInt8} {n : Nat} (ho : o.op = .slice 9 x (some y) none none) (hx : a.eval x = strV l) (hy : a.eval y = .int .i64 (n : Int)) (hn : n ≤ l.length) : (execOp a.eval o).run Tryz.prog W = .ok (.value (strV (l.drop n))) W := by
  have h := run_slice_string_l (P := Tryz.prog) W 9 ⟨l.toArray⟩ Tryz.underlying9 .i64 (n : Int) (by omega) (by rw [str_size]; omega)
  rw [Int.toNat_natCast, str_from] at h
  unfold execOp
  simp only [ho, Option.map, hx, hy, strV, run_sliceAt_string (P := Tryz.prog) W 9 _ _ _ _ Tryz.underlying9, h, Sem.run_bind, Sem.run_pure, Result.andThen_ok]
theorem exec_sidx {x y : Operand} {l : List UInt8} {i : Nat} {k : IntKind} (ho : o.op = .index 9 x y) (hx : a.eval x = strV l) (hy : a.eval y = .int k (i : Int)) (hi : i < l.length) : (execOp a.eval o).run Tryz.prog W = .ok (.value (.int .u8 ((l.getD i 0).toNat : Int))) W := by
  have h := run_index_string (P := Tryz.prog) W 9 ⟨l.toArray⟩ k (i : Int) Tryz.underlying9
  rw [dif_pos ⟨by omega, by rw [str_size]; omega⟩] at h
  unfold execOp
  simp only [ho, hx, hy, strV, h, Sem.run_bind, Sem.run_pure, Result.andThen_ok]
  rw [List.getD_eq_getElem?_getD, List.getElem?_eq_getElem hi]
  rfl
theorem exec_slen {x : Operand} {l : List UInt8} (ho : o.op = .call { callee := .builtin .len, args := #[x], argTypes := #[9] }) (hx : a.eval x = strV l) : (execOp a.eval o).run Tryz.prog W = .ok (.value (.int .i64 (l.length : Int))) W := by
  have h := run_len_string (P := Tryz.prog) W 9 o.type ⟨l.toArray⟩ Tryz.underlying9
  rw [str_size] at h
  unfold execOp
  simp only [ho, resolve, invoke, builtin, Sem.run_bind, Sem.run_pure, Result.andThen_ok, List.map_toArray, List.map_cons, List.map_nil, hx, strV, h]
  rfl
end
end Go.Proofs.YticofobhkmabiaaGreatDoor
namespace Go.Proofs.YticofobhkmabiaaGreatDoor
section
variable {P : Program} {md : Region.Mode} {ops : Array Oper} {Q : Exit → Act → World → Prop} {S : World → Prop}
/-- whatever order is picked, and S holds behind each operation -/
def Alw (P : Program) (md : Region.Mode) (ops : Array Oper) (Q : Exit → Act → World → Prop) (S : World → Prop) : Nat → Array Bool → Act → World → Prop
  | 0, l, a, w => Region.ready md ops l = [] ∧ Q .normal a w
  | n + 1, l, a, w => (Region.ready md ops l = [] → Q .normal a w) ∧
      ∀ i ∈ Region.ready md ops l, wpOp P ops Q i (fun a' w' => S w' ∧ Alw P md ops Q S n (l.setIfInBounds i true) a' w') a w
theorem alw_any : ∀ (n : Nat) (l : Array Bool) (a : Act) (w : World), Alw P md ops Q S n l a w → wpAny P md ops Q n l a w
  | 0, _, _, _, h => h
  | n + 1, _, _, _, h => ⟨h.1, fun i hi => wpOp_mono (fun _ _ h' => alw_any n _ _ _ h'.2) (h.2 i hi)⟩
theorem alw_first {i : Nat} {o : Oper} {v : Value} (hi : ops[i]? = some o) (hsel : ∀ (j : Nat) (o : Oper) cs b, ops[j]? = some o → o.op ≠ .select cs b) :
    ∀ (n : Nat) (l : Array Bool) (a : Act) (w : World),
      (∀ j oj, ops[j]? = some oj → j ≠ i → l.getD j true = false → (∀ e ∈ oj.after, Region.binds md e = true → e.on ≠ i) → o.apart ops oj = true) →
      i ∈ Region.ready md ops l → YieldsIf P ops S o v a → S w → (∀ c a w, Q (.panic c) (a.put o.dst v) w → Q (.panic c) a w) →
      Alw P md ops Q S n (l.setIfInBounds i true) (a.put o.dst v) w → Alw P md ops Q S (n + 1) l a w := by
  have hread : ∀ (l : Array Bool) (j : Nat), i ∈ Region.ready md ops l → j ∈ Region.ready md ops l → j ≠ i → ∃ oj, ops[j]? = some oj ∧ l.getD j true = false ∧ ∀ e ∈ oj.after, Region.binds md e = true → e.on ≠ i := by
    intro l j hr hj hji
    obtain ⟨h0, oj, hoj, hall⟩ := mem_ready.1 hj
    have hun := (mem_ready.1 hr).1
    refine ⟨oj, hoj, h0, fun e he hb heq => ?_⟩
    have h2 := hall e he hb
    rw [heq] at h2
    rcases Nat.lt_or_ge i l.size with hlt | hge
    · rw [Array.getD_eq_getD_getElem?, Array.getElem?_eq_getElem hlt] at h2 hun
      simp only [Option.getD_some] at h2 hun
      rw [h2] at hun
      cases hun
    · rw [Array.getD_eq_getD_getElem?, Array.getElem?_eq_none hge] at h2
      cases h2
  intro n
  induction n with
  | zero =>
    intro l a w _ hr hy hS _ H
    refine ⟨fun h => (by rw [h] at hr; cases hr), fun j hj => ?_⟩
    by_cases hji : j = i
    · subst hji
      exact hy.wpOp hi hS ⟨hS, H⟩
    · have := ready_mono hj hji
      rw [H.1] at this
      cases this
  | succ n ih =>
    intro l a w hfree hr hy hS hQ H
    refine ⟨fun h => (by rw [h] at hr; cases hr), fun j hj => ?_⟩
    by_cases hji : j = i
    · subst hji
      exact hy.wpOp hi hS ⟨hS, H⟩
    · obtain ⟨oj, hoj, hjun, hno⟩ := hread l j hr hj hji
      have h1 := H.2 j (ready_mono hj hji)
      have h2 := wpOp_putIf hoj (hfree j oj hoj hji hjun hno) (fun cs b => hsel i o cs b hi) (fun cs b => hsel j oj cs b hoj) hQ hy h1
      refine wpOp_mono (fun a' w' h3 => ⟨h3.2.1, ih (l.setIfInBounds j true) a' w' ?_ (ready_mono hr (Ne.symm hji)) h3.1 h3.2.1 hQ ?_⟩) h2
      · intro m om hm hmi hun hn
        refine hfree m om hm hmi ?_ hn
        by_cases hjm : j = m
        · subst hjm
          exact hjun
        · rwa [getD_set_ne true hjm] at hun
      · rw [Array.setIfInBounds_comm _ _ hji]
        exact h3.2.2
theorem alw_take {i : Nat} {o : Oper} {v : Value} {n : Nat} {l : Array Bool} {a : Act} {w : World} (hi0 : ops.toList[i]? = some o) (hs : Region.noSelect ops = true)
    (hf : (Region.free md ops l i && (Region.ready md ops l).contains i) = true)
    (hQ : ∀ c a w, Q (.panic c) (a.put o.dst v) w → Q (.panic c) a w) (hy : YieldsIf P ops S o v a) (hS : S w)
    (h : Alw P md ops Q S n (l.setIfInBounds i true) (a.put o.dst v) w) : Alw P md ops Q S (n + 1) l a w := by
  have hi : ops[i]? = some o := by rw [← hi0, Array.getElem?_toList]
  simp only [Bool.and_eq_true] at hf
  exact alw_first hi (Region.noSelect_spec hs) n l a w (Region.free_spec hi hf.1) (by simpa using hf.2) hy hS hQ h
theorem alw_step {i : Nat} {o : Oper} {n : Nat} {l : Array Bool} {a : Act} {w : World} (hr : Region.ready md ops l = [i]) (ho0 : ops.toList[i]? = some o) (hw : Region.wanted o (yielded ops a.tmps) = true)
    (h : ∀ K : Act → World → Prop, Shut (∀ a' w', (S w' ∧ Alw P md ops Q S n (l.setIfInBounds i true) a' w') → K a' w') → o.wp P a w K Q) : Alw P md ops Q S (n + 1) l a w := by
  have ho : ops[i]? = some o := by rw [← ho0, Array.getElem?_toList]
  refine ⟨fun h0 => (by rw [h0] at hr; cases hr), fun j hj => ?_⟩
  rw [hr] at hj
  obtain rfl : j = i := by simpa using hj
  unfold wpOp
  simp only [ho, hw, if_true]
  exact .inl (h _ fun _ _ h' => h')
theorem alw_done {n : Nat} {l : Array Bool} {a : Act} {w : World} (hr : Region.ready md ops l = []) (h : Q .normal a w) : Alw P md ops Q S n l a w := by
  cases n with
  | zero => exact ⟨hr, h⟩
  | succ n => exact ⟨fun _ => h, fun j hj => by rw [hr] at hj; cases hj⟩
theorem wp_region_alw (S : World → Prop) {id : Nat} {a : Act} {w : World} (hm : P.follows .mixedOrders = true)
    (h : Alw P .any ops (NoPanic Q) S ops.size (Array.replicate ops.size false) a w.drew) : (Code.region id ops true).wp P Q a w :=
  wp_region_noPanic (wp_region_any hm (alw_any _ _ _ _ h))
end
end Go.Proofs.YticofobhkmabiaaGreatDoor
namespace Go.Proofs.YticofobhkmabiaaGreatDoor
open Go.RowKit
open Fdd
set_option linter.unusedVariables false
set_option linter.unusedSimpArgs false
theorem ret_cell2 {P : Program} {fn : Func} {p u : Tmp} {ty : TypeId} (h : fn.results = #[.cell p ty, .tmp u]) (tmps : Array Value) (w : World) (g : Nat) (t : TypeId) (cs : Array Value) (d : TypeDesc) {v : Value}
    (hp : tmps.getD p undef = .pointer (some ⟨g, 0, none⟩)) (hv : tmps.getD u undef = v) (hg : Blk w g t cs) (hu : P.underlying ty = some d) (hd : (match d with | .struct _ | .array _ _ => true | _ => false) = true) (hi : (P.info? ty).map (·.size) = some cs.size) :
    (results fn tmps).run P w = .ok (.tuple #[.agg cs, v]) w := by
  subst hv
  have hp' : tmps[p]?.getD undef = .pointer (some ⟨g, 0, none⟩) := by simpa using hp
  rw [results_cell_tmp h]
  simp [hp', asAddr, run_loadVar_row w g t ty cs (0, 0) d hg hu hd hi, Result.andThen]
theorem gx_aaddr {P : Program} {a : Act} {o : Oper} {W : World} {t e : TypeId} {x y : Operand} {b off n i sz m : Nat} {k : IntKind} (ho : o.op = .indexAddr t x y) (hx : a.eval x = .pointer (some ⟨b, off, none⟩)) (hy : a.eval y = .int k (i : Int))
    (ht : P.underlying t = some (.array n e)) (hs : (P.info? e).map (·.size) = some sz) (hi : i < n) (hm : off + i * sz = m) : (execOp a.eval o).run P W = .ok (.value (.pointer (some ⟨b, m, none⟩))) W := by
  obtain ⟨j, hj, hjs⟩ := Option.map_eq_some_iff.1 hs
  subst hm
  unfold execOp
  simp [ho, hx, hy, Instr.indexAt, run_underlying ht, asIntOf, sizeOf, typeInfo, hj, hjs, hi, add_nat, Result.andThen, Instr.sureAddr]
theorem gx_loads {P : Program} {a : Act} {o : Oper} {W : World} {ty : TypeId} {x : Operand} {b off : Nat} {cs : List Value} {d : TypeDesc} (ho : o.op = .load ty x) (hx : a.eval x = .pointer (some ⟨b, off, none⟩)) (hr : W.rangeAt b off cs)
    (hu : P.underlying ty = some d) (hd : d.isRow = true) (hi : (P.info? ty).map (·.size) = some cs.length) : (execOp a.eval o).run P W = .ok (.value (.agg cs.toArray)) W :=
  exec_load ho hx (run_loadAt_mid W b off ty cs d hr hu hd hi)
theorem wp_store_rowU {P : Program} {o : Oper} {a : Act} {w : World} {K : Act → World → Prop} {Q : Exit → Act → World → Prop} (ty : TypeId) (x y : Operand) (ho : o.op = .store ty x y) {g : Nat} {t : TypeId} {old : Array Value} (cells : Array Value) (hb : Blk w g t old)
    (hx : a.eval x = .pointer (some ⟨g, 0, none⟩)) (hy : a.eval y = .agg cells) (hs : old.size = cells.size) (hi : (P.info? ty).map (·.size) = some cells.size) (h1 : ∀ v ∈ cells.toList, v.oneCell' = true)
    (h : ∀ w', Blk w' g t cells → Turn (only g) w w' → K (a.put o.dst undef) w') : o.wp P a w K Q := by
  obtain ⟨w', hr, h2, h3⟩ := run_store_row (P := P) hb hs hi h1
  unfold Oper.wp execOp
  simp only [ho, hx, hy, hr, Sem.run_bind, Sem.run_pure, Result.andThen_ok]
  exact h w' h2 h3
theorem exec_bld {P : Program} {a : Act} {o : Oper} {t : TypeId} {r : Value} {W : World} (ho : o.op = .build t #[]) (h : (Instr.build t #[]).run P W = .ok r W) : (execOp a.eval o).run P W = .ok (.value r) W := by
  unfold execOp
  simp only [ho, List.map_toArray, List.map_nil, h, Sem.run_bind, Sem.run_pure, Result.andThen_ok]
theorem zeroT_one : ∀ v ∈ (#[.int .i64 0, strV [], strV []] : Array Value).toList, v.oneCell' = true := fun v hv => by
  simp only [List.mem_cons, List.not_mem_nil, or_false] at hv
  rcases hv with rfl | rfl | rfl <;> rfl
theorem size_tongue : (Tryz.prog.info? 70).map (·.size) = some 3 := by kernel_rfl
theorem size_form : (Tryz.prog.info? 49).map (·.size) = some 3 := by kernel_rfl
theorem zero_tongue (w : World) : (zeroValue 70).run Tryz.prog w = .ok (.agg #[.int .i64 0, strV [], strV []]) w := by kernel_rfl
theorem build_tongue0 (W : World) : (Instr.build 70 #[]).run Tryz.prog W = .ok (.agg #[.int .i64 0, strV [], strV []]) W := by kernel_rfl
def tongA (d : Nat) : Array Value := #[.int .i64 (d : Int), strV (ver d), strV (unsaid d 4)]
def tongV (d : Nat) : Value := .agg (tongA d)
def errS (a : Addr) : Value := .iface 236 (.pointer (some a))
theorem tongA_one (d : Nat) : ∀ v ∈ (tongA d).toList, v.oneCell' = true := fun v hv => by
  unfold tongA at hv
  simp only [List.mem_cons, List.not_mem_nil, or_false] at hv
  rcases hv with rfl | rfl | rfl <;> rfl
theorem tong_cells {W : World} (h : Tab W) {d : Nat} (hd : 1 ≤ d ∧ d ≤ 3) : W.cell? ⟨5, 3 * d, none⟩ = some (.int .i64 (d : Int)) ∧ W.cell? ⟨5, 3 * d + 1, none⟩ = some (strV (ver d)) ∧ W.cell? ⟨5, 3 * d + 2, none⟩ = some (strV (unsaid d 4)) := by
  have hc : d = 1 ∨ d = 2 ∨ d = 3 := by omega
  rcases hc with rfl | rfl | rfl
  · exact ⟨h.tongues 3 _ rfl, h.tongues 4 _ rfl, h.tongues 5 _ rfl⟩
  · exact ⟨h.tongues 6 _ rfl, h.tongues 7 _ rfl, h.tongues 8 _ rfl⟩
  · exact ⟨h.tongues 9 _ rfl, h.tongues 10 _ rfl, h.tongues 11 _ rfl⟩
theorem tong_range {W : World} (h : Tab W) {d : Nat} (hd : 1 ≤ d ∧ d ≤ 3) : W.rangeAt 5 (d * 3) (tongA d).toList := by
  obtain ⟨c0, c1, c2⟩ := tong_cells h hd
  rw [Nat.mul_comm] at c0 c1 c2
  intro j v hj
  match j, hj with
  | 0, hj => injection hj with hj; subst hj; exact c0
  | 1, hj => injection hj with hj; subst hj; exact c1
  | 2, hj => injection hj with hj; subst hj; exact c2
set_option maxRecDepth 20000 in
theorem tongueOf_ok {s : Sents} {w : World} {d : Nat} (hd : 1 ≤ d ∧ d ≤ 3) (ht : Tab w) :
    Calls Tryz.prog 35 #[.int .i64 (d : Int)] w fun e w' => e = .returned (.tuple #[tongV d, .nilIface]) ∧ Turn nowhere w w' := by
  have HT := Lib.hid ht
  have HD := Lib.hid hd
  have y1 : ¬ ((d : Int) < 1) := by omega
  have y2 : ¬ (4 ≤ (d : Int)) := by omega
  have y3 : (d : Int) < 4 := by omega
  have y4 : (0 : Int) ≤ (d : Int) := by omega
  clear ht hd
  go_enter Tryz.func35, Tryz.ntmps35
  go_upto_region 3 with fail
  have hT1 := HT.out.turn ((Turn.refl nowhere w).alloc (.cells #[.int .i64 0, strV [], strV []] 70))
  have hB1 := Blk.new w 70 #[.int .i64 0, strV [], strV []]
  have hU1 := (Turn.refl nowhere w).alloc (.cells #[.int .i64 0, strV [], strV []] 70)
  obtain ⟨b0, hb00⟩ : ∃ b0, b0 = w.heap.size := ⟨_, rfl⟩
  rw [← hb00] at hB1 ⊢
  have HG := Lib.hid hb00
  have HB := Lib.hid hB1
  have HU := Lib.hid hU1
  have HR := Lib.hid (tong_range hT1 HD.out)
  clear hb00 hT1 hB1 hU1
  change Code.wp _ _ _ _ (w.alloc (.cells #[.int .i64 0, strV [], strV []] 70))
  generalize World.alloc w (.cells #[.int .i64 0, strV [], strV []] 70) = w1 at *
  refine wp_region_lit ?_
  refine wR (v := .int .i64 (d : Int)) rfl (exec_move rfl rfl) ?_
  simp only [Act.put, zzA, zz0, zz1]
  refine wR (v := .pointer (some ⟨5, d * 3, none⟩)) rfl (gx_aaddr (i := d) (off := 0) rfl rfl rfl Tryz.underlying86 size_tongue (by have := HD.out; omega) (by omega)) ?_
  simp only [Act.put, zzA, zz0, zz1]
  refine wR (v := tongV d) rfl (gx_loads rfl rfl HR.out Tryz.underlying70 rfl (by rw [size_tongue]; rfl)) ?_
  simp only [Act.put, zzA, zz0, zz1]
  refine wpList_store_row rfl 70 (.tmp 2) (.tmp 14) rfl (tongA d) HB.out rfl rfl rfl (by rw [size_tongue]; rfl) (tongA_one d) ?_
  intro w2 hB2 hU2
  have HB2 := Lib.hid hB2
  have HU2 := Lib.hid (HU.out.trans hU2 (fun k hk e => by
    have := HG.out
    have e : k = b0 := e
    omega))
  clear hB2 hU2
  simp only [Act.put, zzA, zz0, zz1]
  go_wp2_with fail
  refine bodyPost_ret (v := .tuple #[tongV d, .nilIface]) (ret_cell2 rfl _ _ b0 _ _ _ rfl rfl HB2.out Tryz.underlying70 rfl (by rw [size_tongue]; rfl)) rfl ?_
  exact ⟨rfl, HU2.out⟩
set_option maxRecDepth 20000 in
theorem tongueOf_bad {s : Sents} {w : World} {d : Int} (hd : ¬ (1 ≤ d ∧ d ≤ 3)) (hs : Sen s w) :
    Calls Tryz.prog 35 #[.int .i64 d] w fun e w' => e = .returned (.tuple #[.agg #[.int .i64 0, strV [], strV []], errS s.dialect]) ∧ Turn nowhere w w' := by
  have hS1 := hs.turn ((Turn.refl nowhere w).alloc (.cells #[.int .i64 0, strV [], strV []] 70))
  have hB1 := Blk.new w 70 #[.int .i64 0, strV [], strV []]
  have hU1 := (Turn.refl nowhere w).alloc (.cells #[.int .i64 0, strV [], strV []] 70)
  obtain ⟨b0, hb00⟩ : ∃ b0, b0 = w.heap.size := ⟨_, rfl⟩
  rw [← hb00] at hB1
  have HLT : Hid (0 < b0) := Lib.hid (by rw [hb00]; exact World.block_lt_of_cell? _ _ hs.dialect.1)
  have HG := Lib.hid hb00
  have HB := Lib.hid hB1
  have HU := Lib.hid hU1
  have HS := Lib.hid hS1
  clear hS1 hB1 hU1 hs
  by_cases h1 : d < 1
  · clear hd
    go_enter Tryz.func35, Tryz.ntmps35
    go_upto_region 2 with fail
    rw [← hb00]
    clear hb00
    change Code.wp _ _ _ _ (w.alloc (.cells #[.int .i64 0, strV [], strV []] 70))
    generalize World.alloc w (.cells #[.int .i64 0, strV [], strV []] 70) = w1 at *
    have hS0 : w1.drew.cell? ⟨0, 0, none⟩ = some (errS s.dialect) := HS.out.dialect.1
    have HBd : Hid (Blk w1.drew b0 70 #[.int .i64 0, strV [], strV []]) := Lib.hid HB.out.drew
    have HUd : Hid (Turn nowhere w w1.drew) := Lib.hid HU.out.drew
    clear HB HU HS
    refine wp_region_alw (fun W => W.cell? ⟨0, 0, none⟩ = some (errS s.dialect)) (by kernel_rfl) ?_
    generalize w1.drew = w3 at *
    refine alw_take (i := 0) (v := .agg #[.int .i64 0, strV [], strV []]) rfl (by kernel_rfl) (by kernel_rfl) (fun _ _ _ h => h) (.inl ⟨by rfl, fun W hW => exec_bld rfl (build_tongue0 _)⟩) hS0 ?_
    simp only [Act.put, zzA, zz0, zz1]
    refine alw_take (i := 1) (v := errS s.dialect) rfl (by kernel_rfl) (by kernel_rfl) (fun _ _ _ h => h) (.inl ⟨by rfl, fun W hW => exec_load1 rfl rfl (by kernel_rfl) hW⟩) hS0 ?_
    simp only [Act.put, zzA, zz0, zz1]
    refine alw_step (i := 2) (by kernel_rfl) rfl rfl ?_
    intro K1 HK1
    refine wp_store_rowU 70 (.tmp 2) (.tmp 10) rfl #[.int .i64 0, strV [], strV []] HBd.out rfl rfl rfl (by rw [size_tongue]; rfl) (zeroT_one) ?_
    intro w2 hB2 hU2
    have hS1 : w2.cell? ⟨0, 0, none⟩ = some (errS s.dialect) := (hU2.cell (World.block_lt_of_cell? _ _ hS0) (fun e => by
      have e : 0 = b0 := e
      have := HLT.out
      omega)).trans hS0
    have HB2 := Lib.hid hB2
    have HU2 := Lib.hid (HUd.out.trans hU2 (fun k hk e => by
      have := HG.out
      have e : k = b0 := e
      omega))
    clear hB2 hU2 HUd HBd hS0
    refine HK1.out _ _ ⟨hS1, ?_⟩
    clear HK1
    simp only [Act.put, zzA, zz0, zz1]
    refine alw_take (i := 3) (v := errS s.dialect) rfl (by kernel_rfl) (by kernel_rfl) (fun _ _ _ h => h) (.inl ⟨by rfl, fun W hW => gx_assign rfl rfl⟩) hS1 ?_
    simp only [Act.put, zzA, zz0, zz1]
    refine alw_done rfl ?_
    clear hS1
    refine NoPanic.normal ?_
    go_wp2_with fail
    refine bodyPost_ret (v := .tuple #[.agg #[.int .i64 0, strV [], strV []], errS s.dialect]) (ret_cell2 rfl _ _ b0 _ _ _ rfl rfl HB2.out Tryz.underlying70 rfl (by rw [size_tongue]; rfl)) rfl ?_
    exact ⟨rfl, HU2.out⟩
  · have h2 : 4 ≤ d := by omega
    clear hd
    go_enter Tryz.func35, Tryz.ntmps35
    go_upto_region 2 with fail
    rw [← hb00]
    clear hb00
    change Code.wp _ _ _ _ (w.alloc (.cells #[.int .i64 0, strV [], strV []] 70))
    generalize World.alloc w (.cells #[.int .i64 0, strV [], strV []] 70) = w1 at *
    have hS0 : w1.drew.cell? ⟨0, 0, none⟩ = some (errS s.dialect) := HS.out.dialect.1
    have HBd : Hid (Blk w1.drew b0 70 #[.int .i64 0, strV [], strV []]) := Lib.hid HB.out.drew
    have HUd : Hid (Turn nowhere w w1.drew) := Lib.hid HU.out.drew
    clear HB HU HS
    refine wp_region_alw (fun W => W.cell? ⟨0, 0, none⟩ = some (errS s.dialect)) (by kernel_rfl) ?_
    generalize w1.drew = w3 at *
    refine alw_take (i := 0) (v := .agg #[.int .i64 0, strV [], strV []]) rfl (by kernel_rfl) (by kernel_rfl) (fun _ _ _ h => h) (.inl ⟨by rfl, fun W hW => exec_bld rfl (build_tongue0 _)⟩) hS0 ?_
    simp only [Act.put, zzA, zz0, zz1]
    refine alw_take (i := 1) (v := errS s.dialect) rfl (by kernel_rfl) (by kernel_rfl) (fun _ _ _ h => h) (.inl ⟨by rfl, fun W hW => exec_load1 rfl rfl (by kernel_rfl) hW⟩) hS0 ?_
    simp only [Act.put, zzA, zz0, zz1]
    refine alw_step (i := 2) (by kernel_rfl) rfl rfl ?_
    intro K1 HK1
    refine wp_store_rowU 70 (.tmp 2) (.tmp 10) rfl #[.int .i64 0, strV [], strV []] HBd.out rfl rfl rfl (by rw [size_tongue]; rfl) (zeroT_one) ?_
    intro w2 hB2 hU2
    have hS1 : w2.cell? ⟨0, 0, none⟩ = some (errS s.dialect) := (hU2.cell (World.block_lt_of_cell? _ _ hS0) (fun e => by
      have e : 0 = b0 := e
      have := HLT.out
      omega)).trans hS0
    have HB2 := Lib.hid hB2
    have HU2 := Lib.hid (HUd.out.trans hU2 (fun k hk e => by
      have := HG.out
      have e : k = b0 := e
      omega))
    clear hB2 hU2 HUd HBd hS0
    refine HK1.out _ _ ⟨hS1, ?_⟩
    clear HK1
    simp only [Act.put, zzA, zz0, zz1]
    refine alw_take (i := 3) (v := errS s.dialect) rfl (by kernel_rfl) (by kernel_rfl) (fun _ _ _ h => h) (.inl ⟨by rfl, fun W hW => gx_assign rfl rfl⟩) hS1 ?_
    simp only [Act.put, zzA, zz0, zz1]
    refine alw_done rfl ?_
    clear hS1
    refine NoPanic.normal ?_
    go_wp2_with fail
    refine bodyPost_ret (v := .tuple #[.agg #[.int .i64 0, strV [], strV []], errS s.dialect]) (ret_cell2 rfl _ _ b0 _ _ _ rfl rfl HB2.out Tryz.underlying70 rfl (by rw [size_tongue]; rfl)) rfl ?_
    exact ⟨rfl, HU2.out⟩
end Go.Proofs.YticofobhkmabiaaGreatDoor
namespace Go.Proofs.YticofobhkmabiaaGreatDoor
open Go.RowKit
set_option linter.unusedVariables false
section
variable {P : Program} {md : Region.Mode} {ops : Array Oper} {Q : Exit → Act → World → Prop} {S : World → Prop} {k : Nat}
theorem till_pureAt {i : Nat} {o : Oper} {v : Value} (hi : ops[i]? = some o) (hsel : ∀ (j : Nat) (o : Oper) cs b, ops[j]? = some o → o.op ≠ .select cs b) (hki : k ≠ i) :
    ∀ (n : Nat) (l : Array Bool) (a : Act) (w : World), 
      (∀ j oj, ops[j]? = some oj → j ≠ i → l.getD j true = false → (∀ e ∈ oj.after, Region.binds md e = true → e.on ≠ i) → o.apart ops oj = true) →
      i ∈ Region.ready md ops l → YieldsIf P ops (fun _ => True) o v a → (l.getD k true = false → S w) → (∀ c a w, Q (.panic c) (a.put o.dst v) w → Q (.panic c) a w) →
      Till P md ops Q S k n (l.setIfInBounds i true) (a.put o.dst v) w → Till P md ops Q S k (n + 1) l a w := by
  have hread : ∀ (l : Array Bool) (j : Nat), i ∈ Region.ready md ops l → j ∈ Region.ready md ops l → j ≠ i → ∃ oj, ops[j]? = some oj ∧ l.getD j true = false ∧ ∀ e ∈ oj.after, Region.binds md e = true → e.on ≠ i := by
    intro l j hr hj hji
    obtain ⟨h0, oj, hoj, hall⟩ := mem_ready.1 hj
    have hun := (mem_ready.1 hr).1
    refine ⟨oj, hoj, h0, fun e he hb heq => ?_⟩
    have h2 := hall e he hb
    rw [heq] at h2
    rcases Nat.lt_or_ge i l.size with hlt | hge
    · rw [Array.getD_eq_getD_getElem?, Array.getElem?_eq_getElem hlt] at h2 hun
      simp only [Option.getD_some] at h2 hun
      rw [h2] at hun
      cases hun
    · rw [Array.getD_eq_getD_getElem?, Array.getElem?_eq_none hge] at h2
      cases h2
  intro n
  induction n with
  | zero =>
    intro l a w _ hr hy hS _ H
    refine ⟨fun h => (by rw [h] at hr; cases hr), fun j hj => ?_⟩
    by_cases hji : j = i
    · subst hji
      exact hy.wpOp hi trivial ⟨fun e => hS (by rwa [getD_set_ne true hki.symm] at e), H⟩
    · have := ready_mono hj hji
      rw [H.1] at this
      cases this
  | succ n ih =>
    intro l a w hfree hr hy hS hQ H
    refine ⟨fun h => (by rw [h] at hr; cases hr), fun j hj => ?_⟩
    by_cases hji : j = i
    · subst hji
      exact hy.wpOp hi trivial ⟨fun e => hS (by rwa [getD_set_ne true hki.symm] at e), H⟩
    · obtain ⟨oj, hoj, hjun, hno⟩ := hread l j hr hj hji
      have h1 := H.2 j (ready_mono hj hji)
      have h2 := wpOp_putIf (S := fun _ => True) hoj (hfree j oj hoj hji hjun hno) (fun cs b => hsel i o cs b hi) (fun cs b => hsel j oj cs b hoj) hQ hy h1
      refine wpOp_mono (fun a' w' h3 => ⟨fun e => ?_, ih (l.setIfInBounds j true) a' w' ?_ (ready_mono hr (Ne.symm hji)) h3.1 (fun e => ?_) hQ ?_⟩) h2
      · exact h3.2.1 (by rw [Array.setIfInBounds_comm _ _ (Ne.symm hji), getD_set_ne true hki.symm]; exact e)
      · intro m om hm hmi hun hn
        refine hfree m om hm hmi ?_ hn
        by_cases hjm : j = m
        · subst hjm
          exact hjun
        · rwa [getD_set_ne true hjm] at hun
      · exact h3.2.1 (by rw [Array.setIfInBounds_comm _ _ (Ne.symm hji), getD_set_ne true hki.symm]; exact e)
      · rw [Array.setIfInBounds_comm _ _ hji]
        exact h3.2.2
theorem till_pure {i : Nat} {o : Oper} {v : Value} {n : Nat} {l : Array Bool} {a : Act} {w : World} (hi0 : ops.toList[i]? = some o) (hs : Region.noSelect ops = true)
    (hf : (Region.free md ops l i && (Region.ready md ops l).contains i && decide (k ≠ i)) = true)
    (hQ : ∀ c a w, Q (.panic c) (a.put o.dst v) w → Q (.panic c) a w) (hy : YieldsIf P ops (fun _ => True) o v a) (hS : S w)
    (h : Till P md ops Q S k n (l.setIfInBounds i true) (a.put o.dst v) w) : Till P md ops Q S k (n + 1) l a w := by
  have hi : ops[i]? = some o := by rw [← hi0, Array.getElem?_toList]
  simp only [Bool.and_eq_true, decide_eq_true_eq] at hf
  obtain ⟨⟨h1, h2⟩, h5⟩ := hf
  exact till_pureAt hi (Region.noSelect_spec hs) h5 n l a w (Region.free_spec hi h1) (by simpa using h2) hy (fun _ => hS) hQ h
/-- a read that k waits for by way of m -/
theorem till_first2 {i m : Nat} {o : Oper} {v : Value} (hi : ops[i]? = some o) (hsel : ∀ (j : Nat) (o : Oper) cs b, ops[j]? = some o → o.op ≠ .select cs b) (hki : k ≠ i) (hmi : m ≠ i)
    (hm : ∃ om, ops[m]? = some om ∧ ∃ e ∈ om.after, Region.binds md e = true ∧ e.on = i) (hk : ∃ ok, ops[k]? = some ok ∧ ∃ e ∈ ok.after, Region.binds md e = true ∧ e.on = m) :
    ∀ (n : Nat) (l : Array Bool) (a : Act) (w : World), l.getD k true = false → l.getD m true = false →
      (∀ j oj, ops[j]? = some oj → j ≠ i → l.getD j true = false → (∀ e ∈ oj.after, Region.binds md e = true → e.on ≠ i) → o.apart ops oj = true) →
      i ∈ Region.ready md ops l → YieldsIf P ops S o v a → S w → (∀ c a w, Q (.panic c) (a.put o.dst v) w → Q (.panic c) a w) →
      Till P md ops Q S k n (l.setIfInBounds i true) (a.put o.dst v) w → Till P md ops Q S k (n + 1) l a w := by
  have hwait : ∀ (l : Array Bool) (x j : Nat) (oj : Oper), l.getD x true = false → ops[j]? = some oj → (∀ e ∈ oj.after, Region.binds md e = true → l.getD e.on false = true) → ∀ e ∈ oj.after, Region.binds md e = true → e.on ≠ x := by
    intro l x j oj hun hoj hall e he hb heq
    have h2 := hall e he hb
    rw [heq] at h2
    rcases Nat.lt_or_ge x l.size with hlt | hge
    · rw [Array.getD_eq_getD_getElem?, Array.getElem?_eq_getElem hlt] at h2 hun
      simp only [Option.getD_some] at h2 hun
      rw [h2] at hun
      cases hun
    · rw [Array.getD_eq_getD_getElem?, Array.getElem?_eq_none hge] at h2
      cases h2
  have hread : ∀ (l : Array Bool) (j : Nat), l.getD m true = false → i ∈ Region.ready md ops l → j ∈ Region.ready md ops l → j ≠ i → ∃ oj, ops[j]? = some oj ∧ l.getD j true = false ∧ j ≠ k ∧ j ≠ m ∧ ∀ e ∈ oj.after, Region.binds md e = true → e.on ≠ i := by
    intro l j hml hr hj hji
    obtain ⟨h0, oj, hoj, hall⟩ := mem_ready.1 hj
    have hno := hwait l i j oj (mem_ready.1 hr).1 hoj hall
    have hnm := hwait l m j oj hml hoj hall
    refine ⟨oj, hoj, h0, ?_, ?_, hno⟩
    · rintro rfl
      obtain ⟨ok, hok, e, he, hb, hon⟩ := hk
      rw [hoj] at hok
      injection hok with hok
      subst hok
      exact hnm e he hb hon
    · rintro rfl
      obtain ⟨ok, hok, e, he, hb, hon⟩ := hm
      rw [hoj] at hok
      injection hok with hok
      subst hok
      exact hno e he hb hon
  intro n
  induction n with
  | zero =>
    intro l a w hkl hml _ hr hy hS _ H
    refine ⟨fun h => (by rw [h] at hr; cases hr), fun j hj => ?_⟩
    by_cases hji : j = i
    · subst hji
      exact hy.wpOp hi hS ⟨fun _ => hS, H⟩
    · have := ready_mono hj hji
      rw [H.1] at this
      cases this
  | succ n ih =>
    intro l a w hkl hml hfree hr hy hS hQ H
    refine ⟨fun h => (by rw [h] at hr; cases hr), fun j hj => ?_⟩
    by_cases hji : j = i
    · subst hji
      exact hy.wpOp hi hS ⟨fun _ => hS, H⟩
    · obtain ⟨oj, hoj, hjun, hjk, hjm0, hno⟩ := hread l j hml hr hj hji
      have h1 := H.2 j (ready_mono hj hji)
      have h2 := wpOp_putIf hoj (hfree j oj hoj hji hjun hno) (fun cs b => hsel i o cs b hi) (fun cs b => hsel j oj cs b hoj) hQ hy h1
      have hk' : (l.setIfInBounds j true).getD k true = false := by rw [getD_set_ne true hjk]; exact hkl
      have hm' : (l.setIfInBounds j true).getD m true = false := by rw [getD_set_ne true hjm0]; exact hml
      have hk2 : ((l.setIfInBounds i true).setIfInBounds j true).getD k true = false := by rw [getD_set_ne true hjk, getD_set_ne true (Ne.symm hki)]; exact hkl
      refine wpOp_mono (fun a' w' h3 => ⟨fun _ => h3.2.1 hk2, ih (l.setIfInBounds j true) a' w' hk' hm' ?_ (ready_mono hr (Ne.symm hji)) h3.1 (h3.2.1 hk2) hQ ?_⟩) h2
      · intro q om hq hqi hun hn
        refine hfree q om hq hqi ?_ hn
        by_cases hjm : j = q
        · subst hjm
          exact hjun
        · rwa [getD_set_ne true hjm] at hun
      · rw [Array.setIfInBounds_comm _ _ hji]
        exact h3.2.2
theorem till_take2 (m : Nat) {i : Nat} {o : Oper} {v : Value} {n : Nat} {l : Array Bool} {a : Act} {w : World} (hi0 : ops.toList[i]? = some o) (hs : Region.noSelect ops = true)
    (hf : (Region.free md ops l i && (Region.ready md ops l).contains i && Region.waitsFor md ops m i && Region.waitsFor md ops k m && !(l.getD k true) && !(l.getD m true) && decide (k ≠ i) && decide (m ≠ i)) = true)
    (hQ : ∀ c a w, Q (.panic c) (a.put o.dst v) w → Q (.panic c) a w) (hy : YieldsIf P ops S o v a) (hS : S w)
    (h : Till P md ops Q S k n (l.setIfInBounds i true) (a.put o.dst v) w) : Till P md ops Q S k (n + 1) l a w := by
  have hi : ops[i]? = some o := by rw [← hi0, Array.getElem?_toList]
  simp only [Bool.and_eq_true, decide_eq_true_eq, Bool.not_eq_true'] at hf
  obtain ⟨⟨⟨⟨⟨⟨⟨h1, h2⟩, h3⟩, h4⟩, h5⟩, h6⟩, h7⟩, h8⟩ := hf
  exact till_first2 hi (Region.noSelect_spec hs) h7 h8 (Region.waitsFor_spec h3) (Region.waitsFor_spec h4) n l a w h5 h6 (Region.free_spec hi h1) (by simpa using h2) hy hS hQ h
end
end Go.Proofs.YticofobhkmabiaaGreatDoor
namespace Go.Proofs.YticofobhkmabiaaGreatDoor
open Go.Shelf
def Tryz.lays161_ren : Go.Shelf.Ren := ⟨fun | 161 => 114 | 231 => 129 | 227 => 130 | 233 => 131 | 235 => 132 | 228 => 154 | 197 => 155 | 151 => 156 | 260 => 164 | 152 => 165 | 137 => 147 | 119 => 169 | 224 => 170 | 225 => 171 | 217 => 163 | 266 => 168 | n => n, fun | 9 => 9 | 4 => 4 | 3 => 3 | 5 => 5 | 117 => 207 | 116 => 206 | 0 => 0 | 124 => 210 | 105 => 224 | 21 => 21 | 119 => 240 | 46 => 172 | 139 => 243 | 138 => 242 | n => n, fun | 3 => 17 | 4 => 18 | n => n⟩
theorem Tryz.lays161 : Go.Proofs.Lays.n161 Tryz.prog Tryz.lays161_ren := {
  mixed := by kernel_rfl
  f119 := Tryz.func169.trans (congrArg some (by kernel_rfl))
  f137 := Tryz.func147.trans (congrArg some (by kernel_rfl))
  f151 := Tryz.func156.trans (congrArg some (by kernel_rfl))
  f152 := Tryz.func165.trans (congrArg some (by kernel_rfl))
  f161 := Tryz.func114.trans (congrArg some (by kernel_rfl))
  f197 := Tryz.func155.trans (congrArg some (by kernel_rfl))
  f217 := Tryz.func163.trans (congrArg some (by kernel_rfl))
  f224 := Tryz.func170.trans (congrArg some (by kernel_rfl))
  f225 := Tryz.func171.trans (congrArg some (by kernel_rfl))
  f227 := Tryz.func130.trans (congrArg some (by kernel_rfl))
  f228 := Tryz.func154.trans (congrArg some (by kernel_rfl))
  f231 := Tryz.func129.trans (congrArg some (by kernel_rfl))
  f233 := Tryz.func131.trans (congrArg some (by kernel_rfl))
  f235 := Tryz.func132.trans (congrArg some (by kernel_rfl))
  f260 := Tryz.func164.trans (congrArg some (by kernel_rfl))
  f266 := Tryz.func168.trans (congrArg some (by kernel_rfl))
  t0 := Tryz.underlying0
  a0 := Tryz.isAgg0
  z0 := Tryz.sizeOf0
  v0 := Tryz.zeroValue0
  t3 := Tryz.underlying3
  a3 := Tryz.isAgg3
  z3 := Tryz.sizeOf3
  v3 := Tryz.zeroValue3
  t4 := Tryz.underlying4
  a4 := Tryz.isAgg4
  z4 := Tryz.sizeOf4
  v4 := Tryz.zeroValue4
  t5 := Tryz.underlying5
  a5 := Tryz.isAgg5
  z5 := Tryz.sizeOf5
  v5 := Tryz.zeroValue5
  t9 := Tryz.underlying9
  a9 := Tryz.isAgg9
  z9 := Tryz.sizeOf9
  v9 := Tryz.zeroValue9
  t21 := Tryz.underlying21
  a21 := Tryz.isAgg21
  z21 := Tryz.sizeOf21
  v21 := Tryz.zeroValue21
  t46 := Tryz.underlying172
  a46 := Tryz.isAgg172
  z46 := Tryz.sizeOf172
  v46 := Tryz.zeroValue172
  t105 := Tryz.underlying224
  a105 := Tryz.isAgg224
  z105 := Tryz.sizeOf224
  v105 := Tryz.zeroValue224
  t116 := Tryz.underlying206
  a116 := Tryz.isAgg206
  z116 := Tryz.sizeOf206
  t117 := Tryz.underlying207
  a117 := Tryz.isAgg207
  z117 := Tryz.sizeOf207
  v117 := Tryz.zeroValue207
  t119 := Tryz.underlying240
  a119 := Tryz.isAgg240
  z119 := Tryz.sizeOf240
  t124 := Tryz.underlying210
  a124 := Tryz.isAgg210
  z124 := Tryz.sizeOf210
  v124 := Tryz.zeroValue210
  t138 := Tryz.underlying242
  a138 := Tryz.isAgg242
  z138 := Tryz.sizeOf242
  v138 := Tryz.zeroValue242
  t139 := Tryz.underlying243
  a139 := Tryz.isAgg243
  z139 := Tryz.sizeOf243
  v139 := Tryz.zeroValue243
  g3 := by kernel_rfl
  g4 := by kernel_rfl }
def Tryz.lays137_ren : Go.Shelf.Ren := ⟨fun | 137 => 147 | 217 => 163 | 266 => 168 | n => n, fun | 9 => 9 | 5 => 5 | 3 => 3 | n => n, fun | n => n⟩
theorem Tryz.lays137 : Go.Proofs.Lays.n137 Tryz.prog Tryz.lays137_ren := {
  mixed := by kernel_rfl
  f137 := Tryz.func147.trans (congrArg some (by kernel_rfl))
  f217 := Tryz.func163.trans (congrArg some (by kernel_rfl))
  f266 := Tryz.func168.trans (congrArg some (by kernel_rfl))
  t3 := Tryz.underlying3
  a3 := Tryz.isAgg3
  z3 := Tryz.sizeOf3
  v3 := Tryz.zeroValue3
  t5 := Tryz.underlying5
  a5 := Tryz.isAgg5
  z5 := Tryz.sizeOf5
  v5 := Tryz.zeroValue5
  t9 := Tryz.underlying9
  a9 := Tryz.isAgg9
  z9 := Tryz.sizeOf9
  v9 := Tryz.zeroValue9 }
def Tryz.lays172_ren : Go.Shelf.Ren := ⟨fun | 172 => 101 | 244 => 117 | 245 => 118 | 247 => 133 | 279 => 134 | 280 => 135 | 281 => 136 | 282 => 137 | 287 => 119 | 316 => 157 | 171 => 88 | 205 => 158 | 321 => 138 | 322 => 139 | 243 => 105 | 246 => 121 | 283 => 140 | 284 => 141 | 285 => 142 | 286 => 143 | 129 => 120 | 317 => 159 | 318 => 160 | 319 => 161 | 320 => 162 | 337 => 166 | 338 => 167 | n => n, fun | 9 => 9 | 3 => 3 | 75 => 43 | 76 => 92 | 4 => 4 | 5 => 5 | 167 => 211 | 37 => 26 | 0 => 0 | 85 => 212 | 2 => 2 | 168 => 214 | 53 => 135 | 175 => 136 | 46 => 172 | 210 => 229 | 127 => 201 | 145 => 238 | 143 => 236 | 21 => 21 | 171 => 217 | 173 => 219 | 212 => 232 | 51 => 196 | 20 => 20 | 213 => 233 | 232 => 246 | 233 => 247 | 80 => 180 | n => n, fun | 15 => 13 | 16 => 14 | 17 => 15 | 18 => 19 | 19 => 20 | n => n⟩
theorem Tryz.lays172 : Go.Proofs.Lays.n172 Tryz.prog Tryz.lays172_ren := {
  mixed := by kernel_rfl
  f129 := Tryz.func120.trans (congrArg some (by kernel_rfl))
  f171 := Tryz.func88.trans (congrArg some (by kernel_rfl))
  f172 := Tryz.func101.trans (congrArg some (by kernel_rfl))
  f205 := Tryz.func158.trans (congrArg some (by kernel_rfl))
  f243 := Tryz.func105.trans (congrArg some (by kernel_rfl))
  f244 := Tryz.func117.trans (congrArg some (by kernel_rfl))
  f245 := Tryz.func118.trans (congrArg some (by kernel_rfl))
  f246 := Tryz.func121.trans (congrArg some (by kernel_rfl))
  f247 := Tryz.func133.trans (congrArg some (by kernel_rfl))
  f279 := Tryz.func134.trans (congrArg some (by kernel_rfl))
  f280 := Tryz.func135.trans (congrArg some (by kernel_rfl))
  f281 := Tryz.func136.trans (congrArg some (by kernel_rfl))
  f282 := Tryz.func137.trans (congrArg some (by kernel_rfl))
  f283 := Tryz.func140.trans (congrArg some (by kernel_rfl))
  f284 := Tryz.func141.trans (congrArg some (by kernel_rfl))
  f285 := Tryz.func142.trans (congrArg some (by kernel_rfl))
  f286 := Tryz.func143.trans (congrArg some (by kernel_rfl))
  f287 := Tryz.func119.trans (congrArg some (by kernel_rfl))
  f316 := Tryz.func157.trans (congrArg some (by kernel_rfl))
  f317 := Tryz.func159.trans (congrArg some (by kernel_rfl))
  f318 := Tryz.func160.trans (congrArg some (by kernel_rfl))
  f319 := Tryz.func161.trans (congrArg some (by kernel_rfl))
  f320 := Tryz.func162.trans (congrArg some (by kernel_rfl))
  f321 := Tryz.func138.trans (congrArg some (by kernel_rfl))
  f322 := Tryz.func139.trans (congrArg some (by kernel_rfl))
  f337 := Tryz.func166.trans (congrArg some (by kernel_rfl))
  f338 := Tryz.func167.trans (congrArg some (by kernel_rfl))
  t0 := Tryz.underlying0
  a0 := Tryz.isAgg0
  z0 := Tryz.sizeOf0
  v0 := Tryz.zeroValue0
  t2 := Tryz.underlying2
  a2 := Tryz.isAgg2
  z2 := Tryz.sizeOf2
  v2 := Tryz.zeroValue2
  t3 := Tryz.underlying3
  a3 := Tryz.isAgg3
  z3 := Tryz.sizeOf3
  v3 := Tryz.zeroValue3
  t4 := Tryz.underlying4
  a4 := Tryz.isAgg4
  z4 := Tryz.sizeOf4
  v4 := Tryz.zeroValue4
  t5 := Tryz.underlying5
  a5 := Tryz.isAgg5
  z5 := Tryz.sizeOf5
  v5 := Tryz.zeroValue5
  t9 := Tryz.underlying9
  a9 := Tryz.isAgg9
  z9 := Tryz.sizeOf9
  v9 := Tryz.zeroValue9
  t20 := Tryz.underlying20
  a20 := Tryz.isAgg20
  z20 := Tryz.sizeOf20
  v20 := Tryz.zeroValue20
  t21 := Tryz.underlying21
  a21 := Tryz.isAgg21
  z21 := Tryz.sizeOf21
  v21 := Tryz.zeroValue21
  t37 := Tryz.underlying26
  a37 := Tryz.isAgg26
  z37 := Tryz.sizeOf26
  v37 := Tryz.zeroValue26
  t46 := Tryz.underlying172
  a46 := Tryz.isAgg172
  z46 := Tryz.sizeOf172
  v46 := Tryz.zeroValue172
  t51 := Tryz.underlying196
  a51 := Tryz.isAgg196
  z51 := Tryz.sizeOf196
  v51 := Tryz.zeroValue196
  t53 := Tryz.underlying135
  a53 := Tryz.isAgg135
  z53 := Tryz.sizeOf135
  v53 := Tryz.zeroValue135
  t75 := Tryz.underlying43
  a75 := Tryz.isAgg43
  z75 := Tryz.sizeOf43
  v75 := Tryz.zeroValue43
  t76 := Tryz.underlying92
  a76 := Tryz.isAgg92
  z76 := Tryz.sizeOf92
  v76 := Tryz.zeroValue92
  t85 := Tryz.underlying212
  a85 := Tryz.isAgg212
  z85 := Tryz.sizeOf212
  v85 := Tryz.zeroValue212
  t127 := Tryz.underlying201
  a127 := Tryz.isAgg201
  z127 := Tryz.sizeOf201
  v127 := Tryz.zeroValue201
  t143 := Tryz.underlying236
  a143 := Tryz.isAgg236
  z143 := Tryz.sizeOf236
  v143 := Tryz.zeroValue236
  t145 := Tryz.underlying238
  a145 := Tryz.isAgg238
  z145 := Tryz.sizeOf238
  v145 := Tryz.zeroValue238
  t167 := Tryz.underlying211
  a167 := Tryz.isAgg211
  z167 := Tryz.sizeOf211
  v167 := Tryz.zeroValue211
  t168 := Tryz.underlying214
  a168 := Tryz.isAgg214
  z168 := Tryz.sizeOf214
  v168 := Tryz.zeroValue214
  t171 := Tryz.underlying217
  a171 := Tryz.isAgg217
  z171 := Tryz.sizeOf217
  v171 := Tryz.zeroValue217
  t173 := Tryz.underlying219
  a173 := Tryz.isAgg219
  z173 := Tryz.sizeOf219
  v173 := Tryz.zeroValue219
  t175 := Tryz.underlying136
  a175 := Tryz.isAgg136
  z175 := Tryz.sizeOf136
  v175 := Tryz.zeroValue136
  t210 := Tryz.underlying229
  a210 := Tryz.isAgg229
  z210 := Tryz.sizeOf229
  v210 := Tryz.zeroValue229
  t212 := Tryz.underlying232
  a212 := Tryz.isAgg232
  z212 := Tryz.sizeOf232
  v212 := Tryz.zeroValue232
  t213 := Tryz.underlying233
  a213 := Tryz.isAgg233
  z213 := Tryz.sizeOf233
  t232 := Tryz.underlying246
  a232 := Tryz.isAgg246
  z232 := Tryz.sizeOf246
  v232 := Tryz.zeroValue246
  t233 := Tryz.underlying247
  a233 := Tryz.isAgg247
  z233 := Tryz.sizeOf247
  v233 := Tryz.zeroValue247
  g15 := by kernel_rfl
  g16 := by kernel_rfl
  g17 := by kernel_rfl
  g18 := by kernel_rfl
  g19 := by kernel_rfl }
def Tryz.laysM171_ren : Go.Shelf.Ren := ⟨fun | 171 => 88 | 243 => 105 | 246 => 121 | 283 => 140 | 284 => 141 | 285 => 142 | 286 => 143 | 129 => 120 | 317 => 159 | 318 => 160 | 319 => 161 | 320 => 162 | 337 => 166 | 338 => 167 | n => n, fun | 3 => 3 | 9 => 9 | 2 => 2 | 4 => 4 | 171 => 217 | 0 => 0 | 53 => 135 | 37 => 26 | 5 => 5 | 173 => 219 | 212 => 232 | 51 => 196 | 20 => 20 | 213 => 233 | 46 => 172 | 232 => 246 | 233 => 247 | n => n, fun | 17 => 15 | 18 => 19 | 19 => 20 | n => n⟩
theorem Tryz.laysM171 : Go.Proofs.LaysM.n171 Tryz.prog Tryz.laysM171_ren := {
  mixed := by kernel_rfl
  f129 := Tryz.func120.trans (congrArg some (by kernel_rfl))
  f171 := Tryz.func88.trans (congrArg some (by kernel_rfl))
  f243 := Tryz.func105.trans (congrArg some (by kernel_rfl))
  f246 := Tryz.func121.trans (congrArg some (by kernel_rfl))
  f283 := Tryz.func140.trans (congrArg some (by kernel_rfl))
  f284 := Tryz.func141.trans (congrArg some (by kernel_rfl))
  f285 := Tryz.func142.trans (congrArg some (by kernel_rfl))
  f286 := Tryz.func143.trans (congrArg some (by kernel_rfl))
  f317 := Tryz.func159.trans (congrArg some (by kernel_rfl))
  f318 := Tryz.func160.trans (congrArg some (by kernel_rfl))
  f319 := Tryz.func161.trans (congrArg some (by kernel_rfl))
  f320 := Tryz.func162.trans (congrArg some (by kernel_rfl))
  f337 := Tryz.func166.trans (congrArg some (by kernel_rfl))
  f338 := Tryz.func167.trans (congrArg some (by kernel_rfl))
  t0 := Tryz.underlying0
  a0 := Tryz.isAgg0
  z0 := Tryz.sizeOf0
  v0 := Tryz.zeroValue0
  t2 := Tryz.underlying2
  a2 := Tryz.isAgg2
  z2 := Tryz.sizeOf2
  v2 := Tryz.zeroValue2
  t3 := Tryz.underlying3
  a3 := Tryz.isAgg3
  z3 := Tryz.sizeOf3
  v3 := Tryz.zeroValue3
  t4 := Tryz.underlying4
  a4 := Tryz.isAgg4
  z4 := Tryz.sizeOf4
  v4 := Tryz.zeroValue4
  t5 := Tryz.underlying5
  a5 := Tryz.isAgg5
  z5 := Tryz.sizeOf5
  v5 := Tryz.zeroValue5
  t9 := Tryz.underlying9
  a9 := Tryz.isAgg9
  z9 := Tryz.sizeOf9
  v9 := Tryz.zeroValue9
  t20 := Tryz.underlying20
  a20 := Tryz.isAgg20
  z20 := Tryz.sizeOf20
  v20 := Tryz.zeroValue20
  t37 := Tryz.underlying26
  a37 := Tryz.isAgg26
  z37 := Tryz.sizeOf26
  v37 := Tryz.zeroValue26
  t46 := Tryz.underlying172
  a46 := Tryz.isAgg172
  z46 := Tryz.sizeOf172
  v46 := Tryz.zeroValue172
  t51 := Tryz.underlying196
  a51 := Tryz.isAgg196
  z51 := Tryz.sizeOf196
  v51 := Tryz.zeroValue196
  t53 := Tryz.underlying135
  a53 := Tryz.isAgg135
  z53 := Tryz.sizeOf135
  v53 := Tryz.zeroValue135
  t171 := Tryz.underlying217
  a171 := Tryz.isAgg217
  z171 := Tryz.sizeOf217
  v171 := Tryz.zeroValue217
  t173 := Tryz.underlying219
  a173 := Tryz.isAgg219
  z173 := Tryz.sizeOf219
  v173 := Tryz.zeroValue219
  t212 := Tryz.underlying232
  a212 := Tryz.isAgg232
  z212 := Tryz.sizeOf232
  v212 := Tryz.zeroValue232
  t213 := Tryz.underlying233
  a213 := Tryz.isAgg233
  z213 := Tryz.sizeOf233
  t232 := Tryz.underlying246
  a232 := Tryz.isAgg246
  z232 := Tryz.sizeOf246
  v232 := Tryz.zeroValue246
  t233 := Tryz.underlying247
  a233 := Tryz.isAgg247
  z233 := Tryz.sizeOf247
  v233 := Tryz.zeroValue247
  g17 := by kernel_rfl
  g18 := by kernel_rfl
  g19 := by kernel_rfl
  i0 := by kernel_rfl
  i2 := by kernel_rfl
  i3 := by kernel_rfl
  i4 := by kernel_rfl
  i5 := by kernel_rfl
  i9 := by kernel_rfl
  i20 := by kernel_rfl
  i37 := by kernel_rfl
  i46 := by kernel_rfl
  i51 := by kernel_rfl
  i53 := by kernel_rfl
  i171 := by kernel_rfl
  i173 := by kernel_rfl
  i212 := by kernel_rfl
  i232 := by kernel_rfl
  i233 := by kernel_rfl
  m17 := by kernel_rfl
  m18 := by kernel_rfl
  m19 := by kernel_rfl }
def Tryz.lays171_ren : Go.Shelf.Ren := ⟨fun | 171 => 88 | 243 => 105 | 246 => 121 | 283 => 140 | 284 => 141 | 285 => 142 | 286 => 143 | 129 => 120 | 317 => 159 | 318 => 160 | 319 => 161 | 320 => 162 | 337 => 166 | 338 => 167 | n => n, fun | 3 => 3 | 9 => 9 | 2 => 2 | 4 => 4 | 171 => 217 | 0 => 0 | 53 => 135 | 37 => 26 | 5 => 5 | 173 => 219 | 212 => 232 | 51 => 196 | 20 => 20 | 213 => 233 | 46 => 172 | 232 => 246 | 233 => 247 | n => n, fun | 17 => 15 | 18 => 19 | 19 => 20 | n => n⟩
theorem Tryz.lays171 : Go.Proofs.Lays.n171 Tryz.prog Tryz.lays171_ren := {
  mixed := by kernel_rfl
  f129 := Tryz.func120.trans (congrArg some (by kernel_rfl))
  f171 := Tryz.func88.trans (congrArg some (by kernel_rfl))
  f243 := Tryz.func105.trans (congrArg some (by kernel_rfl))
  f246 := Tryz.func121.trans (congrArg some (by kernel_rfl))
  f283 := Tryz.func140.trans (congrArg some (by kernel_rfl))
  f284 := Tryz.func141.trans (congrArg some (by kernel_rfl))
  f285 := Tryz.func142.trans (congrArg some (by kernel_rfl))
  f286 := Tryz.func143.trans (congrArg some (by kernel_rfl))
  f317 := Tryz.func159.trans (congrArg some (by kernel_rfl))
  f318 := Tryz.func160.trans (congrArg some (by kernel_rfl))
  f319 := Tryz.func161.trans (congrArg some (by kernel_rfl))
  f320 := Tryz.func162.trans (congrArg some (by kernel_rfl))
  f337 := Tryz.func166.trans (congrArg some (by kernel_rfl))
  f338 := Tryz.func167.trans (congrArg some (by kernel_rfl))
  t0 := Tryz.underlying0
  a0 := Tryz.isAgg0
  z0 := Tryz.sizeOf0
  v0 := Tryz.zeroValue0
  t2 := Tryz.underlying2
  a2 := Tryz.isAgg2
  z2 := Tryz.sizeOf2
  v2 := Tryz.zeroValue2
  t3 := Tryz.underlying3
  a3 := Tryz.isAgg3
  z3 := Tryz.sizeOf3
  v3 := Tryz.zeroValue3
  t4 := Tryz.underlying4
  a4 := Tryz.isAgg4
  z4 := Tryz.sizeOf4
  v4 := Tryz.zeroValue4
  t5 := Tryz.underlying5
  a5 := Tryz.isAgg5
  z5 := Tryz.sizeOf5
  v5 := Tryz.zeroValue5
  t9 := Tryz.underlying9
  a9 := Tryz.isAgg9
  z9 := Tryz.sizeOf9
  v9 := Tryz.zeroValue9
  t20 := Tryz.underlying20
  a20 := Tryz.isAgg20
  z20 := Tryz.sizeOf20
  v20 := Tryz.zeroValue20
  t37 := Tryz.underlying26
  a37 := Tryz.isAgg26
  z37 := Tryz.sizeOf26
  v37 := Tryz.zeroValue26
  t46 := Tryz.underlying172
  a46 := Tryz.isAgg172
  z46 := Tryz.sizeOf172
  v46 := Tryz.zeroValue172
  t51 := Tryz.underlying196
  a51 := Tryz.isAgg196
  z51 := Tryz.sizeOf196
  v51 := Tryz.zeroValue196
  t53 := Tryz.underlying135
  a53 := Tryz.isAgg135
  z53 := Tryz.sizeOf135
  v53 := Tryz.zeroValue135
  t171 := Tryz.underlying217
  a171 := Tryz.isAgg217
  z171 := Tryz.sizeOf217
  v171 := Tryz.zeroValue217
  t173 := Tryz.underlying219
  a173 := Tryz.isAgg219
  z173 := Tryz.sizeOf219
  v173 := Tryz.zeroValue219
  t212 := Tryz.underlying232
  a212 := Tryz.isAgg232
  z212 := Tryz.sizeOf232
  v212 := Tryz.zeroValue232
  t213 := Tryz.underlying233
  a213 := Tryz.isAgg233
  z213 := Tryz.sizeOf233
  t232 := Tryz.underlying246
  a232 := Tryz.isAgg246
  z232 := Tryz.sizeOf246
  v232 := Tryz.zeroValue246
  t233 := Tryz.underlying247
  a233 := Tryz.isAgg247
  z233 := Tryz.sizeOf247
  v233 := Tryz.zeroValue247
  g17 := by kernel_rfl
  g18 := by kernel_rfl
  g19 := by kernel_rfl }
def Tryz.laysC172_ren : Go.Shelf.Ren := ⟨fun | 172 => 101 | 244 => 117 | 245 => 118 | 247 => 133 | 279 => 134 | 280 => 135 | 281 => 136 | 282 => 137 | 287 => 119 | 316 => 157 | 171 => 88 | 205 => 158 | 321 => 138 | 322 => 139 | 243 => 105 | 246 => 121 | 283 => 140 | 284 => 141 | 285 => 142 | 286 => 143 | 129 => 120 | 317 => 159 | 318 => 160 | 319 => 161 | 320 => 162 | 337 => 166 | 338 => 167 | n => n, fun | 9 => 9 | 3 => 3 | 75 => 43 | 76 => 92 | 4 => 4 | 5 => 5 | 167 => 211 | 37 => 26 | 0 => 0 | 85 => 212 | 2 => 2 | 168 => 214 | 53 => 135 | 175 => 136 | 46 => 172 | 210 => 229 | 127 => 201 | 145 => 238 | 143 => 236 | 21 => 21 | 171 => 217 | 173 => 219 | 212 => 232 | 51 => 196 | 20 => 20 | 213 => 233 | 232 => 246 | 233 => 247 | 80 => 180 | n => n, fun | 15 => 13 | 16 => 14 | 17 => 15 | 18 => 19 | 19 => 20 | n => n⟩
theorem Tryz.laysC172 : Go.Proofs.LaysC.n172 Tryz.prog Tryz.laysC172_ren := {
  mixed := by kernel_rfl
  f129 := Tryz.func120.trans (congrArg some (by kernel_rfl))
  f171 := Tryz.func88.trans (congrArg some (by kernel_rfl))
  f172 := Tryz.func101.trans (congrArg some (by kernel_rfl))
  f205 := Tryz.func158.trans (congrArg some (by kernel_rfl))
  f243 := Tryz.func105.trans (congrArg some (by kernel_rfl))
  f244 := Tryz.func117.trans (congrArg some (by kernel_rfl))
  f245 := Tryz.func118.trans (congrArg some (by kernel_rfl))
  f246 := Tryz.func121.trans (congrArg some (by kernel_rfl))
  f247 := Tryz.func133.trans (congrArg some (by kernel_rfl))
  f279 := Tryz.func134.trans (congrArg some (by kernel_rfl))
  f280 := Tryz.func135.trans (congrArg some (by kernel_rfl))
  f281 := Tryz.func136.trans (congrArg some (by kernel_rfl))
  f282 := Tryz.func137.trans (congrArg some (by kernel_rfl))
  f283 := Tryz.func140.trans (congrArg some (by kernel_rfl))
  f284 := Tryz.func141.trans (congrArg some (by kernel_rfl))
  f285 := Tryz.func142.trans (congrArg some (by kernel_rfl))
  f286 := Tryz.func143.trans (congrArg some (by kernel_rfl))
  f287 := Tryz.func119.trans (congrArg some (by kernel_rfl))
  f316 := Tryz.func157.trans (congrArg some (by kernel_rfl))
  f317 := Tryz.func159.trans (congrArg some (by kernel_rfl))
  f318 := Tryz.func160.trans (congrArg some (by kernel_rfl))
  f319 := Tryz.func161.trans (congrArg some (by kernel_rfl))
  f320 := Tryz.func162.trans (congrArg some (by kernel_rfl))
  f321 := Tryz.func138.trans (congrArg some (by kernel_rfl))
  f322 := Tryz.func139.trans (congrArg some (by kernel_rfl))
  f337 := Tryz.func166.trans (congrArg some (by kernel_rfl))
  f338 := Tryz.func167.trans (congrArg some (by kernel_rfl))
  t0 := Tryz.underlying0
  a0 := Tryz.isAgg0
  z0 := Tryz.sizeOf0
  v0 := Tryz.zeroValue0
  t2 := Tryz.underlying2
  a2 := Tryz.isAgg2
  z2 := Tryz.sizeOf2
  v2 := Tryz.zeroValue2
  t3 := Tryz.underlying3
  a3 := Tryz.isAgg3
  z3 := Tryz.sizeOf3
  v3 := Tryz.zeroValue3
  t4 := Tryz.underlying4
  a4 := Tryz.isAgg4
  z4 := Tryz.sizeOf4
  v4 := Tryz.zeroValue4
  t5 := Tryz.underlying5
  a5 := Tryz.isAgg5
  z5 := Tryz.sizeOf5
  v5 := Tryz.zeroValue5
  t9 := Tryz.underlying9
  a9 := Tryz.isAgg9
  z9 := Tryz.sizeOf9
  v9 := Tryz.zeroValue9
  t20 := Tryz.underlying20
  a20 := Tryz.isAgg20
  z20 := Tryz.sizeOf20
  v20 := Tryz.zeroValue20
  t21 := Tryz.underlying21
  a21 := Tryz.isAgg21
  z21 := Tryz.sizeOf21
  v21 := Tryz.zeroValue21
  t37 := Tryz.underlying26
  a37 := Tryz.isAgg26
  z37 := Tryz.sizeOf26
  v37 := Tryz.zeroValue26
  t46 := Tryz.underlying172
  a46 := Tryz.isAgg172
  z46 := Tryz.sizeOf172
  v46 := Tryz.zeroValue172
  t51 := Tryz.underlying196
  a51 := Tryz.isAgg196
  z51 := Tryz.sizeOf196
  v51 := Tryz.zeroValue196
  t53 := Tryz.underlying135
  a53 := Tryz.isAgg135
  z53 := Tryz.sizeOf135
  v53 := Tryz.zeroValue135
  t75 := Tryz.underlying43
  a75 := Tryz.isAgg43
  z75 := Tryz.sizeOf43
  v75 := Tryz.zeroValue43
  t76 := Tryz.underlying92
  a76 := Tryz.isAgg92
  z76 := Tryz.sizeOf92
  v76 := Tryz.zeroValue92
  t85 := Tryz.underlying212
  a85 := Tryz.isAgg212
  z85 := Tryz.sizeOf212
  v85 := Tryz.zeroValue212
  t127 := Tryz.underlying201
  a127 := Tryz.isAgg201
  z127 := Tryz.sizeOf201
  v127 := Tryz.zeroValue201
  t143 := Tryz.underlying236
  a143 := Tryz.isAgg236
  z143 := Tryz.sizeOf236
  v143 := Tryz.zeroValue236
  t145 := Tryz.underlying238
  a145 := Tryz.isAgg238
  z145 := Tryz.sizeOf238
  v145 := Tryz.zeroValue238
  t167 := Tryz.underlying211
  a167 := Tryz.isAgg211
  z167 := Tryz.sizeOf211
  v167 := Tryz.zeroValue211
  t168 := Tryz.underlying214
  a168 := Tryz.isAgg214
  z168 := Tryz.sizeOf214
  v168 := Tryz.zeroValue214
  t171 := Tryz.underlying217
  a171 := Tryz.isAgg217
  z171 := Tryz.sizeOf217
  v171 := Tryz.zeroValue217
  t173 := Tryz.underlying219
  a173 := Tryz.isAgg219
  z173 := Tryz.sizeOf219
  v173 := Tryz.zeroValue219
  t175 := Tryz.underlying136
  a175 := Tryz.isAgg136
  z175 := Tryz.sizeOf136
  v175 := Tryz.zeroValue136
  t210 := Tryz.underlying229
  a210 := Tryz.isAgg229
  z210 := Tryz.sizeOf229
  v210 := Tryz.zeroValue229
  t212 := Tryz.underlying232
  a212 := Tryz.isAgg232
  z212 := Tryz.sizeOf232
  v212 := Tryz.zeroValue232
  t213 := Tryz.underlying233
  a213 := Tryz.isAgg233
  z213 := Tryz.sizeOf233
  t232 := Tryz.underlying246
  a232 := Tryz.isAgg246
  z232 := Tryz.sizeOf246
  v232 := Tryz.zeroValue246
  t233 := Tryz.underlying247
  a233 := Tryz.isAgg247
  z233 := Tryz.sizeOf247
  v233 := Tryz.zeroValue247
  g15 := by kernel_rfl
  g16 := by kernel_rfl
  g17 := by kernel_rfl
  g18 := by kernel_rfl
  g19 := by kernel_rfl
  t80 := Tryz.underlying180
  a80 := Tryz.isAgg180
  z80 := Tryz.sizeOf180
  v80 := Tryz.zeroValue180
  i0 := by kernel_rfl
  i2 := by kernel_rfl
  i3 := by kernel_rfl
  i4 := by kernel_rfl
  i5 := by kernel_rfl
  i9 := by kernel_rfl
  i20 := by kernel_rfl
  i21 := by kernel_rfl
  i37 := by kernel_rfl
  i46 := by kernel_rfl
  i51 := by kernel_rfl
  i53 := by kernel_rfl
  i75 := by kernel_rfl
  i76 := by kernel_rfl
  i80 := by kernel_rfl
  i85 := by kernel_rfl
  i127 := by kernel_rfl
  i143 := by kernel_rfl
  i145 := by kernel_rfl
  i167 := by kernel_rfl
  i168 := by kernel_rfl
  i171 := by kernel_rfl
  i173 := by kernel_rfl
  i175 := by kernel_rfl
  i210 := by kernel_rfl
  i212 := by kernel_rfl
  i232 := by kernel_rfl
  i233 := by kernel_rfl
  m15 := by kernel_rfl
  m16 := by kernel_rfl
  m17 := by kernel_rfl
  m18 := by kernel_rfl
  m19 := by kernel_rfl
  c0 := by kernel_rfl
  c2 := by kernel_rfl
  c3 := by kernel_rfl
  c4 := by kernel_rfl
  c5 := by kernel_rfl
  c9 := by kernel_rfl
  c20 := by kernel_rfl
  c21 := by kernel_rfl
  c37 := by kernel_rfl
  c46 := by kernel_rfl
  c51 := by kernel_rfl
  c53 := by kernel_rfl
  c75 := by kernel_rfl
  c76 := by kernel_rfl
  c80 := by kernel_rfl
  c85 := by kernel_rfl
  c127 := by kernel_rfl
  c143 := by kernel_rfl
  c145 := by kernel_rfl
  c167 := by kernel_rfl
  c168 := by kernel_rfl
  c171 := by kernel_rfl
  c173 := by kernel_rfl
  c175 := by kernel_rfl
  c210 := by kernel_rfl
  c212 := by kernel_rfl
  c213 := by kernel_rfl
  c232 := by kernel_rfl
  c233 := by kernel_rfl }
def Tryz.lays105_ren : Go.Shelf.Ren := ⟨fun | 105 => 89 | 212 => 106 | 99 => 107 | 165 => 108 | 166 => 109 | 170 => 110 | 169 => 111 | 263 => 122 | 264 => 123 | 206 => 95 | 240 => 124 | 241 => 125 | 276 => 144 | 277 => 145 | n => n, fun | 9 => 9 | 3 => 3 | 4 => 4 | 20 => 20 | 0 => 0 | 46 => 172 | 109 => 173 | 5 => 5 | 72 => 177 | 76 => 92 | 51 => 196 | 146 => 197 | 53 => 135 | 148 => 199 | 70 => 175 | 37 => 26 | 75 => 43 | 127 => 201 | 164 => 111 | 80 => 180 | n => n, fun | n => n⟩
theorem Tryz.lays105 : Go.Proofs.Lays.n105 Tryz.prog Tryz.lays105_ren := {
  mixed := by kernel_rfl
  f99 := Tryz.func107.trans (congrArg some (by kernel_rfl))
  f105 := Tryz.func89.trans (congrArg some (by kernel_rfl))
  f165 := Tryz.func108.trans (congrArg some (by kernel_rfl))
  f166 := Tryz.func109.trans (congrArg some (by kernel_rfl))
  f169 := Tryz.func111.trans (congrArg some (by kernel_rfl))
  f170 := Tryz.func110.trans (congrArg some (by kernel_rfl))
  f206 := Tryz.func95.trans (congrArg some (by kernel_rfl))
  f212 := Tryz.func106.trans (congrArg some (by kernel_rfl))
  f240 := Tryz.func124.trans (congrArg some (by kernel_rfl))
  f241 := Tryz.func125.trans (congrArg some (by kernel_rfl))
  f263 := Tryz.func122.trans (congrArg some (by kernel_rfl))
  f264 := Tryz.func123.trans (congrArg some (by kernel_rfl))
  f276 := Tryz.func144.trans (congrArg some (by kernel_rfl))
  f277 := Tryz.func145.trans (congrArg some (by kernel_rfl))
  t0 := Tryz.underlying0
  a0 := Tryz.isAgg0
  z0 := Tryz.sizeOf0
  v0 := Tryz.zeroValue0
  t3 := Tryz.underlying3
  a3 := Tryz.isAgg3
  z3 := Tryz.sizeOf3
  v3 := Tryz.zeroValue3
  t4 := Tryz.underlying4
  a4 := Tryz.isAgg4
  z4 := Tryz.sizeOf4
  v4 := Tryz.zeroValue4
  t5 := Tryz.underlying5
  a5 := Tryz.isAgg5
  z5 := Tryz.sizeOf5
  v5 := Tryz.zeroValue5
  t9 := Tryz.underlying9
  a9 := Tryz.isAgg9
  z9 := Tryz.sizeOf9
  v9 := Tryz.zeroValue9
  t20 := Tryz.underlying20
  a20 := Tryz.isAgg20
  z20 := Tryz.sizeOf20
  v20 := Tryz.zeroValue20
  t37 := Tryz.underlying26
  a37 := Tryz.isAgg26
  z37 := Tryz.sizeOf26
  v37 := Tryz.zeroValue26
  t46 := Tryz.underlying172
  a46 := Tryz.isAgg172
  z46 := Tryz.sizeOf172
  v46 := Tryz.zeroValue172
  t51 := Tryz.underlying196
  a51 := Tryz.isAgg196
  z51 := Tryz.sizeOf196
  v51 := Tryz.zeroValue196
  t53 := Tryz.underlying135
  a53 := Tryz.isAgg135
  z53 := Tryz.sizeOf135
  v53 := Tryz.zeroValue135
  t70 := Tryz.underlying175
  a70 := Tryz.isAgg175
  z70 := Tryz.sizeOf175
  v70 := Tryz.zeroValue175
  t72 := Tryz.underlying177
  a72 := Tryz.isAgg177
  z72 := Tryz.sizeOf177
  v72 := Tryz.zeroValue177
  t75 := Tryz.underlying43
  a75 := Tryz.isAgg43
  z75 := Tryz.sizeOf43
  v75 := Tryz.zeroValue43
  t76 := Tryz.underlying92
  a76 := Tryz.isAgg92
  z76 := Tryz.sizeOf92
  v76 := Tryz.zeroValue92
  t109 := Tryz.underlying173
  a109 := Tryz.isAgg173
  z109 := Tryz.sizeOf173
  v109 := Tryz.zeroValue173
  t127 := Tryz.underlying201
  a127 := Tryz.isAgg201
  z127 := Tryz.sizeOf201
  v127 := Tryz.zeroValue201
  t146 := Tryz.underlying197
  a146 := Tryz.isAgg197
  z146 := Tryz.sizeOf197
  v146 := Tryz.zeroValue197
  t148 := Tryz.underlying199
  a148 := Tryz.isAgg199
  z148 := Tryz.sizeOf199
  v148 := Tryz.zeroValue199
  t164 := Tryz.underlying111
  a164 := Tryz.isAgg111
  z164 := Tryz.sizeOf111
  v164 := Tryz.zeroValue111 }
theorem Tryz.Builder_Extra_105 : Builder.Extra Tryz.prog Tryz.lays105_ren := {
  sizeBuilder := by kernel_rfl
  liesBuilder := by kernel_rfl
  t5 := Tryz.underlying5
  a5 := Tryz.isAgg5
  z5 := Tryz.sizeOf5
  v5 := Tryz.zeroValue5
  infoByte := by kernel_rfl
  cellsByte := by kernel_rfl
  sizeByte := by kernel_rfl
  neB5 := by decide }
def Tryz.laysSlK4_ren : Go.Shelf.Ren := ⟨fun | 4 => 91 | n => n, fun | 22 => 26 | 4 => 4 | 5 => 5 | n => n, fun | n => n⟩
theorem Tryz.laysSlK4 : Go.Proofs.SlLaysK.n4 Tryz.prog Tryz.laysSlK4_ren := {
  mixed := by kernel_rfl
  f4 := Tryz.func91.trans (congrArg some (by kernel_rfl))
  t4 := Tryz.underlying4
  a4 := Tryz.isAgg4
  z4 := Tryz.sizeOf4
  v4 := Tryz.zeroValue4
  t22 := Tryz.underlying26
  a22 := Tryz.isAgg26
  z22 := Tryz.sizeOf26
  v22 := Tryz.zeroValue26
  t5 := Tryz.underlying5
  i5 := by kernel_rfl }
end Go.Proofs.YticofobhkmabiaaGreatDoor
namespace Go.Proofs.YticofobhkmabiaaGreatDoor
open Go.RowKit
open Fdd
set_option linter.unusedVariables false
def ascii (l : List UInt8) : Prop := ∀ (j : Nat) b, l[j]? = some b → b.toNat < 128
theorem trim_only : ∀ (l cs : List UInt8), (Lib.trimLeftS l cs == []) = onlyOf l cs
  | [], cs => rfl
  | a :: l, cs => by
    unfold Lib.trimLeftS onlyOf
    rw [List.dropWhile_cons, List.all_cons]
    by_cases h : cs.contains a
    · have ih := trim_only l cs
      unfold Lib.trimLeftS onlyOf at ih
      rw [if_pos h, h, ih, Bool.true_and]
    · rw [if_neg h]
      simp only [Bool.not_eq_true] at h
      rw [h]
      simp
theorem only_walk (l cs : List UInt8) (hc : cs.length < 100) (ha : ascii cs) (w : World) :
    Calls Tryz.prog 98 #[strV l, strV cs] w fun e w' => e = .returned (.bool (onlyOf l cs)) ∧ Turn nowhere w w' := by
  go_enter Tryz.func98, Tryz.ntmps98
  go_wp2_with (go_at_call 114; refine (Any.strings_TrimLeft_laid Tryz.lays161 (by kernel_rfl) ⟨l.toArray⟩ ⟨cs.toArray⟩ _ (by rw [str_size]; omega) ha).mono ?_; rintro e w1 ⟨rfl, hb⟩)
  go_ret
  refine ⟨ret_bool ?_, Turn.of_below hb (Nat.le_refl _)⟩
  rw [← trim_only]
  cases Lib.trimLeftS l cs <;> rfl
def fmV (f : Fm) : Value := .agg #[.int .i64 f.kind, .int .i64 f.size, .int .i64 f.code]
def fmC (f : Fm) : Array Value := #[.int .i64 f.kind, .int .i64 f.size, .int .i64 f.code]
theorem mayBe_walk (f : Fm) (w : World) :
    Calls Tryz.prog 74 #[fmV f] w fun e w' => e = .returned (.bool f.may) ∧ Turn nowhere w w' := by
  obtain ⟨k, s, c⟩ := f
  unfold fmV
  go_enter Tryz.func74, Tryz.ntmps74
  go_wp2
  all_goals (try go_ret)
  all_goals
    refine ⟨ret_bool ?_, (Turn.refl _ w).alloc _⟩
    simp only [beq_iff_eq, beq_eq_false_iff_ne, ne_eq] at *
    rw [Bool.eq_iff_iff]
    simp only [Fm.may, Bool.and_eq_true, decide_eq_true_eq, Bool.false_eq_true]
    refine ⟨fun h => ?_, fun h => ?_⟩ <;> (try dsimp only at h ⊢) <;> omega
end Go.Proofs.YticofobhkmabiaaGreatDoor
namespace Go.Proofs.YticofobhkmabiaaGreatDoor
open Go.RowKit
theorem splice_at : ∀ (l : List Value) (k off : Nat) (cells : Array Value), ((l.zipIdx k).foldl (fun cs (x : Value × Nat) => cs.setIfInBounds (off + x.2) x.1) cells).size = cells.size ∧
    ∀ j, ((l.zipIdx k).foldl (fun cs (x : Value × Nat) => cs.setIfInBounds (off + x.2) x.1) cells)[j]? = if off + k ≤ j ∧ j < off + k + l.length ∧ j < cells.size then l[j - (off + k)]? else cells[j]?
  | [], k, off, cells => ⟨rfl, fun j => by
      rw [if_neg (by simp; omega)]
      rfl⟩
  | v :: r, k, off, cells => by
    simp only [List.zipIdx_cons, List.foldl_cons]
    obtain ⟨h1, h2⟩ := splice_at r (k + 1) off (cells.setIfInBounds (off + k) v)
    refine ⟨by rw [h1, Array.size_setIfInBounds], fun j => ?_⟩
    rw [h2, Array.size_setIfInBounds, List.length_cons]
    by_cases e : j = off + k
    · subst e
      rw [if_neg (by omega), Array.getElem?_setIfInBounds]
      by_cases hs : off + k < cells.size
      · rw [if_pos rfl, if_pos hs, if_pos ⟨by omega, by omega, hs⟩, Nat.sub_self]
        rfl
      · rw [if_pos rfl, if_neg hs, if_neg (by omega), Array.getElem?_eq_none (by omega)]
    · by_cases c : off + (k + 1) ≤ j ∧ j < off + (k + 1) + r.length ∧ j < cells.size
      · rw [if_pos c, if_pos ⟨by omega, by omega, c.2.2⟩, show j - (off + k) = (j - (off + (k + 1))) + 1 from by omega, List.getElem?_cons_succ]
      · rw [if_neg c, Array.getElem?_setIfInBounds, if_neg (fun h => e h.symm)]
        rw [if_neg (by omega)]
theorem splice_all (vs cells : Array Value) (h : vs.size = cells.size) : vs.zipIdx.foldl (fun cs (x : Value × Nat) => cs.setIfInBounds (0 + x.2) x.1) cells = vs := by
  have hz : vs.zipIdx = (vs.toList.zipIdx 0).toArray := by
    apply Array.ext'
    simp [Array.toList_zipIdx]
  rw [hz, List.foldl_toArray]
  obtain ⟨h1, h2⟩ := splice_at vs.toList 0 0 cells
  apply Array.ext_getElem?
  intro j
  rw [h2]
  by_cases hj : j < vs.size
  · rw [if_pos ⟨by omega, by simpa using hj, by omega⟩]
    simp
  · rw [if_neg (by simp; omega), Array.getElem?_eq_none (by omega), Array.getElem?_eq_none (by omega)]
theorem run_buildSlice_one {P : Program} {t e : TypeId} {i : TypeInfo} {z v : Value} (ht : P.underlying t = some (.slice e)) (hi : P.info? e = some i) (hz : i.zero = some z) (hs : v.cells.size = i.size) (hzs : z.cells.size = i.size)
    (h0 : 0 < i.size) (hsm : i.size ≤ 16777216) (w : World) :
    (Instr.buildSlice t 1 #[(0, v)]).run P w = .ok (.slice (some ⟨w.heap.size, 0, none⟩) 1 1) (w.alloc (.cells v.cells e)) := by
  have hfill : Instr.fill (fun j => some (j * i.size, i.size)) ((Array.range (1 * i.size)).map (z.cells[· % z.cells.size]!)) [(0, v)] = some v.cells := by
    unfold Instr.fill
    simp only [Nat.zero_mul, hs, Nat.one_mul, Array.size_map, Array.size_range, Nat.zero_add]
    rw [if_neg (by simp)]
    unfold Instr.fill
    congr 1
    have := splice_all v.cells (Array.map (fun x => z.cells[x % z.cells.size]!) (Array.range i.size)) (by simp [hs])
    simpa using this
  have g1 : ¬ (16777216 < i.size) := by omega
  have g2 : i.size ≠ 0 := by omega
  simp only [Nat.one_mul] at hfill
  simp [Instr.buildSlice, run_underlying ht, sizeOf, typeInfo, zeroValue, hi, hz, g1, g2, hfill, newRow]
theorem wpList_buildSlice_one {P : Program} {ops : Array Oper} {rest : List Oper} {o : Oper} {a : Act} {w : World} {Q : Exit → Act → World → Prop} (hgd : Region.wanted o (yielded ops a.tmps) = true) (x : Operand) (t : TypeId)
    (ho : o.op = Op.buildSlice t 1 #[(0, x)]) (v : Value) (hx : a.eval x = v) {e : TypeId} {i : TypeInfo} {z : Value} (ht : P.underlying t = some (.slice e)) (hi : P.info? e = some i) (hz : i.zero = some z) (hs : v.cells.size = i.size)
    (hzs : z.cells.size = i.size) (h0 : 0 < i.size) (hsm : i.size ≤ 16777216)
    (h : wpList P ops Q rest (a.put o.dst (.slice (some ⟨w.heap.size, 0, none⟩) 1 1)) (w.alloc (.cells v.cells e))) : wpList P ops Q (o :: rest) a w :=
  wpList_step fun K hK => by
    rw [if_pos hgd]
    unfold Oper.wp execOp
    simp only [ho, List.map_toArray, List.map_cons, List.map_nil, hx, run_buildSlice_one ht hi hz hs hzs h0 hsm w, Sem.run_bind, Sem.run_pure, Result.andThen_ok]
    exact hK _ _ h
end Go.Proofs.YticofobhkmabiaaGreatDoor
namespace Go.Proofs.YticofobhkmabiaaGreatDoor
open Go.RowKit
open Fdd
set_option linter.unusedVariables false
theorem dbl (n : Nat) (h : n ≤ 64) : IntKind.i64.wrap (2 * (n : Int)) = ((2 * n : Nat) : Int) := by
  rw [IntKind.wrap_i64]
  omega
def rowV (r : Rw) : List Value := [strV r.d, strV r.h, strV r.s, strV r.m]
def RowsT (w : World) : Prop := ∀ k, k < 4 → w.rangeAt 12 (k * 4) (rowV (rws k))
theorem RowsT.turn {w w' : World} (h : RowsT w) (ht : Turn nowhere w w') : RowsT w' := fun k hk j v hv => by
  have := h k hk j v hv
  rw [ht.cell (World.block_lt_of_cell? _ _ this) (fun e => e)]
  exact this
def ptC (p : Pt) : List Value := [.int .i64 (p.n : Int), strV p.chars, strV p.stands]
def ptsC (ps : List Pt) : List Value := ps.flatMap ptC
/-- a list of parts in memory -/
def PtsAt (w : World) (g : Nat) (ps : List Pt) : Prop := ∃ cs, Blk w g 167 cs ∧ ∀ i p, ps[i]? = some p → ∀ j v, (ptC p)[j]? = some v → cs[i * 3 + j]? = some v
theorem PtsAt.turn {F : Nat → Prop} {w w' : World} {g : Nat} {ps : List Pt} (h : PtsAt w g ps) (ht : Turn F w w') (hn : ¬ F g) : PtsAt w' g ps := by
  obtain ⟨cs, h1, h2⟩ := h
  exact ⟨cs, h1.turn ht hn, h2⟩
theorem PtsAt.range {w : World} {g : Nat} {ps : List Pt} (h : PtsAt w g ps) {i : Nat} {p : Pt} (hp : ps[i]? = some p) : w.rangeAt g (i * 3) (ptC p) := by
  obtain ⟨cs, h1, h2⟩ := h
  intro j v hv
  exact (h1.cell _).trans (h2 i p hp j v hv)
theorem info_part : (Tryz.prog.info? 167).map (fun i => (i.zero, i.size, i.bytes)) = some (some (.agg #[.int .i64 0, .string ByteArray.empty, .string ByteArray.empty]), 3, 40) := by kernel_rfl
theorem build_part (z : Int) (a b : ByteArray) (W : World) : (Instr.build 167 #[(0, .int .i64 z), (1, .string a), (2, .string b)]).run Tryz.prog W = .ok (.agg #[.int .i64 z, .string a, .string b]) W := by kernel_rfl
theorem exec_build3 {P : Program} {a : Act} {o : Oper} {t : TypeId} {x y z : Operand} {u v q r : Value} {W : World} (ho : o.op = .build t #[(0, x), (1, y), (2, z)]) (hx : a.eval x = u) (hy : a.eval y = v) (hz : a.eval z = q)
    (h : (Instr.build t #[(0, u), (1, v), (2, q)]).run P W = .ok r W) : (execOp a.eval o).run P W = .ok (.value r) W := by
  unfold execOp
  simp only [ho, List.map_toArray, List.map_cons, List.map_nil, hx, hy, hz, h, Sem.run_bind, Sem.run_pure, Result.andThen_ok]
theorem add_part {W1 w : World} {v : Value} {n : Nat} {xs : List Value} (hown : w.ownsRow W1.heap.size 167 3 v n xs) (hT : Turn nowhere W1 w) (hn : n < 10) (p : Pt) :
    ∃ v' w', (Builtin.append_ #[146, 146] 146 #[v, .slice (some ⟨w.heap.size, 0, none⟩) 1 1]).run Tryz.prog (w.alloc (.cells (ptC p).toArray 167)) = .ok v' w' ∧
      w'.ownsRow W1.heap.size 167 3 v' (n + 1) (xs ++ ptC p) ∧ Turn nowhere W1 w' := by
  obtain ⟨i0, hi0, hz0, hz1, hz2⟩ := info_parts info_part
  obtain ⟨v', w', h1, h2, h3, _, _⟩ := run_append_own_at (P := Tryz.prog) (w.alloc (.cells (ptC p).toArray 167)) W1.heap.size 146 146 167 i0 _ 3 40 Tryz.underlying146 hi0 hz0 hz1 hz2
    rfl (by omega) v n xs (hown.alloc _) ⟨w.heap.size, 0, none⟩ 1 1 (ptC p) rfl (fun j u hj => by
      rw [add_nat, Nat.zero_add, (Blk.new w 167 (ptC p).toArray).cell j]
      simpa using hj) (by simp [ptC, strV, Value.oneCell']) (by unfold maxLen; omega) (by omega) (by have := hT.size; simp; omega)
  refine ⟨v', w', h1, h2, (hT.alloc _).grown h3 fun b e hb => ?_⟩
  have := (hown.lt b e).1
  omega
theorem own_pts {w : World} {B n : Nat} {v : Value} {ps : List Pt} (h : w.ownsRow B 167 3 v n (ptsC ps)) (hn : ps.length = n) (h0 : 0 < n) : ∃ g c, v = .slice (some ⟨g, 0, none⟩) n c ∧ PtsAt w g ps := by
  obtain ⟨hlt, h2⟩ := id h
  rcases h2 with ⟨e, h0'⟩ | ⟨g, cap, cur, rfl, hb, hg, _⟩
  · omega
  · refine ⟨g, cap, rfl, cur, hg, fun i p hp j v hv => ?_⟩
    have hc := World.ownsRow.cells (g := g) h rfl (i * 3 + j) v (by
      have key : ∀ (ps : List Pt) (i : Nat) (p : Pt) (j : Nat) (v : Value), ps[i]? = some p → (ptC p)[j]? = some v → (ptsC ps)[i * 3 + j]? = some v := by
        intro ps
        induction ps with
        | nil => intro i p j v h _; simp at h
        | cons q r ih =>
          intro i p j v h hj
          have hj3 : j < 3 := by
            have := (List.getElem?_eq_some_iff.1 hj).1
            simpa [ptC] using this
          unfold ptsC
          rw [List.flatMap_cons]
          cases i with
          | zero =>
            simp only [List.getElem?_cons_zero, Option.some.injEq] at h
            subst h
            rw [List.getElem?_append_left (by simp [ptC]; omega)]
            simpa using hj
          | succ i =>
            rw [List.getElem?_append_right (by simp [ptC]; omega)]
            have e : (i + 1) * 3 + j - (ptC q).length = i * 3 + j := by simp [ptC]; omega
            rw [e]
            exact ih i p j v (by simpa using h) hj
      exact key ps i p j v hp hv)
    rw [add_nat, Nat.zero_add] at hc
    exact ((Blk.cell (show Blk w g 167 cur from hg) (i * 3 + j)).symm.trans hc)
theorem own_form {w : World} {B : Nat} {e : TypeId} {sz n : Nat} {v : Value} {xs : List Value} (h : w.ownsRow B e sz v n xs) : ∃ A c, v = .slice A n c := by
  rcases h.2 with ⟨rfl, h0⟩ | ⟨g, cap, cur, rfl, _⟩
  · subst h0
    exact ⟨none, 0, rfl⟩
  · exact ⟨_, _, rfl⟩
theorem exec_alloc {P : Program} {a : Act} {o : Oper} {t : TypeId} {cs : Array Value} {W : World} (ho : o.op = .alloc t) (hz : (zeroValue t).run P W = .ok (.agg cs) W) :
    (execOp a.eval o).run P W = .ok (.value (.pointer (some ⟨W.heap.size, 0, none⟩))) (W.alloc (.cells cs t)) := by
  unfold execOp
  simp only [ho]
  simp [hz, Instr.alloc, Result.andThen, newVar, newRow, Value.cells]
theorem zero_row (w : World) : (zeroValue 189).run Tryz.prog w = .ok (.agg #[.string ByteArray.empty, .string ByteArray.empty, .string ByteArray.empty, .string ByteArray.empty]) w := by kernel_rfl
theorem size_row : (Tryz.prog.info? 189).map (·.size) = some 4 := by kernel_rfl
set_option maxRecDepth 20000 in
set_option maxHeartbeats 1000000 in
theorem parts_walk (k : Int) (s : Int) (c n : Nat) (w : World) (hk : 1 ≤ k ∧ k ≤ 5) (hc : c < 4) (hn : n ≤ 64) (hr : RowsT w) :
    Calls Tryz.prog 94 #[fmV ⟨k, s, (c : Int)⟩, .int .i64 (n : Int)] w fun e w' => ∃ g cap, e = .returned (.slice (some ⟨g, 0, none⟩) (ptsOf k (c : Int) n).length cap) ∧ PtsAt w' g (ptsOf k (c : Int) n) ∧ Turn nowhere w w' := by
  unfold fmV
  obtain ⟨i0, hi0, hz0, hz1, hz2⟩ := info_parts info_part
  go_enter Tryz.func94, Tryz.ntmps94
  go_upto_region 1 with fail
  have hb0 := Blk.new w 49 #[.int .i64 k, .int .i64 s, .int .i64 (c : Int)]
  have ht0 := (Turn.refl nowhere w).alloc (.cells #[.int .i64 k, .int .i64 s, .int .i64 (c : Int)] 49)
  generalize (w.alloc (.cells #[.int .i64 k, .int .i64 s, .int .i64 (c : Int)] 49)) = w0 at *
  obtain ⟨b2, hb2⟩ : ∃ b2, b2 = w.heap.size := ⟨_, rfl⟩
  rw [← hb2] at hb0 ⊢
  have hrow := (hr.turn ht0) c hc
  have HN := Lib.hid hn
  have hc2 : (c : Int) < 4 := by omega
  have hc3 : (0 : Int) ≤ (c : Int) := by omega
  refine wp_region_lit ?_
  refine wR (v := .pointer (some ⟨b2, 2, none⟩)) rfl (exec_field (off := 0) (d := 2) rfl rfl (by kernel_rfl)) ?_
  simp only [Act.put, zzA, zz0, zz1]
  refine wR (v := .int .i64 (c : Int)) rfl (exec_load1 rfl rfl (by kernel_rfl) (hb0.cell 2)) ?_
  simp only [Act.put, zzA, zz0, zz1]
  refine wR (v := .pointer (some ⟨12, c * 4, none⟩)) (w' := w0) rfl (by go_simp <;> (first | omega | (intro h; omega))) ?_
  simp only [Act.put, zzA, zz0, zz1]
  refine wR (v := .agg (rowV (rws c)).toArray) rfl (exec_load rfl rfl (run_loadAt_mid w0 _ _ 189 (rowV (rws c)) _ hrow Tryz.underlying189 rfl (by rw [size_row]; rfl))) ?_
  simp only [Act.put, zzA, zz0, zz1]
  refine wR (v := _) rfl (exec_alloc rfl (zero_row _)) ?_
  simp only [Act.put, zzA, zz0, zz1]
  have hq := Blk.new w0 189 #[.string ByteArray.empty, .string ByteArray.empty, .string ByteArray.empty, .string ByteArray.empty]
  have hb4 := hb0.alloc (.cells #[.string ByteArray.empty, .string ByteArray.empty, .string ByteArray.empty, .string ByteArray.empty] 189)
  have ht4 := ht0.alloc (.cells #[.string ByteArray.empty, .string ByteArray.empty, .string ByteArray.empty, .string ByteArray.empty] 189)
  have hlt := hb0.lt
  have hle := ht0.size
  generalize (w0.alloc (.cells #[.string ByteArray.empty, .string ByteArray.empty, .string ByteArray.empty, .string ByteArray.empty] 189)) = w4 at *
  generalize w0.heap.size = b5 at *
  refine wpList_store_row rfl 189 (.tmp 5) (.tmp 10) rfl (rowV (rws c)).toArray hq rfl rfl rfl size_row (by simp [rowV, strV, Value.oneCell']) ?_
  intro w5 hq5 ht5
  have hb5 := hb4.turn ht5 (fun e => by have h2 : b2 = b5 := e; omega)
  have HT5 := Lib.hid (show Turn nowhere w w5 from ht4.trans ht5 (fun j hj e => by have h2 : j = b5 := e; omega))
  have HB5 := Lib.hid hq5
  clear hq hb4 ht4 ht5 hb0 ht0 hrow hr hlt hle hb2
  simp only [Act.put]
  have c20 : w5.cell? ⟨b2, 0, none⟩ = some (.int .i64 k) := hb5.cell 0
  clear hb5
  have hnil : w5.ownsRow w5.heap.size 167 3 (.slice none 0 0) 0 [] := World.ownsRow_nil w5 _ _ _
  have hck : k = 1 ∨ k = 2 ∨ k = 3 ∨ k = 4 ∨ k = 5 := by omega
  clear hk hn
  rcases hck with rfl | rfl | rfl | rfl | rfl
  · go_upto_region 12 with fail
    refine wp_region_lit ?_
    refine wR (v := .slice none 0 0) rfl (exec_move rfl rfl) ?_
    simp only [Act.put, zzA, zz0, zz1]
    refine wR (v := .int .i64 (n : Int)) rfl (exec_move rfl rfl) ?_
    simp only [Act.put, zzA, zz0, zz1]
    refine wR (v := .pointer (some ⟨b5, 0, none⟩)) rfl (exec_field (off := 0) (d := 0) rfl rfl (by kernel_rfl)) ?_
    simp only [Act.put, zzA, zz0, zz1]
    refine wR (v := strV (rws c).d) rfl (exec_load1 rfl rfl (by kernel_rfl) (HB5.out.cell 0)) ?_
    simp only [Act.put, zzA, zz0, zz1]
    obtain ⟨v6, w6, hrun6, hown6, ht6⟩ := add_part hnil (Turn.refl nowhere w5) (by omega) ⟨n, dec, (rws c).d⟩
    refine wR (v := .agg (ptC ⟨n, dec, (rws c).d⟩).toArray) rfl (exec_build3 rfl rfl rfl rfl (build_part _ _ _ _)) ?_
    simp only [Act.put, zzA, zz0, zz1]
    refine wR (v := _) rfl (exec_buildSlice1 rfl rfl (run_buildSlice_one (v := .agg (ptC ⟨n, dec, (rws c).d⟩).toArray) Tryz.underlying146 hi0 hz0 (by rw [hz1]; rfl) (by rw [hz1]; rfl) (by omega) (by omega) _)) ?_
    simp only [Act.put, zzA, zz0, zz1]
    refine wR (v := v6) (w' := w6) rfl (exec_append rfl rfl rfl hrun6) ?_
    simp only [Act.put, zzA, zz0, zz1]
    obtain ⟨g, cap, rfl, hp⟩ := own_pts (ps := [⟨n, dec, (rws c).d⟩]) hown6 rfl (by omega)
    have HPP := Lib.hid hp
    have HT6 := Lib.hid (HT5.out.next ht6)
    clear hnil hrun6 hown6 ht6 hp
    go_wp2_with fail
    go_ret
    exact ⟨g, cap, rfl, HPP.out, HT6.out⟩
  · go_upto_region 12 with fail
    refine wp_region_lit ?_
    refine wR (v := .slice none 0 0) rfl (exec_move rfl rfl) ?_
    simp only [Act.put, zzA, zz0, zz1]
    refine wR (v := .int .i64 (n : Int)) rfl (exec_move rfl rfl) ?_
    simp only [Act.put, zzA, zz0, zz1]
    refine wR (v := .pointer (some ⟨b5, 0, none⟩)) rfl (exec_field (off := 0) (d := 0) rfl rfl (by kernel_rfl)) ?_
    simp only [Act.put, zzA, zz0, zz1]
    refine wR (v := strV (rws c).d) rfl (exec_load1 rfl rfl (by kernel_rfl) (HB5.out.cell 0)) ?_
    simp only [Act.put, zzA, zz0, zz1]
    obtain ⟨v6, w6, hrun6, hown6, ht6⟩ := add_part hnil (Turn.refl nowhere w5) (by omega) ⟨n, dec, (rws c).d⟩
    refine wR (v := .agg (ptC ⟨n, dec, (rws c).d⟩).toArray) rfl (exec_build3 rfl rfl rfl rfl (build_part _ _ _ _)) ?_
    simp only [Act.put, zzA, zz0, zz1]
    refine wR (v := _) rfl (exec_buildSlice1 rfl rfl (run_buildSlice_one (v := .agg (ptC ⟨n, dec, (rws c).d⟩).toArray) Tryz.underlying146 hi0 hz0 (by rw [hz1]; rfl) (by rw [hz1]; rfl) (by omega) (by omega) _)) ?_
    simp only [Act.put, zzA, zz0, zz1]
    refine wR (v := v6) (w' := w6) rfl (exec_append rfl rfl rfl hrun6) ?_
    simp only [Act.put, zzA, zz0, zz1]
    obtain ⟨g, cap, rfl, hp⟩ := own_pts (ps := [⟨n, dec, (rws c).d⟩]) hown6 rfl (by omega)
    have HPP := Lib.hid hp
    have HT6 := Lib.hid (HT5.out.next ht6)
    clear hnil hrun6 hown6 ht6 hp
    go_wp2_with fail
    go_ret
    exact ⟨g, cap, rfl, HPP.out, HT6.out⟩
  · go_upto_region 9 with fail
    refine wp_region_lit ?_
    refine wR (v := .slice none 0 0) rfl (exec_move rfl rfl) ?_
    simp only [Act.put, zzA, zz0, zz1]
    refine wR (v := .int .i64 (n : Int)) rfl (exec_move rfl rfl) ?_
    simp only [Act.put, zzA, zz0, zz1]
    refine wR (v := .pointer (some ⟨b5, 2, none⟩)) rfl (exec_field (off := 0) (d := 2) rfl rfl (by kernel_rfl)) ?_
    simp only [Act.put, zzA, zz0, zz1]
    refine wR (v := strV (rws c).s) rfl (exec_load1 rfl rfl (by kernel_rfl) (HB5.out.cell 2)) ?_
    simp only [Act.put, zzA, zz0, zz1]
    obtain ⟨v6, w6, hrun6, hown6, ht6⟩ := add_part hnil (Turn.refl nowhere w5) (by omega) ⟨n, sgn, (rws c).s⟩
    refine wR (v := .agg (ptC ⟨n, sgn, (rws c).s⟩).toArray) rfl (exec_build3 rfl rfl rfl rfl (build_part _ _ _ _)) ?_
    simp only [Act.put, zzA, zz0, zz1]
    refine wR (v := _) rfl (exec_buildSlice1 rfl rfl (run_buildSlice_one (v := .agg (ptC ⟨n, sgn, (rws c).s⟩).toArray) Tryz.underlying146 hi0 hz0 (by rw [hz1]; rfl) (by rw [hz1]; rfl) (by omega) (by omega) _)) ?_
    simp only [Act.put, zzA, zz0, zz1]
    refine wR (v := v6) (w' := w6) rfl (exec_append rfl rfl rfl hrun6) ?_
    simp only [Act.put, zzA, zz0, zz1]
    obtain ⟨g, cap, rfl, hp⟩ := own_pts (ps := [⟨n, sgn, (rws c).s⟩]) hown6 rfl (by omega)
    have HPP := Lib.hid hp
    have HT6 := Lib.hid (HT5.out.next ht6)
    clear hnil hrun6 hown6 ht6 hp
    go_wp2_with fail
    go_ret
    exact ⟨g, cap, rfl, HPP.out, HT6.out⟩
  · go_upto_region 10 with fail
    refine wp_region_lit ?_
    refine wR (v := .slice none 0 0) rfl (exec_move rfl rfl) ?_
    simp only [Act.put, zzA, zz0, zz1]
    refine wR (v := .int .i64 (n : Int)) rfl (exec_move rfl rfl) ?_
    simp only [Act.put, zzA, zz0, zz1]
    refine wR (v := .int .i64 ((2 * n : Nat) : Int)) (w' := w5) rfl (by go_simp; exact dbl n HN.out) ?_
    simp only [Act.put, zzA, zz0, zz1]
    refine wR (v := .pointer (some ⟨b5, 1, none⟩)) rfl (exec_field (off := 0) (d := 1) rfl rfl (by kernel_rfl)) ?_
    simp only [Act.put, zzA, zz0, zz1]
    refine wR (v := strV (rws c).h) rfl (exec_load1 rfl rfl (by kernel_rfl) (HB5.out.cell 1)) ?_
    simp only [Act.put, zzA, zz0, zz1]
    obtain ⟨v6, w6, hrun6, hown6, ht6⟩ := add_part hnil (Turn.refl nowhere w5) (by omega) ⟨2 * n, hexs, (rws c).h⟩
    refine wR (v := .agg (ptC ⟨2 * n, hexs, (rws c).h⟩).toArray) rfl (exec_build3 rfl rfl rfl rfl (build_part _ _ _ _)) ?_
    simp only [Act.put, zzA, zz0, zz1]
    refine wR (v := _) rfl (exec_buildSlice1 rfl rfl (run_buildSlice_one (v := .agg (ptC ⟨2 * n, hexs, (rws c).h⟩).toArray) Tryz.underlying146 hi0 hz0 (by rw [hz1]; rfl) (by rw [hz1]; rfl) (by omega) (by omega) _)) ?_
    simp only [Act.put, zzA, zz0, zz1]
    refine wR (v := v6) (w' := w6) rfl (exec_append rfl rfl rfl hrun6) ?_
    simp only [Act.put, zzA, zz0, zz1]
    obtain ⟨g, cap, rfl, hp⟩ := own_pts (ps := [⟨2 * n, hexs, (rws c).h⟩]) hown6 rfl (by omega)
    have HPP := Lib.hid hp
    have HT6 := Lib.hid (HT5.out.next ht6)
    clear hnil hrun6 hown6 ht6 hp
    go_wp2_with fail
    go_ret
    exact ⟨g, cap, rfl, HPP.out, HT6.out⟩
  · go_upto_region 11 with fail
    refine wp_region_lit ?_
    refine wR (v := .slice none 0 0) rfl (exec_move rfl rfl) ?_
    simp only [Act.put, zzA, zz0, zz1]
    refine wR (v := .pointer (some ⟨b5, 3, none⟩)) rfl (exec_field (off := 0) (d := 3) rfl rfl (by kernel_rfl)) ?_
    simp only [Act.put, zzA, zz0, zz1]
    refine wR (v := strV (rws c).m) rfl (exec_load1 rfl rfl (by kernel_rfl) (HB5.out.cell 3)) ?_
    simp only [Act.put, zzA, zz0, zz1]
    obtain ⟨v6, w6, hrun6, hown6, ht6⟩ := add_part hnil (Turn.refl nowhere w5) (by omega) ⟨1, mk, (rws c).m⟩
    refine wR (v := .agg (ptC ⟨1, mk, (rws c).m⟩).toArray) rfl (exec_build3 rfl rfl rfl rfl (build_part _ _ _ _)) ?_
    simp only [Act.put, zzA, zz0, zz1]
    refine wR (v := _) rfl (exec_buildSlice1 rfl rfl (run_buildSlice_one (v := .agg (ptC ⟨1, mk, (rws c).m⟩).toArray) Tryz.underlying146 hi0 hz0 (by rw [hz1]; rfl) (by rw [hz1]; rfl) (by omega) (by omega) _)) ?_
    simp only [Act.put, zzA, zz0, zz1]
    refine wR (v := v6) (w' := w6) rfl (exec_append rfl rfl rfl hrun6) ?_
    simp only [Act.put, zzA, zz0, zz1]
    obtain ⟨A6, c6, rfl⟩ := own_form hown6
    have HB5' := Lib.hid (HB5.out.turn ht6 (fun e => e))
    have HO6 := Lib.hid hown6
    have HT6' := Lib.hid ht6
    clear hnil hrun6 hown6 ht6
    go_upto_region 12 with fail
    refine wp_region_lit ?_
    refine wR (v := .slice A6 1 c6) rfl (exec_move rfl rfl) ?_
    simp only [Act.put, zzA, zz0, zz1]
    refine wR (v := .int .i64 (n : Int)) rfl (exec_move rfl rfl) ?_
    simp only [Act.put, zzA, zz0, zz1]
    refine wR (v := .pointer (some ⟨b5, 0, none⟩)) rfl (exec_field (off := 0) (d := 0) rfl rfl (by kernel_rfl)) ?_
    simp only [Act.put, zzA, zz0, zz1]
    refine wR (v := strV (rws c).d) rfl (exec_load1 rfl rfl (by kernel_rfl) (HB5'.out.cell 0)) ?_
    simp only [Act.put, zzA, zz0, zz1]
    obtain ⟨v7, w7, hrun7, hown7, ht7⟩ := add_part HO6.out HT6'.out (by omega) ⟨n, dec, (rws c).d⟩
    refine wR (v := .agg (ptC ⟨n, dec, (rws c).d⟩).toArray) rfl (exec_build3 rfl rfl rfl rfl (build_part _ _ _ _)) ?_
    simp only [Act.put, zzA, zz0, zz1]
    refine wR (v := _) rfl (exec_buildSlice1 rfl rfl (run_buildSlice_one (v := .agg (ptC ⟨n, dec, (rws c).d⟩).toArray) Tryz.underlying146 hi0 hz0 (by rw [hz1]; rfl) (by rw [hz1]; rfl) (by omega) (by omega) _)) ?_
    simp only [Act.put, zzA, zz0, zz1]
    refine wR (v := v7) (w' := w7) rfl (exec_append rfl rfl rfl hrun7) ?_
    simp only [Act.put, zzA, zz0, zz1]
    obtain ⟨g, cap, rfl, hp⟩ := own_pts (ps := [⟨1, mk, (rws c).m⟩, ⟨n, dec, (rws c).d⟩]) hown7 rfl (by omega)
    have HPP := Lib.hid hp
    have HT6 := Lib.hid (HT5.out.next ht7)
    clear hrun7 hown7 ht7 hp
    go_wp2_with fail
    go_ret
    exact ⟨g, cap, rfl, HPP.out, HT6.out⟩
end Go.Proofs.YticofobhkmabiaaGreatDoor
namespace Go.Proofs.YticofobhkmabiaaGreatDoor
open Go.RowKit
open Fdd
set_option linter.unusedVariables false
theorem hmf : ∀ (fn : Fn) (first cap : Array Value) (w : World), (Instr.makeFunc fn first cap).run Tryz.prog w = .ok (.func fn first cap) w := fun _ _ _ _ => rfl
def ptrTo (b : Nat) : Value := .pointer (some ⟨b, 0, none⟩)
def pairV (q c : Nat) : Array Value := #[.func (.func 148) #[] #[], .func (.func 149) #[] #[ptrTo q], .func (.func 150) #[] #[ptrTo c]]
def sinV (s c : Nat) : Array Value := #[.func (.func 151) #[] #[], .func (.func 152) #[] #[ptrTo s, ptrTo c], .func (.func 153) #[] #[ptrTo s, ptrTo c]]
def placeV (c : Nat) : Value := .func (.func 146) #[] #[ptrTo c]
theorem size_code : (Tryz.prog.info? 186).map (·.size) = some 3 := by kernel_rfl
theorem blk_at {w : World} {A B C : Obj} : ((w.alloc A).alloc B).alloc C = ((w.alloc A).alloc B).alloc C ∧ w.heap.size + 1 = (w.alloc A).heap.size ∧ w.heap.size + 1 + 1 = ((w.alloc A).alloc B).heap.size := ⟨rfl, by simp, by simp⟩
theorem paired_walk (ch : ByteArray) (w : World) :
    Calls Tryz.prog 127 #[.string ch] w fun e w' => ∃ q c, e = .returned (.agg (pairV q c)) ∧ Blk w' q 141 #[placeV c] ∧ Blk w' c 9 #[.string ch] ∧ Turn nowhere w w' := by
  have hmf := hmf
  have hs1 : w.heap.size + 1 = (w.alloc (.cells #[.string ch] 9)).heap.size := by simp
  have hs2 : w.heap.size + 1 + 1 = ((w.alloc (.cells #[.string ch] 9)).alloc (.cells (pairV (w.heap.size + 1 + 1) w.heap.size) 186)).heap.size := by simp
  have HS1 := Lib.hid hs1
  have HS2 := Lib.hid hs2
  clear hs1 hs2
  go_enter Tryz.func127, Tryz.ntmps127
  go_wp2
  change bodyPost _ _ _ _ _ (((w.alloc (.cells #[.string ch] 9)).alloc (.cells (pairV (w.heap.size + 1 + 1) w.heap.size) 186)).alloc (.cells #[placeV w.heap.size] 141))
  have hb2 := (Blk.new (w.alloc (.cells #[.string ch] 9)) 186 (pairV (w.heap.size + 1 + 1) w.heap.size)).alloc (.cells #[placeV w.heap.size] 141)
  have hb3 := Blk.new ((w.alloc (.cells #[.string ch] 9)).alloc (.cells (pairV (w.heap.size + 1 + 1) w.heap.size) 186)) 141 #[placeV w.heap.size]
  rw [← HS1.out] at hb2
  rw [← HS2.out] at hb3
  refine bodyPost_ret (v := .agg (pairV (w.heap.size + 1 + 1) w.heap.size)) (results_cell_row rfl _ _ (w.heap.size + 1) 186 _ (0, 0) _ rfl hb2 Tryz.underlying186 rfl size_code) rfl
    ⟨w.heap.size + 1 + 1, w.heap.size, rfl, hb3, ((Blk.new w 9 #[.string ch]).alloc _).alloc _, (((Turn.refl _ w).alloc _).alloc _).alloc _⟩
theorem single_walk (ch st : ByteArray) (w : World) :
    Calls Tryz.prog 128 #[.string ch, .string st] w fun e w' => ∃ s c, e = .returned (.agg (sinV s c)) ∧ Blk w' s 9 #[.string st] ∧ Blk w' c 9 #[.string ch] ∧ Turn nowhere w w' := by
  have hmf := hmf
  have hs1 : w.heap.size + 1 = (w.alloc (.cells #[.string ch] 9)).heap.size := by simp
  have hs2 : w.heap.size + 1 + 1 = ((w.alloc (.cells #[.string ch] 9)).alloc (.cells #[.string st] 9)).heap.size := by simp
  have HS1 := Lib.hid hs1
  have HS2 := Lib.hid hs2
  clear hs1 hs2
  go_enter Tryz.func128, Tryz.ntmps128
  go_wp2
  change bodyPost _ _ _ _ _ (((w.alloc (.cells #[.string ch] 9)).alloc (.cells #[.string st] 9)).alloc (.cells (sinV (w.heap.size + 1) w.heap.size) 186))
  have hb2 := (Blk.new (w.alloc (.cells #[.string ch] 9)) 9 #[.string st]).alloc (.cells (sinV (w.heap.size + 1) w.heap.size) 186)
  have hb3 := Blk.new ((w.alloc (.cells #[.string ch] 9)).alloc (.cells #[.string st] 9)) 186 (sinV (w.heap.size + 1) w.heap.size)
  rw [← HS1.out] at hb2
  rw [← HS2.out] at hb3
  refine bodyPost_ret (v := .agg (sinV (w.heap.size + 1) w.heap.size)) (results_cell_row rfl _ _ (w.heap.size + 1 + 1) 186 _ (0, 0) _ rfl hb3 Tryz.underlying186 rfl size_code) rfl
    ⟨w.heap.size + 1, w.heap.size, rfl, hb2, ((Blk.new w 9 #[.string ch]).alloc _).alloc _, (((Turn.refl _ w).alloc _).alloc _).alloc _⟩
/-- a part's code -/
def CodeAt (w : World) (cv : Array Value) (p : Pt) : Prop :=
  (p.stands = [] ∧ ∃ q c, cv = pairV q c ∧ Blk w q 141 #[placeV c] ∧ Blk w c 9 #[strV p.chars]) ∨
  (p.stands ≠ [] ∧ ∃ s c, cv = sinV s c ∧ Blk w s 9 #[strV p.stands] ∧ Blk w c 9 #[strV p.chars])
theorem CodeAt.turn {w w' : World} {cv : Array Value} {p : Pt} (h : CodeAt w cv p) (ht : Turn nowhere w w') : CodeAt w' cv p := by
  rcases h with ⟨h0, q, c, h1, h2, h3⟩ | ⟨h0, q, c, h1, h2, h3⟩
  · exact .inl ⟨h0, q, c, h1, h2.turn ht (fun e => e), h3.turn ht (fun e => e)⟩
  · exact .inr ⟨h0, q, c, h1, h2.turn ht (fun e => e), h3.turn ht (fun e => e)⟩
theorem zero_code (w : World) : (zeroValue 186).run Tryz.prog w = .ok (.agg #[.nilFunc, .nilFunc, .nilFunc]) w := by kernel_rfl
theorem pair_one (q c : Nat) : ∀ v ∈ (pairV q c).toList, v.oneCell' = true := by simp [pairV, Value.oneCell']
theorem sin_one (q c : Nat) : ∀ v ∈ (sinV q c).toList, v.oneCell' = true := by simp [sinV, Value.oneCell']
theorem codeOf_walk (p : Pt) (w : World) :
    Calls Tryz.prog 113 #[.agg (ptC p).toArray] w fun e w' => ∃ cv, e = .returned (.agg cv) ∧ CodeAt w' cv p ∧ Turn nowhere w w' := by
  obtain ⟨n, ch, st⟩ := p
  unfold ptC
  go_enter Tryz.func113, Tryz.ntmps113
  go_upto_region 1 with fail
  have hb1 := (Blk.new w 167 #[.int .i64 (n : Int), strV ch, strV st]).alloc (.cells #[.nilFunc, .nilFunc, .nilFunc] 186)
  have hb2 := Blk.new (w.alloc (.cells #[.int .i64 (n : Int), strV ch, strV st] 167)) 186 #[.nilFunc, .nilFunc, .nilFunc]
  have ht := ((Turn.refl nowhere w).alloc (.cells #[.int .i64 (n : Int), strV ch, strV st] 167)).alloc (.cells #[.nilFunc, .nilFunc, .nilFunc] 186)
  rw [show (w.alloc (.cells #[.int .i64 (n : Int), strV ch, strV st] 167)).heap.size = w.heap.size + 1 from by simp] at hb2
  generalize ((w.alloc (.cells #[.int .i64 (n : Int), strV ch, strV st] 167)).alloc (.cells #[.nilFunc, .nilFunc, .nilFunc] 186)) = w2 at *
  obtain ⟨b2, hq⟩ : ∃ b2, b2 = w.heap.size + 1 := ⟨_, rfl⟩
  obtain ⟨b1, hp⟩ : ∃ b1, b1 = w.heap.size := ⟨_, rfl⟩
  rw [← hq] at hb2 ⊢
  rw [← hp] at hb1 ⊢
  have HQ := Lib.hid (show w.heap.size < b2 from by omega)
  have HB2 := Lib.hid hb2
  have HT := Lib.hid ht
  clear hq hp ht hb2
  refine wp_region_lit ?_
  refine wR (v := .pointer (some ⟨b1, 2, none⟩)) rfl (exec_field (off := 0) (d := 2) rfl rfl (by kernel_rfl)) ?_
  simp only [Act.put, zzA, zz0, zz1]
  refine wR (v := strV st) rfl (exec_load1 rfl rfl (by kernel_rfl) (hb1.cell 2)) ?_
  simp only [Act.put, zzA, zz0, zz1]
  refine wR (v := .bool (st == [])) (w' := w2) rfl (exec_seql (m := []) rfl rfl rfl) ?_
  simp only [Act.put, zzA, zz0, zz1]
  have c11 : w2.cell? ⟨b1, 1, none⟩ = some (strV ch) := hb1.cell 1
  have c12 : w2.cell? ⟨b1, 2, none⟩ = some (strV st) := hb1.cell 2
  clear hb1
  by_cases hst : st = []
  · have hst1 : (st == []) = true := by simpa using hst
    have HST := Lib.hid hst
    rw [hst1]
    clear hst hst1
    go_wp2_with (first
      | (go_at_call 127; refine (paired_walk ⟨ch.toArray⟩ _).mono ?_; rintro e w3 ⟨q, c, rfl, h1, h2, h3⟩)
      | (refine wpList_store_row rfl 186 (.tmp 2) (.tmp 8) rfl (pairV q c) (HB2.out.turn h3 (fun e => e)) rfl rfl rfl size_code (pair_one q c) ?_; intro w4 h4 h5))
    have e1 : q ≠ b2 := (h1.turn (Turn.refl nowhere _) (fun e => e)).ne_ (HB2.out.turn h3 (fun e => e)) (by decide)
    have e2 : c ≠ b2 := h2.ne_ (HB2.out.turn h3 (fun e => e)) (by decide)
    refine bodyPost_ret (v := .agg (pairV q c)) (results_cell_row rfl _ _ b2 186 _ (0, 0) _ rfl h4 Tryz.underlying186 rfl size_code) rfl
      ⟨_, rfl, .inl ⟨HST.out, q, c, rfl, h1.turn h5 e1, h2.turn h5 e2⟩, ?_⟩
    exact (HT.out.next h3).trans h5 (fun j hj e => by have := HQ.out; have h : j = b2 := e; omega)
  · have hst1 : (st == []) = false := by simpa using hst
    have HST := Lib.hid hst
    rw [hst1]
    clear hst hst1
    go_wp2_with (first
      | (go_at_call 128; refine (single_walk ⟨ch.toArray⟩ ⟨st.toArray⟩ _).mono ?_; rintro e w3 ⟨q, c, rfl, h1, h2, h3⟩)
      | (refine wpList_store_row rfl 186 (.tmp 2) (.tmp 13) rfl (sinV q c) (HB2.out.turn h3 (fun e => e)) rfl rfl rfl size_code (sin_one q c) ?_; intro w4 h4 h5))
    have e1 : q ≠ b2 := h1.ne_ (HB2.out.turn h3 (fun e => e)) (by decide)
    have e2 : c ≠ b2 := h2.ne_ (HB2.out.turn h3 (fun e => e)) (by decide)
    refine bodyPost_ret (v := .agg (sinV q c)) (results_cell_row rfl _ _ b2 186 _ (0, 0) _ rfl h4 Tryz.underlying186 rfl size_code) rfl
      ⟨_, rfl, .inr ⟨HST.out, q, c, rfl, h1.turn h5 e1, h2.turn h5 e2⟩, ?_⟩
    exact (HT.out.next h3).trans h5 (fun j hj e => by have := HQ.out; have h : j = b2 := e; omega)
end Go.Proofs.YticofobhkmabiaaGreatDoor
namespace Go.Proofs.YticofobhkmabiaaGreatDoor
open Go.RowKit
open Fdd
set_option linter.unusedVariables false
theorem row_ne {w : World} {B : Nat} {e : TypeId} {sz n g : Nat} {v : Value} {xs : List Value} {t : TypeId} {cs : Array Value} (h : w.ownsRow B e sz v n xs) (hg : Blk w g t cs) (ht : t ≠ e) : ¬ (some g = v.ownBlock) := by
  rcases h.2 with ⟨rfl, _⟩ | ⟨g', cap, cur, rfl, _, hg', _⟩
  · intro e'; cases e'
  · intro e'
    have e2 : g = g' := Option.some.inj e'
    subst e2
    have h1 : w.heap[g]? = some (.cells cs t (0, 0)) := hg
    rw [h1] at hg'
    injection hg' with h2
    injection h2 with _ h3
    exact ht h3
/-- from v to v': what v owns may turn, and nothing else that there was -/
structure Ext (w w' : World) (v v' : Value) : Prop where
  tr : Turn (fun b => some b = v.ownBlock) w w'
  sub : ∀ b, some b = v'.ownBlock → b < w.heap.size → some b = v.ownBlock
theorem Ext.refl (w : World) (v : Value) : Ext w w v v := ⟨Turn.refl _ _, fun _ h _ => h⟩
theorem Ext.trans {w w1 w' : World} {v v1 v' : Value} (h : Ext w w1 v v1) (g : Ext w1 w' v1 v') : Ext w w' v v' where
  tr := h.tr.trans g.tr fun k hk e => h.sub k e hk
  sub := fun b e hb => h.sub b (g.sub b e (Nat.lt_of_lt_of_le hb h.tr.size)) hb
theorem Ext.still {w w1 : World} {v v' : Value} {w' : World} (h : Ext w w1 v v') (ht : Turn nowhere w1 w') : Ext w w' v v' := ⟨h.tr.trans ht fun _ _ e => e.elim, h.sub⟩
theorem Ext.behind {w w1 w' : World} {v v' : Value} (ht : Turn nowhere w w1) (h : Ext w1 w' v v') : Ext w w' v v' := ⟨(ht.mono fun _ _ e => e.elim).trans h.tr fun _ _ e => e, fun b e hb => h.sub b e (Nat.lt_of_lt_of_le hb ht.size)⟩
theorem Blk.ext {w w' : World} {v v' : Value} {g : Nat} {t : TypeId} {cs : Array Value} (h : Blk w g t cs) (he : Ext w w' v v') (hn : ¬ (some g = v.ownBlock)) : Blk w' g t cs := h.turn he.tr hn
theorem byteInfo : (Tryz.prog.info? 5).map (fun i => (i.zero, i.size, i.bytes)) = some (some (.int .u8 0), 1, 1) := by kernel_rfl
theorem append_news {w : World} {B : Nat} {v : Value} {bs : List UInt8} (hown : Own w B 5 v bs) (hB : B ≤ w.heap.size) (xs : List UInt8) (hlen : bs.length + xs.length ≤ 140737488355328) {m c : Nat} (hm : xs.length = m) :
    ∃ A c' w', (Builtin.append_ #[26, 26] 26 #[v, .slice (some ⟨w.heap.size, 0, none⟩) m c]).run Tryz.prog (w.alloc (.cells (bcs xs).toArray 5)) = .ok (.slice A (bs.length + m) c') w' ∧
      Own w' B 5 (.slice A (bs.length + m) c') (bs ++ xs) ∧ Ext w w' v (.slice A (bs.length + m) c') := by
  subst hm
  obtain ⟨i0, hi0, hz0, hz1, hz2⟩ := info_parts byteInfo
  obtain ⟨v', w', h1, h2, h3, _, h5⟩ := run_append_own_at (P := Tryz.prog) (w.alloc (.cells (bcs xs).toArray 5)) B 26 26 5 i0 _ 1 1 Tryz.underlying26 hi0 hz0 hz1 hz2
    rfl (by omega) v bs.length (bcs bs) (hown.alloc _) ⟨w.heap.size, 0, none⟩ xs.length c (bcs xs) (by rw [bcs_length, Nat.mul_one]) (fun j u hj => by
      rw [add_nat, Nat.zero_add, (Blk.new w 5 (bcs xs).toArray).cell j]
      simpa using hj) (bcs_one xs) (by unfold maxLen; omega) (by omega) (by simp; omega)
  obtain ⟨A, c', rfl⟩ := own_form h2
  refine ⟨A, c', w', h1, ?_, ((Turn.refl _ w).alloc _).grown h3 fun b e hb => e.symm, fun b e hb => ?_⟩
  · unfold Own
    rw [List.length_append, bcs_append]
    exact h2
  · rcases h5 with h5 | h5
    · rw [← h5]
      exact e
    · rw [h5] at e
      have : b = (w.alloc (.cells (bcs xs).toArray 5)).heap.size := Option.some.inj e
      simp at this
      omega
theorem u8_of (x : UInt8) : ((x.toNat : Int).toNat).toUInt8 = x := by simp
theorem index_walk (l : List UInt8) (x : UInt8) (w : World) :
    Calls Tryz.prog 147 #[strV l, .int .u8 (x.toNat : Int)] w fun e w' => e = .returned (.int .i64 (Lib.indexByte l x)) ∧ w' = w := by
  have h := Any.strings_IndexByte Tryz.lays137 ⟨l.toArray⟩ (x.toNat : Int) w
  rw [u8_of] at h
  exact h
theorem place_walk {w : World} {c : Nat} {ch : List UInt8} (hc : Blk w c 9 #[strV ch]) (x : UInt8) (hx : x ∈ ch) (hl : ch.length ≤ 16) :
    Calls Tryz.prog 146 #[.int .u8 (x.toNat : Int), ptrTo c] w fun e w' => e = .returned (.int .u8 ((ch.idxOf x : Nat) : Int)) ∧ w' = w := by
  unfold ptrTo
  have c0 : w.cell? ⟨c, 0, none⟩ = some (strV ch) := hc.cell 0
  have h := index_walk ch x w
  rw [index_mem ch x hx] at h
  have hlt := idx_lt hx
  generalize ch.idxOf x = k at *
  clear hx hc
  go_enter Tryz.func146, Tryz.ntmps146
  go_wp2_with (go_at_call 147; refine h.mono ?_; rintro e w1 ⟨rfl, rfl⟩)
  go_ret
  exact ⟨rfl, rfl⟩
theorem psize_walk (n : Nat) (hn : n ≤ 1000) (w : World) :
    Calls Tryz.prog 148 #[.int .i64 (n : Int)] w fun e w' => e = .returned (.int .i64 (((n + 1) / 2 : Nat) : Int)) ∧ w' = w := by
  go_enter Tryz.func148, Tryz.ntmps148
  go_wp2
  go_ret
  exact ⟨ret_int (show ((n : Int) + 1) / 2 = (((n + 1) / 2 : Nat) : Int) by omega), rfl⟩
theorem ssize_walk (n : Nat) (w : World) :
    Calls Tryz.prog 151 #[.int .i64 (n : Int)] w fun e w' => e = .returned (.int .i64 (n : Int)) ∧ w' = w := by
  go_enter Tryz.func151, Tryz.ntmps151
  go_wp2
  go_ret
  exact ⟨rfl, rfl⟩
end Go.Proofs.YticofobhkmabiaaGreatDoor
namespace Go.Proofs.YticofobhkmabiaaGreatDoor
open Go.RowKit
open Fdd
set_option linter.unusedVariables false
def TwoS (s c : Nat) (st ch : List UInt8) (W : World) : Prop := Blk W s 9 #[strV st] ∧ Blk W c 9 #[strV ch]
theorem bcs1 (x : UInt8) : (bcs [x]).toArray = #[.int .u8 (x.toNat : Int)] := rfl
set_option maxHeartbeats 1000000 in
theorem sput_walk {w : World} {s c B : Nat} {st ch t bs : List UInt8} {A0 : Option Addr} {n0 c0 : Nat} (hs : Blk w s 9 #[strV st]) (hc : Blk w c 9 #[strV ch]) (ht : onlyOf t ch = true) (hl : st.length = ch.length) (hown : Own w B 5 (.slice A0 n0 c0) bs) (hB : B ≤ w.heap.size)
    (hlen : bs.length + t.length ≤ 140737488355328) (ht1 : t.length ≤ 1000) (hch : ch.length ≤ 1000) :
    Calls Tryz.prog 152 #[.slice A0 n0 c0, strV t, ptrTo s, ptrTo c] w fun e w' => ∃ A n c', e = .returned (.slice A n c') ∧ Own w' B 5 (.slice A n c') (bs ++ t.map (one ch st)) ∧ Ext w w' (.slice A0 n0 c0) (.slice A n c') := by
  unfold ptrTo
  have HS := Lib.hid hs
  have HC := Lib.hid hc
  have HT := Lib.hid ht
  have HL := Lib.hid hl
  have HO := Lib.hid hown
  have HB := Lib.hid hB
  have HN := Lib.hid hlen
  have HT1 := Lib.hid ht1
  have HCH := Lib.hid hch
  clear hs hc ht hl hown hB hlen ht1 hch
  go_enter Tryz.func152, Tryz.ntmps152
  go_upto_region 1 with fail
  refine wp_region_lit ?_
  refine wR (v := strV t) rfl (exec_move rfl rfl) ?_
  simp only [Act.put, zzA, zz0, zz1]
  refine wR (v := .int .i64 (t.length : Int)) (w' := w) rfl (exec_slen rfl rfl) ?_
  simp only [Act.put, zzA, zz0, zz1]
  obtain ⟨len, hlen⟩ : ∃ len, t.length = len := ⟨_, rfl⟩
  rw [hlen]
  have HLEN := Lib.hid hlen
  clear hlen
  go_wp2_with fail
  go_loopg [0, 10] len (fun gk b i wr => ∃ (k : Nat) (A : Option Addr) (n c' : Nat), k + gk = len ∧ i = .int .i64 (k : Int) ∧ b = .slice A n c' ∧ Own wr B 5 (.slice A n c') (bs ++ (t.take k).map (one ch st)) ∧ Ext w wr (.slice A0 n0 c0) (.slice A n c'))
  case atStart => exact ⟨0, _, _, _, by omega, rfl, rfl, by simpa using HO.out, Ext.refl _ _⟩
  case round =>
    obtain ⟨k, A, n, c', hkl, rfl, rfl, hO, hE⟩ := hrel
    have HKL := Lib.hid hkl
    have HO' := Lib.hid hO
    have HE := Lib.hid hE
    clear hkl hO hE
    by_cases hlt : k < len
    · have y1 : (k : Int) < (len : Int) := by omega
      have y2 : (0 : Int) ≤ (k : Int) := by omega
      have y3 : (len : Int) ≤ 1000 := by have := HT1.out; have := HLEN.out; omega
      have HLT := Lib.hid hlt
      clear hlt
      go_upto_region 4 with fail
      have hk : k < t.length := by rw [HLEN.out]; exact HLT.out
      have hmem : t.getD k 0 ∈ ch := by
        rw [List.getD_eq_getElem?_getD, List.getElem?_eq_getElem hk]
        exact onlyOf_mem HT.out (List.getElem_mem _)
      have htk : (t.take (k + 1)).map (one ch st) = (t.take k).map (one ch st) ++ [one ch st (t.getD k 0)] := by
        rw [List.take_add_one, List.getElem?_eq_getElem hk, List.map_append, List.getD_eq_getElem?_getD, List.getElem?_eq_getElem hk]
        rfl
      have HK := Lib.hid hk
      have HTK := Lib.hid htk
      have hiw := index_walk ch (t.getD k 0)
      have hix := idx_lt hmem
      have hone : one ch st (t.getD k 0) = st.getD (ch.idxOf (t.getD k 0)) 0 := rfl
      rw [index_mem ch _ hmem] at hiw
      generalize ch.idxOf (t.getD k 0) = ix at *
      have HIW := Lib.hid hiw
      have HIX := Lib.hid hix
      have HONE := Lib.hid hone
      clear hiw hix hone hmem hk htk
      have hS0 : TwoS s c st ch wr.drew := ⟨(HS.out.ext HE.out (row_ne HO.out HS.out (by decide))).drew, (HC.out.ext HE.out (row_ne HO.out HC.out (by decide))).drew⟩
      refine wp_region_till (TwoS s c st ch) 7 (by kernel_rfl) ?_
      refine till_pure (i := 0) (v := .slice A n c') rfl (by kernel_rfl) (by kernel_rfl) (fun _ _ _ h => h) (.inl ⟨by rfl, fun W hW => exec_move rfl rfl⟩) hS0 ?_
      simp only [Act.put, zzA, zz0, zz1]
      refine till_take (i := 1) (v := strV st) rfl (by kernel_rfl) (by kernel_rfl) (fun _ _ _ h => h) (.inl ⟨by rfl, fun W hW => exec_load1 rfl rfl (by kernel_rfl) (hW.1.cell 0)⟩) hS0 ?_
      simp only [Act.put, zzA, zz0, zz1]
      refine till_take2 6 (i := 2) (v := strV ch) rfl (by kernel_rfl) (by kernel_rfl) (fun _ _ _ h => h) (.inl ⟨by rfl, fun W hW => exec_load1 rfl rfl (by kernel_rfl) (hW.2.cell 0)⟩) hS0 ?_
      simp only [Act.put, zzA, zz0, zz1]
      refine till_pure (i := 3) (v := strV t) rfl (by kernel_rfl) (by kernel_rfl) (fun _ _ _ h => h) (.inl ⟨by rfl, fun W hW => exec_move rfl rfl⟩) hS0 ?_
      simp only [Act.put, zzA, zz0, zz1]
      refine till_pure (i := 4) (v := .int .i64 (k : Int)) rfl (by kernel_rfl) (by kernel_rfl) (fun _ _ _ h => h) (.inl ⟨by rfl, fun W hW => exec_move rfl rfl⟩) hS0 ?_
      simp only [Act.put, zzA, zz0, zz1]
      refine till_pure (i := 5) (v := .int .u8 ((t.getD k 0).toNat : Int)) rfl (by kernel_rfl) (by kernel_rfl) (fun _ _ _ h => h) (.inl ⟨by rfl, fun W hW => exec_sidx rfl rfl rfl HK.out⟩) hS0 ?_
      simp only [Act.put, zzA, zz0, zz1]
      refine till_step (i := 6) (by kernel_rfl) rfl rfl ?_
      intro K1 HK1
      go_wp2_with fail
      refine (HIW.out _).mono ?_
      rintro e w5 ⟨rfl, rfl⟩
      refine HK1.out _ _ ⟨fun _ => hS0, ?_⟩
      clear HK1
      refine till_tail 7 rfl (by kernel_rfl) ?_
      refine wR (v := .int .u8 ((one ch st (t.getD k 0)).toNat : Int)) rfl (by rw [HONE.out]; exact exec_sidx rfl rfl rfl (by rw [HL.out]; exact HIX.out)) ?_
      simp only [Act.put, zzA, zz0, zz1]
      obtain ⟨i0, hi0, hz0, hz1, hz2⟩ := info_parts byteInfo
      refine wR (v := _) rfl (exec_buildSlice1 rfl rfl (run_buildSlice_one (v := .int .u8 ((one ch st (t.getD k 0)).toNat : Int)) Tryz.underlying26 hi0 hz0 (by rw [hz1]; rfl) (by rw [hz1]; rfl) (by omega) (by omega) _)) ?_
      simp only [Act.put, zzA, zz0, zz1]
      obtain ⟨A6, c6, w6, hrun, hown6, hext6⟩ := append_news (m := 1) (c := 1) (w := wr.drew) HO'.out.drew (Nat.le_trans HB.out HE.out.tr.size) [one ch st (t.getD k 0)] (by rw [List.length_append, List.length_map, List.length_take]; have := HN.out; have := HK.out; simp; omega) rfl
      refine wR (v := .slice A6 ((bs ++ (t.take k).map (one ch st)).length + 1) c6) (w' := w6) rfl (exec_append rfl rfl rfl hrun) ?_
      simp only [Act.put, zzA, zz0, zz1]
      have HO6 := Lib.hid hown6
      have HE6 := Lib.hid hext6
      clear hrun hown6 hext6 hS0
      generalize ((bs ++ (t.take k).map (one ch st)).length + 1) = n6 at *
      go_wp2_with fail
      refine NoPanic.normal ?_
      go_wp2_with fail
      go_roundg (gk - 1)
      case measure => have := HKL.out; have := HLT.out; omega
      case rel =>
        refine ⟨k + 1, A6, n6, c6, by have := HKL.out; have := HLT.out; omega, by go_num, rfl, ?_, ?_⟩
        · rw [HTK.out, ← List.append_assoc]
          exact HO6.out
        · exact (HE.out.still (Turn.drew (Turn.refl _ _))).trans HE6.out
    · have hke : k = len := by have := HKL.out; omega
      have y1 : ¬ ((k : Int) < (len : Int)) := by omega
      clear hlt
      have HKE := Lib.hid hke
      clear hke
      go_wp2_with fail
      go_ret
      refine ⟨A, n, c', rfl, ?_, HE.out⟩
      have := HO'.out
      rwa [List.take_of_length_le (by rw [HLEN.out, HKE.out]; exact Nat.le_refl _)] at this
end Go.Proofs.YticofobhkmabiaaGreatDoor
namespace Go.Proofs.YticofobhkmabiaaGreatDoor
open Go.RowKit
open Fdd
set_option linter.unusedVariables false
theorem bs_turn {w w' : World} {A : Option Addr} {n : Nat} {bs : List UInt8} (h : Bs w A n bs) (ht : Turn nowhere w w') : Bs w' A n bs := by
  obtain ⟨h1, h2, h3⟩ := h
  refine ⟨h1, h2, fun hp => ?_⟩
  obtain ⟨b, off, e, hc⟩ := h3 hp
  exact ⟨b, off, e, fun i hi => by rw [ht.cell (World.block_lt_of_cell? _ _ (hc i hi)) (fun e => e)]; exact hc i hi⟩
theorem exec_makeV {P : Program} {a : Act} {o : Oper} {t : TypeId} {x y : Operand} {u u' v : Value} {W W' : World} (ho : o.op = .makeSlice t x y) (hx : a.eval x = u) (hy : a.eval y = u') (h : (Instr.makeSlice t u u').run P W = .ok v W') : (execOp a.eval o).run P W = .ok (.value v) W' := by
  unfold execOp
  simp only [ho, hx, hy, h, Sem.run_bind, Sem.run_pure, Result.andThen_ok]
theorem make_bytes (n m : Nat) (hn : n ≤ m) (hm : m ≤ 100000) (w : World) : (Instr.makeSlice 26 (.int .i64 (n : Int)) (.int .i64 (m : Int))).run Tryz.prog w = .ok (.slice (some ⟨w.heap.size, 0, none⟩) n m) (w.alloc (.cells (bcs (List.replicate m 0)).toArray 5)) := by
  obtain ⟨j0, hj0, hjz, hj1, hj2⟩ := info_parts byteInfo
  have h := run_makeSlice (P := Tryz.prog) w 26 5 j0 _ Tryz.underlying26 hj0 hjz .i64 .i64 (n : Int) (m : Int) (by omega) (by omega) (by rw [hj1]; omega) (by rw [hj2]; omega) (by omega)
  rw [h, hj1, Int.toNat_natCast, Int.toNat_natCast, Nat.mul_one, madeBytes]
  rfl
def fillL (f : UInt8 → UInt8) (bs : List UInt8) (k : Nat) : List UInt8 := (bs.take k).map f ++ List.replicate (bs.length - k) 0
theorem fill_zero (f : UInt8 → UInt8) (bs : List UInt8) : fillL f bs 0 = List.replicate bs.length 0 := by simp [fillL]
theorem fill_all (f : UInt8 → UInt8) (bs : List UInt8) : fillL f bs bs.length = bs.map f := by simp [fillL]
theorem fill_len (f : UInt8 → UInt8) (bs : List UInt8) (k : Nat) (h : k ≤ bs.length) : (fillL f bs k).length = bs.length := by simp [fillL]; omega
theorem fill_set (f : UInt8 → UInt8) (bs : List UInt8) (k : Nat) (h : k < bs.length) : (fillL f bs k).set k (f (bs.getD k 0)) = fillL f bs (k + 1) := by
  apply List.ext_getElem?
  intro j
  unfold fillL
  rw [List.getElem?_set]
  by_cases hj : k = j
  · subst hj
    rw [if_pos rfl, if_pos (by simp; omega), List.getElem?_append_left (by simp; omega), List.getElem?_map, List.getElem?_take, if_pos (by omega), List.getElem?_eq_getElem h, List.getD_eq_getElem?_getD, List.getElem?_eq_getElem h]
    rfl
  · rw [if_neg hj]
    by_cases h1 : j < k
    · rw [List.getElem?_append_left (by simp; omega), List.getElem?_append_left (by simp; omega)]
      simp [h1, show j < k + 1 from by omega]
    · rw [List.getElem?_append_right (by simp; omega), List.getElem?_append_right (by simp; omega)]
      simp only [List.length_map, List.length_take, List.getElem?_replicate]
      have e1 : min k bs.length = k := by omega
      have e2 : min (k + 1) bs.length = k + 1 := by omega
      rw [e1, e2]
      by_cases h2 : j < bs.length
      · rw [if_pos (by omega), if_pos (by omega)]
      · rw [if_neg (by omega), if_neg (by omega)]
theorem bcs_set (l : List UInt8) (i : Nat) (x : UInt8) : (bcs l).toArray.setIfInBounds i (.int .u8 (x.toNat : Int)) = (bcs (l.set i x)).toArray := by
  unfold bcs
  rw [List.setIfInBounds_toArray, List.map_set]
theorem index_cases (l : List UInt8) (x : UInt8) : (x ∈ l ∧ Lib.indexByte l x = (l.idxOf x : Int) ∧ l.idxOf x < l.length) ∨ (x ∉ l ∧ Lib.indexByte l x = -1) := by
  by_cases h : x ∈ l
  · exact .inl ⟨h, index_mem l x h, idx_lt h⟩
  · exact .inr ⟨h, index_not l x h⟩
def sdec (st ch bs : List UInt8) : Option (List UInt8) := if onlyOf bs st = true then some (bs.map (one st ch)) else none
def optV (o : Option (List UInt8)) : Value := .tuple #[strV (o.getD []), .bool o.isSome]
set_option maxRecDepth 20000 in
set_option maxHeartbeats 1000000 in
theorem stake_walk {w : World} {s c n cap : Nat} {st ch bs : List UInt8} {A : Option Addr} (hs : Blk w s 9 #[strV st]) (hc : Blk w c 9 #[strV ch]) (hl : st.length = ch.length) (hb : Bs w A n bs) (hn : n ≤ 1000) (hch : ch.length ≤ 1000) :
    Calls Tryz.prog 153 #[.slice A n cap, .int .i64 (n : Int), ptrTo s, ptrTo c] w fun e w' => e = .returned (optV (sdec st ch bs)) ∧ Turn nowhere w w' := by
  unfold ptrTo
  have HS := Lib.hid hs
  have HC := Lib.hid hc
  have HL := Lib.hid hl
  have HB := Lib.hid hb
  have HN := Lib.hid hn
  have HCH := Lib.hid hch
  clear hs hc hl hb hn hch
  go_enter Tryz.func153, Tryz.ntmps153
  go_upto_region 1 with fail
  refine wp_region_lit ?_
  refine wR (v := .int .i64 (n : Int)) rfl (exec_move rfl rfl) ?_
  simp only [Act.put, zzA, zz0, zz1]
  refine wR (v := .slice (some ⟨w.heap.size, 0, none⟩) n n) (w' := w.alloc (.cells (bcs (List.replicate n 0)).toArray 5)) rfl (exec_makeV rfl rfl rfl (make_bytes n n (Nat.le_refl _) (by have := HN.out; omega) w)) ?_
  simp only [Act.put, zzA, zz0, zz1]
  have hg := Blk.new w 5 (bcs (List.replicate n 0)).toArray
  have ht := (Turn.refl nowhere w).alloc (.cells (bcs (List.replicate n 0)).toArray 5)
  generalize (w.alloc (.cells (bcs (List.replicate n 0)).toArray 5)) = w1 at *
  obtain ⟨g, hgg⟩ : ∃ g, g = w.heap.size := ⟨_, rfl⟩
  rw [← hgg] at hg ⊢
  have HGG := Lib.hid hgg
  have hbl : bs.length = n := HB.out.1
  rw [← hbl, ← fill_zero (one st ch)] at hg
  have HG := Lib.hid hg
  have HT := Lib.hid ht
  have HBL := Lib.hid hbl
  clear hg ht hgg hbl
  go_wp2_with fail
  go_loopg [16] n (fun gk i wr => ∃ k : Nat, k + gk = n ∧ i = .int .i64 (k : Int) ∧ Blk wr g 5 (bcs (fillL (one st ch) bs k)).toArray ∧ Turn nowhere w wr ∧ ∀ x ∈ bs.take k, x ∈ st)
  case atStart => exact ⟨0, by omega, rfl, HG.out, HT.out, fun x hx => by simp at hx⟩
  case round =>
    obtain ⟨k, hkl, rfl, hblk, htr, hin⟩ := hrel
    have HKL := Lib.hid hkl
    have HBLK := Lib.hid hblk
    have HTR := Lib.hid htr
    have HIN := Lib.hid hin
    clear hkl hblk htr hin
    by_cases hlt : k < n
    · have y1 : (k : Int) < (n : Int) := by omega
      have y2 : (0 : Int) ≤ (k : Int) := by omega
      have y3 : (n : Int) ≤ 1000 := by have := HN.out; omega
      obtain ⟨h1, h2, h3⟩ := bs_turn HB.out HTR.out
      obtain ⟨b, off, rfl, hcell⟩ := h3 (by omega)
      have hcell := hcell k hlt
      have hkb : k < bs.length := by rw [HBL.out]; exact hlt
      have HKB := Lib.hid hkb
      have HLT := Lib.hid hlt
      have hmem : bs.getD k 0 ∈ bs := by
        rw [List.getD_eq_getElem?_getD, List.getElem?_eq_getElem hkb]
        exact List.getElem_mem _
      have HMEM := Lib.hid hmem
      have HX := Lib.hid (show bs.getD k 0 = bs.getD k 0 from rfl)
      have cs : wr.cell? ⟨s, 0, none⟩ = some (strV st) := (HS.out.turn HTR.out (fun e => e)).cell 0
      have cc : wr.cell? ⟨c, 0, none⟩ = some (strV ch) := (HC.out.turn HTR.out (fun e => e)).cell 0
      obtain ⟨x, hx⟩ : ∃ x, x = bs.getD k 0 := ⟨_, rfl⟩
      rw [← hx] at hcell
      have HXK := Lib.hid hx
      have hiw := index_walk st x
      clear hlt h1 h2 h3 hkb hmem hx
      rcases index_cases st x with ⟨hm, he, hi⟩ | ⟨hm, he⟩
      · have hone : one st ch x = ch.getD (st.idxOf x) 0 := rfl
        rw [he] at hiw
        generalize st.idxOf x = ix at *
        have HONE := Lib.hid hone
        have HM := Lib.hid hm
        have HIX := Lib.hid hi
        have y5 : ¬ ((ix : Int) < 0) := by omega
        clear hone hm he hi
        go_upto_region 8 with (go_at_call 147; refine (hiw _).mono ?_; rintro e w5 ⟨rfl, rfl⟩)
        refine wp_region_lit ?_
        refine wR (v := .slice (some ⟨g, 0, none⟩) n n) rfl (exec_move rfl rfl) ?_
        simp only [Act.put, zzA, zz0, zz1]
        refine wR (v := .int .i64 (k : Int)) rfl (exec_move rfl rfl) ?_
        simp only [Act.put, zzA, zz0, zz1]
        refine wR (v := strV ch) rfl (exec_load1 rfl rfl (by kernel_rfl) cc) ?_
        simp only [Act.put, zzA, zz0, zz1]
        refine wR (v := .int .i64 (ix : Int)) rfl (exec_move rfl rfl) ?_
        simp only [Act.put, zzA, zz0, zz1]
        refine wR (v := .int .u8 ((one st ch x).toNat : Int)) rfl (by rw [HONE.out]; exact exec_sidx rfl rfl rfl (by rw [← HL.out]; exact HIX.out)) ?_
        simp only [Act.put, zzA, zz0, zz1]
        have g0 : ∃ u, w5.cell? ⟨g, k, none⟩ = some u := ⟨_, (HBLK.out.cell k).trans (Array.getElem?_eq_getElem (by have := HKB.out; rw [List.size_toArray, bcs_length, fill_len _ _ _ (by omega)]; exact this))⟩
        obtain ⟨u, g0⟩ := g0
        have g1 := HBLK.out.frozen k
        generalize hz : one st ch x = z at *
        have HZ := Lib.hid hz
        clear hz
        go_wp2_with fail
        go_roundg (gk - 1)
        case measure => have := HKL.out; have := HLT.out; omega
        case rel =>
          refine ⟨k + 1, by have := HKL.out; have := HLT.out; omega, by go_num, ?_, ?_, ?_⟩
          · have h := HBLK.out.set_ k (.int .u8 (z.toNat : Int))
            rw [bcs_set, ← HZ.out, HXK.out, fill_set (one st ch) bs k HKB.out] at h
            rw [HXK.out] at HZ
            rw [← HZ.out]
            exact h
          · exact HTR.out.setCell (p := ⟨g, k, none⟩) (fun hb => by have := HGG.out; have hb' : g < w.heap.size := hb; omega) _
          · intro y hy
            rw [List.take_add_one, List.mem_append] at hy
            rcases hy with hy | hy
            · exact HIN.out y hy
            · rw [List.getElem?_eq_getElem HKB.out] at hy
              have hxk := HXK.out
              rw [List.getD_eq_getElem?_getD, List.getElem?_eq_getElem HKB.out] at hxk
              simp at hy hxk
              rw [hy, ← hxk]
              exact HM.out
      · rw [he] at hiw
        have HM := Lib.hid hm
        have HNO := Lib.hid (show sdec st ch bs = none from by
          unfold sdec
          rw [if_neg]
          intro h
          exact hm (by rw [HXK.out]; exact onlyOf_mem h HMEM.out))
        clear hm he
        go_wp2_with (go_at_call 147; refine (hiw _).mono ?_; rintro e w5 ⟨rfl, rfl⟩)
        go_ret2
        rw [HNO.out]
        exact ⟨rfl, HTR.out⟩
    · have hke : k = n := by have := HKL.out; omega
      have y1 : ¬ ((k : Int) < (n : Int)) := by omega
      subst hke
      have HALL := Lib.hid (show sdec st ch bs = some (bs.map (one st ch)) from by
        unfold sdec
        rw [if_pos]
        unfold onlyOf
        rw [List.all_eq_true]
        intro x hx
        have := HIN.out x (by rw [List.take_of_length_le (by rw [HBL.out]; exact Nat.le_refl _)]; exact hx)
        simpa using this)
      have hblk := HBLK.out
      rw [← HBL.out, fill_all] at hblk
      have hbsA : Bs wr (some ⟨g, 0, none⟩) k (bs.map (one st ch)) := (Row.bs (n := k) (by exact hblk) (by rw [List.length_map, HBL.out]; exact Nat.le_refl _) (by have := HN.out; unfold maxLen; omega)) |> fun h => by rwa [List.take_of_length_le (by rw [List.length_map, HBL.out]; exact Nat.le_refl _)] at h
      clear hlt hblk
      go_upto_region 10 with fail
      refine wp_region_lit ?_
      refine wR (v := .slice (some ⟨g, 0, none⟩) k k) rfl (exec_move rfl rfl) ?_
      simp only [Act.put, zzA, zz0, zz1]
      refine wR (v := strV (bs.map (one st ch))) (w' := wr) rfl (exec_strBs rfl rfl hbsA) ?_
      simp only [Act.put, zzA, zz0, zz1]
      go_wp2_with fail
      go_ret2
      rw [HALL.out]
      exact ⟨rfl, HTR.out⟩
end Go.Proofs.YticofobhkmabiaaGreatDoor
