/-
  Several texts in one file, in their order:
  - SLICES THAT READ AS BYTES: what a walk is told of a []byte; that it reads so still behind new blocks; a new block; from the reading of an argument to it. No conditions of its own; it imports nothing of the program.
  - A ROW OF BYTES THAT THE CALL ITSELF MADE: what it holds, and append of a slice of bytes onto it, the source nil or not. Condition: the sum of the two lengths is at most 2^47.
  - A BLOCK OF BYTES THAT IS KNOWN WHOLE: its cells, a store into it, what is kept of it. No conditions.
  - WHAT A CALL TURNS: a world that is as it was but for some blocks and new ones; a block of cells, a block that is a map. No conditions; it imports nothing of the program.
  - SMALL WALKS OF plant: has, refuse, refusePlace, step, Fuse, On, Steps, Len. Condition: the plant's block and its disks' block are known whole.
  - A MAP AS A FUNCTION: a block that is a map whose keys and elements are of known shapes, told by a function from keys to elements; look-up, store, copy, what keeps it. No conditions; it imports nothing of the program.
  - VALUES THAT ARE BUILT OF PARTS OF SEVERAL CELLS: a slice of one element; a struct. No conditions; it imports nothing of the program.
  - A REGION THAT DRAWS ITS ORDER AND WRITES AT ITS END WHAT IT READ: reads are taken first under a fact S on the world, which is owed only till operation k (which waits for them) has come up. No conditions; it imports nothing of the program.
  - plant's disks: what a disk is in memory
  - STORES OF SEVERAL CELLS into a block that is known whole. No conditions; it imports nothing of the program.
  - plant's disks: reading, forgetting
  - plant's disks: a copy of one map over another; flush
  - plant's disks: what a boot makes of the first write that waits
  - A PLANT IN MEMORY: its blocks, its disks, told by plain data. No conditions.
  - plant's Read, Write, Flush, from a plant in memory to one. Conditions: the bytes that are written read as bytes; no more than 2^40 writes.
  - plant's Write and Flush
  - plant's Write, where it is done; Flush
  - plant's Flush, Fuse, On, Steps, Len, from a plant in memory to one
  - plant's longestWaiting
  - what a boot makes of the writes that wait: the pure part, and one step of it in memory
  - plant's Boot. Conditions: what is kept reads as ints in a block that is none of the plant's; no more than 2^40 writes.
  - plant's New. Condition: the sizes read as ints.
  - groatlaw03's full and shown
  - strings out of bytes, and shown: the document's examples. No conditions.
  - A plant among kept blocks: what a law has behind each of its calls. No conditions.
  - The reference plant's has and Len. No conditions.
  - Operations in general: an element's address, a new variable, a build of four, a store into the middle of a block. No conditions; it imports nothing of the program.
  - The reference plant's step and Fuse, at its cells. Condition: its steps are fewer than 2^62.
  - Frames on a line, in plain data: how a line is split, and its mathematics. No conditions; it imports nothing of the program.
  - A REGION THAT DRAWS ITS ORDER AND NEVER BREAKS A FACT S: reads are taken first, whichever way they wait for one another; calls behind. No conditions; it imports nothing of the program.
-/
import Derived.WalkKit
import Derived.ProofKit
import Derived.Below
import Derived.Lib.Hide
import Derived.Laws.AppendOwnNone
import Derived.OwnWalk
import Derived.Deep.Draws
import Derived.Outline
import Derived.StillTailTactics
import Derived.Laws.Rows
import Derived.Test.YteedjfgandgbkaaProg
import Derived.Deep.QuietTactic
import Derived.BigQuiet
import Derived.WalkSmall
import Derived.Maps.Own
import Derived.Maps.OwnSet
import Derived.Maps.Ext
import Derived.Maps.RangeWalk
import Derived.Laws.Tables
import Derived.Deep.RegionHeld3
import Derived.Deep.MidRow
import Derived.StillTail
import Derived.Maps.AppendAt
import Derived.Carry
import Derived.Deep.Cut
import Derived.Laws.CopyOwn
import Derived.BigGuardPart
import Derived.Deep.LoopGhost
import Derived.Laws.BitsAllLaws
import Derived.Laws.BitsLemmas
import Derived.Laws.BytesString
import Derived.Laws.IdiomStrings
import Derived.Laws.Concat
import Derived.Laws.Strings
namespace Go.Proofs.Yteedjfgandgbkaa
open Go.RowKit Go.ChangeShapes Go.WideShapes Go.ChangeAt
/-- a slice that reads as bytes -/
def Bs (w : World) (a : Option Addr) (len : Nat) (bs : List UInt8) : Prop :=
  bs.length = len ∧ len ≤ maxLen ∧ (0 < len → ∃ b off, a = some ⟨b, off, none⟩ ∧ ∀ i, i < len → w.cell? ⟨b, off + i, none⟩ = some (.int .u8 ((bs.getD i 0).toNat : Int)))
theorem ret_int {k : IntKind} {a b : Int} (h : a = b) : Ending.returned (.int k a) = .returned (.int k b) := by rw [h]
theorem ret_bool {a b : Bool} (h : a = b) : Ending.returned (.bool a) = .returned (.bool b) := by rw [h]
theorem bs_below {w w' : World} {a : Option Addr} {len : Nat} {bs : List UInt8} (h : Bs w a len bs) (hb : Below w.heap.size w w') : Bs w' a len bs := by
  obtain ⟨h1, h2, h3⟩ := h
  refine ⟨h1, h2, fun hp => ?_⟩
  obtain ⟨b, off, e, hc⟩ := h3 hp
  refine ⟨b, off, e, fun i hi => ?_⟩
  rw [hb.cell (World.block_lt_of_cell? _ _ (hc i hi))]
  exact hc i hi
theorem bs_nil (w : World) (a : Option Addr) : Bs w a 0 [] := ⟨rfl, Nat.zero_le _, fun h => by omega⟩
def byteCells (bs : List UInt8) : Array Value := (bs.map fun x => Value.int .u8 (x.toNat : Int)).toArray
theorem byteCells_at (bs : List UInt8) (i : Nat) (h : i < bs.length) : (byteCells bs)[i]? = some (.int .u8 ((bs.getD i 0).toNat : Int)) := by
  unfold byteCells
  rw [List.getElem?_toArray, List.getElem?_map, List.getD_eq_getElem?_getD, List.getElem?_eq_getElem h]
  rfl
theorem bs_new (w : World) (bs : List UInt8) (e : TypeId) (frozen : Nat × Nat) (k : Nat) (hk : k = w.heap.size) (hm : bs.length ≤ maxLen) : Bs (w.alloc (.cells (byteCells bs) e frozen)) (some ⟨k, 0, none⟩) bs.length bs := by
  subst hk
  refine ⟨rfl, hm, fun _ => ⟨_, _, rfl, fun i hi => ?_⟩⟩
  rw [← byteCells_at bs i hi]
  have hb : (w.alloc (.cells (byteCells bs) e frozen)).heap[w.heap.size]? = some (.cells (byteCells bs) e frozen) := by
    show (w.heap.push _)[w.heap.size]? = _
    simp
  simp only [World.cell?, hb, Nat.zero_add]
  rfl
theorem below_new (w : World) (o : Obj) : Below w.heap.size w (w.alloc o) := (Below.refl _ _).alloc (Nat.le_refl _) o
/-- from the reading of a []byte argument -/
theorem bs_of_ints {w : World} {x : Addr} {len cap : Nat} {zs : List Int} (hl : len ≤ cap) (hm : cap ≤ maxLen) (hz : zs.length = cap)
    (hcell : ∀ i, i < zs.length → w.cell? (x.add i) = some (.int .u8 (zs.getD i 0))) (hwz : ∀ n ∈ zs, (Lit.int IntKind.u8 n).wf = true) :
    Bs w (some x) len ((zs.take len).map fun z => UInt8.ofNat z.toNat) := by
  refine ⟨by simp; omega, Nat.le_trans hl hm, fun hp => ?_⟩
  obtain ⟨b, off, spot⟩ := x
  have hc := hcell 0 (by omega)
  have hspot : spot = none := by simpa [Addr.add] using World.cell?_spot hc
  subst hspot
  refine ⟨b, off, rfl, fun i hi => ?_⟩
  have h := hcell i (by omega)
  have hmem : zs.getD i 0 ∈ zs := by
    rw [List.getD_eq_getElem?_getD, List.getElem?_eq_getElem (by omega)]
    exact List.getElem_mem _
  have hw := hwz _ hmem
  have he : ((zs.take len).map fun z => UInt8.ofNat z.toNat).getD i 0 = UInt8.ofNat (zs.getD i 0).toNat := by
    rw [List.getD_eq_getElem?_getD, List.getElem?_map, List.getElem?_take, if_pos hi, List.getD_eq_getElem?_getD, List.getElem?_eq_getElem (by omega)]
    rfl
  rw [he]
  have hr : 0 ≤ zs.getD i 0 ∧ zs.getD i 0 ≤ 255 := by
    simpa [Lit.wf, IntKind.min, IntKind.max, IntKind.signed, IntKind.bits] using hw
  have h2 : ((UInt8.ofNat (zs.getD i 0).toNat).toNat : Int) = zs.getD i 0 := by
    rw [UInt8.toNat_ofNat']
    omega
  rw [h2]
  have hadd : (⟨b, off, none⟩ : Addr).add i = ⟨b, off + i, none⟩ := by
    by_cases h0 : i = 0 <;> simp [Addr.add, h0]
  rw [← hadd]
  exact h
theorem bs_of_none (w : World) : Bs w none 0 [] := bs_nil w none
theorem u32_nat {x : Int} (h : (Lit.int .u32 x).wf = true) : ∃ n : Nat, x = (n : Int) ∧ n < 4294967296 := by
  have hr : 0 ≤ x ∧ x ≤ 4294967295 := by
    simpa [Lit.wf, IntKind.min, IntKind.max, IntKind.signed, IntKind.bits] using h
  exact ⟨x.toNat, by omega, by omega⟩
theorem i64_in {x : Int} (h : (Lit.int .i64 x).wf = true) : -9223372036854775808 ≤ x ∧ x ≤ 9223372036854775807 := by
  simpa [Lit.wf, IntKind.min, IntKind.max, IntKind.signed, IntKind.bits] using h
end Go.Proofs.Yteedjfgandgbkaa

namespace Go.Proofs.Yteedjfgandgbkaa
open Go.RowKit
/-- bytes as cells -/
def bcs (bs : List UInt8) : List Value := bs.map fun x => Value.int .u8 (x.toNat : Int)
theorem bcs_length (bs : List UInt8) : (bcs bs).length = bs.length := List.length_map ..
theorem bcs_append (a b : List UInt8) : bcs (a ++ b) = bcs a ++ bcs b := List.map_append ..
theorem bcs_at (bs : List UInt8) (i : Nat) (h : i < bs.length) : (bcs bs)[i]? = some (.int .u8 ((bs.getD i 0).toNat : Int)) := by
  unfold bcs
  rw [List.getElem?_map, List.getD_eq_getElem?_getD, List.getElem?_eq_getElem h]
  rfl
theorem bcs_one (bs : List UInt8) : ∀ u ∈ bcs bs, u.oneCell' = true := fun u hu => by
  obtain ⟨_, _, rfl⟩ := List.mem_map.1 hu
  rfl
/-- v is a row of the call's own, from block B on, that holds these bytes -/
def Own (w : World) (B : Nat) (e : TypeId) (v : Value) (bs : List UInt8) : Prop := w.ownsRow B e 1 v bs.length (bcs bs)
theorem add_nat (b off i : Nat) : (⟨b, off, none⟩ : Addr).add i = ⟨b, off + i, none⟩ := by
  by_cases h0 : i = 0 <;> simp [Addr.add, h0]
theorem Own.form {w : World} {B : Nat} {e : TypeId} {v : Value} {bs : List UInt8} (h : Own w B e v bs) : ∃ a n c, v = .slice a n c ∧ Bs w a n bs ∧ n ≤ c ∧ (a = none → c = 0) := by
  obtain ⟨_, h2⟩ := id h
  rcases h2 with ⟨rfl, h0⟩ | ⟨g, cap, cur, rfl, hb, hg, hn, hm, hs, ht⟩
  · have hb : bs = [] := List.eq_nil_of_length_eq_zero h0
    subst hb
    exact ⟨none, 0, 0, rfl, bs_nil w none, Nat.le_refl _, fun _ => rfl⟩
  · refine ⟨_, _, _, rfl, ⟨rfl, Nat.le_trans hn hm, fun _ => ⟨g, 0, rfl, fun i hi => ?_⟩⟩, hn, fun h => by cases h⟩
    have hc := World.ownsRow.cells (g := g) h rfl i _ (bcs_at bs i hi)
    rw [add_nat] at hc
    exact hc
theorem Own.empty (w : World) (B : Nat) (e : TypeId) (hB : B ≤ w.heap.size) : Own (w.alloc (.cells #[] e)) B e (.slice (some ⟨w.heap.size, 0, none⟩) 0 0) [] :=
  World.ownsRow_made w #[] 0 hB (Nat.zero_le _) rfl
theorem Own.below {w w' : World} {B C : Nat} {e : TypeId} {v : Value} {bs : List UInt8} (h : Own w B e v bs) (hb : Below C w w') (hC : w.heap.size ≤ C) : Own w' B e v bs := by
  refine ⟨h.1, ?_⟩
  rcases h.2 with hn | ⟨g, cap, cur, rfl, hb1, hgg, rest⟩
  · exact .inl hn
  · have hlt : g < w.heap.size := (Array.getElem?_eq_some_iff.1 hgg).1
    exact .inr ⟨g, cap, cur, rfl, hb1, by rw [hb.block g (by omega)]; exact hgg, rest⟩
theorem wp_append_bytes {P : Program} (w : World) {o : Oper} {a : Act} {K : Act → World → Prop} {Q : Exit → Act → World → Prop} (s x : Operand) (t : TypeId)
    (ho : o.op = .call { callee := .builtin .append, args := #[s, x], argTypes := #[t, t] })
    (B : Nat) (e : TypeId) (hinfo : (P.info? e).map (fun i => (i.zero, i.size, i.bytes)) = some (some (.int .u8 0), 1, 1)) (ht : P.underlying t = some (.slice e))
    (v : Value) (olds : List UInt8) (hs : a.eval s = v) (hown : Own w B e v olds)
    (A : Option Addr) (m c : Nat) (news : List UInt8) (hx : a.eval x = .slice A m c) (hb : Bs w A m news) (hc : A = none → c = 0)
    (hsum : olds.length + m ≤ 140737488355328) (hbase : B ≤ w.heap.size)
    (h : ∀ v' w', Own w' B e v' (olds ++ news) → Below B w w' → K (a.put o.dst v') w') : o.wp P a w K Q := by
  obtain ⟨i0, hi0, hz0, hz1, hz2⟩ := info_parts hinfo
  obtain ⟨hl, hm, hcell⟩ := hb
  rcases A with _ | ad
  · obtain rfl := hc rfl
    have hm0 : m = 0 := by
      rcases Nat.eq_zero_or_pos m with h0 | h0
      · exact h0
      · obtain ⟨_, _, h1, _⟩ := hcell h0; cases h1
    subst hm0
    have hn : news = [] := List.eq_nil_of_length_eq_zero hl
    subst hn
    rw [List.append_nil] at h
    have hrun := run_append_owned_none (P := P) (w := w) B t o.type e i0 1 ht hi0 v _ _ hown
    unfold Oper.wp
    simp [execOp, ho, resolve, invoke, builtin, hs, hx, hrun, Result.andThen]
    exact h v w hown (Below.refl _ _)
  · refine wp_append_own w s x t ho B e i0 _ 1 1 ht hi0 hz0 hz1 hz2 rfl (by omega) v _ _ hs hown ad m c (bcs news) hx (by rw [bcs_length, hl, Nat.mul_one]) ?_ (bcs_one news) (by simp only [maxLen]; omega) (by omega) hbase ?_
    · intro j u hu
      have hj : j < news.length := by
        have := (List.getElem?_eq_some_iff.1 hu).1
        rwa [bcs_length] at this
      obtain ⟨b, off, e1, hcc⟩ := hcell (by omega)
      injection e1 with e1
      subst e1
      rw [bcs_at news j hj] at hu
      injection hu with hu
      subst hu
      rw [add_nat]
      exact hcc j (by omega)
    · intro v' w' ho' hg _
      refine h v' w' ?_ ((Below.refl _ _).grown hg hbase fun k hk => (hown.lt k hk).1)
      unfold Own
      rw [List.length_append, bcs_append, hl]
      exact ho'
theorem wpList_append_bytes {P : Program} (w : World) {ops : Array Oper} {rest : List Oper} {o : Oper} {a : Act} {Q : Exit → Act → World → Prop} (hgd : Region.wanted o (yielded ops a.tmps) = true) (s x : Operand) (t : TypeId)
    (ho : o.op = .call { callee := .builtin .append, args := #[s, x], argTypes := #[t, t] })
    (B : Nat) (e : TypeId) (hinfo : (P.info? e).map (fun i => (i.zero, i.size, i.bytes)) = some (some (.int .u8 0), 1, 1)) (ht : P.underlying t = some (.slice e))
    (v : Value) (olds : List UInt8) (hs : a.eval s = v) (hown : Own w B e v olds)
    (A : Option Addr) (m c : Nat) (news : List UInt8) (hx : a.eval x = .slice A m c) (hb : Bs w A m news) (hc : A = none → c = 0)
    (hsum : olds.length + m ≤ 140737488355328) (hbase : B ≤ w.heap.size)
    (h : ∀ v' w', Own w' B e v' (olds ++ news) → Below B w w' → wpList P ops Q rest (a.put o.dst v') w') : wpList P ops Q (o :: rest) a w :=
  wpList_step fun K hK => by
    rw [if_pos hgd]
    exact wp_append_bytes w s x t ho B e hinfo ht v olds hs hown A m c news hx hb hc hsum hbase fun v' w' h1 h2 => hK _ _ (h v' w' h1 h2)
end Go.Proofs.Yteedjfgandgbkaa

namespace Go.Proofs.Yteedjfgandgbkaa
open Go.RowKit
/-- block g is just these bytes, none frozen -/
def Row (w : World) (g : Nat) (e : TypeId) (bs : List UInt8) : Prop := w.heap[g]? = some (.cells (byteCells bs) e (0, 0))
theorem Row.lt {w : World} {g : Nat} {e : TypeId} {bs : List UInt8} (h : Row w g e bs) : g < w.heap.size := (Array.getElem?_eq_some_iff.1 h).1
theorem Row.cell {w : World} {g : Nat} {e : TypeId} {bs : List UInt8} (h : Row w g e bs) (i : Nat) (hi : i < bs.length) : w.cell? ⟨g, i, none⟩ = some (.int .u8 ((bs.getD i 0).toNat : Int)) := by
  rw [← byteCells_at bs i hi]
  unfold Row at h
  simp only [World.cell?, h]
  rfl
theorem Row.frozen {w : World} {g : Nat} {e : TypeId} {bs : List UInt8} (h : Row w g e bs) (i : Nat) : w.frozen? ⟨g, i, none⟩ = false := by
  unfold Row at h
  simp [World.frozen?, h]
theorem Row.drew {w : World} {g : Nat} {e : TypeId} {bs : List UInt8} (h : Row w g e bs) : Row w.drew g e bs := h
theorem byteCells_set (bs : List UInt8) (i : Nat) (x : UInt8) : (byteCells bs).setIfInBounds i (.int .u8 (x.toNat : Int)) = byteCells (bs.set i x) := by
  unfold byteCells
  apply Array.ext'
  simp [List.map_set]
theorem Row.set {w : World} {g : Nat} {e : TypeId} {bs : List UInt8} (h : Row w g e bs) (i : Nat) (x : UInt8) : Row (w.setCell ⟨g, i, none⟩ (.int .u8 (x.toNat : Int))) g e (bs.set i x) := by
  unfold Row at h ⊢
  rw [← byteCells_set]
  simp [World.setCell, Array.getElem?_modify, h]
theorem Row.below {w w' : World} {g B : Nat} {e : TypeId} {bs : List UInt8} (h : Row w g e bs) (hb : Below B w w') (hg : g < B) : Row w' g e bs := (hb.block g hg).trans h
theorem Row.new (w : World) (e : TypeId) (bs : List UInt8) : Row (w.alloc (.cells (byteCells bs) e)) w.heap.size e bs := heap_alloc_new w _
theorem Row.bs {w : World} {g : Nat} {e : TypeId} {bs : List UInt8} (h : Row w g e bs) {n : Nat} (hn : n ≤ bs.length) (hm : n ≤ maxLen) : Bs w (some ⟨g, 0, none⟩) n (bs.take n) := by
  refine ⟨by rw [List.length_take]; omega, hm, fun _ => ⟨g, 0, rfl, fun i hi => ?_⟩⟩
  have hc := h.cell i (by omega)
  rw [Nat.zero_add, hc, List.getD_eq_getElem?_getD, List.getD_eq_getElem?_getD, List.getElem?_take, if_pos hi]
theorem madeBytes (n : Nat) : madeCells (Value.int .u8 0).cells n = byteCells (List.replicate n 0) := by
  unfold madeCells byteCells
  apply Array.ext'
  simp [Value.cells]
  apply List.ext_getElem
  · simp
  · intro i h1 h2
    simp [Nat.mod_one]
/-- block g begins with these bytes, none of it is frozen -/
def Head (w : World) (g : Nat) (e : TypeId) (bs : List UInt8) : Prop :=
  ∃ cur, w.heap[g]? = some (.cells cur e (0, 0)) ∧ bs.length ≤ cur.size ∧ ∀ i, i < bs.length → cur[i]? = some (Value.int .u8 ((bs.getD i 0).toNat : Int))
theorem Head.lt {w : World} {g : Nat} {e : TypeId} {bs : List UInt8} (h : Head w g e bs) : g < w.heap.size := by
  obtain ⟨cur, h1, _⟩ := h
  exact (Array.getElem?_eq_some_iff.1 h1).1
theorem Head.cell {w : World} {g : Nat} {e : TypeId} {bs : List UInt8} (h : Head w g e bs) (i : Nat) (hi : i < bs.length) : w.cell? ⟨g, i, none⟩ = some (.int .u8 ((bs.getD i 0).toNat : Int)) := by
  obtain ⟨cur, h1, _, h3⟩ := h
  rw [← h3 i hi]
  simp only [World.cell?, h1]
  rfl
theorem Head.frozen {w : World} {g : Nat} {e : TypeId} {bs : List UInt8} (h : Head w g e bs) (i : Nat) : w.frozen? ⟨g, i, none⟩ = false := by
  obtain ⟨cur, h1, _⟩ := h
  simp [World.frozen?, h1]
theorem Head.drew {w : World} {g : Nat} {e : TypeId} {bs : List UInt8} (h : Head w g e bs) : Head w.drew g e bs := h
theorem Head.set {w : World} {g : Nat} {e : TypeId} {bs : List UInt8} (h : Head w g e bs) (i : Nat) (x : UInt8) : Head (w.setCell ⟨g, i, none⟩ (.int .u8 (x.toNat : Int))) g e (bs.set i x) := by
  obtain ⟨cur, h1, h2, h3⟩ := h
  refine ⟨cur.setIfInBounds i (.int .u8 (x.toNat : Int)), by simp [World.setCell, Array.getElem?_modify, h1], by simpa using h2, fun j hj => ?_⟩
  rw [List.length_set] at hj
  rw [Array.getElem?_setIfInBounds, List.getD_eq_getElem?_getD, List.getElem?_set]
  by_cases e1 : i = j
  · subst e1
    have : i < cur.size := by omega
    simp [this, hj]
  · rw [if_neg e1, if_neg e1, h3 j hj, List.getD_eq_getElem?_getD]
theorem Head.below {w w' : World} {g B : Nat} {e : TypeId} {bs : List UInt8} (h : Head w g e bs) (hb : Below B w w') (hg : g < B) : Head w' g e bs := by
  obtain ⟨cur, h1, h2⟩ := h
  exact ⟨cur, (hb.block g hg).trans h1, h2⟩
theorem Head.bs {w : World} {g : Nat} {e : TypeId} {bs : List UInt8} (h : Head w g e bs) {n : Nat} (hn : bs.length = n) (hm : n ≤ maxLen) : Bs w (some ⟨g, 0, none⟩) n bs := by
  refine ⟨hn, hm, fun _ => ⟨g, 0, rfl, fun i hi => ?_⟩⟩
  rw [Nat.zero_add]
  exact h.cell i (by omega)
/-- an owned row that is not empty begins with its bytes -/
theorem Own.head {w : World} {B : Nat} {e : TypeId} {v : Value} {bs : List UInt8} (h : Own w B e v bs) (hp : 0 < bs.length) : ∃ g c, v = .slice (some ⟨g, 0, none⟩) bs.length c ∧ B ≤ g ∧ Head w g e bs := by
  obtain ⟨_, h2⟩ := id h
  rcases h2 with ⟨rfl, h0⟩ | ⟨g, cap, cur, rfl, hb, hg, hn, hm, hs, ht⟩
  · omega
  · refine ⟨g, cap, rfl, hb, cur, hg, by omega, fun i hi => ?_⟩
    rw [← bcs_at bs i hi, ← ht, List.getElem?_take, if_pos (by omega), Array.getElem?_toList]
end Go.Proofs.Yteedjfgandgbkaa

namespace Go.Proofs.Yteedjfgandgbkaa
open Go.RowKit
/-- w' is w but for the blocks of F, and new ones -/
structure Turn (F : Nat → Prop) (w w' : World) : Prop where
  os : w'.os = w.os
  tape : w'.tape = w.tape
  output : w'.output = w.output
  size : w.heap.size ≤ w'.heap.size
  block : ∀ k, k < w.heap.size → ¬ F k → w'.heap[k]? = w.heap[k]?
def nowhere : Nat → Prop := fun _ => False
section
variable {F G : Nat → Prop} {w w1 w' : World}
theorem Turn.refl (F : Nat → Prop) (w : World) : Turn F w w := ⟨rfl, rfl, rfl, Nat.le_refl _, fun _ _ _ => rfl⟩
theorem Turn.mono (h : Turn F w w') (hf : ∀ k, k < w.heap.size → F k → G k) : Turn G w w' :=
  ⟨h.os, h.tape, h.output, h.size, fun k hk hn => h.block k hk fun hF => hn (hf k hk hF)⟩
theorem Turn.trans (h : Turn F w w1) (g : Turn G w1 w') (hg : ∀ k, k < w.heap.size → G k → F k) : Turn F w w' :=
  ⟨g.os.trans h.os, g.tape.trans h.tape, g.output.trans h.output, Nat.le_trans h.size g.size,
    fun k hk hn => (g.block k (Nat.lt_of_lt_of_le hk h.size) fun hG => hn (hg k hk hG)).trans (h.block k hk hn)⟩
theorem Turn.drew (h : Turn F w w') : Turn F w w'.drew := ⟨h.os, h.tape, h.output, h.size, h.block⟩
theorem Turn.drewN (h : Turn F w w') (n : Nat) : Turn F w (w'.drewN n) := ⟨h.os, h.tape, h.output, h.size, h.block⟩
theorem Turn.alloc (h : Turn F w w') (o : Obj) : Turn F w (w'.alloc o) :=
  ⟨h.os, h.tape, h.output, Nat.le_trans h.size (by simp), fun k hk hn => (Below.heap_alloc w' o k (Nat.lt_of_lt_of_le hk h.size)).trans (h.block k hk hn)⟩
theorem Turn.setCell (h : Turn F w w') {p : Addr} (hp : p.block < w.heap.size → F p.block) (u : Value) : Turn F w (w'.setCell p u) :=
  ⟨h.os, h.tape, h.output, by simpa [World.setCell] using h.size, fun k hk hn => (heap_setCell_other w' p k u (by
    rintro rfl
    exact hn (hp hk))).trans (h.block k hk hn)⟩
theorem Turn.grown (h : Turn F w w1) {row : Option Nat} (hg : w1.grownBy w' row) (hr : ∀ g, row = some g → g < w.heap.size → F g) : Turn F w w' :=
  ⟨hg.os.trans h.os, hg.tape.trans h.tape, hg.output.trans h.output, Nat.le_trans h.size hg.size,
    fun k hk hn => (hg.block k (Nat.lt_of_lt_of_le hk h.size) fun e => hn (hr k e.symm hk)).trans (h.block k hk hn)⟩
theorem Turn.of_below {B : Nat} (h : Below B w w') (hB : w.heap.size ≤ B) : Turn nowhere w w' := ⟨h.os, h.tape, h.output, h.size, fun k hk _ => h.block k (by omega)⟩
theorem Turn.below (h : Turn F w w') {B : Nat} (hB : B ≤ w.heap.size) (hF : ∀ k, k < B → ¬ F k) : Below B w w' :=
  ⟨h.os, h.tape, h.output, h.size, fun k hk => h.block k (by omega) (hF k hk)⟩
theorem Turn.cell (h : Turn F w w') {p : Addr} (hp : p.block < w.heap.size) (hn : ¬ F p.block) : w'.cell? p = w.cell? p := World.cell?_of_block (h.block _ hp hn)
theorem Turn.frozen (h : Turn F w w') {p : Addr} (hp : p.block < w.heap.size) (hn : ¬ F p.block) : w'.frozen? p = w.frozen? p := World.frozen?_of_block (h.block _ hp hn)
end
/-- the one block p -/
def only (p : Nat) : Nat → Prop := fun k => k = p
theorem Turn.at_ {w w' : World} {p : Nat} (h : Turn (only p) w w') (i : Nat) (u : Value) : Turn (only p) w (w'.setCell ⟨p, i, none⟩ u) := h.setCell (p := ⟨p, i, none⟩) (fun _ => rfl) u
theorem Turn.grow1 {w w' : World} {p : Nat} (h : Turn (only p) w w') : w.grownBy w' (some p) := ⟨h.os, h.tape, h.output, h.size, fun k hk hn => h.block k hk fun e => hn (by rw [show k = p from e])⟩
/-- block g is just the cells cs of element type t, none frozen -/
def Blk (w : World) (g : Nat) (t : TypeId) (cs : Array Value) : Prop := w.heap[g]? = some (.cells cs t (0, 0))
section
variable {F : Nat → Prop} {w w' : World} {g : Nat} {t : TypeId} {cs : Array Value}
theorem Blk.lt (h : Blk w g t cs) : g < w.heap.size := (Array.getElem?_eq_some_iff.1 h).1
theorem Blk.cell (h : Blk w g t cs) (i : Nat) : w.cell? ⟨g, i, none⟩ = cs[i]? := cell_of_row w g i cs t (0, 0) h
theorem Blk.frozen (h : Blk w g t cs) (i : Nat) : w.frozen? ⟨g, i, none⟩ = false := by
  unfold Blk at h
  simp [World.frozen?, h]
theorem Blk.new (w : World) (t : TypeId) (cs : Array Value) : Blk (w.alloc (.cells cs t)) w.heap.size t cs := heap_alloc_new w _
theorem Blk.drew (h : Blk w g t cs) : Blk w.drew g t cs := h
theorem Blk.drewN (h : Blk w g t cs) (n : Nat) : Blk (w.drewN n) g t cs := h
theorem Blk.alloc (h : Blk w g t cs) (o : Obj) : Blk (w.alloc o) g t cs := (Below.heap_alloc w o g h.lt).trans h
theorem Blk.set_ (h : Blk w g t cs) (i : Nat) (u : Value) : Blk (w.setCell ⟨g, i, none⟩ u) g t (cs.setIfInBounds i u) := heap_setCell_same w g i cs t u h
theorem Blk.far (h : Blk w g t cs) {p : Addr} (hp : g ≠ p.block) (u : Value) : Blk (w.setCell p u) g t cs := (heap_setCell_other w p g u hp).trans h
theorem Blk.turn (h : Blk w g t cs) (ht : Turn F w w') (hn : ¬ F g) : Blk w' g t cs := (ht.block g h.lt hn).trans h
theorem Blk.grown {row : Option Nat} (h : Blk w g t cs) (hb : w.grownBy w' row) (hg : some g ≠ row) : Blk w' g t cs := (hb.block g h.lt hg).trans h
theorem Blk.ne_ {g' : Nat} {t' : TypeId} {cs' : Array Value} (h : Blk w g t cs) (h' : Blk w g' t' cs') (hne : t ≠ t') : g ≠ g' := by
  rintro rfl
  unfold Blk at h h'
  rw [h] at h'
  injection h' with h'
  injection h' with _ ht
  exact hne ht
theorem Blk.inj {t' : TypeId} {cs' : Array Value} (h : Blk w g t cs) (h' : Blk w g t' cs') : cs = cs' := by
  unfold Blk at h h'
  rw [h] at h'
  injection h' with h'
  injection h' with e
end
/-- a step of a quiet region whose run is known -/
theorem wpStill_run {P : Program} {ops : Array Oper} {w : World} {Q : Act → Prop} {a : Act} {o : Oper} {rest : List Oper} (hw : Region.wanted o (yielded ops a.tmps) = true) {v : Value}
    (hrun : (execOp a.eval o).run P w = .ok (.value v) w) (h : wpStill P ops w Q rest (a.put o.dst v)) : wpStill P ops w Q (o :: rest) a := by
  refine wpStill_step fun K hK => ?_
  rw [if_pos hw]
  unfold Oper.still
  rw [hrun, Oper.stillUpon_value]
  exact hK _ h
theorem wpStill_load {P : Program} {ops : Array Oper} {w : World} {Q : Act → Prop} {a : Act} {o : Oper} {rest : List Oper} (hw : Region.wanted o (yielded ops a.tmps) = true) (ty : TypeId) (x : Operand) (ho : o.op = .load ty x)
    (p v : Value) (hx : a.eval x = p) (hrun : (Instr.loadAt ty p).run P w = .ok v w) (h : wpStill P ops w Q rest (a.put o.dst v)) : wpStill P ops w Q (o :: rest) a :=
  wpStill_run hw (by
    unfold execOp
    simp only [ho, hx, hrun, Sem.run_bind, Sem.run_pure, Result.andThen_ok]) h
theorem cells_ne_map {w : World} {g b : Nat} {t : TypeId} {cs : Array Value} {es : Array MapEntry} {clock : Nat} (h : Blk w g t cs) (h' : w.heap[b]? = some (.map es clock)) : g ≠ b := by
  rintro rfl
  unfold Blk at h
  rw [h] at h'
  injection h' with h'
  cases h'
end Go.Proofs.Yteedjfgandgbkaa

namespace Go.Proofs.Yteedjfgandgbkaa
open Go.RowKit
set_option linter.unusedVariables false
/-- the cells of a Plant -/
def plantCells (db n c : Nat) (on : Bool) (fuse steps : Int) : Array Value := #[.slice (some ⟨db, 0, none⟩) n c, .bool on, .int .i64 fuse, .int .i64 steps]
section
variable (p db n c : Nat) (on : Bool) (fuse steps : Int) (dev place : Int) (w : World)
theorem has_yes (hb : Blk w p 55 (plantCells db n c on fuse steps)) (h1 : 0 ≤ dev) (h2 : dev < n) :
    Calls Try.prog 42 #[.pointer (some ⟨p, 0, none⟩), .int .i64 dev] w fun e w' => e = .returned (.bool true) ∧ w = w' := by
  have h0 : w.cell? ⟨p, 0, none⟩ = some (.slice (some ⟨db, 0, none⟩) n c) := hb.cell 0
  go_enter Try.func42, Try.ntmps42
  go_wp2
  go_ret
  exact ⟨rfl, rfl⟩
theorem has_no (hb : Blk w p 55 (plantCells db n c on fuse steps)) (h : ¬ (0 ≤ dev ∧ dev < n)) :
    Calls Try.prog 42 #[.pointer (some ⟨p, 0, none⟩), .int .i64 dev] w fun e w' => e = .returned (.bool false) ∧ w = w' := by
  have h0 : w.cell? ⟨p, 0, none⟩ = some (.slice (some ⟨db, 0, none⟩) n c) := hb.cell 0
  by_cases h1 : 0 ≤ dev
  · have h2 : (n : Int) ≤ dev := by omega
    clear h
    go_enter Try.func42, Try.ntmps42
    go_wp2
    go_ret
    exact ⟨ret_bool (by simp; omega), rfl⟩
  · have h1 : dev < 0 := by omega
    clear h
    go_enter Try.func42, Try.ntmps42
    go_wp2
    go_ret
    exact ⟨rfl, rfl⟩
/-- what refuse answers -/
def refuseCode (on : Bool) (n : Nat) (dev : Int) : Int := if on then (if 0 ≤ dev ∧ dev < n then 0 else 31) else 2
theorem refuse_any (hb : Blk w p 55 (plantCells db n c on fuse steps)) :
    Calls Try.prog 31 #[.pointer (some ⟨p, 0, none⟩), .int .i64 dev] w fun e w' => e = .returned (.int .i64 (refuseCode on n dev)) ∧ w = w' := by
  have h1 : w.cell? ⟨p, 1, none⟩ = some (.bool on) := hb.cell 1
  cases on
  · go_enter Try.func31, Try.ntmps31
    go_wp2_with fail
    go_ret
    exact ⟨rfl, rfl⟩
  · by_cases h : 0 ≤ dev ∧ dev < n
    · go_enter Try.func31, Try.ntmps31
      go_wp2_with (go_at_call 42; refine (has_yes p db n c _ fuse steps dev _ hb h.1 h.2).mono ?_; rintro e w' ⟨rfl, rfl⟩)
      go_ret
      exact ⟨by simp [refuseCode, h], rfl⟩
    · go_enter Try.func31, Try.ntmps31
      go_wp2_with (go_at_call 42; refine (has_no p db n c _ fuse steps dev _ hb h).mono ?_; rintro e w' ⟨rfl, rfl⟩)
      go_ret
      exact ⟨by simp [refuseCode, h], rfl⟩
theorem refusePlace_bad (hb : Blk w p 55 (plantCells db n c on fuse steps)) (k : Int) (hk : refuseCode on n dev = k) (h : k = 2 ∨ k = 31) :
    Calls Try.prog 26 #[.pointer (some ⟨p, 0, none⟩), .int .i64 dev, .int .i64 place] w fun e w' => e = .returned (.int .i64 k) ∧ w = w' := by
  have hq := fun w => refuse_any p db n c on fuse steps dev w
  rw [hk] at hq
  have Hq := Lib.hid hq
  clear hq hk
  rcases h with rfl | rfl
  all_goals
    go_enter Try.func26, Try.ntmps26
    go_wp2_with (go_at_call 31; refine (Hq.out _ hb).mono ?_; rintro e w' ⟨rfl, rfl⟩)
    go_ret
    exact ⟨rfl, rfl⟩
theorem refusePlace_good (C : Array Value) (s : Int) (dv : Nat) (hb : Blk w p 55 (plantCells db n c true fuse steps)) (hd : Blk w db 59 C) (h2 : dv < n)
    (hs : C[dv * 4]? = some (.int .i64 s)) (hn : n ≤ 4) :
    Calls Try.prog 26 #[.pointer (some ⟨p, 0, none⟩), .int .i64 (dv : Int), .int .i64 place] w fun e w' => e = .returned (.int .i64 (if 0 ≤ place ∧ place < s then 0 else 31)) ∧ w = w' := by
  have h0 : w.cell? ⟨p, 0, none⟩ = some (.slice (some ⟨db, 0, none⟩) n c) := hb.cell 0
  have h4 : w.cell? ⟨db, dv * 4, none⟩ = some (.int .i64 s) := (hd.cell _).trans hs
  have hq : ∀ w, Blk w p 55 (plantCells db n c true fuse steps) → Calls Try.prog 31 #[.pointer (some ⟨p, 0, none⟩), .int .i64 (dv : Int)] w fun e w' => e = .returned (.int .i64 0) ∧ w = w' := by
    intro w hb
    have := refuse_any p db n c true fuse steps dv w hb
    rw [show refuseCode true n dv = 0 from by simp [refuseCode, h2]] at this
    exact this
  have Hq := Lib.hid hq
  clear hq
  have Hs := Lib.hid hs
  clear hs
  have g1 : (0 : Int) ≤ (dv : Int) := by omega
  have g2 : (dv : Int) < (n : Int) := by omega
  by_cases hlo : 0 ≤ place
  · by_cases hhi : place < s
    · rw [if_pos ⟨hlo, hhi⟩]
      go_enter Try.func26, Try.ntmps26
      go_wp2_with (go_at_call 31; refine (Hq.out _ hb).mono ?_; rintro e w' ⟨rfl, rfl⟩)
      go_ret
      exact ⟨rfl, rfl⟩
    · rw [if_neg (by omega)]
      have hhi : s ≤ place := by omega
      go_enter Try.func26, Try.ntmps26
      go_wp2_with (go_at_call 31; refine (Hq.out _ hb).mono ?_; rintro e w' ⟨rfl, rfl⟩)
      go_ret
      exact ⟨rfl, rfl⟩
  · rw [if_neg (by omega)]
    have hlo : place < 0 := by omega
    go_enter Try.func26, Try.ntmps26
    go_wp2_with (go_at_call 31; refine (Hq.out _ hb).mono ?_; rintro e w' ⟨rfl, rfl⟩)
    go_ret
    exact ⟨rfl, rfl⟩
/-- what a step makes of the fuse -/
def burnt (fuse : Int) : Int := if 0 < fuse then fuse - 1 else fuse
theorem step_burn (hb : Blk w p 55 (plantCells db n c on 0 steps)) :
    Calls Try.prog 27 #[.pointer (some ⟨p, 0, none⟩)] w fun e w' => e = .returned (.int .i64 2) ∧ Blk w' p 55 (plantCells db n c false (-1) steps) ∧ Turn (only p) w w' := by
  have h1 : w.cell? ⟨p, 1, none⟩ = some (.bool on) := hb.cell 1
  have h2 : w.cell? ⟨p, 2, none⟩ = some (.int .i64 0) := hb.cell 2
  have f1 := hb.frozen 1
  have f2 := hb.frozen 2
  go_enter Try.func27, Try.ntmps27
  go_wp2
  go_ret
  exact ⟨rfl, (hb.set_ 1 (.bool false)).set_ 2 (.int .i64 (-1)), ((Turn.refl _ _).at_ _ _).at_ _ _⟩
theorem step_on (hb : Blk w p 55 (plantCells db n c on fuse steps)) (h0 : fuse ≠ 0) (hlo : -9223372036854775808 ≤ fuse) (hhi : fuse ≤ 9223372036854775807) (s0 : 0 ≤ steps) (s1 : steps < 1099511627776) :
    Calls Try.prog 27 #[.pointer (some ⟨p, 0, none⟩)] w fun e w' => e = .returned (.int .i64 0) ∧ Blk w' p 55 (plantCells db n c on (burnt fuse) (steps + 1)) ∧ Turn (only p) w w' := by
  have h2 : w.cell? ⟨p, 2, none⟩ = some (.int .i64 fuse) := hb.cell 2
  have h3 : w.cell? ⟨p, 3, none⟩ = some (.int .i64 steps) := hb.cell 3
  have f2 := hb.frozen 2
  have f3 := hb.frozen 3
  have hd : (fuse == 0) = false := by simpa using h0
  by_cases h : 0 < fuse
  · rw [show burnt fuse = fuse - 1 from by simp [burnt, h]]
    clear h0
    go_enter Try.func27, Try.ntmps27
    go_wp2
    go_ret
    exact ⟨rfl, (hb.set_ 2 (.int .i64 (fuse - 1))).set_ 3 (.int .i64 (steps + 1)), ((Turn.refl _ _).at_ _ _).at_ _ _⟩
  · rw [show burnt fuse = fuse from by simp [burnt, h]]
    have h : fuse < 0 := by omega
    clear h0
    go_enter Try.func27, Try.ntmps27
    go_wp2
    go_ret
    exact ⟨rfl, hb.set_ 3 (.int .i64 (steps + 1)), (Turn.refl _ _).at_ _ _⟩
theorem fuse_any (m : Int) (hb : Blk w p 55 (plantCells db n c on fuse steps)) :
    Calls Try.prog 16 #[.pointer (some ⟨p, 0, none⟩), .int .i64 m] w fun e w' => e = .returned (.tuple #[]) ∧ Blk w' p 55 (plantCells db n c on (if on then m else fuse) steps) ∧ Turn (only p) w w' := by
  have h1 : w.cell? ⟨p, 1, none⟩ = some (.bool on) := hb.cell 1
  have h2 : w.cell? ⟨p, 2, none⟩ = some (.int .i64 fuse) := hb.cell 2
  have f2 := hb.frozen 2
  cases on
  · go_enter Try.func16, Try.ntmps16
    go_wp2
    go_end0
    exact ⟨rfl, hb, Turn.refl _ _⟩
  · go_enter Try.func16, Try.ntmps16
    go_wp2
    go_end0
    exact ⟨rfl, hb.set_ 2 (.int .i64 m), (Turn.refl _ _).at_ _ _⟩
theorem on_any (hb : Blk w p 55 (plantCells db n c on fuse steps)) :
    Calls Try.prog 22 #[.pointer (some ⟨p, 0, none⟩)] w fun e w' => e = .returned (.bool on) ∧ w = w' := by
  have h1 : w.cell? ⟨p, 1, none⟩ = some (.bool on) := hb.cell 1
  go_enter Try.func22, Try.ntmps22
  go_wp2
  go_ret
  exact ⟨rfl, rfl⟩
theorem steps_any (hb : Blk w p 55 (plantCells db n c on fuse steps)) :
    Calls Try.prog 23 #[.pointer (some ⟨p, 0, none⟩)] w fun e w' => e = .returned (.int .i64 steps) ∧ w = w' := by
  have h1 : w.cell? ⟨p, 3, none⟩ = some (.int .i64 steps) := hb.cell 3
  go_enter Try.func23, Try.ntmps23
  go_wp2
  go_ret
  exact ⟨rfl, rfl⟩
theorem len_bad (hb : Blk w p 55 (plantCells db n c on fuse steps)) (h : ¬ (0 ≤ dev ∧ dev < n)) :
    Calls Try.prog 39 #[.pointer (some ⟨p, 0, none⟩), .int .i64 dev] w fun e w' => e = .returned (.tuple #[.int .i64 0, .int .i64 31]) ∧ w = w' := by
  go_enter Try.func39, Try.ntmps39
  go_wp2_with (go_at_call 42; refine (has_no p db n c _ fuse steps dev _ hb h).mono ?_; rintro e w' ⟨rfl, rfl⟩)
  go_ret2
  exact ⟨rfl, rfl⟩
theorem len_good (C : Array Value) (s : Int) (dv : Nat) (hb : Blk w p 55 (plantCells db n c on fuse steps)) (hd : Blk w db 59 C) (h2 : dv < n)
    (hs : C[dv * 4]? = some (.int .i64 s)) (hn : n ≤ 4) :
    Calls Try.prog 39 #[.pointer (some ⟨p, 0, none⟩), .int .i64 (dv : Int)] w fun e w' => e = .returned (.tuple #[.int .i64 s, .int .i64 0]) ∧ w = w' := by
  have h0 : w.cell? ⟨p, 0, none⟩ = some (.slice (some ⟨db, 0, none⟩) n c) := hb.cell 0
  have h4 : w.cell? ⟨db, dv * 4, none⟩ = some (.int .i64 s) := (hd.cell _).trans hs
  clear hs
  have g1 : (0 : Int) ≤ (dv : Int) := by omega
  have g2 : (dv : Int) < (n : Int) := by omega
  go_enter Try.func39, Try.ntmps39
  go_wp2_with (go_at_call 42; refine (has_yes p db n c _ fuse steps dv _ hb g1 g2).mono ?_; rintro e w' ⟨rfl, rfl⟩)
  go_ret2
  exact ⟨rfl, rfl⟩
end
end Go.Proofs.Yteedjfgandgbkaa

namespace Go.Proofs.Yteedjfgandgbkaa
open Go.RowKit Go.Maps
/-- the elements of a map: what value each is, and how it reads -/
structure Elem (α : Type) where
  val : α → Value
  R : Value → Option (DataW Unit × List MemPlace)
  enc : α → DataW Unit
  made : ∀ x, R (val x) = some (enc x, [])
  inv : ∀ v y, R v = some y → ∃ x, v = val x ∧ y = (enc x, [])
  inj : ∀ x y, enc x = enc y → x = y
/-- the keys of a map -/
structure MKey (P : Program) (k : TypeId) (κ : Type) where
  kv : κ → Value
  kl : κ → Lit
  ok : κ → Prop
  keyed : Keyed P k
  key : ∀ x, ok x → keyOf P k (kv x) = some (kl x)
  inv : ∀ v l, keyOf P k v = some l → ∃ x, ok x ∧ v = kv x ∧ l = kl x
  inj : ∀ x y, kl x = kl y → x = y
/-- D tells f -/
def Tells {P : Program} {k : TypeId} {κ α : Type} (K : MKey P k κ) (E : Elem α) (D : DataW Unit) (f : κ → Option α) : Prop :=
  ∀ x, K.ok x → ∀ z, D.atKey (K.kl x) z = match f x with
    | some a => E.enc a
    | none => z
/-- block b is a map of at most n entries that is f -/
def MapAt {P : Program} {k : TypeId} {κ α : Type} (w : World) (K : MKey P k κ) (E : Elem α) (b n : Nat) (f : κ → Option α) : Prop :=
  ∃ D, w.ownsMap P k E.R b n D ∧ Tells K E D f
def upd {κ α : Type} [DecidableEq κ] (f : κ → Option α) (x : κ) (a : α) : κ → Option α := fun y => if y = x then some a else f y
/-- f, but what g has stands in front -/
def over {κ α : Type} (g f : κ → Option α) : κ → Option α := fun y => match g y with
  | some a => some a
  | none => f y
section
variable {P : Program} {k : TypeId} {κ α : Type} {K : MKey P k κ} {E : Elem α} {w w' : World} {b n m : Nat} {f : κ → Option α} {F : Nat → Prop}
theorem MapAt.lt (h : MapAt w K E b n f) : b < w.heap.size := by
  obtain ⟨D, h, _⟩ := h
  exact h.lt
theorem MapAt.ne {g : Nat} {t : TypeId} {cs : Array Value} (h : MapAt w K E b n f) (h' : Blk w g t cs) : g ≠ b := by
  obtain ⟨D, ⟨es, clock, hb, _⟩, _⟩ := h
  exact cells_ne_map h' hb
theorem MapAt.mono (h : MapAt w K E b n f) (hn : n ≤ m) : MapAt w K E b m f := by
  obtain ⟨D, h, t⟩ := h
  exact ⟨D, h.mono hn, t⟩
theorem MapAt.block (h : MapAt w K E b n f) (hb : w'.heap[b]? = w.heap[b]?) : MapAt w' K E b n f := by
  obtain ⟨D, ⟨es, clock, h1, h2⟩, t⟩ := h
  exact ⟨D, ⟨es, clock, hb.trans h1, h2⟩, t⟩
theorem MapAt.turn (h : MapAt w K E b n f) (ht : Turn F w w') (hn : ¬ F b) : MapAt w' K E b n f := h.block (ht.block b h.lt hn)
theorem MapAt.grown {row : Option Nat} (h : MapAt w K E b n f) (hg : w.grownBy w' row) (hn : some b ≠ row) : MapAt w' K E b n f := h.block (hg.block b h.lt hn)
theorem MapAt.drew (h : MapAt w K E b n f) : MapAt w.drew K E b n f := h
theorem MapAt.drewN (h : MapAt w K E b n f) (m : Nat) : MapAt (w.drewN m) K E b n f := h
theorem MapAt.alloc (h : MapAt w K E b n f) (o : Obj) : MapAt (w.alloc o) K E b n f := h.block (Below.heap_alloc w o b h.lt)
theorem MapAt.setCell (h : MapAt w K E b n f) {p : Addr} (hp : b ≠ p.block) (u : Value) : MapAt (w.setCell p u) K E b n f := h.block (heap_setCell_other w p b u hp)
theorem MapAt.made (K : MKey P k κ) (E : Elem α) (w : World) : MapAt (w.alloc (.map #[] 0)) K E w.heap.size 0 (fun _ => none) :=
  ⟨_, World.ownsMap_made w P k E.R, fun _ _ _ => rfl⟩
theorem Tells.has {D : DataW Unit} (h : Tells K E D f) {x : κ} (hx : K.ok x) : Maps.has D (K.kl x) = (f x).isSome := by
  have h1 := h x hx
  cases hf : f x with
  | none => rw [hf] at h1; exact has_false_of_atKey h1
  | some a => rw [hf] at h1; exact has_true_of_atKey h1
theorem MapAt.lookup (h : MapAt w K E b n f) {t e : TypeId} (ht : P.underlying t = some (.map k e)) {z0 : α} (hz : (zeroValue e).run P w = .ok (E.val z0) w) {x : κ} (hx : K.ok x) :
    (Instr.lookup t (.map (some b)) (K.kv x) false).run P w = .ok (E.val ((f x).getD z0)) w := by
  obtain ⟨D, h, t⟩ := h
  obtain ⟨v, ps, hrun, hv⟩ := h.lookup K.keyed ht hz (E.made z0) (K.key x hx)
  obtain ⟨y, rfl, hy⟩ := E.inv _ _ hv
  rw [hrun]
  have e1 : D.atKey (K.kl x) (E.enc z0) = E.enc y := congrArg Prod.fst hy
  rw [t x hx] at e1
  cases hf : f x with
  | none => rw [hf] at e1; rw [Option.getD_none, E.inj _ _ e1]
  | some a => rw [hf] at e1; rw [Option.getD_some, E.inj _ _ e1]
theorem MapAt.look_ok (h : MapAt w K E b n f) {t e : TypeId} (ht : P.underlying t = some (.map k e)) {z0 : α} (hz : (zeroValue e).run P w = .ok (E.val z0) w) {x : κ} (hx : K.ok x) :
    (Instr.lookup t (.map (some b)) (K.kv x) true).run P w = .ok (.tuple #[E.val ((f x).getD z0), .bool (f x).isSome]) w := by
  obtain ⟨D, h, t⟩ := h
  obtain ⟨v, ps, hrun, hv⟩ := h.look_ok K.keyed ht hz (E.made z0) (K.key x hx)
  obtain ⟨y, rfl, hy⟩ := E.inv _ _ hv
  rw [hrun, t.has hx]
  have e1 : D.atKey (K.kl x) (E.enc z0) = E.enc y := congrArg Prod.fst hy
  rw [t x hx] at e1
  cases hf : f x with
  | none => rw [hf] at e1; rw [Option.getD_none, E.inj _ _ e1]
  | some a => rw [hf] at e1; rw [Option.getD_some, E.inj _ _ e1]
theorem Tells.put [DecidableEq κ] {D : DataW Unit} (hm : IsMap D) (h : Tells K E D f) {x : κ} (hx : K.ok x) (a : α) : Tells K E (D.put (K.kl x) (E.enc a)) (upd f x a) := by
  intro y hy z
  unfold upd
  by_cases e : y = x
  · subst e
    rw [if_pos rfl, atKey_put_same hm (K.keyed.key (K.key y hx))]
  · rw [if_neg e, atKey_put_other (fun e' => e (K.inj _ _ e'))]
    exact h y hy z
theorem MapAt.update [DecidableEq κ] (h : MapAt w K E b n f) {t e : TypeId} (ht : P.underlying t = some (.map k e)) (hn : n < maxLen) {x : κ} (hx : K.ok x) (a : α) :
    ∃ w', (Instr.mapUpdate t (.map (some b)) (K.kv x) (E.val a)).run P w = .ok () w' ∧ MapAt w' K E b (n + 1) (upd f x a) ∧ w.grownBy w' (some b) := by
  obtain ⟨D, h, t⟩ := h
  have hm := h.isMap
  obtain ⟨w', h1, h2, h3⟩ := h.update K.keyed ht hn (K.key x hx) (E.made a)
  exact ⟨w', h1, ⟨_, h2, t.put hm hx a⟩, h3⟩
theorem wpList_mapUpdate_at [DecidableEq κ] {ops : Array Oper} {rest : List Oper} {o : Oper} {a : Act} {Q : Exit → Act → World → Prop} (hgd : Region.wanted o (yielded ops a.tmps) = true)
    (mm x v : Operand) (t : TypeId) (hop : o.op = Op.mapUpdate t mm x v) (h : MapAt w K E b n f) {e : TypeId} (ht : P.underlying t = some (.map k e)) (hn : n < maxLen) {y : κ} (hy : K.ok y) (u : α)
    (hm : a.eval mm = .map (some b)) (hx : a.eval x = K.kv y) (hv : a.eval v = E.val u)
    (hK : ∀ w', MapAt w' K E b (n + 1) (upd f y u) → w.grownBy w' (some b) → wpList P ops Q rest (a.put o.dst undef) w') :
    wpList P ops Q (o :: rest) a w :=
  wpList_step fun K' hK' => by
    rw [if_pos hgd]
    obtain ⟨w', hrun, r1, r2⟩ := h.update ht hn hy u
    unfold Oper.wp
    simp [execOp, hop, hm, hx, hv, hrun, Result.andThen]
    exact hK' _ _ (hK w' r1 r2)
end
section
variable {P : Program} {k : TypeId} {κ α : Type} {K : MKey P k κ} {E : Elem α} {w w' : World} {b n m : Nat} {f g : κ → Option α}
theorem MapAt.congr (h : MapAt w K E b n f) (hg : ∀ x, K.ok x → g x = f x) : MapAt w K E b n g := by
  obtain ⟨D, h, t⟩ := h
  exact ⟨D, h, fun x hx z => by rw [hg x hx]; exact t x hx z⟩
/-- of the map fs (read as Ds) all that is not left has been laid over f -/
def Laid (K : MKey P k κ) (Ds : DataW Unit) (fs f : κ → Option α) (left : Lit → Bool) (fd : κ → Option α) : Prop :=
  ∀ x, K.ok x → fd x = if Maps.has Ds (K.kl x) && !left (K.kl x) then fs x else f x
theorem laid_start (Ds : DataW Unit) (fs f : κ → Option α) : Laid K Ds fs f (Maps.has Ds) f := fun x _ => by
  cases Maps.has Ds (K.kl x) <;> rfl
theorem laid_step [DecidableEq κ] {Ds : DataW Unit} {fs f fd : κ → Option α} {left : Lit → Bool} {x : κ} {a : α} (hx : K.ok x) (hs : Tells K E Ds fs) (hat : ∀ zd, Ds.atKey (K.kl x) zd = E.enc a) (h : Laid K Ds fs f left fd) :
    Laid K Ds fs f (fun z => left z && !z.sameKey (K.kl x)) (upd fd x a) := by
  have hfx : fs x = some a := by
    have h1 := hs x hx
    cases hf : fs x with
    | none =>
      rw [hf] at h1
      have h2 := (h1 .nil).symm.trans (hat .nil)
      have h3 := (h1 (.lit (.bool true))).symm.trans (hat _)
      rw [← h3] at h2
      cases h2
    | some a' =>
      rw [hf] at h1
      rw [E.inj a' a ((h1 .nil).symm.trans (hat _))]
  have hhas : Maps.has Ds (K.kl x) = true := by rw [hs.has hx, hfx]; rfl
  intro y hy
  unfold upd
  by_cases e : y = x
  · subst e
    have h1 := WideAt.sameKey_self (K.keyed.key (K.key y hy))
    rw [if_pos rfl, hhas, hfx]
    simp [h1]
  · have h1 : (K.kl y).sameKey (K.kl x) = false := sameKey_ne (fun e' => e (K.inj _ _ e'))
    rw [if_neg e, h y hy]
    simp [h1]
theorem laid_end {Ds : DataW Unit} {fs f fd : κ → Option α} {left : Lit → Bool} (hs : Tells K E Ds fs) (hl : ∀ z, left z = false) (h : Laid K Ds fs f left fd) : ∀ x, K.ok x → over fs f x = fd x := by
  intro x hx
  rw [h x hx, hl, hs.has hx]
  unfold over
  cases fs x <;> rfl
end
/-- keys that are ints -/
noncomputable def intKey {P : Program} {k : TypeId} (hk : P.underlying k = some (.int .i64)) : MKey P k Int where
  kv x := .int .i64 x
  kl x := .int .i64 x
  ok x := (Lit.int .i64 x).wf = true
  keyed := int_keyed hk
  key _ hx := keyOf_int_mk hk hx
  inv v l h := by
    obtain ⟨x, h1, h2, h3⟩ := keyOf_int_inv hk h
    exact ⟨x, h3, h1, h2⟩
  inj x y h := by injection h
/-- the cells' bytes, if they are bytes -/
def cellsBytes : List Value → Option (List UInt8)
  | [] => some []
  | .int .u8 n :: r => if 0 ≤ n ∧ n < 256 then (cellsBytes r).map (UInt8.ofNat n.toNat :: ·) else none
  | _ :: _ => none
theorem cellsBytes_bcs : ∀ bs : List UInt8, cellsBytes (bcs bs) = some bs
  | [] => rfl
  | x :: r => by
    have h1 : x.toNat < 256 := x.toNat_lt
    have h : 0 ≤ (x.toNat : Int) ∧ (x.toNat : Int) < 256 := by omega
    simp only [bcs, List.map_cons, cellsBytes]
    have hr := cellsBytes_bcs r
    unfold bcs at hr
    rw [if_pos h, hr]
    simp
theorem bcs_of_cellsBytes : ∀ (l : List Value) (bs : List UInt8), cellsBytes l = some bs → l = bcs bs
  | [], bs, h => by
    simp only [cellsBytes, Option.some.injEq] at h
    subst h
    rfl
  | v :: r, bs, h => by
    unfold cellsBytes at h
    split at h
    · cases ‹_ :: _ = []›
    · rename_i n r' e
      injection e with e1 e2
      subst e1 e2
      split at h
      · rename_i hn
        cases hq : cellsBytes r with
        | none => rw [hq] at h; cases h
        | some q =>
          rw [hq] at h
          simp only [Option.map_some, Option.some.injEq] at h
          subst h
          rw [bcs_of_cellsBytes r q hq]
          have : ((UInt8.ofNat n.toNat).toNat : Int) = n := by
            rw [UInt8.toNat_ofNat']
            omega
          simp only [bcs, List.map_cons, this]
      · cases h
    · cases h
/-- a row of bytes as one value -/
def rowV (bs : List UInt8) : Value := .agg (bcs bs).toArray
/-- elements that are rows of s bytes -/
def rowElem (s : Nat) : Elem { l : List UInt8 // l.length = s } where
  val x := rowV x.1
  R v := match v with
    | .agg cs => match cellsBytes cs.toList with
      | some bs => if bs.length = s then some (.lit (.string bs), []) else none
      | none => none
    | _ => none
  enc x := .lit (.string x.1)
  made x := by
    simp only [rowV, cellsBytes_bcs, x.2, if_true]
  inv v y h := by
    split at h
    · rename_i cs
      split at h
      · rename_i bs hb
        split at h
        · rename_i hs
          cases h
          refine ⟨⟨bs, hs⟩, ?_, rfl⟩
          show _ = rowV bs
          unfold rowV
          rw [← bcs_of_cellsBytes _ _ hb]
        · cases h
      · cases h
    · cases h
  inj x y h := by
    injection h with h
    injection h with h
    exact Subtype.ext h
end Go.Proofs.Yteedjfgandgbkaa

namespace Go.Proofs.Yteedjfgandgbkaa
open Go.RowKit
theorem splice_at : ∀ (l : List Value) (k off : Nat) (cells : Array Value), ((l.zipIdx k).foldl (fun cs (x : Value × Nat) => cs.setIfInBounds (off + x.2) x.1) cells).size = cells.size ∧
    ∀ j, ((l.zipIdx k).foldl (fun cs (x : Value × Nat) => cs.setIfInBounds (off + x.2) x.1) cells)[j]? = if off + k ≤ j ∧ j < off + k + l.length ∧ j < cells.size then l[j - (off + k)]? else cells[j]?
  | [], k, off, cells => ⟨rfl, fun j => by
      rw [if_neg (by simp; omega)]
      rfl⟩
  | v :: r, k, off, cells => by
    simp only [List.zipIdx_cons, List.foldl_cons]
    obtain ⟨h1, h2⟩ := splice_at r (k + 1) off (cells.setIfInBounds (off + k) v)
    refine ⟨by rw [h1, Array.size_setIfInBounds], fun j => ?_⟩
    rw [h2, Array.size_setIfInBounds, List.length_cons]
    by_cases e : j = off + k
    · subst e
      rw [if_neg (by omega), Array.getElem?_setIfInBounds]
      by_cases hs : off + k < cells.size
      · rw [if_pos rfl, if_pos hs, if_pos ⟨by omega, by omega, hs⟩, Nat.sub_self]
        rfl
      · rw [if_pos rfl, if_neg hs, if_neg (by omega), Array.getElem?_eq_none (by omega)]
    · by_cases c : off + (k + 1) ≤ j ∧ j < off + (k + 1) + r.length ∧ j < cells.size
      · rw [if_pos c, if_pos ⟨by omega, by omega, c.2.2⟩, show j - (off + k) = (j - (off + (k + 1))) + 1 from by omega, List.getElem?_cons_succ]
      · rw [if_neg c, Array.getElem?_setIfInBounds, if_neg (fun h => e h.symm)]
        rw [if_neg (by omega)]
theorem splice_all (vs cells : Array Value) (h : vs.size = cells.size) : vs.zipIdx.foldl (fun cs (x : Value × Nat) => cs.setIfInBounds (0 + x.2) x.1) cells = vs := by
  have hz : vs.zipIdx = (vs.toList.zipIdx 0).toArray := by
    apply Array.ext'
    simp [Array.toList_zipIdx]
  rw [hz, List.foldl_toArray]
  obtain ⟨h1, h2⟩ := splice_at vs.toList 0 0 cells
  apply Array.ext_getElem?
  intro j
  rw [h2]
  by_cases hj : j < vs.size
  · rw [if_pos ⟨by omega, by simpa using hj, by omega⟩]
    simp
  · rw [if_neg (by simp; omega), Array.getElem?_eq_none (by omega), Array.getElem?_eq_none (by omega)]
theorem run_buildSlice_one {P : Program} {t e : TypeId} {i : TypeInfo} {z v : Value} (ht : P.underlying t = some (.slice e)) (hi : P.info? e = some i) (hz : i.zero = some z) (hs : v.cells.size = i.size) (hzs : z.cells.size = i.size)
    (h0 : 0 < i.size) (hsm : i.size ≤ 16777216) (w : World) :
    (Instr.buildSlice t 1 #[(0, v)]).run P w = .ok (.slice (some ⟨w.heap.size, 0, none⟩) 1 1) (w.alloc (.cells v.cells e)) := by
  have hfill : Instr.fill (fun j => some (j * i.size, i.size)) ((Array.range (1 * i.size)).map (z.cells[· % z.cells.size]!)) [(0, v)] = some v.cells := by
    unfold Instr.fill
    simp only [Nat.zero_mul, hs, Nat.one_mul, Array.size_map, Array.size_range, Nat.zero_add]
    rw [if_neg (by simp)]
    unfold Instr.fill
    congr 1
    have := splice_all v.cells (Array.map (fun x => z.cells[x % z.cells.size]!) (Array.range i.size)) (by simp [hs])
    simpa using this
  have g1 : ¬ (16777216 < i.size) := by omega
  have g2 : i.size ≠ 0 := by omega
  simp only [Nat.one_mul] at hfill
  simp [Instr.buildSlice, run_underlying ht, sizeOf, typeInfo, zeroValue, hi, hz, g1, g2, hfill, newRow]
theorem wpList_buildSlice_one {P : Program} {ops : Array Oper} {rest : List Oper} {o : Oper} {a : Act} {w : World} {Q : Exit → Act → World → Prop} (hgd : Region.wanted o (yielded ops a.tmps) = true) (x : Operand) (t : TypeId)
    (ho : o.op = Op.buildSlice t 1 #[(0, x)]) (v : Value) (hx : a.eval x = v) {e : TypeId} {i : TypeInfo} {z : Value} (ht : P.underlying t = some (.slice e)) (hi : P.info? e = some i) (hz : i.zero = some z) (hs : v.cells.size = i.size)
    (hzs : z.cells.size = i.size) (h0 : 0 < i.size) (hsm : i.size ≤ 16777216)
    (h : wpList P ops Q rest (a.put o.dst (.slice (some ⟨w.heap.size, 0, none⟩) 1 1)) (w.alloc (.cells v.cells e))) : wpList P ops Q (o :: rest) a w :=
  wpList_step fun K hK => by
    rw [if_pos hgd]
    unfold Oper.wp execOp
    simp only [ho, List.map_toArray, List.map_cons, List.map_nil, hx, run_buildSlice_one ht hi hz hs hzs h0 hsm w, Sem.run_bind, Sem.run_pure, Result.andThen_ok]
    exact hK _ _ h
end Go.Proofs.Yteedjfgandgbkaa

namespace Go.Proofs.Yteedjfgandgbkaa
section
variable {P : Program} {md : Region.Mode} {ops : Array Oper} {Q : Exit → Act → World → Prop} {S : World → Prop} {k : Nat} {rest : List Oper}
/-- whatever order is picked, and S holds as long as k has not come up -/
def Till (P : Program) (md : Region.Mode) (ops : Array Oper) (Q : Exit → Act → World → Prop) (S : World → Prop) (k : Nat) : Nat → Array Bool → Act → World → Prop
  | 0, l, a, w => Region.ready md ops l = [] ∧ Q .normal a w
  | n + 1, l, a, w => (Region.ready md ops l = [] → Q .normal a w) ∧
      ∀ i ∈ Region.ready md ops l, wpOp P ops Q i (fun a' w' => ((l.setIfInBounds i true).getD k true = false → S w') ∧ Till P md ops Q S k n (l.setIfInBounds i true) a' w') a w
theorem till_any : ∀ (n : Nat) (l : Array Bool) (a : Act) (w : World), Till P md ops Q S k n l a w → wpAny P md ops Q n l a w
  | 0, _, _, _, h => h
  | n + 1, _, _, _, h => ⟨h.1, fun i hi => wpOp_mono (fun _ _ h' => till_any n _ _ _ h'.2) (h.2 i hi)⟩
theorem till_first {i : Nat} {o : Oper} {v : Value} (hi : ops[i]? = some o) (hsel : ∀ (j : Nat) (o : Oper) cs b, ops[j]? = some o → o.op ≠ .select cs b) (hki : k ≠ i)
    (hk : ∃ ok, ops[k]? = some ok ∧ ∃ e ∈ ok.after, Region.binds md e = true ∧ e.on = i) :
    ∀ (n : Nat) (l : Array Bool) (a : Act) (w : World), l.getD k true = false →
      (∀ j oj, ops[j]? = some oj → j ≠ i → l.getD j true = false → (∀ e ∈ oj.after, Region.binds md e = true → e.on ≠ i) → o.apart ops oj = true) →
      i ∈ Region.ready md ops l → YieldsIf P ops S o v a → S w → (∀ c a w, Q (.panic c) (a.put o.dst v) w → Q (.panic c) a w) →
      Till P md ops Q S k n (l.setIfInBounds i true) (a.put o.dst v) w → Till P md ops Q S k (n + 1) l a w := by
  have hread : ∀ (l : Array Bool) (j : Nat), i ∈ Region.ready md ops l → j ∈ Region.ready md ops l → j ≠ i → ∃ oj, ops[j]? = some oj ∧ l.getD j true = false ∧ j ≠ k ∧ ∀ e ∈ oj.after, Region.binds md e = true → e.on ≠ i := by
    intro l j hr hj hji
    obtain ⟨h0, oj, hoj, hall⟩ := mem_ready.1 hj
    have hun := (mem_ready.1 hr).1
    have hno : ∀ e ∈ oj.after, Region.binds md e = true → e.on ≠ i := by
      intro e he hb heq
      have h2 := hall e he hb
      rw [heq] at h2
      rcases Nat.lt_or_ge i l.size with hlt | hge
      · rw [Array.getD_eq_getD_getElem?, Array.getElem?_eq_getElem hlt] at h2 hun
        simp only [Option.getD_some] at h2 hun
        rw [h2] at hun
        cases hun
      · rw [Array.getD_eq_getD_getElem?, Array.getElem?_eq_none hge] at h2
        cases h2
    refine ⟨oj, hoj, h0, ?_, hno⟩
    rintro rfl
    obtain ⟨ok, hok, e, he, hb, hon⟩ := hk
    rw [hoj] at hok
    injection hok with hok
    subst hok
    exact hno e he hb hon
  intro n
  induction n with
  | zero =>
    intro l a w hkl _ hr hy hS _ H
    refine ⟨fun h => (by rw [h] at hr; cases hr), fun j hj => ?_⟩
    by_cases hji : j = i
    · subst hji
      exact hy.wpOp hi hS ⟨fun _ => hS, H⟩
    · have := ready_mono hj hji
      rw [H.1] at this
      cases this
  | succ n ih =>
    intro l a w hkl hfree hr hy hS hQ H
    refine ⟨fun h => (by rw [h] at hr; cases hr), fun j hj => ?_⟩
    by_cases hji : j = i
    · subst hji
      exact hy.wpOp hi hS ⟨fun _ => hS, H⟩
    · obtain ⟨oj, hoj, hjun, hjk, hno⟩ := hread l j hr hj hji
      have h1 := H.2 j (ready_mono hj hji)
      have h2 := wpOp_putIf hoj (hfree j oj hoj hji hjun hno) (fun cs b => hsel i o cs b hi) (fun cs b => hsel j oj cs b hoj) hQ hy h1
      have hk' : (l.setIfInBounds j true).getD k true = false := by rw [getD_set_ne true hjk]; exact hkl
      have hk2 : ((l.setIfInBounds i true).setIfInBounds j true).getD k true = false := by rw [getD_set_ne true hjk, getD_set_ne true (Ne.symm hki)]; exact hkl
      refine wpOp_mono (fun a' w' h3 => ⟨fun _ => h3.2.1 hk2, ih (l.setIfInBounds j true) a' w' hk' ?_ (ready_mono hr (Ne.symm hji)) h3.1 (h3.2.1 hk2) hQ ?_⟩) h2
      · intro m om hm hmi hun hn
        refine hfree m om hm hmi ?_ hn
        by_cases hjm : j = m
        · subst hjm
          exact hjun
        · rwa [getD_set_ne true hjm] at hun
      · rw [Array.setIfInBounds_comm _ _ hji]
        exact h3.2.2
theorem till_take {i : Nat} {o : Oper} {v : Value} {n : Nat} {l : Array Bool} {a : Act} {w : World} (hi0 : ops.toList[i]? = some o) (hs : Region.noSelect ops = true)
    (hf : (Region.free md ops l i && (Region.ready md ops l).contains i && Region.waitsFor md ops k i && !(l.getD k true) && decide (k ≠ i)) = true)
    (hQ : ∀ c a w, Q (.panic c) (a.put o.dst v) w → Q (.panic c) a w) (hy : YieldsIf P ops S o v a) (hS : S w)
    (h : Till P md ops Q S k n (l.setIfInBounds i true) (a.put o.dst v) w) : Till P md ops Q S k (n + 1) l a w := by
  have hi : ops[i]? = some o := by rw [← hi0, Array.getElem?_toList]
  simp only [Bool.and_eq_true, decide_eq_true_eq, Bool.not_eq_true'] at hf
  obtain ⟨⟨⟨⟨h1, h2⟩, h3⟩, h4⟩, h5⟩ := hf
  exact till_first hi (Region.noSelect_spec hs) h5 (Region.waitsFor_spec h3) n l a w h4 (Region.free_spec hi h1) (by simpa using h2) hy hS hQ h
/-- one alone may come up -/
theorem till_only {i : Nat} {o : Oper} {n : Nat} {l : Array Bool} {a : Act} {w : World} (hr : Region.ready md ops l = [i]) (ho0 : ops.toList[i]? = some o)
    (hw : Region.wanted o (yielded ops a.tmps) = true)
    (h : o.wp P a w (fun a' w' => ((l.setIfInBounds i true).getD k true = false → S w') ∧ Till P md ops Q S k n (l.setIfInBounds i true) a' w') Q) : Till P md ops Q S k (n + 1) l a w := by
  have ho : ops[i]? = some o := by rw [← ho0, Array.getElem?_toList]
  refine ⟨fun h0 => (by rw [h0] at hr; cases hr), fun j hj => ?_⟩
  rw [hr] at hj
  obtain rfl : j = i := by simpa using hj
  unfold wpOp
  simp only [ho, hw, if_true]
  exact .inl h
def chainFrom (md : Region.Mode) (ops : Array Oper) : Nat → Array Bool → Nat → Bool
  | 0, l, _ => (Region.ready md ops l).isEmpty
  | c + 1, l, i => Region.ready md ops l == [i] && chainFrom md ops c (l.setIfInBounds i true) (i + 1)
/-- the last ones come up one behind the other: they are walked as a plain list -/
theorem till_chain : ∀ (rest : List Oper) (n : Nat) (l : Array Bool) (a : Act) (w : World) (i : Nat), (∀ j o, rest[j]? = some o → ops[i + j]? = some o) → chainFrom md ops rest.length l i = true →
    ((l.setIfInBounds i true).getD k true = true) → rest.length ≤ n → wpList P ops Q rest a w → Till P md ops Q S k n l a w
  | [], n, l, a, w, i, _, hc, _, _, h => by
    have h0 : Region.ready md ops l = [] := by simpa [chainFrom] using hc
    cases n with
    | zero => exact ⟨h0, h⟩
    | succ n => exact ⟨fun _ => h, fun j hj => by rw [h0] at hj; cases hj⟩
  | o :: rest, 0, l, a, w, i, _, _, _, hn, h => by simp at hn
  | o :: rest, n + 1, l, a, w, i, hops, hc, hk, hn, h => by
    simp only [List.length_cons, chainFrom, Bool.and_eq_true, beq_iff_eq] at hc
    obtain ⟨h1, h2⟩ := hc
    refine ⟨fun h0 => (by rw [h0] at h1; cases h1), fun j hj => ?_⟩
    rw [h1] at hj
    obtain rfl : j = i := by simpa using hj
    have ho : ops[j]? = some o := hops 0 o rfl
    have hw : wpOp P ops Q j (wpList P ops Q rest) a w := by
      unfold wpOp
      simp only [ho]
      unfold wpList at h
      exact h
    refine wpOp_mono (fun a' w' h' => ⟨fun e => (by rw [hk] at e; cases e), till_chain rest n _ a' w' (j + 1) (fun m om hm => ?_) h2 ?_ (by simpa using hn) h'⟩) hw
    · have := hops (m + 1) om hm
      rwa [show j + (m + 1) = j + 1 + m from by omega] at this
    · by_cases e : j + 1 = k
      · subst e
        rw [Array.getD_eq_getD_getElem?, Array.getElem?_setIfInBounds]
        by_cases hs : j + 1 < (l.setIfInBounds j true).size
        · rw [if_pos rfl, if_pos hs]
          rfl
        · rw [if_pos rfl, if_neg hs]
          rfl
      · rw [getD_set_ne true e]
        exact hk
/-- all that is owed by kernel: k comes up now, or has come up; the others behind one another -/
theorem till_tail (i : Nat) {n : Nat} {l : Array Bool} {a : Act} {w : World} (hops : ops.toList.drop i = rest) (hc : (chainFrom md ops rest.length l i && (l.setIfInBounds i true).getD k true && decide (rest.length ≤ n)) = true)
    (h : wpList P ops Q rest a w) : Till P md ops Q S k n l a w := by
  simp only [Bool.and_eq_true, decide_eq_true_eq] at hc
  refine till_chain rest n l a w i (fun j o hj => ?_) hc.1.1 hc.1.2 hc.2 h
  rw [← hops, List.getElem?_drop] at hj
  simpa using hj
theorem till_mono {S' : World → Prop} (hS : ∀ w, S' w → S w) : ∀ (n : Nat) (l : Array Bool) (a : Act) (w : World), Till P md ops Q S' k n l a w → Till P md ops Q S k n l a w
  | 0, _, _, _, h => h
  | n + 1, _, _, _, h => ⟨h.1, fun i hi => wpOp_mono (fun _ _ h' => ⟨fun e => hS _ (h'.1 e), till_mono hS n _ _ _ h'.2⟩) (h.2 i hi)⟩
/-- one alone may come up: what follows behind a letter -/
theorem till_step {i : Nat} {o : Oper} {n : Nat} {l : Array Bool} {a : Act} {w : World} (hr : Region.ready md ops l = [i]) (ho0 : ops.toList[i]? = some o) (hw : Region.wanted o (yielded ops a.tmps) = true)
    (h : ∀ K : Act → World → Prop, Shut (∀ a' w', (((l.setIfInBounds i true).getD k true = false → S w') ∧ Till P md ops Q S k n (l.setIfInBounds i true) a' w') → K a' w') → o.wp P a w K Q) : Till P md ops Q S k (n + 1) l a w :=
  till_only hr ho0 hw (h _ fun _ _ h' => h')
theorem till_done {n : Nat} {l : Array Bool} {a : Act} {w : World} (hr : Region.ready md ops l = []) (h : Q .normal a w) : Till P md ops Q S k n l a w := by
  cases n with
  | zero => exact ⟨hr, h⟩
  | succ n => exact ⟨fun _ => h, fun j hj => by rw [hr] at hj; cases hj⟩
theorem wp_region_till (S : World → Prop) (k : Nat) {id : Nat} {a : Act} {w : World} (hm : P.follows .mixedOrders = true)
    (h : Till P .any ops (NoPanic Q) S k ops.size (Array.replicate ops.size false) a w.drew) : (Code.region id ops true).wp P Q a w :=
  wp_region_noPanic (wp_region_any hm (till_any _ _ _ _ h))
theorem wp_run {o : Oper} {a : Act} {w w' : World} {K : Act → World → Prop} {v : Value} (hr : (execOp a.eval o).run P w = .ok (.value v) w') (h : K (a.put o.dst v) w') : o.wp P a w K Q := by
  unfold Oper.wp
  rw [hr]
  exact h
theorem wp_append {o : Oper} {a : Act} {w w' : World} {K : Act → World → Prop} (s x : Operand) (t : TypeId) (ho : o.op = .call { callee := .builtin .append, args := #[s, x], argTypes := #[t, t] }) {v u r : Value} (hs : a.eval s = v) (hx : a.eval x = u)
    (hr : (Builtin.append_ #[t, t] o.type #[v, u]).run P w = .ok r w') (h : K (a.put o.dst r) w') : o.wp P a w K Q := by
  unfold Oper.wp execOp
  simp only [ho, resolve, invoke, builtin, Sem.run_bind, Sem.run_pure, Result.andThen_ok, List.map_toArray, List.map_cons, List.map_nil, hs, hx, hr]
  exact h
end
end Go.Proofs.Yteedjfgandgbkaa

namespace Go.Proofs.Yteedjfgandgbkaa
open Go.RowKit
set_option linter.unusedVariables false
abbrev Sec := { l : List UInt8 // l.length = 64 }
/-- a write that waits: its step, its place, its bytes -/
abbrev Wt := Int × Int × Sec
def wtCells (x : Wt) : List Value := Value.int .i64 x.1 :: Value.int .i64 x.2.1 :: bcs x.2.2.1
noncomputable def kI : MKey Try.prog 3 Int := intKey Try.underlying3
abbrev eS : Elem Sec := rowElem 64
theorem size_sector : (Try.prog.info? 63).map (·.size) = some 64 := by kernel_rfl
theorem size_write : (Try.prog.info? 66).map (·.size) = some 66 := by kernel_rfl
theorem range_of_blk {w : World} {g : Nat} {t : TypeId} {cs : Array Value} (h : Blk w g t cs) (o : Nat) (l : List Value) (hl : ∀ j v, l[j]? = some v → cs[o + j]? = some v) : w.rangeAt g o l := fun j v hv => by
  rw [h.cell]
  exact hl j v hv
/-- a sector that is read -/
theorem load_sector {w : World} {g o : Nat} {s : Sec} (h : w.rangeAt g o (bcs s.1)) (W : World) (hW : W.heap = w.heap) :
    (Instr.loadAt 63 (.pointer (some ⟨g, o, none⟩))).run Try.prog W = .ok (rowV s.1) W :=
  run_loadAt_mid W g o 63 (bcs s.1) _ (fun j v hv => by
    have := h j v hv
    simpa [World.cell?, hW] using this) Try.underlying63 rfl (by rw [size_sector, bcs_length, s.2])
theorem wt_sec (x : Wt) {w : World} {g : Nat} {t : TypeId} (h : Blk w g t (wtCells x).toArray) : w.rangeAt g 2 (bcs x.2.2.1) :=
  range_of_blk h 2 _ fun j v hv => by
    rw [Nat.add_comm]
    simpa [wtCells] using hv
theorem load_write {w : World} {g o : Nat} {x : Wt} (h : w.rangeAt g o (wtCells x)) (W : World) (hW : W.heap = w.heap) :
    (Instr.loadAt 66 (.pointer (some ⟨g, o, none⟩))).run Try.prog W = .ok (.agg (wtCells x).toArray) W :=
  run_loadAt_mid W g o 66 (wtCells x) _ (fun j v hv => by
    have := h j v hv
    simpa [World.cell?, hW] using this) Try.underlying66 rfl (by rw [size_write]; simp [wtCells, bcs_length, x.2.2.2])
theorem wt_all (x : Wt) {w : World} {g : Nat} {t : TypeId} (h : Blk w g t (wtCells x).toArray) : w.rangeAt g 0 (wtCells x) :=
  range_of_blk h 0 _ fun j v hv => by
    rw [Nat.zero_add]
    simpa using hv
theorem run_load {P : Program} {a : Act} {o : Oper} {ty : TypeId} {x : Operand} {p v : Value} {W : World} (ho : o.op = .load ty x) (hx : a.eval x = p) (h : (Instr.loadAt ty p).run P W = .ok v W) : (execOp a.eval o).run P W = .ok (.value v) W := by
  unfold execOp
  simp only [ho, hx, h, Sem.run_bind, Sem.run_pure, Result.andThen_ok]
theorem run_build_one {P : Program} {a : Act} {o : Oper} {t : TypeId} {x : Operand} {u v : Value} {W W' : World} (ho : o.op = .buildSlice t 1 #[(0, x)]) (hx : a.eval x = u) (h : (Instr.buildSlice t 1 #[(0, u)]).run P W = .ok v W') : (execOp a.eval o).run P W = .ok (.value v) W' := by
  unfold execOp
  simp only [ho, List.map_toArray, List.map_cons, List.map_nil, hx, h, Sem.run_bind, Sem.run_pure, Result.andThen_ok]
def zeroSec : Sec := ⟨List.replicate 64 0, rfl⟩
theorem info_write : (Try.prog.info? 66).map (fun i => (i.zero, i.size, i.bytes)) = some (some (.agg (wtCells (0, 0, zeroSec)).toArray), 66, 80) := by kernel_rfl
theorem wtCells_length (x : Wt) : (wtCells x).length = 66 := by simp [wtCells, bcs_length, x.2.2.2]
theorem wtCells_one (x : Wt) : ∀ u ∈ wtCells x, u.oneCell' = true := by
  intro u hu
  simp only [wtCells, List.mem_cons] at hu
  rcases hu with rfl | rfl | hu
  · rfl
  · rfl
  · exact bcs_one _ u hu
/-- the waits of a disk: a row of the program's own -/
def Waits (w : World) (v : Value) (ws : List Wt) : Prop := w.ownsRow 0 66 66 v ws.length (ws.flatMap wtCells)
theorem Waits.keep {w w' : World} {v : Value} {ws : List Wt} (h : Waits w v ws) (hk : ∀ g, v.ownBlock = some g → w'.heap[g]? = w.heap[g]?) : Waits w' v ws := by
  refine ⟨h.1, ?_⟩
  rcases h.2 with h2 | ⟨g, cap, cur, rfl, h3, h4, h5⟩
  · exact .inl h2
  · exact .inr ⟨g, cap, cur, rfl, h3, (hk g rfl).trans h4, h5⟩
theorem Waits.turn {F : Nat → Prop} {w w' : World} {v : Value} {ws : List Wt} (h : Waits w v ws) (ht : Turn F w w') (hF : ∀ g, v.ownBlock = some g → ¬ F g) : Waits w' v ws :=
  h.keep fun g hg => ht.block g (h.lt g hg).2 (hF g hg)
theorem Waits.form {w : World} {v : Value} {ws : List Wt} (h : Waits w v ws) : ∃ A n c, v = .slice A n c := by
  rcases h.2 with ⟨rfl, h2⟩ | ⟨g, cap, cur, rfl, _⟩
  · exact ⟨none, 0, 0, rfl⟩
  · exact ⟨_, _, _, rfl⟩
/-- how a block of waits goes on: as it was, or a new one, or none -/
def Goes (w : World) (v v' : Value) : Prop := v'.ownBlock = v.ownBlock ∨ ∃ g, v'.ownBlock = some g ∧ w.heap.size ≤ g
set_option maxHeartbeats 1000000 in
theorem add_walk (db o nw nn : Nat) (f : Int → Option Sec) (x : Wt) (C : Array Value) (wv : Value) (ws : List Wt) (w : World)
    (hd : Blk w db 59 C) (h2 : C[o + 2]? = some (.map (some nw))) (h3 : C[o + 3]? = some wv) (hm : MapAt w kI eS nw nn f) (hx : (Lit.int .i64 x.2.1).wf = true)
    (hown : Waits w wv ws) (hn : nn < 1099511627776) (hl : ws.length < 1099511627776) :
    Calls Try.prog 28 #[.pointer (some ⟨db, o, none⟩), .agg (wtCells x).toArray] w fun e w' => e = .returned (.tuple #[]) ∧
      ∃ wv', Blk w' db 59 (C.setIfInBounds (o + 3) wv') ∧ MapAt w' kI eS nw (nn + 1) (upd f x.2.1 x.2.2) ∧ Waits w' wv' (ws ++ [x]) ∧ Goes w wv wv' ∧
        Turn (fun k => k = db ∨ k = nw ∨ wv.ownBlock = some k) w w' := by
  obtain ⟨i0, hi0, hz0, hz1, hz2⟩ := info_parts info_write
  go_enter Try.func28, Try.ntmps28
  go_wp2
  have hG := Blk.new w 66 (wtCells x).toArray
  have hd1 := hd.alloc (.cells (wtCells x).toArray 66)
  have hm1 := hm.alloc (.cells (wtCells x).toArray 66)
  have ho1 : Waits _ wv ws := hown.alloc (.cells (wtCells x).toArray 66)
  have t1 : Turn (fun k => k = db ∨ k = nw ∨ wv.ownBlock = some k) w _ := (Turn.refl _ _).alloc (.cells (wtCells x).toArray 66)
  have hlt := fun g hg => (hown.lt g hg).2
  generalize (w.alloc (.cells (wtCells x).toArray 66)) = w1 at *
  have hGe : w.heap.size = w.heap.size := rfl
  generalize hGG : w.heap.size = G at hG ⊢
  have Hlt := Lib.hid hlt
  have HGG := Lib.hid hGG
  clear hlt hGe hGG
  have c2 : w1.cell? ⟨db, o + 2, none⟩ = some (.map (some nw)) := (hd1.cell _).trans h2
  have g1 : w1.cell? ⟨G, 1, none⟩ = some (.int .i64 x.2.1) := (hG.cell _).trans (by simp [wtCells])
  have Hs := Lib.hid (load_sector (wt_sec x hG))
  have Hm := Lib.hid hm1
  have H3 := Lib.hid h3
  have Ho := Lib.hid ho1
  have Hn := hm1.ne hd1
  have Hn2 := hm1.ne hG
  clear hm hm1 h2 h3 hown ho1
  refine wp_region_still_tail 8 (by kernel_rfl) (by kernel_rfl) ?_
  simp only [List.take_succ_cons, List.take_zero, List.drop_succ_cons, List.drop_zero]
  iterate 7 still_step
  refine wpStill_load rfl _ _ rfl _ _ rfl (Hs.out _ rfl) ?_
  refine wpStill_nil ?_
  change wpList _ _ _ _ _ w1.drew
  refine wpList_mapUpdate_at rfl _ _ _ _ rfl Hm.out.drew Try.underlying56 (by unfold maxLen; omega) hx x.2.2 rfl rfl rfl ?_
  intro w2 hm2 hg2
  have hd2 := hd1.drew.grown hg2 (fun e => Hn (Option.some.inj e))
  have hG2 := hG.drew.grown hg2 (fun e => Hn2 (Option.some.inj e))
  have t2 := t1.drew.grown hg2 (fun g e _ => .inr (.inl (Option.some.inj e).symm))
  have ho2 : Waits w2 wv ws := Ho.out.keep (w' := w2) fun g hg => hg2.block g (by exact (Ho.out.lt g hg).2) (fun e => by
    obtain ⟨D, ⟨es, clock, hb, _⟩, _⟩ := Hm.out
    rcases Ho.out.2 with ⟨e1, _⟩ | ⟨g', cap, cur, e1, _, h4, _⟩
    · rw [e1] at hg
      cases hg
    · rw [e1] at hg
      injection hg with hg
      have hg' : g' = g := hg
      subst hg'
      exact cells_ne_map (g := g') (b := nw) h4 hb (Option.some.inj e))
  clear hd1 hG hg2 t1 c2 g1 Hs Hm Ho
  have c3 : w2.cell? ⟨db, o + 3, none⟩ = some wv := (hd2.cell _).trans H3.out
  have f3 := hd2.frozen (o + 3)
  have Hw := Lib.hid (load_write (wt_all x hG2))
  have Hm2 := Lib.hid hm2
  clear hm2
  go_wp2
  have hS0 : Blk w2.drew db 59 C ∧ Blk w2.drew G 66 (wtCells x).toArray := ⟨hd2, hG2⟩
  refine wp_region_till (fun W => Blk W db 59 C ∧ Blk W G 66 (wtCells x).toArray) 8 (by kernel_rfl) ?_
  refine till_take (i := 0) (v := .pointer (some ⟨db, o, none⟩)) rfl (by kernel_rfl) (by kernel_rfl) (fun _ _ _ h => h) (.inl ⟨by rfl, fun W hW => by go_simp⟩) hS0 ?_
  simp only [Act.put, List.setIfInBounds_toArray, List.set_cons_zero, List.set_cons_succ]
  refine till_take (i := 1) (v := .pointer (some ⟨db, o, none⟩)) rfl (by kernel_rfl) (by kernel_rfl) (fun _ _ _ h => h) (.inl ⟨by rfl, fun W hW => by go_simp⟩) hS0 ?_
  simp only [Act.put, List.setIfInBounds_toArray, List.set_cons_zero, List.set_cons_succ]
  refine till_take (i := 2) (v := .pointer (some ⟨db, o, none⟩)) rfl (by kernel_rfl) (by kernel_rfl) (fun _ _ _ h => h) (.inl ⟨by rfl, fun W hW => by go_simp⟩) hS0 ?_
  simp only [Act.put, List.setIfInBounds_toArray, List.set_cons_zero, List.set_cons_succ]
  refine till_take (i := 3) (v := .pointer (some ⟨db, o + 3, none⟩)) rfl (by kernel_rfl) (by kernel_rfl) (fun _ _ _ h => h) (.inl ⟨by rfl, fun W hW => by go_simp⟩) hS0 ?_
  simp only [Act.put, List.setIfInBounds_toArray, List.set_cons_zero, List.set_cons_succ]
  refine till_take (i := 4) (v := wv) rfl (by kernel_rfl) (by kernel_rfl) (fun _ _ _ h => h) (.inl ⟨by rfl, fun W hW => by have c := (hW.1.cell (o + 3)).trans H3.out; go_simp⟩) hS0 ?_
  simp only [Act.put, List.setIfInBounds_toArray, List.set_cons_zero, List.set_cons_succ]
  refine till_take (i := 5) (v := .agg (wtCells x).toArray) rfl (by kernel_rfl) (by kernel_rfl) (fun _ _ _ h => h) (.inl ⟨by rfl, fun W hW => run_load rfl rfl (load_write (wt_all x hW.2) W rfl)⟩) hS0 ?_
  simp only [Act.put, List.setIfInBounds_toArray, List.set_cons_zero, List.set_cons_succ]
  refine till_only (i := 6) (by kernel_rfl) rfl rfl ?_
  refine wp_run (run_build_one (x := .tmp 17) (u := .agg (wtCells x).toArray) rfl rfl (run_buildSlice_one (v := .agg (wtCells x).toArray) Try.underlying57 hi0 hz0 (by rw [hz1]; simp [Value.cells, wtCells_length]) (by rw [hz1]; simp [Value.cells, wtCells_length]) (by omega) (by omega) _)) ?_
  have hG3 := Blk.new w2.drew 66 (wtCells x).toArray
  have hS3 : Blk _ db 59 C ∧ Blk _ G 66 (wtCells x).toArray := ⟨hS0.1.alloc (.cells (wtCells x).toArray 66), hS0.2.alloc (.cells (wtCells x).toArray 66)⟩
  have hm3 := Hm2.out.drew.alloc (.cells (wtCells x).toArray 66)
  have ho3 : Waits _ wv ws := World.ownsRow.alloc (w := w2.drew) ho2 (.cells (wtCells x).toArray 66)
  have t3 := t2.drew.alloc (.cells (wtCells x).toArray 66)
  have hdbw : ∀ (g : Nat), wv.ownBlock = some g → g ≠ db ∧ g ≠ G ∧ g < w2.heap.size := by
    intro g hg
    have hgl := Hlt.out g hg
    rw [HGG.out] at hgl
    refine ⟨?_, by omega, (ho2.lt g hg).2⟩
    rcases ho2.2 with ⟨e1, _⟩ | ⟨g', cap, cur, e1, _, h4, _⟩
    · rw [e1] at hg
      cases hg
    · rw [e1] at hg
      injection hg with hg
      have hg' : g' = g := hg
      subst hg'
      exact Blk.ne_ (w := w2) (g := g') (cs := cur) h4 hd2 (by decide)
  refine ⟨fun _ => hS3, ?_⟩
  obtain ⟨wv', w4, hrun, hown4, hg4, _, hat⟩ := run_append_own_at (P := Try.prog) (w2.drew.alloc (.cells (wtCells x).toArray 66)) 0 57 57 66 i0 _ 66 80 Try.underlying57 hi0 hz0 hz1 hz2
    (by simp [Value.cells, wtCells_length]) (by omega) wv ws.length _ ho3 ⟨w2.heap.size, 0, none⟩ 1 1 (wtCells x) (by rw [wtCells_length]) (fun j u hj => by
      have := hG3.cell j
      rw [add_nat, Nat.zero_add]
      exact this.trans (by simpa using hj)) (wtCells_one x) (by unfold maxLen; omega) (by omega) (Nat.zero_le _)
  simp only [Act.put, List.setIfInBounds_toArray, List.set_cons_zero, List.set_cons_succ, Value.cells]
  refine till_only (i := 7) (by kernel_rfl) rfl rfl ?_
  refine wp_append (.tmp 16) (.tmp 18) _ rfl rfl rfl hrun ?_
  have hd4 : Blk w4 db 59 C := hS3.1.grown hg4 (fun e => (hdbw db e.symm).1 rfl)
  have hG4 : Blk w4 G 66 (wtCells x).toArray := hS3.2.grown hg4 (fun e => (hdbw G e.symm).2.1 rfl)
  have hm4 : MapAt w4 kI eS nw (nn + 1) (upd f x.2.1 x.2.2) := hm3.grown hg4 (fun e => by
    rcases ho2.2 with ⟨e1, _⟩ | ⟨g', cap, cur, e1, _, h4, _⟩
    · rw [e1] at e
      cases e
    · rw [e1] at e
      injection e with e
      have e' : nw = g' := e
      exact Hm2.out.ne (w := w2) (g := g') h4 e'.symm)
  have t4 := t3.grown hg4 (fun g e _ => .inr (.inr e))
  have hat4 : Goes w wv wv' := by
    rcases hat with e | e
    · exact .inl e
    · refine .inr ⟨_, e, ?_⟩
      have := t2.size
      simp
      omega
  have c4 : w4.cell? ⟨db, o + 3, none⟩ = some wv := (hd4.cell _).trans H3.out
  have f4 := hd4.frozen (o + 3)
  have ho4 : Waits w4 wv' (ws ++ [x]) := by
    unfold Waits
    rw [List.length_append, List.flatMap_append]
    simpa using hown4
  obtain ⟨A', n', c', rfl⟩ := ho4.form
  refine ⟨fun _ => ⟨hd4, hG4⟩, ?_⟩
  refine till_tail 8 rfl (by kernel_rfl) ?_
  clear hd2 hG2 ho2 c3 f3 Hw Hm2 hS0 hG3 hS3 hm3 ho3 hrun hown4 hg4 hat hdbw
  have Ho := Lib.hid ho4
  have Hm := Lib.hid hm4
  have Ht := Lib.hid t4
  have Ha := Lib.hid hat4
  have Hg : ∀ g, (Value.slice A' n' c').ownBlock = some g → g ≠ db := by
    intro g hg
    rcases ho4.2 with ⟨e1, _⟩ | ⟨g', cap, cur, e1, _, h4, _⟩
    · rw [e1] at hg
      cases hg
    · rw [e1] at hg
      injection hg with hg
      have hg' : g' = g := hg
      subst hg'
      exact Blk.ne_ (w := w4) (g := g') (cs := cur) h4 hd4 (by decide)
  have Hg := Lib.hid Hg
  clear ho4 hm4 t4 hat4 t2 t3
  go_wp2
  refine NoPanic.normal ?_
  go_wp2
  go_end0
  exact ⟨rfl, _, hd4.set_ _ _, Hm.out.setCell (p := ⟨db, o + 3, none⟩) (Ne.symm Hn) _, Ho.out.keep fun g hg => heap_setCell_other _ _ _ _ (Hg.out g hg), Ha.out, Ht.out.setCell (p := ⟨db, o + 3, none⟩) (fun _ => .inl rfl) _⟩
end Go.Proofs.Yteedjfgandgbkaa

namespace Go.Proofs.Yteedjfgandgbkaa
open Go.RowKit
theorem setCells_blk : ∀ (vs : List Value) (w : World) (g o : Nat) (t : TypeId) (C : Array Value), Blk w g t C →
    ∃ C', Blk (w.setCells g o vs) g t C' ∧ C'.size = C.size ∧ ∀ j, C'[j]? = if o ≤ j ∧ j < o + vs.length ∧ j < C.size then vs[j - o]? else C[j]?
  | [], w, g, o, t, C, h => ⟨C, h, rfl, fun j => by rw [if_neg (by simp; omega)]⟩
  | v :: r, w, g, o, t, C, h => by
    obtain ⟨C', h1, h2, h3⟩ := setCells_blk r (w.setCell ⟨g, o, none⟩ v) g (o + 1) t _ (h.set_ o v)
    refine ⟨C', h1, by rw [h2, Array.size_setIfInBounds], fun j => ?_⟩
    rw [h3, Array.size_setIfInBounds, List.length_cons]
    by_cases e : j = o
    · subst e
      rw [if_neg (by omega), Array.getElem?_setIfInBounds, if_pos rfl]
      by_cases hj : j < C.size
      · rw [if_pos hj, if_pos ⟨by omega, by omega, hj⟩, Nat.sub_self]
        rfl
      · rw [if_neg hj, if_neg (by omega), Array.getElem?_eq_none (by omega)]
    · by_cases c : o + 1 ≤ j ∧ j < o + 1 + r.length ∧ j < C.size
      · rw [if_pos c, if_pos ⟨by omega, by omega, c.2.2⟩, show j - o = (j - (o + 1)) + 1 from by omega, List.getElem?_cons_succ]
      · rw [if_neg c, Array.getElem?_setIfInBounds, if_neg (fun h => e h.symm), if_neg (by omega)]
theorem setCells_turn : ∀ (vs : List Value) (w : World) (g o : Nat), Turn (only g) w (w.setCells g o vs)
  | [], _, _, _ => Turn.refl _ _
  | v :: r, w, g, o => ((Turn.refl _ w).at_ o v).trans (setCells_turn r _ g (o + 1)) fun _ _ h => h
theorem blk_there {w : World} {g : Nat} {t : TypeId} {C : Array Value} (h : Blk w g t C) (o n : Nat) (hn : o + n ≤ C.size) : w.there g o n := fun j hj =>
  ⟨by rw [h.cell, Array.getElem?_eq_getElem (by omega)]; rfl, h.frozen _⟩
/-- a value of as many cells as the block has goes into it -/
theorem run_store_row {P : Program} {w : World} {g : Nat} {t ty : TypeId} {old cells : Array Value} (hb : Blk w g t old) (hs : old.size = cells.size) (hi : (P.info? ty).map (·.size) = some cells.size)
    (h1 : ∀ v ∈ cells.toList, v.oneCell' = true) : ∃ w', (Instr.storeAt ty (.pointer (some ⟨g, 0, none⟩)) (.agg cells)).run P w = .ok () w' ∧ Blk w' g t cells ∧ Turn (only g) w w' := by
  have hr := run_storeAt_mid (P := P) w g 0 ty cells (blk_there hb 0 _ (by omega)) hi (Array.all_eq_true_iff_forall_mem.2 fun v hv => h1 v (by simpa using hv))
  obtain ⟨C', c1, c2, c3⟩ := setCells_blk cells.toList w g 0 t old hb
  have ht := setCells_turn cells.toList w g 0
  generalize w.setCells g 0 cells.toList = w' at *
  refine ⟨w', hr, ?_, ht⟩
  have : C' = cells := by
    apply Array.ext_getElem?
    intro j
    rw [c3]
    by_cases hj : j < cells.size
    · rw [if_pos ⟨by omega, by simpa using hj, by omega⟩]
      simp
    · rw [if_neg (by simp; omega), Array.getElem?_eq_none (by omega), Array.getElem?_eq_none (by omega)]
  exact this ▸ c1
section
variable {P : Program} {ops : Array Oper} {rest : List Oper} {o : Oper} {a : Act} {w : World} {Q : Exit → Act → World → Prop}
theorem wpList_store_row (hgd : Region.wanted o (yielded ops a.tmps) = true) (ty : TypeId) (x y : Operand) (ho : o.op = .store ty x y) {g : Nat} {t : TypeId} {old : Array Value} (cells : Array Value) (hb : Blk w g t old)
    (hx : a.eval x = .pointer (some ⟨g, 0, none⟩)) (hy : a.eval y = .agg cells) (hs : old.size = cells.size) (hi : (P.info? ty).map (·.size) = some cells.size) (h1 : ∀ v ∈ cells.toList, v.oneCell' = true)
    (h : ∀ w', Blk w' g t cells → Turn (only g) w w' → wpList P ops Q rest (a.put o.dst undef) w') : wpList P ops Q (o :: rest) a w :=
  wpList_step fun K hK => by
    rw [if_pos hgd]
    obtain ⟨w', hr, h2, h3⟩ := run_store_row (P := P) hb hs hi h1
    unfold Oper.wp execOp
    simp only [ho, hx, hy, hr, Sem.run_bind, Sem.run_pure, Result.andThen_ok]
    exact hK _ _ (h w' h2 h3)
/-- an operation whose run is known -/
theorem wpList_run (hgd : Region.wanted o (yielded ops a.tmps) = true) {v : Value} {w' : World} (hr : (execOp a.eval o).run P w = .ok (.value v) w') (h : wpList P ops Q rest (a.put o.dst v) w') : wpList P ops Q (o :: rest) a w :=
  wpList_step fun K hK => by
    rw [if_pos hgd]
    unfold Oper.wp
    rw [hr]
    exact hK _ _ h
end
theorem exec_lookup {P : Program} {a : Act} {o : Oper} {t : TypeId} {m x : Operand} {c : Bool} {M k v : Value} {W : World} (ho : o.op = .lookup t m x c) (hm : a.eval m = M) (hx : a.eval x = k) (h : (Instr.lookup t M k c).run P W = .ok v W) :
    (execOp a.eval o).run P W = .ok (.value v) W := by
  unfold execOp
  simp only [ho, hm, hx, h, Sem.run_bind, Sem.run_pure, Result.andThen_ok]
theorem exec_slice {P : Program} {a : Act} {o : Oper} {t : TypeId} {x : Operand} {lo hi mx : Option Operand} {u v : Value} {l h m : Option Value} {W W' : World} (ho : o.op = .slice t x lo hi mx) (hx : a.eval x = u) (hl : lo.map a.eval = l) (hh : hi.map a.eval = h) (hm : mx.map a.eval = m)
    (hr : (Instr.sliceAt t u l h m).run P W = .ok v W') : (execOp a.eval o).run P W = .ok (.value v) W' := by
  unfold execOp
  simp only [ho, hx, hl, hh, hm, hr, Sem.run_bind, Sem.run_pure, Result.andThen_ok]
theorem exec_load {P : Program} {a : Act} {o : Oper} {ty : TypeId} {x : Operand} {p v : Value} {W : World} (ho : o.op = .load ty x) (hx : a.eval x = p) (h : (Instr.loadAt ty p).run P W = .ok v W) : (execOp a.eval o).run P W = .ok (.value v) W := by
  unfold execOp
  simp only [ho, hx, h, Sem.run_bind, Sem.run_pure, Result.andThen_ok]
section
variable {P : Program} {a : Act} {o : Oper} {W : World}
theorem exec_move {x : Operand} {v : Value} (ho : o.op = .move x) (hx : a.eval x = v) : (execOp a.eval o).run P W = .ok (.value v) W := by
  unfold execOp
  simp only [ho, hx, Sem.run_pure]
theorem exec_nil {x : Operand} {p : Addr} (ho : o.op = .nilCheck x) (hx : a.eval x = .pointer (some p)) : (execOp a.eval o).run P W = .ok (.value (.pointer (some p))) W := by
  unfold execOp
  simp only [ho, hx, Sem.run_pure]
/-- where a field lies -/
def fieldOff (P : Program) (s : TypeId) (k : Nat) : Option Nat :=
  match P.underlying s with
  | some (.struct fs) => match fs[k]? with
    | some f => match P.info? f.type with
      | some i => if i.size = 0 then none else some f.offset
      | none => none
    | none => none
  | _ => none
theorem exec_field {s : TypeId} {k d b off : Nat} {x : Operand} (ho : o.op = .fieldAddr s x k) (hx : a.eval x = .pointer (some ⟨b, off, none⟩)) (hf : fieldOff P s k = some d) :
    (execOp a.eval o).run P W = .ok (.value (.pointer (some ⟨b, off + d, none⟩))) W := by
  unfold execOp
  unfold fieldOff at hf
  split at hf
  · rename_i fs hu
    split at hf
    · rename_i f hfs
      split at hf
      · rename_i i hi
        split at hf
        · cases hf
        · rename_i hz
          cases hf
          simp [ho, hx, Instr.fieldAt, run_underlying hu, hfs, Instr.sureAddr, fieldPlace, sizeOf, typeInfo, hi, hz, add_nat, Result.andThen]
      · cases hf
    · cases hf
  · cases hf
/-- a cell that is read -/
def plainB (P : Program) (t : TypeId) : Bool :=
  match P.underlying t with
  | some (.struct _) | some (.array _ _) | none => false
  | _ => true
theorem exec_load1 {ty : TypeId} {x : Operand} {p : Addr} {v : Value} (ho : o.op = .load ty x) (hx : a.eval x = .pointer (some p)) (hp : plainB P ty = true) (hc : W.cell? p = some v) : (execOp a.eval o).run P W = .ok (.value v) W := by
  unfold execOp
  have hagg : (isAgg ty).run P W = .ok false W := by
    unfold isAgg
    unfold plainB at hp
    split at hp
    · cases hp
    · cases hp
    · cases hp
    · rename_i h1 h2 h3
      cases hu : P.underlying ty with
      | none => exact absurd hu h3
      | some d =>
        rw [Sem.run_bind, run_underlying hu W]
        cases d <;> first | rfl | exact absurd hu (h1 _) | exact absurd hu (h2 _ _)
  simp [ho, hx, Instr.loadAt, Instr.sureAddr, loadVar, hagg, hc, Result.andThen]
theorem exec_makeMap {t : TypeId} (ho : o.op = .makeMap t none) : (execOp a.eval o).run P W = .ok (.value (.map (some W.heap.size))) (W.alloc (.map #[] 0)) := by
  unfold execOp
  simp only [ho]
  simp only [Option.map_none, run_makeMap, Sem.run_bind, Sem.run_pure, Result.andThen_ok]
theorem exec_buildSlice1 {t : TypeId} {x : Operand} {u v : Value} {W' : World} (ho : o.op = .buildSlice t 1 #[(0, x)]) (hx : a.eval x = u) (h : (Instr.buildSlice t 1 #[(0, u)]).run P W = .ok v W') : (execOp a.eval o).run P W = .ok (.value v) W' := by
  unfold execOp
  simp only [ho, List.map_toArray, List.map_cons, List.map_nil, hx, h, Sem.run_bind, Sem.run_pure, Result.andThen_ok]
theorem exec_append {t : TypeId} {x y : Operand} {u v r : Value} {W' : World} (ho : o.op = .call { callee := .builtin .append, args := #[x, y], argTypes := #[t, t] }) (hx : a.eval x = u) (hy : a.eval y = v) (hr : (Builtin.append_ #[t, t] o.type #[u, v]).run P W = .ok r W') :
    (execOp a.eval o).run P W = .ok (.value r) W' := by
  unfold execOp
  simp only [ho, resolve, invoke, builtin, Sem.run_bind, Sem.run_pure, Result.andThen_ok, List.map_toArray, List.map_cons, List.map_nil, hx, hy, hr]
end
end Go.Proofs.Yteedjfgandgbkaa

namespace Go.Proofs.Yteedjfgandgbkaa
open Go.RowKit
set_option linter.unusedVariables false
theorem zero_sector (w : World) : (zeroValue 63).run Try.prog w = .ok (eS.val zeroSec) w := by kernel_rfl
theorem map_sector : Try.prog.underlying 56 = some (.map 3 63) := Try.underlying56
theorem sec_one (s : Sec) : ∀ v ∈ (bcs s.1).toArray.toList, v.oneCell' = true := fun v hv => bcs_one s.1 v (by simpa using hv)
theorem size_sec (s : Sec) : (Try.prog.info? 63).map (·.size) = some (bcs s.1).toArray.size := by rw [size_sector]; simp [bcs_length, s.2]
/-- what a disk tells of a sector -/
def reads (nf ff : Int → Option Sec) (place : Int) : Sec := match nf place with
  | some s => s
  | none => (ff place).getD zeroSec
theorem sec_size (s : Sec) : 64 = (bcs s.1).toArray.size := by simp [bcs_length, s.2]
theorem load_blk {w : World} {g : Nat} {t : TypeId} {s : Sec} (h : Blk w g t (bcs s.1).toArray) (W : World) (hW : W.heap = w.heap) :
    (Instr.loadAt 63 (.pointer (some ⟨g, 0, none⟩))).run Try.prog W = .ok (rowV s.1) W :=
  load_sector (range_of_blk h 0 _ fun j v hv => by
    rw [Nat.zero_add]
    simpa using hv) W hW
theorem read_walk (db o nw fl n1 n2 : Nat) (nf ff : Int → Option Sec) (place : Int) (C : Array Value) (w : World)
    (hd : Blk w db 59 C) (h1 : C[o + 1]? = some (.map (some fl))) (h2 : C[o + 2]? = some (.map (some nw))) (hm1 : MapAt w kI eS fl n1 ff) (hm2 : MapAt w kI eS nw n2 nf) (hx : (Lit.int .i64 place).wf = true) :
    Calls Try.prog 33 #[.pointer (some ⟨db, o, none⟩), .int .i64 place] w fun e w' => e = .returned (rowV (reads nf ff place).1) ∧ Turn nowhere w w' := by
  have ldb := hd.lt
  go_enter Try.func33, Try.ntmps33
  go_upto_region 1 with (fail)
  change Code.wp _ _ _ _ (w.alloc (.cells (bcs zeroSec.1).toArray 63))
  have hR := Blk.new w 63 (bcs zeroSec.1).toArray
  have hd1 := hd.alloc (.cells (bcs zeroSec.1).toArray 63)
  have ha := hm1.alloc (.cells (bcs zeroSec.1).toArray 63)
  have hb := hm2.alloc (.cells (bcs zeroSec.1).toArray 63)
  have ht : Turn nowhere w _ := (Turn.refl _ _).alloc (.cells (bcs zeroSec.1).toArray 63)
  generalize (w.alloc (.cells (bcs zeroSec.1).toArray 63)) = w1 at *
  generalize hR0 : w.heap.size = R at *
  have HR := Lib.hid hR0
  have Ht := Lib.hid ht
  clear hR0 ht hm1 hm2 hd
  have c1 : w1.cell? ⟨db, o + 1, none⟩ = some (.map (some fl)) := (hd1.cell _).trans h1
  have c2 : w1.cell? ⟨db, o + 2, none⟩ = some (.map (some nw)) := (hd1.cell _).trans h2
  have lk : (Instr.lookup 56 (.map (some nw)) (.int .i64 place) true).run Try.prog w1 = .ok (.tuple #[rowV ((nf place).getD zeroSec).1, .bool (nf place).isSome]) w1 := hb.look_ok map_sector (zero_sector _) hx
  cases hn : nf place with
  | some s =>
    rw [hn] at lk
    have Hr : Hid (reads nf ff place = s) := Lib.hid (by unfold reads; rw [hn])
    simp only [Option.getD_some, Option.isSome_some] at lk
    have Hn := Lib.hid hn
    clear hn
    go_wp2_with (first
      | (refine wpList_store_row rfl 63 (.tmp 5) (.tmp 14) rfl (bcs s.1).toArray (Blk.new w1 _ _) rfl rfl (sec_size s) (size_sec s) (sec_one s) ?_; intro w2 hb2 ht2)
      | (refine wpList_run rfl (exec_load (ty := 63) (x := .tmp 5) rfl rfl (load_blk hb2 _ rfl)) ?_)
      | (refine wpList_store_row rfl 63 (.tmp 4) (.tmp 17) rfl (bcs s.1).toArray ((hR.alloc _).turn ht2 (Nat.ne_of_lt hR.lt)) rfl rfl (sec_size s) (size_sec s) (sec_one s) ?_; intro w3 hb3 ht3))
    refine bodyPost_ret (v := rowV s.1) (results_cell_row rfl _ _ R 63 _ (0, 0) _ rfl hb3 Try.underlying63 rfl (size_sec s)) rfl ⟨by rw [Hr.out], ?_⟩
    refine ((Ht.out.alloc _).trans ht2 fun k hk e => ?_).trans ht3 fun k hk e => ?_
    · have := Ht.out.size
      exact (by unfold only at e; omega : False).elim
    · have := HR.out
      exact (by unfold only at e; omega : False).elim
  | none =>
    rw [hn] at lk
    have Hr : Hid (reads nf ff place = (ff place).getD zeroSec) := Lib.hid (by unfold reads; rw [hn])
    simp only [Option.getD_none, Option.isSome_none] at lk
    have Hn := Lib.hid hn
    clear hn
    go_wp2_with (first
      | (refine wpList_store_row rfl 63 (.tmp 5) (.tmp 14) rfl (bcs zeroSec.1).toArray (Blk.new w1 _ _) rfl rfl (sec_size zeroSec) (size_sec zeroSec) (sec_one zeroSec) ?_; intro w2 hb2 ht2; have c1' : w2.cell? ⟨db, o + 1, none⟩ = some (.map (some fl)) := (((hd1.alloc _).turn ht2 (Nat.ne_of_lt hd1.lt)).cell _).trans h1)
      | (refine wpList_run rfl (exec_lookup (M := .map (some fl)) (k := .int .i64 place) rfl rfl rfl (((ha.alloc _).turn ht2 (Nat.ne_of_lt ha.lt)).lookup map_sector (zero_sector _) hx)) ?_)
      | (refine wpList_store_row rfl 63 (.tmp 4) (.tmp 23) rfl (bcs ((ff place).getD zeroSec).1).toArray ((hR.alloc _).turn ht2 (Nat.ne_of_lt hR.lt)) rfl rfl (sec_size _) (size_sec _) (sec_one _) ?_; intro w3 hb3 ht3))
    refine bodyPost_ret (v := rowV ((ff place).getD zeroSec).1) (results_cell_row rfl _ _ R 63 _ (0, 0) _ rfl hb3 Try.underlying63 rfl (size_sec _)) rfl ⟨by rw [Hr.out], ?_⟩
    refine ((Ht.out.alloc _).trans ht2 fun k hk e => ?_).trans ht3 fun k hk e => ?_
    · have := Ht.out.size
      exact (by unfold only at e; omega : False).elim
    · have := HR.out
      exact (by unfold only at e; omega : False).elim
theorem forget_walk (db o : Nat) (C : Array Value) (w : World) (hd : Blk w db 59 C) (hs : o + 3 < C.size) :
    Calls Try.prog 36 #[.pointer (some ⟨db, o, none⟩)] w fun e w' => e = .returned (.tuple #[]) ∧
      Blk w' db 59 ((C.setIfInBounds (o + 2) (.map (some w.heap.size))).setIfInBounds (o + 3) (.slice none 0 0)) ∧ MapAt w' kI eS w.heap.size 0 (fun _ => none) ∧ Turn (only db) w w' := by
  have c2 : (w.cell? ⟨db, o + 2, none⟩) = some (C[o + 2]'(by omega)) := (hd.cell _).trans (Array.getElem?_eq_getElem _)
  have c3 : (w.cell? ⟨db, o + 3, none⟩) = some (C[o + 3]'(by omega)) := (hd.cell _).trans (Array.getElem?_eq_getElem _)
  have f2 := hd.frozen (o + 2)
  have f3 := hd.frozen (o + 3)
  have ldb := hd.lt
  have hmm := @run_makeMap Try.prog
  go_enter Try.func36, Try.ntmps36
  go_wp2
  go_end0
  refine ⟨rfl, ((hd.set_ _ _).set_ _ _).alloc _, ?_, (((Turn.refl _ _).at_ _ _).at_ _ _).alloc _⟩
  have h := MapAt.made kI eS ((w.setCell ⟨db, o + 2, none⟩ (.map (some w.heap.size))).setCell ⟨db, o + 3, none⟩ (.slice none 0 0))
  simpa using h
end Go.Proofs.Yteedjfgandgbkaa

namespace Go.Proofs.Yteedjfgandgbkaa
open Go.RowKit Go.Maps
set_option linter.unusedVariables false
set_option maxHeartbeats 2000000 in
theorem copy_walk (bd bs nd ns : Nat) (f fs : Int → Option Sec) (w : World) (hd : MapAt w kI eS bd nd f) (hs : MapAt w kI eS bs ns fs) (hne : bd ≠ bs) (hroom : nd + ns < 2199023255552) :
    Calls Try.prog 43 #[.map (some bd), .map (some bs)] w fun e w' => e = .returned (.tuple #[]) ∧ MapAt w' kI eS bd (nd + ns) (over fs f) ∧ Turn (only bd) w w' := by
  obtain ⟨Ds, hso, hst⟩ := hs
  have hbd := hd.lt
  have hbs := hso.lt
  have hsz := hso.size_le
  go_enter Try.func43, Try.ntmps43
  go_wp2_with (first
    | (at_range; refine wpList_range_own _ rfl _ 56 rfl 3 63 kI.keyed map_sector eS.R bs ns _ rfl hso ?_; intro w0 hrg0 hg0 hs0))
  go_frame
  go_loopw [8] (fun _ wr => ∃ (left : Lit → Bool) (cnt : Nat) (fd : Int → Option Sec), wr.ranges Try.prog 3 eS.R bs w.heap.size ns Ds left cnt ∧ cnt ≤ Maps.size Ds ∧
      MapAt wr kI eS bd (nd + (Maps.size Ds - cnt)) fd ∧ Laid kI Ds fs f left fd ∧ Turn (only bd) w wr)
    (fun _ wr => wr.rangeLeft bs w.heap.size)
  case atStart =>
    exact ⟨_, _, f, hrg0, Nat.le_refl _, (hd.grown hg0 (by simp)).mono (by omega), laid_start Ds fs f, (Turn.refl _ _).grown hg0 (fun g e => by cases e)⟩
  case round =>
    obtain ⟨left, cnt, fd, hrg, hcs, hout, hL, ht⟩ := hrel
    have hbd' : bd ≠ w.heap.size := Nat.ne_of_lt hbd
    go_wp2_with (first
      | (at_next; refine wpList_next_ranges _ rfl _ rfl 3 kI.keyed eS.R (fun x : Int => Value.int .i64 x) (fun s : List UInt8 => rowV s) (fun key kl h => by obtain ⟨x, _, h1, _⟩ := kI.inv key kl h; exact ⟨x, h1⟩) (fun v y h => by obtain ⟨x, h1, _⟩ := eS.inv v y h; exact ⟨x.1, h1⟩) bs w.heap.size ns _ _ _ rfl hrg ?_ ?_))
    · intro hc0 hl0
      go_wp2
      go_end0
      refine ⟨rfl, (hout.mono (by omega)).congr fun x hx => laid_end hst hl0 hL x hx, ht⟩
    · intro x c0 kl yd yp w1 cnt1 hkey hlx hv hat hrg1 hlt hg1 hs1 hen
      obtain ⟨c, hc, hy⟩ := eS.inv _ _ hv
      obtain rfl : c0 = c.1 := by
        have h1 : Value.agg (bcs c0).toArray = Value.agg (bcs c.1).toArray := hc
        injection h1 with h1
        have h2 := congrArg (fun a : Array Value => cellsBytes a.toList) h1
        simpa [cellsBytes_bcs] using h2
      obtain ⟨rfl, rfl⟩ := Prod.mk.inj hy
      obtain ⟨x', hx, e1, rfl⟩ := kI.inv _ _ hkey
      obtain rfl : x = x' := by
        injection e1
      have hout1 := hout.grown hg1 (fun e => hbd' (Option.some.inj e))
      have ht1 := ht.grown hg1 (fun g e hg => by cases e; omega)
      have hL1 := laid_step hx hst hat hL
      have HL := Lib.hid hL1
      have Hat := Lib.hid hat
      have Hlt := Lib.hid hlt
      have Hrg := Lib.hid hrg
      have Hs1 := Lib.hid hs1
      clear hL hL1 hat hv e1 hkey hlx hrg hlt hc hy hs1
      go_wp2_with (first
        | (refine wpList_store_row rfl 63 (.tmp 5) (.tmp 12) rfl (bcs c.1).toArray (Blk.new w1 _ _) rfl rfl (sec_size c) (size_sec c) (sec_one c) ?_; intro w2 hb2 ht2)
        | (refine wpList_run rfl (exec_load (ty := 63) (x := .tmp 5) rfl rfl (load_blk hb2 _ rfl)) ?_)
        | (at_mapUpdate; refine wpList_mapUpdate_at rfl _ _ _ _ rfl ((hout1.alloc _).turn ht2 (Nat.ne_of_lt hout1.lt)) map_sector (by unfold maxLen; omega) hx c rfl rfl rfl ?_; intro w3 hm3 hg3; go_frame))
      have hrg2 := ((hrg1.alloc _).kept ht2.grow1 (fun e => by have := Option.some.inj e; have := hrg1.lt; omega) (fun e => by have := Option.some.inj e; have := hrg1.lt; omega)).kept hg3 (fun e => hne (Option.some.inj e).symm) (fun e => hbd' (Option.some.inj e).symm)
      go_roundw
      case rel =>
        exact ⟨_, cnt1, _, hrg2, by have := Hlt.out; omega, hm3.mono (by have := Hlt.out; omega), HL.out, (((ht1.alloc _).trans ht2 (fun k hk e => by unfold only at e; have := ht1.size; omega)).grown hg3 (fun g e _ => (Option.some.inj e).symm))⟩
      case measure =>
        rw [hrg2.left_eq, Hrg.out.left_eq]
        exact Hlt.out
set_option maxHeartbeats 1000000 in
theorem flush_walk (db o fl nw n1 n2 : Nat) (ff nf : Int → Option Sec) (C : Array Value) (w : World)
    (hd : Blk w db 59 C) (h1 : C[o + 1]? = some (.map (some fl))) (h2 : C[o + 2]? = some (.map (some nw))) (hs : o + 3 < C.size) (hm1 : MapAt w kI eS fl n1 ff) (hm2 : MapAt w kI eS nw n2 nf) (hne : fl ≠ nw) (hroom : n1 + n2 < 2199023255552) :
    Calls Try.prog 32 #[.pointer (some ⟨db, o, none⟩)] w fun e w' => e = .returned (.tuple #[]) ∧
      ∃ nw', w.heap.size ≤ nw' ∧ Blk w' db 59 ((C.setIfInBounds (o + 2) (.map (some nw'))).setIfInBounds (o + 3) (.slice none 0 0)) ∧ MapAt w' kI eS fl (n1 + n2) (over nf ff) ∧ MapAt w' kI eS nw' 0 (fun _ => none) ∧
        Turn (fun k => k = db ∨ k = fl) w w' := by
  have c1 : w.cell? ⟨db, o + 1, none⟩ = some (.map (some fl)) := (hd.cell _).trans h1
  have c2 : w.cell? ⟨db, o + 2, none⟩ = some (.map (some nw)) := (hd.cell _).trans h2
  have H1 := Lib.hid hm1
  have H2 := Lib.hid hm2
  have Hd := Lib.hid hd
  clear hm1 hm2 hd h1 h2
  go_enter Try.func32, Try.ntmps32
  go_wp2_with fail
  go_still_tail 8, (by kernel_rfl)
  change wpList _ _ _ _ _ w.drew
  go_wp2_with fail
  refine (copy_walk fl nw n1 n2 ff nf _ H1.out.drew H2.out.drew hne hroom).mono ?_
  rintro e w1 ⟨rfl, hm, ht⟩
  have hd1 : Blk w1 db 59 C := Hd.out.drew.turn ht (H1.out.ne Hd.out)
  have Hm := Lib.hid hm
  have Ht := Lib.hid ht
  clear hm ht
  go_wp2_with fail
  refine (forget_walk db o C w1 hd1 hs).mono ?_
  rintro e w2 ⟨rfl, hd2, hm2, ht2⟩
  go_wp2
  go_end0
  have hz := Ht.out.size
  refine ⟨rfl, _, hz, hd2, Hm.out.turn ht2 (fun e => H1.out.ne Hd.out e.symm), hm2, ?_⟩
  exact ((Turn.refl (fun k => k = db ∨ k = fl) w).drew.trans Ht.out (fun k _ e => .inr e)).trans ht2 (fun k _ e => .inl e)
end Go.Proofs.Yteedjfgandgbkaa

namespace Go.Proofs.Yteedjfgandgbkaa
open Go.RowKit Go.Maps
set_option linter.unusedVariables false
/-- what a boot makes of a sector (the two lowest bits of a number) -/
def bootSec (j : Int) (old b : Sec) : Sec :=
  if j = 1 then b else if j = 2 then ⟨b.1.take 32 ++ old.1.drop 32, by simp [b.2, old.2]⟩ else if j = 3 then ⟨old.1.take 32 ++ b.1.drop 32, by simp [b.2, old.2]⟩ else old
def bootFl (j : Int) (place : Int) (b : Sec) (ff : Int → Option Sec) : Int → Option Sec :=
  if j = 0 then ff else upd ff place (bootSec j ((ff place).getD zeroSec) b)
theorem info_byte : (Try.prog.info? 5).map (·.size) = some 1 := by kernel_rfl
theorem range_take {w : World} {g o : Nat} {bs : List UInt8} (h : w.rangeAt g o (bcs bs)) (n : Nat) : w.rangeAt g o (bcs (bs.take n)) := fun j v hv => by
  refine h j v ?_
  unfold bcs at hv ⊢
  rw [List.map_take, List.getElem?_take] at hv
  split at hv
  · exact hv
  · cases hv
theorem range_drop {w : World} {g o : Nat} {bs : List UInt8} (h : w.rangeAt g o (bcs bs)) (n : Nat) : w.rangeAt g (o + n) (bcs (bs.drop n)) := fun j v hv => by
  have := h (n + j) v (by
    unfold bcs at hv ⊢
    rw [List.map_drop, List.getElem?_drop] at hv
    exact hv)
  rwa [← Nat.add_assoc] at this
/-- a piece of bytes goes into a block of bytes -/
theorem wpList_copy_bytes {ops : Array Oper} {rest : List Oper} {o : Oper} {a : Act} {w : World} {Q : Exit → Act → World → Prop} (hgd : o.guard = none) (d s : Operand)
    (ho : o.op = .call { callee := .builtin .copy, args := #[d, s], argTypes := #[36, 36] }) {g off g2 o2 n dc sc : Nat} {t : TypeId} (old bs : List UInt8) (hb : Blk w g t (bcs old).toArray) (hsrc : w.rangeAt g2 o2 (bcs bs)) (hn : bs.length = n)
    (hd : a.eval d = .slice (some ⟨g, off, none⟩) n dc) (hs : a.eval s = .slice (some ⟨g2, o2, none⟩) n sc) (hfit : off + n ≤ old.length)
    (h : ∀ w', Blk w' g t (bcs (old.take off ++ bs ++ old.drop (off + n))).toArray → Turn (only g) w w' → wpList Try.prog ops Q rest (a.put o.dst (goInt n)) w') : wpList Try.prog ops Q (o :: rest) a w := by
  subst hn
  refine wpList_copy_own hgd d s _ _ ho 5 Try.underlying36 info_byte g off bs.length dc ⟨g2, o2, none⟩ bs.length sc hd hs (bcs old).toArray t hb (bcs bs) (by rw [bcs_length]; exact (Nat.min_self _).symm) (fun j v hj => by
    rw [add_nat]
    exact hsrc j v hj) (by rw [bcs_length]; simpa [bcs_length] using hfit) (bcs_one bs) ?_
  rw [bcs_length]
  refine h _ ?_ ⟨rfl, rfl, rfl, by simp, fun k hk hn => setRow_other w g k _ hn⟩
  have e : ((bcs old).toArray.toList.take off ++ (bcs bs ++ (bcs old).toArray.toList.drop (off + bs.length))).toArray = (bcs (old.take off ++ bs ++ old.drop (off + bs.length))).toArray := by
    simp [bcs, List.map_append, List.map_take, List.map_drop]
  rw [e]
  exact setRow_heap w g _ _ t _ hb
/-- where a list of writes begins behind its first one -/
def cutOff (c off : Nat) : Nat := if c = 1 then off else off + 66
theorem exec_alloc {P : Program} {a : Act} {o : Oper} {t : TypeId} {cs : Array Value} {W : World} (ho : o.op = .alloc t) (hz : (zeroValue t).run P W = .ok (.agg cs) W) :
    (execOp a.eval o).run P W = .ok (.value (.pointer (some ⟨W.heap.size, 0, none⟩))) (W.alloc (.cells cs t)) := by
  unfold execOp
  simp only [ho]
  simp [hz, Instr.alloc, Result.andThen, newVar, newRow, Value.cells]
theorem zero_write (w : World) : (zeroValue 66).run Try.prog w = .ok (.agg (wtCells (0, 0, zeroSec)).toArray) w := by kernel_rfl
theorem slice_oneP (g off n c : Nat) (h0 : 0 < n) (hc : n ≤ c) (W : World) : (Instr.sliceAt 57 (.slice (some ⟨g, off, none⟩) n c) (some (.int .i64 1)) none none).run Try.prog W = .ok (.slice (some ⟨g, cutOff c off, none⟩) (n - 1) (c - 1)) W := by
  have hu := Try.underlying57
  have hi : ∃ i, Try.prog.info? 66 = some i ∧ i.size = 66 := by
    have h := size_write
    cases hq : Try.prog.info? 66 with
    | none => rw [hq] at h; cases h
    | some i => exact ⟨i, rfl, by rw [hq] at h; exact Option.some.inj h⟩
  obtain ⟨i, hi1, hi2⟩ := hi
  have e1 : ∀ s : Addr, (⟨g, off, none⟩ : Addr).add 66 = ⟨g, off + 66, none⟩ := fun _ => add_nat g off 66
  have b1 : (0 : Int) ≤ 1 ∧ (1 : Int) ≤ (n : Int) := ⟨by omega, by omega⟩
  simp only [Instr.sliceAt, Instr.slice, Instr.sliceBounds, Instr.sliceBound, run_underlying hu, Sem.run_bind, Sem.run_pure, Result.andThen_ok, asIntOf, sizeOf, typeInfo]
  simp [b1, hi1, hi2]
  unfold cutOff
  by_cases hc1 : c = 1
  · simp [hc1]
  · simp [hc1]
    exact e1 ⟨0, 0, none⟩
set_option maxHeartbeats 1000000 in
theorem boot_walk (db o fl n1 g off n c : Nat) (ff : Int → Option Sec) (x : Wt) (k j : Int) (C : Array Value) (w : World)
    (hd : Blk w db 59 C) (h1 : C[o + 1]? = some (.map (some fl))) (h3 : C[o + 3]? = some (.slice (some ⟨g, off, none⟩) n c)) (hs : o + 3 < C.size) (hm1 : MapAt w kI eS fl n1 ff) (hr : w.rangeAt g off (wtCells x)) (hx : (Lit.int .i64 x.2.1).wf = true)
    (h0 : 0 < n) (hc : n ≤ c) (hcm : c ≤ 9223372036854775807) (hroom : n1 < 2199023255552) (hj : bits .and .i64 k 3 = j) (hj4 : j = 0 ∨ j = 1 ∨ j = 2 ∨ j = 3) :
    Calls Try.prog 35 #[.pointer (some ⟨db, o, none⟩), .int .i64 k] w fun e w' => e = .returned (.tuple #[]) ∧
      Blk w' db 59 (C.setIfInBounds (o + 3) (.slice (some ⟨g, cutOff c off, none⟩) (n - 1) (c - 1))) ∧ MapAt w' kI eS fl (n1 + 1) (bootFl j x.2.1 x.2.2 ff) ∧
        Turn (fun k => k = db ∨ k = fl) w w' := by
  have c1 : w.cell? ⟨db, o + 1, none⟩ = some (.map (some fl)) := (hd.cell _).trans h1
  have c3 : w.cell? ⟨db, o + 3, none⟩ = some (.slice (some ⟨g, off, none⟩) n c) := (hd.cell _).trans h3
  have f3 := hd.frozen (o + 3)
  have ldb := hd.lt
  have H1 := Lib.hid hm1
  have Hd := Lib.hid hd
  have z1 : (0 : Int) < (n : Int) := by omega
  have z2 : (1 : Int) ≤ (n : Int) := by omega
  have z3 : (1 : Int) ≤ (c : Int) := by omega
  have z4 : (n : Int) ≤ (c : Int) := by omega
  have Hj := Lib.hid hj
  clear hm1 hd h1 h3 hj
  go_enter Try.func35, Try.ntmps35
  have hz := zero_write
  go_upto_region 1 with (first
    | (refine wpList_run rfl (exec_load (ty := 66) (x := .tmp 10) rfl rfl (load_write hr _ rfl)) ?_)
    | (refine wpList_store_row rfl 66 (.tmp 4) (.tmp 11) rfl (wtCells x).toArray (Blk.new w _ _) rfl rfl (by simp [wtCells_length]) (by rw [size_write]; simp [wtCells_length]) (fun v hv => wtCells_one x v (by simpa using hv)) ?_; intro w1 hb1 ht1))
  have hd1 : Blk w1 db 59 C := (Hd.out.alloc _).turn ht1 (Nat.ne_of_lt Hd.out.lt)
  have hm1 : MapAt w1 kI eS fl n1 ff := (H1.out.alloc _).turn ht1 (Nat.ne_of_lt H1.out.lt)
  have t1 : Turn (fun k => k = db ∨ k = fl) w w1 := ((Turn.refl _ _).alloc _).trans ht1 (fun k hk e => (Nat.ne_of_lt hk e).elim)
  have Hne := H1.out.ne Hd.out
  have hGdb : db ≠ w.heap.size := Nat.ne_of_lt Hd.out.lt
  have c3' : w1.cell? ⟨db, o + 3, none⟩ = some (.slice (some ⟨g, off, none⟩) n c) := by rw [hd1.cell, ← Hd.out.cell]; exact c3
  have f3' := hd1.frozen (o + 3)
  have c1' : w1.cell? ⟨db, o + 1, none⟩ = some (.map (some fl)) := by rw [hd1.cell, ← Hd.out.cell]; exact c1
  have T1 := Lib.hid t1
  have HM := Lib.hid hm1
  clear ht1 hm1 t1 c3 c1 f3 hr
  go_upto_region 2 with (first
    | (refine wpList_run (o := ⟨some 17, _, _, _, _, _⟩) rfl (exec_slice (t := 57) (x := .tmp 16) (lo := some (.const (.int .i64 1))) (hi := none) (mx := none) (l := some (.int .i64 1)) (h := none) (m := none) (u := .slice (some ⟨g, off, none⟩) n c) rfl rfl rfl rfl rfl (slice_oneP g off n c h0 hc _)) ?_))
  have hd2 := hd1.set_ (o + 3) (.slice (some ⟨g, cutOff c off, none⟩) (n - 1) (c - 1))
  have hb2 : Blk _ w.heap.size 66 (wtCells x).toArray := hb1.far (p := ⟨db, o + 3, none⟩) (Ne.symm hGdb) (.slice (some ⟨g, cutOff c off, none⟩) (n - 1) (c - 1))
  have hm2 := HM.out.setCell (p := ⟨db, o + 3, none⟩) (Ne.symm Hne) (.slice (some ⟨g, cutOff c off, none⟩) (n - 1) (c - 1))
  have t2 := T1.out.setCell (p := ⟨db, o + 3, none⟩) (fun _ => .inl rfl) (.slice (some ⟨g, cutOff c off, none⟩) (n - 1) (c - 1))
  have q1 : (C.setIfInBounds (o + 3) (.slice (some ⟨g, cutOff c off, none⟩) (n - 1) (c - 1)))[o + 1]? = some (.map (some fl)) := by
    rw [Array.getElem?_setIfInBounds, if_neg (by omega), ← hd1.cell]
    exact c1'
  generalize w1.setCell ⟨db, o + 3, none⟩ (.slice (some ⟨g, cutOff c off, none⟩) (n - 1) (c - 1)) = w2 at *
  generalize hC2 : C.setIfInBounds (o + 3) (.slice (some ⟨g, cutOff c off, none⟩) (n - 1) (c - 1)) = C2 at *
  have HC2 := Lib.hid hC2
  clear hC2
  generalize w.heap.size = G at *
  clear hd1 hb1 HM T1 c3' c1' f3'
  have hS2 : Blk w2.drew db 59 C2 ∧ Blk w2.drew G 66 (wtCells x).toArray ∧ MapAt w2.drew kI eS fl n1 ff := ⟨hd2, hb2, hm2⟩
  have hz72 := zero_sector
  go_wp2_with fail
  refine wp_region_till (fun W => Blk W db 59 C2 ∧ Blk W G 66 (wtCells x).toArray ∧ MapAt W kI eS fl n1 ff) 8 (by kernel_rfl) ?_
  refine till_take (i := 0) (v := .pointer (some ⟨db, o, none⟩)) rfl (by kernel_rfl) (by kernel_rfl) (fun _ _ _ h => h) (.inl ⟨rfl, fun W hW => exec_move rfl rfl⟩) hS2 ?_
  simp only [Act.put, List.setIfInBounds_toArray, List.set_cons_zero, List.set_cons_succ]
  refine till_take (i := 1) (v := .pointer (some ⟨db, o, none⟩)) rfl (by kernel_rfl) (by kernel_rfl) (fun _ _ _ h => h) (.inl ⟨rfl, fun W hW => exec_nil rfl rfl⟩) hS2 ?_
  simp only [Act.put, List.setIfInBounds_toArray, List.set_cons_zero, List.set_cons_succ]
  refine till_take (i := 2) (v := .pointer (some ⟨db, o + 1, none⟩)) rfl (by kernel_rfl) (by kernel_rfl) (fun _ _ _ h => h) (.inl ⟨rfl, fun W hW => exec_field rfl rfl (by kernel_rfl)⟩) hS2 ?_
  simp only [Act.put, List.setIfInBounds_toArray, List.set_cons_zero, List.set_cons_succ]
  refine till_take (i := 3) (v := .map (some fl)) rfl (by kernel_rfl) (by kernel_rfl) (fun _ _ _ h => h) (.inl ⟨rfl, fun W hW => exec_load1 rfl rfl (by kernel_rfl) ((hW.1.cell (o + 1)).trans q1)⟩) hS2 ?_
  simp only [Act.put, List.setIfInBounds_toArray, List.set_cons_zero, List.set_cons_succ]
  refine till_take (i := 4) (v := .pointer (some ⟨G, 1, none⟩)) rfl (by kernel_rfl) (by kernel_rfl) (fun _ _ _ h => h) (.inl ⟨rfl, fun W hW => exec_field (off := 0) (d := 1) rfl rfl (by kernel_rfl)⟩) hS2 ?_
  simp only [Act.put, List.setIfInBounds_toArray, List.set_cons_zero, List.set_cons_succ]
  refine till_take (i := 5) (v := .int .i64 x.2.1) rfl (by kernel_rfl) (by kernel_rfl) (fun _ _ _ h => h) (.inl ⟨rfl, fun W hW => exec_load1 rfl rfl (by kernel_rfl) ((hW.2.1.cell 1).trans (by simp [wtCells]))⟩) hS2 ?_
  simp only [Act.put, List.setIfInBounds_toArray, List.set_cons_zero, List.set_cons_succ]
  refine till_take (i := 6) (v := rowV ((ff x.2.1).getD zeroSec).1) rfl (by kernel_rfl) (by kernel_rfl) (fun _ _ _ h => h) (.inl ⟨rfl, fun W hW => exec_lookup (M := .map (some fl)) (k := .int .i64 x.2.1) rfl rfl rfl (hW.2.2.lookup map_sector (zero_sector _) hx)⟩) hS2 ?_
  simp only [Act.put, List.setIfInBounds_toArray, List.set_cons_zero, List.set_cons_succ]
  refine till_only (i := 7) (by kernel_rfl) rfl rfl ?_
  refine wp_run (exec_alloc rfl (zero_sector _)) ?_
  have hS3 : Blk _ db 59 C2 ∧ Blk _ G 66 (wtCells x).toArray ∧ MapAt _ kI eS fl n1 ff := ⟨hS2.1.alloc (.cells (bcs zeroSec.1).toArray 63), hS2.2.1.alloc (.cells (bcs zeroSec.1).toArray 63), hS2.2.2.alloc (.cells (bcs zeroSec.1).toArray 63)⟩
  have hB3 := Blk.new w2.drew 63 (bcs zeroSec.1).toArray
  have t3 := t2.drew.alloc (.cells (bcs zeroSec.1).toArray 63)
  refine ⟨fun _ => hS3, ?_⟩
  refine till_tail 8 rfl (by kernel_rfl) ?_
  simp only [Act.put, List.setIfInBounds_toArray, List.set_cons_zero, List.set_cons_succ]
  obtain ⟨old, hold⟩ : ∃ s : Sec, s = (ff x.2.1).getD zeroSec := ⟨_, rfl⟩
  rw [← hold]
  have Ho := Lib.hid hold
  clear hold
  have hz3 := hB3
  generalize hw3 : w2.drew.alloc (.cells (bcs zeroSec.1).toArray 63) = w3 at *
  generalize hD : w2.drew.heap.size = D at *
  have hDG : D ≠ G := by
    have := hb2.lt
    have e : w2.drew.heap.size = w2.heap.size := rfl
    omega
  have hDw : ∀ k, k < w.heap.size → only D k → False := by
    intro k hk e
    have e' : k = D := e
    have e2 : w2.drew.heap.size = w2.heap.size := rfl
    have := t2.size
    omega
  clear hw3 hD hd2 hb2 hm2 t2 hS2
  refine wpList_store_row rfl 63 (.tmp 5) (.tmp 26) rfl (bcs old.1).toArray hB3 rfl rfl (by rw [← sec_size, ← sec_size]) (size_sec old) (sec_one old) ?_
  intro w4 hB4 ht4
  have hd4 : Blk w4 db 59 C2 := hS3.1.turn ht4 (by
    have := Blk.ne_ hS3.1 hB3 (by decide)
    exact this)
  have hb4 : Blk w4 G 66 (wtCells x).toArray := hS3.2.1.turn ht4 (Ne.symm hDG)
  have hm4 : MapAt w4 kI eS fl n1 ff := hS3.2.2.turn ht4 (fun e => hS3.2.2.ne hB3 e.symm)
  have HDdb : db ≠ D := Blk.ne_ hS3.1 hB3 (by decide)
  have hfl : fl ≠ D := fun e => hS3.2.2.ne hB3 e.symm
  have t4 : Turn (fun k => k = db ∨ k = fl) w w4 := t3.trans ht4 (fun k hk e => (hDw k hk e).elim)
  have Hfl := Lib.hid hfl
  have T4 := Lib.hid t4
  have HDw := Lib.hid hDw
  have Q1 := Lib.hid q1
  clear hS3 hB3 ht4 t3 hz3 hz hz72 hfl t4 hDw q1
  refine wpList_nil ?_
  refine NoPanic.normal ?_
  have hm4' := hm4
  have Hm4 := Lib.hid hm4'
  clear hm4'
  rcases hj4 with rfl | rfl | rfl | rfl
  · have hjj := Hj.out
    clear Hj
    go_wp2
    refine bodyPost_ret (results_none rfl _ _ _) rfl ?_
    exact ⟨rfl, HC2.out ▸ hd4, hm4.mono (by omega), T4.out⟩
  · have hjj := Hj.out
    clear Hj
    go_wp2_with (first
      | (refine wpList_run (o := ⟨some 34, _, _, _, _, _⟩) rfl (exec_load (ty := 63) (x := .tmp 33) rfl rfl (load_sector (wt_sec x hb4) _ rfl)) ?_)
      | (refine wpList_store_row rfl 63 (.tmp 5) (.tmp 34) rfl (bcs x.2.2.1).toArray hB4 rfl rfl (by rw [← sec_size, ← sec_size]) (size_sec _) (sec_one _) ?_; intro w5 hB5 ht5))
    have hd5 : Blk w5 db 59 C2 := hd4.turn (F := only D) ht5 HDdb
    have hb5 : Blk w5 G 66 (wtCells x).toArray := hb4.turn (F := only D) ht5 (Ne.symm hDG)
    have hm5 : MapAt w5 kI eS fl n1 ff := hm4.turn ht5 (Hfl.out)
    have Ht5 := Lib.hid (T4.out.trans ht5 (fun k hk e => (HDw.out k hk e).elim))
    have c5 : w5.cell? ⟨db, o + 1, none⟩ = some (.map (some fl)) := (hd5.cell _).trans Q1.out
    have g5 : w5.cell? ⟨G, 1, none⟩ = some (.int .i64 x.2.1) := (hb5.cell 1).trans (by simp [wtCells])
    clear ht5
    refine wp_region_still_tail 7 (by kernel_rfl) (by kernel_rfl) ?_
    simp only [List.take_succ_cons, List.take_zero, List.drop_succ_cons, List.drop_zero]
    iterate 6 still_step
    refine wpStill_load rfl _ _ rfl _ _ rfl (load_blk (s := bootSec 1 old x.2.2) hB5 _ rfl) ?_
    refine wpStill_nil ?_
    change wpList _ _ _ _ _ w5.drew
    refine wpList_mapUpdate_at rfl _ _ _ _ rfl hm5.drew map_sector (by unfold maxLen; omega) hx (bootSec 1 old x.2.2) rfl rfl rfl ?_
    intro w6 hm6 hg6
    have hd6 : Blk w6 db 59 C2 := hd5.drew.grown hg6 (fun e => Hne (Option.some.inj e))
    have t6 := Ht5.out.drew.grown hg6 (fun g e _ => .inr (Option.some.inj e).symm)
    go_wp2
    go_end0
    refine ⟨rfl, HC2.out ▸ hd6, ?_, t6⟩
    rw [show bootFl 1 x.2.1 x.2.2 ff = upd ff x.2.1 (bootSec 1 ((ff x.2.1).getD zeroSec) x.2.2) from by unfold bootFl; rw [if_neg (by decide)], ← Ho.out]
    exact hm6
  · have hjj := Hj.out
    clear Hj
    go_wp2_with fail
    go_still_tail 3, (by kernel_rfl)
    change wpList _ _ _ _ _ w4.drew
    refine wpList_copy_bytes rfl _ _ rfl (n := 32) (off := 0) old.1 (x.2.2.1.take 32) hB4.drew (g2 := G) (o2 := 2) (range_take (wt_sec x hb4) 32) (by simp [x.2.2.2]) rfl rfl (by rw [old.2]; omega) ?_
    intro w5 hB5 ht5'
    have ht5 : Turn (only D) w4 w5 := ((Turn.refl _ _).drew).trans ht5' (fun _ _ e => e)
    clear ht5'
    go_wp2_with fail
    have hd5 : Blk w5 db 59 C2 := hd4.turn (F := only D) ht5 HDdb
    have hb5 : Blk w5 G 66 (wtCells x).toArray := hb4.turn (F := only D) ht5 (Ne.symm hDG)
    have hm5 : MapAt w5 kI eS fl n1 ff := hm4.turn ht5 (Hfl.out)
    have Ht5 := Lib.hid (T4.out.trans ht5 (fun k hk e => (HDw.out k hk e).elim))
    have c5 : w5.cell? ⟨db, o + 1, none⟩ = some (.map (some fl)) := (hd5.cell _).trans Q1.out
    have g5 : w5.cell? ⟨G, 1, none⟩ = some (.int .i64 x.2.1) := (hb5.cell 1).trans (by simp [wtCells])
    clear ht5
    refine wp_region_still_tail 7 (by kernel_rfl) (by kernel_rfl) ?_
    simp only [List.take_succ_cons, List.take_zero, List.drop_succ_cons, List.drop_zero]
    iterate 6 still_step
    refine wpStill_load rfl _ _ rfl _ _ rfl (load_blk (s := bootSec 2 old x.2.2) hB5 _ rfl) ?_
    refine wpStill_nil ?_
    change wpList _ _ _ _ _ w5.drew
    refine wpList_mapUpdate_at rfl _ _ _ _ rfl hm5.drew map_sector (by unfold maxLen; omega) hx (bootSec 2 old x.2.2) rfl rfl rfl ?_
    intro w6 hm6 hg6
    have hd6 : Blk w6 db 59 C2 := hd5.drew.grown hg6 (fun e => Hne (Option.some.inj e))
    have t6 := Ht5.out.drew.grown hg6 (fun g e _ => .inr (Option.some.inj e).symm)
    go_wp2
    go_end0
    refine ⟨rfl, HC2.out ▸ hd6, ?_, t6⟩
    rw [show bootFl 2 x.2.1 x.2.2 ff = upd ff x.2.1 (bootSec 2 ((ff x.2.1).getD zeroSec) x.2.2) from by unfold bootFl; rw [if_neg (by decide)], ← Ho.out]
    exact hm6
  · have hjj := Hj.out
    clear Hj
    go_wp2_with fail
    go_still_tail 3, (by kernel_rfl)
    change wpList _ _ _ _ _ w4.drew
    refine wpList_copy_bytes rfl _ _ rfl (n := 32) (off := 32) old.1 (x.2.2.1.drop 32) hB4.drew (g2 := G) (o2 := 34) (range_drop (wt_sec x hb4) 32) (by simp [x.2.2.2]) rfl rfl (by rw [old.2]; omega) ?_
    rw [show old.1.take 32 ++ x.2.2.1.drop 32 ++ old.1.drop (32 + 32) = (bootSec 3 old x.2.2).1 from by
      rw [show old.1.drop (32 + 32) = [] from List.drop_eq_nil_of_le (by rw [old.2]; omega), List.append_nil]
      rfl]
    intro w5 hB5 ht5'
    have ht5 : Turn (only D) w4 w5 := ((Turn.refl _ _).drew).trans ht5' (fun _ _ e => e)
    clear ht5'
    go_wp2_with fail
    have hd5 : Blk w5 db 59 C2 := hd4.turn (F := only D) ht5 HDdb
    have hb5 : Blk w5 G 66 (wtCells x).toArray := hb4.turn (F := only D) ht5 (Ne.symm hDG)
    have hm5 : MapAt w5 kI eS fl n1 ff := hm4.turn ht5 (Hfl.out)
    have Ht5 := Lib.hid (T4.out.trans ht5 (fun k hk e => (HDw.out k hk e).elim))
    have c5 : w5.cell? ⟨db, o + 1, none⟩ = some (.map (some fl)) := (hd5.cell _).trans Q1.out
    have g5 : w5.cell? ⟨G, 1, none⟩ = some (.int .i64 x.2.1) := (hb5.cell 1).trans (by simp [wtCells])
    clear ht5
    refine wp_region_still_tail 7 (by kernel_rfl) (by kernel_rfl) ?_
    simp only [List.take_succ_cons, List.take_zero, List.drop_succ_cons, List.drop_zero]
    iterate 6 still_step
    refine wpStill_load rfl _ _ rfl _ _ rfl (load_blk (s := bootSec 3 old x.2.2) hB5 _ rfl) ?_
    refine wpStill_nil ?_
    change wpList _ _ _ _ _ w5.drew
    refine wpList_mapUpdate_at rfl _ _ _ _ rfl hm5.drew map_sector (by unfold maxLen; omega) hx (bootSec 3 old x.2.2) rfl rfl rfl ?_
    intro w6 hm6 hg6
    have hd6 : Blk w6 db 59 C2 := hd5.drew.grown hg6 (fun e => Hne (Option.some.inj e))
    have t6 := Ht5.out.drew.grown hg6 (fun g e _ => .inr (Option.some.inj e).symm)
    go_wp2
    go_end0
    refine ⟨rfl, HC2.out ▸ hd6, ?_, t6⟩
    rw [show bootFl 3 x.2.1 x.2.2 ff = upd ff x.2.1 (bootSec 3 ((ff x.2.1).getD zeroSec) x.2.2) from by unfold bootFl; rw [if_neg (by decide)], ← Ho.out]
    exact hm6
end Go.Proofs.Yteedjfgandgbkaa

namespace Go.Proofs.Yteedjfgandgbkaa
open Go.RowKit Go.Maps
set_option linter.unusedVariables false
/-- a disk: how many sectors, what is flushed, what waits -/
structure AD where
  n : Int
  fl : Int → Option Sec
  ws : List Wt
/-- a plant -/
structure AP where
  ds : List AD
  on : Bool
  fuse : Int
  steps : Int
/-- what was written last of all that waits -/
def lastW (ws : List Wt) : Int → Option Sec := ws.foldl (fun f x => upd f x.2.1 x.2.2) (fun _ => none)
theorem lastW_snoc (ws : List Wt) (x : Wt) : lastW (ws ++ [x]) = upd (lastW ws) x.2.1 x.2.2 := by simp [lastW, List.foldl_append]
/-- where a disk's parts lie -/
structure DV where
  fl : Nat
  nw : Nat
  wv : Value
def DV.has (v : DV) (b : Nat) : Prop := b = v.fl ∨ b = v.nw ∨ v.wv.ownBlock = some b
/-- disk i, its cells in C -/
structure DiskAt (w : World) (C : Array Value) (i : Nat) (d : AD) (v : DV) (K : Nat) : Prop where
  c0 : C[i * 4]? = some (.int .i64 d.n)
  c1 : C[i * 4 + 1]? = some (.map (some v.fl))
  c2 : C[i * 4 + 2]? = some (.map (some v.nw))
  c3 : C[i * 4 + 3]? = some v.wv
  ne : v.fl ≠ v.nw
  fl : ∃ n1, n1 + d.ws.length ≤ K ∧ MapAt w kI eS v.fl n1 d.fl
  nw : MapAt w kI eS v.nw d.ws.length (lastW d.ws)
  ws : Waits w v.wv d.ws
  wf : ∀ x ∈ d.ws, (Lit.int .i64 x.2.1).wf = true
  n0 : 1 ≤ d.n ∧ d.n ≤ 65536
theorem DiskAt.keep {w w' : World} {C C' : Array Value} {i : Nat} {d : AD} {v : DV} {K K' : Nat} (h : DiskAt w C i d v K) (hb : ∀ b, v.has b → w'.heap[b]? = w.heap[b]?) (hC : ∀ j, j < 4 → C'[i * 4 + j]? = C[i * 4 + j]?) (hK : K ≤ K') : DiskAt w' C' i d v K' where
  c0 := (hC 0 (by omega)).trans h.c0
  c1 := (hC 1 (by omega)).trans h.c1
  c2 := (hC 2 (by omega)).trans h.c2
  c3 := (hC 3 (by omega)).trans h.c3
  ne := h.ne
  fl := by
    obtain ⟨n1, h1, h2⟩ := h.fl
    exact ⟨n1, by omega, h2.block (hb _ (.inl rfl))⟩
  nw := h.nw.block (hb _ (.inr (.inl rfl)))
  ws := h.ws.keep fun g hg => hb g (.inr (.inr hg))
  wf := h.wf
  n0 := h.n0
/-- the disks of a plant, in the cells C of block db -/
structure DisksAt (w : World) (db : Nat) (C : Array Value) (ds : List AD) (dv : Nat → DV) (K : Nat) : Prop where
  blk : Blk w db 59 C
  size : ds.length * 4 ≤ C.size
  at_ : ∀ i d, ds[i]? = some d → DiskAt w C i d (dv i) K
  apart : ∀ i j, i < ds.length → j < ds.length → i ≠ j → ∀ b, (dv i).has b → ¬ (dv j).has b
/-- the blocks that a plant has -/
def PlF (p db n : Nat) (dv : Nat → DV) (b : Nat) : Prop := b = p ∨ b = db ∨ ∃ i, i < n ∧ (dv i).has b
/-- block p is the plant s, in the blocks of F; K: how much may have been written -/
def PlantAt (w : World) (p : Nat) (F : Nat → Prop) (s : AP) (K : Nat) : Prop :=
  ∃ db cap C dv, Blk w p 55 (plantCells db s.ds.length cap s.on s.fuse s.steps) ∧ DisksAt w db C s.ds dv K ∧ F = PlF p db s.ds.length dv ∧
    1 ≤ s.ds.length ∧ s.ds.length ≤ 4 ∧ -9223372036854775808 ≤ s.fuse ∧ s.fuse ≤ 9223372036854775807 ∧ 0 ≤ s.steps ∧ s.steps ≤ K
/-- from s to s' -/
def Goes2 (w : World) (p : Nat) (F : Nat → Prop) (w' : World) (s' : AP) (K' : Nat) : Prop :=
  ∃ F', PlantAt w' p F' s' K' ∧ Turn F w w' ∧ ∀ k, F' k → F k ∨ w.heap.size ≤ k
section
variable {w w' : World} {p db : Nat} {C : Array Value} {ds : List AD} {dv : Nat → DV} {K : Nat} {F : Nat → Prop} {s : AP}
theorem DisksAt.lt (h : DisksAt w db C ds dv K) {i b : Nat} (hi : i < ds.length) (hb : (dv i).has b) : b < w.heap.size := by
  have hd := h.at_ i ds[i] (List.getElem?_eq_getElem hi)
  rcases hb with rfl | rfl | hb
  · obtain ⟨_, _, hm⟩ := hd.fl
    exact hm.lt
  · exact hd.nw.lt
  · exact (hd.ws.lt b hb).2
theorem DisksAt.ne (h : DisksAt w db C ds dv K) {i b g : Nat} {t : TypeId} {cs : Array Value} (hi : i < ds.length) (hb : (dv i).has b) (hg : Blk w g t cs) (ht : t ≠ 66) : g ≠ b := by
  have hd := h.at_ i ds[i] (List.getElem?_eq_getElem hi)
  rcases hb with rfl | rfl | hb
  · obtain ⟨_, _, hm⟩ := hd.fl
    exact hm.ne hg
  · exact hd.nw.ne hg
  · rcases hd.ws.2 with ⟨e1, _⟩ | ⟨g', cap, cur, e1, _, h4, _⟩
    · rw [e1] at hb
      cases hb
    · rw [e1] at hb
      injection hb with hb
      have hb' : g' = b := hb
      subst hb'
      exact Blk.ne_ hg (g' := g') (cs' := cur) h4 ht
theorem DisksAt.keep (h : DisksAt w db C ds dv K) (hdb : w'.heap[db]? = w.heap[db]?) (hb : ∀ i, i < ds.length → ∀ b, (dv i).has b → w'.heap[b]? = w.heap[b]?) {K' : Nat} (hK : K ≤ K') : DisksAt w' db C ds dv K' where
  blk := hdb.trans h.blk
  size := h.size
  at_ i d hi := (h.at_ i d hi).keep (hb i (List.getElem?_eq_some_iff.1 hi).1) (fun _ _ => rfl) hK
  apart := h.apart
theorem PlantAt.lt (h : PlantAt w p F s K) {k : Nat} (hk : F k) : k < w.heap.size := by
  obtain ⟨db, cap, C, dv, h1, h2, rfl, _⟩ := h
  rcases hk with rfl | rfl | ⟨i, hi, hb⟩
  · exact h1.lt
  · exact h2.blk.lt
  · exact h2.lt hi hb
theorem PlantAt.keep (h : PlantAt w p F s K) (hb : ∀ k, F k → w'.heap[k]? = w.heap[k]?) : PlantAt w' p F s K := by
  obtain ⟨db, cap, C, dv, h1, h2, rfl, h3⟩ := h
  exact ⟨db, cap, C, dv, (hb p (.inl rfl)).trans h1, h2.keep (hb db (.inr (.inl rfl))) (fun i hi b hb' => hb b (.inr (.inr ⟨i, hi, hb'⟩))) (Nat.le_refl _), rfl, h3⟩
theorem PlantAt.turn {G : Nat → Prop} (h : PlantAt w p F s K) (ht : Turn G w w') (hG : ∀ k, F k → ¬ G k) : PlantAt w' p F s K := h.keep fun k hk => ht.block k (h.lt hk) (hG k hk)
theorem PlantAt.mono (h : PlantAt w p F s K) {K' : Nat} (hK : K ≤ K') : PlantAt w p F s K' := by
  obtain ⟨db, cap, C, dv, h1, h2, h3, h4, h5, h6, h7, h8, h9⟩ := h
  exact ⟨db, cap, C, dv, h1, h2.keep rfl (fun _ _ _ _ => rfl) hK, h3, h4, h5, h6, h7, h8, by omega⟩
theorem Goes2.of_turn (h : PlantAt w p F s K) (ht : Turn nowhere w w') : Goes2 w p F w' s K := ⟨F, h.turn ht fun _ _ h => h, ht.mono fun _ _ h => h.elim, fun _ h => .inl h⟩
/-- the plant's own block is turned -/
theorem PlantAt.top {on : Bool} {fuse steps : Int} (h : PlantAt w p F s K) {db cap : Nat} {C : Array Value} {dv : Nat → DV} (h1 : Blk w' p 55 (plantCells db s.ds.length cap on fuse steps)) (h2 : DisksAt w db C s.ds dv K) (hF : F = PlF p db s.ds.length dv) (ht : Turn (only p) w w')
    (hb : Blk w p 55 (plantCells db s.ds.length cap s.on s.fuse s.steps)) {K' : Nat} (hK : K ≤ K') (q1 : -9223372036854775808 ≤ fuse) (q2 : fuse ≤ 9223372036854775807) (q3 : 0 ≤ steps) (q4 : steps ≤ K') :
    Goes2 w p F w' { s with on := on, fuse := fuse, steps := steps } K' := by
  obtain ⟨_, _, _, _, _, _, _, g1, g2, _⟩ := id h
  refine ⟨F, ⟨db, cap, C, dv, h1, h2.keep (ht.block _ h2.blk.lt ?_) (fun i hi b hb' => ht.block _ (h2.lt hi hb') ?_) hK, hF, g1, g2, q1, q2, q3, q4⟩, ht.mono ?_, fun k hk => .inl hk⟩
  · exact Blk.ne_ h2.blk hb (by decide)
  · exact fun e => h2.ne hi hb' hb (by decide) e.symm
  · intro k _ e
    rw [hF]
    exact .inl e
end
end Go.Proofs.Yteedjfgandgbkaa

namespace Go.Proofs.Yteedjfgandgbkaa
open Go.RowKit Go.Maps
set_option linter.unusedVariables false
/-- what a disk tells -/
def AD.read (d : AD) (place : Int) : Sec := reads (lastW d.ws) d.fl place
section
variable {w : World} {p : Nat} {F : Nat → Prop} {s : AP} {K : Nat}
theorem refP_bad (h : PlantAt w p F s K) (dev place k : Int) (hk : refuseCode s.on s.ds.length dev = k) (h2 : k = 2 ∨ k = 31) :
    Calls Try.prog 26 #[.pointer (some ⟨p, 0, none⟩), .int .i64 dev, .int .i64 place] w fun e w' => e = .returned (.int .i64 k) ∧ w = w' := by
  obtain ⟨db, cap, C, dv, h1, hD, _⟩ := h
  exact refusePlace_bad p db _ cap _ _ _ dev place w h1 k hk h2
theorem refP_good (h : PlantAt w p F s K) (i : Nat) (d : AD) (hd : s.ds[i]? = some d) (hon : s.on = true) (place : Int) :
    Calls Try.prog 26 #[.pointer (some ⟨p, 0, none⟩), .int .i64 (i : Int), .int .i64 place] w fun e w' => e = .returned (.int .i64 (if 0 ≤ place ∧ place < d.n then 0 else 31)) ∧ w = w' := by
  obtain ⟨db, cap, C, dv, h1, hD, _, _, h4, _⟩ := h
  rw [hon] at h1
  exact refusePlace_good p db _ cap _ _ place w C d.n i h1 hD.blk (List.getElem?_eq_some_iff.1 hd).1 (hD.at_ i d hd).c0 h4
/-- why nothing can be read or written there -/
def badPlace (s : AP) (dev place k : Int) : Prop :=
  (refuseCode s.on s.ds.length dev = k ∧ (k = 2 ∨ k = 31)) ∨ (s.on = true ∧ k = 31 ∧ ∃ (i : Nat) (d : AD), dev = i ∧ s.ds[i]? = some d ∧ ¬ (0 ≤ place ∧ place < d.n))
theorem refP_any (h : PlantAt w p F s K) (dev place k : Int) (hk : badPlace s dev place k) :
    Calls Try.prog 26 #[.pointer (some ⟨p, 0, none⟩), .int .i64 dev, .int .i64 place] w fun e w' => e = .returned (.int .i64 k) ∧ w = w' := by
  rcases hk with ⟨h1, h2⟩ | ⟨hon, rfl, i, d, rfl, hd, hp⟩
  · exact refP_bad h dev place k h1 h2
  · refine (refP_good h i d hd hon place).mono fun e w' ⟨he, hw⟩ => ⟨?_, hw⟩
    rw [he, if_neg hp]
theorem bad_k {s : AP} {dev place k : Int} (hk : badPlace s dev place k) : k = 2 ∨ k = 31 := by
  rcases hk with ⟨_, h2⟩ | ⟨_, h2, _⟩
  · exact h2
  · exact .inr h2
theorem read_bad (h : PlantAt w p F s K) (dev place k : Int) (hk : badPlace s dev place k) :
    Calls Try.prog 15 #[.pointer (some ⟨p, 0, none⟩), .int .i64 dev, .int .i64 place] w fun e w' => e = .returned (.tuple #[.slice none 0 0, .int .i64 k]) ∧ w = w' := by
  have hq := refP_any h dev place k hk
  have hk2 := bad_k hk
  have Hq := Lib.hid hq
  clear hq hk
  rcases hk2 with rfl | rfl
  all_goals
    go_enter Try.func15, Try.ntmps15
    go_wp2_with (go_at_call 26; refine Hq.out.mono ?_; rintro e w' ⟨rfl, rfl⟩)
    go_ret2
    exact ⟨rfl, rfl⟩
theorem refP_ok (h : PlantAt w p F s K) (i : Nat) (d : AD) (hd : s.ds[i]? = some d) (hon : s.on = true) (place : Int) (hp : 0 ≤ place ∧ place < d.n) :
    Calls Try.prog 26 #[.pointer (some ⟨p, 0, none⟩), .int .i64 (i : Int), .int .i64 place] w fun e w' => e = .returned (.int .i64 0) ∧ w = w' := by
  refine (refP_good h i d hd hon place).mono fun e w' ⟨he, hw⟩ => ⟨?_, hw⟩
  rw [he, if_pos hp]
theorem place_wf {n place : Int} (h : 1 ≤ n ∧ n ≤ 65536) (hp : 0 ≤ place ∧ place < n) : (Lit.int .i64 place).wf = true := WalkArith.wf_i64 (by omega)
theorem read_ok (h : PlantAt w p F s K) (i : Nat) (d : AD) (hd : s.ds[i]? = some d) (hon : s.on = true) (place : Int) (hp : 0 ≤ place ∧ place < d.n) :
    Calls Try.prog 15 #[.pointer (some ⟨p, 0, none⟩), .int .i64 (i : Int), .int .i64 place] w fun e w' =>
      ∃ R, e = .returned (.tuple #[.slice (some ⟨R, 0, none⟩) 64 64, .int .i64 0]) ∧ w.heap.size ≤ R ∧ Blk w' R 63 (bcs (d.read place).1).toArray ∧ Turn nowhere w w' := by
  have hq := refP_ok h i d hd hon place hp
  obtain ⟨db, cap, C, dv, h1, hD, _, _, h4, _⟩ := id h
  have hi := (List.getElem?_eq_some_iff.1 hd).1
  have hA := hD.at_ i d hd
  obtain ⟨n1, _, hfl⟩ := hA.fl
  have hcall := read_walk db (i * 4) (dv i).nw (dv i).fl n1 d.ws.length (lastW d.ws) d.fl place C w hD.blk hA.c1 hA.c2 hfl hA.nw (place_wf hA.n0 hp)
  have hb := hD.blk
  have c0 : w.cell? ⟨p, 0, none⟩ = some (.slice (some ⟨db, 0, none⟩) s.ds.length cap) := h1.cell 0
  have z1 : (0 : Int) ≤ (i : Int) := by omega
  have z2 : (i : Int) < (s.ds.length : Int) := by omega
  have Hq := Lib.hid hq
  have Hc := Lib.hid hcall
  clear hq hcall hfl hA h hb h1 hD hd hon h4
  have hz := zero_sector
  generalize s.ds.length = n at *
  go_enter Try.func15, Try.ntmps15
  go_wp2_with (first
    | (go_at_call 26; refine Hq.out.mono ?_; rintro e w' ⟨rfl, rfl⟩)
    | (go_at_call 33; refine Hc.out.mono ?_; rintro e w1 ⟨rfl, ht1⟩)
    | (refine wpList_store_row rfl 63 (.tmp 9) (.tmp 24) rfl (bcs (d.read place).1).toArray (Blk.new w1 _ _) rfl rfl (sec_size _) (size_sec _) (sec_one _) ?_; intro w2 hb2 ht2))
  go_ret2
  exact ⟨w1.heap.size, rfl, ht1.size, hb2, (ht1.alloc _).trans ht2 (fun k hk e => by
    have e' : k = w1.heap.size := e
    have := ht1.size
    omega)⟩
theorem foldl_splice (vs : Array Value) (off : Nat) (cells : Array Value) : vs.zipIdx.foldl (fun cs (x : Value × Nat) => cs.setIfInBounds (off + x.2) x.1) cells = (vs.toList.zipIdx 0).foldl (fun cs (x : Value × Nat) => cs.setIfInBounds (off + x.2) x.1) cells := by
  have hz : vs.zipIdx = (vs.toList.zipIdx 0).toArray := by
    apply Array.ext'
    simp [Array.toList_zipIdx]
  rw [hz, List.foldl_toArray]
theorem fill_write (a b : Int) (s : Sec) : Instr.fill (fun i => ([(0, 1), (1, 1), (2, 64)] : List (Nat × Nat)).toArray[i]?) (wtCells (0, 0, zeroSec)).toArray [(0, .int .i64 a), (1, .int .i64 b), (2, rowV s.1)] = some (wtCells (a, b, s)).toArray := by
  have h1 : (wtCells (0, 0, zeroSec)).toArray.size = 66 := by simp [wtCells_length]
  have h2 : (bcs s.1).toArray.size = 64 := (sec_size s).symm
  have e : ∀ (f : Nat → Option (Nat × Nat)) (c : Array Value) (i o n : Nat) (v : Value) (r : List (Nat × Value)), f i = some (o, n) → v.cells.size = n → o + n ≤ c.size →
      Instr.fill f c ((i, v) :: r) = Instr.fill f ((v.cells.toList.zipIdx 0).foldl (fun cs (x : Value × Nat) => cs.setIfInBounds (o + x.2) x.1) c) r := by
    intro f c i o n v r hf hn ho
    rw [Instr.fill]
    simp only [hf]
    rw [if_neg (by simp [hn]; omega), foldl_splice]
  rw [e _ _ 0 0 1 _ _ rfl rfl (by omega), e _ _ 1 1 1 _ _ rfl rfl (by rw [(splice_at _ _ _ _).1]; omega), e _ _ 2 2 64 _ _ rfl (by simpa [rowV, Value.cells] using h2) (by rw [(splice_at _ _ _ _).1, (splice_at _ _ _ _).1]; omega), Instr.fill]
  congr 1
  apply Array.ext_getElem?
  intro j
  rw [(splice_at _ _ _ _).2, (splice_at _ _ _ _).1, (splice_at _ _ _ _).1, h1]
  have h3 : (rowV s.1).cells.toList = bcs s.1 := rfl
  have h4 : (bcs s.1).length = 64 := by rw [bcs_length, s.2]
  rw [h3, h4]
  by_cases hj : 2 ≤ j ∧ j < 66
  · rw [if_pos ⟨by omega, by omega, by omega⟩]
    obtain ⟨m, rfl⟩ : ∃ m, j = m + 2 := ⟨j - 2, by omega⟩
    simp [wtCells]
  · rw [if_neg (by omega), (splice_at _ _ _ _).2, (splice_at _ _ _ _).1, h1, (splice_at _ _ _ _).2, h1]
    have h5 : (Value.int IntKind.i64 b).cells.toList = [.int .i64 b] := rfl
    have h6 : (Value.int IntKind.i64 a).cells.toList = [.int .i64 a] := rfl
    rw [h5, h6]
    by_cases h0 : j = 0
    · subst h0
      simp [wtCells]
    · by_cases h1' : j = 1
      · subst h1'
        simp [wtCells]
      · rw [if_neg (by simp; omega), if_neg (by simp; omega), Array.getElem?_eq_none (by omega), Array.getElem?_eq_none (by simp [wtCells_length]; omega)]
theorem build_write (a b : Int) (s : Sec) (W : World) : (Instr.build 66 #[(0, .int .i64 a), (1, .int .i64 b), (2, rowV s.1)]).run Try.prog W = .ok (.agg (wtCells (a, b, s)).toArray) W := by
  refine run_build W _ _ _ ?_
  obtain ⟨i0, hi0, hz0, hz1, hz2⟩ := info_parts info_write
  have hp : (match Try.prog.underlying 66 with | some (.struct fs) => fs.toList.mapM (fun f => (Try.prog.info? f.type).map fun i => (f.offset, i.size)) | _ => none) = some [(0, 1), (1, 1), (2, 64)] := by kernel_rfl
  have hu := Try.underlying66
  rw [hu] at hp
  unfold Program.built
  simp only [hi0, hu, hz0]
  simp only at hp
  rw [hp]
  exact fill_write a b s
end
end Go.Proofs.Yteedjfgandgbkaa

namespace Go.Proofs.Yteedjfgandgbkaa
open Go.RowKit Go.Maps
set_option linter.unusedVariables false
def setV (dv : Nat → DV) (i : Nat) (v : DV) : Nat → DV := fun j => if j = i then v else dv j
section
variable {w w' : World} {p db : Nat} {C C' : Array Value} {ds : List AD} {dv : Nat → DV} {K K' : Nat} {F : Nat → Prop} {s : AP}
/-- one disk is turned -/
theorem DisksAt.upd (h : DisksAt w db C ds dv K) {i : Nat} (hi : i < ds.length) {d' : AD} {v' : DV} (hb : Blk w' db 59 C') (hs : C'.size = C.size) (hC : ∀ j, j < i * 4 ∨ i * 4 + 4 ≤ j → C'[j]? = C[j]?)
    (hd : DiskAt w' C' i d' v' K') (hK : K ≤ K') (ht : Turn (fun k => k = db ∨ (dv i).has k) w w') (hv : ∀ b, v'.has b → (dv i).has b ∨ w.heap.size ≤ b) : DisksAt w' db C' (ds.set i d') (setV dv i v') K' := by
  refine ⟨hb, by rw [List.length_set, hs]; exact h.size, fun j d hj => ?_, fun j k hj hk hjk b hb1 hb2 => ?_⟩
  · have hjl := (List.getElem?_eq_some_iff.1 hj).1
    rw [List.length_set] at hjl
    by_cases e : j = i
    · subst e
      rw [List.getElem?_set, if_pos rfl, if_pos hi] at hj
      cases hj
      unfold setV
      rw [if_pos rfl]
      exact hd
    · rw [List.getElem?_set, if_neg (Ne.symm e)] at hj
      unfold setV
      rw [if_neg e]
      refine (h.at_ j d hj).keep (fun b hb' => ht.block b (h.lt hjl hb') ?_) (fun m hm => hC _ (by omega)) hK
      rintro (rfl | hb2)
      · exact h.ne hjl hb' h.blk (by decide) rfl
      · exact h.apart j i hjl hi e b hb' hb2
  · rw [List.length_set] at hj hk
    unfold setV at hb1 hb2
    by_cases e : j = i
    · subst e
      rw [if_pos rfl] at hb1
      rw [if_neg (Ne.symm hjk)] at hb2
      rcases hv b hb1 with h1 | h1
      · exact h.apart j k hj hk hjk b h1 hb2
      · exact absurd (h.lt hk hb2) (by omega)
    · rw [if_neg e] at hb1
      by_cases e2 : k = i
      · subst e2
        rw [if_pos rfl] at hb2
        rcases hv b hb2 with h1 | h1
        · exact h.apart j k hj hk hjk b hb1 h1
        · exact absurd (h.lt hj hb1) (by omega)
      · rw [if_neg e2] at hb2
        exact h.apart j k hj hk hjk b hb1 hb2
theorem plf_upd {i n : Nat} {v' : DV} {m : Nat} (hi : i < n) (hv : ∀ b, v'.has b → (dv i).has b ∨ m ≤ b) : ∀ k, PlF p db n (setV dv i v') k → PlF p db n dv k ∨ m ≤ k := by
  rintro k (rfl | rfl | ⟨j, hj, hb⟩)
  · exact .inl (.inl rfl)
  · exact .inl (.inr (.inl rfl))
  · unfold setV at hb
    by_cases e : j = i
    · subst e
      rw [if_pos rfl] at hb
      rcases hv k hb with h1 | h1
      · exact .inl (.inr (.inr ⟨j, hj, h1⟩))
      · exact .inr h1
    · rw [if_neg e] at hb
      exact .inl (.inr (.inr ⟨j, hj, hb⟩))
theorem set3 (C : Array Value) (i : Nat) (v : Value) (h : i * 4 + 4 ≤ C.size) : (∀ j, j < i * 4 ∨ i * 4 + 4 ≤ j → (C.setIfInBounds (i * 4 + 3) v)[j]? = C[j]?) ∧ (C.setIfInBounds (i * 4 + 3) v)[i * 4 + 3]? = some v ∧ (∀ j, j < 3 → (C.setIfInBounds (i * 4 + 3) v)[i * 4 + j]? = C[i * 4 + j]?) := by
  refine ⟨fun j hj => ?_, ?_, fun j hj => ?_⟩
  · rw [Array.getElem?_setIfInBounds, if_neg (by omega)]
  · rw [Array.getElem?_setIfInBounds, if_pos rfl, if_pos (by omega)]
  · rw [Array.getElem?_setIfInBounds, if_neg (by omega)]
/-- a write that waits -/
def AP.put (s : AP) (i : Nat) (d : AD) (place : Int) (b : Sec) : AP := { s with fuse := burnt s.fuse, steps := s.steps + 1, ds := s.ds.set i { d with ws := d.ws ++ [(s.steps + 1, place, b)] } }
/-- the power goes off at a step -/
def AP.burn (s : AP) : AP := { s with on := false, fuse := -1 }
theorem step_burnP (h : PlantAt w p F s K) (h0 : s.fuse = 0) :
    Calls Try.prog 27 #[.pointer (some ⟨p, 0, none⟩)] w fun e w' => e = .returned (.int .i64 2) ∧ Goes2 w p F w' s.burn K := by
  obtain ⟨db, cap, C, dv, h1, hD, hF, g1, g2, g3, g4, g5, g6⟩ := id h
  have h1' := h1
  rw [h0] at h1'
  refine (step_burn p db _ cap _ _ w h1').mono fun e w' ⟨he, hb, ht⟩ => ⟨he, ?_⟩
  exact h.top hb hD hF ht h1 (Nat.le_refl _) (by omega) (by omega) g5 g6
theorem plant_u8 (db n c : Nat) (on : Bool) (fuse steps : Int) (j : Nat) (v : Int) : (plantCells db n c on fuse steps)[j]? ≠ some (.int .u8 v) := by
  match j with
  | 0 => simp [plantCells]
  | 1 => simp [plantCells]
  | 2 => simp [plantCells]
  | 3 => simp [plantCells]
  | j + 4 => simp [plantCells]
theorem bs_not_plant {a : Option Addr} {n : Nat} {bs : List UInt8} (hb : Bs w a n bs) (hn : 0 < n) {db m c : Nat} {on : Bool} {fuse steps : Int} (h1 : Blk w p 55 (plantCells db m c on fuse steps)) : ∃ b off, a = some ⟨b, off, none⟩ ∧ b ≠ p ∧ b < w.heap.size ∧ w.rangeAt b off (bcs bs) := by
  obtain ⟨hl, _, hc⟩ := hb
  obtain ⟨b, off, rfl, hcell⟩ := hc hn
  refine ⟨b, off, rfl, ?_, World.block_lt_of_cell? _ _ (hcell 0 hn), fun j v hv => ?_⟩
  · rintro rfl
    have := hcell 0 hn
    rw [h1.cell] at this
    exact plant_u8 _ _ _ _ _ _ _ _ this
  · have hj : j < bs.length := by
      have := (List.getElem?_eq_some_iff.1 hv).1
      rwa [bcs_length] at this
    rw [bcs_at bs j hj] at hv
    cases hv
    exact hcell j (by omega)
theorem write_bad (h : PlantAt w p F s K) (dev place k : Int) (hk : badPlace s dev place k) (a : Option Addr) (len cap : Nat) :
    Calls Try.prog 11 #[.pointer (some ⟨p, 0, none⟩), .int .i64 dev, .int .i64 place, .slice a len cap] w fun e w' => e = .returned (.int .i64 k) ∧ w = w' := by
  have hq := refP_any h dev place k hk
  have hk2 := bad_k hk
  have Hq := Lib.hid hq
  clear hq hk
  rcases hk2 with rfl | rfl
  all_goals
    go_enter Try.func11, Try.ntmps11
    go_wp2_with (go_at_call 26; refine Hq.out.mono ?_; rintro e w' ⟨rfl, rfl⟩)
    go_ret
    exact ⟨rfl, rfl⟩
theorem write_len (h : PlantAt w p F s K) (i : Nat) (d : AD) (hd : s.ds[i]? = some d) (hon : s.on = true) (place : Int) (hp : 0 ≤ place ∧ place < d.n) (a : Option Addr) (len cap : Nat) (hl : len ≠ 64) :
    Calls Try.prog 11 #[.pointer (some ⟨p, 0, none⟩), .int .i64 (i : Int), .int .i64 place, .slice a len cap] w fun e w' => e = .returned (.int .i64 32) ∧ w = w' := by
  have hq := refP_ok h i d hd hon place hp
  have Hq := Lib.hid hq
  have h1 : ((len : Int) != 64) = true := by
    rw [bne_iff_ne]
    omega
  clear hq hd hon hl
  go_enter Try.func11, Try.ntmps11
  go_wp2_with (go_at_call 26; refine Hq.out.mono ?_; rintro e w' ⟨rfl, rfl⟩)
  go_ret
  exact ⟨rfl, rfl⟩
theorem write_burn (h : PlantAt w p F s K) (i : Nat) (d : AD) (hd : s.ds[i]? = some d) (hon : s.on = true) (place : Int) (hp : 0 ≤ place ∧ place < d.n) (h0 : s.fuse = 0) (a : Option Addr) (cap : Nat) :
    Calls Try.prog 11 #[.pointer (some ⟨p, 0, none⟩), .int .i64 (i : Int), .int .i64 place, .slice a 64 cap] w fun e w' => e = .returned (.int .i64 2) ∧ Goes2 w p F w' s.burn K := by
  have hq := refP_ok h i d hd hon place hp
  have hst := step_burnP h h0
  have Hq := Lib.hid hq
  have Hs := Lib.hid hst
  clear hq hd hon hst h0
  go_enter Try.func11, Try.ntmps11
  go_wp2_with (first
    | (go_at_call 26; refine Hq.out.mono ?_; rintro e w' ⟨rfl, rfl⟩)
    | (go_at_call 27; refine Hs.out.mono ?_; rintro e w1 ⟨rfl, hg⟩; have Hg := Lib.hid hg; clear hg))
  go_ret
  exact ⟨rfl, Hg.out⟩
end
end Go.Proofs.Yteedjfgandgbkaa

namespace Go.Proofs.Yteedjfgandgbkaa
open Go.RowKit Go.Maps
set_option linter.unusedVariables false
theorem Waits.ne_map {w : World} {v : Value} {ws : List Wt} {b n : Nat} {f : Int → Option Sec} (h : Waits w v ws) (hm : MapAt w kI eS b n f) : v.ownBlock ≠ some b := by
  intro hb
  rcases h.2 with ⟨e1, _⟩ | ⟨g', cap, cur, e1, _, h4, _⟩
  · rw [e1] at hb
    cases hb
  · rw [e1] at hb
    injection hb with hb
    have hb' : g' = b := hb
    exact hm.ne (g := g') (cs := cur) h4 hb'
theorem Waits.ne_blk {w : World} {v : Value} {ws : List Wt} {g : Nat} {t : TypeId} {cs : Array Value} (h : Waits w v ws) (hg : Blk w g t cs) (ht : t ≠ 66) : v.ownBlock ≠ some g := by
  intro hb
  rcases h.2 with ⟨e1, _⟩ | ⟨g', cap, cur, e1, _, h4, _⟩
  · rw [e1] at hb
    cases hb
  · rw [e1] at hb
    injection hb with hb
    have hb' : g' = g := hb
    subst hb'
    exact Blk.ne_ hg (g' := g') (cs' := cur) h4 ht rfl
section
variable {w w' : World} {p db : Nat} {C C' : Array Value} {ds : List AD} {dv : Nat → DV} {K K' : Nat} {F : Nat → Prop} {s : AP}
theorem exec_build3 {P : Program} {a : Act} {o : Oper} {t : TypeId} {x y z : Operand} {u v q r : Value} {W : World} (ho : o.op = .build t #[(0, x), (1, y), (2, z)]) (hx : a.eval x = u) (hy : a.eval y = v) (hz : a.eval z = q)
    (h : (Instr.build t #[(0, u), (1, v), (2, q)]).run P W = .ok r W) : (execOp a.eval o).run P W = .ok (.value r) W := by
  unfold execOp
  simp only [ho, List.map_toArray, List.map_cons, List.map_nil, hx, hy, hz, h, Sem.run_bind, Sem.run_pure, Result.andThen_ok]
theorem exec_arrayAt {a : Act} {o : Oper} {x : Operand} {A : Option Addr} {c : Nat} {W : World} (ho : o.op = .sliceToArrayPointer 63 x) (hx : a.eval x = .slice A 64 c) : (execOp a.eval o).run Try.prog W = .ok (.value (.pointer A)) W := by
  unfold execOp
  simp only [ho, hx]
  have hu := Try.underlying63
  simp [Instr.arrayAt, run_underlying hu, Result.andThen]
set_option maxHeartbeats 1000000 in
theorem write_ok (h : PlantAt w p F s K) (i : Nat) (d : AD) (hd : s.ds[i]? = some d) (hon : s.on = true) (place : Int) (hp : 0 ≤ place ∧ place < d.n) (h0 : s.fuse ≠ 0) (a : Option Addr) (cap : Nat) (b : Sec) (hb : Bs w a 64 b.1) (hK : K < 1099511627775) :
    Calls Try.prog 11 #[.pointer (some ⟨p, 0, none⟩), .int .i64 (i : Int), .int .i64 place, .slice a 64 cap] w fun e w' => e = .returned (.int .i64 0) ∧ Goes2 w p F w' (s.put i d place b) (K + 1) := by
  have hq := refP_ok h i d hd hon place hp
  obtain ⟨db, cp, C, dv, h1, hD, hF, g1, g2, g3, g4, g5, g6⟩ := id h
  have hi := (List.getElem?_eq_some_iff.1 hd).1
  have hA := hD.at_ i d hd
  have hst := step_on p db s.ds.length cp s.on s.fuse s.steps w h1 h0 g3 g4 g5 (by omega)
  obtain ⟨bb, off, rfl, hbp, hbl, hr⟩ := bs_not_plant hb (by omega) h1
  have hn1 := hA.fl
  have z1 : (0 : Int) ≤ (i : Int) := by omega
  have z2 : (i : Int) < (s.ds.length : Int) := by omega
  have Hq := Lib.hid hq
  have Hs := Lib.hid hst
  have H := Lib.hid h
  have HD := Lib.hid hD
  have Hd := Lib.hid hd
  have H1 := Lib.hid h1
  have HA := Lib.hid hA
  clear hq hd hst h0 hA hD h hb h1
  go_enter Try.func11, Try.ntmps11
  go_wp2_with (first
    | (go_at_call 26; refine Hq.out.mono ?_; rintro e w' ⟨rfl, rfl⟩)
    | (go_at_call 27; refine Hs.out.mono ?_; rintro e w1 ⟨rfl, hb1, ht1⟩; have HT := Lib.hid ht1; clear ht1))
  have c0 : w1.cell? ⟨p, 0, none⟩ = some (.slice (some ⟨db, 0, none⟩) s.ds.length cp) := hb1.cell 0
  have c3 : w1.cell? ⟨p, 3, none⟩ = some (.int .i64 (s.steps + 1)) := hb1.cell 3
  have hr1 : w1.rangeAt bb off (bcs b.1) := fun j v hv => by
    rw [HT.out.cell (p := ⟨bb, off + j, none⟩) hbl hbp]
    exact hr j v hv
  have Hr := Lib.hid hr1
  have Hn := Lib.hid hF
  clear hr1 hr hF
  generalize hnn : s.ds.length = n at *
  have HN := Lib.hid hnn
  clear hnn
  refine wp_region_still_tail 15 (by kernel_rfl) (by kernel_rfl) ?_
  simp only [List.take_succ_cons, List.take_zero, List.drop_succ_cons, List.drop_zero]
  iterate 12 still_step
  refine wpStill_run rfl (exec_arrayAt rfl rfl) ?_
  refine wpStill_load rfl _ _ rfl _ _ rfl (load_sector Hr.out _ rfl) ?_
  refine wpStill_run rfl (exec_build3 rfl rfl rfl rfl (build_write _ _ b _)) ?_
  refine wpStill_nil ?_
  change wpList _ _ _ _ _ w1.drew
  go_wp2_with fail
  obtain ⟨n1, hn1a, hn1b⟩ := hn1
  have hi : i < s.ds.length := by rw [HN.out]; exact hi
  have hTd : Turn (only p) w w1.drew := HT.out.drew
  have hlt := HA.out
  have hdb : ¬ only p db := Blk.ne_ HD.out.blk H1.out (by decide)
  have hnp : ∀ b, (dv i).has b → ¬ only p b := fun b hb e => HD.out.ne hi hb H1.out (by decide) e.symm
  have hd1 : Blk w1.drew db 59 C := HD.out.blk.turn hTd hdb
  have hnw : MapAt w1.drew kI eS (dv i).nw d.ws.length (lastW d.ws) := HA.out.nw.turn hTd (hnp _ (.inr (.inl rfl)))
  have hws : Waits w1.drew (dv i).wv d.ws := HA.out.ws.turn hTd (fun g hg => hnp g (.inr (.inr hg)))
  have hwf : (Lit.int IntKind.i64 place).wf = true := place_wf HA.out.n0 hp
  refine (add_walk db (i * 4) (dv i).nw d.ws.length (lastW d.ws) (s.steps + 1, place, b) C (dv i).wv d.ws w1.drew hd1 HA.out.c2 HA.out.c3 hnw hwf hws (by omega) (by omega)).mono ?_
  rintro e w2 ⟨rfl, wv', q1, q2, q3, q4, q5⟩
  have hsz := HD.out.size
  rw [HN.out] at hsz
  obtain ⟨s1, s2, s3⟩ := set3 C i wv' (by omega)
  have hA := HA.out
  have hDA : DiskAt w2 (C.setIfInBounds (i * 4 + 3) wv') i { d with ws := d.ws ++ [(s.steps + 1, place, b)] } { (dv i) with wv := wv' } (K + 1) := {
    c0 := (s3 0 (by omega)).trans hA.c0
    c1 := (s3 1 (by omega)).trans hA.c1
    c2 := (s3 2 (by omega)).trans hA.c2
    c3 := s2
    ne := hA.ne
    fl := ⟨n1, by simp; omega, (hn1b.turn hTd (hnp _ (.inl rfl))).turn q5 (by
      rintro (e | e | e)
      · exact HD.out.ne hi (.inl rfl) HD.out.blk (by decide) e.symm
      · exact hA.ne e
      · exact HA.out.ws.ne_map hn1b e)⟩
    nw := by
      rw [List.length_append, lastW_snoc]
      exact q2
    ws := q3
    wf := fun x hx => by
      rcases List.mem_append.1 hx with hx | hx
      · exact hA.wf x hx
      · rw [List.mem_singleton.1 hx]
        exact hwf
    n0 := hA.n0 }
  have hTw : Turn (fun k => k = db ∨ (dv i).has k) w1.drew w2 := q5.mono fun k _ e => by
    rcases e with e | e | e
    · exact .inl e
    · exact .inr (.inr (.inl e))
    · exact .inr (.inr (.inr e))
  have hD1 : DisksAt w1.drew db C s.ds dv K := HD.out.keep (hTd.block _ HD.out.blk.lt hdb) (fun j hj b hb => hTd.block _ (HD.out.lt hj hb) fun e => HD.out.ne hj hb H1.out (by decide) e.symm) (Nat.le_refl _)
  have hv : ∀ b, ({ (dv i) with wv := wv' } : DV).has b → (dv i).has b ∨ w1.drew.heap.size ≤ b := by
    rintro k (e | e | e)
    · exact .inl (.inl e)
    · exact .inl (.inr (.inl e))
    · rcases q4 with e4 | ⟨g, e4, hg⟩
      · exact .inl (.inr (.inr (e4 ▸ e)))
      · rw [e4] at e
        injection e with e
        exact .inr (e ▸ hg)
  have hD2 := hD1.upd hi q1 (by simp) s1 hDA (by omega) hTw hv
  have hb2 : Blk w2 p 55 (plantCells db n cp s.on (burnt s.fuse) (s.steps + 1)) := hb1.drew.turn hTw (by
    rintro (e | e)
    · exact hdb e.symm
    · exact hnp p e rfl)
  have hsz1 := hTd.size
  have hG : Goes2 w p F w2 (s.put i d place b) (K + 1) := by
    refine ⟨PlF p db n (setV dv i { (dv i) with wv := wv' }), ⟨db, cp, _, _, ?_, hD2, ?_, ?_, ?_, ?_, ?_, ?_, ?_⟩, ?_, ?_⟩
    · simpa [AP.put, HN.out] using hb2
    · simp [AP.put, HN.out]
    · simpa [AP.put, HN.out] using g1
    · simpa [AP.put, HN.out] using g2
    · simp only [AP.put, burnt]; split <;> omega
    · simp only [AP.put, burnt]; split <;> omega
    · simp only [AP.put]; omega
    · simp only [AP.put]; omega
    · refine (hTd.mono fun k _ e => ?_).trans hTw fun k _ e => ?_
      · rw [Hn.out]
        exact .inl e
      · rw [Hn.out]
        rcases e with e | e
        · exact .inr (.inl e)
        · exact .inr (.inr ⟨i, by rw [← HN.out]; exact hi, e⟩)
    · intro k hk
      rw [Hn.out]
      rcases plf_upd (by rw [← HN.out]; exact hi) hv k hk with e | e
      · exact .inl e
      · exact .inr (by omega)
  have HG := Lib.hid hG
  clear hG hD2 hD1 hb2 hDA q1 q2 q3 q4 q5 hTw hv s1 s2 s3 hA
  go_wp2
  go_ret
  exact ⟨rfl, HG.out⟩
end
end Go.Proofs.Yteedjfgandgbkaa

namespace Go.Proofs.Yteedjfgandgbkaa
open Go.RowKit Go.Maps
set_option linter.unusedVariables false
section
variable {w w' : World} {p db : Nat} {C C' : Array Value} {ds : List AD} {dv : Nat → DV} {K K' : Nat} {F : Nat → Prop} {s : AP}
def AP.flushed (s : AP) (i : Nat) (d : AD) : AP := { s with fuse := burnt s.fuse, steps := s.steps + 1, ds := s.ds.set i { d with fl := over (lastW d.ws) d.fl, ws := [] } }
theorem refuse_bad (h : PlantAt w p F s K) (dev k : Int) (hk : refuseCode s.on s.ds.length dev = k) :
    Calls Try.prog 31 #[.pointer (some ⟨p, 0, none⟩), .int .i64 dev] w fun e w' => e = .returned (.int .i64 k) ∧ w = w' := by
  obtain ⟨db, cap, C, dv, h1, hD, _⟩ := h
  rw [← hk]
  exact refuse_any p db _ cap _ _ _ dev w h1
theorem flush_bad (h : PlantAt w p F s K) (dev k : Int) (hk : refuseCode s.on s.ds.length dev = k) (h2 : k = 2 ∨ k = 31) :
    Calls Try.prog 13 #[.pointer (some ⟨p, 0, none⟩), .int .i64 dev] w fun e w' => e = .returned (.int .i64 k) ∧ w = w' := by
  have hq := refuse_bad h dev k hk
  have Hq := Lib.hid hq
  clear hq hk
  rcases h2 with rfl | rfl
  all_goals
    go_enter Try.func13, Try.ntmps13
    go_wp2_with (go_at_call 31; refine Hq.out.mono ?_; rintro e w' ⟨rfl, rfl⟩)
    go_ret
    exact ⟨rfl, rfl⟩
theorem refuse_ok (h : PlantAt w p F s K) (i : Nat) (d : AD) (hd : s.ds[i]? = some d) (hon : s.on = true) :
    Calls Try.prog 31 #[.pointer (some ⟨p, 0, none⟩), .int .i64 (i : Int)] w fun e w' => e = .returned (.int .i64 0) ∧ w = w' :=
  refuse_bad h i 0 (by
    have := (List.getElem?_eq_some_iff.1 hd).1
    simp [refuseCode, hon, this])
theorem flush_burn (h : PlantAt w p F s K) (i : Nat) (d : AD) (hd : s.ds[i]? = some d) (hon : s.on = true) (h0 : s.fuse = 0) :
    Calls Try.prog 13 #[.pointer (some ⟨p, 0, none⟩), .int .i64 (i : Int)] w fun e w' => e = .returned (.int .i64 2) ∧ Goes2 w p F w' s.burn K := by
  have hq := refuse_ok h i d hd hon
  have hst := step_burnP h h0
  have Hq := Lib.hid hq
  have Hs := Lib.hid hst
  clear hq hd hon hst h0
  go_enter Try.func13, Try.ntmps13
  go_wp2_with (first
    | (go_at_call 31; refine Hq.out.mono ?_; rintro e w' ⟨rfl, rfl⟩)
    | (go_at_call 27; refine Hs.out.mono ?_; rintro e w1 ⟨rfl, hg⟩; have Hg := Lib.hid hg; clear hg))
  go_ret
  exact ⟨rfl, Hg.out⟩
theorem set23 (C : Array Value) (i : Nat) (u v : Value) (h : i * 4 + 4 ≤ C.size) : (∀ j, j < i * 4 ∨ i * 4 + 4 ≤ j → ((C.setIfInBounds (i * 4 + 2) u).setIfInBounds (i * 4 + 3) v)[j]? = C[j]?) ∧ ((C.setIfInBounds (i * 4 + 2) u).setIfInBounds (i * 4 + 3) v)[i * 4 + 3]? = some v ∧
    ((C.setIfInBounds (i * 4 + 2) u).setIfInBounds (i * 4 + 3) v)[i * 4 + 2]? = some u ∧ (∀ j, j < 2 → ((C.setIfInBounds (i * 4 + 2) u).setIfInBounds (i * 4 + 3) v)[i * 4 + j]? = C[i * 4 + j]?) := by
  refine ⟨fun j hj => ?_, ?_, ?_, fun j hj => ?_⟩
  · rw [Array.getElem?_setIfInBounds, if_neg (by omega), Array.getElem?_setIfInBounds, if_neg (by omega)]
  · rw [Array.getElem?_setIfInBounds, if_pos rfl, if_pos (by simp; omega)]
  · rw [Array.getElem?_setIfInBounds, if_neg (by omega), Array.getElem?_setIfInBounds, if_pos rfl, if_pos (by omega)]
  · rw [Array.getElem?_setIfInBounds, if_neg (by omega), Array.getElem?_setIfInBounds, if_neg (by omega)]
set_option maxHeartbeats 1000000 in
theorem flush_ok (h : PlantAt w p F s K) (i : Nat) (d : AD) (hd : s.ds[i]? = some d) (hon : s.on = true) (h0 : s.fuse ≠ 0) (hK : K < 1099511627775) :
    Calls Try.prog 13 #[.pointer (some ⟨p, 0, none⟩), .int .i64 (i : Int)] w fun e w' => e = .returned (.int .i64 0) ∧ Goes2 w p F w' (s.flushed i d) (K + 1) := by
  have hq := refuse_ok h i d hd hon
  obtain ⟨db, cp, C, dv, h1, hD, hF, g1, g2, g3, g4, g5, g6⟩ := id h
  have hi := (List.getElem?_eq_some_iff.1 hd).1
  have hA := hD.at_ i d hd
  have hst := step_on p db s.ds.length cp s.on s.fuse s.steps w h1 h0 g3 g4 g5 (by omega)
  have z1 : (0 : Int) ≤ (i : Int) := by omega
  have z2 : (i : Int) < (s.ds.length : Int) := by omega
  have Hq := Lib.hid hq
  have Hs := Lib.hid hst
  have HD := Lib.hid hD
  have H1 := Lib.hid h1
  have HA := Lib.hid hA
  have Hn := Lib.hid hF
  clear hq hd hst h0 hA hD h h1 hF
  generalize hnn : s.ds.length = n at *
  have HN := Lib.hid hnn
  clear hnn
  go_enter Try.func13, Try.ntmps13
  go_wp2_with (first
    | (go_at_call 31; refine Hq.out.mono ?_; rintro e w' ⟨rfl, rfl⟩)
    | (go_at_call 27; refine Hs.out.mono ?_; rintro e w1 ⟨rfl, hb1, ht1⟩; have HT := Lib.hid ht1; clear ht1; have c0 : w1.cell? ⟨p, 0, none⟩ = some (.slice (some ⟨db, 0, none⟩) n cp) := hb1.cell 0))
  obtain ⟨n1, hn1a, hn1b⟩ := HA.out.fl
  have hi : i < s.ds.length := by rw [HN.out]; exact hi
  have hTd : Turn (only p) w w1 := HT.out
  have hdb : ¬ only p db := Blk.ne_ HD.out.blk H1.out (by decide)
  have hnp : ∀ b, (dv i).has b → ¬ only p b := fun b hb e => HD.out.ne hi hb H1.out (by decide) e.symm
  have hsz := HD.out.size
  rw [HN.out] at hsz
  refine (flush_walk db (i * 4) (dv i).fl (dv i).nw n1 d.ws.length d.fl (lastW d.ws) C w1 (HD.out.blk.turn hTd hdb) HA.out.c1 HA.out.c2 (by omega) (hn1b.turn hTd (hnp _ (.inl rfl))) (HA.out.nw.turn hTd (hnp _ (.inr (.inl rfl)))) HA.out.ne (by omega)).mono ?_
  rintro e w2 ⟨rfl, nw', hnw, q1, q2, q3, q5⟩
  obtain ⟨s1, s2, s4, s3⟩ := set23 C i (.map (some nw')) (.slice none 0 0) (by omega)
  have hA := HA.out
  have hne : (dv i).fl ≠ nw' := by
    have := (hn1b.turn hTd (hnp _ (.inl rfl))).lt
    omega
  have hDA : DiskAt w2 ((C.setIfInBounds (i * 4 + 2) (.map (some nw'))).setIfInBounds (i * 4 + 3) (.slice none 0 0)) i { d with fl := over (lastW d.ws) d.fl, ws := [] } { fl := (dv i).fl, nw := nw', wv := .slice none 0 0 } (K + 1) := {
    c0 := (s3 0 (by omega)).trans hA.c0
    c1 := (s3 1 (by omega)).trans hA.c1
    c2 := s4
    c3 := s2
    ne := hne
    fl := ⟨n1 + d.ws.length, by simp; omega, q2⟩
    nw := q3
    ws := World.ownsRow_nil w2 0 _ _
    wf := fun x hx => by cases hx
    n0 := hA.n0 }
  have hTw : Turn (fun k => k = db ∨ (dv i).has k) w1 w2 := q5.mono fun k _ e => by
    rcases e with e | e
    · exact .inl e
    · exact .inr (.inl e)
  have hD1 : DisksAt w1 db C s.ds dv K := HD.out.keep (hTd.block _ HD.out.blk.lt hdb) (fun j hj b hb => hTd.block _ (HD.out.lt hj hb) fun e => HD.out.ne hj hb H1.out (by decide) e.symm) (Nat.le_refl _)
  have hv : ∀ b, ({ fl := (dv i).fl, nw := nw', wv := .slice none 0 0 } : DV).has b → (dv i).has b ∨ w1.heap.size ≤ b := by
    rintro k (e | e | e)
    · exact .inl (.inl e)
    · exact .inr (e ▸ hnw)
    · cases e
  have hD2 := hD1.upd hi q1 (by simp) s1 hDA (by omega) hTw hv
  have hb2 : Blk w2 p 55 (plantCells db n cp s.on (burnt s.fuse) (s.steps + 1)) := hb1.turn hTw (by
    rintro (e | e)
    · exact hdb e.symm
    · exact hnp p e rfl)
  have hsz1 := hTd.size
  have hG : Goes2 w p F w2 (s.flushed i d) (K + 1) := by
    refine ⟨PlF p db n (setV dv i { fl := (dv i).fl, nw := nw', wv := .slice none 0 0 }), ⟨db, cp, _, _, ?_, hD2, ?_, ?_, ?_, ?_, ?_, ?_, ?_⟩, ?_, ?_⟩
    · simpa [AP.flushed, HN.out] using hb2
    · simp [AP.flushed, HN.out]
    · simpa [AP.flushed, HN.out] using g1
    · simpa [AP.flushed, HN.out] using g2
    · simp only [AP.flushed, burnt]; split <;> omega
    · simp only [AP.flushed, burnt]; split <;> omega
    · simp only [AP.flushed]; omega
    · simp only [AP.flushed]; omega
    · refine (hTd.mono fun k _ e => ?_).trans hTw fun k _ e => ?_
      · rw [Hn.out]
        exact .inl e
      · rw [Hn.out]
        rcases e with e | e
        · exact .inr (.inl e)
        · exact .inr (.inr ⟨i, by rw [← HN.out]; exact hi, e⟩)
    · intro k hk
      rw [Hn.out]
      rcases plf_upd (by rw [← HN.out]; exact hi) hv k hk with e | e
      · exact .inl e
      · exact .inr (by omega)
  have HG := Lib.hid hG
  clear hG hD2 hD1 hb2 hDA q1 q2 q3 q5 hTw hv s1 s2 s3 s4 hA
  go_wp2
  go_ret
  exact ⟨rfl, HG.out⟩
theorem fuseP (h : PlantAt w p F s K) (m : Int) (hm : -9223372036854775808 ≤ m ∧ m ≤ 9223372036854775807) :
    Calls Try.prog 16 #[.pointer (some ⟨p, 0, none⟩), .int .i64 m] w fun e w' => e = .returned (.tuple #[]) ∧ Goes2 w p F w' { s with fuse := if s.on then m else s.fuse } K := by
  obtain ⟨db, cp, C, dv, h1, hD, hF, g1, g2, g3, g4, g5, g6⟩ := id h
  refine (fuse_any p db _ cp _ _ _ w m h1).mono fun e w' ⟨he, hb, ht⟩ => ⟨he, ?_⟩
  exact h.top hb hD hF ht h1 (Nat.le_refl _) (by split <;> omega) (by split <;> omega) g5 g6
theorem onP (h : PlantAt w p F s K) : Calls Try.prog 22 #[.pointer (some ⟨p, 0, none⟩)] w fun e w' => e = .returned (.bool s.on) ∧ w = w' := by
  obtain ⟨db, cp, C, dv, h1, _⟩ := h
  exact on_any p db _ cp _ _ _ w h1
theorem stepsP (h : PlantAt w p F s K) : Calls Try.prog 23 #[.pointer (some ⟨p, 0, none⟩)] w fun e w' => e = .returned (.int .i64 s.steps) ∧ w = w' := by
  obtain ⟨db, cp, C, dv, h1, _⟩ := h
  exact steps_any p db _ cp _ _ _ w h1
theorem lenP_bad (h : PlantAt w p F s K) (dev : Int) (hd : ¬ (0 ≤ dev ∧ dev < s.ds.length)) :
    Calls Try.prog 39 #[.pointer (some ⟨p, 0, none⟩), .int .i64 dev] w fun e w' => e = .returned (.tuple #[.int .i64 0, .int .i64 31]) ∧ w = w' := by
  obtain ⟨db, cp, C, dv, h1, _⟩ := h
  exact len_bad p db _ cp _ _ _ dev w h1 hd
theorem lenP_good (h : PlantAt w p F s K) (i : Nat) (d : AD) (hd : s.ds[i]? = some d) :
    Calls Try.prog 39 #[.pointer (some ⟨p, 0, none⟩), .int .i64 (i : Int)] w fun e w' => e = .returned (.tuple #[.int .i64 d.n, .int .i64 0]) ∧ w = w' := by
  obtain ⟨db, cp, C, dv, h1, hD, _, _, g2, _⟩ := h
  exact len_good p db _ cp _ _ _ w C d.n i h1 hD.blk (List.getElem?_eq_some_iff.1 hd).1 (hD.at_ i d hd).c0 g2
end
end Go.Proofs.Yteedjfgandgbkaa

namespace Go.Proofs.Yteedjfgandgbkaa
open Go.RowKit Go.Maps
set_option linter.unusedVariables false
/-- disk i while a boot goes on: its list of writes may begin in the midst of a block -/
structure MidAt (w : World) (C : Array Value) (i : Nat) (d : AD) (v : DV) (K : Nat) : Prop where
  c0 : C[i * 4]? = some (.int .i64 d.n)
  c1 : C[i * 4 + 1]? = some (.map (some v.fl))
  fl : ∃ n1, n1 + d.ws.length ≤ K ∧ MapAt w kI eS v.fl n1 d.fl
  ws : ∃ A cap, C[i * 4 + 3]? = some (.slice A d.ws.length cap) ∧ d.ws.length ≤ cap ∧ cap ≤ 9223372036854775807 ∧ (0 < d.ws.length → ∃ g off, A = some ⟨g, off, none⟩ ∧ w.rangeAt g off (d.ws.flatMap wtCells) ∧ ∃ cs, Blk w g 66 cs)
  wf : ∀ x ∈ d.ws, (Lit.int .i64 x.2.1).wf = true
  n0 : 1 ≤ d.n ∧ d.n ≤ 65536
structure MidsAt (w : World) (db : Nat) (C : Array Value) (ds : List AD) (dv : Nat → DV) (K : Nat) : Prop where
  blk : Blk w db 59 C
  size : ds.length * 4 ≤ C.size
  at_ : ∀ i d, ds[i]? = some d → MidAt w C i d (dv i) K
  apart : ∀ i j, i < ds.length → j < ds.length → i ≠ j → (dv i).fl ≠ (dv j).fl
def headStep (d : AD) : Int := match d.ws with
  | x :: _ => x.1
  | [] => 0
def stepAt (ds : List AD) (i : Nat) : Int := match ds[i]? with
  | some d => headStep d
  | none => 0
def waitsAt (ds : List AD) (i : Nat) : Nat := match ds[i]? with
  | some d => d.ws.length
  | none => 0
/-- the disk whose first write was done first -/
def pick (ds : List AD) : Nat → Option Nat
  | 0 => none
  | k + 1 => if 0 < waitsAt ds k then (match pick ds k with
      | none => some k
      | some j => if stepAt ds k < stepAt ds j then some k else some j) else pick ds k
def ptrOf (db : Nat) : Option Nat → Value
  | none => .pointer none
  | some j => .pointer (some ⟨db, j * 4, none⟩)
theorem pick_some (ds : List AD) : ∀ k j, pick ds k = some j → j < k ∧ 0 < waitsAt ds j
  | 0, j, h => by cases h
  | k + 1, j, h => by
    unfold pick at h
    split at h
    · rename_i hw
      cases hp : pick ds k with
      | none =>
        rw [hp] at h
        cases h
        exact ⟨by omega, hw⟩
      | some m =>
        rw [hp] at h
        simp only at h
        split at h
        · cases h
          exact ⟨by omega, hw⟩
        · cases h
          have := pick_some ds k _ hp
          exact ⟨by omega, this.2⟩
    · have := pick_some ds k _ h
      exact ⟨by omega, this.2⟩
theorem MidsAt.cells {w : World} {db : Nat} {C : Array Value} {ds : List AD} {dv : Nat → DV} {K : Nat} (h : MidsAt w db C ds dv K) {i : Nat} (hi : i < ds.length) :
    ∃ A cap, w.cell? ⟨db, i * 4 + 3, none⟩ = some (.slice A (waitsAt ds i) cap) ∧ waitsAt ds i ≤ cap ∧ cap ≤ 9223372036854775807 ∧ (0 < waitsAt ds i → ∃ g off, A = some ⟨g, off, none⟩ ∧ w.cell? ⟨g, off, none⟩ = some (.int .i64 (stepAt ds i))) := by
  obtain ⟨A, cap, h1, h2, h3, h4⟩ := (h.at_ i ds[i] (List.getElem?_eq_getElem hi)).ws
  have e : waitsAt ds i = ds[i].ws.length := by simp [waitsAt, hi]
  rw [e]
  refine ⟨A, cap, (h.blk.cell _).trans h1, h2, h3, fun hp => ?_⟩
  obtain ⟨g, off, rfl, hr, _⟩ := h4 hp
  refine ⟨g, off, rfl, ?_⟩
  have e2 : stepAt ds i = headStep ds[i] := by simp [stepAt, hi]
  rw [e2]
  cases hw : ds[i].ws with
  | nil => rw [hw] at hp; simp at hp
  | cons x r =>
    have := hr 0 (.int .i64 x.1) (by rw [hw]; simp [wtCells])
    simpa [headStep, hw] using this
set_option maxHeartbeats 1000000 in
theorem longest_walk (p db c : Nat) (on : Bool) (fuse steps : Int) (ds : List AD) (C : Array Value) (dv : Nat → DV) (K : Nat) (w : World) (hb : Blk w p 55 (plantCells db ds.length c on fuse steps)) (hD : MidsAt w db C ds dv K) (hn : ds.length ≤ 4) :
    Calls Try.prog 34 #[.pointer (some ⟨p, 0, none⟩)] w fun e w' => e = .returned (ptrOf db (pick ds ds.length)) ∧ ∃ m, w' = w.drewN m := by
  have c0 : w.cell? ⟨p, 0, none⟩ = some (.slice (some ⟨db, 0, none⟩) ds.length c) := hb.cell 0
  have hcell := fun i (hi : i < ds.length) => hD.cells hi
  have HC := Lib.hid hcell
  clear hcell hb hD
  generalize hnn : ds.length = n at *
  have HN := Lib.hid hnn
  clear hnn
  go_enter Try.func34, Try.ntmps34
  go_wp2
  go_loopw [3, 11] (fun f i wr => ∃ k m : Nat, k ≤ n ∧ i = .int .i64 k ∧ f = ptrOf db (pick ds k) ∧ wr = w.drewN m) (fun _ i _ => n - (intOf i).toNat)
  case atStart => exact ⟨0, 0, Nat.zero_le _, rfl, rfl, rfl⟩
  case round =>
    obtain ⟨k, m, hk, rfl, rfl, rfl⟩ := hrel
    by_cases hlt : k < n
    · obtain ⟨A, cap, h1, h2, h3, h4⟩ := HC.out k hlt
      have z1 : (0 : Int) ≤ (k : Int) := by omega
      have z2 : (k : Int) < (n : Int) := by omega
      by_cases hw : 0 < waitsAt ds k
      · obtain ⟨g, off, rfl, hg⟩ := h4 hw
        clear h4
        have zw : (0 : Int) < (waitsAt ds k : Int) := by omega
        have zd : decide ((0 : Int) < (waitsAt ds k : Int)) = true := by simp [hw]
        cases hp : pick ds k with
        | none =>
          have e : pick ds (k + 1) = some k := by rw [pick, if_pos hw, hp]
          have E := Lib.hid e
          clear e
          have hnil : ptrOf db (Option.none : Option Nat) = .pointer none := rfl
          rw [hnil]
          have HP := Lib.hid hp
          clear hp hnil
          generalize stepAt ds k = sk at *
          generalize waitsAt ds k = wk at *
          go_wp2_with fail
          go_quiet (fail)
          go_wp2
          go_roundw
          case rel => exact ⟨k + 1, _, by omega, by go_num, by rw [E.out]; rfl, rfl⟩
          case measure => simp [intOf]; omega
        | some j =>
          obtain ⟨hj, hwj⟩ := pick_some ds k j hp
          obtain ⟨Aj, cj, j1, j2, j3, j4⟩ := HC.out j (by omega)
          obtain ⟨gj, oj, rfl, hgj⟩ := j4 hwj
          clear j4
          have zj : (0 : Int) < (waitsAt ds j : Int) := by omega
          have hnil : ptrOf db (some j) = .pointer (some ⟨db, j * 4, Option.none⟩) := rfl
          rw [hnil]
          by_cases hs : stepAt ds k < stepAt ds j
          · have e : pick ds (k + 1) = some k := by rw [pick, if_pos hw, hp]; simp [hs]
            have E := Lib.hid e
            have HP := Lib.hid hp
            clear e hp hnil
            generalize stepAt ds k = sk at *
            generalize stepAt ds j = sj at *
            generalize waitsAt ds k = wk at *
            generalize waitsAt ds j = wj at *
            go_wp2_with fail
            go_quiet (fail)
            go_wp2
            go_roundw
            case rel => exact ⟨k + 1, _, by omega, by go_num, by rw [E.out]; rfl, rfl⟩
            case measure => simp [intOf]; omega
          · have e : pick ds (k + 1) = some j := by rw [pick, if_pos hw, hp]; simp [hs]
            have E := Lib.hid e
            have HP := Lib.hid hp
            clear e hp hnil
            generalize stepAt ds k = sk at *
            generalize stepAt ds j = sj at *
            generalize waitsAt ds k = wk at *
            generalize waitsAt ds j = wj at *
            have hs : sj ≤ sk := by omega
            go_wp2_with fail
            go_quiet (fail)
            go_wp2
            go_roundw
            case rel => exact ⟨k + 1, _, by omega, by go_num, by rw [E.out]; rfl, rfl⟩
            case measure => simp [intOf]; omega
      · have hw0 : waitsAt ds k = 0 := by omega
        rw [hw0] at h1
        have e : pick ds (k + 1) = pick ds k := by rw [pick, if_neg hw]
        have E := Lib.hid e
        clear h4 e hw hw0 h2
        generalize hpp : ptrOf db (pick ds k) = pp
        have HP := Lib.hid hpp
        clear hpp
        go_wp2_with fail
        go_quiet (fail)
        go_wp2
        go_roundw
        case rel => exact ⟨k + 1, _, by omega, by go_num, by rw [E.out]; exact HP.out.symm, rfl⟩
        case measure => simp [intOf]; omega
    · obtain rfl : k = n := by omega
      go_wp2
      go_ret
      exact ⟨rfl, _, rfl⟩
end Go.Proofs.Yteedjfgandgbkaa

namespace Go.Proofs.Yteedjfgandgbkaa
open Go.RowKit Go.Maps
set_option linter.unusedVariables false
def bootOne (k : Int) (j : Nat) (ds : List AD) : List AD := match ds[j]? with
  | some d => (match d.ws with
    | x :: r => ds.set j { d with fl := bootFl k x.2.1 x.2.2 d.fl, ws := r }
    | [] => ds)
  | none => ds
def bootRun (kf : Nat → Int) : Nat → Nat → List AD → List AD
  | 0, _, ds => ds
  | f + 1, i, ds => match pick ds ds.length with
    | some j => bootRun kf f (i + 1) (bootOne (kf i) j ds)
    | none => ds
/-- how many writes wait -/
def total (ds : List AD) : Nat := (ds.map fun d => d.ws.length).sum
theorem total_set : ∀ (ds : List AD) (j : Nat) (d d' : AD), ds[j]? = some d → d.ws.length = d'.ws.length + 1 → total ds = total (ds.set j d') + 1
  | [], j, d, d', h, _ => by simp at h
  | e :: r, 0, d, d', h, hl => by
    simp only [List.getElem?_cons_zero, Option.some.injEq] at h
    subst h
    simp [total, hl]
    omega
  | e :: r, j + 1, d, d', h, hl => by
    have := total_set r j d d' (by simpa using h) hl
    simp only [List.set_cons_succ, total, List.map_cons, List.sum_cons] at this ⊢
    omega
theorem bootOne_length (k : Int) (j : Nat) (ds : List AD) : (bootOne k j ds).length = ds.length := by
  unfold bootOne
  split
  · split
    · simp
    · rfl
  · rfl
theorem total_zero : ∀ (ds : List AD), (∀ d ∈ ds, d.ws = []) → total ds = 0
  | [], _ => rfl
  | d :: r, h => by
    have h1 := total_zero r fun e he => h e (List.mem_cons_of_mem _ he)
    have h2 := h d (List.mem_cons_self ..)
    simp only [total, List.map_cons, List.sum_cons, h2] at h1 ⊢
    simpa using h1
theorem pick_none (ds : List AD) : ∀ k, pick ds k = none → ∀ i, i < k → waitsAt ds i = 0
  | 0, _, i, hi => by omega
  | k + 1, h, i, hi => by
    unfold pick at h
    split at h
    · cases hp : pick ds k with
      | none => rw [hp] at h; cases h
      | some m =>
        rw [hp] at h
        simp only at h
        split at h <;> cases h
    · rename_i hw
      by_cases e : i = k
      · subst e
        omega
      · exact pick_none ds k h i (by omega)
theorem pick_none_ws {ds : List AD} (h : pick ds ds.length = none) : ∀ (i : Nat) (d : AD), ds[i]? = some d → d.ws = [] := by
  intro i d hi
  have := pick_none ds _ h i (List.getElem?_eq_some_iff.1 hi).1
  simp only [waitsAt, hi] at this
  exact List.eq_nil_of_length_eq_zero this
/-- a list of writes in memory is one in the midst -/
theorem Waits.mid {w : World} {v : Value} {ws : List Wt} (h : Waits w v ws) : ∃ A cap, v = .slice A ws.length cap ∧ ws.length ≤ cap ∧ cap ≤ 9223372036854775807 ∧ (0 < ws.length → ∃ g off, A = some ⟨g, off, none⟩ ∧ w.rangeAt g off (ws.flatMap wtCells) ∧ ∃ cs, Blk w g 66 cs) := by
  obtain ⟨h1, h2⟩ := h
  rcases h2 with ⟨rfl, h2⟩ | ⟨g, cap, cur, rfl, _, h4, h5, h6, h7, h8⟩
  · exact ⟨none, 0, by rw [h2], by omega, by omega, fun h => by omega⟩
  · refine ⟨some ⟨g, 0, none⟩, cap, rfl, h5, by unfold maxLen at h6; omega, fun _ => ⟨g, 0, rfl, fun j u hj => ?_, cur, h4⟩⟩
    rw [Nat.zero_add, cell_of_row w g j cur _ _ h4]
    rw [← h8, List.getElem?_take] at hj
    split at hj
    · simpa using hj
    · cases hj
theorem DiskAt.mid {w : World} {C : Array Value} {i : Nat} {d : AD} {v : DV} {K : Nat} (h : DiskAt w C i d v K) : MidAt w C i d v K := by
  obtain ⟨A, cap, e, h2⟩ := h.ws.mid
  exact { c0 := h.c0, c1 := h.c1, fl := h.fl, ws := ⟨A, cap, by rw [← e]; exact h.c3, h2⟩, wf := h.wf, n0 := h.n0 }
theorem DisksAt.mid {w : World} {db : Nat} {C : Array Value} {ds : List AD} {dv : Nat → DV} {K : Nat} (h : DisksAt w db C ds dv K) : MidsAt w db C ds dv K where
  blk := h.blk
  size := h.size
  at_ i d hi := (h.at_ i d hi).mid
  apart i j hi hj hij e := h.apart i j hi hj hij _ (.inl rfl) (.inl e)
theorem MidAt.keep {w w' : World} {C C' : Array Value} {i : Nat} {d : AD} {v : DV} {K : Nat} {F : Nat → Prop} (h : MidAt w C i d v K) (ht : Turn F w w') (h1 : ¬ F v.fl) (h2 : ∀ g cs, F g → ¬ Blk w g 66 cs) (hC : ∀ j, j < 4 → C'[i * 4 + j]? = C[i * 4 + j]?) : MidAt w' C' i d v K where
  c0 := (hC 0 (by omega)).trans h.c0
  c1 := (hC 1 (by omega)).trans h.c1
  fl := by
    obtain ⟨n1, g1, g2⟩ := h.fl
    exact ⟨n1, g1, g2.turn ht h1⟩
  ws := by
    obtain ⟨A, cap, g1, g2, g3, g4⟩ := h.ws
    refine ⟨A, cap, (hC 3 (by omega)).trans g1, g2, g3, fun hp => ?_⟩
    obtain ⟨g, off, e, hr, cs, hb⟩ := g4 hp
    have hn : ¬ F g := fun hF => h2 g cs hF hb
    exact ⟨g, off, e, fun j u hj => by rw [ht.cell (p := ⟨g, off + j, none⟩) hb.lt hn]; exact hr j u hj, cs, hb.turn ht hn⟩
  wf := h.wf
  n0 := h.n0
/-- one step of a boot -/
theorem boot_step {w : World} {db : Nat} {C : Array Value} {ds : List AD} {dv : Nat → DV} {K : Nat} (h : MidsAt w db C ds dv K) {j : Nat} (hj : j < ds.length) (hw : 0 < waitsAt ds j) (k q : Int) (hq : bits .and .i64 k 3 = q) (hq4 : q = 0 ∨ q = 1 ∨ q = 2 ∨ q = 3) (hK : K < 1099511627776) :
    Calls Try.prog 35 #[.pointer (some ⟨db, j * 4, none⟩), .int .i64 k] w fun e w' => e = .returned (.tuple #[]) ∧ (∃ C', MidsAt w' db C' (bootOne q j ds) dv K) ∧ Turn (fun b => b = db ∨ b = (dv j).fl) w w' ∧ total ds = total (bootOne q j ds) + 1 := by
  have hd : ds[j]? = some ds[j] := List.getElem?_eq_getElem hj
  have hA := h.at_ j _ hd
  have hw' : 0 < ds[j].ws.length := by simpa [waitsAt, hd] using hw
  generalize hdd : ds[j] = d at *
  obtain ⟨n1, hn1, hm⟩ := hA.fl
  obtain ⟨A, cap, g1, g2, g3, g4⟩ := hA.ws
  obtain ⟨g, off, rfl, hr, cs, hb⟩ := g4 hw'
  cases hws : d.ws with
  | nil => rw [hws] at hw'; simp at hw'
  | cons x r =>
    have hsz := h.size
    rw [hws] at hr g1 g2 hn1
    have hrx : w.rangeAt g off (wtCells x) := fun m u hm' => hr m u (by
      rw [List.flatMap_cons, List.getElem?_append_left (List.getElem?_eq_some_iff.1 hm').1]
      exact hm')
    refine (boot_walk db (j * 4) (dv j).fl n1 g off (x :: r).length cap d.fl x k q C w h.blk hA.c1 g1 (by omega) hm hrx (hA.wf x (by rw [hws]; exact List.mem_cons_self ..)) (by simp) g2 g3 (by simp at hn1; omega) hq hq4).mono ?_
    rintro e w' ⟨rfl, q1, q2, q3⟩
    have e1 : bootOne q j ds = ds.set j { d with fl := bootFl q x.2.1 x.2.2 d.fl, ws := r } := by simp [bootOne, hd, hws]
    refine ⟨rfl, ⟨C.setIfInBounds (j * 4 + 3) (.slice (some ⟨g, cutOff cap off, none⟩) ((x :: r).length - 1) (cap - 1)), ?_⟩, q3, ?_⟩
    · obtain ⟨s1, s2, s3⟩ := set3 C j (.slice (some ⟨g, cutOff cap off, none⟩) ((x :: r).length - 1) (cap - 1)) (by omega)
      have hFw : ∀ b cs, (b = db ∨ b = (dv j).fl) → ¬ Blk w b 66 cs := by
        rintro b cs (rfl | rfl) hb'
        · exact Blk.ne_ h.blk hb' (by decide) rfl
        · exact hm.ne hb' rfl
      have hng : ¬ (g = db ∨ g = (dv j).fl) := fun e => hFw g cs e hb
      rw [e1]
      refine ⟨q1, by rw [List.length_set, Array.size_setIfInBounds]; exact hsz, fun i di hi => ?_, fun i m hi hm' => by rw [List.length_set] at hi hm'; exact h.apart i m hi hm'⟩
      by_cases e : i = j
      · subst e
        rw [List.getElem?_set, if_pos rfl, if_pos hj] at hi
        cases hi
        refine { c0 := (s3 0 (by omega)).trans hA.c0, c1 := (s3 1 (by omega)).trans hA.c1, fl := ⟨n1 + 1, by simp at hn1 ⊢; omega, q2⟩, ws := ⟨some ⟨g, cutOff cap off, none⟩, cap - 1, s2, by simp at g2 ⊢; omega, by omega, fun hp => ?_⟩, wf := fun y hy => hA.wf y (by rw [hws]; exact List.mem_cons_of_mem _ hy), n0 := hA.n0 }
        have hc1 : cap ≠ 1 := by
          simp at g2 hp
          omega
        refine ⟨g, off + 66, by simp [cutOff, hc1], fun m u hm' => ?_, cs, hb.turn q3 hng⟩
        rw [q3.cell (p := ⟨g, off + 66 + m, none⟩) hb.lt hng]
        have := hr (66 + m) u (by
          rw [List.flatMap_cons, List.getElem?_append_right (by rw [wtCells_length]; omega), wtCells_length, show 66 + m - 66 = m from by omega]
          exact hm')
        rwa [← Nat.add_assoc] at this
      · rw [List.getElem?_set, if_neg (Ne.symm e)] at hi
        have hil := (List.getElem?_eq_some_iff.1 hi).1
        refine (h.at_ i di hi).keep q3 ?_ hFw (fun m hm' => s1 _ (by omega))
        rintro (e' | e')
        · obtain ⟨_, _, hm2⟩ := (h.at_ i di hi).fl
          exact hm2.ne h.blk e'.symm
        · exact h.apart i j hil hj e e'
    · rw [e1]
      exact total_set ds j d _ hd (by rw [hws]; rfl)
end Go.Proofs.Yteedjfgandgbkaa

namespace Go.Proofs.Yteedjfgandgbkaa
open Go.RowKit Go.Maps
set_option linter.unusedVariables false
def low2 (k : Int) : Int := bits .and .i64 k 3
theorem low2_four (k : Int) : low2 k = 0 ∨ low2 k = 1 ∨ low2 k = 2 ∨ low2 k = 3 := by
  have h1 : (BitVec.ofInt 64 k &&& BitVec.ofInt 64 3).toNat ≤ 3 := by
    rw [BitVec.toNat_and]
    exact Nat.and_le_right
  have h2 : low2 k = IntKind.i64.wrap ((BitVec.ofInt 64 k &&& BitVec.ofInt 64 3).toNat : Int) := rfl
  rw [h2, IntKind.wrap_i64]
  omega
/-- a slice that reads as ints, in a block that is none of F -/
def Ks (w : World) (F : Nat → Prop) (a : Option Addr) (len : Nat) (zs : List Int) : Prop :=
  zs.length = len ∧ len ≤ 9223372036854775807 ∧ (0 < len → ∃ g off, a = some ⟨g, off, none⟩ ∧ g < w.heap.size ∧ ¬ F g ∧ ∀ i, i < len → w.cell? ⟨g, off + i, none⟩ = some (.int .i64 (zs.getD i 0)))
def kval (zs : List Int) (i : Nat) : Int := if zs.length = 0 then 0 else zs.getD (i % zs.length) 0
theorem total_le : ∀ (ds : List AD) (K : Nat), (∀ d ∈ ds, d.ws.length ≤ K) → total ds ≤ ds.length * K
  | [], _, _ => Nat.zero_le _
  | d :: r, K, h => by
    have h1 := total_le r K fun e he => h e (List.mem_cons_of_mem _ he)
    have h2 := h d (List.mem_cons_self ..)
    simp only [total, List.map_cons, List.sum_cons, List.length_cons] at h1 ⊢
    rw [Nat.succ_mul]
    omega
def AP.boot (s : AP) (zs : List Int) : AP := { ds := bootRun (fun i => low2 (kval zs i)) (total s.ds) 0 s.ds, on := true, fuse := -1, steps := s.steps }
theorem bootRun_length (kf : Nat → Int) : ∀ (f i : Nat) (ds : List AD), (bootRun kf f i ds).length = ds.length
  | 0, _, _ => rfl
  | f + 1, i, ds => by
    unfold bootRun
    split
    · rw [bootRun_length kf f, bootOne_length]
    · rfl
theorem MidsAt.still {w w' : World} {db : Nat} {C : Array Value} {ds : List AD} {dv : Nat → DV} {K : Nat} (h : MidsAt w db C ds dv K) (ht : Turn nowhere w w') : MidsAt w' db C ds dv K where
  blk := h.blk.turn ht fun e => e
  size := h.size
  at_ i d hi := (h.at_ i d hi).keep ht (fun e => e) (fun _ _ e => e.elim) fun _ _ => rfl
  apart := h.apart
/-- the first k disks are whole again, nothing waits on any -/
structure FinAt (B : Nat) (w : World) (db : Nat) (C : Array Value) (ds : List AD) (dv : Nat → DV) (K k : Nat) : Prop where
  blk : Blk w db 59 C
  size : ds.length * 4 ≤ C.size
  mid : ∀ i d, ds[i]? = some d → MidAt w C i d (dv i) K
  fin : ∀ i d, i < k → ds[i]? = some d → DiskAt w C i d (dv i) K ∧ (dv i).wv = .slice none 0 0 ∧ B ≤ (dv i).nw
  flB : ∀ i, i < ds.length → (dv i).fl < B
  apart : ∀ i j, i < ds.length → j < ds.length → i ≠ j → (dv i).fl ≠ (dv j).fl
  nws : ∀ i j, i < k → j < k → i ≠ j → (dv i).nw ≠ (dv j).nw
  kn : k ≤ ds.length
theorem FinAt.still {B : Nat} {w w' : World} {db : Nat} {C : Array Value} {ds : List AD} {dv : Nat → DV} {K k : Nat} (h : FinAt B w db C ds dv K k) (ht : Turn nowhere w w') : FinAt B w' db C ds dv K k where
  blk := h.blk.turn ht fun e => e
  size := h.size
  mid i d hi := (h.mid i d hi).keep ht (fun e => e) (fun _ _ e => e.elim) fun _ _ => rfl
  fin i d hk hi := by
    obtain ⟨h1, h2⟩ := h.fin i d hk hi
    refine ⟨h1.keep (fun b hb => ?_) (fun _ _ => rfl) (Nat.le_refl _), h2⟩
    refine ht.block b ?_ fun e => e
    rcases hb with rfl | rfl | hb
    · obtain ⟨_, _, hm⟩ := h1.fl
      exact hm.lt
    · exact h1.nw.lt
    · exact (h1.ws.lt b hb).2
  flB := h.flB
  apart := h.apart
  nws := h.nws
  kn := h.kn
theorem forget_step {B : Nat} {w : World} {db : Nat} {C : Array Value} {ds : List AD} {dv : Nat → DV} {K k : Nat} (h : FinAt B w db C ds dv K k) (hk : k < ds.length) (hws : ∀ (i : Nat) (d : AD), ds[i]? = some d → d.ws = []) (hB : B ≤ w.heap.size) :
    Calls Try.prog 36 #[.pointer (some ⟨db, k * 4, none⟩)] w fun e w' => e = .returned (.tuple #[]) ∧ (∃ C' dv', FinAt B w' db C' ds dv' K (k + 1) ∧ ∀ i, (dv' i).fl = (dv i).fl) ∧ Turn (only db) w w' := by
  have hsz := h.size
  refine (forget_walk db (k * 4) C w h.blk (by omega)).mono ?_
  rintro e w' ⟨rfl, q1, q2, q3⟩
  refine ⟨rfl, ⟨(C.setIfInBounds (k * 4 + 2) (.map (some w.heap.size))).setIfInBounds (k * 4 + 3) (.slice none 0 0), setV dv k { fl := (dv k).fl, nw := w.heap.size, wv := .slice none 0 0 }, ?_, fun i => ?_⟩, q3⟩
  · obtain ⟨s1, s2, s4, s3⟩ := set23 C k (.map (some w.heap.size)) (.slice none 0 0) (by omega)
    have hsame : ∀ i, i ≠ k → setV dv k { fl := (dv k).fl, nw := w.heap.size, wv := .slice none 0 0 } i = dv i := fun i hi => by simp [setV, hi]
    have hself : setV dv k { fl := (dv k).fl, nw := w.heap.size, wv := .slice none 0 0 } k = { fl := (dv k).fl, nw := w.heap.size, wv := .slice none 0 0 } := by simp [setV]
    have hfl : ∀ i, (setV dv k { fl := (dv k).fl, nw := w.heap.size, wv := .slice none 0 0 } i).fl = (dv i).fl := fun i => by
      by_cases e : i = k
      · subst e
        rw [hself]
      · rw [hsame i e]
    have hd := h.mid k ds[k] (List.getElem?_eq_getElem hk)
    obtain ⟨n1, hn1, hm⟩ := hd.fl
    have hm' : MapAt w' kI eS (dv k).fl n1 ds[k].fl := hm.turn q3 (fun e => hm.ne h.blk e.symm)
    have hwk := hws k ds[k] (List.getElem?_eq_getElem hk)
    have hDk : DiskAt w' ((C.setIfInBounds (k * 4 + 2) (.map (some w.heap.size))).setIfInBounds (k * 4 + 3) (.slice none 0 0)) k ds[k] { fl := (dv k).fl, nw := w.heap.size, wv := .slice none 0 0 } K := {
      c0 := (s3 0 (by omega)).trans hd.c0
      c1 := (s3 1 (by omega)).trans hd.c1
      c2 := s4
      c3 := s2
      ne := by
        have := hm.lt
        show (dv k).fl ≠ w.heap.size
        omega
      fl := ⟨n1, hn1, hm'⟩
      nw := by rw [hwk]; exact q2
      ws := by rw [hwk]; exact World.ownsRow_nil w' 0 _ _
      wf := hd.wf
      n0 := hd.n0 }
    have hmid : ∀ i d, ds[i]? = some d → i ≠ k → MidAt w' ((C.setIfInBounds (k * 4 + 2) (.map (some w.heap.size))).setIfInBounds (k * 4 + 3) (.slice none 0 0)) i d (dv i) K := fun i d hi hik => by
      refine (h.mid i d hi).keep q3 ?_ (fun g cs hg hb => Blk.ne_ h.blk hb (by decide) hg.symm) (fun m hm => s1 _ (by omega))
      obtain ⟨_, _, hm2⟩ := (h.mid i d hi).fl
      exact fun e => hm2.ne h.blk e.symm
    refine { blk := q1, size := by simp; exact hsz, mid := fun i d hi => ?_, fin := fun i d hik hi => ?_, flB := fun i hi => by rw [hfl]; exact h.flB i hi, apart := fun i j hi hj hij => by rw [hfl, hfl]; exact h.apart i j hi hj hij, nws := fun i j hi hj hij => ?_, kn := hk }
    · by_cases e : i = k
      · subst e
        rw [List.getElem?_eq_getElem hk] at hi
        cases hi
        rw [hself]
        exact hDk.mid
      · rw [hsame i e]
        exact hmid i d hi e
    · by_cases e : i = k
      · subst e
        rw [List.getElem?_eq_getElem hk] at hi
        cases hi
        rw [hself]
        exact ⟨hDk, rfl, hB⟩
      · rw [hsame i e]
        obtain ⟨g1, g2, g3⟩ := h.fin i d (by omega) hi
        refine ⟨g1.keep (fun b hb => q3.block b ?_ ?_) (fun m hm => s1 _ (by omega)) (Nat.le_refl _), g2, g3⟩
        · rcases hb with rfl | rfl | hb
          · obtain ⟨_, _, hm2⟩ := g1.fl
            exact hm2.lt
          · exact g1.nw.lt
          · exact (g1.ws.lt b hb).2
        · rcases hb with rfl | rfl | hb
          · obtain ⟨_, _, hm2⟩ := g1.fl
            exact fun e' => hm2.ne h.blk e'.symm
          · exact fun e' => g1.nw.ne h.blk e'.symm
          · exact fun e' => g1.ws.ne_blk h.blk (by decide) (by rw [hb, show b = db from e'])
    · by_cases e : i = k
      · subst e
        rw [hself, hsame j (Ne.symm hij)]
        have hj' : j < ds.length := by omega
        have := ((h.fin j _ (by omega) (List.getElem?_eq_getElem hj')).1).nw.lt
        show w.heap.size ≠ (dv j).nw
        omega
      · rw [hsame i e]
        by_cases e2 : j = k
        · subst e2
          rw [hself]
          have hi' : i < ds.length := by omega
          have := ((h.fin i _ (by omega) (List.getElem?_eq_getElem hi')).1).nw.lt
          show (dv i).nw ≠ w.heap.size
          omega
        · rw [hsame j e2]
          exact h.nws i j (by omega) (by omega) hij
  · by_cases e : i = k
    · subst e
      simp [setV]
    · simp [setV, e]
theorem FinAt.done {B : Nat} {w : World} {db : Nat} {C : Array Value} {ds : List AD} {dv : Nat → DV} {K : Nat} (h : FinAt B w db C ds dv K ds.length) : DisksAt w db C ds dv K where
  blk := h.blk
  size := h.size
  at_ i d hi := (h.fin i d (List.getElem?_eq_some_iff.1 hi).1 hi).1
  apart i j hi hj hij b hb1 hb2 := by
    obtain ⟨_, n1, m1⟩ := h.fin i _ hi (List.getElem?_eq_getElem hi)
    obtain ⟨_, n2, m2⟩ := h.fin j _ hj (List.getElem?_eq_getElem hj)
    have f1 := h.flB i hi
    have f2 := h.flB j hj
    rcases hb1 with rfl | rfl | hb1
    · rcases hb2 with e | e | e
      · exact h.apart i j hi hj hij e
      · omega
      · rw [n2] at e
        cases e
    · rcases hb2 with e | e | e
      · omega
      · exact h.nws i j hi hj hij e
      · rw [n2] at e
        cases e
    · rw [n1] at hb1
      cases hb1
set_option maxHeartbeats 2000000 in
theorem boot_ok {w : World} {p : Nat} {F : Nat → Prop} {s : AP} {K : Nat} (h : PlantAt w p F s K) (a : Option Addr) (len cap : Nat) (zs : List Int) (hz : Ks w F a len zs) (hK : K < 1099511627776) :
    Calls Try.prog 18 #[.pointer (some ⟨p, 0, none⟩), .slice a len cap] w fun e w' => e = .returned (.tuple #[]) ∧ Goes2 w p F w' (s.boot zs) K := by
  obtain ⟨db, cp, C, dv, h1, hD, hF, g1, g2, g3, g4, g5, g6⟩ := id h
  have hdp : db ≠ p := Blk.ne_ hD.blk h1 (by decide)
  have c1 : w.cell? ⟨p, 1, none⟩ = some (.bool s.on) := h1.cell 1
  have c2 : w.cell? ⟨p, 2, none⟩ = some (.int .i64 s.fuse) := h1.cell 2
  have f1 := h1.frozen 1
  have f2 := h1.frozen 2
  have H := Lib.hid h
  have HD := Lib.hid hD
  have H1 := Lib.hid h1
  have HF := Lib.hid hF
  have HZ := Lib.hid hz
  clear h hD h1 hF hz
  go_enter Try.func18, Try.ntmps18
  go_wp2_with fail
  have hb1 : Blk _ p 55 (plantCells db s.ds.length cp true (-1) s.steps) := (H1.out.set_ 1 (.bool true)).set_ 2 (.int .i64 (-1))
  have ht1 : Turn (only p) w _ := ((Turn.refl _ w).at_ 1 (.bool true)).at_ 2 (.int .i64 (-1))
  generalize ((w.setCell ⟨p, 1, none⟩ (.bool true)).setCell ⟨p, 2, none⟩ (.int .i64 (-1))) = w1 at *
  have hD1 : MidsAt w1 db C s.ds dv K := (HD.out.keep (ht1.block _ HD.out.blk.lt hdp) (fun j hj b hb => ht1.block _ (HD.out.lt hj hb) fun e => HD.out.ne hj hb H1.out (by decide) e.symm) (Nat.le_refl _)).mid
  have hTF : Turn F w w1 := ht1.mono fun k _ e => by
    rw [HF.out]
    exact .inl e
  clear c1 c2 f1 f2 ht1
  refine (longest_walk p db cp true (-1) s.steps s.ds C dv K w1 hb1 hD1 g2).mono ?_
  rintro e w2 ⟨rfl, m, rfl⟩
  have htot : total s.ds ≤ 4 * K := by
    refine Nat.le_trans (total_le s.ds K fun d hd => ?_) (Nat.mul_le_mul_right _ g2)
    obtain ⟨i, hi, rfl⟩ := List.mem_iff_getElem.1 hd
    obtain ⟨n1, hn, _⟩ := (HD.out.at_ i _ (List.getElem?_eq_getElem hi)).fl
    omega
  have hTm : Turn F w (w1.drewN m) := hTF.drewN m
  have hbm : Blk (w1.drewN m) p 55 (plantCells db s.ds.length cp true (-1) s.steps) := hb1
  have hDm : MidsAt (w1.drewN m) db C s.ds dv K := hD1.still ((Turn.refl _ _).drewN m)
  generalize w1.drewN m = w2 at *
  clear hb1 hD1 hTF
  go_wp2_with fail
  go_loopg [4, 5] (total s.ds) (fun gk i d wr => ∃ (ds' : List AD) (C' : Array Value) (j : Nat), ds'.length = s.ds.length ∧ MidsAt wr db C' ds' dv K ∧ Blk wr p 55 (plantCells db s.ds.length cp true (-1) s.steps) ∧ Turn F w wr ∧
    i = .int .i64 (j : Int) ∧ d = ptrOf db (pick ds' ds'.length) ∧ total ds' = gk ∧ j + gk = total s.ds ∧ Hid (bootRun (fun i => low2 (kval zs i)) gk j ds' = bootRun (fun i => low2 (kval zs i)) (total s.ds) 0 s.ds))
  case atStart => exact ⟨s.ds, C, 0, rfl, hDm, hbm, hTm, rfl, rfl, rfl, by omega, Lib.hid rfl⟩
  case round =>
    obtain ⟨ds', C', j, hlen, hM, hP, hT, rfl, rfl, hgk, hjk, hrun⟩ := hrel
    clear hDm hbm hTm
    have hj1 : (j : Int) < 4398046511104 := by omega
    have hj0 : (0 : Int) ≤ (j : Int) := by omega
    cases hp : pick ds' ds'.length with
    | some jj =>
      obtain ⟨hjj, hwj⟩ := pick_some ds' _ jj hp
      have hnil : ptrOf db (some jj) = .pointer (some ⟨db, jj * 4, Option.none⟩) := rfl
      rw [hnil]
      clear hnil
      have HP := Lib.hid hp
      have HM := Lib.hid hM
      have HB := Lib.hid hP
      have HT := Lib.hid hT
      have HL := Lib.hid hlen
      clear hp hM hP hT hlen
      obtain ⟨hzl, hzm, hzc⟩ := HZ.out
      by_cases hl : 0 < len
      · obtain ⟨g, off, rfl, hgl, hgF, hgc⟩ := hzc hl
        have hmod : j % len < len := Nat.mod_lt _ hl
        have hcell : wr.cell? ⟨g, off + j % len, none⟩ = some (.int .i64 (zs.getD (j % len) 0)) := by
          rw [HT.out.cell (p := ⟨g, off + j % len, none⟩) hgl hgF]
          exact hgc _ hmod
        have hkv : kval zs j = zs.getD (j % len) 0 := by
          unfold kval
          rw [if_neg (by omega), hzl]
        generalize zs.getD (j % len) 0 = kv at *
        have z1 : (0 : Int) < (len : Int) := by omega
        have z2 : (0 : Int) ≤ ((j % len : Nat) : Int) := by omega
        have z3 : ((j % len : Nat) : Int) < (len : Int) := by omega
        have HK := Lib.hid hkv
        have HZL := Lib.hid hzl
        clear hkv hzc hgc hmod hzl
        go_wp2_with fail
        refine (boot_step HM.out hjj hwj kv (low2 kv) rfl (low2_four kv) hK).mono ?_
        rintro e w3 ⟨rfl, ⟨C3, hM3⟩, ht3, htot3⟩
        have hfl : (dv jj).fl < w.heap.size ∧ F (dv jj).fl ∧ (dv jj).fl ≠ p := by
          have hj3 : jj < s.ds.length := by rw [← HL.out]; exact hjj
          refine ⟨HD.out.lt hj3 (.inl rfl), ?_, ?_⟩
          · rw [HF.out]
            exact .inr (.inr ⟨jj, hj3, .inl rfl⟩)
          · exact fun e => HD.out.ne hj3 (.inl rfl) H1.out (by decide) e.symm
        have hP3 : Blk w3 p 55 (plantCells db s.ds.length cp true (-1) s.steps) := HB.out.turn ht3 (by
          rintro (e | e)
          · exact hdp e.symm
          · exact hfl.2.2 e.symm)
        have hT3 : Turn F w w3 := HT.out.trans ht3 fun k _ e => by
          rcases e with rfl | rfl
          · rw [HF.out]
            exact .inr (.inl rfl)
          · exact hfl.2.1
        have hl3 : (bootOne (low2 kv) jj ds').length = s.ds.length := by rw [bootOne_length]; exact HL.out
        have hru : bootRun (fun i => low2 (kval zs i)) (total (bootOne (low2 kv) jj ds')) (j + 1) (bootOne (low2 kv) jj ds') = bootRun (fun i => low2 (kval zs i)) (total s.ds) 0 s.ds := by
          rw [← hrun.out, ← hgk, htot3, bootRun, HP.out]
          simp only [HK.out]
        have HRU := Lib.hid hru
        have htt : total (bootOne (low2 kv) jj ds') + 1 = gk := by omega
        generalize bootOne (low2 kv) jj ds' = d3 at *
        have HTT := Lib.hid htt
        have HL3 := Lib.hid hl3
        have HM3 := Lib.hid hM3
        have HP3 := Lib.hid hP3
        have HT3 := Lib.hid hT3
        clear hru htt hl3 hM3 hP3 hT3 ht3 htot3 hrun
        have zj : (0 : Int) ≤ (j : Int) + 1 := by omega
        go_wp2_with fail
        refine (longest_walk p db cp true (-1) s.steps d3 C3 dv K w3 (by rw [HL3.out]; exact HP3.out) HM3.out (by rw [HL3.out]; exact g2)).mono ?_
        rintro e w4 ⟨rfl, m4, rfl⟩
        go_wp2
        go_roundg (total d3)
        case measure => have := HTT.out; omega
        case rel => exact ⟨d3, C3, j + 1, HL3.out, HM3.out.still ((Turn.refl _ _).drewN m4), HP3.out, HT3.out.drewN m4, by go_num, rfl, rfl, by have := HTT.out; omega, HRU⟩
      · have hl0 : len = 0 := by omega
        subst hl0
        obtain ⟨kv, hkv0⟩ : ∃ kv : Int, kv = 0 := ⟨0, rfl⟩
        have hkv : kval zs j = kv := by
          unfold kval
          rw [if_pos hzl, hkv0]
        have HK := Lib.hid hkv
        clear hkv hzl hzc hl
        go_wp2_with fail
        rw [← hkv0]
        have HK0 := Lib.hid hkv0
        clear hkv0
        refine (boot_step HM.out hjj hwj kv (low2 kv) rfl (low2_four kv) hK).mono ?_
        rintro e w3 ⟨rfl, ⟨C3, hM3⟩, ht3, htot3⟩
        have hfl : (dv jj).fl < w.heap.size ∧ F (dv jj).fl ∧ (dv jj).fl ≠ p := by
          have hj3 : jj < s.ds.length := by rw [← HL.out]; exact hjj
          refine ⟨HD.out.lt hj3 (.inl rfl), ?_, ?_⟩
          · rw [HF.out]
            exact .inr (.inr ⟨jj, hj3, .inl rfl⟩)
          · exact fun e => HD.out.ne hj3 (.inl rfl) H1.out (by decide) e.symm
        have hP3 : Blk w3 p 55 (plantCells db s.ds.length cp true (-1) s.steps) := HB.out.turn ht3 (by
          rintro (e | e)
          · exact hdp e.symm
          · exact hfl.2.2 e.symm)
        have hT3 : Turn F w w3 := HT.out.trans ht3 fun k _ e => by
          rcases e with rfl | rfl
          · rw [HF.out]
            exact .inr (.inl rfl)
          · exact hfl.2.1
        have hl3 : (bootOne (low2 kv) jj ds').length = s.ds.length := by rw [bootOne_length]; exact HL.out
        have hru : bootRun (fun i => low2 (kval zs i)) (total (bootOne (low2 kv) jj ds')) (j + 1) (bootOne (low2 kv) jj ds') = bootRun (fun i => low2 (kval zs i)) (total s.ds) 0 s.ds := by
          rw [← hrun.out, ← hgk, htot3, bootRun, HP.out]
          simp only [HK.out]
        have HRU := Lib.hid hru
        have htt : total (bootOne (low2 kv) jj ds') + 1 = gk := by omega
        generalize bootOne (low2 kv) jj ds' = d3 at *
        have HTT := Lib.hid htt
        have HL3 := Lib.hid hl3
        have HM3 := Lib.hid hM3
        have HP3 := Lib.hid hP3
        have HT3 := Lib.hid hT3
        clear hru htt hl3 hM3 hP3 hT3 ht3 htot3 hrun
        have zj : (0 : Int) ≤ (j : Int) + 1 := by omega
        go_wp2_with fail
        refine (longest_walk p db cp true (-1) s.steps d3 C3 dv K w3 (by rw [HL3.out]; exact HP3.out) HM3.out (by rw [HL3.out]; exact g2)).mono ?_
        rintro e w4 ⟨rfl, m4, rfl⟩
        go_wp2
        go_roundg (total d3)
        case measure => have := HTT.out; omega
        case rel => exact ⟨d3, C3, j + 1, HL3.out, HM3.out.still ((Turn.refl _ _).drewN m4), HP3.out, HT3.out.drewN m4, by go_num, rfl, rfl, by have := HTT.out; omega, HRU⟩
    | none =>
      have hws := pick_none_ws hp
      have ht0 : total ds' = 0 := total_zero ds' fun d hd => by
        obtain ⟨i, hi, rfl⟩ := List.mem_iff_getElem.1 hd
        exact hws i _ (List.getElem?_eq_getElem hi)
      have hfin : bootRun (fun i => low2 (kval zs i)) (total s.ds) 0 s.ds = ds' := by
        rw [← hrun.out, ← hgk, ht0, bootRun]
      have hF0 : FinAt w.heap.size wr db C' ds' dv K 0 := { blk := hM.blk, size := hM.size, mid := hM.at_, fin := fun i d hi => (by omega), flB := fun i hi => HD.out.lt (by omega) (.inl rfl), apart := hM.apart, nws := fun i j hi => (by omega), kn := Nat.zero_le _ }
      have hnil : ptrOf db (Option.none : Option Nat) = .pointer none := rfl
      rw [hnil]
      clear hnil hp hrun hM ht0 hgk hjk
      have HW := Lib.hid hws
      have HFI := Lib.hid hfin
      have HT := Lib.hid hT
      have HP := Lib.hid hP
      have HL := Lib.hid hlen
      have c0 : wr.cell? ⟨p, 0, none⟩ = some (.slice (some ⟨db, 0, none⟩) s.ds.length cp) := hP.cell 0
      have HF0 := Lib.hid hF0
      clear hws hfin hT hP hF0 hlen
      generalize hnn : s.ds.length = n at *
      have HN := Lib.hid hnn
      clear hnn
      go_wp2_with fail
      go_loopg [40] n (fun gk i wq => ∃ (k : Nat) (Ck : Array Value) (dk : Nat → DV), k + gk = n ∧ i = .int .i64 (k : Int) ∧ FinAt w.heap.size wq db Ck ds' dk K k ∧ (∀ i, (dk i).fl = (dv i).fl) ∧ Blk wq p 55 (plantCells db n cp true (-1) s.steps) ∧ Turn F w wq)
      case atStart => exact ⟨0, C', dv, by omega, rfl, HF0.out, fun _ => rfl, HP.out, HT.out⟩
      case round =>
        obtain ⟨k, Ck, dk, hkn, rfl, hFk, hfl, hPk, hTk⟩ := hrel
        have HFk := Lib.hid hFk
        have Hfl := Lib.hid hfl
        have HPk := Lib.hid hPk
        have HTk := Lib.hid hTk
        have cc := hPk.cell 0
        have c0' : wr.cell? ⟨p, 0, none⟩ = some (.slice (some ⟨db, 0, none⟩) n cp) := cc
        clear hFk hfl hPk hTk c0 cc
        by_cases hlt : k < n
        · have z1 : (0 : Int) ≤ (k : Int) := by omega
          have z2 : (k : Int) < (n : Int) := by omega
          go_wp2_with fail
          refine (forget_step HFk.out (by rw [HL.out]; exact hlt) HW.out HTk.out.size).mono ?_
          rintro e w5 ⟨rfl, ⟨C5, d5, hF5, hfl5⟩, hT5⟩
          have hP5 : Blk w5 p 55 (plantCells db n cp true (-1) s.steps) := HPk.out.turn hT5 (fun e => hdp (e : p = db).symm)
          have hT5' : Turn F w w5 := HTk.out.trans hT5 fun b _ e => by
            rw [HF.out]
            exact .inr (.inl e)
          have HF5 := Lib.hid hF5
          have Hfl5 : Hid (∀ i, (d5 i).fl = (dv i).fl) := Lib.hid fun i => (hfl5 i).trans (Hfl.out i)
          have HP5 := Lib.hid hP5
          have HT5 := Lib.hid hT5'
          clear hF5 hfl5 hP5 hT5 hT5'
          go_wp2
          go_roundg (gk - 1)
          case measure => omega
          case rel => exact ⟨k + 1, C5, d5, by omega, by go_num, HF5.out, Hfl5.out, HP5.out, HT5.out⟩
        · obtain rfl : k = n := by omega
          have hG : Goes2 w p F wr (s.boot zs) K := by
            have hds : (s.boot zs).ds = ds' := HFI.out
            have hle : (s.boot zs).ds.length = k := by rw [hds]; exact HL.out
            have hFd := HFk.out
            rw [← HL.out] at hFd
            refine ⟨PlF p db k dk, ⟨db, cp, Ck, dk, ?_, ?_, ?_, ?_, ?_, ?_, ?_, ?_, ?_⟩, HTk.out, ?_⟩
            · rw [hle]
              exact HPk.out
            · rw [hds]
              exact hFd.done
            · rw [hle]
            · rw [hle]
              exact g1
            · rw [hle]
              exact g2
            · simp only [AP.boot]; omega
            · simp only [AP.boot]; omega
            · exact g5
            · exact g6
            · rintro b (rfl | rfl | ⟨i, hi, hb⟩)
              · left
                rw [HF.out]
                exact .inl rfl
              · left
                rw [HF.out]
                exact .inr (.inl rfl)
              · have hi' : i < ds'.length := by rw [HL.out]; exact hi
                obtain ⟨_, e1, e2⟩ := hFd.fin i _ hi' (List.getElem?_eq_getElem hi')
                rcases hb with rfl | rfl | hb
                · left
                  rw [HF.out, Hfl.out i]
                  exact .inr (.inr ⟨i, hi, .inl rfl⟩)
                · exact .inr e2
                · rw [e1] at hb
                  cases hb
          have HG := Lib.hid hG
          clear hG
          go_wp2
          go_end0
          exact ⟨rfl, HG.out⟩
end Go.Proofs.Yteedjfgandgbkaa

namespace Go.Proofs.Yteedjfgandgbkaa
open Go.RowKit Go.Maps
set_option linter.unusedVariables false
def sizesOk (zs : List Int) : Prop := 1 ≤ zs.length ∧ zs.length ≤ 4 ∧ ∀ z ∈ zs, 1 ≤ z ∧ z ≤ 65536
def AP.new (zs : List Int) : AP := { ds := zs.map fun z => ⟨z, fun _ => none, []⟩, on := true, fuse := -1, steps := 0 }
def dCells (z : Int) (v : DV) : List Value := [.int .i64 z, .map (some v.fl), .map (some v.nw), .slice none 0 0]
def dRow (zs : List Int) (dk : Nat → DV) (k : Nat) : List Value := (List.range k).flatMap fun i => dCells (zs.getD i 0) (dk i)
theorem dRow_length (zs : List Int) (dk : Nat → DV) : ∀ k, (dRow zs dk k).length = k * 4
  | 0 => rfl
  | k + 1 => by
    have h := dRow_length zs dk k
    unfold dRow at h ⊢
    rw [List.range_succ, List.flatMap_append, List.length_append, h]
    simp [dCells]
    omega
theorem dRow_succ (zs : List Int) (dk : Nat → DV) (k : Nat) : dRow zs dk (k + 1) = dRow zs dk k ++ dCells (zs.getD k 0) (dk k) := by
  unfold dRow
  rw [List.range_succ, List.flatMap_append]
  simp
theorem dRow_at (zs : List Int) (dk : Nat → DV) : ∀ k i m, i < k → m < 4 → (dRow zs dk k)[i * 4 + m]? = (dCells (zs.getD i 0) (dk i))[m]?
  | 0, i, m, hi, _ => by omega
  | k + 1, i, m, hi, hm => by
    rw [dRow_succ]
    by_cases e : i = k
    · subst e
      rw [List.getElem?_append_right (by rw [dRow_length]; omega), dRow_length, show i * 4 + m - i * 4 = m from by omega]
    · rw [List.getElem?_append_left (by rw [dRow_length]; omega)]
      exact dRow_at zs dk k i m (by omega) hm
theorem dRow_congr (zs : List Int) (dk dk' : Nat → DV) (k : Nat) (h : ∀ i, i < k → dk' i = dk i) : dRow zs dk' k = dRow zs dk k := by
  unfold dRow
  rw [List.flatMap_def, List.flatMap_def]
  congr 1
  apply List.map_congr_left
  intro i hi
  rw [h i (List.mem_range.1 hi)]
/-- the disks that were made so far -/
structure NewAt (B : Nat) (w : World) (v : Value) (zs : List Int) (dk : Nat → DV) (k : Nat) : Prop where
  row : w.ownsRow B 59 4 v k (dRow zs dk k)
  fl : ∀ i, i < k → MapAt w kI eS (dk i).fl 0 (fun _ => none)
  nw : ∀ i, i < k → MapAt w kI eS (dk i).nw 0 (fun _ => none)
  lo : ∀ i, i < k → B ≤ (dk i).fl ∧ (dk i).fl < (dk i).nw
  up : ∀ i j, i < j → j < k → (dk i).nw < (dk j).fl
  wv : ∀ i, i < k → (dk i).wv = .slice none 0 0
  ok : ∀ i, i < k → 1 ≤ zs.getD i 0 ∧ zs.getD i 0 ≤ 65536
theorem NewAt.keep {B : Nat} {w w' : World} {v v' : Value} {zs : List Int} {dk : Nat → DV} {k : Nat} {F : Nat → Prop} (h : NewAt B w v zs dk k) (hr : w'.ownsRow B 59 4 v' k (dRow zs dk k)) (ht : Turn F w w') (hF : ∀ b n f, F b → ¬ MapAt w kI eS b n f) : NewAt B w' v' zs dk k where
  row := hr
  fl i hi := (h.fl i hi).turn ht fun e => hF _ _ _ e (h.fl i hi)
  nw i hi := (h.nw i hi).turn ht fun e => hF _ _ _ e (h.nw i hi)
  lo := h.lo
  up := h.up
  wv := h.wv
  ok := h.ok
theorem info_disk : (Try.prog.info? 59).map (fun i => (i.zero, i.size, i.bytes)) = some (some (.agg #[.int .i64 0, .map none, .map none, .slice none 0 0]), 4, 48) := by kernel_rfl
/-- what New comes to -/
def NewPost (w : World) (zs : List Int) (e : Ending) (w' : World) : Prop :=
  (sizesOk zs ∧ ∃ p F', e = .returned (.tuple #[.pointer (some ⟨p, 0, none⟩), .int .i64 0]) ∧ PlantAt w' p F' (AP.new zs) 0 ∧ Turn nowhere w w' ∧ ∀ k, F' k → w.heap.size ≤ k) ∨
  (¬ sizesOk zs ∧ e = .returned (.tuple #[.pointer none, .int .i64 30]) ∧ Turn nowhere w w')
theorem new_count {w : World} (a : Option Addr) (len cap : Nat) (zs : List Int) (hz : zs.length = len) (hl : ¬ (1 ≤ len ∧ len ≤ 4)) (hm : len ≤ 9223372036854775807) :
    Calls Try.prog 5 #[.slice a len cap] w (NewPost w zs) := by
  have hn : ¬ sizesOk zs := fun h => hl ⟨by have := h.1; omega, by have := h.2.1; omega⟩
  have Hn := Lib.hid hn
  clear hn hz
  by_cases h0 : len < 1
  · have h1 : (len : Int) < 1 := by omega
    clear hl
    go_enter Try.func5, Try.ntmps5
    go_wp2
    go_ret2
    exact .inr ⟨Hn.out, rfl, Turn.refl _ _⟩
  · have h1 : (4 : Int) < len := by omega
    have h2 : (1 : Int) ≤ len := by omega
    clear hl h0
    go_enter Try.func5, Try.ntmps5
    go_wp2
    go_ret2
    exact .inr ⟨Hn.out, rfl, Turn.refl _ _⟩
theorem build_disk (z : Int) (a b : Nat) (W : World) : (Instr.build 59 #[(0, .int .i64 z), (1, .map (some a)), (2, .map (some b))]).run Try.prog W = .ok (.agg #[.int .i64 z, .map (some a), .map (some b), .slice none 0 0]) W := by
  refine run_build W _ _ _ ?_
  obtain ⟨i0, hi0, hz0, hz1, hz2⟩ := info_parts info_disk
  have hp : (match Try.prog.underlying 59 with | some (.struct fs) => fs.toList.mapM (fun f => (Try.prog.info? f.type).map fun i => (f.offset, i.size)) | _ => none) = some [(0, 1), (1, 1), (2, 1), (3, 1)] := by kernel_rfl
  have hu := Try.underlying59
  rw [hu] at hp
  unfold Program.built
  simp only [hi0, hu, hz0]
  simp only at hp
  rw [hp]
  rfl
theorem size2 (wr : World) : ((wr.alloc (.map #[] 0)).alloc (.map #[] 0)).heap.size = wr.heap.size + 1 + 1 := by simp
theorem len_small {k gk len : Nat} (h : k + gk = len) (h4 : len ≤ 4) : k + 1 ≤ maxLen := by
  unfold maxLen
  omega
theorem base_new {wr : World} {p : Nat} {t : TypeId} {cs : Array Value} (h : Blk wr p t cs) (a b c : Obj) : p ≤ (((wr.alloc a).alloc b).alloc c).heap.size := by
  have := h.lt
  simp
  omega
theorem new_cells (wr : World) (z : Int) : ∀ j u, (dCells z ⟨wr.heap.size, wr.heap.size + 1, .slice none 0 0⟩)[j]? = some u →
    (((wr.alloc (.map #[] 0)).alloc (.map #[] 0)).alloc (.cells #[.int .i64 z, .map (some wr.heap.size), .map (some (wr.heap.size + 1)), .slice none 0 0] 59)).cell? ((⟨wr.heap.size + 1 + 1, 0, none⟩ : Addr).add j) = some u := by
  intro j u hj
  have h := Blk.new ((wr.alloc (.map #[] 0)).alloc (.map #[] 0)) 59 #[.int .i64 z, .map (some wr.heap.size), .map (some (wr.heap.size + 1)), .slice none 0 0]
  have e : ((wr.alloc (.map #[] 0)).alloc (.map #[] 0)).heap.size = wr.heap.size + 1 + 1 := by simp
  rw [e] at h
  rw [add_nat, Nat.zero_add, h.cell]
  simpa [dCells] using hj
theorem row_form {w : World} {B : Nat} {e : TypeId} {sz n : Nat} {v : Value} {xs : List Value} (h : w.ownsRow B e sz v n xs) : ∃ A n' c, v = .slice A n' c := by
  rcases h.2 with ⟨rfl, _⟩ | ⟨g, cap, cur, rfl, _⟩
  · exact ⟨_, _, _, rfl⟩
  · exact ⟨_, _, _, rfl⟩
theorem row_ne {w : World} {B : Nat} {e : TypeId} {sz n g : Nat} {v : Value} {xs : List Value} {t : TypeId} {cs : Array Value} (h : w.ownsRow B e sz v n xs) (hg : Blk w g t cs) (ht : t ≠ e) : some g ≠ v.ownBlock := by
  intro hb
  rcases h.2 with ⟨rfl, _⟩ | ⟨g', cap, cur, rfl, _, h4, _⟩
  · cases hb
  · injection hb with hb
    have hb' : g = g' := hb
    subst hb'
    exact Blk.ne_ hg (g' := g) (cs' := cur) h4 ht rfl
theorem newP {wr w5 : World} {p : Nat} {A : Option Addr} {n' c' : Nat} {cs : Array Value} {z : Int} {xs : List Value} {k : Nat}
    (hg : (((wr.alloc (.map #[] 0)).alloc (.map #[] 0)).alloc (.cells #[.int .i64 z, .map (some wr.heap.size), .map (some (wr.heap.size + 1)), .slice none 0 0] 59)).grownBy w5 (Value.slice A n' c').ownBlock)
    (hP : Blk wr p 55 cs) (hr : wr.ownsRow p 59 4 (.slice A n' c') k xs) : Blk w5 p 55 cs ∧ Turn (fun b => some b = (Value.slice A n' c').ownBlock) wr w5 :=
  ⟨(((hP.alloc _).alloc _).alloc _).grown hg (row_ne hr hP (by decide)), ((((Turn.refl _ _).alloc _).alloc _).alloc _).grown hg fun _ e _ => e.symm⟩
theorem row_keep {w w' : World} {B : Nat} {e : TypeId} {sz n : Nat} {v : Value} {xs : List Value} (h : w.ownsRow B e sz v n xs) (hk : ∀ g, v.ownBlock = some g → w'.heap[g]? = w.heap[g]?) : w'.ownsRow B e sz v n xs := by
  refine ⟨h.1, ?_⟩
  rcases h.2 with h2 | ⟨g, cap, cur, rfl, h3, h4, h5⟩
  · exact .inl h2
  · exact .inr ⟨g, cap, cur, rfl, h3, (hk g rfl).trans h4, h5⟩
theorem new_step {wr w5 : World} {p : Nat} {v v5 : Value} {z : Int} {zs : List Int} {dk : Nat → DV} {k : Nat} {cs : Array Value} (hN : NewAt p wr v zs dk k) (hP : Blk wr p 55 cs)
    (hg : (((wr.alloc (.map #[] 0)).alloc (.map #[] 0)).alloc (.cells #[.int .i64 z, .map (some wr.heap.size), .map (some (wr.heap.size + 1)), .slice none 0 0] 59)).grownBy w5 v.ownBlock)
    (hr : w5.ownsRow p 59 4 v5 (k + 1) (dRow zs dk k ++ dCells z ⟨wr.heap.size, wr.heap.size + 1, .slice none 0 0⟩)) (hz : zs.getD k 0 = z) (h1 : 1 ≤ z) (h2 : z ≤ 65536) (hP5 : Blk w5 p 55 cs) :
    NewAt p (w5.setCell ⟨p, 0, none⟩ v5) v5 zs (setV dk k ⟨wr.heap.size, wr.heap.size + 1, .slice none 0 0⟩) (k + 1) := by
  have hself : setV dk k ⟨wr.heap.size, wr.heap.size + 1, .slice none 0 0⟩ k = ⟨wr.heap.size, wr.heap.size + 1, .slice none 0 0⟩ := by simp [setV]
  have hold : ∀ i, i < k → setV dk k ⟨wr.heap.size, wr.heap.size + 1, .slice none 0 0⟩ i = dk i := fun i hi => by simp [setV, Nat.ne_of_lt hi]
  have hpl := hP.lt
  have hmap : ∀ {b n : Nat} {f : Int → Option Sec}, MapAt (((wr.alloc (.map #[] 0)).alloc (.map #[] 0)).alloc (.cells #[.int .i64 z, .map (some wr.heap.size), .map (some (wr.heap.size + 1)), .slice none 0 0] 59)) kI eS b n f → MapAt (w5.setCell ⟨p, 0, none⟩ v5) kI eS b n f := fun {b n f} hm => by
    have h5 : MapAt w5 kI eS b n f := hm.grown hg (fun e => by
      rcases hN.row.2 with ⟨rfl, _⟩ | ⟨g', cap, cur, rfl, _, h4, _⟩
      · cases e
      · injection e with e
        have e' : b = g' := e
        have hb4 : Blk wr g' 59 cur := h4
        exact hm.ne (((hb4.alloc _).alloc _).alloc _) e'.symm)
    exact h5.setCell (p := ⟨p, 0, none⟩) (fun e => h5.ne hP5 e.symm) v5
  have hnew1 : MapAt (w5.setCell ⟨p, 0, none⟩ v5) kI eS wr.heap.size 0 (fun _ => none) := hmap (((MapAt.made kI eS wr).alloc _).alloc _)
  have hnew2 : MapAt (w5.setCell ⟨p, 0, none⟩ v5) kI eS (wr.heap.size + 1) 0 (fun _ => none) := hmap (by
    have := (MapAt.made kI eS (wr.alloc (.map #[] 0))).alloc (.cells #[.int .i64 z, .map (some wr.heap.size), .map (some (wr.heap.size + 1)), .slice none 0 0] 59)
    rwa [show (wr.alloc (.map #[] 0)).heap.size = wr.heap.size + 1 from by simp] at this)
  refine { row := ?_, fl := fun i hi => ?_, nw := fun i hi => ?_, lo := fun i hi => ?_, up := fun i j hij hj => ?_, wv := fun i hi => ?_, ok := fun i hi => ?_ }
  · rw [dRow_succ, dRow_congr zs dk _ k hold, hself, hz]
    exact row_keep hr fun g hgg => heap_setCell_other _ _ _ _ (fun e => row_ne hr hP5 (by decide) (by rw [hgg, show g = p from e]))
  · by_cases e : i = k
    · subst e
      rw [hself]
      exact hnew1
    · rw [hold i (by omega)]
      exact hmap ((((hN.fl i (by omega)).alloc _).alloc _).alloc _)
  · by_cases e : i = k
    · subst e
      rw [hself]
      exact hnew2
    · rw [hold i (by omega)]
      exact hmap ((((hN.nw i (by omega)).alloc _).alloc _).alloc _)
  · by_cases e : i = k
    · subst e
      rw [hself]
      exact ⟨by show p ≤ wr.heap.size; omega, by show wr.heap.size < wr.heap.size + 1; omega⟩
    · rw [hold i (by omega)]
      exact hN.lo i (by omega)
  · by_cases e : j = k
    · subst e
      rw [hold i hij, hself]
      exact (hN.nw i hij).lt
    · rw [hold i (by omega), hold j (by omega)]
      exact hN.up i j hij (by omega)
  · by_cases e : i = k
    · subst e
      rw [hself]
    · rw [hold i (by omega)]
      exact hN.wv i (by omega)
  · by_cases e : i = k
    · subst e
      rw [hz]
      exact ⟨h1, h2⟩
    · exact hN.ok i (by omega)
theorem new_done {w wr : World} {p : Nat} {v : Value} {zs : List Int} {dk : Nat → DV} {k : Nat} (hN : NewAt p wr v zs dk k) (hP : Blk wr p 55 #[v, .bool true, .int .i64 (-1), .int .i64 0]) (hl : zs.length = k) (h1 : 1 ≤ k) (h4 : k ≤ 4) (hp : w.heap.size = p) :
    ∃ F', PlantAt wr p F' (AP.new zs) 0 ∧ ∀ b, F' b → w.heap.size ≤ b := by
  rcases hN.row.2 with ⟨_, h0⟩ | ⟨db, cap, cur, rfl, hB, hb, hn, hm, hs, ht⟩
  · omega
  · have hlen : (AP.new zs).ds.length = k := by simp [AP.new, hl]
    have hcur : ∀ i m, i < k → m < 4 → cur[i * 4 + m]? = (dCells (zs.getD i 0) (dk i))[m]? := fun i m hi hm' => by
      rw [← dRow_at zs dk k i m hi hm', ← ht, List.getElem?_take, if_pos (by omega), Array.getElem?_toList]
    have hb' : Blk wr db 59 cur := hb
    have hlt : ∀ i, i < k → (dk i).fl < (dk i).nw ∧ p ≤ (dk i).fl := fun i hi => ⟨(hN.lo i hi).2, (hN.lo i hi).1⟩
    refine ⟨PlF p db k dk, ⟨db, cap, cur, dk, ?_, ?_, ?_, ?_, ?_, ?_, ?_, ?_, ?_⟩, ?_⟩
    · rw [hlen]
      exact hP
    · refine ⟨hb', by rw [hlen, hs]; exact Nat.mul_le_mul_right _ hn, fun i d hi => ?_, fun i j hi hj hij b hb1 hb2 => ?_⟩
      · have hil := (List.getElem?_eq_some_iff.1 hi).1
        rw [hlen] at hil
        have hd : d = ⟨zs.getD i 0, fun _ => none, []⟩ := by
          simp only [AP.new, List.getElem?_map] at hi
          rw [List.getElem?_eq_getElem (by omega)] at hi
          simp only [Option.map_some, Option.some.injEq] at hi
          rw [← hi, List.getD_eq_getElem?_getD, List.getElem?_eq_getElem (by omega)]
          rfl
        subst hd
        exact { c0 := hcur i 0 hil (by omega), c1 := hcur i 1 hil (by omega), c2 := hcur i 2 hil (by omega), c3 := by rw [hN.wv i hil]; exact hcur i 3 hil (by omega), ne := Nat.ne_of_lt (hlt i hil).1, fl := ⟨0, Nat.le_refl _, hN.fl i hil⟩, nw := hN.nw i hil, ws := by rw [hN.wv i hil]; exact World.ownsRow_nil wr 0 _ _, wf := (fun x hx => by cases hx), n0 := hN.ok i hil }
      · rw [hlen] at hi hj
        have w1 := hN.wv i hi
        have w2 := hN.wv j hj
        have l1 := (hlt i hi).1
        have l2 := (hlt j hj).1
        have ho : (dk i).nw < (dk j).fl ∨ (dk j).nw < (dk i).fl := by
          rcases Nat.lt_or_gt_of_ne hij with h | h
          · exact .inl (hN.up i j h hj)
          · exact .inr (hN.up j i h hi)
        have hb1' : b = (dk i).fl ∨ b = (dk i).nw := by
          rcases hb1 with e | e | e
          · exact .inl e
          · exact .inr e
          · rw [w1] at e
            cases e
        have hb2' : b = (dk j).fl ∨ b = (dk j).nw := by
          rcases hb2 with e | e | e
          · exact .inl e
          · exact .inr e
          · rw [w2] at e
            cases e
        omega
    · rw [hlen]
    · rw [hlen]
      exact h1
    · rw [hlen]
      exact h4
    · simp only [AP.new]; omega
    · simp only [AP.new]; omega
    · simp only [AP.new]; omega
    · simp only [AP.new]; omega
    · rintro b (rfl | rfl | ⟨i, hi, hbb⟩)
      · omega
      · omega
      · have l1 := hlt i hi
        have w1 := hN.wv i hi
        rcases hbb with e | e | e
        · omega
        · omega
        · rw [w1] at e
          cases e
set_option maxHeartbeats 2000000 in
theorem new_walk {w : World} (a : Option Addr) (len cap : Nat) (zs : List Int) (hz : Ks w nowhere a len zs) (h1 : 1 ≤ len) (h4 : len ≤ 4) :
    Calls Try.prog 5 #[.slice a len cap] w (NewPost w zs) := by
  obtain ⟨i0, hi0, hz0, hz1, hz2⟩ := info_parts info_disk
  obtain ⟨hzl, _, hzc⟩ := hz
  obtain ⟨g, off, rfl, hgl, _, hgc⟩ := hzc (by omega)
  have z1 : (1 : Int) ≤ (len : Int) := by omega
  have z4 : (len : Int) ≤ 4 := by omega
  have HC := Lib.hid hgc
  have HL := Lib.hid hzl
  clear hgc hzc hzl
  have hmm := @run_makeMap Try.prog
  go_enter Try.func5, Try.ntmps5
  go_wp2_with fail
  have hP := Blk.new w 55 #[.slice none 0 0, .bool true, .int .i64 (-1), .int .i64 0]
  have hT : Turn nowhere w _ := (Turn.refl _ w).alloc (.cells #[.slice none 0 0, .bool true, .int .i64 (-1), .int .i64 0] 55)
  generalize (w.alloc (.cells #[.slice none 0 0, .bool true, .int .i64 (-1), .int .i64 0] 55)) = w1 at *
  have hw : w.heap.size ≤ w.heap.size := Nat.le_refl _
  generalize hPP : w.heap.size = p at hP ⊢
  have HPP := Lib.hid hPP
  clear hPP hw
  have HT := Lib.hid hT
  clear hT
  have hN0 : NewAt p w1 (.slice none 0 0) zs (fun _ => ⟨0, 0, .slice none 0 0⟩) 0 := { row := World.ownsRow_nil w1 p _ _, fl := fun i hi => (by omega), nw := fun i hi => (by omega), lo := fun i hi => (by omega), up := fun i j _ hi => (by omega), wv := fun i hi => (by omega), ok := fun i hi => (by omega) }
  go_loopg [19] len (fun gk i wr => ∃ (k : Nat) (v : Value) (dk : Nat → DV), k + gk = len ∧ i = .int .i64 (k : Int) ∧ NewAt p wr v zs dk k ∧ Blk wr p 55 #[v, .bool true, .int .i64 (-1), .int .i64 0] ∧ Turn nowhere w wr)
  case atStart => exact ⟨0, _, _, by omega, rfl, hN0, hP, HT.out⟩
  case round =>
    obtain ⟨k, v, dk, hkl, rfl, hN, hPr, hTr⟩ := hrel
    have HN := Lib.hid hN
    have HTr := Lib.hid hTr
    have c0 : wr.cell? ⟨p, 0, none⟩ = some v := hPr.cell 0
    have f0 := hPr.frozen 0
    have HPr := Lib.hid hPr
    clear hN hTr hPr hN0 hP
    by_cases hlt : k < len
    · have hcell : wr.cell? ⟨g, off + k, none⟩ = some (.int .i64 (zs.getD k 0)) := by
        rw [HTr.out.cell (p := ⟨g, off + k, none⟩) hgl (fun e => e)]
        exact HC.out k hlt
      have y1 : (0 : Int) ≤ (k : Int) := by omega
      have y2 : (k : Int) < (len : Int) := by omega
      have hmem : zs.getD k 0 ∈ zs := by
        rw [List.getD_eq_getElem?_getD, List.getElem?_eq_getElem (by rw [HL.out]; exact hlt)]
        exact List.getElem_mem _
      generalize hzk : zs.getD k 0 = z at *
      have HZ := Lib.hid hzk
      clear hzk
      by_cases b1 : z < 1
      · have hn : ¬ sizesOk zs := fun h => by have := h.2.2 z hmem; omega
        have Hn := Lib.hid hn
        clear hn hmem
        go_wp2
        go_ret2
        exact .inr ⟨Hn.out, rfl, HTr.out⟩
      · by_cases b2 : 65536 < z
        · have hn : ¬ sizesOk zs := fun h => by have := h.2.2 z hmem; omega
          have Hn := Lib.hid hn
          have b1 : 1 ≤ z := by omega
          clear hn hmem
          go_wp2
          go_ret2
          exact .inr ⟨Hn.out, rfl, HTr.out⟩
        · have b1 : 1 ≤ z := by omega
          have b2 : z ≤ 65536 := by omega
          obtain ⟨A, n', c', rfl⟩ : ∃ A n' c', v = .slice A n' c' := by
            rcases HN.out.row.2 with ⟨h2, _⟩ | ⟨g, cp, cur, h2, _⟩
            · exact ⟨_, _, _, h2⟩
            · exact ⟨_, _, _, h2⟩
          go_upto_region 9 with (fail)
          refine wp_region_lit ?_
          refine wpList_run (v := .pointer (some ⟨p, 0, none⟩)) rfl (exec_move rfl rfl) ?_
          simp only [Act.put, List.setIfInBounds_toArray, List.set_cons_zero, List.set_cons_succ]
          refine wpList_run (v := .pointer (some ⟨p, 0, none⟩)) rfl (exec_move rfl rfl) ?_
          simp only [Act.put, List.setIfInBounds_toArray, List.set_cons_zero, List.set_cons_succ]
          refine wpList_run (v := .pointer (some ⟨p, 0, none⟩)) rfl (exec_nil rfl rfl) ?_
          simp only [Act.put, List.setIfInBounds_toArray, List.set_cons_zero, List.set_cons_succ]
          refine wpList_run (v := .pointer (some ⟨p, 0, none⟩)) rfl (exec_field (off := 0) (d := 0) rfl rfl (by kernel_rfl)) ?_
          simp only [Act.put, List.setIfInBounds_toArray, List.set_cons_zero, List.set_cons_succ]
          refine wpList_run (v := .slice A n' c') rfl (exec_load1 rfl rfl (by kernel_rfl) c0) ?_
          simp only [Act.put, List.setIfInBounds_toArray, List.set_cons_zero, List.set_cons_succ]
          refine wpList_run (v := .int .i64 z) rfl (exec_move rfl rfl) ?_
          simp only [Act.put, List.setIfInBounds_toArray, List.set_cons_zero, List.set_cons_succ]
          refine wpList_run (v := _) rfl (exec_makeMap rfl) ?_
          simp only [Act.put, List.setIfInBounds_toArray, List.set_cons_zero, List.set_cons_succ]
          refine wpList_run (v := _) rfl (exec_makeMap rfl) ?_
          simp only [Act.put, List.setIfInBounds_toArray, List.set_cons_zero, List.set_cons_succ]
          refine wpList_run (v := .agg #[.int .i64 z, .map (some wr.heap.size), .map (some (wr.alloc (.map #[] 0)).heap.size), .slice none 0 0]) rfl (exec_build3 rfl rfl rfl rfl (build_disk z _ _ _)) ?_
          simp only [Act.put, List.setIfInBounds_toArray, List.set_cons_zero, List.set_cons_succ]
          refine wpList_run (v := _) rfl (exec_buildSlice1 rfl rfl (run_buildSlice_one (v := .agg #[.int .i64 z, .map (some wr.heap.size), .map (some (wr.alloc (.map #[] 0)).heap.size), .slice none 0 0]) Try.underlying53 hi0 hz0 (by rw [hz1]; rfl) (by rw [hz1]; rfl) (by omega) (by omega) _)) ?_
          simp only [Act.put, List.setIfInBounds_toArray, List.set_cons_zero, List.set_cons_succ]
          have hz : (wr.alloc (.map #[] 0)).heap.size = wr.heap.size + 1 := by simp
          simp only [hz, size2 wr, Value.cells]
          obtain ⟨v5, w5, hrun, hown5, hg5, _, hat5⟩ := run_append_own_at (P := Try.prog) (((wr.alloc (.map #[] 0)).alloc (.map #[] 0)).alloc (.cells #[.int .i64 z, .map (some wr.heap.size), .map (some (wr.heap.size + 1)), .slice none 0 0] 59)) p 53 53 59 i0 _ 4 48 Try.underlying53 hi0 hz0 hz1 hz2
            rfl (by omega) (.slice A n' c') k _ (((HN.out.row.alloc _).alloc _).alloc _) ⟨wr.heap.size + 1 + 1, 0, none⟩ 1 1 (dCells z ⟨wr.heap.size, wr.heap.size + 1, .slice none 0 0⟩) rfl (new_cells wr z) (by simp [dCells, Value.oneCell']) (by unfold maxLen; omega) (by omega) (by have := HPr.out.lt; simp; omega)
          refine wpList_run (v := v5) rfl (exec_append rfl rfl rfl hrun) ?_
          simp only [Act.put, List.setIfInBounds_toArray, List.set_cons_zero, List.set_cons_succ]
          obtain ⟨A5, n5, c5, rfl⟩ := row_form hown5
          have hP5 := newP hg5 HPr.out HN.out.row
          have c05 := hP5.1.cell 0
          have c05' : w5.cell? ⟨p, 0, none⟩ = some (.slice A n' c') := c05
          have f05 := hP5.1.frozen 0
          have HG5 := Lib.hid hg5
          have HO5 := Lib.hid hown5
          have HP5 := Lib.hid hP5
          clear hg5 hown5 hP5 hat5 hrun hz c05
          go_wp2_with fail
          go_roundg (gk - 1)
          case measure => omega
          case rel =>
            refine ⟨k + 1, _, _, by omega, by go_num, new_step HN.out HPr.out HG5.out HO5.out HZ.out b1 b2 HP5.out.1, HP5.out.1.set_ 0 _, ?_⟩
            refine (HTr.out.trans HP5.out.2 fun b hb e => ?_).setCell (p := ⟨p, 0, none⟩) (fun hb => by have := HPP.out; exact (by simp at hb; omega : False).elim) _
            have hlo := (HN.out.row.lt b e.symm).1
            have := HPP.out
            omega
    · obtain rfl : k = len := by omega
      have hall : sizesOk zs := ⟨by rw [HL.out]; exact h1, by rw [HL.out]; exact h4, fun z hz => by
        obtain ⟨i, hi, rfl⟩ := List.mem_iff_getElem.1 hz
        have := HN.out.ok i (by rw [← HL.out]; exact hi)
        rwa [List.getD_eq_getElem?_getD, List.getElem?_eq_getElem hi] at this⟩
      have HA := Lib.hid hall
      have HE := Lib.hid (new_done HN.out HPr.out HL.out h1 h4 HPP.out)
      clear hall
      go_wp2
      go_ret2
      obtain ⟨F', q1, q2⟩ := HE.out
      exact .inl ⟨HA.out, p, F', rfl, q1, HTr.out, q2⟩
end Go.Proofs.Yteedjfgandgbkaa

namespace Go.Proofs.Yteedjfgandgbkaa
open Go.RowKit Go.Maps
set_option linter.unusedVariables false
theorem byteInfo : (Try.prog.info? 5).map (fun i => (i.zero, i.size, i.bytes)) = some (some (.int .u8 0), 1, 1) := by kernel_rfl
def fullB (c : UInt8) (k : Nat) : List UInt8 := List.replicate k c ++ List.replicate (64 - k) 0
theorem fullB_len (c : UInt8) (k : Nat) (h : k ≤ 64) : (fullB c k).length = 64 := by simp [fullB]; omega
theorem fullB_set (c : UInt8) (k : Nat) (h : k < 64) : (fullB c k).set k c = fullB c (k + 1) := by
  unfold fullB
  rw [List.set_append_right _ _ (by simp), List.length_replicate, Nat.sub_self, show 64 - k = (64 - (k + 1)) + 1 from by omega, List.replicate_succ, List.set_cons_zero, List.replicate_succ']
  simp
def fullS (c : UInt8) : Sec := ⟨List.replicate 64 c, by simp⟩
set_option maxHeartbeats 1000000 in
theorem full_walk (c : UInt8) (w : World) : Calls Try.prog 21 #[.int .u8 (c.toNat : Int)] w fun e w' =>
    ∃ g, e = .returned (.slice (some ⟨g, 0, none⟩) 64 64) ∧ w.heap.size ≤ g ∧ Blk w' g 5 (bcs (fullS c).1).toArray ∧ Turn nowhere w w' := by
  have hc : (c.toNat : Int) < 256 := by have : c.toNat < 256 := c.toNat_lt; omega
  have hmk : ∀ W : World, (Instr.makeSlice 36 (.int .i64 64) (.int .i64 64)).run Try.prog W = .ok (.slice (some ⟨W.heap.size, 0, none⟩) 64 64) (W.alloc (.cells (bcs (fullB c 0)).toArray 5)) := fun W => by kernel_rfl
  go_enter Try.func21, Try.ntmps21
  go_wp2_with fail
  have hB := Blk.new w 5 (bcs (fullB c 0)).toArray
  have hT : Turn nowhere w _ := (Turn.refl _ w).alloc (.cells (bcs (fullB c 0)).toArray 5)
  generalize (w.alloc (.cells (bcs (fullB c 0)).toArray 5)) = w1 at *
  generalize hg : w.heap.size = g at *
  have HG := Lib.hid hg
  clear hg hmk
  go_loopg [4] 64 (fun gk i wr => ∃ k : Nat, k + gk = 64 ∧ i = .int .i64 (k : Int) ∧ Blk wr g 5 (bcs (fullB c k)).toArray ∧ Turn nowhere w wr)
  case atStart => exact ⟨0, rfl, rfl, hB, hT⟩
  case round =>
    obtain ⟨k, hk, rfl, hBk, hTk⟩ := hrel
    clear hB hT
    have HB := Lib.hid hBk
    have HT := Lib.hid hTk
    by_cases hlt : k < 64
    · have hcell : wr.cell? ⟨g, k, none⟩ = some (.int .u8 (((fullB c k).getD k 0).toNat : Int)) := by
        rw [hBk.cell]
        have := bcs_at (fullB c k) k (by rw [fullB_len c k (by omega)]; exact hlt)
        simpa using this
      have hf := hBk.frozen k
      clear hBk hTk
      have z1 : (0 : Int) ≤ (k : Int) := by omega
      have z2 : (k : Int) < 64 := by omega
      go_wp2
      go_roundg (gk - 1)
      case measure => omega
      case rel =>
        refine ⟨k + 1, by omega, by go_num, ?_, HT.out.setCell (p := ⟨g, k, none⟩) (fun hb => by have := HG.out; exact (by simp at hb; omega : False).elim) _⟩
        have := HB.out.set_ k (.int .u8 (c.toNat : Int))
        rwa [show (bcs (fullB c k)).toArray.setIfInBounds k (.int .u8 (c.toNat : Int)) = (bcs (fullB c (k + 1))).toArray from by
          rw [← fullB_set c k hlt]
          unfold bcs
          apply Array.ext'
          simp [List.map_set]] at this
    · obtain rfl : k = 64 := by omega
      clear hBk hTk
      go_wp2
      go_ret
      refine ⟨g, rfl, by rw [HG.out]; exact Nat.le_refl _, ?_, HT.out⟩
      have h := HB.out
      have e : fullB c 64 = (fullS c).1 := by simp [fullB, fullS]
      rwa [e] at h
end Go.Proofs.Yteedjfgandgbkaa

namespace Go.Proofs.Yteedjfgandgbkaa
open Go.RowKit Go.Maps
set_option linter.unusedVariables false
/-- bytes as a string's value -/
def strV (l : List UInt8) : Value := .string ⟨l.toArray⟩
section
variable {a : Act} {o : Oper} {W : World}
theorem exec_str {x : Operand} {b off n c : Nat} {l : List UInt8} (ho : o.op = .convert 36 9 x) (hx : a.eval x = .slice (some ⟨b, off, none⟩) n c) (hl : l.length = n) (hr : W.rangeAt b off (bcs l)) : (execOp a.eval o).run Try.prog W = .ok (.value (strV l)) W := by
  subst hl
  have h := run_convert_bytes_back (P := Try.prog) W 36 9 5 ⟨b, off, none⟩ c l Try.underlying36 Try.underlying5 Try.underlying9 (fun j hj => by
    rw [add_nat]
    refine hr j _ ?_
    rw [bcs_at l j hj, List.getD_eq_getElem?_getD, List.getElem?_eq_getElem hj]
    rfl)
  unfold execOp
  simp only [ho, hx, h, Sem.run_bind, Sem.run_pure, Result.andThen_ok, strV]
theorem exec_nilstr {x : Operand} {c : Nat} (ho : o.op = .convert 36 9 x) (hx : a.eval x = .slice none 0 c) : (execOp a.eval o).run Try.prog W = .ok (.value (strV [])) W := by
  have h := run_convert_bytes_string (P := Try.prog) W 36 9 5 none 0 c Try.underlying36 Try.underlying5 Try.underlying9
  unfold execOp
  simp only [ho, hx, h, Sem.run_bind]
  rfl
theorem exec_sadd {x y : Operand} {l m : List UInt8} {t u : TypeId} (ho : o.op = .binOp .add t x y u) (hx : a.eval x = strV l) (hy : a.eval y = strV m) (hs : l.length + m.length ≤ 1000000) : (execOp a.eval o).run Try.prog W = .ok (.value (strV (l ++ m))) W := by
  have h := run_string_add_lists (P := Try.prog) W l m (by omega) (by omega)
  unfold execOp
  simp [ho, hx, hy, strV, eqGuard, binOp, h]
theorem exec_seql {x y : Operand} {l m : List UInt8} {t u : TypeId} (ho : o.op = .binOp .eql t x y u) (hx : a.eval x = strV l) (hy : a.eval y = strV m) : (execOp a.eval o).run Try.prog W = .ok (.value (.bool (l == m))) W := by
  unfold execOp
  simp [ho, hx, hy, strV, eqGuard, binOp_string_eql]
end
end Go.Proofs.Yteedjfgandgbkaa

namespace Go.Proofs.Yteedjfgandgbkaa
open Go.RowKit Go.Maps
set_option linter.unusedVariables false
structure St (w0 : World) (L : Nat → Prop) (w : World) (p : Nat) (s : AP) (K : Nat) : Prop where
  pl : ∃ F, PlantAt w p F s K ∧ ∀ k, F k → ¬ L k
  lt : ∀ k, L k → k < w.heap.size
  lo : ∀ k, k < w0.heap.size → L k
  tr : Turn nowhere w0 w
def kept (L : Nat → Prop) : Nat → Prop := fun k => ¬ L k
section
variable {w0 w w' : World} {L : Nat → Prop} {p K : Nat} {s : AP}
theorem St.goes (h : St w0 L w p s K) {F : Nat → Prop} (hF : ∀ k, F k → ¬ L k) {s' : AP} {K' : Nat} (hg : Goes2 w p F w' s' K') : St w0 L w' p s' K' ∧ Turn (kept L) w w' := by
  obtain ⟨F', h1, h2, h3⟩ := hg
  refine ⟨⟨⟨F', h1, fun k hk => ?_⟩, fun k hk => Nat.lt_of_lt_of_le (h.lt k hk) h2.size, h.lo, h.tr.trans h2 fun k hk hf => hF k hf (h.lo k hk)⟩, h2.mono fun k _ hf => hF k hf⟩
  rcases h3 k hk with h4 | h4
  · exact hF k h4
  · intro h5
    have := h.lt k h5
    omega
theorem St.still (h : St w0 L w p s K) (ht : Turn nowhere w w') : St w0 L w' p s K := by
  obtain ⟨F, hp, hF⟩ := h.pl
  exact ⟨⟨F, hp.turn ht (fun _ _ e => e), hF⟩, fun k hk => Nat.lt_of_lt_of_le (h.lt k hk) ht.size, h.lo, h.tr.trans ht (fun _ _ e => e)⟩
/-- one more block is kept -/
theorem St.keep (h : St w0 L w p s K) (ht : Turn nowhere w w') {g : Nat} (hg : w.heap.size ≤ g) (hg' : g < w'.heap.size) : St w0 (fun k => L k ∨ k = g) w' p s K := by
  have h' := h.still ht
  obtain ⟨F, hp, hF⟩ := h.pl
  refine ⟨⟨F, hp.turn ht (fun _ _ e => e), fun k hk hl => ?_⟩, fun k hk => ?_, fun k hk => .inl (h.lo k hk), h'.tr⟩
  · rcases hl with hl | rfl
    · exact hF k hk hl
    · have := hp.lt hk
      omega
  · rcases hk with hk | rfl
    · exact h'.lt k hk
    · exact hg'
theorem blk_kept {g : Nat} {t : TypeId} {cs : Array Value} (h : Blk w g t cs) (ht : Turn (kept L) w w') (hg : L g) : Blk w' g t cs := h.turn ht fun e => e hg
theorem bs_blk {g : Nat} {t : TypeId} {l : List UInt8} {n : Nat} (h : Blk w g t (bcs l).toArray) (hn : l.length = n) (hm : n ≤ maxLen) : Bs w (some ⟨g, 0, none⟩) n l :=
  ⟨hn, hm, fun _ => ⟨g, 0, rfl, fun i hi => by
    rw [h.cell]
    have := bcs_at l i (by omega)
    simpa using this⟩⟩
def intsC (zs : List Int) : Array Value := (zs.map fun z => Value.int .i64 z).toArray
theorem ks_blk {F : Nat → Prop} {g : Nat} {t : TypeId} {zs : List Int} {n : Nat} (h : Blk w g t (intsC zs)) (hn : zs.length = n) (hm : n ≤ 100) (hF : ¬ F g) : Ks w F (some ⟨g, 0, none⟩) n zs :=
  ⟨hn, by omega, fun _ => ⟨g, 0, rfl, h.lt, hF, fun i hi => by
    rw [h.cell, Nat.zero_add]
    simp [intsC, List.getD_eq_getElem?_getD, List.getElem?_eq_getElem (show i < zs.length from by omega)]⟩⟩
theorem range_blk {g : Nat} {t : TypeId} {l : List UInt8} (h : Blk w g t (bcs l).toArray) : w.rangeAt g 0 (bcs l) := fun j v hv => by
  rw [h.cell, Nat.zero_add]
  simpa using hv
theorem st_new {g : Nat} {t : TypeId} {zs : List Int} {n : Nat} (hb : Blk w g t (intsC zs)) (hn : zs.length = n) (hz : sizesOk zs) (h0 : Turn nowhere w0 w) :
    Calls Try.prog 5 #[.slice (some ⟨g, 0, none⟩) n n] w fun e w' => ∃ p, e = .returned (.tuple #[.pointer (some ⟨p, 0, none⟩), .int .i64 0]) ∧ St w0 (fun k => k < w0.heap.size) w' p (AP.new zs) 0 ∧ Turn nowhere w w' := by
  have h1 := hz.1
  have h4 := hz.2.1
  refine (new_walk _ n n zs (ks_blk hb hn (by omega) (fun e => e)) (by omega) (by omega)).mono fun e w' hp => ?_
  rcases hp with ⟨_, p, F', he, hP, ht, hF⟩ | ⟨hn, _⟩
  · have h0s := h0.size
    have hts := ht.size
    exact ⟨p, he, ⟨⟨F', hP, fun k hk => by have := hF k hk; omega⟩, fun k hk => by omega, fun k hk => hk, h0.trans ht (fun _ _ e => e)⟩, ht⟩
  · exact (hn hz).elim
theorem st_write (h : St w0 L w p s K) (i : Nat) {dev : Int} (hdev : dev = ((i : Nat) : Int)) (d : AD) (hd : s.ds[i]? = some d) (hon : s.on = true) (place : Int) (hp : 0 ≤ place ∧ place < d.n) (h0 : s.fuse ≠ 0) {g c : Nat} {t : TypeId} (b : Sec) (hb : Blk w g t (bcs b.1).toArray) (hK : K < 1099511627775) :
    Calls Try.prog 11 #[.pointer (some ⟨p, 0, none⟩), .int .i64 dev, .int .i64 place, .slice (some ⟨g, 0, none⟩) 64 c] w fun e w' => e = .returned (.int .i64 0) ∧ St w0 L w' p (s.put i d place b) (K + 1) ∧ Turn (kept L) w w' := by
  subst hdev
  obtain ⟨F, hP, hF⟩ := h.pl
  exact (write_ok hP i d hd hon place hp h0 _ c b (bs_blk hb b.2 (by decide)) hK).mono fun e w' ⟨he, hg⟩ => ⟨he, h.goes hF hg⟩
theorem st_flush (h : St w0 L w p s K) (i : Nat) {dev : Int} (hdev : dev = ((i : Nat) : Int)) (d : AD) (hd : s.ds[i]? = some d) (hon : s.on = true) (h0 : s.fuse ≠ 0) (hK : K < 1099511627775) :
    Calls Try.prog 13 #[.pointer (some ⟨p, 0, none⟩), .int .i64 dev] w fun e w' => e = .returned (.int .i64 0) ∧ St w0 L w' p (s.flushed i d) (K + 1) ∧ Turn (kept L) w w' := by
  subst hdev
  obtain ⟨F, hP, hF⟩ := h.pl
  exact (flush_ok hP i d hd hon h0 hK).mono fun e w' ⟨he, hg⟩ => ⟨he, h.goes hF hg⟩
theorem st_flush_burn (h : St w0 L w p s K) (i : Nat) {dev : Int} (hdev : dev = ((i : Nat) : Int)) (d : AD) (hd : s.ds[i]? = some d) (hon : s.on = true) (h0 : s.fuse = 0) :
    Calls Try.prog 13 #[.pointer (some ⟨p, 0, none⟩), .int .i64 dev] w fun e w' => e = .returned (.int .i64 2) ∧ St w0 L w' p s.burn K ∧ Turn (kept L) w w' := by
  subst hdev
  obtain ⟨F, hP, hF⟩ := h.pl
  exact (flush_burn hP i d hd hon h0).mono fun e w' ⟨he, hg⟩ => ⟨he, h.goes hF hg⟩
theorem st_fuse (h : St w0 L w p s K) (m : Int) (hm : -9223372036854775808 ≤ m ∧ m ≤ 9223372036854775807) :
    Calls Try.prog 16 #[.pointer (some ⟨p, 0, none⟩), .int .i64 m] w fun e w' => e = .returned (.tuple #[]) ∧ St w0 L w' p { s with fuse := if s.on then m else s.fuse } K ∧ Turn (kept L) w w' := by
  obtain ⟨F, hP, hF⟩ := h.pl
  exact (fuseP hP m hm).mono fun e w' ⟨he, hg⟩ => ⟨he, h.goes hF hg⟩
theorem st_boot (h : St w0 L w p s K) {g : Nat} {t : TypeId} (zs : List Int) {n c : Nat} (hb : Blk w g t (intsC zs)) (hg : L g) (hn : zs.length = n) (hm : n ≤ 100) (hK : K < 1099511627776) :
    Calls Try.prog 18 #[.pointer (some ⟨p, 0, none⟩), .slice (some ⟨g, 0, none⟩) n c] w fun e w' => e = .returned (.tuple #[]) ∧ St w0 L w' p (s.boot zs) K ∧ Turn (kept L) w w' := by
  obtain ⟨F, hP, hF⟩ := h.pl
  exact (boot_ok hP _ n c zs (ks_blk hb hn hm (fun hf => hF _ hf hg)) hK).mono fun e w' ⟨he, hg⟩ => ⟨he, h.goes hF hg⟩
theorem st_boot_nil (h : St w0 L w p s K) (a : Option Addr) {c : Nat} (hK : K < 1099511627776) :
    Calls Try.prog 18 #[.pointer (some ⟨p, 0, none⟩), .slice a 0 c] w fun e w' => e = .returned (.tuple #[]) ∧ St w0 L w' p (s.boot []) K ∧ Turn (kept L) w w' := by
  obtain ⟨F, hP, hF⟩ := h.pl
  exact (boot_ok hP _ 0 c [] ⟨rfl, by omega, fun h => by omega⟩ hK).mono fun e w' ⟨he, hg⟩ => ⟨he, h.goes hF hg⟩
theorem st_read (h : St w0 L w p s K) (i : Nat) {dev : Int} (hdev : dev = ((i : Nat) : Int)) (d : AD) (hd : s.ds[i]? = some d) (hon : s.on = true) (place : Int) (hp : 0 ≤ place ∧ place < d.n) :
    Calls Try.prog 15 #[.pointer (some ⟨p, 0, none⟩), .int .i64 dev, .int .i64 place] w fun e w' =>
      ∃ R, e = .returned (.tuple #[.slice (some ⟨R, 0, none⟩) 64 64, .int .i64 0]) ∧ w.heap.size ≤ R ∧ Blk w' R 63 (bcs (d.read place).1).toArray ∧ Turn nowhere w w' := by
  subst hdev
  obtain ⟨F, hP, hF⟩ := h.pl
  exact read_ok hP i d hd hon place hp
theorem st_on (h : St w0 L w p s K) : Calls Try.prog 22 #[.pointer (some ⟨p, 0, none⟩)] w fun e w' => e = .returned (.bool s.on) ∧ w = w' := by
  obtain ⟨F, hP, hF⟩ := h.pl
  exact onP hP
theorem st_steps (h : St w0 L w p s K) : Calls Try.prog 23 #[.pointer (some ⟨p, 0, none⟩)] w fun e w' => e = .returned (.int .i64 s.steps) ∧ w = w' := by
  obtain ⟨F, hP, hF⟩ := h.pl
  exact stepsP hP
end
end Go.Proofs.Yteedjfgandgbkaa

namespace Go.Proofs.Yteedjfgandgbkaa
open Go.RowKit Go.Maps
set_option linter.unusedVariables false
def refCells (mv hv wv : Value) (off burns : Bool) (left done : Int) : Array Value := #[mv, hv, wv, .bool off, .bool burns, .int .i64 left, .int .i64 done]
section
variable {w : World} {p : Nat} {hv wv : Value} {off burns : Bool} {left done : Int} {A : Option Addr} {cap : Nat} {zs : List Int} {n : Nat}
theorem rhas_good (hb : Blk w p 49 (refCells (.slice A n cap) hv wv off burns left done)) (i : Nat) (hi : i < n) :
    Calls Try.prog 29 #[.pointer (some ⟨p, 0, none⟩), .int .i64 (i : Int)] w fun e w' => e = .returned (.bool true) ∧ w = w' := by
  have c0 : w.cell? ⟨p, 0, none⟩ = some (.slice A n cap) := hb.cell 0
  have z1 : (0 : Int) ≤ (i : Int) := by omega
  have z2 : (i : Int) < (n : Int) := by omega
  clear hb hi
  go_enter Try.func29, Try.ntmps29
  go_wp2
  go_ret
  exact ⟨rfl, rfl⟩
theorem rhas_bad (hb : Blk w p 49 (refCells (.slice A n cap) hv wv off burns left done)) (dev : Int) (hd : ¬ (0 ≤ dev ∧ dev < (n : Int))) :
    Calls Try.prog 29 #[.pointer (some ⟨p, 0, none⟩), .int .i64 dev] w fun e w' => e = .returned (.bool false) ∧ w = w' := by
  have c0 : w.cell? ⟨p, 0, none⟩ = some (.slice A n cap) := hb.cell 0
  clear hb
  by_cases h0 : 0 ≤ dev
  · have h1 : ¬ dev < (n : Int) := fun h => hd ⟨h0, h⟩
    clear hd
    go_enter Try.func29, Try.ntmps29
    go_wp2
    go_ret
    exact ⟨rfl, rfl⟩
  · clear hd
    go_enter Try.func29, Try.ntmps29
    go_wp2
    go_ret
    exact ⟨rfl, rfl⟩
theorem rlen_bad (hb : Blk w p 49 (refCells (.slice A n cap) hv wv off burns left done)) (dev : Int) (hd : ¬ (0 ≤ dev ∧ dev < (n : Int))) :
    Calls Try.prog 40 #[.pointer (some ⟨p, 0, none⟩), .int .i64 dev] w fun e w' => e = .returned (.tuple #[.int .i64 0, .int .i64 31]) ∧ w = w' := by
  have HH := Lib.hid (rhas_bad hb dev hd)
  clear hb hd
  go_enter Try.func40, Try.ntmps40
  go_wp2_with (go_at_call 29; refine HH.out.mono ?_; rintro e w' ⟨rfl, rfl⟩)
  go_ret2
  exact ⟨rfl, rfl⟩
theorem rlen_good (hb : Blk w p 49 (refCells (.slice A n cap) hv wv off burns left done)) (hz : Ks w nowhere A n zs) (i : Nat) (hi : i < n) :
    Calls Try.prog 40 #[.pointer (some ⟨p, 0, none⟩), .int .i64 (i : Int)] w fun e w' => e = .returned (.tuple #[.int .i64 (zs.getD i 0), .int .i64 0]) ∧ w = w' := by
  have HH := Lib.hid (rhas_good hb i hi)
  obtain ⟨_, _, hc⟩ := hz
  obtain ⟨g, o, rfl, _, _, hcell⟩ := hc (by omega)
  have c0 : w.cell? ⟨p, 0, none⟩ = some (.slice (some ⟨g, o, none⟩) n cap) := hb.cell 0
  have c1 := hcell i hi
  have z1 : (0 : Int) ≤ (i : Int) := by omega
  have z2 : (i : Int) < (n : Int) := by omega
  clear hb hi hcell hc
  go_enter Try.func40, Try.ntmps40
  go_wp2_with (go_at_call 29; refine HH.out.mono ?_; rintro e w' ⟨rfl, rfl⟩)
  go_ret2
  exact ⟨rfl, rfl⟩
end
end Go.Proofs.Yteedjfgandgbkaa

namespace Go.Proofs.Yteedjfgandgbkaa
open Go.RowKit
set_option linter.unusedVariables false
set_option linter.unusedSimpArgs false
theorem gx_iaddr {P : Program} {a : Act} {o : Oper} {W : World} {t e : TypeId} {x y : Operand} {b off n c i sz m : Nat} {k : IntKind} (ho : o.op = .indexAddr t x y) (hx : a.eval x = .slice (some ⟨b, off, none⟩) n c) (hy : a.eval y = .int k (i : Int))
    (ht : P.underlying t = some (.slice e)) (hs : (P.info? e).map (·.size) = some sz) (hi : i < n) (hm : off + i * sz = m) : (execOp a.eval o).run P W = .ok (.value (.pointer (some ⟨b, m, none⟩))) W := by
  obtain ⟨j, hj, hjs⟩ := Option.map_eq_some_iff.1 hs
  subst hm
  unfold execOp
  simp [ho, hx, hy, Instr.indexAt, run_underlying ht, asIntOf, sizeOf, typeInfo, hj, hjs, hi, add_nat, Result.andThen]
theorem gx_alloc {P : Program} {a : Act} {o : Oper} {W : World} {t : TypeId} {z : Value} (ho : o.op = .alloc t) (hz : (zeroValue t).run P W = .ok z W) :
    (execOp a.eval o).run P W = .ok (.value (.pointer (some ⟨W.heap.size, 0, none⟩))) (W.alloc (.cells z.cells t)) := by
  unfold execOp
  simp [ho, Instr.alloc, hz, newVar, Result.andThen, newRow]
theorem gx_build4 {P : Program} {a : Act} {o : Oper} {t : TypeId} {x0 x1 x2 x3 : Operand} {u0 u1 u2 u3 r : Value} {W : World} (ho : o.op = .build t #[(0, x0), (1, x1), (2, x2), (3, x3)]) (h0 : a.eval x0 = u0) (h1 : a.eval x1 = u1) (h2 : a.eval x2 = u2) (h3 : a.eval x3 = u3)
    (h : (Instr.build t #[(0, u0), (1, u1), (2, u2), (3, u3)]).run P W = .ok r W) : (execOp a.eval o).run P W = .ok (.value r) W := by
  unfold execOp
  simp only [ho, List.map_toArray, List.map_cons, List.map_nil, h0, h1, h2, h3, h, Sem.run_bind, Sem.run_pure, Result.andThen_ok]
theorem gx_build2 {P : Program} {a : Act} {o : Oper} {t : TypeId} {x0 x1 : Operand} {u0 u1 r : Value} {W : World} (ho : o.op = .build t #[(0, x0), (1, x1)]) (h0 : a.eval x0 = u0) (h1 : a.eval x1 = u1)
    (h : (Instr.build t #[(0, u0), (1, u1)]).run P W = .ok r W) : (execOp a.eval o).run P W = .ok (.value r) W := by
  unfold execOp
  simp only [ho, List.map_toArray, List.map_cons, List.map_nil, h0, h1, h, Sem.run_bind, Sem.run_pure, Result.andThen_ok]
theorem gx_assign {P : Program} {a : Act} {o : Oper} {W : World} {x : Operand} {v : Value} (ho : o.op = .assign x) (hx : a.eval x = v) : (execOp a.eval o).run P W = .ok (.value v) W := by
  unfold execOp
  simp only [ho, hx, Sem.run_pure]
theorem gx_make {P : Program} {a : Act} {o : Oper} {t : TypeId} {x y : Operand} {u u' v : Value} {W W' : World} (ho : o.op = .makeSlice t x y) (hx : a.eval x = u) (hy : a.eval y = u') (h : (Instr.makeSlice t u u').run P W = .ok v W') : (execOp a.eval o).run P W = .ok (.value v) W' := by
  unfold execOp
  simp only [ho, hx, hy, h, Sem.run_bind, Sem.run_pure, Result.andThen_ok]
theorem gx_len {P : Program} {a : Act} {o : Oper} {W : World} {x : Operand} {t : TypeId} {e : TypeId} {A : Option Addr} {n c : Nat} (ho : o.op = .call { callee := .builtin .len, args := #[x], argTypes := #[t] }) (hx : a.eval x = .slice A n c) (ht : P.underlying t = some (.slice e)) : (execOp a.eval o).run P W = .ok (.value (.int .i64 (n : Int))) W := by
  unfold execOp
  simp [ho, hx, resolve, invoke, builtin, Builtin.len_, run_underlying ht, Result.andThen]
  rfl
/-- a value of several cells goes into the middle of a block -/
theorem wpList_store_mid {P : Program} {ops : Array Oper} {rest : List Oper} {o : Oper} {a : Act} {w : World} {Q : Exit → Act → World → Prop} (hgd : Region.wanted o (yielded ops a.tmps) = true) (ty : TypeId) (x y : Operand) (ho : o.op = .store ty x y) {g off : Nat} {t : TypeId} {old : Array Value} (cells : Array Value) (hb : Blk w g t old)
    (hx : a.eval x = .pointer (some ⟨g, off, none⟩)) (hy : a.eval y = .agg cells) (hs : off + cells.size ≤ old.size) (hi : (P.info? ty).map (·.size) = some cells.size) (h1 : ∀ v ∈ cells.toList, v.oneCell' = true)
    (h : ∀ w' C', Blk w' g t C' → C'.size = old.size → (∀ j, C'[j]? = if off ≤ j ∧ j < off + cells.size then cells[j - off]? else old[j]?) → Turn (only g) w w' → wpList P ops Q rest (a.put o.dst undef) w') : wpList P ops Q (o :: rest) a w :=
  wpList_step fun K hK => by
    rw [if_pos hgd]
    have hr := run_storeAt_mid (P := P) w g off ty cells (blk_there hb off _ hs) hi (Array.all_eq_true_iff_forall_mem.2 fun v hv => h1 v (by simpa using hv))
    obtain ⟨C', c1, c2, c3⟩ := setCells_blk cells.toList w g off t old hb
    have ht := setCells_turn cells.toList w g off
    generalize w.setCells g off cells.toList = w' at *
    unfold Oper.wp execOp
    simp only [ho, hx, hy, hr, Sem.run_bind, Sem.run_pure, Result.andThen_ok]
    refine hK _ _ (h w' C' c1 c2 (fun j => ?_) ht)
    rw [c3]
    have hl : cells.toList.length = cells.size := by simp
    rw [hl]
    by_cases hj : off ≤ j ∧ j < off + cells.size
    · rw [if_pos hj, if_pos ⟨hj.1, hj.2, by omega⟩, Array.getElem?_toList]
    · rw [if_neg hj, if_neg (by omega)]
/-- a value of one cell goes into a block -/
theorem wpList_store1 {P : Program} {ops : Array Oper} {rest : List Oper} {o : Oper} {a : Act} {w : World} {Q : Exit → Act → World → Prop} (hgd : Region.wanted o (yielded ops a.tmps) = true) (ty : TypeId) (x y : Operand) (ho : o.op = .store ty x y) {g i : Nat} {t : TypeId} {old : Array Value} {v : Value} (hb : Blk w g t old)
    (hx : a.eval x = .pointer (some ⟨g, i, none⟩)) (hy : a.eval y = v) (hi : i < old.size) (hv : v.cells = #[v]) (h1 : v.oneCell' = true) (hsz : (P.info? ty).map (·.size) = some 1)
    (h : Blk (w.setCell ⟨g, i, none⟩ v) g t (old.setIfInBounds i v) → Turn (only g) w (w.setCell ⟨g, i, none⟩ v) → wpList P ops Q rest (a.put o.dst undef) (w.setCell ⟨g, i, none⟩ v)) : wpList P ops Q (o :: rest) a w :=
  wpList_step fun K hK => by
    rw [if_pos hgd]
    obtain ⟨j, hj, hjs⟩ := Option.map_eq_some_iff.1 hsz
    have hc : w.cell? ⟨g, i, none⟩ = some (old[i]) := by rw [hb.cell i, Array.getElem?_eq_getElem hi]
    have hf : w.frozen? ⟨g, i, none⟩ = false := hb.frozen i
    have hst : (Instr.storeAt ty (.pointer (some ⟨g, i, none⟩)) v).run P w = .ok () (w.setCell ⟨g, i, none⟩ v) := by
      have h0 : (⟨g, i, none⟩ : Addr).add 0 = ⟨g, i, none⟩ := by simp [Addr.add]
      simp [Instr.storeAt, storeVar, hv, Instr.sureAddr, sizeOf, typeInfo, hj, hjs, Result.andThen, storeCells, run_store _ _ _ _ _ h1, stored, h0, hc, hf]
    unfold Oper.wp execOp
    simp only [ho, hx, hy, hst, Sem.run_bind, Sem.run_pure, Result.andThen_ok]
    exact hK _ _ (h (hb.set_ i v) ((Turn.refl _ w).at_ i v))
end Go.Proofs.Yteedjfgandgbkaa

namespace Go.Proofs.Yteedjfgandgbkaa
open Go.RowKit Go.Maps
set_option linter.unusedVariables false
section
variable {w : World} {p : Nat} {mv hv wv : Value} {off burns : Bool} {left done : Int}
/-- a fuse that is at its end -/
theorem rstep_end (hb : Blk w p 49 (refCells mv hv wv off true 0 done)) :
    Calls Try.prog 30 #[.pointer (some ⟨p, 0, none⟩)] w fun e w' => e = .returned (.bool false) ∧ Blk w' p 49 (refCells mv hv wv true false 0 done) ∧ Turn (only p) w w' := by
  have c4 : w.cell? ⟨p, 4, none⟩ = some (.bool true) := hb.cell 4
  have c5 : w.cell? ⟨p, 5, none⟩ = some (.int .i64 0) := hb.cell 5
  have c3 : w.cell? ⟨p, 3, none⟩ = some (.bool off) := hb.cell 3
  have f3 := hb.frozen 3
  have f4 := hb.frozen 4
  have HB := Lib.hid hb
  clear hb
  go_enter Try.func30, Try.ntmps30
  go_upto_region 3 with fail
  have hb1 := HB.out.set_ 3 (.bool true)
  have ht1 := (Turn.refl (only p) w).at_ 3 (.bool true)
  have c4' : (w.setCell ⟨p, 3, none⟩ (.bool true)).cell? ⟨p, 4, none⟩ = some (.bool true) := hb1.cell 4
  have f4' := hb1.frozen 4
  have HB1 := Lib.hid hb1
  have HT1 := Lib.hid ht1
  clear hb1 ht1 c4 c5 c3 f3 f4
  generalize w.setCell ⟨p, 3, none⟩ (.bool true) = w1 at *
  go_wp2
  go_ret
  exact ⟨rfl, HB1.out.set_ 4 (.bool false), HT1.out.at_ 4 _⟩
theorem rstep_burn (hb : Blk w p 49 (refCells mv hv wv off true left done)) (hl : 0 < left) (hl2 : left ≤ 9223372036854775807) (hd : 0 ≤ done) (hd2 : done ≤ 4611686018427387904) :
    Calls Try.prog 30 #[.pointer (some ⟨p, 0, none⟩)] w fun e w' => e = .returned (.bool true) ∧ Blk w' p 49 (refCells mv hv wv off true (left - 1) (done + 1)) ∧ Turn (only p) w w' := by
  have c4 : w.cell? ⟨p, 4, none⟩ = some (.bool true) := hb.cell 4
  have c5 : w.cell? ⟨p, 5, none⟩ = some (.int .i64 left) := hb.cell 5
  have f5 := hb.frozen 5
  have y1 : ¬ (left = 0) := by omega
  have HB := Lib.hid hb
  clear hb
  have hwl : IntKind.i64.wrap (left - 1) = left - 1 := by rw [IntKind.wrap_i64]; omega
  have hwd : IntKind.i64.wrap (done + 1) = done + 1 := by rw [IntKind.wrap_i64]; omega
  go_enter Try.func30, Try.ntmps30
  go_upto_region 7 with fail
  have hb1 := HB.out.set_ 5 (.int .i64 (left - 1))
  have ht1 := (Turn.refl (only p) w).at_ 5 (.int .i64 (left - 1))
  have c6 : (w.setCell ⟨p, 5, none⟩ (.int .i64 (left - 1))).cell? ⟨p, 6, none⟩ = some (.int .i64 done) := hb1.cell 6
  have f6 := hb1.frozen 6
  have HB1 := Lib.hid hb1
  have HT1 := Lib.hid ht1
  clear hb1 ht1 c4 c5 f5
  try rw [hwl]
  generalize w.setCell ⟨p, 5, none⟩ (.int .i64 (left - 1)) = w1 at *
  go_wp2
  go_ret
  refine ⟨rfl, ?_, HT1.out.at_ 6 _⟩
  have := HB1.out.set_ 6 (.int .i64 (done + 1))
  first | exact this | (rw [hwd]; exact this)
theorem rstep_free (hb : Blk w p 49 (refCells mv hv wv off false left done)) (hd : 0 ≤ done) (hd2 : done ≤ 4611686018427387904) :
    Calls Try.prog 30 #[.pointer (some ⟨p, 0, none⟩)] w fun e w' => e = .returned (.bool true) ∧ Blk w' p 49 (refCells mv hv wv off false left (done + 1)) ∧ Turn (only p) w w' := by
  have c4 : w.cell? ⟨p, 4, none⟩ = some (.bool false) := hb.cell 4
  have c6 : w.cell? ⟨p, 6, none⟩ = some (.int .i64 done) := hb.cell 6
  have f6 := hb.frozen 6
  have HB := Lib.hid hb
  clear hb
  have hwd : IntKind.i64.wrap (done + 1) = done + 1 := by rw [IntKind.wrap_i64]; omega
  go_enter Try.func30, Try.ntmps30
  go_wp2
  go_ret
  refine ⟨rfl, ?_, (Turn.refl _ w).at_ 6 _⟩
  have := HB.out.set_ 6 (.int .i64 (done + 1))
  first | exact this | (rw [hwd]; exact this)
theorem rfuse_off {n : Int} (hb : Blk w p 49 (refCells mv hv wv true burns left done)) :
    Calls Try.prog 17 #[.pointer (some ⟨p, 0, none⟩), .int .i64 n] w fun e w' => e = .returned (.tuple #[]) ∧ w' = w := by
  have c3 : w.cell? ⟨p, 3, none⟩ = some (.bool true) := hb.cell 3
  clear hb
  go_enter Try.func17, Try.ntmps17
  go_wp2
  exact bodyPost_ret (results_none Try.results17 _ _ _) rfl ⟨rfl, rfl⟩
theorem rfuse_on {n : Int} (hb : Blk w p 49 (refCells mv hv wv false burns left done)) :
    Calls Try.prog 17 #[.pointer (some ⟨p, 0, none⟩), .int .i64 n] w fun e w' => e = .returned (.tuple #[]) ∧ Blk w' p 49 (refCells mv hv wv false (decide (0 ≤ n)) n done) ∧ Turn (only p) w w' := by
  have c3 : w.cell? ⟨p, 3, none⟩ = some (.bool false) := hb.cell 3
  have c4 : w.cell? ⟨p, 4, none⟩ = some (.bool burns) := hb.cell 4
  have f4 := hb.frozen 4
  have HB := Lib.hid hb
  clear hb
  have key : ∀ b : Bool, decide (0 ≤ n) = b → Calls Try.prog 17 #[.pointer (some ⟨p, 0, none⟩), .int .i64 n] w fun e w' => e = .returned (.tuple #[]) ∧ Blk w' p 49 (refCells mv hv wv false b n done) ∧ Turn (only p) w w' := fun b hbn => by
    have HBN := Lib.hid hbn
    have hb1 := HB.out.set_ 4 (.bool b)
    have ht1 := (Turn.refl (only p) w).at_ 4 (.bool b)
    have c5' : (w.setCell ⟨p, 4, none⟩ (.bool b)).cell? ⟨p, 5, none⟩ = some (.int .i64 left) := hb1.cell 5
    have f5' := hb1.frozen 5
    have HB1 := Lib.hid hb1
    have HT1 := Lib.hid ht1
    clear hb1 ht1
    go_enter Try.func17, Try.ntmps17
    cases b with
    | true =>
      have y1 : 0 ≤ n := of_decide_eq_true hbn
      clear hbn
      go_upto_region 2 with fail
      clear c3 c4 f4
      generalize w.setCell ⟨p, 4, none⟩ (.bool true) = w1 at *
      go_wp2
      go_end0
      exact ⟨rfl, HB1.out.set_ 5 (.int .i64 n), HT1.out.at_ 5 _⟩
    | false =>
      have y1 : ¬ (0 ≤ n) := of_decide_eq_false hbn
      clear hbn
      go_upto_region 2 with fail
      clear c3 c4 f4
      generalize w.setCell ⟨p, 4, none⟩ (.bool false) = w1 at *
      go_wp2
      go_end0
      exact ⟨rfl, HB1.out.set_ 5 (.int .i64 n), HT1.out.at_ 5 _⟩
  exact key _ rfl
end
end Go.Proofs.Yteedjfgandgbkaa

namespace Go.Proofs.Yteedjfgandgbkaa.Lkk
set_option linter.unusedVariables false
def hdr (l : List UInt8) : Nat := 256 * (l.getD 0 0).toNat + (l.getD 1 0).toNat
/-- frames, what is left, whether all lengths were right -/
structure Sp where
  fs : List (List UInt8)
  rest : List UInt8
  ok : Bool
def Sp.pre (r : Sp) (fs : List (List UInt8)) : Sp := ⟨fs ++ r.fs, r.rest, r.ok⟩
def spl : Nat → List UInt8 → Sp
  | 0, l => ⟨[], l, true⟩
  | k + 1, l => if l.length < 2 then ⟨[], l, true⟩ else if hdr l < 1 ∨ 512 < hdr l then ⟨[], [], false⟩ else if l.length < 2 + hdr l then ⟨[], l, true⟩ else (spl k (l.drop (2 + hdr l))).pre [(l.drop 2).take (hdr l)]
def feed (l : List UInt8) : Sp := spl l.length l
theorem pre_nil (r : Sp) : r.pre [] = r := rfl
theorem pre_pre (r : Sp) (a b : List (List UInt8)) : (r.pre b).pre a = r.pre (a ++ b) := by simp [Sp.pre]
theorem spl_more : ∀ (k : Nat) (l : List UInt8), l.length ≤ k → spl k l = feed l := by
  suffices h : ∀ (n k m : Nat) (l : List UInt8), l.length ≤ n → n ≤ k → n ≤ m → spl k l = spl m l from fun k l hk => h l.length k l.length l (Nat.le_refl _) hk (Nat.le_refl _)
  intro n
  induction n with
  | zero =>
    intro k m l hl _ _
    have : l = [] := List.eq_nil_of_length_eq_zero (by omega)
    subst this
    cases k <;> cases m <;> simp [spl]
  | succ n ih =>
    intro k m l hl hk hm
    obtain ⟨k, rfl⟩ : ∃ j, k = j + 1 := ⟨k - 1, by omega⟩
    obtain ⟨m, rfl⟩ : ∃ j, m = j + 1 := ⟨m - 1, by omega⟩
    unfold spl
    by_cases h1 : l.length < 2
    · rw [if_pos h1, if_pos h1]
    · rw [if_neg h1, if_neg h1]
      by_cases h2 : hdr l < 1 ∨ 512 < hdr l
      · rw [if_pos h2, if_pos h2]
      · rw [if_neg h2, if_neg h2]
        by_cases h3 : l.length < 2 + hdr l
        · rw [if_pos h3, if_pos h3]
        · rw [if_neg h3, if_neg h3, ih k m _ (by rw [List.length_drop]; omega) (by omega) (by omega)]
theorem feed_few {l : List UInt8} (h : l.length < 2) : feed l = ⟨[], l, true⟩ := by
  rw [← spl_more (l.length + 1) l (by omega)]
  unfold spl
  rw [if_pos h]
theorem feed_bad {l : List UInt8} (h : 2 ≤ l.length) (h2 : hdr l < 1 ∨ 512 < hdr l) : feed l = ⟨[], [], false⟩ := by
  rw [← spl_more (l.length + 1) l (by omega)]
  unfold spl
  rw [if_neg (by omega), if_pos h2]
theorem feed_part {l : List UInt8} (h : 2 ≤ l.length) (h1 : 1 ≤ hdr l) (h2 : hdr l ≤ 512) (h3 : l.length < 2 + hdr l) : feed l = ⟨[], l, true⟩ := by
  rw [← spl_more (l.length + 1) l (by omega)]
  unfold spl
  rw [if_neg (by omega), if_neg (by omega), if_pos h3]
theorem feed_step {l : List UInt8} (h : 2 ≤ l.length) (h1 : 1 ≤ hdr l) (h2 : hdr l ≤ 512) (h3 : 2 + hdr l ≤ l.length) : feed l = (feed (l.drop (2 + hdr l))).pre [(l.drop 2).take (hdr l)] := by
  rw [← spl_more (l.length + 1) l (by omega)]
  conv => lhs; unfold spl
  rw [if_neg (by omega), if_neg (by omega), if_neg (by omega), spl_more _ _ (by rw [List.length_drop]; omega)]
/-- by the four cases -/
theorem feed_ind {P : List UInt8 → Prop} (few : ∀ l : List UInt8, l.length < 2 → P l) (bad : ∀ l : List UInt8, 2 ≤ l.length → (hdr l < 1 ∨ 512 < hdr l) → P l)
    (part : ∀ l : List UInt8, 2 ≤ l.length → 1 ≤ hdr l → hdr l ≤ 512 → l.length < 2 + hdr l → P l) (step : ∀ l : List UInt8, 2 ≤ l.length → 1 ≤ hdr l → hdr l ≤ 512 → 2 + hdr l ≤ l.length → P (l.drop (2 + hdr l)) → P l) : ∀ l, P l := by
  suffices h : ∀ n (l : List UInt8), l.length ≤ n → P l from fun l => h l.length l (Nat.le_refl _)
  intro n
  induction n with
  | zero => exact fun l hl => few l (by omega)
  | succ n ih =>
    intro l hl
    by_cases h1 : l.length < 2
    · exact few l h1
    · by_cases h2 : hdr l < 1 ∨ 512 < hdr l
      · exact bad l (by omega) h2
      · by_cases h3 : l.length < 2 + hdr l
        · exact part l (by omega) (by omega) (by omega) h3
        · exact step l (by omega) (by omega) (by omega) (by omega) (ih _ (by rw [List.length_drop]; omega))
theorem hdr_append {a b : List UInt8} (h : 2 ≤ a.length) : hdr (a ++ b) = hdr a := by
  unfold hdr
  rw [List.getD_eq_getElem?_getD, List.getD_eq_getElem?_getD, List.getElem?_append_left (by omega), List.getElem?_append_left (by omega), ← List.getD_eq_getElem?_getD, ← List.getD_eq_getElem?_getD]
/-- what is held waits -/
def Waits (h : List UInt8) : Prop := feed h = ⟨[], h, true⟩
theorem rest_waits : ∀ l, (feed l).ok = true → Waits (feed l).rest := by
  refine feed_ind ?_ ?_ ?_ ?_
  · intro l h _
    rw [feed_few h]
    exact feed_few h
  · intro l h h2 h3
    rw [feed_bad h h2] at h3
    cases h3
  · intro l h h1 h2 h3 _
    rw [feed_part h h1 h2 h3]
    exact feed_part h h1 h2 h3
  · intro l h h1 h2 h3 ih h4
    rw [feed_step h h1 h2 h3] at h4 ⊢
    exact ih h4
theorem rest_bad : ∀ l, (feed l).ok = false → (feed l).rest = [] := by
  refine feed_ind ?_ ?_ ?_ ?_
  · intro l h h2
    rw [feed_few h] at h2
    cases h2
  · intro l h h2 h3
    rw [feed_bad h h2]
  · intro l h h1 h2 h3 h4
    rw [feed_part h h1 h2 h3] at h4
    cases h4
  · intro l h h1 h2 h3 ih h4
    rw [feed_step h h1 h2 h3] at h4 ⊢
    exact ih h4
theorem waits_nil : Waits [] := feed_few (by simp)
theorem waits_len {h : List UInt8} (hw : Waits h) : h.length < 514 := by
  by_cases h1 : h.length < 2
  · omega
  · by_cases h2 : hdr h < 1 ∨ 512 < hdr h
    · have := feed_bad (by omega) h2
      rw [hw] at this
      injection this with _ _ h3
      cases h3
    · by_cases h3 : h.length < 2 + hdr h
      · omega
      · have := feed_step (by omega) (by omega) (by omega) (by omega : 2 + hdr h ≤ h.length)
        rw [hw] at this
        injection this with h4 _ _
        cases h4
theorem rest_len (l : List UInt8) : (feed l).rest.length < 514 := by
  cases h : (feed l).ok with
  | true => exact waits_len (rest_waits l h)
  | false => rw [rest_bad l h]; simp
theorem rest_le : ∀ l, (feed l).rest.length ≤ l.length := by
  refine feed_ind ?_ ?_ ?_ ?_
  · intro l h; rw [feed_few h]; exact Nat.le_refl _
  · intro l h h2; rw [feed_bad h h2]; simp
  · intro l h h1 h2 h3; rw [feed_part h h1 h2 h3]; exact Nat.le_refl _
  · intro l h h1 h2 h3 ih
    rw [feed_step h h1 h2 h3]
    have : (feed (l.drop (2 + hdr l))).rest.length ≤ (l.drop (2 + hdr l)).length := ih
    rw [List.length_drop] at this
    show (feed (l.drop (2 + hdr l))).rest.length ≤ _
    omega
theorem feed_none {l : List UInt8} (h : (feed l).ok = true) (h0 : (feed l).fs = []) : (feed l).rest = l := by
  by_cases h1 : l.length < 2
  · rw [feed_few h1]
  · by_cases h2 : hdr l < 1 ∨ 512 < hdr l
    · rw [feed_bad (by omega) h2] at h
      cases h
    · by_cases h3 : l.length < 2 + hdr l
      · rw [feed_part (by omega) (by omega) (by omega) h3]
      · rw [feed_step (by omega) (by omega) (by omega) (by omega)] at h0
        cases h0
theorem feed_join (b : List UInt8) : ∀ a, (feed a).ok = true → feed (a ++ b) = (feed ((feed a).rest ++ b)).pre (feed a).fs := by
  refine feed_ind ?_ ?_ ?_ ?_
  · intro a h _
    rw [feed_few h]
    rfl
  · intro a h h2 h3
    rw [feed_bad h h2] at h3
    cases h3
  · intro a h h1 h2 h3 _
    rw [feed_part h h1 h2 h3]
    rfl
  · intro a h h1 h2 h3 ih h4
    rw [feed_step h h1 h2 h3] at h4 ⊢
    have e := hdr_append (b := b) h
    rw [feed_step (l := a ++ b) (by simp; omega) (by omega) (by omega) (by simp; omega), e, List.drop_append_of_le_length h3, ih h4, pre_pre,
      List.drop_append_of_le_length h, List.take_append_of_le_length (by rw [List.length_drop]; omega)]
    rfl
theorem feed_err (b : List UInt8) : ∀ a, (feed a).ok = false → feed (a ++ b) = ⟨(feed a).fs, [], false⟩ := by
  refine feed_ind ?_ ?_ ?_ ?_
  · intro a h h2
    rw [feed_few h] at h2
    cases h2
  · intro a h h2 _
    have e := hdr_append (b := b) h
    rw [feed_bad h h2, feed_bad (by simp; omega) (by omega)]
  · intro a h h1 h2 h3 h4
    rw [feed_part h h1 h2 h3] at h4
    cases h4
  · intro a h h1 h2 h3 ih h4
    rw [feed_step h h1 h2 h3] at h4 ⊢
    have e := hdr_append (b := b) h
    rw [feed_step (l := a ++ b) (by simp; omega) (by omega) (by omega) (by simp; omega), e, List.drop_append_of_le_length h3, ih h4,
      List.drop_append_of_le_length h, List.take_append_of_le_length (by rw [List.length_drop]; omega)]
    rfl
/-- a packed frame -/
def pk (b : List UInt8) : List UInt8 := [UInt8.ofNat (b.length / 256), UInt8.ofNat b.length] ++ b
theorem pk_len (b : List UInt8) : (pk b).length = b.length + 2 := by simp [pk]
theorem pk_hdr (b r : List UInt8) (h : b.length ≤ 512) : hdr (pk b ++ r) = b.length := by
  unfold hdr pk
  simp only [List.cons_append, List.getD_cons_zero, List.getD_cons_succ, UInt8.toNat_ofNat']
  omega
theorem feed_pk (b r : List UInt8) (h1 : 1 ≤ b.length) (h2 : b.length ≤ 512) : feed (pk b ++ r) = (feed r).pre [b] := by
  have e := pk_hdr b r h2
  have hl : (pk b ++ r).length = b.length + 2 + r.length := by rw [List.length_append, pk_len]
  rw [feed_step (by omega) (by omega) (by omega) (by omega), e]
  have e1 : (pk b ++ r).drop 2 = b ++ r := rfl
  rw [← List.drop_drop, e1, List.drop_left, List.take_left]
def pks (fs : List (List UInt8)) : List UInt8 := (fs.map pk).flatten
def Right (fs : List (List UInt8)) : Prop := ∀ f ∈ fs, 1 ≤ f.length ∧ f.length ≤ 512
theorem pks_append (a b : List (List UInt8)) : pks (a ++ b) = pks a ++ pks b := by simp [pks]
theorem feed_pks : ∀ (fs : List (List UInt8)) (r : List UInt8), Right fs → feed (pks fs ++ r) = (feed r).pre fs
  | [], r, _ => rfl
  | f :: fs, r, h => by
    have h1 := h f (by simp)
    show feed (pk f ++ pks fs ++ r) = _
    rw [List.append_assoc, feed_pk f _ h1.1 h1.2, feed_pks fs r (fun x hx => h x (by simp [hx])), pre_pre]
    rfl
theorem getD_pair {l : List UInt8} (h : 2 ≤ l.length) : l = l.getD 0 0 :: l.getD 1 0 :: l.drop 2 := by
  match l, h with
  | a :: b :: r, _ => rfl
theorem pk_of {l : List UInt8} (h : 2 ≤ l.length) (h2 : hdr l ≤ 512) (h3 : 2 + hdr l ≤ l.length) : pk ((l.drop 2).take (hdr l)) = l.take (2 + hdr l) := by
  have hl : ((l.drop 2).take (hdr l)).length = hdr l := by rw [List.length_take, List.length_drop]; omega
  unfold pk
  rw [hl]
  have e : l = l.getD 0 0 :: l.getD 1 0 :: l.drop 2 := getD_pair h
  have e0 : UInt8.ofNat (hdr l / 256) = l.getD 0 0 := by
    apply UInt8.toNat_inj.1
    have := (l.getD 0 0).toNat_lt
    have := (l.getD 1 0).toNat_lt
    rw [UInt8.toNat_ofNat']
    unfold hdr
    omega
  have e1 : UInt8.ofNat (hdr l) = l.getD 1 0 := by
    apply UInt8.toNat_inj.1
    have := (l.getD 1 0).toNat_lt
    rw [UInt8.toNat_ofNat']
    unfold hdr
    omega
  rw [e0, e1]
  generalize hdr l = n at *
  conv => rhs; rw [e]
  rw [show 2 + n = n + 1 + 1 from by omega, List.take_succ_cons, List.take_succ_cons]
  rfl
theorem feed_right : ∀ l, Right (feed l).fs := by
  refine feed_ind ?_ ?_ ?_ ?_
  · intro l h; rw [feed_few h]; exact fun f hf => by cases hf
  · intro l h h2; rw [feed_bad h h2]; exact fun f hf => by cases hf
  · intro l h h1 h2 h3; rw [feed_part h h1 h2 h3]; exact fun f hf => by cases hf
  · intro l h h1 h2 h3 ih
    rw [feed_step h h1 h2 h3]
    intro f hf
    rcases List.mem_append.1 (show f ∈ [(l.drop 2).take (hdr l)] ++ (feed (l.drop (2 + hdr l))).fs from hf) with hf | hf
    · have : f = (l.drop 2).take (hdr l) := by simpa using hf
      subst this
      rw [List.length_take, List.length_drop]
      omega
    · exact ih f hf
theorem feed_all : ∀ l, (feed l).ok = true → l = pks (feed l).fs ++ (feed l).rest := by
  refine feed_ind ?_ ?_ ?_ ?_
  · intro l h _; rw [feed_few h]; rfl
  · intro l h h2 h3; rw [feed_bad h h2] at h3; cases h3
  · intro l h h1 h2 h3 _; rw [feed_part h h1 h2 h3]; rfl
  · intro l h h1 h2 h3 ih h4
    rw [feed_step h h1 h2 h3] at h4 ⊢
    have := ih h4
    show l = pk ((l.drop 2).take (hdr l)) ++ pks (feed (l.drop (2 + hdr l))).fs ++ (feed (l.drop (2 + hdr l))).rest
    rw [List.append_assoc, ← this, pk_of h h2 h3, List.take_append_drop]
theorem fs_count : ∀ l, (feed l).fs.length * 3 ≤ l.length := by
  refine feed_ind ?_ ?_ ?_ ?_
  · intro l h; rw [feed_few h]; exact Nat.zero_le _
  · intro l h h2; rw [feed_bad h h2]; exact Nat.zero_le _
  · intro l h h1 h2 h3; rw [feed_part h h1 h2 h3]; exact Nat.zero_le _
  · intro l h h1 h2 h3 ih
    rw [feed_step h h1 h2 h3]
    show ([(l.drop 2).take (hdr l)] ++ (feed (l.drop (2 + hdr l))).fs).length * 3 ≤ _
    rw [List.length_append, List.length_drop] at *
    simp only [List.length_cons, List.length_nil]
    omega
/-- how many noughts there are till a length is wrong -/
def left (h : List UInt8) : Nat := match h with
  | [] => 2
  | [x] => if 1 ≤ 256 * x.toNat ∧ 256 * x.toNat ≤ 512 then 256 * x.toNat + 3 else 1
  | a :: b :: r => hdr (a :: b :: r) + 2 - r.length
theorem left_le {h : List UInt8} (hw : Waits h) : left h ≤ 515 := by
  unfold left
  split
  · omega
  · split <;> omega
  · rename_i a b r
    by_cases h2 : hdr (a :: b :: r) < 1 ∨ 512 < hdr (a :: b :: r)
    · have := feed_bad (l := a :: b :: r) (by simp) h2
      rw [hw] at this
      injection this with _ _ h3
      cases h3
    · omega
theorem left_pos {h : List UInt8} (hw : Waits h) : 0 < left h := by
  unfold left
  split
  · omega
  · split <;> omega
  · rename_i a b r
    have := waits_len hw
    by_cases h2 : hdr (a :: b :: r) < 1 ∨ 512 < hdr (a :: b :: r)
    · have := feed_bad (l := a :: b :: r) (by simp) h2
      rw [hw] at this
      injection this with _ _ h3
      cases h3
    · by_cases h3 : (a :: b :: r).length < 2 + hdr (a :: b :: r)
      · simp at h3
        omega
      · have := feed_step (l := a :: b :: r) (by simp) (by omega) (by omega) (by omega)
        rw [hw] at this
        injection this with h4 _ _
        cases h4
theorem left_step {h : List UInt8} (hw : Waits h) : (feed (h ++ [0])).ok = false ∨ ((feed (h ++ [0])).ok = true ∧ left (feed (h ++ [0])).rest < left h) := by
  match h, hw with
  | [], _ => 
    right
    rw [feed_few (by simp)]
    exact ⟨rfl, by decide⟩
  | [x], _ =>
    by_cases hx : 1 ≤ 256 * x.toNat ∧ 256 * x.toNat ≤ 512
    · right
      have e : hdr ([x] ++ [0]) = 256 * x.toNat := by simp [hdr]
      rw [feed_part (by simp) (by rw [e]; omega) (by rw [e]; omega) (by rw [e]; simp; omega)]
      refine ⟨rfl, ?_⟩
      show hdr [x, 0] + 2 - 0 < (if 1 ≤ 256 * x.toNat ∧ 256 * x.toNat ≤ 512 then 256 * x.toNat + 3 else 1)
      rw [if_pos hx]
      have : hdr [x, 0] = 256 * x.toNat := e
      omega
    · left
      have e : hdr ([x] ++ [0]) = 256 * x.toNat := by simp [hdr]
      rw [feed_bad (by simp) (by rw [e]; omega)]
  | a :: b :: r, hw =>
    right
    have hl : 2 ≤ (a :: b :: r).length := by simp
    have e : hdr (a :: b :: r ++ [0]) = hdr (a :: b :: r) := hdr_append hl
    have h2 : ¬ (hdr (a :: b :: r) < 1 ∨ 512 < hdr (a :: b :: r)) := fun h2 => by
      have := feed_bad hl h2
      rw [hw] at this
      injection this with _ _ h3
      cases h3
    have h3 : (a :: b :: r).length < 2 + hdr (a :: b :: r) := by
      by_cases h3 : (a :: b :: r).length < 2 + hdr (a :: b :: r)
      · exact h3
      · have := feed_step hl (by omega) (by omega) (by omega)
        rw [hw] at this
        injection this with h4 _ _
        cases h4
    have e4 : left (a :: b :: r) = hdr (a :: b :: r) + 2 - r.length := rfl
    simp only [List.length_cons] at h3
    by_cases h4 : r.length + 3 < 2 + hdr (a :: b :: r)
    · rw [feed_part (by simp) (by rw [e]; omega) (by rw [e]; omega) (by rw [e]; simp; omega)]
      refine ⟨rfl, ?_⟩
      show hdr (a :: b :: (r ++ [0])) + 2 - (r ++ [0]).length < _
      rw [e4, List.length_append, show hdr (a :: b :: (r ++ [0])) = hdr (a :: b :: r) from e]
      simp
      omega
    · rw [feed_step (by simp) (by rw [e]; omega) (by rw [e]; omega) (by rw [e]; simp; omega), e, List.drop_of_length_le (by simp; omega)]
      refine ⟨rfl, ?_⟩
      show left (feed []).rest < _
      rw [waits_nil, e4]
      show 2 < _
      omega
end Go.Proofs.Yteedjfgandgbkaa.Lkk

namespace Go.Proofs.Yteedjfgandgbkaa
section
variable {P : Program} {md : Region.Mode} {ops : Array Oper} {Q : Exit → Act → World → Prop} {S : World → Prop}
/-- whatever order is picked, and S holds behind each operation -/
def Alw (P : Program) (md : Region.Mode) (ops : Array Oper) (Q : Exit → Act → World → Prop) (S : World → Prop) : Nat → Array Bool → Act → World → Prop
  | 0, l, a, w => Region.ready md ops l = [] ∧ Q .normal a w
  | n + 1, l, a, w => (Region.ready md ops l = [] → Q .normal a w) ∧
      ∀ i ∈ Region.ready md ops l, wpOp P ops Q i (fun a' w' => S w' ∧ Alw P md ops Q S n (l.setIfInBounds i true) a' w') a w
theorem alw_any : ∀ (n : Nat) (l : Array Bool) (a : Act) (w : World), Alw P md ops Q S n l a w → wpAny P md ops Q n l a w
  | 0, _, _, _, h => h
  | n + 1, _, _, _, h => ⟨h.1, fun i hi => wpOp_mono (fun _ _ h' => alw_any n _ _ _ h'.2) (h.2 i hi)⟩
theorem alw_first {i : Nat} {o : Oper} {v : Value} (hi : ops[i]? = some o) (hsel : ∀ (j : Nat) (o : Oper) cs b, ops[j]? = some o → o.op ≠ .select cs b) :
    ∀ (n : Nat) (l : Array Bool) (a : Act) (w : World),
      (∀ j oj, ops[j]? = some oj → j ≠ i → l.getD j true = false → (∀ e ∈ oj.after, Region.binds md e = true → e.on ≠ i) → o.apart ops oj = true) →
      i ∈ Region.ready md ops l → YieldsIf P ops S o v a → S w → (∀ c a w, Q (.panic c) (a.put o.dst v) w → Q (.panic c) a w) →
      Alw P md ops Q S n (l.setIfInBounds i true) (a.put o.dst v) w → Alw P md ops Q S (n + 1) l a w := by
  have hread : ∀ (l : Array Bool) (j : Nat), i ∈ Region.ready md ops l → j ∈ Region.ready md ops l → j ≠ i → ∃ oj, ops[j]? = some oj ∧ l.getD j true = false ∧ ∀ e ∈ oj.after, Region.binds md e = true → e.on ≠ i := by
    intro l j hr hj hji
    obtain ⟨h0, oj, hoj, hall⟩ := mem_ready.1 hj
    have hun := (mem_ready.1 hr).1
    refine ⟨oj, hoj, h0, fun e he hb heq => ?_⟩
    have h2 := hall e he hb
    rw [heq] at h2
    rcases Nat.lt_or_ge i l.size with hlt | hge
    · rw [Array.getD_eq_getD_getElem?, Array.getElem?_eq_getElem hlt] at h2 hun
      simp only [Option.getD_some] at h2 hun
      rw [h2] at hun
      cases hun
    · rw [Array.getD_eq_getD_getElem?, Array.getElem?_eq_none hge] at h2
      cases h2
  intro n
  induction n with
  | zero =>
    intro l a w _ hr hy hS _ H
    refine ⟨fun h => (by rw [h] at hr; cases hr), fun j hj => ?_⟩
    by_cases hji : j = i
    · subst hji
      exact hy.wpOp hi hS ⟨hS, H⟩
    · have := ready_mono hj hji
      rw [H.1] at this
      cases this
  | succ n ih =>
    intro l a w hfree hr hy hS hQ H
    refine ⟨fun h => (by rw [h] at hr; cases hr), fun j hj => ?_⟩
    by_cases hji : j = i
    · subst hji
      exact hy.wpOp hi hS ⟨hS, H⟩
    · obtain ⟨oj, hoj, hjun, hno⟩ := hread l j hr hj hji
      have h1 := H.2 j (ready_mono hj hji)
      have h2 := wpOp_putIf hoj (hfree j oj hoj hji hjun hno) (fun cs b => hsel i o cs b hi) (fun cs b => hsel j oj cs b hoj) hQ hy h1
      refine wpOp_mono (fun a' w' h3 => ⟨h3.2.1, ih (l.setIfInBounds j true) a' w' ?_ (ready_mono hr (Ne.symm hji)) h3.1 h3.2.1 hQ ?_⟩) h2
      · intro m om hm hmi hun hn
        refine hfree m om hm hmi ?_ hn
        by_cases hjm : j = m
        · subst hjm
          exact hjun
        · rwa [getD_set_ne true hjm] at hun
      · rw [Array.setIfInBounds_comm _ _ hji]
        exact h3.2.2
theorem alw_take {i : Nat} {o : Oper} {v : Value} {n : Nat} {l : Array Bool} {a : Act} {w : World} (hi0 : ops.toList[i]? = some o) (hs : Region.noSelect ops = true)
    (hf : (Region.free md ops l i && (Region.ready md ops l).contains i) = true)
    (hQ : ∀ c a w, Q (.panic c) (a.put o.dst v) w → Q (.panic c) a w) (hy : YieldsIf P ops S o v a) (hS : S w)
    (h : Alw P md ops Q S n (l.setIfInBounds i true) (a.put o.dst v) w) : Alw P md ops Q S (n + 1) l a w := by
  have hi : ops[i]? = some o := by rw [← hi0, Array.getElem?_toList]
  simp only [Bool.and_eq_true] at hf
  exact alw_first hi (Region.noSelect_spec hs) n l a w (Region.free_spec hi hf.1) (by simpa using hf.2) hy hS hQ h
theorem alw_step {i : Nat} {o : Oper} {n : Nat} {l : Array Bool} {a : Act} {w : World} (hr : Region.ready md ops l = [i]) (ho0 : ops.toList[i]? = some o) (hw : Region.wanted o (yielded ops a.tmps) = true)
    (h : ∀ K : Act → World → Prop, Shut (∀ a' w', (S w' ∧ Alw P md ops Q S n (l.setIfInBounds i true) a' w') → K a' w') → o.wp P a w K Q) : Alw P md ops Q S (n + 1) l a w := by
  have ho : ops[i]? = some o := by rw [← ho0, Array.getElem?_toList]
  refine ⟨fun h0 => (by rw [h0] at hr; cases hr), fun j hj => ?_⟩
  rw [hr] at hj
  obtain rfl : j = i := by simpa using hj
  unfold wpOp
  simp only [ho, hw, if_true]
  exact .inl (h _ fun _ _ h' => h')
theorem alw_done {n : Nat} {l : Array Bool} {a : Act} {w : World} (hr : Region.ready md ops l = []) (h : Q .normal a w) : Alw P md ops Q S n l a w := by
  cases n with
  | zero => exact ⟨hr, h⟩
  | succ n => exact ⟨fun _ => h, fun j hj => by rw [hr] at hj; cases hj⟩
theorem wp_region_alw (S : World → Prop) {id : Nat} {a : Act} {w : World} (hm : P.follows .mixedOrders = true)
    (h : Alw P .any ops (NoPanic Q) S ops.size (Array.replicate ops.size false) a w.drew) : (Code.region id ops true).wp P Q a w :=
  wp_region_noPanic (wp_region_any hm (alw_any _ _ _ _ h))
end
end Go.Proofs.Yteedjfgandgbkaa
