/-
  Texts of MessageReads in one file, shortened: Bytes Append Row Mem Hold Store Gen Iop Alw Sq3 FdSpec FdQ FdR Str Pure Build. Conditions: the tables and the errors read as the program's text lays them.
-/
import Derived.WalkKit
import Derived.ProofKit
import Derived.Below
import Derived.Lib.Hide
import Derived.Laws.AppendOwnNone
import Derived.OwnWalk
import Derived.Deep.Draws
import Derived.Outline
import Derived.StillTailTactics
import Derived.Laws.Rows
import Derived.Deep.RegionHeld3
import Derived.Deep.MidRow
import Derived.StillTail
import Derived.Carry
import Derived.Test.YticofobhkmabiaaGreatDoorProg
import Derived.Lib.Bytealg
import Derived.Laws.IdiomStrings
import Derived.Laws.Concat
import Derived.Laws.Strings
import Derived.Laws.Strings3
import Derived.Laws.Tables
set_option linter.unusedVariables false
set_option linter.unusedSimpArgs false
set_option maxRecDepth 40000
set_option maxHeartbeats 20000000
namespace Go.Proofs.YticofobhkmabiaaGreatDoor
open Go.RowKit Go.ChangeShapes Go.WideShapes Go.ChangeAt
def Bs (w : World) (a : Option Addr) (len : Nat) (bs : List UInt8) : Prop :=
 bs.length = len ∧ len ≤ maxLen ∧ (0 < len → ∃ b off, a = some ⟨b, off, none⟩ ∧ ∀ i, i < len → w.cell? ⟨b, off + i, none⟩ = some (.int .u8 ((bs.getD i 0).toNat : Int)))
theorem ret_int {k : IntKind} {a b : Int} (h : a = b) : Ending.returned (.int k a) = .returned (.int k b) := by rw [h]
theorem ret_bool {a b : Bool} (h : a = b) : Ending.returned (.bool a) = .returned (.bool b) := by rw [h]
theorem bs_below {w w' : World} {a : Option Addr} {len : Nat} {bs : List UInt8} (h : Bs w a len bs) (hb : Below w.heap.size w w') : Bs w' a len bs := by
 obtain ⟨h1, h2, h3⟩ := h
 refine ⟨h1, h2, fun hp => ?_⟩
 obtain ⟨b, off, e, hc⟩ := h3 hp
 refine ⟨b, off, e, fun i hi => ?_⟩
 rw [hb.cell (World.block_lt_of_cell? _ _ (hc i hi))]
 exact hc i hi
theorem bs_nil (w : World) (a : Option Addr) : Bs w a 0 [] := ⟨rfl, Nat.zero_le _, fun h => by omega⟩
def byteCells (bs : List UInt8) : Array Value := (bs.map fun x => Value.int .u8 (x.toNat : Int)).toArray
theorem byteCells_at (bs : List UInt8) (i : Nat) (h : i < bs.length) : (byteCells bs)[i]? = some (.int .u8 ((bs.getD i 0).toNat : Int)) := by
 unfold byteCells
 rw [List.getElem?_toArray, List.getElem?_map, List.getD_eq_getElem?_getD, List.getElem?_eq_getElem h]
 rfl
theorem bs_of_ints {w : World} {x : Addr} {len cap : Nat} {zs : List Int} (hl : len ≤ cap) (hm : cap ≤ maxLen) (hz : zs.length = cap)
 (hcell : ∀ i, i < zs.length → w.cell? (x.add i) = some (.int .u8 (zs.getD i 0))) (hwz : ∀ n ∈ zs, (Lit.int IntKind.u8 n).wf = true) :
 Bs w (some x) len ((zs.take len).map fun z => UInt8.ofNat z.toNat) := by
 refine ⟨by simp; omega, Nat.le_trans hl hm, fun hp => ?_⟩
 obtain ⟨b, off, spot⟩ := x
 have hc := hcell 0 (by omega)
 have hspot : spot = none := by simpa [Addr.add] using World.cell?_spot hc
 subst hspot
 refine ⟨b, off, rfl, fun i hi => ?_⟩
 have h := hcell i (by omega)
 have hmem : zs.getD i 0 ∈ zs := by
  rw [List.getD_eq_getElem?_getD, List.getElem?_eq_getElem (by omega)]
  exact List.getElem_mem _
 have hw := hwz _ hmem
 have he : ((zs.take len).map fun z => UInt8.ofNat z.toNat).getD i 0 = UInt8.ofNat (zs.getD i 0).toNat := by
  rw [List.getD_eq_getElem?_getD, List.getElem?_map, List.getElem?_take, if_pos hi, List.getD_eq_getElem?_getD, List.getElem?_eq_getElem (by omega)]
  rfl
 rw [he]
 have hr : 0 ≤ zs.getD i 0 ∧ zs.getD i 0 ≤ 255 := by
  simpa [Lit.wf, IntKind.min, IntKind.max, IntKind.signed, IntKind.bits] using hw
 have h2 : ((UInt8.ofNat (zs.getD i 0).toNat).toNat : Int) = zs.getD i 0 := by
  rw [UInt8.toNat_ofNat']
  omega
 rw [h2]
 have hadd : (⟨b, off, none⟩ : Addr).add i = ⟨b, off + i, none⟩ := by
  by_cases h0 : i = 0 <;> simp [Addr.add, h0]
 rw [← hadd]
 exact h
theorem bs_of_none (w : World) : Bs w none 0 [] := bs_nil w none
def bcs (bs : List UInt8) : List Value := bs.map fun x => Value.int .u8 (x.toNat : Int)
theorem bcs_length (bs : List UInt8) : (bcs bs).length = bs.length := List.length_map ..
theorem bcs_append (a b : List UInt8) : bcs (a ++ b) = bcs a ++ bcs b := List.map_append ..
theorem bcs_at (bs : List UInt8) (i : Nat) (h : i < bs.length) : (bcs bs)[i]? = some (.int .u8 ((bs.getD i 0).toNat : Int)) := by
 unfold bcs
 rw [List.getElem?_map, List.getD_eq_getElem?_getD, List.getElem?_eq_getElem h]
 rfl
theorem bcs_one (bs : List UInt8) : ∀ u ∈ bcs bs, u.oneCell' = true := fun u hu => by
 obtain ⟨_, _, rfl⟩ := List.mem_map.1 hu
 rfl
def Own (w : World) (B : Nat) (e : TypeId) (v : Value) (bs : List UInt8) : Prop := w.ownsRow B e 1 v bs.length (bcs bs)
theorem add_nat (b off i : Nat) : (⟨b, off, none⟩ : Addr).add i = ⟨b, off + i, none⟩ := by
 by_cases h0 : i = 0 <;> simp [Addr.add, h0]
theorem Own.form {w : World} {B : Nat} {e : TypeId} {v : Value} {bs : List UInt8} (h : Own w B e v bs) : ∃ a n c, v = .slice a n c ∧ Bs w a n bs ∧ n ≤ c ∧ (a = none → c = 0) := by
 obtain ⟨_, h2⟩ := id h
 rcases h2 with ⟨rfl, h0⟩ | ⟨g, cap, cur, rfl, hb, hg, hn, hm, hs, ht⟩
 ·have hb : bs = [] := List.eq_nil_of_length_eq_zero h0
  subst hb
  exact ⟨none, 0, 0, rfl, bs_nil w none, Nat.le_refl _, fun _ => rfl⟩
 ·refine ⟨_, _, _, rfl, ⟨rfl, Nat.le_trans hn hm, fun _ => ⟨g, 0, rfl, fun i hi => ?_⟩⟩, hn, fun h => by cases h⟩
  have hc := World.ownsRow.cells (g := g) h rfl i _ (bcs_at bs i hi)
  rw [add_nat] at hc
  exact hc
theorem Own.empty (w : World) (B : Nat) (e : TypeId) (hB : B ≤ w.heap.size) : Own (w.alloc (.cells #[] e)) B e (.slice (some ⟨w.heap.size, 0, none⟩) 0 0) [] :=
 World.ownsRow_made w #[] 0 hB (Nat.zero_le _) rfl
theorem Own.below {w w' : World} {B C : Nat} {e : TypeId} {v : Value} {bs : List UInt8} (h : Own w B e v bs) (hb : Below C w w') (hC : w.heap.size ≤ C) : Own w' B e v bs := by
 refine ⟨h.1, ?_⟩
 rcases h.2 with hn | ⟨g, cap, cur, rfl, hb1, hgg, rest⟩
 ·exact .inl hn
 ·have hlt : g < w.heap.size := (Array.getElem?_eq_some_iff.1 hgg).1
  exact .inr ⟨g, cap, cur, rfl, hb1, by rw [hb.block g (by omega)]; exact hgg, rest⟩
theorem wp_append_bytes {P : Program} (w : World) {o : Oper} {a : Act} {K : Act → World → Prop} {Q : Exit → Act → World → Prop} (s x : Operand) (t : TypeId)
 (ho : o.op = .call { callee := .builtin .append, args := #[s, x], argTypes := #[t, t] })
 (B : Nat) (e : TypeId) (hinfo : (P.info? e).map (fun i => (i.zero, i.size, i.bytes)) = some (some (.int .u8 0), 1, 1)) (ht : P.underlying t = some (.slice e))
 (v : Value) (olds : List UInt8) (hs : a.eval s = v) (hown : Own w B e v olds)
 (A : Option Addr) (m c : Nat) (news : List UInt8) (hx : a.eval x = .slice A m c) (hb : Bs w A m news) (hc : A = none → c = 0)
 (hsum : olds.length + m ≤ 140737488355328) (hbase : B ≤ w.heap.size)
 (h : ∀ v' w', Own w' B e v' (olds ++ news) → Below B w w' → K (a.put o.dst v') w') : o.wp P a w K Q := by
 obtain ⟨i0, hi0, hz0, hz1, hz2⟩ := info_parts hinfo
 obtain ⟨hl, hm, hcell⟩ := hb
 rcases A with _ | ad
 ·obtain rfl := hc rfl
  have hm0 : m = 0 := by
   rcases Nat.eq_zero_or_pos m with h0 | h0
   ·exact h0
   ·obtain ⟨_, _, h1, _⟩ := hcell h0; cases h1
  subst hm0
  have hn : news = [] := List.eq_nil_of_length_eq_zero hl
  subst hn
  rw [List.append_nil] at h
  have hrun := run_append_owned_none (P := P) (w := w) B t o.type e i0 1 ht hi0 v _ _ hown
  unfold Oper.wp
  simp [execOp, ho, resolve, invoke, builtin, hs, hx, hrun, Result.andThen]
  exact h v w hown (Below.refl _ _)
 ·refine wp_append_own w s x t ho B e i0 _ 1 1 ht hi0 hz0 hz1 hz2 rfl (by omega) v _ _ hs hown ad m c (bcs news) hx (by rw [bcs_length, hl, Nat.mul_one]) ?_ (bcs_one news) (by simp only [maxLen]; omega) (by omega) hbase ?_
  ·intro j u hu
   have hj : j < news.length := by
    have := (List.getElem?_eq_some_iff.1 hu).1
    rwa [bcs_length] at this
   obtain ⟨b, off, e1, hcc⟩ := hcell (by omega)
   injection e1 with e1
   subst e1
   rw [bcs_at news j hj] at hu
   injection hu with hu
   subst hu
   rw [add_nat]
   exact hcc j (by omega)
  ·intro v' w' ho' hg _
   refine h v' w' ?_ ((Below.refl _ _).grown hg hbase fun k hk => (hown.lt k hk).1)
   unfold Own
   rw [List.length_append, bcs_append, hl]
   exact ho'
theorem wpList_append_bytes {P : Program} (w : World) {ops : Array Oper} {rest : List Oper} {o : Oper} {a : Act} {Q : Exit → Act → World → Prop} (hgd : Region.wanted o (yielded ops a.tmps) = true) (s x : Operand) (t : TypeId)
 (ho : o.op = .call { callee := .builtin .append, args := #[s, x], argTypes := #[t, t] })
 (B : Nat) (e : TypeId) (hinfo : (P.info? e).map (fun i => (i.zero, i.size, i.bytes)) = some (some (.int .u8 0), 1, 1)) (ht : P.underlying t = some (.slice e))
 (v : Value) (olds : List UInt8) (hs : a.eval s = v) (hown : Own w B e v olds)
 (A : Option Addr) (m c : Nat) (news : List UInt8) (hx : a.eval x = .slice A m c) (hb : Bs w A m news) (hc : A = none → c = 0)
 (hsum : olds.length + m ≤ 140737488355328) (hbase : B ≤ w.heap.size)
 (h : ∀ v' w', Own w' B e v' (olds ++ news) → Below B w w' → wpList P ops Q rest (a.put o.dst v') w') : wpList P ops Q (o :: rest) a w :=
 wpList_step fun K hK => by
  rw [if_pos hgd]
  exact wp_append_bytes w s x t ho B e hinfo ht v olds hs hown A m c news hx hb hc hsum hbase fun v' w' h1 h2 => hK _ _ (h v' w' h1 h2)
def Row (w : World) (g : Nat) (e : TypeId) (bs : List UInt8) : Prop := w.heap[g]? = some (.cells (byteCells bs) e (0, 0))
theorem Row.lt {w : World} {g : Nat} {e : TypeId} {bs : List UInt8} (h : Row w g e bs) : g < w.heap.size := (Array.getElem?_eq_some_iff.1 h).1
theorem Row.cell {w : World} {g : Nat} {e : TypeId} {bs : List UInt8} (h : Row w g e bs) (i : Nat) (hi : i < bs.length) : w.cell? ⟨g, i, none⟩ = some (.int .u8 ((bs.getD i 0).toNat : Int)) := by
 rw [← byteCells_at bs i hi]
 unfold Row at h
 simp only [World.cell?, h]
 rfl
theorem Row.frozen {w : World} {g : Nat} {e : TypeId} {bs : List UInt8} (h : Row w g e bs) (i : Nat) : w.frozen? ⟨g, i, none⟩ = false := by
 unfold Row at h
 simp [World.frozen?, h]
theorem Row.drew {w : World} {g : Nat} {e : TypeId} {bs : List UInt8} (h : Row w g e bs) : Row w.drew g e bs := h
theorem byteCells_set (bs : List UInt8) (i : Nat) (x : UInt8) : (byteCells bs).setIfInBounds i (.int .u8 (x.toNat : Int)) = byteCells (bs.set i x) := by
 unfold byteCells
 apply Array.ext'
 simp [List.map_set]
theorem Row.set {w : World} {g : Nat} {e : TypeId} {bs : List UInt8} (h : Row w g e bs) (i : Nat) (x : UInt8) : Row (w.setCell ⟨g, i, none⟩ (.int .u8 (x.toNat : Int))) g e (bs.set i x) := by
 unfold Row at h ⊢
 rw [← byteCells_set]
 simp [World.setCell, Array.getElem?_modify, h]
theorem Row.below {w w' : World} {g B : Nat} {e : TypeId} {bs : List UInt8} (h : Row w g e bs) (hb : Below B w w') (hg : g < B) : Row w' g e bs := (hb.block g hg).trans h
theorem Row.new (w : World) (e : TypeId) (bs : List UInt8) : Row (w.alloc (.cells (byteCells bs) e)) w.heap.size e bs := heap_alloc_new w _
theorem Row.bs {w : World} {g : Nat} {e : TypeId} {bs : List UInt8} (h : Row w g e bs) {n : Nat} (hn : n ≤ bs.length) (hm : n ≤ maxLen) : Bs w (some ⟨g, 0, none⟩) n (bs.take n) := by
 refine ⟨by rw [List.length_take]; omega, hm, fun _ => ⟨g, 0, rfl, fun i hi => ?_⟩⟩
 have hc := h.cell i (by omega)
 rw [Nat.zero_add, hc, List.getD_eq_getElem?_getD, List.getD_eq_getElem?_getD, List.getElem?_take, if_pos hi]
theorem madeBytes (n : Nat) : madeCells (Value.int .u8 0).cells n = byteCells (List.replicate n 0) := by
 unfold madeCells byteCells
 apply Array.ext'
 simp [Value.cells]
 apply List.ext_getElem
 ·simp
 ·intro i h1 h2
  simp [Nat.mod_one]
def Head (w : World) (g : Nat) (e : TypeId) (bs : List UInt8) : Prop :=
 ∃ cur, w.heap[g]? = some (.cells cur e (0, 0)) ∧ bs.length ≤ cur.size ∧ ∀ i, i < bs.length → cur[i]? = some (Value.int .u8 ((bs.getD i 0).toNat : Int))
theorem Head.lt {w : World} {g : Nat} {e : TypeId} {bs : List UInt8} (h : Head w g e bs) : g < w.heap.size := by
 obtain ⟨cur, h1, _⟩ := h
 exact (Array.getElem?_eq_some_iff.1 h1).1
theorem Head.cell {w : World} {g : Nat} {e : TypeId} {bs : List UInt8} (h : Head w g e bs) (i : Nat) (hi : i < bs.length) : w.cell? ⟨g, i, none⟩ = some (.int .u8 ((bs.getD i 0).toNat : Int)) := by
 obtain ⟨cur, h1, _, h3⟩ := h
 rw [← h3 i hi]
 simp only [World.cell?, h1]
 rfl
theorem Head.frozen {w : World} {g : Nat} {e : TypeId} {bs : List UInt8} (h : Head w g e bs) (i : Nat) : w.frozen? ⟨g, i, none⟩ = false := by
 obtain ⟨cur, h1, _⟩ := h
 simp [World.frozen?, h1]
theorem Head.drew {w : World} {g : Nat} {e : TypeId} {bs : List UInt8} (h : Head w g e bs) : Head w.drew g e bs := h
theorem Head.set {w : World} {g : Nat} {e : TypeId} {bs : List UInt8} (h : Head w g e bs) (i : Nat) (x : UInt8) : Head (w.setCell ⟨g, i, none⟩ (.int .u8 (x.toNat : Int))) g e (bs.set i x) := by
 obtain ⟨cur, h1, h2, h3⟩ := h
 refine ⟨cur.setIfInBounds i (.int .u8 (x.toNat : Int)), by simp [World.setCell, Array.getElem?_modify, h1], by simpa using h2, fun j hj => ?_⟩
 rw [List.length_set] at hj
 rw [Array.getElem?_setIfInBounds, List.getD_eq_getElem?_getD, List.getElem?_set]
 by_cases e1 : i = j
 ·subst e1
  have : i < cur.size := by omega
  simp [this, hj]
 ·rw [if_neg e1, if_neg e1, h3 j hj, List.getD_eq_getElem?_getD]
theorem Head.below {w w' : World} {g B : Nat} {e : TypeId} {bs : List UInt8} (h : Head w g e bs) (hb : Below B w w') (hg : g < B) : Head w' g e bs := by
 obtain ⟨cur, h1, h2⟩ := h
 exact ⟨cur, (hb.block g hg).trans h1, h2⟩
theorem Head.bs {w : World} {g : Nat} {e : TypeId} {bs : List UInt8} (h : Head w g e bs) {n : Nat} (hn : bs.length = n) (hm : n ≤ maxLen) : Bs w (some ⟨g, 0, none⟩) n bs := by
 refine ⟨hn, hm, fun _ => ⟨g, 0, rfl, fun i hi => ?_⟩⟩
 rw [Nat.zero_add]
 exact h.cell i (by omega)
theorem Own.head {w : World} {B : Nat} {e : TypeId} {v : Value} {bs : List UInt8} (h : Own w B e v bs) (hp : 0 < bs.length) : ∃ g c, v = .slice (some ⟨g, 0, none⟩) bs.length c ∧ B ≤ g ∧ Head w g e bs := by
 obtain ⟨_, h2⟩ := id h
 rcases h2 with ⟨rfl, h0⟩ | ⟨g, cap, cur, rfl, hb, hg, hn, hm, hs, ht⟩
 ·omega
 ·refine ⟨g, cap, rfl, hb, cur, hg, by omega, fun i hi => ?_⟩
  rw [← bcs_at bs i hi, ← ht, List.getElem?_take, if_pos (by omega), Array.getElem?_toList]
structure Turn (F : Nat → Prop) (w w' : World) : Prop where
 os : w'.os = w.os
 tape : w'.tape = w.tape
 output : w'.output = w.output
 size : w.heap.size ≤ w'.heap.size
 block : ∀ k, k < w.heap.size → ¬ F k → w'.heap[k]? = w.heap[k]?
def nowhere : Nat → Prop := fun _ => False
section
variable {F G : Nat → Prop} {w w1 w' : World}
theorem Turn.refl (F : Nat → Prop) (w : World) : Turn F w w := ⟨rfl, rfl, rfl, Nat.le_refl _, fun _ _ _ => rfl⟩
theorem Turn.mono (h : Turn F w w') (hf : ∀ k, k < w.heap.size → F k → G k) : Turn G w w' :=
 ⟨h.os, h.tape, h.output, h.size, fun k hk hn => h.block k hk fun hF => hn (hf k hk hF)⟩
theorem Turn.trans (h : Turn F w w1) (g : Turn G w1 w') (hg : ∀ k, k < w.heap.size → G k → F k) : Turn F w w' :=
 ⟨g.os.trans h.os, g.tape.trans h.tape, g.output.trans h.output, Nat.le_trans h.size g.size,
  fun k hk hn => (g.block k (Nat.lt_of_lt_of_le hk h.size) fun hG => hn (hg k hk hG)).trans (h.block k hk hn)⟩
theorem Turn.drew (h : Turn F w w') : Turn F w w'.drew := ⟨h.os, h.tape, h.output, h.size, h.block⟩
theorem Turn.alloc (h : Turn F w w') (o : Obj) : Turn F w (w'.alloc o) :=
 ⟨h.os, h.tape, h.output, Nat.le_trans h.size (by simp), fun k hk hn => (Below.heap_alloc w' o k (Nat.lt_of_lt_of_le hk h.size)).trans (h.block k hk hn)⟩
theorem Turn.setCell (h : Turn F w w') {p : Addr} (hp : p.block < w.heap.size → F p.block) (u : Value) : Turn F w (w'.setCell p u) :=
 ⟨h.os, h.tape, h.output, by simpa [World.setCell] using h.size, fun k hk hn => (heap_setCell_other w' p k u (by
  rintro rfl
  exact hn (hp hk))).trans (h.block k hk hn)⟩
theorem Turn.grown (h : Turn F w w1) {row : Option Nat} (hg : w1.grownBy w' row) (hr : ∀ g, row = some g → g < w.heap.size → F g) : Turn F w w' :=
 ⟨hg.os.trans h.os, hg.tape.trans h.tape, hg.output.trans h.output, Nat.le_trans h.size hg.size,
  fun k hk hn => (hg.block k (Nat.lt_of_lt_of_le hk h.size) fun e => hn (hr k e.symm hk)).trans (h.block k hk hn)⟩
theorem Turn.of_below {B : Nat} (h : Below B w w') (hB : w.heap.size ≤ B) : Turn nowhere w w' := ⟨h.os, h.tape, h.output, h.size, fun k hk _ => h.block k (by omega)⟩
theorem Turn.below (h : Turn F w w') {B : Nat} (hB : B ≤ w.heap.size) (hF : ∀ k, k < B → ¬ F k) : Below B w w' :=
 ⟨h.os, h.tape, h.output, h.size, fun k hk => h.block k (by omega) (hF k hk)⟩
theorem Turn.cell (h : Turn F w w') {p : Addr} (hp : p.block < w.heap.size) (hn : ¬ F p.block) : w'.cell? p = w.cell? p := World.cell?_of_block (h.block _ hp hn)
theorem Turn.frozen (h : Turn F w w') {p : Addr} (hp : p.block < w.heap.size) (hn : ¬ F p.block) : w'.frozen? p = w.frozen? p := World.frozen?_of_block (h.block _ hp hn)
end
def only (p : Nat) : Nat → Prop := fun k => k = p
theorem Turn.at_ {w w' : World} {p : Nat} (h : Turn (only p) w w') (i : Nat) (u : Value) : Turn (only p) w (w'.setCell ⟨p, i, none⟩ u) := h.setCell (p := ⟨p, i, none⟩) (fun _ => rfl) u
def Blk (w : World) (g : Nat) (t : TypeId) (cs : Array Value) : Prop := w.heap[g]? = some (.cells cs t (0, 0))
section
variable {F : Nat → Prop} {w w' : World} {g : Nat} {t : TypeId} {cs : Array Value}
theorem Blk.lt (h : Blk w g t cs) : g < w.heap.size := (Array.getElem?_eq_some_iff.1 h).1
theorem Blk.cell (h : Blk w g t cs) (i : Nat) : w.cell? ⟨g, i, none⟩ = cs[i]? := cell_of_row w g i cs t (0, 0) h
theorem Blk.frozen (h : Blk w g t cs) (i : Nat) : w.frozen? ⟨g, i, none⟩ = false := by
 unfold Blk at h
 simp [World.frozen?, h]
theorem Blk.new (w : World) (t : TypeId) (cs : Array Value) : Blk (w.alloc (.cells cs t)) w.heap.size t cs := heap_alloc_new w _
theorem Blk.drew (h : Blk w g t cs) : Blk w.drew g t cs := h
theorem Blk.alloc (h : Blk w g t cs) (o : Obj) : Blk (w.alloc o) g t cs := (Below.heap_alloc w o g h.lt).trans h
theorem Blk.set_ (h : Blk w g t cs) (i : Nat) (u : Value) : Blk (w.setCell ⟨g, i, none⟩ u) g t (cs.setIfInBounds i u) := heap_setCell_same w g i cs t u h
theorem Blk.far (h : Blk w g t cs) {p : Addr} (hp : g ≠ p.block) (u : Value) : Blk (w.setCell p u) g t cs := (heap_setCell_other w p g u hp).trans h
theorem Blk.turn (h : Blk w g t cs) (ht : Turn F w w') (hn : ¬ F g) : Blk w' g t cs := (ht.block g h.lt hn).trans h
theorem Blk.grown {row : Option Nat} (h : Blk w g t cs) (hb : w.grownBy w' row) (hg : some g ≠ row) : Blk w' g t cs := (hb.block g h.lt hg).trans h
theorem Blk.ne_ {g' : Nat} {t' : TypeId} {cs' : Array Value} (h : Blk w g t cs) (h' : Blk w g' t' cs') (hne : t ≠ t') : g ≠ g' := by
 rintro rfl
 unfold Blk at h h'
 rw [h] at h'
 injection h' with h'
 injection h' with _ ht
 exact hne ht
theorem Blk.inj {t' : TypeId} {cs' : Array Value} (h : Blk w g t cs) (h' : Blk w g t' cs') : cs = cs' := by
 unfold Blk at h h'
 rw [h] at h'
 injection h' with h'
 injection h' with e
end
section
variable {P : Program} {md : Region.Mode} {ops : Array Oper} {Q : Exit → Act → World → Prop} {S : World → Prop} {k : Nat} {rest : List Oper}
def Till (P : Program) (md : Region.Mode) (ops : Array Oper) (Q : Exit → Act → World → Prop) (S : World → Prop) (k : Nat) : Nat → Array Bool → Act → World → Prop
 | 0, l, a, w => Region.ready md ops l = [] ∧ Q .normal a w
 | n + 1, l, a, w => (Region.ready md ops l = [] → Q .normal a w) ∧
  ∀ i ∈ Region.ready md ops l, wpOp P ops Q i (fun a' w' => ((l.setIfInBounds i true).getD k true = false → S w') ∧ Till P md ops Q S k n (l.setIfInBounds i true) a' w') a w
theorem till_any : ∀ (n : Nat) (l : Array Bool) (a : Act) (w : World), Till P md ops Q S k n l a w → wpAny P md ops Q n l a w
 | 0, _, _, _, h => h
 | n + 1, _, _, _, h => ⟨h.1, fun i hi => wpOp_mono (fun _ _ h' => till_any n _ _ _ h'.2) (h.2 i hi)⟩
theorem till_first {i : Nat} {o : Oper} {v : Value} (hi : ops[i]? = some o) (hsel : ∀ (j : Nat) (o : Oper) cs b, ops[j]? = some o → o.op ≠ .select cs b) (hki : k ≠ i)
 (hk : ∃ ok, ops[k]? = some ok ∧ ∃ e ∈ ok.after, Region.binds md e = true ∧ e.on = i) :
 ∀ (n : Nat) (l : Array Bool) (a : Act) (w : World), l.getD k true = false →
  (∀ j oj, ops[j]? = some oj → j ≠ i → l.getD j true = false → (∀ e ∈ oj.after, Region.binds md e = true → e.on ≠ i) → o.apart ops oj = true) →
  i ∈ Region.ready md ops l → YieldsIf P ops S o v a → S w → (∀ c a w, Q (.panic c) (a.put o.dst v) w → Q (.panic c) a w) →
  Till P md ops Q S k n (l.setIfInBounds i true) (a.put o.dst v) w → Till P md ops Q S k (n + 1) l a w := by
 have hread : ∀ (l : Array Bool) (j : Nat), i ∈ Region.ready md ops l → j ∈ Region.ready md ops l → j ≠ i → ∃ oj, ops[j]? = some oj ∧ l.getD j true = false ∧ j ≠ k ∧ ∀ e ∈ oj.after, Region.binds md e = true → e.on ≠ i := by
  intro l j hr hj hji
  obtain ⟨h0, oj, hoj, hall⟩ := mem_ready.1 hj
  have hun := (mem_ready.1 hr).1
  have hno : ∀ e ∈ oj.after, Region.binds md e = true → e.on ≠ i := by
   intro e he hb heq
   have h2 := hall e he hb
   rw [heq] at h2
   rcases Nat.lt_or_ge i l.size with hlt | hge
   ·rw [Array.getD_eq_getD_getElem?, Array.getElem?_eq_getElem hlt] at h2 hun
    simp only [Option.getD_some] at h2 hun
    rw [h2] at hun
    cases hun
   ·rw [Array.getD_eq_getD_getElem?, Array.getElem?_eq_none hge] at h2
    cases h2
  refine ⟨oj, hoj, h0, ?_, hno⟩
  rintro rfl
  obtain ⟨ok, hok, e, he, hb, hon⟩ := hk
  rw [hoj] at hok
  injection hok with hok
  subst hok
  exact hno e he hb hon
 intro n
 induction n with
 | zero =>
   intro l a w hkl _ hr hy hS _ H
   refine ⟨fun h => (by rw [h] at hr; cases hr), fun j hj => ?_⟩
   by_cases hji : j = i
   ·subst hji
    exact hy.wpOp hi hS ⟨fun _ => hS, H⟩
   ·have := ready_mono hj hji
    rw [H.1] at this
    cases this
 | succ n ih =>
   intro l a w hkl hfree hr hy hS hQ H
   refine ⟨fun h => (by rw [h] at hr; cases hr), fun j hj => ?_⟩
   by_cases hji : j = i
   ·subst hji
    exact hy.wpOp hi hS ⟨fun _ => hS, H⟩
   ·obtain ⟨oj, hoj, hjun, hjk, hno⟩ := hread l j hr hj hji
    have h1 := H.2 j (ready_mono hj hji)
    have h2 := wpOp_putIf hoj (hfree j oj hoj hji hjun hno) (fun cs b => hsel i o cs b hi) (fun cs b => hsel j oj cs b hoj) hQ hy h1
    have hk' : (l.setIfInBounds j true).getD k true = false := by rw [getD_set_ne true hjk]; exact hkl
    have hk2 : ((l.setIfInBounds i true).setIfInBounds j true).getD k true = false := by rw [getD_set_ne true hjk, getD_set_ne true (Ne.symm hki)]; exact hkl
    refine wpOp_mono (fun a' w' h3 => ⟨fun _ => h3.2.1 hk2, ih (l.setIfInBounds j true) a' w' hk' ?_ (ready_mono hr (Ne.symm hji)) h3.1 (h3.2.1 hk2) hQ ?_⟩) h2
    ·intro m om hm hmi hun hn
     refine hfree m om hm hmi ?_ hn
     by_cases hjm : j = m
     ·subst hjm
      exact hjun
     ·rwa [getD_set_ne true hjm] at hun
    ·rw [Array.setIfInBounds_comm _ _ hji]
     exact h3.2.2
theorem till_take {i : Nat} {o : Oper} {v : Value} {n : Nat} {l : Array Bool} {a : Act} {w : World} (hi0 : ops.toList[i]? = some o) (hs : Region.noSelect ops = true)
 (hf : (Region.free md ops l i && (Region.ready md ops l).contains i && Region.waitsFor md ops k i && !(l.getD k true) && decide (k ≠ i)) = true)
 (hQ : ∀ c a w, Q (.panic c) (a.put o.dst v) w → Q (.panic c) a w) (hy : YieldsIf P ops S o v a) (hS : S w)
 (h : Till P md ops Q S k n (l.setIfInBounds i true) (a.put o.dst v) w) : Till P md ops Q S k (n + 1) l a w := by
 have hi : ops[i]? = some o := by rw [← hi0, Array.getElem?_toList]
 simp only [Bool.and_eq_true, decide_eq_true_eq, Bool.not_eq_true'] at hf
 obtain ⟨⟨⟨⟨h1, h2⟩, h3⟩, h4⟩, h5⟩ := hf
 exact till_first hi (Region.noSelect_spec hs) h5 (Region.waitsFor_spec h3) n l a w h4 (Region.free_spec hi h1) (by simpa using h2) hy hS hQ h
theorem till_only {i : Nat} {o : Oper} {n : Nat} {l : Array Bool} {a : Act} {w : World} (hr : Region.ready md ops l = [i]) (ho0 : ops.toList[i]? = some o)
 (hw : Region.wanted o (yielded ops a.tmps) = true)
 (h : o.wp P a w (fun a' w' => ((l.setIfInBounds i true).getD k true = false → S w') ∧ Till P md ops Q S k n (l.setIfInBounds i true) a' w') Q) : Till P md ops Q S k (n + 1) l a w := by
 have ho : ops[i]? = some o := by rw [← ho0, Array.getElem?_toList]
 refine ⟨fun h0 => (by rw [h0] at hr; cases hr), fun j hj => ?_⟩
 rw [hr] at hj
 obtain rfl : j = i := by simpa using hj
 unfold wpOp
 simp only [ho, hw, if_true]
 exact .inl h
def chainFrom (md : Region.Mode) (ops : Array Oper) : Nat → Array Bool → Nat → Bool
 | 0, l, _ => (Region.ready md ops l).isEmpty
 | c + 1, l, i => Region.ready md ops l == [i] && chainFrom md ops c (l.setIfInBounds i true) (i + 1)
theorem till_chain : ∀ (rest : List Oper) (n : Nat) (l : Array Bool) (a : Act) (w : World) (i : Nat), (∀ j o, rest[j]? = some o → ops[i + j]? = some o) → chainFrom md ops rest.length l i = true →
 ((l.setIfInBounds i true).getD k true = true) → rest.length ≤ n → wpList P ops Q rest a w → Till P md ops Q S k n l a w
 | [], n, l, a, w, i, _, hc, _, _, h => by
   have h0 : Region.ready md ops l = [] := by simpa [chainFrom] using hc
   cases n with
   | zero => exact ⟨h0, h⟩
   | succ n => exact ⟨fun _ => h, fun j hj => by rw [h0] at hj; cases hj⟩
 | o :: rest, 0, l, a, w, i, _, _, _, hn, h => by simp at hn
 | o :: rest, n + 1, l, a, w, i, hops, hc, hk, hn, h => by
   simp only [List.length_cons, chainFrom, Bool.and_eq_true, beq_iff_eq] at hc
   obtain ⟨h1, h2⟩ := hc
   refine ⟨fun h0 => (by rw [h0] at h1; cases h1), fun j hj => ?_⟩
   rw [h1] at hj
   obtain rfl : j = i := by simpa using hj
   have ho : ops[j]? = some o := hops 0 o rfl
   have hw : wpOp P ops Q j (wpList P ops Q rest) a w := by
    unfold wpOp
    simp only [ho]
    unfold wpList at h
    exact h
   refine wpOp_mono (fun a' w' h' => ⟨fun e => (by rw [hk] at e; cases e), till_chain rest n _ a' w' (j + 1) (fun m om hm => ?_) h2 ?_ (by simpa using hn) h'⟩) hw
   ·have := hops (m + 1) om hm
    rwa [show j + (m + 1) = j + 1 + m from by omega] at this
   ·by_cases e : j + 1 = k
    ·subst e
     rw [Array.getD_eq_getD_getElem?, Array.getElem?_setIfInBounds]
     by_cases hs : j + 1 < (l.setIfInBounds j true).size
     ·rw [if_pos rfl, if_pos hs]
      rfl
     ·rw [if_pos rfl, if_neg hs]
      rfl
    ·rw [getD_set_ne true e]
     exact hk
theorem till_tail (i : Nat) {n : Nat} {l : Array Bool} {a : Act} {w : World} (hops : ops.toList.drop i = rest) (hc : (chainFrom md ops rest.length l i && (l.setIfInBounds i true).getD k true && decide (rest.length ≤ n)) = true)
 (h : wpList P ops Q rest a w) : Till P md ops Q S k n l a w := by
 simp only [Bool.and_eq_true, decide_eq_true_eq] at hc
 refine till_chain rest n l a w i (fun j o hj => ?_) hc.1.1 hc.1.2 hc.2 h
 rw [← hops, List.getElem?_drop] at hj
 simpa using hj
theorem till_step {i : Nat} {o : Oper} {n : Nat} {l : Array Bool} {a : Act} {w : World} (hr : Region.ready md ops l = [i]) (ho0 : ops.toList[i]? = some o) (hw : Region.wanted o (yielded ops a.tmps) = true)
 (h : ∀ K : Act → World → Prop, Shut (∀ a' w', (((l.setIfInBounds i true).getD k true = false → S w') ∧ Till P md ops Q S k n (l.setIfInBounds i true) a' w') → K a' w') → o.wp P a w K Q) : Till P md ops Q S k (n + 1) l a w :=
 till_only hr ho0 hw (h _ fun _ _ h' => h')
theorem till_done {n : Nat} {l : Array Bool} {a : Act} {w : World} (hr : Region.ready md ops l = []) (h : Q .normal a w) : Till P md ops Q S k n l a w := by
 cases n with
 | zero => exact ⟨hr, h⟩
 | succ n => exact ⟨fun _ => h, fun j hj => by rw [hr] at hj; cases hj⟩
theorem wp_region_till (S : World → Prop) (k : Nat) {id : Nat} {a : Act} {w : World} (hm : P.follows .mixedOrders = true)
 (h : Till P .any ops (NoPanic Q) S k ops.size (Array.replicate ops.size false) a w.drew) : (Code.region id ops true).wp P Q a w :=
 wp_region_noPanic (wp_region_any hm (till_any _ _ _ _ h))
theorem wp_run {o : Oper} {a : Act} {w w' : World} {K : Act → World → Prop} {v : Value} (hr : (execOp a.eval o).run P w = .ok (.value v) w') (h : K (a.put o.dst v) w') : o.wp P a w K Q := by
 unfold Oper.wp
 rw [hr]
 exact h
end
theorem setCells_blk : ∀ (vs : List Value) (w : World) (g o : Nat) (t : TypeId) (C : Array Value), Blk w g t C →
 ∃ C', Blk (w.setCells g o vs) g t C' ∧ C'.size = C.size ∧ ∀ j, C'[j]? = if o ≤ j ∧ j < o + vs.length ∧ j < C.size then vs[j - o]? else C[j]?
 | [], w, g, o, t, C, h => ⟨C, h, rfl, fun j => by rw [if_neg (by simp; omega)]⟩
 | v :: r, w, g, o, t, C, h => by
   obtain ⟨C', h1, h2, h3⟩ := setCells_blk r (w.setCell ⟨g, o, none⟩ v) g (o + 1) t _ (h.set_ o v)
   refine ⟨C', h1, by rw [h2, Array.size_setIfInBounds], fun j => ?_⟩
   rw [h3, Array.size_setIfInBounds, List.length_cons]
   by_cases e : j = o
   ·subst e
    rw [if_neg (by omega), Array.getElem?_setIfInBounds, if_pos rfl]
    by_cases hj : j < C.size
    ·rw [if_pos hj, if_pos ⟨by omega, by omega, hj⟩, Nat.sub_self]
     rfl
    ·rw [if_neg hj, if_neg (by omega), Array.getElem?_eq_none (by omega)]
   ·by_cases c : o + 1 ≤ j ∧ j < o + 1 + r.length ∧ j < C.size
    ·rw [if_pos c, if_pos ⟨by omega, by omega, c.2.2⟩, show j - o = (j - (o + 1)) + 1 from by omega, List.getElem?_cons_succ]
    ·rw [if_neg c, Array.getElem?_setIfInBounds, if_neg (fun h => e h.symm), if_neg (by omega)]
theorem setCells_turn : ∀ (vs : List Value) (w : World) (g o : Nat), Turn (only g) w (w.setCells g o vs)
 | [], _, _, _ => Turn.refl _ _
 | v :: r, w, g, o => ((Turn.refl _ w).at_ o v).trans (setCells_turn r _ g (o + 1)) fun _ _ h => h
theorem blk_there {w : World} {g : Nat} {t : TypeId} {C : Array Value} (h : Blk w g t C) (o n : Nat) (hn : o + n ≤ C.size) : w.there g o n := fun j hj =>
 ⟨by rw [h.cell, Array.getElem?_eq_getElem (by omega)]; rfl, h.frozen _⟩
theorem run_store_row {P : Program} {w : World} {g : Nat} {t ty : TypeId} {old cells : Array Value} (hb : Blk w g t old) (hs : old.size = cells.size) (hi : (P.info? ty).map (·.size) = some cells.size)
 (h1 : ∀ v ∈ cells.toList, v.oneCell' = true) : ∃ w', (Instr.storeAt ty (.pointer (some ⟨g, 0, none⟩)) (.agg cells)).run P w = .ok () w' ∧ Blk w' g t cells ∧ Turn (only g) w w' := by
 have hr := run_storeAt_mid (P := P) w g 0 ty cells (blk_there hb 0 _ (by omega)) hi (Array.all_eq_true_iff_forall_mem.2 fun v hv => h1 v (by simpa using hv))
 obtain ⟨C', c1, c2, c3⟩ := setCells_blk cells.toList w g 0 t old hb
 have ht := setCells_turn cells.toList w g 0
 generalize w.setCells g 0 cells.toList = w' at *
 refine ⟨w', hr, ?_, ht⟩
 have : C' = cells := by
  apply Array.ext_getElem?
  intro j
  rw [c3]
  by_cases hj : j < cells.size
  ·rw [if_pos ⟨by omega, by simpa using hj, by omega⟩]
   simp
  ·rw [if_neg (by simp; omega), Array.getElem?_eq_none (by omega), Array.getElem?_eq_none (by omega)]
 exact this ▸ c1
section
variable {P : Program} {ops : Array Oper} {rest : List Oper} {o : Oper} {a : Act} {w : World} {Q : Exit → Act → World → Prop}
theorem wpList_store_row (hgd : Region.wanted o (yielded ops a.tmps) = true) (ty : TypeId) (x y : Operand) (ho : o.op = .store ty x y) {g : Nat} {t : TypeId} {old : Array Value} (cells : Array Value) (hb : Blk w g t old)
 (hx : a.eval x = .pointer (some ⟨g, 0, none⟩)) (hy : a.eval y = .agg cells) (hs : old.size = cells.size) (hi : (P.info? ty).map (·.size) = some cells.size) (h1 : ∀ v ∈ cells.toList, v.oneCell' = true)
 (h : ∀ w', Blk w' g t cells → Turn (only g) w w' → wpList P ops Q rest (a.put o.dst undef) w') : wpList P ops Q (o :: rest) a w :=
 wpList_step fun K hK => by
  rw [if_pos hgd]
  obtain ⟨w', hr, h2, h3⟩ := run_store_row (P := P) hb hs hi h1
  unfold Oper.wp execOp
  simp only [ho, hx, hy, hr, Sem.run_bind, Sem.run_pure, Result.andThen_ok]
  exact hK _ _ (h w' h2 h3)
theorem wpList_run (hgd : Region.wanted o (yielded ops a.tmps) = true) {v : Value} {w' : World} (hr : (execOp a.eval o).run P w = .ok (.value v) w') (h : wpList P ops Q rest (a.put o.dst v) w') : wpList P ops Q (o :: rest) a w :=
 wpList_step fun K hK => by
  rw [if_pos hgd]
  unfold Oper.wp
  rw [hr]
  exact hK _ _ h
end
theorem exec_slice {P : Program} {a : Act} {o : Oper} {t : TypeId} {x : Operand} {lo hi mx : Option Operand} {u v : Value} {l h m : Option Value} {W W' : World} (ho : o.op = .slice t x lo hi mx) (hx : a.eval x = u) (hl : lo.map a.eval = l) (hh : hi.map a.eval = h) (hm : mx.map a.eval = m)
 (hr : (Instr.sliceAt t u l h m).run P W = .ok v W') : (execOp a.eval o).run P W = .ok (.value v) W' := by
 unfold execOp
 simp only [ho, hx, hl, hh, hm, hr, Sem.run_bind, Sem.run_pure, Result.andThen_ok]
theorem exec_load {P : Program} {a : Act} {o : Oper} {ty : TypeId} {x : Operand} {p v : Value} {W : World} (ho : o.op = .load ty x) (hx : a.eval x = p) (h : (Instr.loadAt ty p).run P W = .ok v W) : (execOp a.eval o).run P W = .ok (.value v) W := by
 unfold execOp
 simp only [ho, hx, h, Sem.run_bind, Sem.run_pure, Result.andThen_ok]
section
variable {P : Program} {a : Act} {o : Oper} {W : World}
theorem exec_move {x : Operand} {v : Value} (ho : o.op = .move x) (hx : a.eval x = v) : (execOp a.eval o).run P W = .ok (.value v) W := by
 unfold execOp
 simp only [ho, hx, Sem.run_pure]
theorem exec_nil {x : Operand} {p : Addr} (ho : o.op = .nilCheck x) (hx : a.eval x = .pointer (some p)) : (execOp a.eval o).run P W = .ok (.value (.pointer (some p))) W := by
 unfold execOp
 simp only [ho, hx, Sem.run_pure]
def fieldOff (P : Program) (s : TypeId) (k : Nat) : Option Nat :=
 match P.underlying s with
 | some (.struct fs) => match fs[k]? with
   | some f => match P.info? f.type with
     | some i => if i.size = 0 then none else some f.offset
     | none => none
   | none => none
 | _ => none
theorem exec_field {s : TypeId} {k d b off : Nat} {x : Operand} (ho : o.op = .fieldAddr s x k) (hx : a.eval x = .pointer (some ⟨b, off, none⟩)) (hf : fieldOff P s k = some d) :
 (execOp a.eval o).run P W = .ok (.value (.pointer (some ⟨b, off + d, none⟩))) W := by
 unfold execOp
 unfold fieldOff at hf
 split at hf
 ·rename_i fs hu
  split at hf
  ·rename_i f hfs
   split at hf
   ·rename_i i hi
    split at hf
    ·cases hf
    ·rename_i hz
     cases hf
     simp [ho, hx, Instr.fieldAt, run_underlying hu, hfs, Instr.sureAddr, fieldPlace, sizeOf, typeInfo, hi, hz, add_nat, Result.andThen]
   ·cases hf
  ·cases hf
 ·cases hf
def plainB (P : Program) (t : TypeId) : Bool :=
 match P.underlying t with
 | some (.struct _) | some (.array _ _) | none => false
 | _ => true
theorem exec_load1 {ty : TypeId} {x : Operand} {p : Addr} {v : Value} (ho : o.op = .load ty x) (hx : a.eval x = .pointer (some p)) (hp : plainB P ty = true) (hc : W.cell? p = some v) : (execOp a.eval o).run P W = .ok (.value v) W := by
 unfold execOp
 have hagg : (isAgg ty).run P W = .ok false W := by
  unfold isAgg
  unfold plainB at hp
  split at hp
  ·cases hp
  ·cases hp
  ·cases hp
  ·rename_i h1 h2 h3
   cases hu : P.underlying ty with
   | none => exact absurd hu h3
   | some d =>
     rw [Sem.run_bind, run_underlying hu W]
     cases d <;> first | rfl | exact absurd hu (h1 _) | exact absurd hu (h2 _ _)
 simp [ho, hx, Instr.loadAt, Instr.sureAddr, loadVar, hagg, hc, Result.andThen]
theorem exec_buildSlice1 {t : TypeId} {x : Operand} {u v : Value} {W' : World} (ho : o.op = .buildSlice t 1 #[(0, x)]) (hx : a.eval x = u) (h : (Instr.buildSlice t 1 #[(0, u)]).run P W = .ok v W') : (execOp a.eval o).run P W = .ok (.value v) W' := by
 unfold execOp
 simp only [ho, List.map_toArray, List.map_cons, List.map_nil, hx, h, Sem.run_bind, Sem.run_pure, Result.andThen_ok]
theorem exec_append {t : TypeId} {x y : Operand} {u v r : Value} {W' : World} (ho : o.op = .call { callee := .builtin .append, args := #[x, y], argTypes := #[t, t] }) (hx : a.eval x = u) (hy : a.eval y = v) (hr : (Builtin.append_ #[t, t] o.type #[u, v]).run P W = .ok r W') :
 (execOp a.eval o).run P W = .ok (.value r) W' := by
 unfold execOp
 simp only [ho, resolve, invoke, builtin, Sem.run_bind, Sem.run_pure, Result.andThen_ok, List.map_toArray, List.map_cons, List.map_nil, hx, hy, hr]
end
theorem gx_iaddr {P : Program} {a : Act} {o : Oper} {W : World} {t e : TypeId} {x y : Operand} {b off n c i sz m : Nat} {k : IntKind} (ho : o.op = .indexAddr t x y) (hx : a.eval x = .slice (some ⟨b, off, none⟩) n c) (hy : a.eval y = .int k (i : Int))
 (ht : P.underlying t = some (.slice e)) (hs : (P.info? e).map (·.size) = some sz) (hi : i < n) (hm : off + i * sz = m) : (execOp a.eval o).run P W = .ok (.value (.pointer (some ⟨b, m, none⟩))) W := by
 obtain ⟨j, hj, hjs⟩ := Option.map_eq_some_iff.1 hs
 subst hm
 unfold execOp
 simp [ho, hx, hy, Instr.indexAt, run_underlying ht, asIntOf, sizeOf, typeInfo, hj, hjs, hi, add_nat, Result.andThen]
theorem gx_alloc {P : Program} {a : Act} {o : Oper} {W : World} {t : TypeId} {z : Value} (ho : o.op = .alloc t) (hz : (zeroValue t).run P W = .ok z W) :
 (execOp a.eval o).run P W = .ok (.value (.pointer (some ⟨W.heap.size, 0, none⟩))) (W.alloc (.cells z.cells t)) := by
 unfold execOp
 simp [ho, Instr.alloc, hz, newVar, Result.andThen, newRow]
theorem gx_build2 {P : Program} {a : Act} {o : Oper} {t : TypeId} {x0 x1 : Operand} {u0 u1 r : Value} {W : World} (ho : o.op = .build t #[(0, x0), (1, x1)]) (h0 : a.eval x0 = u0) (h1 : a.eval x1 = u1)
 (h : (Instr.build t #[(0, u0), (1, u1)]).run P W = .ok r W) : (execOp a.eval o).run P W = .ok (.value r) W := by
 unfold execOp
 simp only [ho, List.map_toArray, List.map_cons, List.map_nil, h0, h1, h, Sem.run_bind, Sem.run_pure, Result.andThen_ok]
theorem gx_assign {P : Program} {a : Act} {o : Oper} {W : World} {x : Operand} {v : Value} (ho : o.op = .assign x) (hx : a.eval x = v) : (execOp a.eval o).run P W = .ok (.value v) W := by
 unfold execOp
 simp only [ho, hx, Sem.run_pure]
theorem gx_make {P : Program} {a : Act} {o : Oper} {t : TypeId} {x y : Operand} {u u' v : Value} {W W' : World} (ho : o.op = .makeSlice t x y) (hx : a.eval x = u) (hy : a.eval y = u') (h : (Instr.makeSlice t u u').run P W = .ok v W') : (execOp a.eval o).run P W = .ok (.value v) W' := by
 unfold execOp
 simp only [ho, hx, hy, h, Sem.run_bind, Sem.run_pure, Result.andThen_ok]
theorem gx_len {P : Program} {a : Act} {o : Oper} {W : World} {x : Operand} {t : TypeId} {e : TypeId} {A : Option Addr} {n c : Nat} (ho : o.op = .call { callee := .builtin .len, args := #[x], argTypes := #[t] }) (hx : a.eval x = .slice A n c) (ht : P.underlying t = some (.slice e)) : (execOp a.eval o).run P W = .ok (.value (.int .i64 (n : Int))) W := by
 unfold execOp
 simp [ho, hx, resolve, invoke, builtin, Builtin.len_, run_underlying ht, Result.andThen]
 rfl
theorem wpList_store_mid {P : Program} {ops : Array Oper} {rest : List Oper} {o : Oper} {a : Act} {w : World} {Q : Exit → Act → World → Prop} (hgd : Region.wanted o (yielded ops a.tmps) = true) (ty : TypeId) (x y : Operand) (ho : o.op = .store ty x y) {g off : Nat} {t : TypeId} {old : Array Value} (cells : Array Value) (hb : Blk w g t old)
 (hx : a.eval x = .pointer (some ⟨g, off, none⟩)) (hy : a.eval y = .agg cells) (hs : off + cells.size ≤ old.size) (hi : (P.info? ty).map (·.size) = some cells.size) (h1 : ∀ v ∈ cells.toList, v.oneCell' = true)
 (h : ∀ w' C', Blk w' g t C' → C'.size = old.size → (∀ j, C'[j]? = if off ≤ j ∧ j < off + cells.size then cells[j - off]? else old[j]?) → Turn (only g) w w' → wpList P ops Q rest (a.put o.dst undef) w') : wpList P ops Q (o :: rest) a w :=
 wpList_step fun K hK => by
  rw [if_pos hgd]
  have hr := run_storeAt_mid (P := P) w g off ty cells (blk_there hb off _ hs) hi (Array.all_eq_true_iff_forall_mem.2 fun v hv => h1 v (by simpa using hv))
  obtain ⟨C', c1, c2, c3⟩ := setCells_blk cells.toList w g off t old hb
  have ht := setCells_turn cells.toList w g off
  generalize w.setCells g off cells.toList = w' at *
  unfold Oper.wp execOp
  simp only [ho, hx, hy, hr, Sem.run_bind, Sem.run_pure, Result.andThen_ok]
  refine hK _ _ (h w' C' c1 c2 (fun j => ?_) ht)
  rw [c3]
  have hl : cells.toList.length = cells.size := by simp
  rw [hl]
  by_cases hj : off ≤ j ∧ j < off + cells.size
  ·rw [if_pos hj, if_pos ⟨hj.1, hj.2, by omega⟩, Array.getElem?_toList]
  ·rw [if_neg hj, if_neg (by omega)]
theorem wpList_store1 {P : Program} {ops : Array Oper} {rest : List Oper} {o : Oper} {a : Act} {w : World} {Q : Exit → Act → World → Prop} (hgd : Region.wanted o (yielded ops a.tmps) = true) (ty : TypeId) (x y : Operand) (ho : o.op = .store ty x y) {g i : Nat} {t : TypeId} {old : Array Value} {v : Value} (hb : Blk w g t old)
 (hx : a.eval x = .pointer (some ⟨g, i, none⟩)) (hy : a.eval y = v) (hi : i < old.size) (hv : v.cells = #[v]) (h1 : v.oneCell' = true) (hsz : (P.info? ty).map (·.size) = some 1)
 (h : Blk (w.setCell ⟨g, i, none⟩ v) g t (old.setIfInBounds i v) → Turn (only g) w (w.setCell ⟨g, i, none⟩ v) → wpList P ops Q rest (a.put o.dst undef) (w.setCell ⟨g, i, none⟩ v)) : wpList P ops Q (o :: rest) a w :=
 wpList_step fun K hK => by
  rw [if_pos hgd]
  obtain ⟨j, hj, hjs⟩ := Option.map_eq_some_iff.1 hsz
  have hc : w.cell? ⟨g, i, none⟩ = some (old[i]) := by rw [hb.cell i, Array.getElem?_eq_getElem hi]
  have hf : w.frozen? ⟨g, i, none⟩ = false := hb.frozen i
  have hst : (Instr.storeAt ty (.pointer (some ⟨g, i, none⟩)) v).run P w = .ok () (w.setCell ⟨g, i, none⟩ v) := by
   have h0 : (⟨g, i, none⟩ : Addr).add 0 = ⟨g, i, none⟩ := by simp [Addr.add]
   simp [Instr.storeAt, storeVar, hv, Instr.sureAddr, sizeOf, typeInfo, hj, hjs, Result.andThen, storeCells, run_store _ _ _ _ _ h1, stored, h0, hc, hf]
  unfold Oper.wp execOp
  simp only [ho, hx, hy, hst, Sem.run_bind, Sem.run_pure, Result.andThen_ok]
  exact hK _ _ (h (hb.set_ i v) ((Turn.refl _ w).at_ i v))
section
variable {a : Act} {o : Oper} {W : World} {x y : Operand} {i j : Int}
theorem ix_lss {r : Bool} (ho : o.op = .binOp .lss 3 x y 3) (hx : a.eval x = .int .i64 i) (hy : a.eval y = .int .i64 j) (h : decide (i < j) = r) : (execOp a.eval o).run Tryz.prog W = .ok (.value (.bool r)) W := by
 subst h
 unfold execOp
 simp only [ho, hx, hy]
 go_simp
theorem ix_leq {r : Bool} (ho : o.op = .binOp .leq 3 x y 3) (hx : a.eval x = .int .i64 i) (hy : a.eval y = .int .i64 j) (h : decide (i ≤ j) = r) : (execOp a.eval o).run Tryz.prog W = .ok (.value (.bool r)) W := by
 subst h
 unfold execOp
 simp only [ho, hx, hy]
 go_simp
theorem ix_gtr {r : Bool} (ho : o.op = .binOp .gtr 3 x y 3) (hx : a.eval x = .int .i64 i) (hy : a.eval y = .int .i64 j) (h : decide (j < i) = r) : (execOp a.eval o).run Tryz.prog W = .ok (.value (.bool r)) W := by
 subst h
 unfold execOp
 simp only [ho, hx, hy]
 go_simp
theorem ix_geq {r : Bool} (ho : o.op = .binOp .geq 3 x y 3) (hx : a.eval x = .int .i64 i) (hy : a.eval y = .int .i64 j) (h : decide (j ≤ i) = r) : (execOp a.eval o).run Tryz.prog W = .ok (.value (.bool r)) W := by
 subst h
 unfold execOp
 simp only [ho, hx, hy]
 go_simp
theorem ix_eql {t u : TypeId} {r : Bool} (ho : o.op = .binOp .eql t x y u) (hx : a.eval x = .int .i64 i) (hy : a.eval y = .int .i64 j) (h : decide (i = j) = r) : (execOp a.eval o).run Tryz.prog W = .ok (.value (.bool r)) W := by
 subst h
 unfold execOp
 simp [ho, hx, hy, eqGuard]
 go_simp
 by_cases hij : i = j <;> simp [hij]
theorem ix_neq {t u : TypeId} {r : Bool} (ho : o.op = .binOp .neq t x y u) (hx : a.eval x = .int .i64 i) (hy : a.eval y = .int .i64 j) (h : decide (i ≠ j) = r) : (execOp a.eval o).run Tryz.prog W = .ok (.value (.bool r)) W := by
 subst h
 unfold execOp
 simp [ho, hx, hy, eqGuard]
 go_simp
 by_cases hij : i = j <;> simp [hij]
theorem ix_add {r : Int} (ho : o.op = .binOp .add 3 x y 3) (hx : a.eval x = .int .i64 i) (hy : a.eval y = .int .i64 j) (h : i + j = r) (hb : -9223372036854775808 ≤ r ∧ r ≤ 9223372036854775807) : (execOp a.eval o).run Tryz.prog W = .ok (.value (.int .i64 r)) W := by
 have hw : IntKind.i64.wrap r = r := by rw [IntKind.wrap_i64]; omega
 unfold execOp
 simp only [ho, hx, hy]
 go_simp
 try exact hw
theorem ix_sub {r : Int} (ho : o.op = .binOp .sub 3 x y 3) (hx : a.eval x = .int .i64 i) (hy : a.eval y = .int .i64 j) (h : i - j = r) (hb : -9223372036854775808 ≤ r ∧ r ≤ 9223372036854775807) : (execOp a.eval o).run Tryz.prog W = .ok (.value (.int .i64 r)) W := by
 have hw : IntKind.i64.wrap r = r := by rw [IntKind.wrap_i64]; omega
 unfold execOp
 simp only [ho, hx, hy]
 go_simp
 try exact hw
theorem ix_mul {r : Int} (ho : o.op = .binOp .mul 3 x y 3) (hx : a.eval x = .int .i64 i) (hy : a.eval y = .int .i64 j) (h : i * j = r) (hb : -9223372036854775808 ≤ r ∧ r ≤ 9223372036854775807) : (execOp a.eval o).run Tryz.prog W = .ok (.value (.int .i64 r)) W := by
 have hw : IntKind.i64.wrap r = r := by rw [IntKind.wrap_i64]; omega
 unfold execOp
 simp only [ho, hx, hy]
 go_simp
 try (rw [h]; exact hw)
theorem ix_b2i {k : Nat} (hk : k < 256) (ho : o.op = .convert 5 3 x) (hx : a.eval x = .int .u8 (k : Int)) : (execOp a.eval o).run Tryz.prog W = .ok (.value (.int .i64 (k : Int))) W := by
 unfold execOp
 simp only [ho, hx]
 go_simp
 rw [IntKind.wrap_i64]
 omega
theorem ix_i2b {k : Nat} (ho : o.op = .convert 3 5 x) (hx : a.eval x = .int .i64 (k : Int)) : (execOp a.eval o).run Tryz.prog W = .ok (.value (.int .u8 (((UInt8.ofNat k).toNat : Nat) : Int))) W := by
 unfold execOp
 simp only [ho, hx]
 go_simp
 simp [IntKind.wrap, IntKind.bits, IntKind.signed]
theorem ix_not {t : TypeId} {b : Bool} (ho : o.op = .unOp .not t x) (hx : a.eval x = .bool b) : (execOp a.eval o).run Tryz.prog W = .ok (.value (.bool (!b))) W := by
 unfold execOp
 simp only [ho, hx]
 go_simp
theorem ix_pickT {c : Operand} {v : Value} (ho : o.op = .pick c x y) (hc : a.eval c = .bool true) (hx : a.eval x = v) : (execOp a.eval o).run Tryz.prog W = .ok (.value v) W := by
 unfold execOp
 simp [ho, hc, hx, asBool, Result.andThen]
theorem ix_pickF {c : Operand} {v : Value} (ho : o.op = .pick c x y) (hc : a.eval c = .bool false) (hy : a.eval y = v) : (execOp a.eval o).run Tryz.prog W = .ok (.value v) W := by
 unfold execOp
 simp [ho, hc, hy, asBool, Result.andThen]
theorem ix_extract {n : Nat} {vs : Array Value} {v : Value} (ho : o.op = .extract x n) (hx : a.eval x = .tuple vs) (hv : vs[n]? = some v) : (execOp a.eval o).run Tryz.prog W = .ok (.value v) W := by
 unfold execOp
 simp only [ho, hx]
 go_simp
end
section
variable {P : Program} {md : Region.Mode} {ops : Array Oper} {Q : Exit → Act → World → Prop} {S : World → Prop}
def Alw (P : Program) (md : Region.Mode) (ops : Array Oper) (Q : Exit → Act → World → Prop) (S : World → Prop) : Nat → Array Bool → Act → World → Prop
 | 0, l, a, w => Region.ready md ops l = [] ∧ Q .normal a w
 | n + 1, l, a, w => (Region.ready md ops l = [] → Q .normal a w) ∧
  ∀ i ∈ Region.ready md ops l, wpOp P ops Q i (fun a' w' => S w' ∧ Alw P md ops Q S n (l.setIfInBounds i true) a' w') a w
theorem alw_any : ∀ (n : Nat) (l : Array Bool) (a : Act) (w : World), Alw P md ops Q S n l a w → wpAny P md ops Q n l a w
 | 0, _, _, _, h => h
 | n + 1, _, _, _, h => ⟨h.1, fun i hi => wpOp_mono (fun _ _ h' => alw_any n _ _ _ h'.2) (h.2 i hi)⟩
theorem alw_first {i : Nat} {o : Oper} {v : Value} (hi : ops[i]? = some o) (hsel : ∀ (j : Nat) (o : Oper) cs b, ops[j]? = some o → o.op ≠ .select cs b) :
 ∀ (n : Nat) (l : Array Bool) (a : Act) (w : World),
  (∀ j oj, ops[j]? = some oj → j ≠ i → l.getD j true = false → (∀ e ∈ oj.after, Region.binds md e = true → e.on ≠ i) → o.apart ops oj = true) →
  i ∈ Region.ready md ops l → YieldsIf P ops S o v a → S w → (∀ c a w, Q (.panic c) (a.put o.dst v) w → Q (.panic c) a w) →
  Alw P md ops Q S n (l.setIfInBounds i true) (a.put o.dst v) w → Alw P md ops Q S (n + 1) l a w := by
 have hread : ∀ (l : Array Bool) (j : Nat), i ∈ Region.ready md ops l → j ∈ Region.ready md ops l → j ≠ i → ∃ oj, ops[j]? = some oj ∧ l.getD j true = false ∧ ∀ e ∈ oj.after, Region.binds md e = true → e.on ≠ i := by
  intro l j hr hj hji
  obtain ⟨h0, oj, hoj, hall⟩ := mem_ready.1 hj
  have hun := (mem_ready.1 hr).1
  refine ⟨oj, hoj, h0, fun e he hb heq => ?_⟩
  have h2 := hall e he hb
  rw [heq] at h2
  rcases Nat.lt_or_ge i l.size with hlt | hge
  ·rw [Array.getD_eq_getD_getElem?, Array.getElem?_eq_getElem hlt] at h2 hun
   simp only [Option.getD_some] at h2 hun
   rw [h2] at hun
   cases hun
  ·rw [Array.getD_eq_getD_getElem?, Array.getElem?_eq_none hge] at h2
   cases h2
 intro n
 induction n with
 | zero =>
   intro l a w _ hr hy hS _ H
   refine ⟨fun h => (by rw [h] at hr; cases hr), fun j hj => ?_⟩
   by_cases hji : j = i
   ·subst hji
    exact hy.wpOp hi hS ⟨hS, H⟩
   ·have := ready_mono hj hji
    rw [H.1] at this
    cases this
 | succ n ih =>
   intro l a w hfree hr hy hS hQ H
   refine ⟨fun h => (by rw [h] at hr; cases hr), fun j hj => ?_⟩
   by_cases hji : j = i
   ·subst hji
    exact hy.wpOp hi hS ⟨hS, H⟩
   ·obtain ⟨oj, hoj, hjun, hno⟩ := hread l j hr hj hji
    have h1 := H.2 j (ready_mono hj hji)
    have h2 := wpOp_putIf hoj (hfree j oj hoj hji hjun hno) (fun cs b => hsel i o cs b hi) (fun cs b => hsel j oj cs b hoj) hQ hy h1
    refine wpOp_mono (fun a' w' h3 => ⟨h3.2.1, ih (l.setIfInBounds j true) a' w' ?_ (ready_mono hr (Ne.symm hji)) h3.1 h3.2.1 hQ ?_⟩) h2
    ·intro m om hm hmi hun hn
     refine hfree m om hm hmi ?_ hn
     by_cases hjm : j = m
     ·subst hjm
      exact hjun
     ·rwa [getD_set_ne true hjm] at hun
    ·rw [Array.setIfInBounds_comm _ _ hji]
     exact h3.2.2
theorem alw_take {i : Nat} {o : Oper} {v : Value} {n : Nat} {l : Array Bool} {a : Act} {w : World} (hi0 : ops.toList[i]? = some o) (hs : Region.noSelect ops = true)
 (hf : (Region.free md ops l i && (Region.ready md ops l).contains i) = true)
 (hQ : ∀ c a w, Q (.panic c) (a.put o.dst v) w → Q (.panic c) a w) (hy : YieldsIf P ops S o v a) (hS : S w)
 (h : Alw P md ops Q S n (l.setIfInBounds i true) (a.put o.dst v) w) : Alw P md ops Q S (n + 1) l a w := by
 have hi : ops[i]? = some o := by rw [← hi0, Array.getElem?_toList]
 simp only [Bool.and_eq_true] at hf
 exact alw_first hi (Region.noSelect_spec hs) n l a w (Region.free_spec hi hf.1) (by simpa using hf.2) hy hS hQ h
theorem alw_step {i : Nat} {o : Oper} {n : Nat} {l : Array Bool} {a : Act} {w : World} (hr : Region.ready md ops l = [i]) (ho0 : ops.toList[i]? = some o) (hw : Region.wanted o (yielded ops a.tmps) = true)
 (h : ∀ K : Act → World → Prop, Shut (∀ a' w', (S w' ∧ Alw P md ops Q S n (l.setIfInBounds i true) a' w') → K a' w') → o.wp P a w K Q) : Alw P md ops Q S (n + 1) l a w := by
 have ho : ops[i]? = some o := by rw [← ho0, Array.getElem?_toList]
 refine ⟨fun h0 => (by rw [h0] at hr; cases hr), fun j hj => ?_⟩
 rw [hr] at hj
 obtain rfl : j = i := by simpa using hj
 unfold wpOp
 simp only [ho, hw, if_true]
 exact .inl (h _ fun _ _ h' => h')
theorem alw_done {n : Nat} {l : Array Bool} {a : Act} {w : World} (hr : Region.ready md ops l = []) (h : Q .normal a w) : Alw P md ops Q S n l a w := by
 cases n with
 | zero => exact ⟨hr, h⟩
 | succ n => exact ⟨fun _ => h, fun j hj => by rw [hr] at hj; cases hj⟩
theorem wp_region_alw (S : World → Prop) {id : Nat} {a : Act} {w : World} (hm : P.follows .mixedOrders = true)
 (h : Alw P .any ops (NoPanic Q) S ops.size (Array.replicate ops.size false) a w.drew) : (Code.region id ops true).wp P Q a w :=
 wp_region_noPanic (wp_region_any hm (alw_any _ _ _ _ h))
end
theorem zz : (∀ (t : Array Value) (ds) (d : Nat) (v : Value), Act.put ⟨t, ds⟩ (some d) v = ⟨t.setIfInBounds d v, ds⟩) ∧ (∀ (a : Act) (v : Value), a.put none v = a) ∧ (∀ (l : List Value) (i : Nat) (a : Value), l.toArray.setIfInBounds i a = (l.set i a).toArray) ∧ (∀ (x : Value) (xs : List Value) (a : Value), (x :: xs).set 0 a = a :: xs) ∧ (∀ (x : Value) (xs : List Value) (i : Nat) (a : Value), (x :: xs).set (i + 1) a = x :: xs.set i a) :=
 ⟨fun _ _ _ _ => rfl, fun _ _ => rfl, fun l i a => List.setIfInBounds_toArray l i a, fun _ _ _ => List.set_cons_zero, fun _ _ _ _ => List.set_cons_succ⟩
theorem zH {p : Prop} (h : p) : RowKit.Hid p := h
section
variable {P : Program} {ops : Array Oper} {rest : List Oper} {o : Oper} {a : Act} {w : World} {Q : Exit → Act → World → Prop}
theorem wR (hgd : Region.wanted o (yielded ops a.tmps) = true) {v : Value} {w' : World} (hr : (execOp a.eval o).run P w = .ok (.value v) w') (h : wpList P ops Q rest (a.put o.dst v) w') : wpList P ops Q (o :: rest) a w := wpList_run hgd hr h
theorem wM {x : Operand} (v : Value) (h : wpList P ops Q rest (a.put o.dst v) w) (hgd : Region.wanted o (yielded ops a.tmps) = true := by rfl) (ho : o.op = .move x := by rfl) (hx : a.eval x = v := by rfl) : wpList P ops Q (o :: rest) a w := wpList_run hgd (exec_move ho hx) h
theorem wA {x : Operand} (v : Value) (h : wpList P ops Q rest (a.put o.dst v) w) (hgd : Region.wanted o (yielded ops a.tmps) = true := by rfl) (ho : o.op = .assign x := by rfl) (hx : a.eval x = v := by rfl) : wpList P ops Q (o :: rest) a w := wpList_run hgd (gx_assign ho hx) h
theorem wE {xs : Array Value} {x : Operand} {n : Nat} (v : Value) (h : wpList Tryz.prog ops Q rest (a.put o.dst v) w) (hgd : Region.wanted o (yielded ops a.tmps) = true := by rfl) (ho : o.op = .extract x n := by rfl) (hx : a.eval x = .tuple xs := by rfl) (hv : xs[n]? = some v := by rfl) : wpList Tryz.prog ops Q (o :: rest) a w := wpList_run hgd (ix_extract ho hx hv) h
end
theorem Turn.next {F : Nat → Prop} {w w1 w' : World} (h : Turn F w w1) (g : Turn F w1 w') : Turn F w w' := h.trans g (fun _ _ e => e)
theorem aT {P : Program} {md : Region.Mode} {ops : Array Oper} {Q : Exit → Act → World → Prop} {S : World → Prop} {i : Nat} {o : Oper} {v : Value} {n : Nat} {l : Array Bool} {a : Act} {w : World} (hi0 : ops.toList[i]? = some o) (hs : Region.noSelect ops = true)
 (hf : (Region.free md ops l i && (Region.ready md ops l).contains i) = true) (hr : ∀ W, S W → (execOp a.eval o).run P W = .ok (.value v) W) (hS : S w)
 (h : Alw P md ops (NoPanic Q) S n (l.setIfInBounds i true) (a.put o.dst v) w) (hgd : Region.wanted o (yielded ops a.tmps) = true := by rfl) : Alw P md ops (NoPanic Q) S (n + 1) l a w :=
 alw_take hi0 hs hf (fun _ _ _ h => h) (.inl ⟨hgd, hr⟩) hS h
theorem tT {P : Program} {md : Region.Mode} {ops : Array Oper} {Q : Exit → Act → World → Prop} {S : World → Prop} {k i : Nat} {o : Oper} {v : Value} {n : Nat} {l : Array Bool} {a : Act} {w : World} (hi0 : ops.toList[i]? = some o) (hs : Region.noSelect ops = true)
 (hf : (Region.free md ops l i && (Region.ready md ops l).contains i && Region.waitsFor md ops k i && !(l.getD k true) && decide (k ≠ i)) = true) (hr : ∀ W, S W → (execOp a.eval o).run P W = .ok (.value v) W) (hS : S w)
 (h : Till P md ops (NoPanic Q) S k n (l.setIfInBounds i true) (a.put o.dst v) w) (hgd : Region.wanted o (yielded ops a.tmps) = true := by rfl) : Till P md ops (NoPanic Q) S k (n + 1) l a w :=
 till_take hi0 hs hf (fun _ _ _ h => h) (.inl ⟨hgd, hr⟩) hS h
end Go.Proofs.YticofobhkmabiaaGreatDoor
namespace Go.Proofs.YticofobhkmabiaaGreatDoor.Fdd
def dec : List UInt8 := [48, 49, 50, 51, 52, 53, 54, 55, 56, 57]
def hexs : List UInt8 := [48, 49, 50, 51, 52, 53, 54, 55, 56, 57, 97, 98, 99, 100, 101, 102]
def sgn : List UInt8 := [48, 49, 50, 51, 52, 53, 54, 55, 56, 57, 65, 66, 67, 68, 69, 70, 71, 72, 73, 74, 75, 76, 77, 78, 79, 80, 81, 82, 83, 84, 85, 86, 87, 88, 89, 90, 32]
def mk : List UInt8 := [67, 68]
def hexU : List UInt8 := [48, 49, 50, 51, 52, 53, 54, 55, 56, 57, 65, 66, 67, 68, 69, 70]
def eDec : List UInt8 := [240, 241, 242, 243, 244, 245, 246, 247, 248, 249]
def eSgn : List UInt8 := [240, 241, 242, 243, 244, 245, 246, 247, 248, 249, 193, 194, 195, 196, 197, 198, 199, 200, 201, 209, 210, 211, 212, 213, 214, 215, 216, 217, 226, 227, 228, 229, 230, 231, 232, 233, 64]
def eMk : List UInt8 := [195, 196]
structure Rw where
 d : List UInt8
 h : List UInt8
 s : List UInt8
 m : List UInt8
def rws : Nat → Rw
 | 1 => ⟨dec, hexU, sgn, mk⟩
 | 2 => ⟨[], [], sgn, mk⟩
 | 3 => ⟨eDec, [], eSgn, eMk⟩
 | _ => ⟨[], [], [], []⟩
structure Pt where
 n : Nat
 chars : List UInt8
 stands : List UInt8
structure Fm where
 kind : Int
 size : Int
 code : Int
def ptsOf (kind code : Int) (n : Nat) : List Pt :=
 if kind = 3 then [⟨n, sgn, (rws code.toNat).s⟩]
 else if kind = 4 then [⟨2 * n, hexs, (rws code.toNat).h⟩]
 else if kind = 5 then [⟨1, mk, (rws code.toNat).m⟩, ⟨n, dec, (rws code.toNat).d⟩]
 else [⟨n, dec, (rws code.toNat).d⟩]
def onlyOf (l cs : List UInt8) : Bool := l.all (cs.contains ·)
def Fm.may (f : Fm) : Bool := decide (1 ≤ f.kind ∧ f.kind ≤ 5) && (decide (1 ≤ f.code ∧ f.code ≤ 3) && decide (1 ≤ f.size ∧ f.size ≤ 64))
def rightAll : List Pt → List UInt8 → Bool
 | [], t => t == []
 | p :: r, t => decide (p.n ≤ t.length) && (onlyOf (t.take p.n) p.chars && rightAll r (t.drop p.n))
def Fm.right (f : Fm) (t : List UInt8) : Bool :=
 if f.kind = 2 then decide (1 ≤ t.length ∧ (t.length : Int) ≤ f.size) && rightAll (ptsOf 2 f.code t.length) t else rightAll (ptsOf f.kind f.code f.size.toNat) t
def Fm.check (f : Fm) (t : List UInt8) : Int := if f.may = true then if f.right t = true then 0 else 41 else 40
def pack (chars : List UInt8) : List UInt8 → List UInt8
 | a :: b :: r => UInt8.ofNat (16 * chars.idxOf a + chars.idxOf b) :: pack chars r
 | _ => []
def padded (t : List UInt8) : List UInt8 := if t.length % 2 = 1 then 48 :: t else t
def unpack (chars : List UInt8) : List UInt8 → List UInt8
 | [] => []
 | x :: r => chars.getD (x.toNat / 16) 0 :: chars.getD (x.toNat % 16) 0 :: unpack chars r
def packOk (chars : List UInt8) (b : List UInt8) : Bool := b.all fun x => decide (x.toNat / 16 < chars.length) && decide (x.toNat % 16 < chars.length)
def Pt.size (p : Pt) : Nat := if p.stands = [] then (p.n + 1) / 2 else p.n
def one (from_ to_ : List UInt8) (c : UInt8) : UInt8 := to_.getD (from_.idxOf c) 0
def Pt.enc (p : Pt) (t : List UInt8) : List UInt8 := if p.stands = [] then pack p.chars (padded t) else t.map (one p.chars p.stands)
def unpacked (chars b : List UInt8) (n : Nat) : Option (List UInt8) :=
 if packOk chars b = true then if n % 2 = 1 ∧ (unpack chars b).getD 0 0 ≠ 48 then none else some ((unpack chars b).drop ((unpack chars b).length - n)) else none
def Pt.dec (p : Pt) (b : List UInt8) : Option (List UInt8) :=
 if p.stands = [] then unpacked p.chars b p.n else if onlyOf b p.stands = true then some (b.map (one p.stands p.chars)) else none
def encAll : List Pt → List UInt8 → List UInt8
 | [], _ => []
 | p :: r, t => p.enc (t.take p.n) ++ encAll r (t.drop p.n)
def sizeAll : List Pt → Nat
 | [] => 0
 | p :: r => p.size + sizeAll r
def decAll : List Pt → List UInt8 → Option (List UInt8)
 | [], _ => some []
 | p :: r, b => match p.dec (b.take p.size) with
   | none => none
   | some t => (decAll r (b.drop p.size)).map (t ++ ·)
def takeAll (ps : List Pt) (b : List UInt8) : Except Int (List UInt8 × List UInt8) :=
 if b.length < sizeAll ps then .error 43 else match decAll ps b with
  | none => .error 42
  | some t => .ok (t, b.drop (sizeAll ps))
def two (n : Nat) : List UInt8 := [UInt8.ofNat (48 + n / 10), UInt8.ofNat (48 + n % 10)]
def val (t : List UInt8) : Nat := t.foldl (fun a c => a * 10 + (c.toNat - 48)) 0
def Fm.put (f : Fm) (t : List UInt8) : List UInt8 :=
 if f.kind = 2 then encAll (ptsOf 1 f.code 2) (two t.length) ++ encAll (ptsOf 2 f.code t.length) t else encAll (ptsOf f.kind f.code f.size.toNat) t
def Fm.take (f : Fm) (b : List UInt8) : Except Int (List UInt8 × List UInt8) :=
 if f.may = true then
  if f.kind = 2 then match takeAll (ptsOf 1 f.code 2) b with
   | .error e => .error e
   | .ok (t, r) => if 1 ≤ val t ∧ (val t : Int) ≤ f.size then takeAll (ptsOf 2 f.code (val t)) r else .error 42
  else takeAll (ptsOf f.kind f.code f.size.toNat) b
 else .error 40
theorem index_mem : ∀ (l : List UInt8) (c : UInt8), c ∈ l → Lib.indexByte l c = (l.idxOf c : Int)
 | [], c, h => by cases h
 | b :: l, c, h => by
   unfold Lib.indexByte
   rw [List.idxOf_cons]
   by_cases e : b = c
   ·subst e
    simp
   ·have e' : (b == c) = false := by simpa using e
    have hm : c ∈ l := by
     rcases List.mem_cons.1 h with h | h
     ·exact absurd h.symm e
     ·exact h
    have ih := index_mem l c hm
    rw [e', ih]
    have : (((l.idxOf c : Nat) : Int) == -1) = false := by simp
    simp [this]
theorem index_not : ∀ (l : List UInt8) (c : UInt8), c ∉ l → Lib.indexByte l c = -1
 | [], _, _ => rfl
 | b :: l, c, h => by
   have h1 : (b == c) = false := by
    simp
    intro e
    exact h (e ▸ List.mem_cons_self ..)
   have h2 := index_not l c fun hm => h (List.mem_cons_of_mem _ hm)
   unfold Lib.indexByte
   simp [h1, h2]
theorem onlyOf_mem {l cs : List UInt8} (h : onlyOf l cs = true) {c : UInt8} (hc : c ∈ l) : c ∈ cs := by
 simpa using List.all_eq_true.1 h c hc
theorem idx_lt {cs : List UInt8} {c : UInt8} (h : c ∈ cs) : cs.idxOf c < cs.length := List.idxOf_lt_length_iff.2 h
theorem onlyOf_of {l cs : List UInt8} (h : ∀ c ∈ l, c ∈ cs) : onlyOf l cs = true := by
 unfold onlyOf
 rw [List.all_eq_true]
 intro c hc
 simpa using h c hc
theorem one_inv {a b : List UInt8} (ha : a.Nodup) (hb : b.Nodup) (hl : a.length = b.length) {x : UInt8} (hx : x ∈ a) : one a b x ∈ b ∧ one b a (one a b x) = x := by
 have hi : a.idxOf x < a.length := idx_lt hx
 have hib : a.idxOf x < b.length := by omega
 have e1 : one a b x = b[a.idxOf x] := by
  unfold one
  rw [List.getD_eq_getElem?_getD, List.getElem?_eq_getElem hib]
  rfl
 have e2 : b.idxOf (one a b x) = a.idxOf x := by
  rw [e1]
  exact List.Nodup.idxOf_getElem hb _ hib
 refine ⟨by rw [e1]; exact List.getElem_mem _, ?_⟩
 show a.getD (b.idxOf (one a b x)) 0 = x
 rw [e2, List.getD_eq_getElem?_getD, List.getElem?_eq_getElem hi]
 exact List.getElem_idxOf hi
structure GM (p : Pt) : Prop where
 c : p.chars.Nodup
 s : p.stands.Nodup
 z : p.stands = [] → p.chars[0]? = some 48 ∧ p.chars.length ≤ 16
 l : p.stands ≠ [] → p.stands.length = p.chars.length
theorem byte_of {a b : Nat} (ha : a < 16) (hb : b < 16) : (UInt8.ofNat (16 * a + b)).toNat = 16 * a + b := by
 rw [UInt8.toNat_ofNat']
 omega
theorem unpack_pack {ch : List UInt8} (hl : ch.length ≤ 16) : ∀ T : List UInt8, T.length % 2 = 0 → (∀ c ∈ T, c ∈ ch) → unpack ch (pack ch T) = T ∧ packOk ch (pack ch T) = true ∧ (pack ch T).length = T.length / 2
 | [], _, _ => ⟨rfl, rfl, rfl⟩
 | [_], h, _ => by simp at h
 | a :: b :: r, h, hm => by
   have ih := unpack_pack hl r (by simp at h; omega) fun c hc => hm c (List.mem_cons_of_mem _ (List.mem_cons_of_mem _ hc))
   have ha := hm a (List.mem_cons_self ..)
   have hb := hm b (List.mem_cons_of_mem _ (List.mem_cons_self ..))
   have ia := idx_lt ha
   have ib := idx_lt hb
   have hx := byte_of (a := ch.idxOf a) (b := ch.idxOf b) (by omega) (by omega)
   have h1 : (16 * ch.idxOf a + ch.idxOf b) / 16 = ch.idxOf a := by omega
   have h2 : (16 * ch.idxOf a + ch.idxOf b) % 16 = ch.idxOf b := by omega
   have g : ∀ c, c ∈ ch → ch.getD (ch.idxOf c) 0 = c := fun c hc => by
    rw [List.getD_eq_getElem?_getD, List.getElem?_eq_getElem (idx_lt hc)]
    exact List.getElem_idxOf (idx_lt hc)
   refine ⟨?_, ?_, ?_⟩
   ·simp only [pack, unpack, hx, h1, h2, ih.1, g a ha, g b hb]
   ·have h3 := ih.2.1
    unfold packOk at h3 ⊢
    rw [pack, List.all_cons, hx, h1, h2, decide_eq_true ia, decide_eq_true ib, h3]
    rfl
   ·simp only [pack, List.length_cons, ih.2.2]
    omega
theorem pack_unpack {ch : List UInt8} (hn : ch.Nodup) (hl : ch.length ≤ 16) : ∀ b : List UInt8, packOk ch b = true → pack ch (unpack ch b) = b ∧ (∀ c ∈ unpack ch b, c ∈ ch) ∧ (unpack ch b).length = 2 * b.length
 | [], _ => ⟨rfl, by simp [unpack], rfl⟩
 | x :: r, h => by
   unfold packOk at h
   rw [List.all_cons, Bool.and_eq_true, Bool.and_eq_true, decide_eq_true_eq, decide_eq_true_eq] at h
   obtain ⟨⟨h1, h2⟩, h3⟩ := h
   have ih := pack_unpack hn hl r h3
   have g : ∀ i, i < ch.length → ch.getD i 0 ∈ ch ∧ ch.idxOf (ch.getD i 0) = i := fun i hi => by
    rw [List.getD_eq_getElem?_getD, List.getElem?_eq_getElem hi]
    exact ⟨List.getElem_mem _, List.Nodup.idxOf_getElem hn _ hi⟩
   refine ⟨?_, ?_, ?_⟩
   ·simp only [unpack, pack, (g _ h1).2, (g _ h2).2, ih.1]
    congr 1
    apply UInt8.toNat_inj.1
    rw [UInt8.toNat_ofNat']
    have := x.toNat_lt
    omega
   ·intro c hc
    simp only [unpack, List.mem_cons] at hc
    rcases hc with rfl | rfl | hc
    ·exact (g _ h1).1
    ·exact (g _ h2).1
    ·exact ih.2.1 c hc
   ·simp only [unpack, List.length_cons, ih.2.2]
    omega
theorem padded_two (t : List UInt8) : (padded t).length % 2 = 0 ∧ (padded t).length / 2 = (t.length + 1) / 2 := by
 unfold padded
 by_cases h : t.length % 2 = 1
 ·rw [if_pos h, List.length_cons]
  omega
 ·rw [if_neg h]
  omega
theorem enc_dec {p : Pt} (h : GM p) {t : List UInt8} (ht : onlyOf t p.chars = true) (hn : t.length = p.n) : (p.enc t).length = p.size ∧ p.dec (p.enc t) = some t := by
 unfold Pt.enc Pt.size Pt.dec
 by_cases hs : p.stands = []
 ·obtain ⟨h0, h16⟩ := h.z hs
  rw [if_pos hs, if_pos hs, if_pos hs]
  have h48 : 48 ∈ p.chars := List.mem_of_getElem? h0
  have hm : ∀ c ∈ padded t, c ∈ p.chars := by
   intro c hc
   unfold padded at hc
   split at hc
   ·rcases List.mem_cons.1 hc with rfl | hc
    ·exact h48
    ·exact onlyOf_mem ht hc
   ·exact onlyOf_mem ht hc
  obtain ⟨h1, h2, h3⟩ := unpack_pack h16 (padded t) (padded_two t).1 hm
  refine ⟨by rw [h3, (padded_two t).2, hn], ?_⟩
  unfold unpacked
  rw [if_pos h2, h1]
  unfold padded
  by_cases ho : t.length % 2 = 1
  ·rw [if_pos ho, if_neg (by simp), List.length_cons, ← hn]
   rw [show t.length + 1 - t.length = 1 from by omega]
   rfl
  ·rw [if_neg ho, if_neg (by rw [← hn]; intro h; exact ho h.1), hn, Nat.sub_self, List.drop_zero]
 ·rw [if_neg hs, if_neg hs, if_neg hs]
  have hl := h.l hs
  refine ⟨by rw [List.length_map, hn], ?_⟩
  have hin : ∀ c ∈ t, one p.chars p.stands c ∈ p.stands ∧ one p.stands p.chars (one p.chars p.stands c) = c := fun c hc => one_inv h.c h.s hl.symm (onlyOf_mem ht hc)
  rw [if_pos (onlyOf_of fun c hc => by
   obtain ⟨d, hd, rfl⟩ := List.mem_map.1 hc
   exact (hin d hd).1)]
  rw [List.map_map]
  congr 1
  conv => rhs; rw [← List.map_id t]
  exact List.map_congr_left fun c hc => (hin c hc).2
theorem dec_enc {p : Pt} (h : GM p) {b t : List UInt8} (hd : p.dec b = some t) (hb : b.length = p.size) : t.length = p.n ∧ onlyOf t p.chars = true ∧ p.enc t = b := by
 unfold Pt.dec at hd
 unfold Pt.size at hb
 unfold Pt.enc
 by_cases hs : p.stands = []
 ·obtain ⟨h0, h16⟩ := h.z hs
  rw [if_pos hs] at hd hb ⊢
  unfold unpacked at hd
  by_cases hok : packOk p.chars b = true
  ·rw [if_pos hok] at hd
   obtain ⟨h1, h2, h3⟩ := pack_unpack h.c h16 b hok
   by_cases hbad : p.n % 2 = 1 ∧ (unpack p.chars b).getD 0 0 ≠ 48
   ·rw [if_pos hbad] at hd
    cases hd
   ·rw [if_neg hbad] at hd
    injection hd with hd
    have hlen : t.length = p.n := by
     rw [← hd, List.length_drop, h3]
     omega
    have honly : onlyOf t p.chars = true := onlyOf_of fun c hc => h2 c (by rw [← hd] at hc; exact List.mem_of_mem_drop hc)
    refine ⟨hlen, honly, ?_⟩
    have hpad : padded t = unpack p.chars b := by
     unfold padded
     by_cases ho : p.n % 2 = 1
     ·rw [hlen, if_pos ho, ← hd, h3, show 2 * b.length - p.n = 1 from by omega]
      cases hu : unpack p.chars b with
      | nil =>
        rw [hu] at h3
        simp at h3
        omega
      | cons x r =>
        have hx : x = 48 := by
         have := fun hne => hbad ⟨ho, hne⟩
         rw [hu] at this
         simpa using this
        rw [hx]
        rfl
     ·rw [hlen, if_neg ho, ← hd, h3, show 2 * b.length - p.n = 0 from by omega, List.drop_zero]
    rw [hpad, h1]
  ·rw [if_neg hok] at hd
   cases hd
 ·rw [if_neg hs] at hd hb ⊢
  have hl := h.l hs
  by_cases hok : onlyOf b p.stands = true
  ·rw [if_pos hok] at hd
   injection hd with hd
   have hin : ∀ c ∈ b, one p.stands p.chars c ∈ p.chars ∧ one p.chars p.stands (one p.stands p.chars c) = c := fun c hc => one_inv h.s h.c hl (onlyOf_mem hok hc)
   refine ⟨by rw [← hd, List.length_map, hb], ?_, ?_⟩
   ·rw [← hd]
    exact onlyOf_of fun c hc => by
     obtain ⟨d, hd', rfl⟩ := List.mem_map.1 hc
     exact (hin d hd').1
   ·rw [← hd, List.map_map]
    conv => rhs; rw [← List.map_id b]
    exact List.map_congr_left fun c hc => (hin c hc).2
  ·rw [if_neg hok] at hd
   cases hd
theorem enc_all : ∀ (ps : List Pt) (t rest : List UInt8), (∀ p ∈ ps, GM p) → rightAll ps t = true → (encAll ps t).length = sizeAll ps ∧ decAll ps (encAll ps t ++ rest) = some t
 | [], t, rest, _, h => by
   have : t = [] := by simpa [rightAll] using h
   subst this
   exact ⟨rfl, rfl⟩
 | p :: r, t, rest, hg, h => by
   have h' : p.n ≤ t.length ∧ onlyOf (t.take p.n) p.chars = true ∧ rightAll r (t.drop p.n) = true := by simpa [rightAll] using h
   obtain ⟨h1, h2, h3⟩ := h'
   obtain ⟨e1, e2⟩ := enc_dec (hg p (List.mem_cons_self ..)) h2 (by rw [List.length_take]; omega)
   obtain ⟨e3, e4⟩ := enc_all r (t.drop p.n) rest (fun q hq => hg q (List.mem_cons_of_mem _ hq)) h3
   refine ⟨by rw [encAll, List.length_append, e1, e3]; rfl, ?_⟩
   unfold decAll
   rw [encAll, List.append_assoc, List.take_append_of_le_length (by omega), List.take_of_length_le (by omega), e2]
   simp only []
   rw [List.drop_append_of_le_length (by omega), List.drop_of_length_le (by omega), List.nil_append, e4]
   simp
theorem dec_all : ∀ (ps : List Pt) (b t : List UInt8), (∀ p ∈ ps, GM p) → sizeAll ps ≤ b.length → decAll ps b = some t → rightAll ps t = true ∧ encAll ps t = b.take (sizeAll ps)
 | [], b, t, _, _, h => by
   have : t = [] := by simpa [decAll] using h.symm
   subst this
   exact ⟨rfl, by simp [encAll, sizeAll]⟩
 | p :: r, b, t, hg, hl, h => by
   have hsz : sizeAll (p :: r) = p.size + sizeAll r := rfl
   rw [hsz] at hl
   unfold decAll at h
   cases hd : p.dec (b.take p.size) with
   | none => rw [hd] at h; cases h
   | some t1 =>
     rw [hd] at h
     simp only [Option.map_eq_some_iff] at h
     obtain ⟨t2, h2, rfl⟩ := h
     obtain ⟨e1, e2, e3⟩ := dec_enc (hg p (List.mem_cons_self ..)) hd (by rw [List.length_take]; omega)
     obtain ⟨e4, e5⟩ := dec_all r (b.drop p.size) t2 (fun q hq => hg q (List.mem_cons_of_mem _ hq)) (by rw [List.length_drop]; omega) h2
     have t1' : (t1 ++ t2).take p.n = t1 := by rw [List.take_append_of_le_length (by omega), List.take_of_length_le (by omega)]
     have t2' : (t1 ++ t2).drop p.n = t2 := by rw [List.drop_append_of_le_length (by omega), List.drop_of_length_le (by omega), List.nil_append]
     refine ⟨?_, ?_⟩
     ·unfold rightAll
      rw [t1', t2', e2, e4, decide_eq_true (by rw [List.length_append]; omega)]
      rfl
     ·rw [encAll, t1', t2', e3, e5, hsz, ← List.take_add]
theorem take_ok {ps : List Pt} (hg : ∀ p ∈ ps, GM p) {t rest : List UInt8} (h : rightAll ps t = true) : takeAll ps (encAll ps t ++ rest) = .ok (t, rest) := by
 obtain ⟨h1, h2⟩ := enc_all ps t rest hg h
 unfold takeAll
 rw [if_neg (by rw [List.length_append]; omega), h2]
 simp only []
 rw [List.drop_append_of_le_length (by omega), List.drop_of_length_le (by omega), List.nil_append]
theorem ok_take {ps : List Pt} (hg : ∀ p ∈ ps, GM p) {b t rest : List UInt8} (h : takeAll ps b = .ok (t, rest)) : rightAll ps t = true ∧ encAll ps t ++ rest = b := by
 unfold takeAll at h
 split at h
 ·cases h
 ·rename_i hl
  split at h
  ·cases h
  ·rename_i t' hd
   injection h with h
   injection h with h1 h2
   subst h1 h2
   obtain ⟨e1, e2⟩ := dec_all ps b t' hg (by omega) hd
   exact ⟨e1, by rw [e2, List.take_append_drop]⟩
theorem take_short {ps : List Pt} {b : List UInt8} (h : b.length < sizeAll ps) : takeAll ps b = .error 43 := by
 unfold takeAll
 rw [if_pos h]
theorem may_form {f : Fm} (h : f.may = true) : ∃ k s c : Nat, f = ⟨(k : Int), (s : Int), (c : Int)⟩ ∧ (1 ≤ k ∧ k ≤ 5) ∧ (1 ≤ c ∧ c ≤ 3) ∧ (1 ≤ s ∧ s ≤ 64) := by
 obtain ⟨k, s, c⟩ := f
 simp only [Fm.may, Bool.and_eq_true, decide_eq_true_eq] at h
 obtain ⟨h1, h2, h3⟩ := h
 refine ⟨k.toNat, s.toNat, c.toNat, ?_, by omega, by omega, by omega⟩
 rw [Int.toNat_of_nonneg (by omega), Int.toNat_of_nonneg (by omega), Int.toNat_of_nonneg (by omega)]
def gmB (p : Pt) : Bool := decide p.chars.Nodup && decide p.stands.Nodup && (!decide (p.stands = []) || (decide (p.chars[0]? = some 48) && decide (p.chars.length ≤ 16))) && (decide (p.stands = []) || decide (p.stands.length = p.chars.length))
theorem gm_of {p : Pt} (h : gmB p = true) : GM p := by
 unfold gmB at h
 simp only [Bool.and_eq_true, Bool.or_eq_true, decide_eq_true_eq, Bool.not_eq_true', decide_eq_false_iff_not] at h
 obtain ⟨⟨⟨h1, h2⟩, h3⟩, h4⟩ := h
 exact ⟨h1, h2, fun e => h3.resolve_left fun h => h e, fun e => h4.resolve_left e⟩
theorem gm_n {n m : Nat} {ch st : List UInt8} (h : gmB ⟨m, ch, st⟩ = true) : GM ⟨n, ch, st⟩ := gm_of h
theorem pts_gm {k : Int} {c n : Nat} (hc : 1 ≤ c ∧ c ≤ 3) : ∀ p ∈ ptsOf k (c : Int) n, GM p := by
 have hcc : c = 1 ∨ c = 2 ∨ c = 3 := by omega
 intro p hp
 unfold ptsOf at hp
 rw [Int.toNat_natCast] at hp
 split at hp
 ·simp only [List.mem_singleton] at hp
  subst hp
  rcases hcc with rfl | rfl | rfl <;> exact gm_n (m := 0) (by decide)
 ·split at hp
  ·simp only [List.mem_singleton] at hp
   subst hp
   rcases hcc with rfl | rfl | rfl <;> exact gm_n (m := 0) (by decide)
  ·split at hp
   ·simp only [List.mem_cons, List.not_mem_nil, or_false] at hp
    rcases hp with rfl | rfl
    ·rcases hcc with rfl | rfl | rfl <;> exact gm_n (m := 0) (by decide)
    ·rcases hcc with rfl | rfl | rfl <;> exact gm_n (m := 0) (by decide)
   ·simp only [List.mem_singleton] at hp
    subst hp
    rcases hcc with rfl | rfl | rfl <;> exact gm_n (m := 0) (by decide)
theorem two_len (n : Nat) : (two n).length = 2 := rfl
theorem two_ok {n : Nat} (h : n ≤ 99) : val (two n) = n ∧ onlyOf (two n) dec = true := by
 have key : ∀ n : Fin 100, val (two n.val) = n.val ∧ onlyOf (two n.val) dec = true := by decide +kernel
 exact key ⟨n, by omega⟩
theorem two_of {t : List UInt8} (hl : t.length = 2) (h : onlyOf t dec = true) : two (val t) = t ∧ val t ≤ 99 := by
 match t, hl with
 | [a, b], _ =>
   have ha := onlyOf_mem h (List.mem_cons_self ..)
   have hb := onlyOf_mem h (List.mem_cons_of_mem _ (List.mem_cons_self ..))
   have key : ∀ a ∈ dec, ∀ b ∈ dec, two (val [a, b]) = [a, b] ∧ val [a, b] ≤ 99 := by decide +kernel
   exact key a ha b hb
theorem num_right (c : Int) (t : List UInt8) : rightAll (ptsOf 1 c 2) t = true ↔ t.length = 2 ∧ onlyOf t dec = true := by
 have e : ptsOf 1 c 2 = [⟨2, dec, (rws c.toNat).d⟩] := rfl
 rw [e]
 unfold rightAll rightAll
 simp only [Bool.and_eq_true, decide_eq_true_eq, beq_iff_eq, List.drop_eq_nil_iff]
 constructor
 ·rintro ⟨h1, h2, h3⟩
  rw [List.take_of_length_le h3] at h2
  exact ⟨by omega, h2⟩
 ·rintro ⟨h1, h2⟩
  rw [List.take_of_length_le (by omega)]
  exact ⟨by omega, h2, by omega⟩
theorem right_len : ∀ (ps : List Pt) (t : List UInt8), rightAll ps t = true → t.length = (ps.map (·.n)).sum
 | [], t, h => by
   have : t = [] := by simpa [rightAll] using h
   subst this
   rfl
 | p :: r, t, h => by
   have h' : p.n ≤ t.length ∧ onlyOf (t.take p.n) p.chars = true ∧ rightAll r (t.drop p.n) = true := by simpa [rightAll] using h
   have ih := right_len r (t.drop p.n) h'.2.2
   rw [List.length_drop] at ih
   simp only [List.map_cons, List.sum_cons]
   omega
section
variable {k s c : Nat} {t b rest : List UInt8}
def nf (k s c : Nat) : Fm := ⟨(k : Int), (s : Int), (c : Int)⟩
theorem may_nf (hk : 1 ≤ k ∧ k ≤ 5) (hc : 1 ≤ c ∧ c ≤ 3) (hs : 1 ≤ s ∧ s ≤ 64) : (nf k s c).may = true := by
 show (decide (1 ≤ (k : Int) ∧ (k : Int) ≤ 5) && (decide (1 ≤ (c : Int) ∧ (c : Int) ≤ 3) && decide (1 ≤ (s : Int) ∧ (s : Int) ≤ 64))) = true
 rw [decide_eq_true (by omega), decide_eq_true (by omega), decide_eq_true (by omega)]
 rfl
theorem right_ll : (nf 2 s c).right t = (decide (1 ≤ t.length ∧ (t.length : Int) ≤ (s : Int)) && rightAll (ptsOf 2 (c : Int) t.length) t) := rfl
theorem right_nl (hk : k ≠ 2) : (nf k s c).right t = rightAll (ptsOf (k : Int) (c : Int) s) t := by
 unfold Fm.right nf
 rw [if_neg (by simp; omega)]
 rfl
theorem put_ll : (nf 2 s c).put t = encAll (ptsOf 1 (c : Int) 2) (two t.length) ++ encAll (ptsOf 2 (c : Int) t.length) t := rfl
theorem put_nl (hk : k ≠ 2) : (nf k s c).put t = encAll (ptsOf (k : Int) (c : Int) s) t := by
 unfold Fm.put nf
 rw [if_neg (by simp; omega)]
 rfl
theorem take_nl (hk : k ≠ 2) (hm : (nf k s c).may = true) : (nf k s c).take b = takeAll (ptsOf (k : Int) (c : Int) s) b := by
 unfold Fm.take
 rw [if_pos hm]
 unfold nf
 rw [if_neg (by simp; omega)]
 rfl
theorem take_ll (hm : (nf 2 s c).may = true) : (nf 2 s c).take b = match takeAll (ptsOf 1 (c : Int) 2) b with
 | .error e => .error e
 | .ok (t, r) => if 1 ≤ val t ∧ (val t : Int) ≤ (s : Int) then takeAll (ptsOf 2 (c : Int) (val t)) r else .error 42 := by
 unfold Fm.take
 rw [if_pos hm]
 rfl
theorem ll_right (h : (nf 2 s c).right t = true) : (1 ≤ t.length ∧ t.length ≤ s) ∧ rightAll (ptsOf 2 (c : Int) t.length) t = true := by
 rw [right_ll, Bool.and_eq_true, decide_eq_true_eq] at h
 exact ⟨⟨h.1.1, by omega⟩, h.2⟩
theorem fm_back (hk : 1 ≤ k ∧ k ≤ 5) (hc : 1 ≤ c ∧ c ≤ 3) (hs : 1 ≤ s ∧ s ≤ 64) (hr : (nf k s c).right t = true) : (nf k s c).take ((nf k s c).put t ++ rest) = .ok (t, rest) := by
 have hm := may_nf hk hc hs
 by_cases h2 : k = 2
 ·subst h2
  obtain ⟨hl, hr2⟩ := ll_right hr
  have h2k := two_ok (n := t.length) (by omega)
  rw [take_ll hm, put_ll, List.append_assoc, take_ok (pts_gm hc) ((num_right _ _).2 ⟨rfl, h2k.2⟩)]
  simp only []
  rw [h2k.1, if_pos ⟨hl.1, by omega⟩]
  exact take_ok (pts_gm hc) hr2
 ·rw [right_nl h2] at hr
  rw [take_nl h2 hm, put_nl h2]
  exact take_ok (pts_gm hc) hr
theorem fm_one (hk : 1 ≤ k ∧ k ≤ 5) (hc : 1 ≤ c ∧ c ≤ 3) (hs : 1 ≤ s ∧ s ≤ 64) (h : (nf k s c).take b = .ok (t, rest)) : (nf k s c).right t = true ∧ (nf k s c).put t ++ rest = b := by
 have hm := may_nf hk hc hs
 by_cases h2 : k = 2
 ·subst h2
  rw [take_ll hm] at h
  split at h
  ·cases h
  ·rename_i t1 r1 h1
   split at h
   ·rename_i hv
    obtain ⟨e1, e2⟩ := ok_take (pts_gm hc) h1
    obtain ⟨e3, e4⟩ := ok_take (pts_gm hc) h
    obtain ⟨l1, l2⟩ := (num_right _ _).1 e1
    obtain ⟨l3, l4⟩ := two_of l1 l2
    have hlen : t.length = val t1 := by
     have := right_len _ _ e3
     simpa [ptsOf] using this
    refine ⟨?_, ?_⟩
    ·rw [right_ll, hlen, decide_eq_true hv, e3]
     rfl
    ·rw [put_ll, hlen, l3, List.append_assoc, e4, e2]
   ·cases h
 ·rw [take_nl h2 hm] at h
  obtain ⟨e1, e2⟩ := ok_take (pts_gm hc) h
  rw [right_nl h2, put_nl h2]
  exact ⟨e1, e2⟩
theorem fm_len (hc : 1 ≤ c ∧ c ≤ 3) (hs : 1 ≤ s ∧ s ≤ 64) (hr : (nf k s c).right t = true) : ((nf k s c).put t).length = if k = 2 then sizeAll (ptsOf 1 (c : Int) 2) + sizeAll (ptsOf 2 (c : Int) t.length) else sizeAll (ptsOf (k : Int) (c : Int) s) := by
 by_cases h2 : k = 2
 ·subst h2
  obtain ⟨hl, hr2⟩ := ll_right hr
  have h2k := two_ok (n := t.length) (by omega)
  rw [if_pos rfl, put_ll, List.length_append, (enc_all _ _ [] (pts_gm hc) ((num_right _ _).2 ⟨rfl, h2k.2⟩)).1, (enc_all _ _ [] (pts_gm hc) hr2).1]
 ·rw [right_nl h2] at hr
  rw [if_neg h2, put_nl h2, (enc_all _ _ [] (pts_gm hc) hr).1]
theorem right_code {c' : Nat} (n : Nat) (kk : Int) : rightAll (ptsOf kk (c : Int) n) t = rightAll (ptsOf kk (c' : Int) n) t := by
 unfold ptsOf
 split
 ·rfl
 ·split
  ·rfl
  ·split
   ·rfl
   ·rfl
theorem fm_code {c' : Nat} : (nf k s c).right t = (nf k s c').right t := by
 unfold Fm.right nf
 simp only [right_code (c := c) (c' := c')]
end
end Go.Proofs.YticofobhkmabiaaGreatDoor.Fdd
namespace Go.Proofs.YticofobhkmabiaaGreatDoor
open Go.RowKit
def strV (l : List UInt8) : Value := .string ⟨l.toArray⟩
theorem str_size (l : List UInt8) : (ByteArray.mk l.toArray).size = l.length := by simp [ByteArray.size]
theorem str_ext (n m : Nat) (l : List UInt8) : (ByteArray.mk l.toArray).extract n m = ByteArray.mk ((l.take m).drop n).toArray := by
 apply ByteArray.ext
 apply Array.ext'
 rw [ByteArray.data_extract]
 simp [List.extract_eq_take_drop, List.drop_take]
theorem str_to (n : Nat) (l : List UInt8) : (ByteArray.mk l.toArray).extract 0 n = ByteArray.mk (l.take n).toArray := by rw [str_ext, List.drop_zero]
theorem str_from (n : Nat) (l : List UInt8) : (ByteArray.mk l.toArray).extract n (ByteArray.mk l.toArray).size = ByteArray.mk (l.drop n).toArray := by rw [str_ext, str_size, List.take_length]
section
variable {a : Act} {o : Oper} {W : World}
theorem exec_str {x : Operand} {b off n c : Nat} {l : List UInt8} (ho : o.op = .convert 26 9 x) (hx : a.eval x = .slice (some ⟨b, off, none⟩) n c) (hl : l.length = n) (hr : W.rangeAt b off (bcs l)) : (execOp a.eval o).run Tryz.prog W = .ok (.value (strV l)) W := by
 subst hl
 have h := run_convert_bytes_back (P := Tryz.prog) W 26 9 5 ⟨b, off, none⟩ c l Tryz.underlying26 Tryz.underlying5 Tryz.underlying9 (fun j hj => by
  rw [add_nat]
  refine hr j _ ?_
  rw [bcs_at l j hj, List.getD_eq_getElem?_getD, List.getElem?_eq_getElem hj]
  rfl)
 unfold execOp
 simp only [ho, hx, h, Sem.run_bind, Sem.run_pure, Result.andThen_ok, strV]
theorem exec_strBs {x : Operand} {A : Option Addr} {n c : Nat} {l : List UInt8} (ho : o.op = .convert 26 9 x) (hx : a.eval x = .slice A n c) (hb : Bs W A n l) : (execOp a.eval o).run Tryz.prog W = .ok (.value (strV l)) W := by
 obtain ⟨h1, h2, h3⟩ := hb
 by_cases hp : 0 < n
 ·obtain ⟨b, off, rfl, hc⟩ := h3 hp
  exact exec_str ho hx h1 (fun j v hj => by
   have hjl : j < l.length := by
    have := (List.getElem?_eq_some_iff.1 hj).1
    rwa [bcs_length] at this
   rw [bcs_at l j hjl] at hj
   rw [← hj]
   exact hc j (by omega))
 ·have h0 : n = 0 := by omega
  subst h0
  have hl : l = [] := List.eq_nil_of_length_eq_zero h1
  subst hl
  have h := run_convert_bytes_string (P := Tryz.prog) W 26 9 5 A 0 c Tryz.underlying26 Tryz.underlying5 Tryz.underlying9
  unfold execOp
  simp only [ho, hx, h, Sem.run_bind]
  cases A <;> rfl
theorem exec_sadd {x y : Operand} {l m : List UInt8} {t u : TypeId} (ho : o.op = .binOp .add t x y u) (hx : a.eval x = strV l) (hy : a.eval y = strV m) (hs : l.length + m.length ≤ 8388608) : (execOp a.eval o).run Tryz.prog W = .ok (.value (strV (l ++ m))) W := by
 have h := run_string_add_lists (P := Tryz.prog) W l m (by omega) (by omega)
 unfold execOp
 simp [ho, hx, hy, strV, eqGuard, binOp, h]
theorem exec_seql {x y : Operand} {l m : List UInt8} {t u : TypeId} (ho : o.op = .binOp .eql t x y u) (hx : a.eval x = strV l) (hy : a.eval y = strV m) : (execOp a.eval o).run Tryz.prog W = .ok (.value (.bool (l == m))) W := by
 unfold execOp
 simp [ho, hx, hy, strV, eqGuard, binOp_string_eql]
theorem exec_sto {x y : Operand} {l : List UInt8} {n : Nat} (ho : o.op = .slice 9 x none (some y) none) (hx : a.eval x = strV l) (hy : a.eval y = .int .i64 (n : Int)) (hn : n ≤ l.length) : (execOp a.eval o).run Tryz.prog W = .ok (.value (strV (l.take n))) W := by
 have h := run_slice_string_h (P := Tryz.prog) W 9 ⟨l.toArray⟩ Tryz.underlying9 .i64 (n : Int) (by omega) (by rw [str_size]; omega)
 rw [Int.toNat_natCast, str_to] at h
 unfold execOp
 simp only [ho, Option.map, hx, hy, strV, run_sliceAt_string (P := Tryz.prog) W 9 _ _ _ _ Tryz.underlying9, h, Sem.run_bind, Sem.run_pure, Result.andThen_ok]
theorem exec_sfrom {x y : Operand} {l : List UInt8} {n : Nat} (ho : o.op = .slice 9 x (some y) none none) (hx : a.eval x = strV l) (hy : a.eval y = .int .i64 (n : Int)) (hn : n ≤ l.length) : (execOp a.eval o).run Tryz.prog W = .ok (.value (strV (l.drop n))) W := by
 have h := run_slice_string_l (P := Tryz.prog) W 9 ⟨l.toArray⟩ Tryz.underlying9 .i64 (n : Int) (by omega) (by rw [str_size]; omega)
 rw [Int.toNat_natCast, str_from] at h
 unfold execOp
 simp only [ho, Option.map, hx, hy, strV, run_sliceAt_string (P := Tryz.prog) W 9 _ _ _ _ Tryz.underlying9, h, Sem.run_bind, Sem.run_pure, Result.andThen_ok]
theorem exec_sidx {x y : Operand} {l : List UInt8} {i : Nat} {k : IntKind} (ho : o.op = .index 9 x y) (hx : a.eval x = strV l) (hy : a.eval y = .int k (i : Int)) (hi : i < l.length) : (execOp a.eval o).run Tryz.prog W = .ok (.value (.int .u8 ((l.getD i 0).toNat : Int))) W := by
 have h := run_index_string (P := Tryz.prog) W 9 ⟨l.toArray⟩ k (i : Int) Tryz.underlying9
 rw [dif_pos ⟨by omega, by rw [str_size]; omega⟩] at h
 unfold execOp
 simp only [ho, hx, hy, strV, h, Sem.run_bind, Sem.run_pure, Result.andThen_ok]
 rw [List.getD_eq_getElem?_getD, List.getElem?_eq_getElem hi]
 rfl
theorem exec_slen {x : Operand} {l : List UInt8} (ho : o.op = .call { callee := .builtin .len, args := #[x], argTypes := #[9] }) (hx : a.eval x = strV l) : (execOp a.eval o).run Tryz.prog W = .ok (.value (.int .i64 (l.length : Int))) W := by
 have h := run_len_string (P := Tryz.prog) W 9 o.type ⟨l.toArray⟩ Tryz.underlying9
 rw [str_size] at h
 unfold execOp
 simp only [ho, resolve, invoke, builtin, Sem.run_bind, Sem.run_pure, Result.andThen_ok, List.map_toArray, List.map_cons, List.map_nil, hx, strV, h]
 rfl
end
section
variable {P : Program} {md : Region.Mode} {ops : Array Oper} {Q : Exit → Act → World → Prop} {S : World → Prop} {k : Nat}
theorem till_pureAt {i : Nat} {o : Oper} {v : Value} (hi : ops[i]? = some o) (hsel : ∀ (j : Nat) (o : Oper) cs b, ops[j]? = some o → o.op ≠ .select cs b) (hki : k ≠ i) :
 ∀ (n : Nat) (l : Array Bool) (a : Act) (w : World),
  (∀ j oj, ops[j]? = some oj → j ≠ i → l.getD j true = false → (∀ e ∈ oj.after, Region.binds md e = true → e.on ≠ i) → o.apart ops oj = true) →
  i ∈ Region.ready md ops l → YieldsIf P ops (fun _ => True) o v a → (l.getD k true = false → S w) → (∀ c a w, Q (.panic c) (a.put o.dst v) w → Q (.panic c) a w) →
  Till P md ops Q S k n (l.setIfInBounds i true) (a.put o.dst v) w → Till P md ops Q S k (n + 1) l a w := by
 have hread : ∀ (l : Array Bool) (j : Nat), i ∈ Region.ready md ops l → j ∈ Region.ready md ops l → j ≠ i → ∃ oj, ops[j]? = some oj ∧ l.getD j true = false ∧ ∀ e ∈ oj.after, Region.binds md e = true → e.on ≠ i := by
  intro l j hr hj hji
  obtain ⟨h0, oj, hoj, hall⟩ := mem_ready.1 hj
  have hun := (mem_ready.1 hr).1
  refine ⟨oj, hoj, h0, fun e he hb heq => ?_⟩
  have h2 := hall e he hb
  rw [heq] at h2
  rcases Nat.lt_or_ge i l.size with hlt | hge
  ·rw [Array.getD_eq_getD_getElem?, Array.getElem?_eq_getElem hlt] at h2 hun
   simp only [Option.getD_some] at h2 hun
   rw [h2] at hun
   cases hun
  ·rw [Array.getD_eq_getD_getElem?, Array.getElem?_eq_none hge] at h2
   cases h2
 intro n
 induction n with
 | zero =>
   intro l a w _ hr hy hS _ H
   refine ⟨fun h => (by rw [h] at hr; cases hr), fun j hj => ?_⟩
   by_cases hji : j = i
   ·subst hji
    exact hy.wpOp hi trivial ⟨fun e => hS (by rwa [getD_set_ne true hki.symm] at e), H⟩
   ·have := ready_mono hj hji
    rw [H.1] at this
    cases this
 | succ n ih =>
   intro l a w hfree hr hy hS hQ H
   refine ⟨fun h => (by rw [h] at hr; cases hr), fun j hj => ?_⟩
   by_cases hji : j = i
   ·subst hji
    exact hy.wpOp hi trivial ⟨fun e => hS (by rwa [getD_set_ne true hki.symm] at e), H⟩
   ·obtain ⟨oj, hoj, hjun, hno⟩ := hread l j hr hj hji
    have h1 := H.2 j (ready_mono hj hji)
    have h2 := wpOp_putIf (S := fun _ => True) hoj (hfree j oj hoj hji hjun hno) (fun cs b => hsel i o cs b hi) (fun cs b => hsel j oj cs b hoj) hQ hy h1
    refine wpOp_mono (fun a' w' h3 => ⟨fun e => ?_, ih (l.setIfInBounds j true) a' w' ?_ (ready_mono hr (Ne.symm hji)) h3.1 (fun e => ?_) hQ ?_⟩) h2
    ·exact h3.2.1 (by rw [Array.setIfInBounds_comm _ _ (Ne.symm hji), getD_set_ne true hki.symm]; exact e)
    ·intro m om hm hmi hun hn
     refine hfree m om hm hmi ?_ hn
     by_cases hjm : j = m
     ·subst hjm
      exact hjun
     ·rwa [getD_set_ne true hjm] at hun
    ·exact h3.2.1 (by rw [Array.setIfInBounds_comm _ _ (Ne.symm hji), getD_set_ne true hki.symm]; exact e)
    ·rw [Array.setIfInBounds_comm _ _ hji]
     exact h3.2.2
theorem till_pure {i : Nat} {o : Oper} {v : Value} {n : Nat} {l : Array Bool} {a : Act} {w : World} (hi0 : ops.toList[i]? = some o) (hs : Region.noSelect ops = true)
 (hf : (Region.free md ops l i && (Region.ready md ops l).contains i && decide (k ≠ i)) = true)
 (hQ : ∀ c a w, Q (.panic c) (a.put o.dst v) w → Q (.panic c) a w) (hy : YieldsIf P ops (fun _ => True) o v a) (hS : S w)
 (h : Till P md ops Q S k n (l.setIfInBounds i true) (a.put o.dst v) w) : Till P md ops Q S k (n + 1) l a w := by
 have hi : ops[i]? = some o := by rw [← hi0, Array.getElem?_toList]
 simp only [Bool.and_eq_true, decide_eq_true_eq] at hf
 obtain ⟨⟨h1, h2⟩, h5⟩ := hf
 exact till_pureAt hi (Region.noSelect_spec hs) h5 n l a w (Region.free_spec hi h1) (by simpa using h2) hy (fun _ => hS) hQ h
theorem till_first2 {i m : Nat} {o : Oper} {v : Value} (hi : ops[i]? = some o) (hsel : ∀ (j : Nat) (o : Oper) cs b, ops[j]? = some o → o.op ≠ .select cs b) (hki : k ≠ i) (hmi : m ≠ i)
 (hm : ∃ om, ops[m]? = some om ∧ ∃ e ∈ om.after, Region.binds md e = true ∧ e.on = i) (hk : ∃ ok, ops[k]? = some ok ∧ ∃ e ∈ ok.after, Region.binds md e = true ∧ e.on = m) :
 ∀ (n : Nat) (l : Array Bool) (a : Act) (w : World), l.getD k true = false → l.getD m true = false →
  (∀ j oj, ops[j]? = some oj → j ≠ i → l.getD j true = false → (∀ e ∈ oj.after, Region.binds md e = true → e.on ≠ i) → o.apart ops oj = true) →
  i ∈ Region.ready md ops l → YieldsIf P ops S o v a → S w → (∀ c a w, Q (.panic c) (a.put o.dst v) w → Q (.panic c) a w) →
  Till P md ops Q S k n (l.setIfInBounds i true) (a.put o.dst v) w → Till P md ops Q S k (n + 1) l a w := by
 have hwait : ∀ (l : Array Bool) (x j : Nat) (oj : Oper), l.getD x true = false → ops[j]? = some oj → (∀ e ∈ oj.after, Region.binds md e = true → l.getD e.on false = true) → ∀ e ∈ oj.after, Region.binds md e = true → e.on ≠ x := by
  intro l x j oj hun hoj hall e he hb heq
  have h2 := hall e he hb
  rw [heq] at h2
  rcases Nat.lt_or_ge x l.size with hlt | hge
  ·rw [Array.getD_eq_getD_getElem?, Array.getElem?_eq_getElem hlt] at h2 hun
   simp only [Option.getD_some] at h2 hun
   rw [h2] at hun
   cases hun
  ·rw [Array.getD_eq_getD_getElem?, Array.getElem?_eq_none hge] at h2
   cases h2
 have hread : ∀ (l : Array Bool) (j : Nat), l.getD m true = false → i ∈ Region.ready md ops l → j ∈ Region.ready md ops l → j ≠ i → ∃ oj, ops[j]? = some oj ∧ l.getD j true = false ∧ j ≠ k ∧ j ≠ m ∧ ∀ e ∈ oj.after, Region.binds md e = true → e.on ≠ i := by
  intro l j hml hr hj hji
  obtain ⟨h0, oj, hoj, hall⟩ := mem_ready.1 hj
  have hno := hwait l i j oj (mem_ready.1 hr).1 hoj hall
  have hnm := hwait l m j oj hml hoj hall
  refine ⟨oj, hoj, h0, ?_, ?_, hno⟩
  ·rintro rfl
   obtain ⟨ok, hok, e, he, hb, hon⟩ := hk
   rw [hoj] at hok
   injection hok with hok
   subst hok
   exact hnm e he hb hon
  ·rintro rfl
   obtain ⟨ok, hok, e, he, hb, hon⟩ := hm
   rw [hoj] at hok
   injection hok with hok
   subst hok
   exact hno e he hb hon
 intro n
 induction n with
 | zero =>
   intro l a w hkl hml _ hr hy hS _ H
   refine ⟨fun h => (by rw [h] at hr; cases hr), fun j hj => ?_⟩
   by_cases hji : j = i
   ·subst hji
    exact hy.wpOp hi hS ⟨fun _ => hS, H⟩
   ·have := ready_mono hj hji
    rw [H.1] at this
    cases this
 | succ n ih =>
   intro l a w hkl hml hfree hr hy hS hQ H
   refine ⟨fun h => (by rw [h] at hr; cases hr), fun j hj => ?_⟩
   by_cases hji : j = i
   ·subst hji
    exact hy.wpOp hi hS ⟨fun _ => hS, H⟩
   ·obtain ⟨oj, hoj, hjun, hjk, hjm0, hno⟩ := hread l j hml hr hj hji
    have h1 := H.2 j (ready_mono hj hji)
    have h2 := wpOp_putIf hoj (hfree j oj hoj hji hjun hno) (fun cs b => hsel i o cs b hi) (fun cs b => hsel j oj cs b hoj) hQ hy h1
    have hk' : (l.setIfInBounds j true).getD k true = false := by rw [getD_set_ne true hjk]; exact hkl
    have hm' : (l.setIfInBounds j true).getD m true = false := by rw [getD_set_ne true hjm0]; exact hml
    have hk2 : ((l.setIfInBounds i true).setIfInBounds j true).getD k true = false := by rw [getD_set_ne true hjk, getD_set_ne true (Ne.symm hki)]; exact hkl
    refine wpOp_mono (fun a' w' h3 => ⟨fun _ => h3.2.1 hk2, ih (l.setIfInBounds j true) a' w' hk' hm' ?_ (ready_mono hr (Ne.symm hji)) h3.1 (h3.2.1 hk2) hQ ?_⟩) h2
    ·intro q om hq hqi hun hn
     refine hfree q om hq hqi ?_ hn
     by_cases hjm : j = q
     ·subst hjm
      exact hjun
     ·rwa [getD_set_ne true hjm] at hun
    ·rw [Array.setIfInBounds_comm _ _ hji]
     exact h3.2.2
theorem till_take2 (m : Nat) {i : Nat} {o : Oper} {v : Value} {n : Nat} {l : Array Bool} {a : Act} {w : World} (hi0 : ops.toList[i]? = some o) (hs : Region.noSelect ops = true)
 (hf : (Region.free md ops l i && (Region.ready md ops l).contains i && Region.waitsFor md ops m i && Region.waitsFor md ops k m && !(l.getD k true) && !(l.getD m true) && decide (k ≠ i) && decide (m ≠ i)) = true)
 (hQ : ∀ c a w, Q (.panic c) (a.put o.dst v) w → Q (.panic c) a w) (hy : YieldsIf P ops S o v a) (hS : S w)
 (h : Till P md ops Q S k n (l.setIfInBounds i true) (a.put o.dst v) w) : Till P md ops Q S k (n + 1) l a w := by
 have hi : ops[i]? = some o := by rw [← hi0, Array.getElem?_toList]
 simp only [Bool.and_eq_true, decide_eq_true_eq, Bool.not_eq_true'] at hf
 obtain ⟨⟨⟨⟨⟨⟨⟨h1, h2⟩, h3⟩, h4⟩, h5⟩, h6⟩, h7⟩, h8⟩ := hf
 exact till_first2 hi (Region.noSelect_spec hs) h7 h8 (Region.waitsFor_spec h3) (Region.waitsFor_spec h4) n l a w h5 h6 (Region.free_spec hi h1) (by simpa using h2) hy hS hQ h
end
theorem splice_at : ∀ (l : List Value) (k off : Nat) (cells : Array Value), ((l.zipIdx k).foldl (fun cs (x : Value × Nat) => cs.setIfInBounds (off + x.2) x.1) cells).size = cells.size ∧
 ∀ j, ((l.zipIdx k).foldl (fun cs (x : Value × Nat) => cs.setIfInBounds (off + x.2) x.1) cells)[j]? = if off + k ≤ j ∧ j < off + k + l.length ∧ j < cells.size then l[j - (off + k)]? else cells[j]?
 | [], k, off, cells => ⟨rfl, fun j => by
  rw [if_neg (by simp; omega)]
  rfl⟩
 | v :: r, k, off, cells => by
   simp only [List.zipIdx_cons, List.foldl_cons]
   obtain ⟨h1, h2⟩ := splice_at r (k + 1) off (cells.setIfInBounds (off + k) v)
   refine ⟨by rw [h1, Array.size_setIfInBounds], fun j => ?_⟩
   rw [h2, Array.size_setIfInBounds, List.length_cons]
   by_cases e : j = off + k
   ·subst e
    rw [if_neg (by omega), Array.getElem?_setIfInBounds]
    by_cases hs : off + k < cells.size
    ·rw [if_pos rfl, if_pos hs, if_pos ⟨by omega, by omega, hs⟩, Nat.sub_self]
     rfl
    ·rw [if_pos rfl, if_neg hs, if_neg (by omega), Array.getElem?_eq_none (by omega)]
   ·by_cases c : off + (k + 1) ≤ j ∧ j < off + (k + 1) + r.length ∧ j < cells.size
    ·rw [if_pos c, if_pos ⟨by omega, by omega, c.2.2⟩, show j - (off + k) = (j - (off + (k + 1))) + 1 from by omega, List.getElem?_cons_succ]
    ·rw [if_neg c, Array.getElem?_setIfInBounds, if_neg (fun h => e h.symm)]
     rw [if_neg (by omega)]
theorem splice_all (vs cells : Array Value) (h : vs.size = cells.size) : vs.zipIdx.foldl (fun cs (x : Value × Nat) => cs.setIfInBounds (0 + x.2) x.1) cells = vs := by
 have hz : vs.zipIdx = (vs.toList.zipIdx 0).toArray := by
  apply Array.ext'
  simp [Array.toList_zipIdx]
 rw [hz, List.foldl_toArray]
 obtain ⟨h1, h2⟩ := splice_at vs.toList 0 0 cells
 apply Array.ext_getElem?
 intro j
 rw [h2]
 by_cases hj : j < vs.size
 ·rw [if_pos ⟨by omega, by simpa using hj, by omega⟩]
  simp
 ·rw [if_neg (by simp; omega), Array.getElem?_eq_none (by omega), Array.getElem?_eq_none (by omega)]
theorem run_buildSlice_one {P : Program} {t e : TypeId} {i : TypeInfo} {z v : Value} (ht : P.underlying t = some (.slice e)) (hi : P.info? e = some i) (hz : i.zero = some z) (hs : v.cells.size = i.size) (hzs : z.cells.size = i.size)
 (h0 : 0 < i.size) (hsm : i.size ≤ 16777216) (w : World) :
 (Instr.buildSlice t 1 #[(0, v)]).run P w = .ok (.slice (some ⟨w.heap.size, 0, none⟩) 1 1) (w.alloc (.cells v.cells e)) := by
 have hfill : Instr.fill (fun j => some (j * i.size, i.size)) ((Array.range (1 * i.size)).map (z.cells[· % z.cells.size]!)) [(0, v)] = some v.cells := by
  unfold Instr.fill
  simp only [Nat.zero_mul, hs, Nat.one_mul, Array.size_map, Array.size_range, Nat.zero_add]
  rw [if_neg (by simp)]
  unfold Instr.fill
  congr 1
  have := splice_all v.cells (Array.map (fun x => z.cells[x % z.cells.size]!) (Array.range i.size)) (by simp [hs])
  simpa using this
 have g1 : ¬ (16777216 < i.size) := by omega
 have g2 : i.size ≠ 0 := by omega
 simp only [Nat.one_mul] at hfill
 simp [Instr.buildSlice, run_underlying ht, sizeOf, typeInfo, zeroValue, hi, hz, g1, g2, hfill, newRow]
end Go.Proofs.YticofobhkmabiaaGreatDoor
