/-
  Texts in one file: Bytes Append Row Mem Rws Hold Store Build. Conditions: the tables and the errors read as the program's text lays them.
-/
import Derived.WalkKit
import Derived.ProofKit
import Derived.Below
import Derived.Lib.Hide
import Derived.Laws.AppendOwnNone
import Derived.OwnWalk
import Derived.Deep.Draws
import Derived.Outline
import Derived.StillTailTactics
import Derived.Laws.Rows
import Derived.ChangeSame
import Derived.Deep.Slices
import Derived.Deep.Fields
import Derived.Lib.SmallJoins
import Derived.SizedLaws
import Derived.Deep.RegionHeld3
import Derived.Deep.MidRow
import Derived.StillTail
import Derived.Carry
import Derived.Laws.Tables
namespace Go.Proofs.YtelipeoilcepbaaDoor
open Go.RowKit Go.ChangeShapes Go.WideShapes Go.ChangeAt
def Bs (w : World) (a : Option Addr) (len : Nat) (bs : List UInt8) : Prop :=
  bs.length = len ∧ len ≤ maxLen ∧ (0 < len → ∃ b off, a = some ⟨b, off, none⟩ ∧ ∀ i, i < len → w.cell? ⟨b, off + i, none⟩ = some (.int .u8 ((bs.getD i 0).toNat : Int)))
theorem ret_int {k : IntKind} {a b : Int} (h : a = b) : Ending.returned (.int k a) = .returned (.int k b) := by rw [h]
theorem ret_bool {a b : Bool} (h : a = b) : Ending.returned (.bool a) = .returned (.bool b) := by rw [h]
theorem bs_below {w w' : World} {a : Option Addr} {len : Nat} {bs : List UInt8} (h : Bs w a len bs) (hb : Below w.heap.size w w') : Bs w' a len bs := by
  obtain ⟨h1, h2, h3⟩ := h
  refine ⟨h1, h2, fun hp => ?_⟩
  obtain ⟨b, off, e, hc⟩ := h3 hp
  refine ⟨b, off, e, fun i hi => ?_⟩
  rw [hb.cell (World.block_lt_of_cell? _ _ (hc i hi))]
  exact hc i hi
theorem bs_nil (w : World) (a : Option Addr) : Bs w a 0 [] := ⟨rfl, Nat.zero_le _, fun h => by omega⟩
def byteCells (bs : List UInt8) : Array Value := (bs.map fun x => Value.int .u8 (x.toNat : Int)).toArray
theorem byteCells_at (bs : List UInt8) (i : Nat) (h : i < bs.length) : (byteCells bs)[i]? = some (.int .u8 ((bs.getD i 0).toNat : Int)) := by
  unfold byteCells
  rw [List.getElem?_toArray, List.getElem?_map, List.getD_eq_getElem?_getD, List.getElem?_eq_getElem h]
  rfl
theorem bs_of_ints {w : World} {x : Addr} {len cap : Nat} {zs : List Int} (hl : len ≤ cap) (hm : cap ≤ maxLen) (hz : zs.length = cap)
    (hcell : ∀ i, i < zs.length → w.cell? (x.add i) = some (.int .u8 (zs.getD i 0))) (hwz : ∀ n ∈ zs, (Lit.int IntKind.u8 n).wf = true) :
    Bs w (some x) len ((zs.take len).map fun z => UInt8.ofNat z.toNat) := by
  refine ⟨by simp; omega, Nat.le_trans hl hm, fun hp => ?_⟩
  obtain ⟨b, off, spot⟩ := x
  have hc := hcell 0 (by omega)
  have hspot : spot = none := by simpa [Addr.add] using World.cell?_spot hc
  subst hspot
  refine ⟨b, off, rfl, fun i hi => ?_⟩
  have h := hcell i (by omega)
  have hmem : zs.getD i 0 ∈ zs := by
    rw [List.getD_eq_getElem?_getD, List.getElem?_eq_getElem (by omega)]
    exact List.getElem_mem _
  have hw := hwz _ hmem
  have he : ((zs.take len).map fun z => UInt8.ofNat z.toNat).getD i 0 = UInt8.ofNat (zs.getD i 0).toNat := by
    rw [List.getD_eq_getElem?_getD, List.getElem?_map, List.getElem?_take, if_pos hi, List.getD_eq_getElem?_getD, List.getElem?_eq_getElem (by omega)]
    rfl
  rw [he]
  have hr : 0 ≤ zs.getD i 0 ∧ zs.getD i 0 ≤ 255 := by
    simpa [Lit.wf, IntKind.min, IntKind.max, IntKind.signed, IntKind.bits] using hw
  have h2 : ((UInt8.ofNat (zs.getD i 0).toNat).toNat : Int) = zs.getD i 0 := by
    rw [UInt8.toNat_ofNat']
    omega
  rw [h2]
  have hadd : (⟨b, off, none⟩ : Addr).add i = ⟨b, off + i, none⟩ := by
    by_cases h0 : i = 0 <;> simp [Addr.add, h0]
  rw [← hadd]
  exact h
theorem i64_in {x : Int} (h : (Lit.int .i64 x).wf = true) : -9223372036854775808 ≤ x ∧ x ≤ 9223372036854775807 := by
  simpa [Lit.wf, IntKind.min, IntKind.max, IntKind.signed, IntKind.bits] using h
end Go.Proofs.YtelipeoilcepbaaDoor
namespace Go.Proofs.YtelipeoilcepbaaDoor
open Go.RowKit
def bcs (bs : List UInt8) : List Value := bs.map fun x => Value.int .u8 (x.toNat : Int)
theorem bcs_length (bs : List UInt8) : (bcs bs).length = bs.length := List.length_map ..
theorem bcs_append (a b : List UInt8) : bcs (a ++ b) = bcs a ++ bcs b := List.map_append ..
theorem bcs_at (bs : List UInt8) (i : Nat) (h : i < bs.length) : (bcs bs)[i]? = some (.int .u8 ((bs.getD i 0).toNat : Int)) := by
  unfold bcs
  rw [List.getElem?_map, List.getD_eq_getElem?_getD, List.getElem?_eq_getElem h]
  rfl
theorem bcs_one (bs : List UInt8) : ∀ u ∈ bcs bs, u.oneCell' = true := fun u hu => by
  obtain ⟨_, _, rfl⟩ := List.mem_map.1 hu
  rfl
def Own (w : World) (B : Nat) (e : TypeId) (v : Value) (bs : List UInt8) : Prop := w.ownsRow B e 1 v bs.length (bcs bs)
theorem add_nat (b off i : Nat) : (⟨b, off, none⟩ : Addr).add i = ⟨b, off + i, none⟩ := by
  by_cases h0 : i = 0 <;> simp [Addr.add, h0]
theorem Own.form {w : World} {B : Nat} {e : TypeId} {v : Value} {bs : List UInt8} (h : Own w B e v bs) : ∃ a n c, v = .slice a n c ∧ Bs w a n bs ∧ n ≤ c ∧ (a = none → c = 0) := by
  obtain ⟨_, h2⟩ := id h
  rcases h2 with ⟨rfl, h0⟩ | ⟨g, cap, cur, rfl, hb, hg, hn, hm, hs, ht⟩
  · have hb : bs = [] := List.eq_nil_of_length_eq_zero h0
    subst hb
    exact ⟨none, 0, 0, rfl, bs_nil w none, Nat.le_refl _, fun _ => rfl⟩
  · refine ⟨_, _, _, rfl, ⟨rfl, Nat.le_trans hn hm, fun _ => ⟨g, 0, rfl, fun i hi => ?_⟩⟩, hn, fun h => by cases h⟩
    have hc := World.ownsRow.cells (g := g) h rfl i _ (bcs_at bs i hi)
    rw [add_nat] at hc
    exact hc
theorem Own.below {w w' : World} {B C : Nat} {e : TypeId} {v : Value} {bs : List UInt8} (h : Own w B e v bs) (hb : Below C w w') (hC : w.heap.size ≤ C) : Own w' B e v bs := by
  refine ⟨h.1, ?_⟩
  rcases h.2 with hn | ⟨g, cap, cur, rfl, hb1, hgg, rest⟩
  · exact .inl hn
  · have hlt : g < w.heap.size := (Array.getElem?_eq_some_iff.1 hgg).1
    exact .inr ⟨g, cap, cur, rfl, hb1, by rw [hb.block g (by omega)]; exact hgg, rest⟩
theorem wp_append_bytes {P : Program} (w : World) {o : Oper} {a : Act} {K : Act → World → Prop} {Q : Exit → Act → World → Prop} (s x : Operand) (t : TypeId)
    (ho : o.op = .call { callee := .builtin .append, args := #[s, x], argTypes := #[t, t] })
    (B : Nat) (e : TypeId) (hinfo : (P.info? e).map (fun i => (i.zero, i.size, i.bytes)) = some (some (.int .u8 0), 1, 1)) (ht : P.underlying t = some (.slice e))
    (v : Value) (olds : List UInt8) (hs : a.eval s = v) (hown : Own w B e v olds)
    (A : Option Addr) (m c : Nat) (news : List UInt8) (hx : a.eval x = .slice A m c) (hb : Bs w A m news) (hc : A = none → c = 0)
    (hsum : olds.length + m ≤ 140737488355328) (hbase : B ≤ w.heap.size)
    (h : ∀ v' w', Own w' B e v' (olds ++ news) → Below B w w' → K (a.put o.dst v') w') : o.wp P a w K Q := by
  obtain ⟨i0, hi0, hz0, hz1, hz2⟩ := info_parts hinfo
  obtain ⟨hl, hm, hcell⟩ := hb
  rcases A with _ | ad
  · obtain rfl := hc rfl
    have hm0 : m = 0 := by
      rcases Nat.eq_zero_or_pos m with h0 | h0
      · exact h0
      · obtain ⟨_, _, h1, _⟩ := hcell h0; cases h1
    subst hm0
    have hn : news = [] := List.eq_nil_of_length_eq_zero hl
    subst hn
    rw [List.append_nil] at h
    have hrun := run_append_owned_none (P := P) (w := w) B t o.type e i0 1 ht hi0 v _ _ hown
    unfold Oper.wp
    simp [execOp, ho, resolve, invoke, builtin, hs, hx, hrun, Result.andThen]
    exact h v w hown (Below.refl _ _)
  · refine wp_append_own w s x t ho B e i0 _ 1 1 ht hi0 hz0 hz1 hz2 rfl (by omega) v _ _ hs hown ad m c (bcs news) hx (by rw [bcs_length, hl, Nat.mul_one]) ?_ (bcs_one news) (by simp only [maxLen]; omega) (by omega) hbase ?_
    · intro j u hu
      have hj : j < news.length := by
        have := (List.getElem?_eq_some_iff.1 hu).1
        rwa [bcs_length] at this
      obtain ⟨b, off, e1, hcc⟩ := hcell (by omega)
      injection e1 with e1
      subst e1
      rw [bcs_at news j hj] at hu
      injection hu with hu
      subst hu
      rw [add_nat]
      exact hcc j (by omega)
    · intro v' w' ho' hg _
      refine h v' w' ?_ ((Below.refl _ _).grown hg hbase fun k hk => (hown.lt k hk).1)
      unfold Own
      rw [List.length_append, bcs_append, hl]
      exact ho'
theorem wpList_append_bytes {P : Program} (w : World) {ops : Array Oper} {rest : List Oper} {o : Oper} {a : Act} {Q : Exit → Act → World → Prop} (hgd : Region.wanted o (yielded ops a.tmps) = true) (s x : Operand) (t : TypeId)
    (ho : o.op = .call { callee := .builtin .append, args := #[s, x], argTypes := #[t, t] })
    (B : Nat) (e : TypeId) (hinfo : (P.info? e).map (fun i => (i.zero, i.size, i.bytes)) = some (some (.int .u8 0), 1, 1)) (ht : P.underlying t = some (.slice e))
    (v : Value) (olds : List UInt8) (hs : a.eval s = v) (hown : Own w B e v olds)
    (A : Option Addr) (m c : Nat) (news : List UInt8) (hx : a.eval x = .slice A m c) (hb : Bs w A m news) (hc : A = none → c = 0)
    (hsum : olds.length + m ≤ 140737488355328) (hbase : B ≤ w.heap.size)
    (h : ∀ v' w', Own w' B e v' (olds ++ news) → Below B w w' → wpList P ops Q rest (a.put o.dst v') w') : wpList P ops Q (o :: rest) a w :=
  wpList_step fun K hK => by
    rw [if_pos hgd]
    exact wp_append_bytes w s x t ho B e hinfo ht v olds hs hown A m c news hx hb hc hsum hbase fun v' w' h1 h2 => hK _ _ (h v' w' h1 h2)
end Go.Proofs.YtelipeoilcepbaaDoor
namespace Go.Proofs.YtelipeoilcepbaaDoor
open Go.RowKit
def Row (w : World) (g : Nat) (e : TypeId) (bs : List UInt8) : Prop := w.heap[g]? = some (.cells (byteCells bs) e (0, 0))
theorem byteCells_set (bs : List UInt8) (i : Nat) (x : UInt8) : (byteCells bs).setIfInBounds i (.int .u8 (x.toNat : Int)) = byteCells (bs.set i x) := by
  unfold byteCells
  apply Array.ext'
  simp [List.map_set]
theorem madeBytes (n : Nat) : madeCells (Value.int .u8 0).cells n = byteCells (List.replicate n 0) := by
  unfold madeCells byteCells
  apply Array.ext'
  simp [Value.cells]
  apply List.ext_getElem
  · simp
  · intro i h1 h2
    simp [Nat.mod_one]
def Head (w : World) (g : Nat) (e : TypeId) (bs : List UInt8) : Prop :=
  ∃ cur, w.heap[g]? = some (.cells cur e (0, 0)) ∧ bs.length ≤ cur.size ∧ ∀ i, i < bs.length → cur[i]? = some (Value.int .u8 ((bs.getD i 0).toNat : Int))
theorem Own.head {w : World} {B : Nat} {e : TypeId} {v : Value} {bs : List UInt8} (h : Own w B e v bs) (hp : 0 < bs.length) : ∃ g c, v = .slice (some ⟨g, 0, none⟩) bs.length c ∧ B ≤ g ∧ Head w g e bs := by
  obtain ⟨_, h2⟩ := id h
  rcases h2 with ⟨rfl, h0⟩ | ⟨g, cap, cur, rfl, hb, hg, hn, hm, hs, ht⟩
  · omega
  · refine ⟨g, cap, rfl, hb, cur, hg, by omega, fun i hi => ?_⟩
    rw [← bcs_at bs i hi, ← ht, List.getElem?_take, if_pos (by omega), Array.getElem?_toList]
end Go.Proofs.YtelipeoilcepbaaDoor
namespace Go.Proofs.YtelipeoilcepbaaDoor
open Go.RowKit
structure Turn (F : Nat → Prop) (w w' : World) : Prop where
  os : w'.os = w.os
  tape : w'.tape = w.tape
  output : w'.output = w.output
  size : w.heap.size ≤ w'.heap.size
  block : ∀ k, k < w.heap.size → ¬ F k → w'.heap[k]? = w.heap[k]?
def nowhere : Nat → Prop := fun _ => False
section
variable {F G : Nat → Prop} {w w1 w' : World}
theorem Turn.refl (F : Nat → Prop) (w : World) : Turn F w w := ⟨rfl, rfl, rfl, Nat.le_refl _, fun _ _ _ => rfl⟩
theorem Turn.mono (h : Turn F w w') (hf : ∀ k, k < w.heap.size → F k → G k) : Turn G w w' :=
  ⟨h.os, h.tape, h.output, h.size, fun k hk hn => h.block k hk fun hF => hn (hf k hk hF)⟩
theorem Turn.trans (h : Turn F w w1) (g : Turn G w1 w') (hg : ∀ k, k < w.heap.size → G k → F k) : Turn F w w' :=
  ⟨g.os.trans h.os, g.tape.trans h.tape, g.output.trans h.output, Nat.le_trans h.size g.size,
    fun k hk hn => (g.block k (Nat.lt_of_lt_of_le hk h.size) fun hG => hn (hg k hk hG)).trans (h.block k hk hn)⟩
theorem Turn.drew (h : Turn F w w') : Turn F w w'.drew := ⟨h.os, h.tape, h.output, h.size, h.block⟩
theorem Turn.drewN (h : Turn F w w') (n : Nat) : Turn F w (w'.drewN n) := ⟨h.os, h.tape, h.output, h.size, h.block⟩
theorem Turn.alloc (h : Turn F w w') (o : Obj) : Turn F w (w'.alloc o) :=
  ⟨h.os, h.tape, h.output, Nat.le_trans h.size (by simp), fun k hk hn => (Below.heap_alloc w' o k (Nat.lt_of_lt_of_le hk h.size)).trans (h.block k hk hn)⟩
theorem Turn.setCell (h : Turn F w w') {p : Addr} (hp : p.block < w.heap.size → F p.block) (u : Value) : Turn F w (w'.setCell p u) :=
  ⟨h.os, h.tape, h.output, by simpa [World.setCell] using h.size, fun k hk hn => (heap_setCell_other w' p k u (by
    rintro rfl
    exact hn (hp hk))).trans (h.block k hk hn)⟩
theorem Turn.grown (h : Turn F w w1) {row : Option Nat} (hg : w1.grownBy w' row) (hr : ∀ g, row = some g → g < w.heap.size → F g) : Turn F w w' :=
  ⟨hg.os.trans h.os, hg.tape.trans h.tape, hg.output.trans h.output, Nat.le_trans h.size hg.size,
    fun k hk hn => (hg.block k (Nat.lt_of_lt_of_le hk h.size) fun e => hn (hr k e.symm hk)).trans (h.block k hk hn)⟩
theorem Turn.of_below {B : Nat} (h : Below B w w') (hB : w.heap.size ≤ B) : Turn nowhere w w' := ⟨h.os, h.tape, h.output, h.size, fun k hk _ => h.block k (by omega)⟩
theorem Turn.below (h : Turn F w w') {B : Nat} (hB : B ≤ w.heap.size) (hF : ∀ k, k < B → ¬ F k) : Below B w w' :=
  ⟨h.os, h.tape, h.output, h.size, fun k hk => h.block k (by omega) (hF k hk)⟩
theorem Turn.cell (h : Turn F w w') {p : Addr} (hp : p.block < w.heap.size) (hn : ¬ F p.block) : w'.cell? p = w.cell? p := World.cell?_of_block (h.block _ hp hn)
end
def only (p : Nat) : Nat → Prop := fun k => k = p
theorem Turn.at_ {w w' : World} {p : Nat} (h : Turn (only p) w w') (i : Nat) (u : Value) : Turn (only p) w (w'.setCell ⟨p, i, none⟩ u) := h.setCell (p := ⟨p, i, none⟩) (fun _ => rfl) u
theorem Turn.grow1 {w w' : World} {p : Nat} (h : Turn (only p) w w') : w.grownBy w' (some p) := ⟨h.os, h.tape, h.output, h.size, fun k hk hn => h.block k hk fun e => hn (by rw [show k = p from e])⟩
def Blk (w : World) (g : Nat) (t : TypeId) (cs : Array Value) : Prop := w.heap[g]? = some (.cells cs t (0, 0))
section
variable {F : Nat → Prop} {w w' : World} {g : Nat} {t : TypeId} {cs : Array Value}
theorem Blk.lt (h : Blk w g t cs) : g < w.heap.size := (Array.getElem?_eq_some_iff.1 h).1
theorem Blk.cell (h : Blk w g t cs) (i : Nat) : w.cell? ⟨g, i, none⟩ = cs[i]? := cell_of_row w g i cs t (0, 0) h
theorem Blk.frozen (h : Blk w g t cs) (i : Nat) : w.frozen? ⟨g, i, none⟩ = false := by
  unfold Blk at h
  simp [World.frozen?, h]
theorem Blk.new (w : World) (t : TypeId) (cs : Array Value) : Blk (w.alloc (.cells cs t)) w.heap.size t cs := heap_alloc_new w _
theorem Blk.drew (h : Blk w g t cs) : Blk w.drew g t cs := h
theorem Blk.alloc (h : Blk w g t cs) (o : Obj) : Blk (w.alloc o) g t cs := (Below.heap_alloc w o g h.lt).trans h
theorem Blk.set_ (h : Blk w g t cs) (i : Nat) (u : Value) : Blk (w.setCell ⟨g, i, none⟩ u) g t (cs.setIfInBounds i u) := heap_setCell_same w g i cs t u h
theorem Blk.far (h : Blk w g t cs) {p : Addr} (hp : g ≠ p.block) (u : Value) : Blk (w.setCell p u) g t cs := (heap_setCell_other w p g u hp).trans h
theorem Blk.turn (h : Blk w g t cs) (ht : Turn F w w') (hn : ¬ F g) : Blk w' g t cs := (ht.block g h.lt hn).trans h
theorem Blk.grown {row : Option Nat} (h : Blk w g t cs) (hb : w.grownBy w' row) (hg : some g ≠ row) : Blk w' g t cs := (hb.block g h.lt hg).trans h
theorem Blk.ne_ {g' : Nat} {t' : TypeId} {cs' : Array Value} (h : Blk w g t cs) (h' : Blk w g' t' cs') (hne : t ≠ t') : g ≠ g' := by
  rintro rfl
  unfold Blk at h h'
  rw [h] at h'
  injection h' with h'
  injection h' with _ ht
  exact hne ht
theorem Blk.inj {t' : TypeId} {cs' : Array Value} (h : Blk w g t cs) (h' : Blk w g t' cs') : cs = cs' := by
  unfold Blk at h h'
  rw [h] at h'
  injection h' with h'
  injection h' with e
end
theorem wpStill_run {P : Program} {ops : Array Oper} {w : World} {Q : Act → Prop} {a : Act} {o : Oper} {rest : List Oper} (hw : Region.wanted o (yielded ops a.tmps) = true) {v : Value}
    (hrun : (execOp a.eval o).run P w = .ok (.value v) w) (h : wpStill P ops w Q rest (a.put o.dst v)) : wpStill P ops w Q (o :: rest) a := by
  refine wpStill_step fun K hK => ?_
  rw [if_pos hw]
  unfold Oper.still
  rw [hrun, Oper.stillUpon_value]
  exact hK _ h
theorem wpStill_load {P : Program} {ops : Array Oper} {w : World} {Q : Act → Prop} {a : Act} {o : Oper} {rest : List Oper} (hw : Region.wanted o (yielded ops a.tmps) = true) (ty : TypeId) (x : Operand) (ho : o.op = .load ty x)
    (p v : Value) (hx : a.eval x = p) (hrun : (Instr.loadAt ty p).run P w = .ok v w) (h : wpStill P ops w Q rest (a.put o.dst v)) : wpStill P ops w Q (o :: rest) a :=
  wpStill_run hw (by
    unfold execOp
    simp only [ho, hx, hrun, Sem.run_bind, Sem.run_pure, Result.andThen_ok]) h
theorem cells_ne_map {w : World} {g b : Nat} {t : TypeId} {cs : Array Value} {es : Array MapEntry} {clock : Nat} (h : Blk w g t cs) (h' : w.heap[b]? = some (.map es clock)) : g ≠ b := by
  rintro rfl
  unfold Blk at h
  rw [h] at h'
  injection h' with h'
  cases h'
end Go.Proofs.YtelipeoilcepbaaDoor
namespace Go.Proofs.YtelipeoilcepbaaDoor
open Go.RowKit Go.ChangeShapes Go.WideShapes Go.Deep
set_option linter.unusedVariables false
def Rws (w : World) (k : Nat) (A : Option Addr) (n : Nat) (rs : List (List Value)) : Prop :=
  rs.length = n ∧ (∀ r ∈ rs, r.length = k) ∧ n ≤ 140737488355328 ∧ (0 < n → ∃ b off, A = some ⟨b, off, none⟩ ∧ ∀ i r, rs[i]? = some r → ∀ j v, r[j]? = some v → w.cell? ⟨b, off + i * k + j, none⟩ = some v)
theorem rws_nil (w : World) (k : Nat) (A : Option Addr) : Rws w k A 0 [] := ⟨rfl, fun r h => (by cases h), Nat.zero_le _, fun h => absurd h (by decide)⟩
theorem Rws.turn {w w' : World} {k n : Nat} {A : Option Addr} {rs : List (List Value)} {F : Nat → Prop} (h : Rws w k A n rs) (ht : Turn F w w') (hn : ∀ b off s, A = some ⟨b, off, s⟩ → 0 < n → b < w.heap.size → ¬ F b) : Rws w' k A n rs := by
  obtain ⟨h1, h2, h3, h4⟩ := h
  refine ⟨h1, h2, h3, fun hp => ?_⟩
  obtain ⟨b, off, rfl, hc⟩ := h4 hp
  refine ⟨b, off, rfl, fun i r hr j v hv => ?_⟩
  have hcell := hc i r hr j v hv
  have hlt := World.block_lt_of_cell? _ _ hcell
  rw [ht.cell (p := ⟨b, off + i * k + j, none⟩) hlt (hn b off none rfl hp hlt)]
  exact hcell
theorem Rws.still {w w' : World} {k n : Nat} {A : Option Addr} {rs : List (List Value)} (h : Rws w k A n rs) (ht : Turn nowhere w w') : Rws w' k A n rs := h.turn ht fun _ _ _ _ _ _ e => e
theorem Rws.at_ {w : World} {k n : Nat} {A : Option Addr} {rs : List (List Value)} (h : Rws w k A n rs) {i : Nat} {r : List Value} (hr : rs[i]? = some r) : ∃ b off, A = some ⟨b, off, none⟩ ∧ ∀ j v, r[j]? = some v → w.cell? ⟨b, off + i * k + j, none⟩ = some v := by
  obtain ⟨h1, h2, h3, h4⟩ := h
  have hi := (List.getElem?_eq_some_iff.1 hr).1
  obtain ⟨b, off, rfl, hc⟩ := h4 (by omega)
  exact ⟨b, off, rfl, hc i r hr⟩
section
variable {H : Type} {enc : TypeId × Value → H} {P : Program} {w : World} {base : Nat} {spare : Nat → Bool} {held : Bool}
end
end Go.Proofs.YtelipeoilcepbaaDoor
namespace Go.Proofs.YtelipeoilcepbaaDoor
section
variable {P : Program} {md : Region.Mode} {ops : Array Oper} {Q : Exit → Act → World → Prop} {S : World → Prop} {k : Nat} {rest : List Oper}
def Till (P : Program) (md : Region.Mode) (ops : Array Oper) (Q : Exit → Act → World → Prop) (S : World → Prop) (k : Nat) : Nat → Array Bool → Act → World → Prop
  | 0, l, a, w => Region.ready md ops l = [] ∧ Q .normal a w
  | n + 1, l, a, w => (Region.ready md ops l = [] → Q .normal a w) ∧
      ∀ i ∈ Region.ready md ops l, wpOp P ops Q i (fun a' w' => ((l.setIfInBounds i true).getD k true = false → S w') ∧ Till P md ops Q S k n (l.setIfInBounds i true) a' w') a w
theorem till_any : ∀ (n : Nat) (l : Array Bool) (a : Act) (w : World), Till P md ops Q S k n l a w → wpAny P md ops Q n l a w
  | 0, _, _, _, h => h
  | n + 1, _, _, _, h => ⟨h.1, fun i hi => wpOp_mono (fun _ _ h' => till_any n _ _ _ h'.2) (h.2 i hi)⟩
theorem till_first {i : Nat} {o : Oper} {v : Value} (hi : ops[i]? = some o) (hsel : ∀ (j : Nat) (o : Oper) cs b, ops[j]? = some o → o.op ≠ .select cs b) (hki : k ≠ i)
    (hk : ∃ ok, ops[k]? = some ok ∧ ∃ e ∈ ok.after, Region.binds md e = true ∧ e.on = i) :
    ∀ (n : Nat) (l : Array Bool) (a : Act) (w : World), l.getD k true = false →
      (∀ j oj, ops[j]? = some oj → j ≠ i → l.getD j true = false → (∀ e ∈ oj.after, Region.binds md e = true → e.on ≠ i) → o.apart ops oj = true) →
      i ∈ Region.ready md ops l → YieldsIf P ops S o v a → S w → (∀ c a w, Q (.panic c) (a.put o.dst v) w → Q (.panic c) a w) →
      Till P md ops Q S k n (l.setIfInBounds i true) (a.put o.dst v) w → Till P md ops Q S k (n + 1) l a w := by
  have hread : ∀ (l : Array Bool) (j : Nat), i ∈ Region.ready md ops l → j ∈ Region.ready md ops l → j ≠ i → ∃ oj, ops[j]? = some oj ∧ l.getD j true = false ∧ j ≠ k ∧ ∀ e ∈ oj.after, Region.binds md e = true → e.on ≠ i := by
    intro l j hr hj hji
    obtain ⟨h0, oj, hoj, hall⟩ := mem_ready.1 hj
    have hun := (mem_ready.1 hr).1
    have hno : ∀ e ∈ oj.after, Region.binds md e = true → e.on ≠ i := by
      intro e he hb heq
      have h2 := hall e he hb
      rw [heq] at h2
      rcases Nat.lt_or_ge i l.size with hlt | hge
      · rw [Array.getD_eq_getD_getElem?, Array.getElem?_eq_getElem hlt] at h2 hun
        simp only [Option.getD_some] at h2 hun
        rw [h2] at hun
        cases hun
      · rw [Array.getD_eq_getD_getElem?, Array.getElem?_eq_none hge] at h2
        cases h2
    refine ⟨oj, hoj, h0, ?_, hno⟩
    rintro rfl
    obtain ⟨ok, hok, e, he, hb, hon⟩ := hk
    rw [hoj] at hok
    injection hok with hok
    subst hok
    exact hno e he hb hon
  intro n
  induction n with
  | zero =>
    intro l a w hkl _ hr hy hS _ H
    refine ⟨fun h => (by rw [h] at hr; cases hr), fun j hj => ?_⟩
    by_cases hji : j = i
    · subst hji
      exact hy.wpOp hi hS ⟨fun _ => hS, H⟩
    · have := ready_mono hj hji
      rw [H.1] at this
      cases this
  | succ n ih =>
    intro l a w hkl hfree hr hy hS hQ H
    refine ⟨fun h => (by rw [h] at hr; cases hr), fun j hj => ?_⟩
    by_cases hji : j = i
    · subst hji
      exact hy.wpOp hi hS ⟨fun _ => hS, H⟩
    · obtain ⟨oj, hoj, hjun, hjk, hno⟩ := hread l j hr hj hji
      have h1 := H.2 j (ready_mono hj hji)
      have h2 := wpOp_putIf hoj (hfree j oj hoj hji hjun hno) (fun cs b => hsel i o cs b hi) (fun cs b => hsel j oj cs b hoj) hQ hy h1
      have hk' : (l.setIfInBounds j true).getD k true = false := by rw [getD_set_ne true hjk]; exact hkl
      have hk2 : ((l.setIfInBounds i true).setIfInBounds j true).getD k true = false := by rw [getD_set_ne true hjk, getD_set_ne true (Ne.symm hki)]; exact hkl
      refine wpOp_mono (fun a' w' h3 => ⟨fun _ => h3.2.1 hk2, ih (l.setIfInBounds j true) a' w' hk' ?_ (ready_mono hr (Ne.symm hji)) h3.1 (h3.2.1 hk2) hQ ?_⟩) h2
      · intro m om hm hmi hun hn
        refine hfree m om hm hmi ?_ hn
        by_cases hjm : j = m
        · subst hjm
          exact hjun
        · rwa [getD_set_ne true hjm] at hun
      · rw [Array.setIfInBounds_comm _ _ hji]
        exact h3.2.2
theorem till_take {i : Nat} {o : Oper} {v : Value} {n : Nat} {l : Array Bool} {a : Act} {w : World} (hi0 : ops.toList[i]? = some o) (hs : Region.noSelect ops = true)
    (hf : (Region.free md ops l i && (Region.ready md ops l).contains i && Region.waitsFor md ops k i && !(l.getD k true) && decide (k ≠ i)) = true)
    (hQ : ∀ c a w, Q (.panic c) (a.put o.dst v) w → Q (.panic c) a w) (hy : YieldsIf P ops S o v a) (hS : S w)
    (h : Till P md ops Q S k n (l.setIfInBounds i true) (a.put o.dst v) w) : Till P md ops Q S k (n + 1) l a w := by
  have hi : ops[i]? = some o := by rw [← hi0, Array.getElem?_toList]
  simp only [Bool.and_eq_true, decide_eq_true_eq, Bool.not_eq_true'] at hf
  obtain ⟨⟨⟨⟨h1, h2⟩, h3⟩, h4⟩, h5⟩ := hf
  exact till_first hi (Region.noSelect_spec hs) h5 (Region.waitsFor_spec h3) n l a w h4 (Region.free_spec hi h1) (by simpa using h2) hy hS hQ h
theorem till_only {i : Nat} {o : Oper} {n : Nat} {l : Array Bool} {a : Act} {w : World} (hr : Region.ready md ops l = [i]) (ho0 : ops.toList[i]? = some o)
    (hw : Region.wanted o (yielded ops a.tmps) = true)
    (h : o.wp P a w (fun a' w' => ((l.setIfInBounds i true).getD k true = false → S w') ∧ Till P md ops Q S k n (l.setIfInBounds i true) a' w') Q) : Till P md ops Q S k (n + 1) l a w := by
  have ho : ops[i]? = some o := by rw [← ho0, Array.getElem?_toList]
  refine ⟨fun h0 => (by rw [h0] at hr; cases hr), fun j hj => ?_⟩
  rw [hr] at hj
  obtain rfl : j = i := by simpa using hj
  unfold wpOp
  simp only [ho, hw, if_true]
  exact .inl h
def chainFrom (md : Region.Mode) (ops : Array Oper) : Nat → Array Bool → Nat → Bool
  | 0, l, _ => (Region.ready md ops l).isEmpty
  | c + 1, l, i => Region.ready md ops l == [i] && chainFrom md ops c (l.setIfInBounds i true) (i + 1)
theorem till_chain : ∀ (rest : List Oper) (n : Nat) (l : Array Bool) (a : Act) (w : World) (i : Nat), (∀ j o, rest[j]? = some o → ops[i + j]? = some o) → chainFrom md ops rest.length l i = true →
    ((l.setIfInBounds i true).getD k true = true) → rest.length ≤ n → wpList P ops Q rest a w → Till P md ops Q S k n l a w
  | [], n, l, a, w, i, _, hc, _, _, h => by
    have h0 : Region.ready md ops l = [] := by simpa [chainFrom] using hc
    cases n with
    | zero => exact ⟨h0, h⟩
    | succ n => exact ⟨fun _ => h, fun j hj => by rw [h0] at hj; cases hj⟩
  | o :: rest, 0, l, a, w, i, _, _, _, hn, h => by simp at hn
  | o :: rest, n + 1, l, a, w, i, hops, hc, hk, hn, h => by
    simp only [List.length_cons, chainFrom, Bool.and_eq_true, beq_iff_eq] at hc
    obtain ⟨h1, h2⟩ := hc
    refine ⟨fun h0 => (by rw [h0] at h1; cases h1), fun j hj => ?_⟩
    rw [h1] at hj
    obtain rfl : j = i := by simpa using hj
    have ho : ops[j]? = some o := hops 0 o rfl
    have hw : wpOp P ops Q j (wpList P ops Q rest) a w := by
      unfold wpOp
      simp only [ho]
      unfold wpList at h
      exact h
    refine wpOp_mono (fun a' w' h' => ⟨fun e => (by rw [hk] at e; cases e), till_chain rest n _ a' w' (j + 1) (fun m om hm => ?_) h2 ?_ (by simpa using hn) h'⟩) hw
    · have := hops (m + 1) om hm
      rwa [show j + (m + 1) = j + 1 + m from by omega] at this
    · by_cases e : j + 1 = k
      · subst e
        rw [Array.getD_eq_getD_getElem?, Array.getElem?_setIfInBounds]
        by_cases hs : j + 1 < (l.setIfInBounds j true).size
        · rw [if_pos rfl, if_pos hs]
          rfl
        · rw [if_pos rfl, if_neg hs]
          rfl
      · rw [getD_set_ne true e]
        exact hk
theorem till_tail (i : Nat) {n : Nat} {l : Array Bool} {a : Act} {w : World} (hops : ops.toList.drop i = rest) (hc : (chainFrom md ops rest.length l i && (l.setIfInBounds i true).getD k true && decide (rest.length ≤ n)) = true)
    (h : wpList P ops Q rest a w) : Till P md ops Q S k n l a w := by
  simp only [Bool.and_eq_true, decide_eq_true_eq] at hc
  refine till_chain rest n l a w i (fun j o hj => ?_) hc.1.1 hc.1.2 hc.2 h
  rw [← hops, List.getElem?_drop] at hj
  simpa using hj
theorem till_step {i : Nat} {o : Oper} {n : Nat} {l : Array Bool} {a : Act} {w : World} (hr : Region.ready md ops l = [i]) (ho0 : ops.toList[i]? = some o) (hw : Region.wanted o (yielded ops a.tmps) = true)
    (h : ∀ K : Act → World → Prop, Shut (∀ a' w', (((l.setIfInBounds i true).getD k true = false → S w') ∧ Till P md ops Q S k n (l.setIfInBounds i true) a' w') → K a' w') → o.wp P a w K Q) : Till P md ops Q S k (n + 1) l a w :=
  till_only hr ho0 hw (h _ fun _ _ h' => h')
theorem wp_region_till (S : World → Prop) (k : Nat) {id : Nat} {a : Act} {w : World} (hm : P.follows .mixedOrders = true)
    (h : Till P .any ops (NoPanic Q) S k ops.size (Array.replicate ops.size false) a w.drew) : (Code.region id ops true).wp P Q a w :=
  wp_region_noPanic (wp_region_any hm (till_any _ _ _ _ h))
theorem wp_run {o : Oper} {a : Act} {w w' : World} {K : Act → World → Prop} {v : Value} (hr : (execOp a.eval o).run P w = .ok (.value v) w') (h : K (a.put o.dst v) w') : o.wp P a w K Q := by
  unfold Oper.wp
  rw [hr]
  exact h
theorem wp_append {o : Oper} {a : Act} {w w' : World} {K : Act → World → Prop} (s x : Operand) (t : TypeId) (ho : o.op = .call { callee := .builtin .append, args := #[s, x], argTypes := #[t, t] }) {v u r : Value} (hs : a.eval s = v) (hx : a.eval x = u)
    (hr : (Builtin.append_ #[t, t] o.type #[v, u]).run P w = .ok r w') (h : K (a.put o.dst r) w') : o.wp P a w K Q := by
  unfold Oper.wp execOp
  simp only [ho, resolve, invoke, builtin, Sem.run_bind, Sem.run_pure, Result.andThen_ok, List.map_toArray, List.map_cons, List.map_nil, hs, hx, hr]
  exact h
end
end Go.Proofs.YtelipeoilcepbaaDoor
namespace Go.Proofs.YtelipeoilcepbaaDoor
open Go.RowKit
theorem setCells_blk : ∀ (vs : List Value) (w : World) (g o : Nat) (t : TypeId) (C : Array Value), Blk w g t C →
    ∃ C', Blk (w.setCells g o vs) g t C' ∧ C'.size = C.size ∧ ∀ j, C'[j]? = if o ≤ j ∧ j < o + vs.length ∧ j < C.size then vs[j - o]? else C[j]?
  | [], w, g, o, t, C, h => ⟨C, h, rfl, fun j => by rw [if_neg (by simp; omega)]⟩
  | v :: r, w, g, o, t, C, h => by
    obtain ⟨C', h1, h2, h3⟩ := setCells_blk r (w.setCell ⟨g, o, none⟩ v) g (o + 1) t _ (h.set_ o v)
    refine ⟨C', h1, by rw [h2, Array.size_setIfInBounds], fun j => ?_⟩
    rw [h3, Array.size_setIfInBounds, List.length_cons]
    by_cases e : j = o
    · subst e
      rw [if_neg (by omega), Array.getElem?_setIfInBounds, if_pos rfl]
      by_cases hj : j < C.size
      · rw [if_pos hj, if_pos ⟨by omega, by omega, hj⟩, Nat.sub_self]
        rfl
      · rw [if_neg hj, if_neg (by omega), Array.getElem?_eq_none (by omega)]
    · by_cases c : o + 1 ≤ j ∧ j < o + 1 + r.length ∧ j < C.size
      · rw [if_pos c, if_pos ⟨by omega, by omega, c.2.2⟩, show j - o = (j - (o + 1)) + 1 from by omega, List.getElem?_cons_succ]
      · rw [if_neg c, Array.getElem?_setIfInBounds, if_neg (fun h => e h.symm), if_neg (by omega)]
theorem setCells_turn : ∀ (vs : List Value) (w : World) (g o : Nat), Turn (only g) w (w.setCells g o vs)
  | [], _, _, _ => Turn.refl _ _
  | v :: r, w, g, o => ((Turn.refl _ w).at_ o v).trans (setCells_turn r _ g (o + 1)) fun _ _ h => h
theorem blk_there {w : World} {g : Nat} {t : TypeId} {C : Array Value} (h : Blk w g t C) (o n : Nat) (hn : o + n ≤ C.size) : w.there g o n := fun j hj =>
  ⟨by rw [h.cell, Array.getElem?_eq_getElem (by omega)]; rfl, h.frozen _⟩
theorem run_store_row {P : Program} {w : World} {g : Nat} {t ty : TypeId} {old cells : Array Value} (hb : Blk w g t old) (hs : old.size = cells.size) (hi : (P.info? ty).map (·.size) = some cells.size)
    (h1 : ∀ v ∈ cells.toList, v.oneCell' = true) : ∃ w', (Instr.storeAt ty (.pointer (some ⟨g, 0, none⟩)) (.agg cells)).run P w = .ok () w' ∧ Blk w' g t cells ∧ Turn (only g) w w' := by
  have hr := run_storeAt_mid (P := P) w g 0 ty cells (blk_there hb 0 _ (by omega)) hi (Array.all_eq_true_iff_forall_mem.2 fun v hv => h1 v (by simpa using hv))
  obtain ⟨C', c1, c2, c3⟩ := setCells_blk cells.toList w g 0 t old hb
  have ht := setCells_turn cells.toList w g 0
  generalize w.setCells g 0 cells.toList = w' at *
  refine ⟨w', hr, ?_, ht⟩
  have : C' = cells := by
    apply Array.ext_getElem?
    intro j
    rw [c3]
    by_cases hj : j < cells.size
    · rw [if_pos ⟨by omega, by simpa using hj, by omega⟩]
      simp
    · rw [if_neg (by simp; omega), Array.getElem?_eq_none (by omega), Array.getElem?_eq_none (by omega)]
  exact this ▸ c1
section
variable {P : Program} {ops : Array Oper} {rest : List Oper} {o : Oper} {a : Act} {w : World} {Q : Exit → Act → World → Prop}
theorem wpList_store_row (hgd : Region.wanted o (yielded ops a.tmps) = true) (ty : TypeId) (x y : Operand) (ho : o.op = .store ty x y) {g : Nat} {t : TypeId} {old : Array Value} (cells : Array Value) (hb : Blk w g t old)
    (hx : a.eval x = .pointer (some ⟨g, 0, none⟩)) (hy : a.eval y = .agg cells) (hs : old.size = cells.size) (hi : (P.info? ty).map (·.size) = some cells.size) (h1 : ∀ v ∈ cells.toList, v.oneCell' = true)
    (h : ∀ w', Blk w' g t cells → Turn (only g) w w' → wpList P ops Q rest (a.put o.dst undef) w') : wpList P ops Q (o :: rest) a w :=
  wpList_step fun K hK => by
    rw [if_pos hgd]
    obtain ⟨w', hr, h2, h3⟩ := run_store_row (P := P) hb hs hi h1
    unfold Oper.wp execOp
    simp only [ho, hx, hy, hr, Sem.run_bind, Sem.run_pure, Result.andThen_ok]
    exact hK _ _ (h w' h2 h3)
theorem wpList_run (hgd : Region.wanted o (yielded ops a.tmps) = true) {v : Value} {w' : World} (hr : (execOp a.eval o).run P w = .ok (.value v) w') (h : wpList P ops Q rest (a.put o.dst v) w') : wpList P ops Q (o :: rest) a w :=
  wpList_step fun K hK => by
    rw [if_pos hgd]
    unfold Oper.wp
    rw [hr]
    exact hK _ _ h
end
theorem exec_lookup {P : Program} {a : Act} {o : Oper} {t : TypeId} {m x : Operand} {c : Bool} {M k v : Value} {W : World} (ho : o.op = .lookup t m x c) (hm : a.eval m = M) (hx : a.eval x = k) (h : (Instr.lookup t M k c).run P W = .ok v W) :
    (execOp a.eval o).run P W = .ok (.value v) W := by
  unfold execOp
  simp only [ho, hm, hx, h, Sem.run_bind, Sem.run_pure, Result.andThen_ok]
theorem exec_slice {P : Program} {a : Act} {o : Oper} {t : TypeId} {x : Operand} {lo hi mx : Option Operand} {u v : Value} {l h m : Option Value} {W W' : World} (ho : o.op = .slice t x lo hi mx) (hx : a.eval x = u) (hl : lo.map a.eval = l) (hh : hi.map a.eval = h) (hm : mx.map a.eval = m)
    (hr : (Instr.sliceAt t u l h m).run P W = .ok v W') : (execOp a.eval o).run P W = .ok (.value v) W' := by
  unfold execOp
  simp only [ho, hx, hl, hh, hm, hr, Sem.run_bind, Sem.run_pure, Result.andThen_ok]
theorem exec_load {P : Program} {a : Act} {o : Oper} {ty : TypeId} {x : Operand} {p v : Value} {W : World} (ho : o.op = .load ty x) (hx : a.eval x = p) (h : (Instr.loadAt ty p).run P W = .ok v W) : (execOp a.eval o).run P W = .ok (.value v) W := by
  unfold execOp
  simp only [ho, hx, h, Sem.run_bind, Sem.run_pure, Result.andThen_ok]
section
variable {P : Program} {a : Act} {o : Oper} {W : World}
theorem exec_move {x : Operand} {v : Value} (ho : o.op = .move x) (hx : a.eval x = v) : (execOp a.eval o).run P W = .ok (.value v) W := by
  unfold execOp
  simp only [ho, hx, Sem.run_pure]
theorem exec_nil {x : Operand} {p : Addr} (ho : o.op = .nilCheck x) (hx : a.eval x = .pointer (some p)) : (execOp a.eval o).run P W = .ok (.value (.pointer (some p))) W := by
  unfold execOp
  simp only [ho, hx, Sem.run_pure]
def fieldOff (P : Program) (s : TypeId) (k : Nat) : Option Nat :=
  match P.underlying s with
  | some (.struct fs) => match fs[k]? with
    | some f => match P.info? f.type with
      | some i => if i.size = 0 then none else some f.offset
      | none => none
    | none => none
  | _ => none
theorem exec_field {s : TypeId} {k d b off : Nat} {x : Operand} (ho : o.op = .fieldAddr s x k) (hx : a.eval x = .pointer (some ⟨b, off, none⟩)) (hf : fieldOff P s k = some d) :
    (execOp a.eval o).run P W = .ok (.value (.pointer (some ⟨b, off + d, none⟩))) W := by
  unfold execOp
  unfold fieldOff at hf
  split at hf
  · rename_i fs hu
    split at hf
    · rename_i f hfs
      split at hf
      · rename_i i hi
        split at hf
        · cases hf
        · rename_i hz
          cases hf
          simp [ho, hx, Instr.fieldAt, run_underlying hu, hfs, Instr.sureAddr, fieldPlace, sizeOf, typeInfo, hi, hz, add_nat, Result.andThen]
      · cases hf
    · cases hf
  · cases hf
def plainB (P : Program) (t : TypeId) : Bool :=
  match P.underlying t with
  | some (.struct _) | some (.array _ _) | none => false
  | _ => true
theorem exec_load1 {ty : TypeId} {x : Operand} {p : Addr} {v : Value} (ho : o.op = .load ty x) (hx : a.eval x = .pointer (some p)) (hp : plainB P ty = true) (hc : W.cell? p = some v) : (execOp a.eval o).run P W = .ok (.value v) W := by
  unfold execOp
  have hagg : (isAgg ty).run P W = .ok false W := by
    unfold isAgg
    unfold plainB at hp
    split at hp
    · cases hp
    · cases hp
    · cases hp
    · rename_i h1 h2 h3
      cases hu : P.underlying ty with
      | none => exact absurd hu h3
      | some d =>
        rw [Sem.run_bind, run_underlying hu W]
        cases d <;> first | rfl | exact absurd hu (h1 _) | exact absurd hu (h2 _ _)
  simp [ho, hx, Instr.loadAt, Instr.sureAddr, loadVar, hagg, hc, Result.andThen]
theorem exec_makeMap {t : TypeId} (ho : o.op = .makeMap t none) : (execOp a.eval o).run P W = .ok (.value (.map (some W.heap.size))) (W.alloc (.map #[] 0)) := by
  unfold execOp
  simp only [ho]
  simp only [Option.map_none, run_makeMap, Sem.run_bind, Sem.run_pure, Result.andThen_ok]
theorem exec_buildSlice1 {t : TypeId} {x : Operand} {u v : Value} {W' : World} (ho : o.op = .buildSlice t 1 #[(0, x)]) (hx : a.eval x = u) (h : (Instr.buildSlice t 1 #[(0, u)]).run P W = .ok v W') : (execOp a.eval o).run P W = .ok (.value v) W' := by
  unfold execOp
  simp only [ho, List.map_toArray, List.map_cons, List.map_nil, hx, h, Sem.run_bind, Sem.run_pure, Result.andThen_ok]
theorem exec_append {t : TypeId} {x y : Operand} {u v r : Value} {W' : World} (ho : o.op = .call { callee := .builtin .append, args := #[x, y], argTypes := #[t, t] }) (hx : a.eval x = u) (hy : a.eval y = v) (hr : (Builtin.append_ #[t, t] o.type #[u, v]).run P W = .ok r W') :
    (execOp a.eval o).run P W = .ok (.value r) W' := by
  unfold execOp
  simp only [ho, resolve, invoke, builtin, Sem.run_bind, Sem.run_pure, Result.andThen_ok, List.map_toArray, List.map_cons, List.map_nil, hx, hy, hr]
end
end Go.Proofs.YtelipeoilcepbaaDoor
namespace Go.Proofs.YtelipeoilcepbaaDoor
open Go.RowKit
theorem splice_at : ∀ (l : List Value) (k off : Nat) (cells : Array Value), ((l.zipIdx k).foldl (fun cs (x : Value × Nat) => cs.setIfInBounds (off + x.2) x.1) cells).size = cells.size ∧
    ∀ j, ((l.zipIdx k).foldl (fun cs (x : Value × Nat) => cs.setIfInBounds (off + x.2) x.1) cells)[j]? = if off + k ≤ j ∧ j < off + k + l.length ∧ j < cells.size then l[j - (off + k)]? else cells[j]?
  | [], k, off, cells => ⟨rfl, fun j => by
      rw [if_neg (by simp; omega)]
      rfl⟩
  | v :: r, k, off, cells => by
    simp only [List.zipIdx_cons, List.foldl_cons]
    obtain ⟨h1, h2⟩ := splice_at r (k + 1) off (cells.setIfInBounds (off + k) v)
    refine ⟨by rw [h1, Array.size_setIfInBounds], fun j => ?_⟩
    rw [h2, Array.size_setIfInBounds, List.length_cons]
    by_cases e : j = off + k
    · subst e
      rw [if_neg (by omega), Array.getElem?_setIfInBounds]
      by_cases hs : off + k < cells.size
      · rw [if_pos rfl, if_pos hs, if_pos ⟨by omega, by omega, hs⟩, Nat.sub_self]
        rfl
      · rw [if_pos rfl, if_neg hs, if_neg (by omega), Array.getElem?_eq_none (by omega)]
    · by_cases c : off + (k + 1) ≤ j ∧ j < off + (k + 1) + r.length ∧ j < cells.size
      · rw [if_pos c, if_pos ⟨by omega, by omega, c.2.2⟩, show j - (off + k) = (j - (off + (k + 1))) + 1 from by omega, List.getElem?_cons_succ]
      · rw [if_neg c, Array.getElem?_setIfInBounds, if_neg (fun h => e h.symm)]
        rw [if_neg (by omega)]
theorem splice_all (vs cells : Array Value) (h : vs.size = cells.size) : vs.zipIdx.foldl (fun cs (x : Value × Nat) => cs.setIfInBounds (0 + x.2) x.1) cells = vs := by
  have hz : vs.zipIdx = (vs.toList.zipIdx 0).toArray := by
    apply Array.ext'
    simp [Array.toList_zipIdx]
  rw [hz, List.foldl_toArray]
  obtain ⟨h1, h2⟩ := splice_at vs.toList 0 0 cells
  apply Array.ext_getElem?
  intro j
  rw [h2]
  by_cases hj : j < vs.size
  · rw [if_pos ⟨by omega, by simpa using hj, by omega⟩]
    simp
  · rw [if_neg (by simp; omega), Array.getElem?_eq_none (by omega), Array.getElem?_eq_none (by omega)]
theorem run_buildSlice_one {P : Program} {t e : TypeId} {i : TypeInfo} {z v : Value} (ht : P.underlying t = some (.slice e)) (hi : P.info? e = some i) (hz : i.zero = some z) (hs : v.cells.size = i.size) (hzs : z.cells.size = i.size)
    (h0 : 0 < i.size) (hsm : i.size ≤ 16777216) (w : World) :
    (Instr.buildSlice t 1 #[(0, v)]).run P w = .ok (.slice (some ⟨w.heap.size, 0, none⟩) 1 1) (w.alloc (.cells v.cells e)) := by
  have hfill : Instr.fill (fun j => some (j * i.size, i.size)) ((Array.range (1 * i.size)).map (z.cells[· % z.cells.size]!)) [(0, v)] = some v.cells := by
    unfold Instr.fill
    simp only [Nat.zero_mul, hs, Nat.one_mul, Array.size_map, Array.size_range, Nat.zero_add]
    rw [if_neg (by simp)]
    unfold Instr.fill
    congr 1
    have := splice_all v.cells (Array.map (fun x => z.cells[x % z.cells.size]!) (Array.range i.size)) (by simp [hs])
    simpa using this
  have g1 : ¬ (16777216 < i.size) := by omega
  have g2 : i.size ≠ 0 := by omega
  simp only [Nat.one_mul] at hfill
  simp [Instr.buildSlice, run_underlying ht, sizeOf, typeInfo, zeroValue, hi, hz, g1, g2, hfill, newRow]
end Go.Proofs.YtelipeoilcepbaaDoor
namespace Go.Proofs.YtelipeoilcepbaaDoor
open Go.RowKit
theorem zz : (∀ (t : Array Value) (ds) (d : Nat) (v : Value), Act.put ⟨t, ds⟩ (some d) v = ⟨t.setIfInBounds d v, ds⟩) ∧ (∀ (a : Act) (v : Value), a.put none v = a) ∧ (∀ (l : List Value) (i : Nat) (a : Value), l.toArray.setIfInBounds i a = (l.set i a).toArray) ∧ (∀ (x : Value) (xs : List Value) (a : Value), (x :: xs).set 0 a = a :: xs) ∧ (∀ (x : Value) (xs : List Value) (i : Nat) (a : Value), (x :: xs).set (i + 1) a = x :: xs.set i a) :=
  ⟨fun _ _ _ _ => rfl, fun _ _ => rfl, fun l i a => List.setIfInBounds_toArray l i a, fun _ _ _ => List.set_cons_zero, fun _ _ _ _ => List.set_cons_succ⟩
end Go.Proofs.YtelipeoilcepbaaDoor
namespace Go.Proofs.YtelipeoilcepbaaDoor
open Go.RowKit
theorem wanted_no9 {o : Oper} {y : Nat → Option Bool} (h : o.guard = none) : Region.wanted o y = true := by
  unfold Region.wanted
  rw [h]
section
variable {P : Program} {ops : Array Oper} {rest : List Oper} {o : Oper} {a : Act} {w : World} {Q : Exit → Act → World → Prop}
theorem nR (v : Value) {w' : World} (hr : (execOp a.eval o).run P w = .ok (.value v) w') (h : wpList P ops Q rest (a.put o.dst v) w') (hgd : o.guard = none := by rfl) : wpList P ops Q (o :: rest) a w := wpList_run (wanted_no9 hgd) hr h
end
end Go.Proofs.YtelipeoilcepbaaDoor
