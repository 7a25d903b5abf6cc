/-
  saf in memory: its queues, the reference's queues, messages. No conditions.
-/
import Derived.Test.YtkcedcllefcboaaGno
import Derived.Test.YtkcedcllefcboaaStq
import Derived.Test.YtkcedcllefcboaaPure
namespace Go.Proofs.Ytkcedcllefcboaa
open Go.RowKit
set_option linter.unusedVariables false
set_option linter.unusedSimpArgs false
abbrev Fld := Int × List UInt8
theorem size_field : (Try.prog.info? 41).map (·.size) = some 2 := by kernel_rfl
theorem zero_field (w : World) : (zeroValue 41).run Try.prog w = .ok (.agg #[.int .i64 0, strV []]) w := by kernel_rfl
def fldA (f : Fld) : Array Value := #[.int .i64 f.1, strV f.2]
def fldL (f : Fld) : List Value := [.int .i64 f.1, strV f.2]
theorem fldL_one (f : Fld) : ∀ v ∈ fldL f, v.oneCell' = true := fun v hv => by
  unfold fldL at hv
  simp only [List.mem_cons, List.not_mem_nil, or_false] at hv
  rcases hv with rfl | rfl <;> rfl
theorem fldA_one (f : Fld) : ∀ v ∈ (fldA f).toList, v.oneCell' = true := fun v hv => fldL_one f v hv
theorem size_msg : (Try.prog.info? 35).map (·.size) = some 2 := by kernel_rfl
theorem zero_msg (w : World) : (zeroValue 35).run Try.prog w = .ok (.agg #[.int .i64 0, .slice none 0 0]) w := by kernel_rfl
def msgV (ty : Int) (A : Option Addr) (n c : Nat) : Value := .agg #[.int .i64 ty, .slice A n c]
theorem msgA_one (ty : Int) (A : Option Addr) (n c : Nat) : ∀ v ∈ (#[.int .i64 ty, .slice A n c] : Array Value).toList, v.oneCell' = true := fun v hv => by
  simp only [List.mem_cons, List.not_mem_nil, or_false] at hv
  rcases hv with rfl | rfl <;> rfl
theorem build_f0 (W : World) : (Instr.buildSlice 33 0 #[]).run Try.prog W = .ok (.slice (some ⟨W.heap.size, 0, none⟩) 0 0) (W.alloc (.cells #[] 41)) := by kernel_rfl
theorem build_msg2 (ty : Int) (A : Option Addr) (n c : Nat) (W : World) : (Instr.build 35 #[(0, .int .i64 ty), (1, .slice A n c)]).run Try.prog W = .ok (.agg #[.int .i64 ty, .slice A n c]) W := by kernel_rfl
theorem elmF : Elm Try.prog 33 41 2 24 (.agg #[.int .i64 0, .string ByteArray.empty]) := ⟨Try.underlying33, by kernel_rfl, rfl, by decide, by decide⟩
theorem fit_fs (fs : List Fld) : Fit 2 (fs.map fldL) := fun r hr => by
  obtain ⟨f, _, rfl⟩ := List.mem_map.1 hr
  exact ⟨rfl, fun u hu => fldL_one f u hu⟩
/-- fields that can be read: no more than memory has -/
def Fq (w : World) (A : Option Addr) (n : Nat) (fs : List Fld) : Prop := Rws w 2 A n (fs.map fldL) ∧ n * 24 ≤ 140737488355328
/-- fields in a row of the call's own -/
def Fr (w : World) (B : Nat) (v : Value) (fs : List Fld) : Prop := Orw w B 41 2 v (fs.map fldL)
theorem Fq.still {w w' : World} {A : Option Addr} {n : Nat} {fs : List Fld} (h : Fq w A n fs) (ht : Turn nowhere w w') : Fq w' A n fs := ⟨h.1.still ht, h.2⟩
theorem Fq.len {w : World} {A : Option Addr} {n : Nat} {fs : List Fld} (h : Fq w A n fs) : fs.length = n := by have := h.1.1; rwa [List.length_map] at this
theorem Fr.fq {w : World} {B n c : Nat} {A : Option Addr} {fs : List Fld} (h : Fr w B (.slice A n c) fs) (hn : n * 24 ≤ 140737488355328) : Fq w A n fs := by
  have e : n = fs.length := by
    obtain ⟨A', c', e, _⟩ := Orw.form h
    injection e with e1 e2 e3
    rw [e2, List.length_map]
  exact ⟨Orw.rws h (by rw [List.length_map]; omega) (by decide), hn⟩
/-- an advice that waits, and where its message's fields lie -/
structure Adx where
  nm : List UInt8
  ty : Int
  A : Option Addr
  k : Nat
  c : Nat
  fs : List Fld
abbrev Adv := List UInt8 × Int × List Fld
def Adx.pl (x : Adx) : Adv := (x.nm, x.ty, x.fs)
def Adx.cs (x : Adx) : List Value := [strV x.nm, .int .i64 x.ty, .slice x.A x.k x.c]
def Adx.vs (x : Adx) : Array Value := #[strV x.nm, .int .i64 x.ty, .slice x.A x.k x.c]
theorem adx_one (x : Adx) : ∀ v ∈ x.cs, v.oneCell' = true := fun v hv => by
  unfold Adx.cs at hv
  simp only [List.mem_cons, List.not_mem_nil, or_false] at hv
  rcases hv with rfl | rfl | rfl <;> rfl
theorem fit_ad (xs : List Adx) : Fit 3 (xs.map Adx.cs) := fun r hr => by
  obtain ⟨f, _, rfl⟩ := List.mem_map.1 hr
  exact ⟨rfl, fun u hu => adx_one f u hu⟩
/-- its fields lie in a row of Z that nobody writes -/
structure Fz (w : World) (Z : Nat → Prop) (x : Adx) : Prop where
  row : Fr w 0 (.slice x.A x.k x.c) x.fs
  len : x.k = x.fs.length
  room : x.k * 24 ≤ 140737488355328
  inz : ∀ b, (Value.slice x.A x.k x.c).ownBlock = some b → Z b
theorem elmA : Elm Try.prog 54 64 3 48 (.agg #[.string ByteArray.empty, .int .i64 0, .slice none 0 0]) := ⟨Try.underlying54, by kernel_rfl, rfl, by decide, by decide⟩
theorem elmR : Elm Try.prog 57 66 3 48 (.agg #[.string ByteArray.empty, .int .i64 0, .slice none 0 0]) := ⟨Try.underlying57, by kernel_rfl, rfl, by decide, by decide⟩
theorem elmS : Elm Try.prog 52 9 1 16 (.string ByteArray.empty) := ⟨Try.underlying52, by kernel_rfl, rfl, by decide, by decide⟩
/-- a queue at a, its row in block g: at most m, the advices l, the first one under way or not -/
structure Que (w : World) (Z : Nat → Prop) (a : Nat) (g : Option Nat) (m : Nat) (l : List Adv) (s : Bool) : Prop where
  mem : ∃ A c, ∃ xs : List Adx, Blk w a 56 #[.int .i64 (m : Int), .slice A l.length c, .bool s] ∧ Orw w 0 64 3 (.slice A l.length c) (xs.map Adx.cs) ∧ (Value.slice A l.length c).ownBlock = g ∧ xs.map Adx.pl = l ∧ ∀ x ∈ xs, Fz w Z x
  len : l.length ≤ m
  max : 1 ≤ m ∧ m ≤ 16
  way : s = true → l ≠ []
/-- the reference's queue -/
structure RQue (w : World) (Z : Nat → Prop) (y : Nat) (m : Nat) (l : List Adv) (s : Bool) : Prop where
  mem : ∃ A c, ∃ xs : List Adx, Blk w y 59 #[.int .i64 (m : Int), .slice A l.length c, .bool s] ∧ Orw w 0 66 3 (.slice A l.length c) (xs.map Adx.cs) ∧ xs.map Adx.pl = l ∧ ∀ x ∈ xs, Fz w Z x
  len : l.length ≤ m
  max : 1 ≤ m ∧ m ≤ 16
  way : s = true → l ≠ []
section
variable {w w' : World} {Z Y F : Nat → Prop} {a y m : Nat} {g : Option Nat} {l : List Adv} {s : Bool} {x : Adx}
theorem Fz.blk (h : Fz w Z x) {b : Nat} (hb : (Value.slice x.A x.k x.c).ownBlock = some b) : ∃ cur, Blk w b 41 cur := Orw.own_blk h.row hb
theorem Fz.turn (h : Fz w Z x) (ht : Turn F w w') (hF : ∀ k cur, Blk w k 41 cur → Z k → ¬ F k) : Fz w' Z x := ⟨Orw.turn h.row ht fun b hb => by
  obtain ⟨cur, hc⟩ := h.blk hb
  exact hF b cur hc (h.inz b hb), h.len, h.room, h.inz⟩
theorem Fz.still (h : Fz w Z x) (ht : Turn nowhere w w') : Fz w' Z x := h.turn ht fun _ _ _ _ e => e
theorem Fz.mono (h : Fz w Z x) (hZ : ∀ k, k < w.heap.size → Z k → Y k) : Fz w Y x := ⟨h.row, h.len, h.room, fun b hb => hZ b (by
  obtain ⟨cur, hc⟩ := h.blk hb
  exact hc.lt) (h.inz b hb)⟩
theorem Que.turn (q : Que w Z a g m l s) (ht : Turn F w w') (ha : ¬ F a) (hg : ∀ b, g = some b → ¬ F b) (hF : ∀ k cur, Blk w k 41 cur → Z k → ¬ F k) : Que w' Z a g m l s := by
  obtain ⟨⟨A, c, xs, h1, h2, h3, h4, h5⟩, h6, h7, h8⟩ := q
  exact ⟨⟨A, c, xs, h1.turn ht ha, h2.turn ht fun b hb => hg b (by rw [← h3]; exact hb), h3, h4, fun x hx => (h5 x hx).turn ht hF⟩, h6, h7, h8⟩
theorem Que.still (q : Que w Z a g m l s) (ht : Turn nowhere w w') : Que w' Z a g m l s := q.turn ht (fun e => e) (fun _ _ e => e) fun _ _ _ _ e => e
theorem Que.mono (q : Que w Z a g m l s) (hZ : ∀ k, k < w.heap.size → Z k → Y k) : Que w Y a g m l s := by
  obtain ⟨⟨A, c, xs, h1, h2, h3, h4, h5⟩, h6, h7, h8⟩ := q
  exact ⟨⟨A, c, xs, h1, h2, h3, h4, fun x hx => (h5 x hx).mono hZ⟩, h6, h7, h8⟩
theorem Que.box (q : Que w Z a g m l s) : ∃ cs, Blk w a 56 cs := by
  obtain ⟨⟨A, c, xs, h1, _⟩, _⟩ := q
  exact ⟨_, h1⟩
theorem Que.rowb (q : Que w Z a g m l s) {b : Nat} (hb : g = some b) : ∃ cs, Blk w b 64 cs := by
  obtain ⟨⟨A, c, xs, h1, h2, h3, _⟩, _⟩ := q
  exact Orw.own_blk h2 (h3.trans hb)
theorem RQue.turn (q : RQue w Z y m l s) (ht : Turn F w w') (ha : ¬ F y) (hr : ∀ k cur, Blk w k 66 cur → ¬ F k) (hF : ∀ k cur, Blk w k 41 cur → Z k → ¬ F k) : RQue w' Z y m l s := by
  obtain ⟨⟨A, c, xs, h1, h2, h4, h5⟩, h6, h7, h8⟩ := q
  exact ⟨⟨A, c, xs, h1.turn ht ha, h2.turn ht fun b hb => by
    obtain ⟨cur, hc⟩ := Orw.own_blk h2 hb
    exact hr b cur hc, h4, fun x hx => (h5 x hx).turn ht hF⟩, h6, h7, h8⟩
theorem RQue.still (q : RQue w Z y m l s) (ht : Turn nowhere w w') : RQue w' Z y m l s := q.turn ht (fun e => e) (fun _ _ _ e => e) fun _ _ _ _ e => e
theorem RQue.mono (q : RQue w Z y m l s) (hZ : ∀ k, k < w.heap.size → Z k → Y k) : RQue w Y y m l s := by
  obtain ⟨⟨A, c, xs, h1, h2, h4, h5⟩, h6, h7, h8⟩ := q
  exact ⟨⟨A, c, xs, h1, h2, h4, fun x hx => (h5 x hx).mono hZ⟩, h6, h7, h8⟩
theorem RQue.box (q : RQue w Z y m l s) : ∃ cs, Blk w y 59 cs := by
  obtain ⟨⟨A, c, xs, h1, _⟩, _⟩ := q
  exact ⟨_, h1⟩
/-- what a queue's own calls write -/
def foot (a : Nat) (g : Option Nat) : Nat → Prop := fun k => k = a ∨ g = some k
theorem Que.foot_f (q : Que w Z a g m l s) {k : Nat} {t : TypeId} {cur : Array Value} (hb : Blk w k t cur) (h1 : t ≠ 56) (h2 : t ≠ 64) : ¬ foot a g k := by
  rintro (rfl | e)
  · obtain ⟨cs, h⟩ := q.box
    exact hb.ne_ h h1 rfl
  · obtain ⟨cs, h⟩ := q.rowb e
    exact hb.ne_ h h2 rfl
theorem RQue.foot_f (q : RQue w Z y m l s) {k : Nat} {t : TypeId} {cur : Array Value} (hb : Blk w k t cur) (h1 : t ≠ 59) : ¬ only y k := fun e => by
  obtain ⟨cs, h⟩ := q.box
  have e : k = y := e
  subst e
  exact hb.ne_ h h1 rfl
end
namespace Sf
def names (l : List Adv) : List (List UInt8) := l.map (·.1)
/-- P16.2 -/
def putE (m : Nat) (l : List Adv) (n : List UInt8) : Int := if n ∈ names l then 161 else if l.length = m then 3 else 0
def putL (m : Nat) (l : List Adv) (x : Adv) : List Adv := if putE m l x.1 = 0 then l ++ [x] else l
/-- P16.3 -/
def canSend (l : List Adv) (s : Bool) : Bool := !s && !l.isEmpty
def canDone (l : List Adv) (s : Bool) (n : List UInt8) : Bool := s && decide ((l.head?).map (·.1) = some n)
theorem put_twice {m : Nat} {l : List Adv} {n : List UInt8} (h : n ∈ names l) : putE m l n = 161 := if_pos h
theorem put_full {m : Nat} {l : List Adv} {n : List UInt8} (h : n ∉ names l) (hl : l.length = m) : putE m l n = 3 := by
  unfold putE; rw [if_neg h, if_pos hl]
theorem put_ok {m : Nat} {l : List Adv} {n : List UInt8} (h : n ∉ names l) (hl : l.length ≠ m) : putE m l n = 0 := by
  unfold putE; rw [if_neg h, if_neg hl]
end Sf
end Go.Proofs.Ytkcedcllefcboaa
