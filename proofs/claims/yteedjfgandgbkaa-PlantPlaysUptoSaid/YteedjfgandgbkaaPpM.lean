/-
  PlantPlays: its calls in memory, and what its walk asks for besides. No conditions.
-/
import Derived.Test.YteedjfgandgbkaaPpL
import Derived.Test.YteedjfgandgbkaaRfC
import Derived.Test.YteedjfgandgbkaaPlLa
namespace Go.Proofs.Yteedjfgandgbkaa
open Go.RowKit Go.Maps
set_option linter.unusedVariables false
set_option linter.unusedSimpArgs false
structure OpP where
  kind : Int
  dev : Int
  place : Int
  n : Int
  c : UInt8
  A : Option Addr
  m : Nat
  cp : Nat
  zs : List Int
def OpP.arr (o : OpP) : Array Value := opC o.kind o.dev o.place o.n o.c o.A o.m o.cp
def OpP.cells (o : OpP) : List Value := o.arr.toList
def inI (z : Int) : Prop := -9223372036854775808 ≤ z ∧ z ≤ 9223372036854775807
structure OpP.ok (w : World) (o : OpP) : Prop where
  k : inI o.kind
  d : inI o.dev
  p : inI o.place
  n : inI o.n
  ks : Ks w nowhere o.A o.m o.zs
def OpsP (w : World) (A : Option Addr) (n : Nat) (os : List OpP) : Prop := Rws w 6 A n (os.map OpP.cells) ∧ ∀ o ∈ os, o.ok w
theorem Ks.to {w wx : World} {F : Nat → Prop} {A : Option Addr} {n : Nat} {zs : List Int} (h : Ks w nowhere A n zs) (ht : Turn nowhere w wx) (hF : ∀ b, b < w.heap.size → ¬ F b) : Ks wx F A n zs := by
  obtain ⟨h1, h2, h3⟩ := h
  refine ⟨h1, h2, fun h0 => ?_⟩
  obtain ⟨g, off, e, hg, _, hc⟩ := h3 h0
  exact ⟨g, off, e, Nat.lt_of_lt_of_le hg ht.size, hF g hg, fun i hi => (ht.cell (p := ⟨g, off + i, none⟩) hg fun e => e).trans (hc i hi)⟩
theorem OpsP.len {w : World} {A : Option Addr} {n : Nat} {os : List OpP} (h : OpsP w A n os) : n = os.length := by
  have := h.1.1
  rw [List.length_map] at this
  omega
theorem size_op6 : (Try.prog.info? 35).map (·.size) = some 6 := by kernel_rfl
theorem Rws.el {w : World} {k n b off : Nat} {rs : List (List Value)} (h : Rws w k (some ⟨b, off, none⟩) n rs) {i : Nat} {r : List Value} (hr : rs[i]? = some r) : w.rangeAt b (off + i * k) r := fun j u hu => by
  obtain ⟨b', off', e, hc⟩ := h.at_ hr
  injection e with e
  injection e with e1 e2 e3
  subst e1 e2
  exact hc j u hu
theorem OpsP.rng {w wx : World} {b off n : Nat} {os : List OpP} (h : OpsP w (some ⟨b, off, none⟩) n os) (ht : Turn nowhere w wx) {i : Nat} {o : OpP} (ho : os[i]? = some o) : wx.rangeAt b (off + i * 6) o.cells := Rws.el (h.1.still ht) (by rw [List.getElem?_map, ho]; rfl)
theorem zero_op6 (w : World) : (zeroValue 35).run Try.prog w = .ok (.agg #[.int .i64 0, .int .i64 0, .int .i64 0, .int .i64 0, .int .u8 0, .slice none 0 0]) w := by kernel_rfl
theorem OpP.one (o : OpP) : ∀ u ∈ o.arr.toList, u.oneCell' = true := fun u hu => by
  simp only [OpP.arr, opC, List.mem_cons, List.not_mem_nil, or_false] at hu
  rcases hu with rfl | rfl | rfl | rfl | rfl | rfl <;> rfl
theorem ptr_nnP {a : Act} {o : Oper} {W : World} {x y : Operand} {t u : TypeId} {p : Addr} (ho : o.op = .binOp .eql t x y u) (hx : a.eval x = .pointer (some p)) (hy : a.eval y = .pointer none) (ht : t = 25) : (execOp a.eval o).run Try.prog W = .ok (.value (.bool false)) W := by
  subst ht
  unfold execOp
  simp only [ho, hx, hy]
  go_simp
theorem ptr_nnQ {a : Act} {o : Oper} {W : World} {x y : Operand} {t u : TypeId} {p : Addr} (ho : o.op = .binOp .eql t x y u) (hx : a.eval x = .pointer (some p)) (hy : a.eval y = .pointer none) (ht : t = 29) : (execOp a.eval o).run Try.prog W = .ok (.value (.bool false)) W := by
  subst ht
  unfold execOp
  simp only [ho, hx, hy]
  go_simp
theorem ptr_nilP {a : Act} {o : Oper} {W : World} {x y : Operand} {t u : TypeId} (ho : o.op = .binOp .eql t x y u) (hx : a.eval x = .pointer none) (hy : a.eval y = .pointer none) (ht : t = 25) : (execOp a.eval o).run Try.prog W = .ok (.value (.bool true)) W := by
  subst ht
  unfold execOp
  simp only [ho, hx, hy]
  go_simp
theorem ptr_nilQ {a : Act} {o : Oper} {W : World} {x y : Operand} {t u : TypeId} (ho : o.op = .binOp .eql t x y u) (hx : a.eval x = .pointer none) (hy : a.eval y = .pointer none) (ht : t = 29) : (execOp a.eval o).run Try.prog W = .ok (.value (.bool true)) W := by
  subst ht
  unfold execOp
  simp only [ho, hx, hy]
  go_simp
theorem ix_bneq {a : Act} {o : Oper} {W : World} {x y : Operand} {b c d : Bool} {u : TypeId} (ho : o.op = .binOp .neq 4 x y u) (hx : a.eval x = .bool b) (hy : a.eval y = .bool c) (hd : d = (!(b == c))) : (execOp a.eval o).run Try.prog W = .ok (.value (.bool d)) W := by
  unfold execOp
  subst hd
  simp [ho, hx, hy, eqGuard, binOp, run_equal_bool (P := Try.prog) W 4 b c (by kernel_rfl)]
theorem Gd.mono {s : AP} {a : RP} {K K' : Nat} (h : Gd s a K) (hK : K ≤ K') : Gd s a K' := ⟨h.lk, h.f1, h.f2, h.s1, by have := h.s2; omega, by have := h.r; omega⟩
theorem RAt.self {w : World} {q : Nat} {G Z : Nat → Prop} {a : RP} (h : RAt w q G Z a) : G q := by
  obtain ⟨mv, hv, wv, zs, rows, ws, _, rfl⟩ := h
  exact .inl rfl
/-- make of bytes -/
theorem made_bytes (w : World) (n : Nat) (hn : n ≤ 70) : ∃ w', (Instr.makeSlice 36 (.int .i64 (n : Int)) (.int .i64 (n : Int))).run Try.prog w = .ok (.slice (some ⟨w.heap.size, 0, none⟩) n n) w' ∧ Bs w' (some ⟨w.heap.size, 0, none⟩) n (List.replicate n 0) ∧ Turn nowhere w w' := by
  obtain ⟨i0, hi0, hz0, hz1, hz2⟩ := info_parts byteInfo
  have h1 := run_makeSlice (P := Try.prog) w 36 5 i0 _ Try.underlying36 hi0 hz0 .i64 .i64 (n : Int) (n : Int) (by omega) (Int.le_refl _) (by rw [hz1]; omega) (by rw [hz2]; omega) (by omega)
  refine ⟨_, h1, ?_, (Turn.refl _ _).alloc _⟩
  have hb := Blk.new w 5 (madeCells (Value.int .u8 0).cells (((n : Nat) : Int).toNat * i0.size))
  rw [hz1, Nat.mul_one, Int.toNat_natCast, madeBytes] at hb
  rw [hz1, Nat.mul_one, Int.toNat_natCast, madeBytes]
  exact bs_blk (l := List.replicate n 0) hb (by simp) (by unfold maxLen; omega)
theorem rnew_no {w : World} (A : Option Addr) (n cap : Nat) (zs : List Int) (hz : Ks w nowhere A n zs) (hs : ¬ sizesOk zs) :
    Calls Try.prog 6 #[.slice A n cap] w fun e w' => e = .returned (.tuple #[.pointer none, .int .i64 30]) ∧ Turn nowhere w w' := by
  by_cases h : 1 ≤ n ∧ n ≤ 4
  · refine (rnew_walk A n cap zs hz h.1 h.2).mono fun e w' hh => ?_
    rcases hh with ⟨h1, _⟩ | ⟨_, h2, h3⟩
    · exact absurd h1 hs
    · exact ⟨h2, h3⟩
  · refine (rnew_count A n cap h hz.2.1).mono fun e w' ⟨h1, h2⟩ => ⟨h1, ?_⟩
    subst h2
    exact Turn.refl _ _
theorem new_any {w : World} (A : Option Addr) (n cap : Nat) (zs : List Int) (hz : Ks w nowhere A n zs) : Calls Try.prog 5 #[.slice A n cap] w (NewPost w zs) := by
  by_cases h : 1 ≤ n ∧ n ≤ 4
  · exact new_walk A n cap zs hz h.1 h.2
  · exact new_count A n cap zs hz.1 h hz.2.1
/-- Most, as a loop reads it -/
theorem RAt.mosts {w : World} {q : Nat} {G Z : Nat → Prop} {a : RP} (h : RAt w q G Z a) : ∃ bm cm hv wv, Blk w q 49 (refCells (.slice (some ⟨bm, 0, none⟩) a.ds.length cm) hv wv a.off a.burns a.left a.done) ∧ a.ds.length ≤ 4 ∧ ∀ d e, a.ds[d]? = some e → w.cell? ⟨bm, d, none⟩ = some (.int .i64 (e.1 : Int)) := by
  obtain ⟨mv, hv, wv, zs, rows, ws, h, _⟩ := h
  have hd := h.d1
  obtain ⟨A, c, e, hz⟩ := h.mform
  have hb := h.blk
  have hn := h.most
  rw [e] at hb hn
  obtain ⟨bm, c2, e2, _, _⟩ := hn.some_ (by rw [len_row1, List.length_map, h.zlen]; exact hd.1)
  injection e2 with e2 e3 e4
  subst e2
  refine ⟨bm, c, hv, wv, hb, hd.2, fun d x hx => ?_⟩
  have hl := (List.getElem?_eq_some_iff.1 hx).1
  obtain ⟨g, off, e5, _, _, hc⟩ := hz.2.2 (by omega)
  injection e5 with e5
  injection e5 with e5 e6
  subst e5 e6
  have h9 := hc d hl
  rw [Nat.zero_add, List.getD_eq_getElem?_getD, h.zat d x hx] at h9
  exact h9
end Go.Proofs.Yteedjfgandgbkaa
