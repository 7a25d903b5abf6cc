/-
  Texts in one file: WmU WmV WmBA WmBB. Conditions: the tables and the errors read as the program's text lays them.
-/
import Derived.Test.YtelipeoilcepbaaDoorWp0
import Derived.Test.YtelipeoilcepbaaDoorWp31
import Derived.Test.YtelipeoilcepbaaDoorWp32
import Derived.Test.YtelipeoilcepbaaDoorWp4
namespace Go.Proofs.YtelipeoilcepbaaDoor
open Go.RowKit
open Wl (B8)
set_option linter.unusedVariables false
set_option linter.unusedSimpArgs false
set_option maxRecDepth 20000
def amongI (c n : Int) : Int := (if c < 0 then -(c + 1) else c).tmod n
theorem among_in {c n : Int} (hn : 0 < n) : 0 ≤ amongI c n ∧ amongI c n < n := by
  unfold amongI
  split
  · rw [Int.tmod_eq_emod_of_nonneg (by omega)]
    exact ⟨Int.emod_nonneg _ (by omega), Int.emod_lt_of_pos _ hn⟩
  · rw [Int.tmod_eq_emod_of_nonneg (by omega)]
    exact ⟨Int.emod_nonneg _ (by omega), Int.emod_lt_of_pos _ hn⟩
theorem wx_rem {a : Act} {o : Oper} {W : World} {x y : Operand} {i j : Int} (ho : o.op = .binOp .rem 3 x y 3) (hx : a.eval x = .int .i64 i) (hy : a.eval y = .int .i64 j) (hj : 0 < j) (hi : 0 ≤ i ∧ i ≤ 9223372036854775807) : (execOp a.eval o).run Tryd.prog W = .ok (.value (.int .i64 (i.tmod j))) W := by
  have h1 : 0 ≤ i.tmod j ∧ i.tmod j ≤ 9223372036854775807 := by
    rw [Int.tmod_eq_emod_of_nonneg hi.1]
    have h2 := Int.emod_nonneg i (b := j) (by omega)
    have h3 := Int.mul_ediv_add_emod i j
    have h4 := Int.mul_nonneg (show 0 ≤ j by omega) (Int.ediv_nonneg hi.1 (show 0 ≤ j by omega))
    omega
  have hne : j ≠ 0 := by omega
  unfold execOp
  simp only [ho, hx, hy]
  go_simp
  all_goals first | rfl | (rw [if_neg hne]; first | rfl | (rw [IntKind.wrap_i64 (by omega) (by omega)]; rfl) | simp) | simp [hne]
theorem wx_neg {a : Act} {o : Oper} {W : World} {x : Operand} {i r : Int} (ho : o.op = .unOp .neg 3 x) (hx : a.eval x = .int .i64 i) (h : -i = r) (hb : -9223372036854775808 ≤ r ∧ r ≤ 9223372036854775807) : (execOp a.eval o).run Tryd.prog W = .ok (.value (.int .i64 r)) W := by
  have hw : IntKind.wrap .i64 r = r := by rw [IntKind.wrap_i64]; omega
  unfold execOp
  simp only [ho, hx]
  go_simp
  try (rw [h]; exact hw)
set_option maxRecDepth 20000 in
set_option maxHeartbeats 4000000 in
theorem among_walk {w : World} (c n : Int) (hc : -9223372036854775808 ≤ c ∧ c ≤ 9223372036854775807) (hn : 0 < n) : Calls Tryd.prog 5 #[.int .i64 c, .int .i64 n] w fun r w' => r = .returned (.int .i64 (amongI c n)) ∧ w' = w := by
  have HC := Lib.hid hc
  have HN := Lib.hid hn
  clear hc hn
  go_enter Tryd.func5, Tryd.ntmps5
  go_upto_region 0 with fail
  refine wp_region_lit ?_
  refine nR (.int .i64 0) (gx_assign rfl rfl) ?_;simp only [zz]
  by_cases h0 : c < 0
  · go_upto_region 1 with fail
    refine wp_region_lit ?_
    refine nR (.int .i64 c) (exec_move rfl rfl) ?_;simp only [zz];refine nR (.bool true) (ix_lss rfl rfl rfl (decide_eq_true h0)) ?_;simp only [zz]
    go_upto_region 2 with fail
    refine wp_region_lit ?_
    refine nR (.int .i64 c) (exec_move rfl rfl) ?_;simp only [zz];refine nR (.int .i64 (c + 1)) (ix_add rfl rfl rfl rfl (by have := HC.out; omega)) ?_;simp only [zz];refine nR (.int .i64 (-(c + 1))) (wx_neg rfl rfl rfl (by have := HC.out; omega)) ?_;simp only [zz];refine nR (.int .i64 (-(c + 1))) (gx_assign rfl rfl) ?_;simp only [zz]
    go_upto_region 3 with fail
    refine wp_region_lit ?_
    refine nR (.int .i64 (-(c + 1))) (exec_move rfl rfl) ?_;simp only [zz];refine nR (.int .i64 n) (exec_move rfl rfl) ?_;simp only [zz];refine nR (.int .i64 ((-(c + 1)).tmod n)) (wx_rem rfl rfl rfl HN.out (by have := HC.out; omega)) ?_;simp only [zz];refine nR (.int .i64 ((-(c + 1)).tmod n)) (gx_assign rfl rfl) ?_;simp only [zz]
    go_wp2_with fail
    go_ret
    exact ⟨by unfold amongI; rw [if_pos h0]; rfl, rfl⟩
  · go_upto_region 1 with fail
    refine wp_region_lit ?_
    refine nR (.int .i64 c) (exec_move rfl rfl) ?_;simp only [zz];refine nR (.bool false) (ix_lss rfl rfl rfl (decide_eq_false h0)) ?_;simp only [zz]
    go_upto_region 3 with fail
    refine wp_region_lit ?_
    refine nR (.int .i64 c) (exec_move rfl rfl) ?_;simp only [zz];refine nR (.int .i64 n) (exec_move rfl rfl) ?_;simp only [zz];refine nR (.int .i64 (c.tmod n)) (wx_rem rfl rfl rfl HN.out (by have := HC.out; omega)) ?_;simp only [zz];refine nR (.int .i64 (c.tmod n)) (gx_assign rfl rfl) ?_;simp only [zz]
    go_wp2_with fail
    go_ret
    exact ⟨by unfold amongI; rw [if_neg (show ¬ c < 0 by omega)]; rfl, rfl⟩
end Go.Proofs.YtelipeoilcepbaaDoor
namespace Go.Proofs.YtelipeoilcepbaaDoor
open Go.RowKit
open Wl (B8 Gp)
set_option linter.unusedVariables false
set_option linter.unusedSimpArgs false
set_option maxRecDepth 20000
section
variable {w wr : World} {p S n B f N x : Nat}
theorem cost_le {l : Wl.Rec} (h : ¬ Wl.long l) : Wl.cost l ≤ 64 := by
  unfold Wl.long at h
  unfold Wl.cost
  omega
end
end Go.Proofs.YtelipeoilcepbaaDoor
namespace Go.Proofs.YtelipeoilcepbaaDoor
open Go.RowKit
open Wl (B8)
set_option linter.unusedVariables false
set_option linter.unusedSimpArgs false
set_option maxRecDepth 20000
theorem elmB8 : Elm Tryd.prog 38 5 1 1 (.int .u8 0) := ⟨Tryd.underlying38, by kernel_rfl, rfl, by decide, by decide⟩
theorem elmT8 : Elm Tryd.prog 33 38 1 24 (.slice none 0 0) := ⟨Tryd.underlying33, by kernel_rfl, rfl, by decide, by decide⟩
theorem elmG8 : Elm Tryd.prog 30 33 1 24 (.slice none 0 0) := ⟨Tryd.underlying30, by kernel_rfl, rfl, by decide, by decide⟩
theorem size_T8 : (Tryd.prog.info? 38).map (·.size) = some 1 := by kernel_rfl
theorem size_G8 : (Tryd.prog.info? 33).map (·.size) = some 1 := by kernel_rfl
def one1 (v : Value) : List Value := [v]
def InZ (Z : Nat → Prop) (A : Option Addr) (n : Nat) : Prop := ∀ b off s, A = some ⟨b, off, s⟩ → 0 < n → Z b
theorem InZ.mono {Z Z' : Nat → Prop} {A : Option Addr} {n : Nat} (h : InZ Z A n) (hz : ∀ k, Z k → Z' k) : InZ Z' A n := fun b off s e hp => hz b (h b off s e hp)
def TxZ (w : World) (Z : Nat → Prop) (v : Value) (x : B8) : Prop := ∃ a m c, v = .slice a m c ∧ Bs w a m x ∧ (a = none → c = 0) ∧ m ≤ 1048576 ∧ InZ Z a m
def LsZ (w : World) (Z : Nat → Prop) (v : Value) (l : Wl.Rec) : Prop := ∃ A n c, ∃ vs : List Value, v = .slice A n c ∧ Rws w 1 A n (vs.map one1) ∧ vs.length = l.length ∧ (∀ (i : Nat) (u : Value) (x : B8), vs[i]? = some u → l[i]? = some x → TxZ w Z u x) ∧ (A = none → c = 0) ∧ n ≤ 1048576 ∧ InZ Z A n
def GsZ (w : World) (Z : Nat → Prop) (v : Value) (gs : List Wl.Rec) : Prop := ∃ A n c, ∃ vs : List Value, v = .slice A n c ∧ Rws w 1 A n (vs.map one1) ∧ vs.length = gs.length ∧ (∀ (i : Nat) (u : Value) (L : Wl.Rec), vs[i]? = some u → gs[i]? = some L → LsZ w Z u L) ∧ (A = none → c = 0) ∧ n ≤ c ∧ InZ Z A n
def BKT : TypeId := 32
def Bk (w : World) (b f : Nat) (gs : List Wl.Rec) (Z : Nat → Prop) : Prop := ∃ v, Blk w b 32 #[.int .i64 (f : Int), v] ∧ GsZ w Z v gs ∧ Z b
section
variable {w w' : World} {Z Z' G : Nat → Prop} {v : Value} {x : B8} {l : Wl.Rec} {gs : List Wl.Rec} {b f : Nat}
theorem TxZ.turn (h : TxZ w Z v x) (ht : Turn G w w') (hz : ∀ k, Z k → k < w.heap.size → ¬ G k) : TxZ w' Z v x := by
  obtain ⟨a, m, c, rfl, h1, h2, h3, h4⟩ := h
  refine ⟨a, m, c, rfl, ?_, h2, h3, h4⟩
  obtain ⟨g1, g2, g3⟩ := h1
  refine ⟨g1, g2, fun hp => ?_⟩
  obtain ⟨b, off, rfl, hc⟩ := g3 hp
  refine ⟨b, off, rfl, fun i hi => ?_⟩
  have h5 := hc i hi
  rw [ht.cell (p := ⟨b, off + i, none⟩) (World.block_lt_of_cell? _ _ h5) (hz b (h4 b off none rfl hp) (World.block_lt_of_cell? _ _ h5))]
  exact h5
theorem TxZ.mono (h : TxZ w Z v x) (hz : ∀ k, Z k → Z' k) : TxZ w Z' v x := by
  obtain ⟨a, m, c, rfl, h1, h2, h3, h4⟩ := h
  exact ⟨a, m, c, rfl, h1, h2, h3, h4.mono hz⟩
theorem rwsZ {A : Option Addr} {n : Nat} {rs : List (List Value)} (h : Rws w 1 A n rs) (hi : InZ Z A n) (ht : Turn G w w') (hz : ∀ k, Z k → k < w.heap.size → ¬ G k) : Rws w' 1 A n rs :=
  h.turn ht fun b off s e hp hb => hz b (hi b off s e hp) hb
theorem LsZ.turn (h : LsZ w Z v l) (ht : Turn G w w') (hz : ∀ k, Z k → k < w.heap.size → ¬ G k) : LsZ w' Z v l := by
  obtain ⟨A, n, c, vs, rfl, h1, h2, h3, h4, h5, h6⟩ := h
  exact ⟨A, n, c, vs, rfl, rwsZ h1 h6 ht hz, h2, fun i u x hu hx => (h3 i u x hu hx).turn ht hz, h4, h5, h6⟩
theorem LsZ.mono (h : LsZ w Z v l) (hz : ∀ k, Z k → Z' k) : LsZ w Z' v l := by
  obtain ⟨A, n, c, vs, rfl, h1, h2, h3, h4, h5, h6⟩ := h
  exact ⟨A, n, c, vs, rfl, h1, h2, fun i u x hu hx => (h3 i u x hu hx).mono hz, h4, h5, h6.mono hz⟩
theorem GsZ.turn (h : GsZ w Z v gs) (ht : Turn G w w') (hz : ∀ k, Z k → k < w.heap.size → ¬ G k) : GsZ w' Z v gs := by
  obtain ⟨A, n, c, vs, rfl, h1, h2, h3, h4, h5, h6⟩ := h
  exact ⟨A, n, c, vs, rfl, rwsZ h1 h6 ht hz, h2, fun i u x hu hx => (h3 i u x hu hx).turn ht hz, h4, h5, h6⟩
theorem GsZ.mono (h : GsZ w Z v gs) (hz : ∀ k, Z k → Z' k) : GsZ w Z' v gs := by
  obtain ⟨A, n, c, vs, rfl, h1, h2, h3, h4, h5, h6⟩ := h
  exact ⟨A, n, c, vs, rfl, h1, h2, fun i u x hu hx => (h3 i u x hu hx).mono hz, h4, h5, h6.mono hz⟩
theorem Bk.turn (h : Bk w b f gs Z) (ht : Turn G w w') (hz : ∀ k, Z k → k < w.heap.size → ¬ G k) : Bk w' b f gs Z := by
  obtain ⟨v, h1, h2, h3⟩ := h
  exact ⟨v, h1.turn ht (hz b h3 h1.lt), h2.turn ht hz, h3⟩
theorem Bk.still (h : Bk w b f gs Z) (ht : Turn nowhere w w') : Bk w' b f gs Z := h.turn ht fun _ _ _ e => e
theorem LsZ.still (h : LsZ w Z v l) (ht : Turn nowhere w w') : LsZ w' Z v l := h.turn ht fun _ _ _ e => e
theorem Bk.mono (h : Bk w b f gs Z) (hz : ∀ k, Z k → Z' k) : Bk w b f gs Z' := by
  obtain ⟨v, h1, h2, h3⟩ := h
  exact ⟨v, h1, h2.mono hz, hz b h3⟩
theorem LsZ.len (h : LsZ w Z v l) : ∃ A c, v = .slice A l.length c ∧ (A = none → c = 0) ∧ l.length ≤ 1048576 := by
  obtain ⟨A, n, c, vs, rfl, h1, h2, h3, h4, h5, h6⟩ := h
  have := h1.1
  rw [List.length_map] at this
  obtain rfl : l.length = n := by omega
  exact ⟨A, c, rfl, h4, h5⟩
theorem LsZ.ls (h : LsZ w Z v l) : ∃ A c, v = .slice A l.length c ∧ Ls w A l.length l ∧ (A = none → c = 0) := by
  obtain ⟨A, n, c, vs, rfl, h1, h2, h3, h4, h5, h6⟩ := h
  have hn := h1.1
  rw [List.length_map] at hn
  obtain rfl : l.length = n := by omega
  refine ⟨A, c, rfl, ⟨rfl, h5, fun hp => ?_⟩, h4⟩
  obtain ⟨b, off, rfl, hc⟩ := h1.2.2.2 hp
  refine ⟨b, off, rfl, fun i x hx => ?_⟩
  have hi := (List.getElem?_eq_some_iff.1 hx).1
  obtain ⟨u, hu⟩ : ∃ u, vs[i]? = some u := ⟨vs[i]'(by omega), List.getElem?_eq_getElem (by omega)⟩
  obtain ⟨a, m, q, rfl, g1, g2, g3, _⟩ := h3 i u x hu hx
  refine ⟨a, m, q, ?_, g1, g2, g3⟩
  have := hc i (one1 (.slice a m q)) (by rw [List.getElem?_map, hu]; rfl) 0 _ rfl
  rw [Nat.mul_one, Nat.add_zero] at this
  exact this
theorem gsz_nil (w : World) (Z : Nat → Prop) : GsZ w Z (.slice none 0 0) [] := ⟨none, 0, 0, [], rfl, rws_nil _ _ _, rfl, fun i u L h => by simp at h, fun _ => rfl, Nat.le_refl _, fun b off s e => by cases e⟩
theorem GsZ.len (h : GsZ w Z v gs) : ∃ A c, v = .slice A gs.length c ∧ (A = none → c = 0) ∧ gs.length ≤ c := by
  obtain ⟨A, n, c, vs, rfl, h1, h2, h3, h4, h5, h6⟩ := h
  have := h1.1
  rw [List.length_map] at this
  obtain rfl : gs.length = n := by omega
  exact ⟨A, c, rfl, h4, h5⟩
theorem GsZ.at_ {A : Option Addr} {n c : Nat} (h : GsZ w Z (.slice A n c) gs) {i : Nat} {L : Wl.Rec} (hL : gs[i]? = some L) : ∃ g off u, A = some ⟨g, off, none⟩ ∧ w.cell? ⟨g, off + i * 1, none⟩ = some u ∧ LsZ w Z u L := by
  obtain ⟨A', n', c', vs, e, h1, h2, h3, h4, h5, h6⟩ := h
  injection e with e1 e2 e3
  subst e1 e2 e3
  have hi := (List.getElem?_eq_some_iff.1 hL).1
  obtain ⟨u, hu⟩ : ∃ u, vs[i]? = some u := ⟨vs[i]'(by omega), List.getElem?_eq_getElem (by omega)⟩
  obtain ⟨g, off, hA, hc⟩ := h1.at_ (i := i) (r := one1 u) (by rw [List.getElem?_map, hu]; rfl)
  exact ⟨g, off, u, hA, hc 0 u rfl, h3 i u L hu hL⟩
theorem bs_rws {A : Option Addr} {n : Nat} {bs : B8} (h : Bs w A n bs) (hn : n ≤ 1048576) : Rws w 1 A n (bs.map fun x => [.int .u8 (x.toNat : Int)]) := by
  obtain ⟨h1, h2, h3⟩ := h
  refine ⟨by rw [List.length_map]; exact h1, fun r hr => ?_, by omega, fun hp => ?_⟩
  · obtain ⟨x, _, rfl⟩ := List.mem_map.1 hr
    rfl
  · obtain ⟨b, off, rfl, hc⟩ := h3 hp
    refine ⟨b, off, rfl, fun i r hr j v hv => ?_⟩
    rw [List.getElem?_map] at hr
    obtain ⟨x, hx, rfl⟩ := Option.map_eq_some_iff.1 hr
    have hi := (List.getElem?_eq_some_iff.1 hx).1
    have hj : j = 0 := by
      have := (List.getElem?_eq_some_iff.1 hv).1
      simpa using this
    subst hj
    have h4 := hc i (by omega)
    rw [List.getD_eq_getElem?_getD, hx] at h4
    rw [Nat.mul_one, Nat.add_zero, h4]
    simpa using hv
theorem bs_fit (bs : B8) : Fit 1 (bs.map fun x => [Value.int .u8 (x.toNat : Int)]) := fun r hr => by
  obtain ⟨x, _, rfl⟩ := List.mem_map.1 hr
  exact ⟨rfl, fun u hu => by
    obtain rfl : u = .int .u8 (x.toNat : Int) := by simpa using hu
    rfl⟩
theorem rws_bs {A : Option Addr} {n : Nat} {bs : B8} (h : Rws w 1 A n (bs.map fun x => [.int .u8 (x.toNat : Int)])) : Bs w A n bs := by
  obtain ⟨h1, h2, h3, h4⟩ := h
  rw [List.length_map] at h1
  refine ⟨h1, by unfold maxLen; omega, fun hp => ?_⟩
  obtain ⟨b, off, rfl, hc⟩ := h4 hp
  refine ⟨b, off, rfl, fun i hi => ?_⟩
  have hx : bs[i]? = some (bs[i]'(by omega)) := List.getElem?_eq_getElem (by omega)
  have := hc i _ (by rw [List.getElem?_map, hx]; rfl) 0 _ rfl
  rw [Nat.mul_one, Nat.add_zero] at this
  rw [this, List.getD_eq_getElem?_getD, hx]
  rfl
theorem orw_inZ {B k : Nat} {t : TypeId} {A : Option Addr} {n c : Nat} {rs : List (List Value)} (h : Orw w B t k (.slice A n c) rs) : InZ (fun k => B ≤ k) A n := fun b off s e _ => by
  obtain ⟨A', c', e', _, _, _, h5⟩ := h.form
  injection e' with e1 e2 e3
  subst e1
  exact (h5 _ e).1
theorem orw_cap {B k : Nat} {t : TypeId} {A : Option Addr} {n c : Nat} {rs : List (List Value)} (h : Orw w B t k (.slice A n c) rs) : (A = none → c = 0) ∧ n ≤ c ∧ n = rs.length := by
  obtain ⟨A', c', e', h2, _, h4, _⟩ := h.form
  injection e' with e1 e2 e3
  subst e1 e2 e3
  exact ⟨h4, h2, rfl⟩
theorem one1_fit {vs : List Value} (h : ∀ v ∈ vs, ∃ A n c, v = .slice A n c) : Fit 1 (vs.map one1) := fun r hr => by
  obtain ⟨v, hv, rfl⟩ := List.mem_map.1 hr
  obtain ⟨A, n, c, rfl⟩ := h v hv
  exact ⟨rfl, fun u hu => by
    obtain rfl : u = .slice A n c := by simpa [one1] using hu
    rfl⟩
end
end Go.Proofs.YtelipeoilcepbaaDoor
namespace Go.Proofs.YtelipeoilcepbaaDoor
open Go.RowKit
open Wl (B8)
set_option linter.unusedVariables false
set_option linter.unusedSimpArgs false
set_option maxRecDepth 20000
theorem build0_G3 (W : World) : (Instr.buildSlice 30 0 #[]).run Tryd.prog W = .ok (.slice (some ⟨W.heap.size, 0, none⟩) 0 0) (W.alloc (.cells #[] 33)) := by kernel_rfl
theorem build0_LS (W : World) : (Instr.buildSlice 33 0 #[]).run Tryd.prog W = .ok (.slice (some ⟨W.heap.size, 0, none⟩) 0 0) (W.alloc (.cells #[] 38)) := by kernel_rfl
theorem build0_U8 (W : World) : (Instr.buildSlice 38 0 #[]).run Tryd.prog W = .ok (.slice (some ⟨W.heap.size, 0, none⟩) 0 0) (W.alloc (.cells #[] 5)) := by kernel_rfl
theorem build_bk (f : Int) (A : Option Addr) (n c : Nat) (W : World) : (Instr.build 32 #[(0, .int .i64 f), (1, .slice A n c)]).run Tryd.prog W = .ok (.agg #[.int .i64 f, .slice A n c]) W := by kernel_rfl
theorem box_bk (f : Int) (A : Option Addr) (n c : Nat) (w : World) : (Instr.box 32 (.agg #[.int .i64 f, .slice A n c])).run Tryd.prog w = .ok (.pointer (some ⟨w.heap.size, 0, none⟩)) (w.alloc (.cells #[.int .i64 f, .slice A n c] 32)) := by kernel_rfl
theorem ls_at {w : World} {A : Option Addr} {n : Nat} {l : Wl.Rec} (h : Ls w A n l) {i : Nat} {x : B8} (hx : l[i]? = some x) : ∃ g off a m q, A = some ⟨g, off, none⟩ ∧ w.cell? ⟨g, off + i * 1, none⟩ = some (.slice a m q) ∧ Bs w a m x ∧ (a = none → q = 0) ∧ m ≤ 1048576 := by
  have hi := (List.getElem?_eq_some_iff.1 hx).1
  obtain ⟨g, off, rfl, hc⟩ := h.2.2 (by have := h.1; omega)
  obtain ⟨a, m, q, h1, h2, h3, h4⟩ := hc i x hx
  exact ⟨g, off, a, m, q, rfl, by rw [Nat.mul_one]; exact h1, h2, h3, h4⟩
set_option maxRecDepth 20000 in
set_option maxHeartbeats 4000000 in
theorem same_walk {w : World} {A B : Option Addr} {n m c e : Nat} {l k : Wl.Rec} (h1 : Ls w A n l) (h2 : Ls w B m k) :
    Calls Tryd.prog 40 #[.slice A n c, .slice B m e] w fun r w' => r = .returned (.bool (decide (l = k))) ∧ Turn nowhere w w' := by
  have HA := Lib.hid h1
  have HB := Lib.hid h2
  have y1 := h1.2.1
  have y2 := h2.2.1
  have HNA := Lib.hid h1.1
  have HNB := Lib.hid h2.1
  clear h1 h2
  go_enter Tryd.func40, Tryd.ntmps40
  go_upto_region 0 with fail
  refine wp_region_lit ?_
  refine nR (.bool false) (gx_assign rfl rfl) ?_;simp only [zz]
  by_cases hnm : n = m
  · subst hnm
    go_upto_region 1 with fail
    refine wp_region_lit ?_
    refine nR (.slice A n c) (exec_move rfl rfl) ?_;simp only [zz];refine nR (.int .i64 (n : Int)) (gx_len rfl rfl Tryd.underlying33) ?_;simp only [zz];refine nR (.slice B n e) (exec_move rfl rfl) ?_;simp only [zz];refine nR (.int .i64 (n : Int)) (gx_len rfl rfl Tryd.underlying33) ?_;simp only [zz];refine nR (.bool false) (ix_neq rfl rfl rfl (decide_eq_false (fun e => e rfl))) ?_;simp only [zz]
    go_upto_region 3 with fail
    refine wp_region_lit ?_
    refine nR (.int .i64 0) (gx_assign rfl rfl) ?_;simp only [zz]
    go_wp2_with fail
    go_loopg [4, 5] n (fun gk rv iv wr => ∃ i : Nat, iv = .int .i64 (i : Int) ∧ i + gk = n ∧ l.take i = k.take i ∧ Turn nowhere w wr)
    case atStart => exact ⟨0, rfl, by omega, rfl, Turn.refl _ _⟩
    obtain ⟨i, rfl, hgk, heq, htr⟩ := hrel
    have HGK := Lib.hid hgk
    have HEQ := Lib.hid heq
    have HTR := Lib.hid htr
    have yi : (i : Int) ≤ (n : Int) := by omega
    clear hgk heq htr
    by_cases hlt : i < n
    · have HLT := Lib.hid hlt
      have y3 : (i : Int) < (n : Int) := by omega
      obtain ⟨x, hx⟩ : ∃ x, l[i]? = some x := ⟨l[i]'(by rw [HNA.out]; exact hlt), List.getElem?_eq_getElem (by rw [HNA.out]; exact hlt)⟩
      obtain ⟨y, hy⟩ : ∃ y, k[i]? = some y := ⟨k[i]'(by rw [HNB.out]; exact hlt), List.getElem?_eq_getElem (by rw [HNB.out]; exact hlt)⟩
      obtain ⟨g1, o1, a1, m1, q1, rfl, hc1, hb1, _⟩ := ls_at (HA.out.still HTR.out) hx
      obtain ⟨g2, o2, a2, m2, q2, rfl, hc2, hb2, _⟩ := ls_at (HB.out.still HTR.out) hy
      have HX := Lib.hid hx
      have HY := Lib.hid hy
      have HT2 := Lib.hid (HTR.out.trans (Turn.refl nowhere wr).drew fun _ _ e => e)
      have HC1 := Lib.hid (show wr.drew.cell? ⟨g1, o1 + i * 1, none⟩ = some (.slice a1 m1 q1) from hc1)
      have HC2 := Lib.hid (show wr.drew.cell? ⟨g2, o2 + i * 1, none⟩ = some (.slice a2 m2 q2) from hc2)
      have HB1 := Lib.hid (show Bs wr.drew a1 m1 x from hb1)
      have HB2 := Lib.hid (show Bs wr.drew a2 m2 y from hb2)
      clear hlt hc1 hc2 hb1 hb2 hx hy
      go_upto_region 4 with fail
      refine wp_region_lit ?_
      refine nR (.int .i64 (i : Int)) (exec_move rfl rfl) ?_;simp only [zz];refine nR (.slice (some ⟨g1, o1, none⟩) n c) (exec_move rfl rfl) ?_;simp only [zz];refine nR (.int .i64 (n : Int)) (gx_len rfl rfl Tryd.underlying33) ?_;simp only [zz];refine nR (.bool true) (ix_lss rfl rfl rfl (decide_eq_true y3)) ?_;simp only [zz]
      go_upto_region 6 with fail
      refine wp_region_alw (fun W9 => W9 = wr.drew) (by kernel_rfl) ?_
      have hS0 : (fun W9 => W9 = wr.drew) wr.drew := rfl
      generalize wr.drew = wd at *
      by_cases hxy : x = y
      · have HXY := Lib.hid hxy
        have HEQ2 := Lib.hid (show l.take (i + 1) = k.take (i + 1) from by rw [List.take_add_one, List.take_add_one, HX.out, HY.out, HEQ.out, hxy])
        clear hxy
        refine alw_take (i := 0) (v := .slice (some ⟨g1, o1, none⟩) n c) rfl (by kernel_rfl) (by kernel_rfl) (fun _ _ _ h => h) (.inl ⟨by rfl, fun W hW => exec_move rfl rfl⟩) hS0 ?_
        simp only [zz]
        refine alw_take (i := 1) (v := .int .i64 (i : Int)) rfl (by kernel_rfl) (by kernel_rfl) (fun _ _ _ h => h) (.inl ⟨by rfl, fun W hW => exec_move rfl rfl⟩) hS0 ?_
        simp only [zz]
        refine alw_take (i := 2) (v := .pointer (some ⟨g1, o1 + i * 1, none⟩)) rfl (by kernel_rfl) (by kernel_rfl) (fun _ _ _ h => h) (.inl ⟨by rfl, fun W hW => gx_iaddr (i := i) (sz := 1) rfl rfl rfl Tryd.underlying33 size_T8 HLT.out rfl⟩) hS0 ?_
        simp only [zz]
        refine alw_take (i := 3) (v := .slice a1 m1 q1) rfl (by kernel_rfl) (by kernel_rfl) (fun _ _ _ h => h) (.inl ⟨by rfl, fun W hW => by subst hW; exact exec_load1 rfl rfl (by kernel_rfl) HC1.out⟩) hS0 ?_
        simp only [zz]
        refine alw_take (i := 4) (v := strV x) rfl (by kernel_rfl) (by kernel_rfl) (fun _ _ _ h => h) (.inl ⟨by rfl, fun W hW => by subst hW; exact exec_strBs rfl rfl HB1.out⟩) hS0 ?_
        simp only [zz]
        refine alw_take (i := 5) (v := .slice (some ⟨g2, o2, none⟩) n e) rfl (by kernel_rfl) (by kernel_rfl) (fun _ _ _ h => h) (.inl ⟨by rfl, fun W hW => exec_move rfl rfl⟩) hS0 ?_
        simp only [zz]
        refine alw_take (i := 6) (v := .int .i64 (i : Int)) rfl (by kernel_rfl) (by kernel_rfl) (fun _ _ _ h => h) (.inl ⟨by rfl, fun W hW => exec_move rfl rfl⟩) hS0 ?_
        simp only [zz]
        refine alw_take (i := 7) (v := .pointer (some ⟨g2, o2 + i * 1, none⟩)) rfl (by kernel_rfl) (by kernel_rfl) (fun _ _ _ h => h) (.inl ⟨by rfl, fun W hW => gx_iaddr (i := i) (sz := 1) rfl rfl rfl Tryd.underlying33 size_T8 HLT.out rfl⟩) hS0 ?_
        simp only [zz]
        refine alw_take (i := 8) (v := .slice a2 m2 q2) rfl (by kernel_rfl) (by kernel_rfl) (fun _ _ _ h => h) (.inl ⟨by rfl, fun W hW => by subst hW; exact exec_load1 rfl rfl (by kernel_rfl) HC2.out⟩) hS0 ?_
        simp only [zz]
        refine alw_take (i := 9) (v := strV y) rfl (by kernel_rfl) (by kernel_rfl) (fun _ _ _ h => h) (.inl ⟨by rfl, fun W hW => by subst hW; exact exec_strBs rfl rfl HB2.out⟩) hS0 ?_
        simp only [zz]
        refine alw_take (i := 10) (v := .bool false) rfl (by kernel_rfl) (by kernel_rfl) (fun _ _ _ h => h) (.inl ⟨by rfl, fun W hW => (exec_sneq rfl rfl rfl).trans (by rw [beq_iff_eq.2 HXY.out]; rfl)⟩) hS0 ?_
        simp only [zz]
        refine alw_done rfl ?_
        refine NoPanic.normal ?_
        clear hS0
        try simp only [zz]
        go_upto_region 5 with fail
        refine wp_region_lit ?_
        refine nR (.int .i64 (i : Int)) (exec_move rfl rfl) ?_;simp only [zz];refine nR (.int .i64 ((i + 1 : Nat) : Int)) (ix_add rfl rfl rfl (by omega) (by omega)) ?_;simp only [zz];refine nR (.int .i64 ((i + 1 : Nat) : Int)) (gx_assign rfl rfl) ?_;simp only [zz]
        go_wp2_with fail
        go_roundg (n - (i + 1))
        case measure => have := HGK.out; have := HLT.out; omega
        case rel => exact ⟨i + 1, rfl, by have := HLT.out; omega, HEQ2.out, HT2.out⟩
      · have HXY := Lib.hid hxy
        have HNE := Lib.hid (show decide (l = k) = false from decide_eq_false fun e => by
          have h1 := HX.out
          rw [e, HY.out] at h1
          exact hxy (Option.some.inj h1).symm)
        clear hxy
        refine alw_take (i := 0) (v := .slice (some ⟨g1, o1, none⟩) n c) rfl (by kernel_rfl) (by kernel_rfl) (fun _ _ _ h => h) (.inl ⟨by rfl, fun W hW => exec_move rfl rfl⟩) hS0 ?_
        simp only [zz]
        refine alw_take (i := 1) (v := .int .i64 (i : Int)) rfl (by kernel_rfl) (by kernel_rfl) (fun _ _ _ h => h) (.inl ⟨by rfl, fun W hW => exec_move rfl rfl⟩) hS0 ?_
        simp only [zz]
        refine alw_take (i := 2) (v := .pointer (some ⟨g1, o1 + i * 1, none⟩)) rfl (by kernel_rfl) (by kernel_rfl) (fun _ _ _ h => h) (.inl ⟨by rfl, fun W hW => gx_iaddr (i := i) (sz := 1) rfl rfl rfl Tryd.underlying33 size_T8 HLT.out rfl⟩) hS0 ?_
        simp only [zz]
        refine alw_take (i := 3) (v := .slice a1 m1 q1) rfl (by kernel_rfl) (by kernel_rfl) (fun _ _ _ h => h) (.inl ⟨by rfl, fun W hW => by subst hW; exact exec_load1 rfl rfl (by kernel_rfl) HC1.out⟩) hS0 ?_
        simp only [zz]
        refine alw_take (i := 4) (v := strV x) rfl (by kernel_rfl) (by kernel_rfl) (fun _ _ _ h => h) (.inl ⟨by rfl, fun W hW => by subst hW; exact exec_strBs rfl rfl HB1.out⟩) hS0 ?_
        simp only [zz]
        refine alw_take (i := 5) (v := .slice (some ⟨g2, o2, none⟩) n e) rfl (by kernel_rfl) (by kernel_rfl) (fun _ _ _ h => h) (.inl ⟨by rfl, fun W hW => exec_move rfl rfl⟩) hS0 ?_
        simp only [zz]
        refine alw_take (i := 6) (v := .int .i64 (i : Int)) rfl (by kernel_rfl) (by kernel_rfl) (fun _ _ _ h => h) (.inl ⟨by rfl, fun W hW => exec_move rfl rfl⟩) hS0 ?_
        simp only [zz]
        refine alw_take (i := 7) (v := .pointer (some ⟨g2, o2 + i * 1, none⟩)) rfl (by kernel_rfl) (by kernel_rfl) (fun _ _ _ h => h) (.inl ⟨by rfl, fun W hW => gx_iaddr (i := i) (sz := 1) rfl rfl rfl Tryd.underlying33 size_T8 HLT.out rfl⟩) hS0 ?_
        simp only [zz]
        refine alw_take (i := 8) (v := .slice a2 m2 q2) rfl (by kernel_rfl) (by kernel_rfl) (fun _ _ _ h => h) (.inl ⟨by rfl, fun W hW => by subst hW; exact exec_load1 rfl rfl (by kernel_rfl) HC2.out⟩) hS0 ?_
        simp only [zz]
        refine alw_take (i := 9) (v := strV y) rfl (by kernel_rfl) (by kernel_rfl) (fun _ _ _ h => h) (.inl ⟨by rfl, fun W hW => by subst hW; exact exec_strBs rfl rfl HB2.out⟩) hS0 ?_
        simp only [zz]
        refine alw_take (i := 10) (v := .bool true) rfl (by kernel_rfl) (by kernel_rfl) (fun _ _ _ h => h) (.inl ⟨by rfl, fun W hW => (exec_sneq rfl rfl rfl).trans (by rw [beq_eq_false_iff_ne.2 HXY.out]; rfl)⟩) hS0 ?_
        simp only [zz]
        refine alw_done rfl ?_
        refine NoPanic.normal ?_
        clear hS0
        try simp only [zz]
        go_upto_region 7 with fail
        refine wp_region_lit ?_
        refine nR (.bool false) (gx_assign rfl rfl) ?_;simp only [zz]
        go_wp2_with fail
        go_ret
        rw [HNE.out]
        exact ⟨rfl, HT2.out⟩
    · obtain rfl : i = n := by omega
      have y3 : ¬ (i : Int) < (i : Int) := by omega
      have HE := Lib.hid (show decide (l = k) = true from decide_eq_true (by
        have h1 := HEQ.out
        rwa [List.take_of_length_le (by rw [HNA.out]; exact Nat.le_refl _), List.take_of_length_le (by rw [HNB.out]; exact Nat.le_refl _)] at h1))
      clear hlt
      go_upto_region 4 with fail
      refine wp_region_lit ?_
      refine nR (.int .i64 (i : Int)) (exec_move rfl rfl) ?_;simp only [zz];refine nR (.slice A i c) (exec_move rfl rfl) ?_;simp only [zz];refine nR (.int .i64 (i : Int)) (gx_len rfl rfl Tryd.underlying33) ?_;simp only [zz];refine nR (.bool false) (ix_lss rfl rfl rfl (decide_eq_false y3)) ?_;simp only [zz]
      go_upto_region 8 with fail
      refine wp_region_lit ?_
      refine nR (.bool true) (gx_assign rfl rfl) ?_;simp only [zz]
      go_wp2_with fail
      go_ret
      rw [HE.out]
      exact ⟨rfl, HTR.out⟩
  · have HNE := Lib.hid (show decide (l = k) = false from decide_eq_false fun e => hnm (by rw [← HNA.out, ← HNB.out, e]))
    have y3 : ¬ (n : Int) = (m : Int) := by omega
    clear hnm
    go_upto_region 1 with fail
    refine wp_region_lit ?_
    refine nR (.slice A n c) (exec_move rfl rfl) ?_;simp only [zz];refine nR (.int .i64 (n : Int)) (gx_len rfl rfl Tryd.underlying33) ?_;simp only [zz];refine nR (.slice B m e) (exec_move rfl rfl) ?_;simp only [zz];refine nR (.int .i64 (m : Int)) (gx_len rfl rfl Tryd.underlying33) ?_;simp only [zz];refine nR (.bool true) (ix_neq rfl rfl rfl (decide_eq_true y3)) ?_;simp only [zz]
    go_upto_region 2 with fail
    refine wp_region_lit ?_
    refine nR (.bool false) (gx_assign rfl rfl) ?_;simp only [zz]
    go_wp2_with fail
    go_ret
    rw [HNE.out]
    exact ⟨rfl, Turn.refl _ _⟩
set_option maxRecDepth 20000 in
set_option maxHeartbeats 4000000 in
theorem bnext_walk {w : World} {b f : Nat} {gs : List Wl.Rec} {Z : Nat → Prop} (h : Bk w b f gs Z) (hf : f + gs.length ≤ 9223372036854775807) :
    Calls Tryd.prog 11 #[.pointer (some ⟨b, 0, none⟩)] w fun r w' => r = .returned (.int .i64 ((f + gs.length : Nat) : Int)) ∧ Turn nowhere w w' := by
  obtain ⟨v, hb, hg, _⟩ := h
  obtain ⟨A, c, rfl, _⟩ := hg.len
  obtain ⟨n, hn⟩ : ∃ n, n = gs.length := ⟨_, rfl⟩
  rw [← hn] at hb hf ⊢
  have HB := Lib.hid (show Blk w.drew b 32 #[.int .i64 (f : Int), .slice A n c] from hb)
  have HT := Lib.hid ((Turn.refl nowhere w).drew)
  clear hb hg hn
  go_enter Tryd.func11, Tryd.ntmps11
  go_upto_region 0 with fail
  refine wp_region_lit ?_
  refine nR (.int .i64 0) (gx_assign rfl rfl) ?_;simp only [zz]
  go_upto_region 1 with fail
  refine wp_region_alw (fun W => Blk W b 32 #[.int .i64 (f : Int), .slice A n c]) (by kernel_rfl) ?_
  have hS0 := HB.out
  generalize w.drew = wd at *
  refine alw_take (i := 0) (v := .pointer (some ⟨b, 0, none⟩)) rfl (by kernel_rfl) (by kernel_rfl) (fun _ _ _ h => h) (.inl ⟨by rfl, fun W hW => exec_move rfl rfl⟩) hS0 ?_
  simp only [zz]
  refine alw_take (i := 1) (v := .pointer (some ⟨b, 0, none⟩)) rfl (by kernel_rfl) (by kernel_rfl) (fun _ _ _ h => h) (.inl ⟨by rfl, fun W hW => exec_nil rfl rfl⟩) hS0 ?_
  simp only [zz]
  refine alw_take (i := 2) (v := .pointer (some ⟨b, 0, none⟩)) rfl (by kernel_rfl) (by kernel_rfl) (fun _ _ _ h => h) (.inl ⟨by rfl, fun W hW => exec_field (off := 0) (d := 0) rfl rfl (by kernel_rfl)⟩) hS0 ?_
  simp only [zz]
  refine alw_take (i := 3) (v := .int .i64 (f : Int)) rfl (by kernel_rfl) (by kernel_rfl) (fun _ _ _ h => h) (.inl ⟨by rfl, fun W hW => exec_load1 rfl rfl (by kernel_rfl) (hW.cell 0)⟩) hS0 ?_
  simp only [zz]
  refine alw_take (i := 4) (v := .pointer (some ⟨b, 0, none⟩)) rfl (by kernel_rfl) (by kernel_rfl) (fun _ _ _ h => h) (.inl ⟨by rfl, fun W hW => exec_move rfl rfl⟩) hS0 ?_
  simp only [zz]
  refine alw_take (i := 5) (v := .pointer (some ⟨b, 0, none⟩)) rfl (by kernel_rfl) (by kernel_rfl) (fun _ _ _ h => h) (.inl ⟨by rfl, fun W hW => exec_nil rfl rfl⟩) hS0 ?_
  simp only [zz]
  refine alw_take (i := 6) (v := .pointer (some ⟨b, 1, none⟩)) rfl (by kernel_rfl) (by kernel_rfl) (fun _ _ _ h => h) (.inl ⟨by rfl, fun W hW => exec_field (off := 0) (d := 1) rfl rfl (by kernel_rfl)⟩) hS0 ?_
  simp only [zz]
  refine alw_take (i := 7) (v := .slice A n c) rfl (by kernel_rfl) (by kernel_rfl) (fun _ _ _ h => h) (.inl ⟨by rfl, fun W hW => exec_load1 rfl rfl (by kernel_rfl) (hW.cell 1)⟩) hS0 ?_
  simp only [zz]
  refine alw_take (i := 8) (v := .int .i64 (n : Int)) rfl (by kernel_rfl) (by kernel_rfl) (fun _ _ _ h => h) (.inl ⟨by rfl, fun W hW => gx_len rfl rfl Tryd.underlying30⟩) hS0 ?_
  simp only [zz]
  refine alw_take (i := 9) (v := .int .i64 ((f + n : Nat) : Int)) rfl (by kernel_rfl) (by kernel_rfl) (fun _ _ _ h => h) (.inl ⟨by rfl, fun W hW => ix_add rfl rfl rfl (by omega) (by omega)⟩) hS0 ?_
  simp only [zz]
  refine alw_take (i := 10) (v := .int .i64 ((f + n : Nat) : Int)) rfl (by kernel_rfl) (by kernel_rfl) (fun _ _ _ h => h) (.inl ⟨by rfl, fun W hW => gx_assign rfl rfl⟩) hS0 ?_
  simp only [zz]
  refine alw_done rfl ?_
  refine NoPanic.normal ?_
  clear hS0
  try simp only [zz]
  go_wp2_with fail
  go_ret
  exact ⟨rfl, HT.out⟩
end Go.Proofs.YtelipeoilcepbaaDoor
