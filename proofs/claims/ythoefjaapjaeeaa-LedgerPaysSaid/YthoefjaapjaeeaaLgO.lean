/-
  Ledgers: what the laws use; the head that is shown: the walks. No conditions.
-/
import Derived.Test.YthoefjaapjaeeaaLgN
namespace Go.Proofs.Ythoefjaapjaeeaa
open Go.RowKit
open Lg (Ent)
set_option linter.unusedVariables false
set_option linter.unusedSimpArgs false
theorem EntAt.of_orw {w : World} {B n c : Nat} {A : Option Addr} {es : List Ent} (h : Orw w B 57 2 (.slice A n c) (es.map entC)) (hw : ∀ e ∈ es, Mn.in64 e.1 ∧ Mn.in64 e.2) (hl : es.length ≤ 140737488355328) : EntAt w A n es :=
  ⟨h.rws (by rw [List.length_map]; exact hl) (by decide), hw⟩
theorem New_ok {w : World} {n : Nat} (hn : 1 ≤ n ∧ n ≤ 7) : Calls Try.prog 9 #[.int .i64 (n : Int)] w fun e w' => ∃ p, e = .returned (.tuple #[.pointer (some ⟨p, 0, none⟩), .int .i64 0]) ∧ Led w' p n (fun _ => 0) ∧ w.heap.size ≤ p ∧ Turn nowhere w w' := New_walk.mono fun e w' h => by
  rcases h with ⟨h, _⟩ | ⟨m, p, e1, h⟩
  · omega
  · obtain rfl : n = m := by omega
    exact ⟨p, h⟩
theorem New_bad {w : World} {k : Int} (hk : ¬ (1 ≤ k ∧ k ≤ 7)) : Calls Try.prog 9 #[.int .i64 k] w fun e w' => e = .returned (.tuple #[.pointer none, .int .i64 1]) ∧ Turn nowhere w w' := New_walk.mono fun e w' h => by
  rcases h with ⟨_, h1, h2⟩ | ⟨m, p, e1, _, h, _⟩
  · exact ⟨h1, h2 ▸ Turn.refl _ _⟩
  · have := h.ac; omega
/-- Post, where the answer is known -/
theorem Post_is {w : World} {p n : Nat} {b : Nat → Int} {A : Option Addr} {m c : Nat} {es : List Ent} {E : Int} {g : Nat → Int} (h : Led w p n b) (he : EntAt w A m es) (hm : m ≤ 70368744177663) (hE : Lg.postE n b es = E) (hg : Lg.postB n b es = g) :
    Calls Try.prog 12 #[.pointer (some ⟨p, 0, none⟩), .slice A m c] w fun e w' => e = .returned (.int .i64 E) ∧ Led w' p n g ∧ Turn (only p) w w' := by
  subst hE hg
  exact Post_walk h he hm
/-- a block that is new since w0 is written -/
theorem Turn.newer {w0 w1 w2 : World} {p : Nat} (h : Turn nowhere w0 w1) (hp : w0.heap.size ≤ p) (g : Turn (only p) w1 w2) : Turn nowhere w0 w2 := h.trans g fun k hk e => by
  have e : k = p := e
  omega
theorem ent_rng0 {w : World} {g : Nat} {cs : Array Value} {e : Ent} {n c i : Nat} {es : List Ent} {A : Option Addr} (h : EntAt w A n es) (he : es[i]? = some e) : ∃ b off, A = some ⟨b, off, none⟩ ∧ w.rangeAt b (off + i * 2) (entC e) := h.rng he
theorem ptr_eqn {a : Act} {o : Oper} {W : World} {x y : Operand} {t u : TypeId} {p : Addr} (ht : t = 24 ∨ t = 28) (ho : o.op = .binOp .eql t x y u) (hx : a.eval x = .pointer (some p)) (hy : a.eval y = .pointer none) : (execOp a.eval o).run Try.prog W = .ok (.value (.bool false)) W := by
  rcases ht with rfl | rfl
  all_goals (
    unfold execOp
    simp only [ho, hx, hy]
    go_simp)
theorem ptr_eqt {a : Act} {o : Oper} {W : World} {x y : Operand} {t u : TypeId} (ht : t = 24 ∨ t = 28) (ho : o.op = .binOp .eql t x y u) (hx : a.eval x = .pointer none) (hy : a.eval y = .pointer none) : (execOp a.eval o).run Try.prog W = .ok (.value (.bool true)) W := by
  rcases ht with rfl | rfl
  all_goals (
    unfold execOp
    simp only [ho, hx, hy]
    go_simp)
def shC (g : Nat) : Cfg := ⟨some ⟨g, 0, none⟩, 2, 2, none, 0, 0, 50, 0, 1000, 10, 1, 100, 0, 0, 0⟩
theorem mk_members (w : World) : ∃ cs, (Instr.makeSlice 40 (.int .i64 2) (.int .i64 2)).run Try.prog w = .ok (.slice (some ⟨w.heap.size, 0, none⟩) 2 2) (w.alloc (.cells cs 107)) := ⟨#[.string ByteArray.empty, .int .i64 0, .slice none 0 0, .int .i64 0, .int .i64 0, .string ByteArray.empty, .int .i64 0, .slice none 0 0, .int .i64 0, .int .i64 0], by kernel_rfl⟩
theorem build_r1 (W : World) : (Instr.build 43 #[(0, .int .i64 50), (2, .int .i64 1000)]).run Try.prog W = .ok (.agg #[.int .i64 50, .int .i64 0, .int .i64 1000]) W := by kernel_rfl
theorem build_r2 (W : World) : (Instr.build 43 #[(0, .int .i64 10), (1, .int .i64 1), (2, .int .i64 100)]).run Try.prog W = .ok (.agg #[.int .i64 10, .int .i64 1, .int .i64 100]) W := by kernel_rfl
theorem build_cfg (g : Nat) (W : World) : (Instr.build 45 #[(0, .slice (some ⟨g, 0, none⟩) 2 2), (2, .agg #[.int .i64 50, .int .i64 0, .int .i64 1000]), (3, .agg #[.int .i64 10, .int .i64 1, .int .i64 100])]).run Try.prog W = .ok (.agg (shC g).cells) W := by kernel_rfl
theorem gx_buildAt2 {P : Program} {a : Act} {o : Oper} {t : TypeId} {x0 x1 : Operand} {i j : Nat} {u0 u1 r : Value} {W : World} (ho : o.op = .build t #[(i, x0), (j, x1)]) (h0 : a.eval x0 = u0) (h1 : a.eval x1 = u1)
    (h : (Instr.build t #[(i, u0), (j, u1)]).run P W = .ok r W) : (execOp a.eval o).run P W = .ok (.value r) W := by
  unfold execOp
  simp only [ho, List.map_toArray, List.map_cons, List.map_nil, h0, h1, h, Sem.run_bind, Sem.run_pure, Result.andThen_ok]
theorem gx_buildAt3 {P : Program} {a : Act} {o : Oper} {t : TypeId} {x0 x1 x2 : Operand} {i j k : Nat} {u0 u1 u2 r : Value} {W : World} (ho : o.op = .build t #[(i, x0), (j, x1), (k, x2)]) (h0 : a.eval x0 = u0) (h1 : a.eval x1 = u1) (h2 : a.eval x2 = u2)
    (h : (Instr.build t #[(i, u0), (j, u1), (k, u2)]).run P W = .ok r W) : (execOp a.eval o).run P W = .ok (.value r) W := by
  unfold execOp
  simp only [ho, List.map_toArray, List.map_cons, List.map_nil, h0, h1, h2, h, Sem.run_bind, Sem.run_pure, Result.andThen_ok]
def e1s : List Ent := [(0, 5), (1, -5)]
def e2s : List Ent := [(0, 5)]
def e3s : List Ent := [(0, 9223372036854775807), (1, -9223372036854775807)]
def b1s : Nat → Int := Lg.postB 3 (fun _ => 0) e1s
theorem pE1 : Lg.postE 3 (fun _ => 0) e1s = 0 := by decide
theorem pE2 : Lg.postE 3 b1s e2s = 120 := by decide
theorem pE3 : Lg.postE 3 b1s e3s = 100 := by decide
theorem sh_pay (g : Nat) : payE (shC g) 0 1 10000 = 0 ∧ payR (shC g) 0 1 10000 = [(1, -10000), (0, 10000), (0, -50), (1, 50), (0, -10), (2, 10)] := by
  have h0 : payE (shC g) 0 1 10000 = payE (shC 0) 0 1 10000 := rfl
  have h1 : payR (shC g) 0 1 10000 = payR (shC 0) 0 1 10000 := rfl
  rw [h0, h1]
  exact ⟨by decide, by decide⟩
set_option maxRecDepth 20000 in
set_option maxHeartbeats 4000000 in
theorem shown_walk (w : World) : Calls Try.prog 8 #[] w fun e w' => e = .returned (.bool true) ∧ Turn nowhere w w' := by
  go_enter Try.func8, Try.ntmps8
  go_upto_region 0 with fail
  refine wp_region_lit ?_
  refine wpList_run (v := .bool false) (wanted_none rfl) (gx_assign rfl rfl) ?_
  simp only [Act.put, List.setIfInBounds_toArray, List.set_cons_zero, List.set_cons_succ]
  go_upto_region 1 with fail
  refine wp_region_lit ?_
  refine wpList_op rfl fun K9 HK9 => ?_
  go_wp2_with fail
  refine (New_ok (n := 3) (by decide)).mono ?_
  rintro e w1 ⟨p, rfl, hp, hpl, ht⟩
  refine HK9.out _ _ ?_
  clear HK9
  try simp only [Act.put, List.setIfInBounds_toArray, List.set_cons_zero, List.set_cons_succ]
  have HP := Lib.hid hp
  have HPL := Lib.hid hpl
  have HT := Lib.hid ht
  clear hp hpl ht
  refine wpList_run (v := .tuple #[.pointer (some ⟨p, 0, none⟩), .int .i64 0]) (wanted_none rfl) (exec_move rfl rfl) ?_
  simp only [Act.put, List.setIfInBounds_toArray, List.set_cons_zero, List.set_cons_succ]
  refine wpList_run (v := .pointer (some ⟨p, 0, none⟩)) (wanted_none rfl) (ix_extract rfl rfl rfl) ?_
  simp only [Act.put, List.setIfInBounds_toArray, List.set_cons_zero, List.set_cons_succ]
  refine wpList_run (v := .int .i64 0) (wanted_none rfl) (ix_extract rfl rfl rfl) ?_
  simp only [Act.put, List.setIfInBounds_toArray, List.set_cons_zero, List.set_cons_succ]
  refine wpList_run (v := .pointer (some ⟨p, 0, none⟩)) (wanted_none rfl) (gx_assign rfl rfl) ?_
  simp only [Act.put, List.setIfInBounds_toArray, List.set_cons_zero, List.set_cons_succ]
  refine wpList_run (v := .int .i64 0) (wanted_none rfl) (gx_assign rfl rfl) ?_
  simp only [Act.put, List.setIfInBounds_toArray, List.set_cons_zero, List.set_cons_succ]
  go_upto_region 2 with fail
  refine wp_region_lit ?_
  refine wpList_op rfl fun K9 HK9 => ?_
  go_wp2_with fail
  refine (New_bad (k := 8) (by decide)).mono ?_
  rintro e w2 ⟨rfl, ht⟩
  refine HK9.out _ _ ?_
  clear HK9
  try simp only [Act.put, List.setIfInBounds_toArray, List.set_cons_zero, List.set_cons_succ]
  have HP := Lib.hid (HP.out.still ht)
  have HT := Lib.hid (HT.out.trans ht fun _ _ e => e)
  clear ht
  refine wpList_run (v := .tuple #[.pointer none, .int .i64 1]) (wanted_none rfl) (exec_move rfl rfl) ?_
  simp only [Act.put, List.setIfInBounds_toArray, List.set_cons_zero, List.set_cons_succ]
  refine wpList_run (v := .pointer none) (wanted_none rfl) (ix_extract rfl rfl rfl) ?_
  simp only [Act.put, List.setIfInBounds_toArray, List.set_cons_zero, List.set_cons_succ]
  refine wpList_run (v := .int .i64 1) (wanted_none rfl) (ix_extract rfl rfl rfl) ?_
  simp only [Act.put, List.setIfInBounds_toArray, List.set_cons_zero, List.set_cons_succ]
  refine wpList_run (v := .pointer none) (wanted_none rfl) (gx_assign rfl rfl) ?_
  simp only [Act.put, List.setIfInBounds_toArray, List.set_cons_zero, List.set_cons_succ]
  refine wpList_run (v := .int .i64 1) (wanted_none rfl) (gx_assign rfl rfl) ?_
  simp only [Act.put, List.setIfInBounds_toArray, List.set_cons_zero, List.set_cons_succ]
  go_upto_region 3 with fail
  refine wp_region_lit ?_
  refine wpList_run (v := .pointer (some ⟨p, 0, none⟩)) (wanted_none rfl) (exec_move rfl rfl) ?_
  simp only [Act.put, List.setIfInBounds_toArray, List.set_cons_zero, List.set_cons_succ]
  refine wpList_run (v := .bool false) (wanted_none rfl) (ptr_eqn (by decide) rfl rfl rfl) ?_
  simp only [Act.put, List.setIfInBounds_toArray, List.set_cons_zero, List.set_cons_succ]
  refine wpList_run (v := .bool false) (wanted_none rfl) (exec_move rfl rfl) ?_
  simp only [Act.put, List.setIfInBounds_toArray, List.set_cons_zero, List.set_cons_succ]
  refine wpList_run (v := .int .i64 0) rfl (exec_move rfl rfl) ?_
  simp only [Act.put, List.setIfInBounds_toArray, List.set_cons_zero, List.set_cons_succ]
  refine wpList_run (v := .bool false) rfl (ix_neq rfl rfl rfl (by decide)) ?_
  simp only [Act.put, List.setIfInBounds_toArray, List.set_cons_zero, List.set_cons_succ]
  refine wpList_run (v := .bool false) (wanted_none rfl) (ix_pickF rfl rfl rfl) ?_
  simp only [Act.put, List.setIfInBounds_toArray, List.set_cons_zero, List.set_cons_succ]
  refine wpList_run (v := .bool false) (wanted_none rfl) (exec_move rfl rfl) ?_
  simp only [Act.put, List.setIfInBounds_toArray, List.set_cons_zero, List.set_cons_succ]
  refine wpList_run (v := .int .i64 1) rfl (exec_move rfl rfl) ?_
  simp only [Act.put, List.setIfInBounds_toArray, List.set_cons_zero, List.set_cons_succ]
  refine wpList_run (v := .bool false) rfl (ix_neq rfl rfl rfl (by decide)) ?_
  simp only [Act.put, List.setIfInBounds_toArray, List.set_cons_zero, List.set_cons_succ]
  refine wpList_run (v := .bool false) (wanted_none rfl) (ix_pickF rfl rfl rfl) ?_
  simp only [Act.put, List.setIfInBounds_toArray, List.set_cons_zero, List.set_cons_succ]
  go_upto_region 5 with fail
  refine wp_region_lit ?_
  refine wpList_run (v := .pointer (some ⟨p, 0, none⟩)) (wanted_none rfl) (exec_move rfl rfl) ?_
  simp only [Act.put, List.setIfInBounds_toArray, List.set_cons_zero, List.set_cons_succ]
  refine wpList_run (v := .agg (entA (0, 5))) (wanted_none rfl) (gx_build2 rfl rfl rfl (build_ent _ _ _)) ?_
  simp only [Act.put, List.setIfInBounds_toArray, List.set_cons_zero, List.set_cons_succ]
  refine wpList_run (v := .agg (entA (1, -5))) (wanted_none rfl) (gx_build2 rfl rfl rfl (build_ent _ _ _)) ?_
  simp only [Act.put, List.setIfInBounds_toArray, List.set_cons_zero, List.set_cons_succ]
  have hb := Blk.new w2 57 (row2 (0, 5) (1, -5))
  have hta := (Turn.refl nowhere w2).alloc (.cells (row2 (0, 5) (1, -5)) 57)
  refine wpList_run (v := .slice (some ⟨w2.heap.size, 0, none⟩) 2 2) (w' := w2.alloc (.cells (row2 (0, 5) (1, -5)) 57)) (wanted_none rfl) (gx_bs2 rfl rfl rfl (run_bs2 _ _ _)) ?_
  simp only [Act.put, List.setIfInBounds_toArray, List.set_cons_zero, List.set_cons_succ]
  obtain ⟨g, hg⟩ : ∃ g, g = w2.heap.size := ⟨_, rfl⟩
  rw [← hg] at hb ⊢
  clear hg
  generalize w2.alloc (.cells (row2 (0, 5) (1, -5)) 57) = w3 at *
  have HE := Lib.hid (show EntAt w3 (some ⟨g, 0, none⟩) 2 e1s from EntAt.of_orw (B := 0) (c := 2) (orw_blk hb (Nat.zero_le _) rfl (by decide) rfl) (by decide) (by decide))
  have HP := Lib.hid (HP.out.still hta)
  have HT := Lib.hid (HT.out.trans hta fun _ _ e => e)
  clear hb hta
  refine wpList_op rfl fun K9 HK9 => ?_
  go_wp2_with fail
  refine (Post_is (g := b1s) HP.out HE.out (by decide) pE1 rfl).mono ?_
  rintro e w4 ⟨rfl, hp, ht⟩
  refine HK9.out _ _ ?_
  clear HK9
  try simp only [Act.put, List.setIfInBounds_toArray, List.set_cons_zero, List.set_cons_succ]
  have HP := Lib.hid hp
  have HT := Lib.hid (HT.out.newer HPL.out ht)
  clear hp ht HE
  refine wpList_run (v := .int .i64 0) (wanted_none rfl) (gx_assign rfl rfl) ?_
  simp only [Act.put, List.setIfInBounds_toArray, List.set_cons_zero, List.set_cons_succ]
  go_upto_region 6 with fail
  refine wp_region_lit ?_
  refine wpList_run (v := .pointer (some ⟨p, 0, none⟩)) (wanted_none rfl) (exec_move rfl rfl) ?_
  simp only [Act.put, List.setIfInBounds_toArray, List.set_cons_zero, List.set_cons_succ]
  refine wpList_run (v := .agg (entA (0, 5))) (wanted_none rfl) (gx_build2 rfl rfl rfl (build_ent _ _ _)) ?_
  simp only [Act.put, List.setIfInBounds_toArray, List.set_cons_zero, List.set_cons_succ]
  have hb := Blk.new w4 57 (entA (0, 5))
  have hta := (Turn.refl nowhere w4).alloc (.cells (entA (0, 5)) 57)
  refine wpList_run (v := .slice (some ⟨w4.heap.size, 0, none⟩) 1 1) (w' := w4.alloc (.cells (entA (0, 5)) 57)) (wanted_none rfl) (exec_buildSlice1 rfl rfl (run_bs1 _ _)) ?_
  simp only [Act.put, List.setIfInBounds_toArray, List.set_cons_zero, List.set_cons_succ]
  obtain ⟨g, hg⟩ : ∃ g, g = w4.heap.size := ⟨_, rfl⟩
  rw [← hg] at hb ⊢
  clear hg
  generalize w4.alloc (.cells (entA (0, 5)) 57) = w5 at *
  have HE := Lib.hid (show EntAt w5 (some ⟨g, 0, none⟩) 1 e2s from EntAt.of_orw (B := 0) (c := 1) (orw_blk hb (Nat.zero_le _) rfl (by decide) rfl) (by decide) (by decide))
  have HP := Lib.hid (HP.out.still hta)
  have HT := Lib.hid (HT.out.trans hta fun _ _ e => e)
  clear hb hta
  refine wpList_op rfl fun K9 HK9 => ?_
  go_wp2_with fail
  refine (Post_is (g := b1s) HP.out HE.out (by decide) pE2 (Lg.postB_bad (by rw [pE2]; decide))).mono ?_
  rintro e w6 ⟨rfl, hp, ht⟩
  refine HK9.out _ _ ?_
  clear HK9
  try simp only [Act.put, List.setIfInBounds_toArray, List.set_cons_zero, List.set_cons_succ]
  have HP := Lib.hid hp
  have HT := Lib.hid (HT.out.newer HPL.out ht)
  clear hp ht HE
  refine wpList_run (v := .int .i64 120) (wanted_none rfl) (gx_assign rfl rfl) ?_
  simp only [Act.put, List.setIfInBounds_toArray, List.set_cons_zero, List.set_cons_succ]
  go_upto_region 7 with fail
  refine wp_region_lit ?_
  refine wpList_run (v := .pointer (some ⟨p, 0, none⟩)) (wanted_none rfl) (exec_move rfl rfl) ?_
  simp only [Act.put, List.setIfInBounds_toArray, List.set_cons_zero, List.set_cons_succ]
  refine wpList_run (v := .agg (entA (0, 9223372036854775807))) (wanted_none rfl) (gx_build2 rfl rfl rfl (build_ent _ _ _)) ?_
  simp only [Act.put, List.setIfInBounds_toArray, List.set_cons_zero, List.set_cons_succ]
  refine wpList_run (v := .agg (entA (1, -9223372036854775807))) (wanted_none rfl) (gx_build2 rfl rfl rfl (build_ent _ _ _)) ?_
  simp only [Act.put, List.setIfInBounds_toArray, List.set_cons_zero, List.set_cons_succ]
  have hb := Blk.new w6 57 (row2 (0, 9223372036854775807) (1, -9223372036854775807))
  have hta := (Turn.refl nowhere w6).alloc (.cells (row2 (0, 9223372036854775807) (1, -9223372036854775807)) 57)
  refine wpList_run (v := .slice (some ⟨w6.heap.size, 0, none⟩) 2 2) (w' := w6.alloc (.cells (row2 (0, 9223372036854775807) (1, -9223372036854775807)) 57)) (wanted_none rfl) (gx_bs2 rfl rfl rfl (run_bs2 _ _ _)) ?_
  simp only [Act.put, List.setIfInBounds_toArray, List.set_cons_zero, List.set_cons_succ]
  obtain ⟨g, hg⟩ : ∃ g, g = w6.heap.size := ⟨_, rfl⟩
  rw [← hg] at hb ⊢
  clear hg
  generalize w6.alloc (.cells (row2 (0, 9223372036854775807) (1, -9223372036854775807)) 57) = w7 at *
  have HE := Lib.hid (show EntAt w7 (some ⟨g, 0, none⟩) 2 e3s from EntAt.of_orw (B := 0) (c := 2) (orw_blk hb (Nat.zero_le _) rfl (by decide) rfl) (by decide) (by decide))
  have HP := Lib.hid (HP.out.still hta)
  have HT := Lib.hid (HT.out.trans hta fun _ _ e => e)
  clear hb hta
  refine wpList_op rfl fun K9 HK9 => ?_
  go_wp2_with fail
  refine (Post_is (g := b1s) HP.out HE.out (by decide) pE3 (Lg.postB_bad (by rw [pE3]; decide))).mono ?_
  rintro e w8 ⟨rfl, hp, ht⟩
  refine HK9.out _ _ ?_
  clear HK9
  try simp only [Act.put, List.setIfInBounds_toArray, List.set_cons_zero, List.set_cons_succ]
  have HP := Lib.hid hp
  have HT := Lib.hid (HT.out.newer HPL.out ht)
  clear hp ht HE
  refine wpList_run (v := .int .i64 100) (wanted_none rfl) (gx_assign rfl rfl) ?_
  simp only [Act.put, List.setIfInBounds_toArray, List.set_cons_zero, List.set_cons_succ]
  go_upto_region 8 with fail
  refine wp_region_lit ?_
  refine wpList_run (v := .pointer (some ⟨p, 0, none⟩)) (wanted_none rfl) (exec_move rfl rfl) ?_
  simp only [Act.put, List.setIfInBounds_toArray, List.set_cons_zero, List.set_cons_succ]
  refine wpList_op rfl fun K9 HK9 => ?_
  go_wp2_with fail
  refine (Balance_walk HP.out).mono ?_
  rintro e w8 ⟨rfl, rfl⟩
  refine HK9.out _ _ ?_
  clear HK9
  try simp only [Act.put, List.setIfInBounds_toArray, List.set_cons_zero, List.set_cons_succ]
  rw [show balV 3 b1s 0 = 5 from by decide, show balE 3 0 = 0 from by decide]
  refine wpList_run (v := .tuple #[.int .i64 5, .int .i64 0]) (wanted_none rfl) (exec_move rfl rfl) ?_
  simp only [Act.put, List.setIfInBounds_toArray, List.set_cons_zero, List.set_cons_succ]
  refine wpList_run (v := .int .i64 5) (wanted_none rfl) (ix_extract rfl rfl rfl) ?_
  simp only [Act.put, List.setIfInBounds_toArray, List.set_cons_zero, List.set_cons_succ]
  refine wpList_run (v := .int .i64 0) (wanted_none rfl) (ix_extract rfl rfl rfl) ?_
  simp only [Act.put, List.setIfInBounds_toArray, List.set_cons_zero, List.set_cons_succ]
  refine wpList_run (v := .int .i64 5) (wanted_none rfl) (gx_assign rfl rfl) ?_
  simp only [Act.put, List.setIfInBounds_toArray, List.set_cons_zero, List.set_cons_succ]
  refine wpList_run (v := .int .i64 0) (wanted_none rfl) (gx_assign rfl rfl) ?_
  simp only [Act.put, List.setIfInBounds_toArray, List.set_cons_zero, List.set_cons_succ]
  obtain ⟨mcs, hmk⟩ := mk_members w8
  have HMK := Lib.hid hmk
  have hta := (Turn.refl nowhere w8).alloc (.cells mcs 107)
  clear hmk
  go_upto_region 9 with fail
  refine wp_region_lit ?_
  refine wpList_run (v := .slice (some ⟨w8.heap.size, 0, none⟩) 2 2) (w' := w8.alloc (.cells mcs 107)) (wanted_none rfl) (gx_make rfl rfl rfl HMK.out) ?_
  simp only [Act.put, List.setIfInBounds_toArray, List.set_cons_zero, List.set_cons_succ]
  obtain ⟨g, hg⟩ : ∃ g, g = w8.heap.size := ⟨_, rfl⟩
  rw [← hg]
  clear hg
  generalize w8.alloc (.cells mcs 107) = w9 at *
  have HT := Lib.hid (HT.out.trans hta fun _ _ e => e)
  clear hta HMK
  refine wpList_run (v := .agg #[.int .i64 50, .int .i64 0, .int .i64 1000]) (wanted_none rfl) (gx_buildAt2 rfl rfl rfl (build_r1 _)) ?_
  simp only [Act.put, List.setIfInBounds_toArray, List.set_cons_zero, List.set_cons_succ]
  refine wpList_run (v := .agg #[.int .i64 10, .int .i64 1, .int .i64 100]) (wanted_none rfl) (gx_buildAt3 rfl rfl rfl rfl (build_r2 _)) ?_
  simp only [Act.put, List.setIfInBounds_toArray, List.set_cons_zero, List.set_cons_succ]
  refine wpList_run (v := .agg (shC g).cells) (wanted_none rfl) (gx_buildAt3 rfl rfl rfl rfl (build_cfg g _)) ?_
  simp only [Act.put, List.setIfInBounds_toArray, List.set_cons_zero, List.set_cons_succ]
  refine wpList_op rfl fun K9 HK9 => ?_
  go_wp2_with fail
  refine (Payment_walk (w := w9) (c := shC g) (acq := 0) (iss := 1) (amt := 10000) (by decide) (by show 2 ≤ 140737488355328; decide)).mono ?_
  rintro e wp ⟨v, rfl, ho, ht⟩
  refine HK9.out _ _ ?_
  clear HK9
  try simp only [Act.put, List.setIfInBounds_toArray, List.set_cons_zero, List.set_cons_succ]
  rw [(sh_pay g).1, (sh_pay g).2] at *
  obtain ⟨gb, cb, hv, _⟩ := ho.some_ (by decide)
  rw [show (List.map entC [((1 : Int), (-10000 : Int)), (0, 10000), (0, -50), (1, 50), (0, -10), (2, 10)]).length = 6 from rfl] at hv
  subst hv
  have HO := Lib.hid ho
  have HT := Lib.hid (HT.out.trans ht fun _ _ e => e)
  clear ho ht
  refine wpList_run (v := .tuple #[.slice (some ⟨gb, 0, none⟩) 6 cb, .int .i64 0]) (wanted_none rfl) (exec_move rfl rfl) ?_
  simp only [Act.put, List.setIfInBounds_toArray, List.set_cons_zero, List.set_cons_succ]
  refine wpList_run (v := .slice (some ⟨gb, 0, none⟩) 6 cb) (wanted_none rfl) (ix_extract rfl rfl rfl) ?_
  simp only [Act.put, List.setIfInBounds_toArray, List.set_cons_zero, List.set_cons_succ]
  refine wpList_run (v := .int .i64 0) (wanted_none rfl) (ix_extract rfl rfl rfl) ?_
  simp only [Act.put, List.setIfInBounds_toArray, List.set_cons_zero, List.set_cons_succ]
  refine wpList_run (v := .slice (some ⟨gb, 0, none⟩) 6 cb) (wanted_none rfl) (gx_assign rfl rfl) ?_
  simp only [Act.put, List.setIfInBounds_toArray, List.set_cons_zero, List.set_cons_succ]
  refine wpList_run (v := .int .i64 0) (wanted_none rfl) (gx_assign rfl rfl) ?_
  simp only [Act.put, List.setIfInBounds_toArray, List.set_cons_zero, List.set_cons_succ]
  go_upto_region 10 with fail
  refine wp_region_lit ?_
  refine wpList_run (v := .int .i64 0) (wanted_none rfl) (exec_move rfl rfl) ?_
  simp only [Act.put, List.setIfInBounds_toArray, List.set_cons_zero, List.set_cons_succ]
  refine wpList_run (v := .bool true) (wanted_none rfl) (ix_eql rfl rfl rfl (by decide)) ?_
  simp only [Act.put, List.setIfInBounds_toArray, List.set_cons_zero, List.set_cons_succ]
  refine wpList_run (v := .bool true) (wanted_none rfl) (exec_move rfl rfl) ?_
  simp only [Act.put, List.setIfInBounds_toArray, List.set_cons_zero, List.set_cons_succ]
  refine wpList_run (v := .int .i64 120) rfl (exec_move rfl rfl) ?_
  simp only [Act.put, List.setIfInBounds_toArray, List.set_cons_zero, List.set_cons_succ]
  refine wpList_run (v := .bool true) rfl (ix_eql rfl rfl rfl (by decide)) ?_
  simp only [Act.put, List.setIfInBounds_toArray, List.set_cons_zero, List.set_cons_succ]
  refine wpList_run (v := .bool true) (wanted_none rfl) (ix_pickT rfl rfl rfl) ?_
  simp only [Act.put, List.setIfInBounds_toArray, List.set_cons_zero, List.set_cons_succ]
  refine wpList_run (v := .bool true) (wanted_none rfl) (exec_move rfl rfl) ?_
  simp only [Act.put, List.setIfInBounds_toArray, List.set_cons_zero, List.set_cons_succ]
  refine wpList_run (v := .int .i64 100) rfl (exec_move rfl rfl) ?_
  simp only [Act.put, List.setIfInBounds_toArray, List.set_cons_zero, List.set_cons_succ]
  refine wpList_run (v := .bool true) rfl (ix_eql rfl rfl rfl (by decide)) ?_
  simp only [Act.put, List.setIfInBounds_toArray, List.set_cons_zero, List.set_cons_succ]
  refine wpList_run (v := .bool true) (wanted_none rfl) (ix_pickT rfl rfl rfl) ?_
  simp only [Act.put, List.setIfInBounds_toArray, List.set_cons_zero, List.set_cons_succ]
  refine wpList_run (v := .bool true) (wanted_none rfl) (exec_move rfl rfl) ?_
  simp only [Act.put, List.setIfInBounds_toArray, List.set_cons_zero, List.set_cons_succ]
  refine wpList_run (v := .int .i64 5) rfl (exec_move rfl rfl) ?_
  simp only [Act.put, List.setIfInBounds_toArray, List.set_cons_zero, List.set_cons_succ]
  refine wpList_run (v := .bool true) rfl (ix_eql rfl rfl rfl (by decide)) ?_
  simp only [Act.put, List.setIfInBounds_toArray, List.set_cons_zero, List.set_cons_succ]
  refine wpList_run (v := .bool true) (wanted_none rfl) (ix_pickT rfl rfl rfl) ?_
  simp only [Act.put, List.setIfInBounds_toArray, List.set_cons_zero, List.set_cons_succ]
  refine wpList_run (v := .bool true) (wanted_none rfl) (exec_move rfl rfl) ?_
  simp only [Act.put, List.setIfInBounds_toArray, List.set_cons_zero, List.set_cons_succ]
  refine wpList_run (v := .int .i64 0) rfl (exec_move rfl rfl) ?_
  simp only [Act.put, List.setIfInBounds_toArray, List.set_cons_zero, List.set_cons_succ]
  refine wpList_run (v := .bool true) rfl (ix_eql rfl rfl rfl (by decide)) ?_
  simp only [Act.put, List.setIfInBounds_toArray, List.set_cons_zero, List.set_cons_succ]
  refine wpList_run (v := .bool true) (wanted_none rfl) (ix_pickT rfl rfl rfl) ?_
  simp only [Act.put, List.setIfInBounds_toArray, List.set_cons_zero, List.set_cons_succ]
  refine wpList_run (v := .bool true) (wanted_none rfl) (exec_move rfl rfl) ?_
  simp only [Act.put, List.setIfInBounds_toArray, List.set_cons_zero, List.set_cons_succ]
  refine wpList_run (v := .int .i64 0) rfl (exec_move rfl rfl) ?_
  simp only [Act.put, List.setIfInBounds_toArray, List.set_cons_zero, List.set_cons_succ]
  refine wpList_run (v := .bool true) rfl (ix_eql rfl rfl rfl (by decide)) ?_
  simp only [Act.put, List.setIfInBounds_toArray, List.set_cons_zero, List.set_cons_succ]
  refine wpList_run (v := .bool true) (wanted_none rfl) (ix_pickT rfl rfl rfl) ?_
  simp only [Act.put, List.setIfInBounds_toArray, List.set_cons_zero, List.set_cons_succ]
  refine wpList_run (v := .bool true) (wanted_none rfl) (exec_move rfl rfl) ?_
  simp only [Act.put, List.setIfInBounds_toArray, List.set_cons_zero, List.set_cons_succ]
  refine wpList_run (v := .slice (some ⟨gb, 0, none⟩) 6 cb) rfl (exec_move rfl rfl) ?_
  simp only [Act.put, List.setIfInBounds_toArray, List.set_cons_zero, List.set_cons_succ]
  refine wpList_run (v := .int .i64 (6 : Int)) rfl (gx_len rfl rfl Try.underlying35) ?_
  simp only [Act.put, List.setIfInBounds_toArray, List.set_cons_zero, List.set_cons_succ]
  refine wpList_run (v := .bool true) rfl (ix_eql rfl rfl rfl (by decide)) ?_
  simp only [Act.put, List.setIfInBounds_toArray, List.set_cons_zero, List.set_cons_succ]
  refine wpList_run (v := .bool true) (wanted_none rfl) (ix_pickT rfl rfl rfl) ?_
  simp only [Act.put, List.setIfInBounds_toArray, List.set_cons_zero, List.set_cons_succ]
  refine wpList_run (v := .bool true) (wanted_none rfl) (exec_move rfl rfl) ?_
  simp only [Act.put, List.setIfInBounds_toArray, List.set_cons_zero, List.set_cons_succ]
  refine wpList_run (v := .slice (some ⟨gb, 0, none⟩) 6 cb) rfl (exec_move rfl rfl) ?_
  simp only [Act.put, List.setIfInBounds_toArray, List.set_cons_zero, List.set_cons_succ]
  refine wpList_run (v := .pointer (some ⟨gb, 0 + 0 * 2, none⟩)) rfl (gx_iaddr (i := 0) (sz := 2) rfl rfl rfl Try.underlying35 size_ent (by decide) rfl) ?_
  simp only [Act.put, List.setIfInBounds_toArray, List.set_cons_zero, List.set_cons_succ]
  refine wpList_run (v := .agg (entA (1, -10000))) rfl (gx_loads rfl rfl (HO.out.el0 (i := 0) (r := entC (1, -10000)) rfl) Try.underlying57 rfl (by rw [size_ent]; rfl)) ?_
  simp only [Act.put, List.setIfInBounds_toArray, List.set_cons_zero, List.set_cons_succ]
  refine wpList_run (v := .agg (entA (1, -10000))) rfl (gx_build2 rfl rfl rfl (build_ent _ _ _)) ?_
  simp only [Act.put, List.setIfInBounds_toArray, List.set_cons_zero, List.set_cons_succ]
  refine wpList_run (v := .bool true) rfl (ent_eql rfl rfl rfl (by decide)) ?_
  simp only [Act.put, List.setIfInBounds_toArray, List.set_cons_zero, List.set_cons_succ]
  refine wpList_run (v := .bool true) (wanted_none rfl) (ix_pickT rfl rfl rfl) ?_
  simp only [Act.put, List.setIfInBounds_toArray, List.set_cons_zero, List.set_cons_succ]
  refine wpList_run (v := .bool true) (wanted_none rfl) (exec_move rfl rfl) ?_
  simp only [Act.put, List.setIfInBounds_toArray, List.set_cons_zero, List.set_cons_succ]
  refine wpList_run (v := .slice (some ⟨gb, 0, none⟩) 6 cb) rfl (exec_move rfl rfl) ?_
  simp only [Act.put, List.setIfInBounds_toArray, List.set_cons_zero, List.set_cons_succ]
  refine wpList_run (v := .pointer (some ⟨gb, 0 + 5 * 2, none⟩)) rfl (gx_iaddr (i := 5) (sz := 2) rfl rfl rfl Try.underlying35 size_ent (by decide) rfl) ?_
  simp only [Act.put, List.setIfInBounds_toArray, List.set_cons_zero, List.set_cons_succ]
  refine wpList_run (v := .agg (entA (2, 10))) rfl (gx_loads rfl rfl (HO.out.el0 (i := 5) (r := entC (2, 10)) rfl) Try.underlying57 rfl (by rw [size_ent]; rfl)) ?_
  simp only [Act.put, List.setIfInBounds_toArray, List.set_cons_zero, List.set_cons_succ]
  refine wpList_run (v := .agg (entA (2, 10))) rfl (gx_build2 rfl rfl rfl (build_ent _ _ _)) ?_
  simp only [Act.put, List.setIfInBounds_toArray, List.set_cons_zero, List.set_cons_succ]
  refine wpList_run (v := .bool true) rfl (ent_eql rfl rfl rfl (by decide)) ?_
  simp only [Act.put, List.setIfInBounds_toArray, List.set_cons_zero, List.set_cons_succ]
  refine wpList_run (v := .bool true) (wanted_none rfl) (ix_pickT rfl rfl rfl) ?_
  simp only [Act.put, List.setIfInBounds_toArray, List.set_cons_zero, List.set_cons_succ]
  refine wpList_run (v := .bool true) (wanted_none rfl) (gx_assign rfl rfl) ?_
  simp only [Act.put, List.setIfInBounds_toArray, List.set_cons_zero, List.set_cons_succ]
  go_wp2_with fail
  go_ret
  exact ⟨rfl, HT.out⟩
end Go.Proofs.Ythoefjaapjaeeaa
