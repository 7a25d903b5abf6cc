/-
  Several texts in one file, in their order:
  - Index: New, Put: the walks. No conditions.
  - Index: Drop, Get, Len, Depth: the walks. No conditions.
  - Index: going through a tree: walk. No conditions.
  - Index: going through a tree: walk, at a tree. No conditions.
  - Index: a range's own function (Range$1$1): it calls yield. No conditions.
  - Index: what a loop's body may write while a range goes on. No conditions.
  - Index: a range: its iterator. No conditions.
  - Index: Range. No conditions.
  - Index: what a range tells, as the law collects it. No conditions.
-/
import Derived.Test.YtmlkdkbpbleilaaJa2
import Derived.RangeFuncNested
import Derived.RangeFuncBound
import Derived.RangeFuncCalls
import Derived.RangeFuncLeaves
import Derived.Shelf.Abstract
import Derived.Shelf.RegionOpen
import Derived.WalkKit
import Derived.OwnWalkIn
import Derived.TacticsInMore
import Derived.LoopNIn
import Derived.LoopIn
import Derived.Test.YtmlkdkbpbleilaaJa0
namespace Go.Proofs.Ytmlkdkbpbleilaa
open Go.RowKit
open Ix
set_option linter.unusedVariables false
set_option linter.unusedSimpArgs false
structure ToX (w : World) (H : Hp) (x : Nat) (w' : World) (H' : Hp) : Prop where
  in_ : In w' H'
  turn : Turn (own x H) w w'
  foot : ∀ b, Go.Proofs.Ytmlkdkbpbleilaa.foot H' b → Go.Proofs.Ytmlkdkbpbleilaa.foot H b ∨ w.heap.size ≤ b
theorem ToX.refl {w : World} {H : Hp} {x : Nat} (h : In w H) : ToX w H x w H := ⟨h, Turn.refl _ _, fun b hb => .inl hb⟩
theorem ToX.to {w w1 w2 : World} {H H1 H2 : Hp} {x : Nat} (h : ToX w H x w1 H1) (g : To w1 H1 w2 H2) : ToX w H x w2 H2 := by
  refine ⟨g.in_, h.turn.trans g.turn fun k hk hf => ?_, fun b hb => ?_⟩
  · rcases h.foot k hf with h1 | h1
    · exact .inr h1
    · omega
  · rcases g.foot b hb with h1 | h1
    · exact h.foot b h1
    · exact .inr (by have := h.turn.size; omega)
theorem ToX.still {w w1 w2 : World} {H H1 : Hp} {x : Nat} (h : ToX w H x w1 H1) (ht : Turn nowhere w1 w2) : ToX w H x w2 H1 := h.to (To.still h.in_ ht)
theorem ToX.st {w w1 w2 : World} {H H1 : Hp} {x : Nat} (h : ToX w H x w1 H1) (ht : Turn (only x) w1 w2) (hx : ¬ Go.Proofs.Ytmlkdkbpbleilaa.foot H1 x) : ToX w H x w2 H1 :=
  ⟨h.in_.turn ht fun b e f => hx (by have e : b = x := e; rw [← e]; exact f), h.turn.trans ht fun k _ e => .inl e, h.foot⟩
def IdxTo (w : World) (x : Nat) (H : Hp) (M : Nat) (l : List Pr) (N : Nat) (w' : World) : Prop := ∃ H', Idx w' x H' M l N ∧ Turn (own x H) w w' ∧ ∀ b, own x H' b → own x H b ∨ w.heap.size ≤ b
theorem ToX.idx {w w' : World} {H H' : Hp} {x M N : Nat} {l : List Pr} (h : ToX w H x w' H') (hi : Idx w' x H' M l N) : IdxTo w x H M l N w' := ⟨H', hi, h.turn, fun b hb => by
  rcases hb with hb | hb
  · exact .inl (.inl hb)
  · rcases h.foot b hb with h1 | h1
    · exact .inl (.inr h1)
    · exact .inr h1⟩
theorem exec_bld {P : Program} {a : Act} {o : Oper} {t : TypeId} {r : Value} {W : World} (ho : o.op = .build t #[]) (h : (Instr.build t #[]).run P W = .ok r W) : (execOp a.eval o).run P W = .ok (.value r) W := by
  unfold execOp
  simp only [ho, List.map_toArray, List.map_nil, h, Sem.run_bind, Sem.run_pure, Result.andThen_ok]
theorem build_node0 (w : World) : (Instr.build 62 #[]).run Try.prog w = .ok (.agg #[.slice none 0 0, .slice none 0 0]) w := by kernel_rfl
theorem build_node2 (A : Option Addr) (n c : Nat) (B : Option Addr) (m d : Nat) (w : World) : (Instr.build 62 #[(0, .slice A n c), (1, .slice B m d)]).run Try.prog w = .ok (.agg #[.slice A n c, .slice B m d]) w := by kernel_rfl
theorem build_idx (M : Int) (w : World) : (Instr.build 58 #[(0, .int .i64 M)]).run Try.prog w = .ok (.agg #[.int .i64 M, .pointer none, .int .i64 0, .int .i64 0]) w := by kernel_rfl
theorem box_idx (M : Int) (w : World) : (Instr.box 58 (.agg #[.int .i64 M, .pointer none, .int .i64 0, .int .i64 0])).run Try.prog w = .ok (.pointer (some ⟨w.heap.size, 0, none⟩)) (w.alloc (.cells #[.int .i64 M, .pointer none, .int .i64 0, .int .i64 0] 58)) := by
  simp [Instr.box, newVar, newRow, Result.andThen, Value.cells]
theorem bx_slice2 {P : Program} {a : Act} {o : Oper} {t : TypeId} {x y : Operand} {u v q : Value} {W W' : World} (ho : o.op = .buildSlice t 2 #[(0, x), (1, y)]) (hx : a.eval x = u) (hy : a.eval y = v)
    (h : (Instr.buildSlice t 2 #[(0, u), (1, v)]).run P W = .ok q W') : (execOp a.eval o).run P W = .ok (.value q) W' := by
  unfold execOp
  simp only [ho, List.map_toArray, List.map_cons, List.map_nil, hx, hy, h, Sem.run_bind, Sem.run_pure, Result.andThen_ok]
theorem build_twoK (k r : Nat) (w : World) : (Instr.buildSlice 60 2 #[(0, .pointer (some ⟨k, 0, none⟩)), (1, .pointer (some ⟨r, 0, none⟩))]).run Try.prog w = .ok (.slice (some ⟨w.heap.size, 0, none⟩) 2 2) (w.alloc (.cells #[.pointer (some ⟨k, 0, none⟩), .pointer (some ⟨r, 0, none⟩)] 56)) := by kernel_rfl
theorem ptr_nil {a : Act} {o : Oper} {W : World} {x y : Operand} {t u : TypeId} (ho : o.op = .binOp .eql t x y u) (hx : a.eval x = .pointer none) (hy : a.eval y = .pointer none) (ht : t = 56) : (execOp a.eval o).run Try.prog W = .ok (.value (.bool true)) W := by
  subst ht
  unfold execOp
  simp only [ho, hx, hy]
  go_simp
theorem ptr_some {a : Act} {o : Oper} {W : World} {x y : Operand} {t u : TypeId} {p : Addr} (ho : o.op = .binOp .eql t x y u) (hx : a.eval x = .pointer (some p)) (hy : a.eval y = .pointer none) (ht : t = 56) : (execOp a.eval o).run Try.prog W = .ok (.value (.bool false)) W := by
  subst ht
  unfold execOp
  simp only [ho, hx, hy]
  go_simp
theorem row_one {w : World} {g : Nat} {p : Pr} (h : Blk w g 65 (encP p).toArray) : Orw w 0 65 2 (.slice (some ⟨g, 0, none⟩) 1 1) ([p].map encP) := orw_of h (Nat.zero_le _) (fitP [p]) rfl (Nat.le_refl _) (by unfold maxLen; omega) rfl (by simp [encP])
theorem row_twoK {w : World} {g k r : Nat} (h : Blk w g 56 #[.pointer (some ⟨k, 0, none⟩), .pointer (some ⟨r, 0, none⟩)]) : Orw w 0 56 1 (.slice (some ⟨g, 0, none⟩) 2 2) ([k, r].map encK) := orw_of h (Nat.zero_le _) (fitK [k, r]) rfl (Nat.le_refl _) (by unfold maxLen; omega) rfl (by simp [encK])
theorem in_none (w : World) : In w (fun _ => none) := ⟨fun {p nd} h => (by cases h), fun {p q a b g} h _ _ _ => (by cases h), fun {p q a b g} h _ _ _ => (by cases h)⟩
/-- New, an order that may be -/
theorem new_walk {w : World} {M : Nat} (h2 : 2 ≤ M) (h64 : M ≤ 64) : Calls Try.prog 8 #[.int .i64 (M : Int)] w fun e w' => ∃ x, e = .returned (.tuple #[.pointer (some ⟨x, 0, none⟩), .int .i64 0]) ∧ w.heap.size ≤ x ∧ Turn nowhere w w' ∧ Idx w' x (fun _ => none) M [] 0 := by
  have y1 : (2 : Int) ≤ (M : Int) := by omega
  have y2 : (M : Int) ≤ 64 := by omega
  have HO := Lib.hid (show 2 ≤ M ∧ M ≤ 64 from ⟨h2, h64⟩)
  clear h2 h64
  go_enter Try.func8, Try.ntmps8
  go_upto_region 1 with fail
  refine wp_region_lit ?_
  refine wpList_run (v := .int .i64 (M : Int)) (wanted_none rfl) (exec_move rfl rfl) ?_
  simp only [Act.put, List.setIfInBounds_toArray, List.set_cons_zero, List.set_cons_succ]
  refine wpList_run (v := .bool false) (wanted_none rfl) (ix_lss rfl rfl rfl (decide_eq_false (by omega))) ?_
  simp only [Act.put, List.setIfInBounds_toArray, List.set_cons_zero, List.set_cons_succ]
  refine wpList_run (v := .bool false) (wanted_none rfl) (exec_move rfl rfl) ?_
  simp only [Act.put, List.setIfInBounds_toArray, List.set_cons_zero, List.set_cons_succ]
  refine wpList_run (v := .int .i64 (M : Int)) rfl (exec_move rfl rfl) ?_
  simp only [Act.put, List.setIfInBounds_toArray, List.set_cons_zero, List.set_cons_succ]
  refine wpList_run (v := .bool false) rfl (ix_gtr rfl rfl rfl (decide_eq_false (by omega))) ?_
  simp only [Act.put, List.setIfInBounds_toArray, List.set_cons_zero, List.set_cons_succ]
  refine wpList_run (v := .bool false) (wanted_none rfl) (ix_pickF rfl rfl rfl) ?_
  simp only [Act.put, List.setIfInBounds_toArray, List.set_cons_zero, List.set_cons_succ]
  go_upto_region 3 with fail
  refine wp_region_lit ?_
  refine wpList_run (v := .int .i64 (M : Int)) (wanted_none rfl) (exec_move rfl rfl) ?_
  simp only [Act.put, List.setIfInBounds_toArray, List.set_cons_zero, List.set_cons_succ]
  refine wpList_run (v := .agg #[.int .i64 (M : Int), .pointer none, .int .i64 0, .int .i64 0]) (wanted_none rfl) (gx_build1 rfl rfl (build_idx _ _)) ?_
  simp only [Act.put, List.setIfInBounds_toArray, List.set_cons_zero, List.set_cons_succ]
  have hb := Blk.new w 58 #[.int .i64 (M : Int), .pointer none, .int .i64 0, .int .i64 0]
  have ht := (Turn.refl nowhere w).alloc (.cells #[.int .i64 (M : Int), .pointer none, .int .i64 0, .int .i64 0] 58)
  have hbx := box_idx (M : Int) w
  obtain ⟨x, hx⟩ : ∃ x, x = w.heap.size := ⟨_, rfl⟩
  rw [← hx] at hb hbx
  generalize w.alloc (.cells #[.int .i64 (M : Int), .pointer none, .int .i64 0, .int .i64 0] 58) = w1 at *
  refine wpList_run (v := .pointer (some ⟨x, 0, none⟩)) (w' := w1) (wanted_none rfl) (gx_box rfl rfl hbx) ?_
  simp only [Act.put, List.setIfInBounds_toArray, List.set_cons_zero, List.set_cons_succ]
  have HB := Lib.hid hb
  have HT := Lib.hid ht
  have HX := Lib.hid (show w.heap.size ≤ x by omega)
  clear hb ht hbx hx
  refine wpList_run (v := .pointer (some ⟨x, 0, none⟩)) (wanted_none rfl) (gx_assign rfl rfl) ?_
  simp only [Act.put, List.setIfInBounds_toArray, List.set_cons_zero, List.set_cons_succ]
  refine wpList_run (v := .int .i64 0) (wanted_none rfl) (gx_assign rfl rfl) ?_
  simp only [Act.put, List.setIfInBounds_toArray, List.set_cons_zero, List.set_cons_succ]
  go_wp2_with fail
  go_ret2
  exact ⟨x, rfl, HX.out, HT.out, in_none _, HO.out, ⟨.pointer none, 0, HB.out, Nat.le_refl _, .inl ⟨rfl, rfl⟩⟩, Nat.le_refl _, by omega⟩
/-- New, an order that may not be -/
theorem new_bad {w : World} {M : Int} (h : M < 2 ∨ 64 < M) : Calls Try.prog 8 #[.int .i64 M] w fun e w' => e = .returned (.tuple #[.pointer none, .int .i64 80]) ∧ w' = w := by
  go_enter Try.func8, Try.ntmps8
  rcases h with h | h
  · go_wp2
    go_ret2
    exact ⟨rfl, rfl⟩
  · have h2 : ¬ M < 2 := by omega
    go_wp2
    go_ret2
    exact ⟨rfl, rfl⟩
set_option maxRecDepth 20000 in
set_option maxHeartbeats 16000000 in
theorem Put_walk {w : World} {x : Nat} {H : Hp} {M N : Nat} {l : List Pr} {k : Key} {v : Int} (h : Idx w x H M l N) (hN : N < 1099511627776) (hkl : k.length ≤ 281474976710656) :
    Calls Try.prog 10 #[.pointer (some ⟨x, 0, none⟩), strV k, .int .i64 v] w fun e w' => e = .returned (retV (lget k l)) ∧ IdxTo w x H M (lput k v l) (N + 1) w' := by
  have HI := Lib.hid h
  obtain ⟨top, ch, hb, hch, htop⟩ := h.blk
  have HO := Lib.hid h.ord
  have HB := Lib.hid hb
  have HXF := Lib.hid (h.hin.off hb)
  have HIN := Lib.hid h.hin
  have HCN := Lib.hid (show l.length ≤ N ∧ ch ≤ N ∧ N < 1099511627776 from ⟨h.cnt, hch, hN⟩)
  have HKL := Lib.hid hkl
  have y1 : (M : Int) ≤ 64 := by have := h.ord; omega
  have y2 : (l.length : Int) ≤ 1099511627776 := by have := h.cnt; omega
  have y3 : (ch : Int) ≤ 1099511627776 := by omega
  obtain ⟨cn, hcn⟩ : ∃ cn, cn = l.length := ⟨_, rfl⟩
  rw [← hcn] at y2
  have HCE := Lib.hid hcn
  rw [← hcn] at HB
  clear h hb hch hN hkl hcn
  rcases htop with ⟨rfl, hl⟩ | ⟨d, p, t, F, rfl, ht, hnd, hnb, hsr, hfl⟩
  · have HL0 := Lib.hid hl
    clear hl
    go_enter Try.func10, Try.ntmps10
    go_upto_region 1 with fail
    refine wp_region_lit ?_
    refine wpList_run (v := .pointer (some ⟨x, 0, none⟩)) (wanted_none rfl) (exec_move rfl rfl) ?_
    simp only [Act.put, List.setIfInBounds_toArray, List.set_cons_zero, List.set_cons_succ]
    refine wpList_run (v := .pointer (some ⟨x, 0, none⟩)) (wanted_none rfl) (exec_nil rfl rfl) ?_
    simp only [Act.put, List.setIfInBounds_toArray, List.set_cons_zero, List.set_cons_succ]
    refine wpList_run (v := .pointer (some ⟨x, 1, none⟩)) (wanted_none rfl) (exec_field (off := 0) (d := 1) rfl rfl (by kernel_rfl)) ?_
    simp only [Act.put, List.setIfInBounds_toArray, List.set_cons_zero, List.set_cons_succ]
    refine wpList_run (v := .pointer none) (wanted_none rfl) (exec_load1 rfl rfl (by kernel_rfl) (HB.out.cell 1)) ?_
    simp only [Act.put, List.setIfInBounds_toArray, List.set_cons_zero, List.set_cons_succ]
    refine wpList_run (v := .bool true) (wanted_none rfl) (ptr_nil rfl rfl rfl rfl) ?_
    simp only [Act.put, List.setIfInBounds_toArray, List.set_cons_zero, List.set_cons_succ]
    go_upto_region 2 with fail
    refine wp_region_lit ?_
    refine wpList_run (v := .pointer (some ⟨x, 0, none⟩)) (wanted_none rfl) (exec_move rfl rfl) ?_
    simp only [Act.put, List.setIfInBounds_toArray, List.set_cons_zero, List.set_cons_succ]
    refine wpList_run (v := .agg #[.slice none 0 0, .slice none 0 0]) (wanted_none rfl) (exec_bld rfl (build_node0 _)) ?_
    simp only [Act.put, List.setIfInBounds_toArray, List.set_cons_zero, List.set_cons_succ]
    have hb2 := Blk.new w 62 #[.slice none 0 0, .slice none 0 0]
    have ht2 := (Turn.refl nowhere w).alloc (.cells #[.slice none 0 0, .slice none 0 0] 62)
    have hbx := box_node none 0 0 none 0 0 w
    obtain ⟨p, hg2⟩ : ∃ q, q = w.heap.size := ⟨_, rfl⟩
    rw [← hg2] at hb2 hbx
    generalize w.alloc (.cells #[.slice none 0 0, .slice none 0 0] 62) = w0 at *
    refine wpList_run (v := .pointer (some ⟨p, 0, none⟩)) (w' := w0) (wanted_none rfl) (gx_box rfl rfl hbx) ?_
    simp only [Act.put, List.setIfInBounds_toArray, List.set_cons_zero, List.set_cons_succ]
    have HNW := Lib.hid (HIN.out.new (nd := ⟨[], [], .slice none 0 0, .slice none 0 0⟩) ht2 (by omega) ⟨hb2, Orw.nil _ _ _ _, Orw.nil _ _ _ _⟩ (fun b hb => by cases hb) (fun b hb => by cases hb))
    have HB0 := Lib.hid (HB.out.turn ht2 fun e => e)
    clear hb2 ht2 hg2 hbx
    obtain ⟨H1, hH1⟩ : ∃ q, q = up H p ⟨[], [], .slice none 0 0, .slice none 0 0⟩ := ⟨_, rfl⟩
    have HIS1 := Lib.hid (show Is H1 p [] [] from by rw [hH1]; exact ⟨_, _, up_same _ _ _⟩)
    rw [← hH1] at HNW
    clear hH1
    have HX0 := Lib.hid ((ToX.refl (x := x) HIN.out).to HNW.out)
    refine wpList_run (v := .pointer (some ⟨x, 0, none⟩)) (wanted_none rfl) (exec_nil rfl rfl) ?_
    simp only [Act.put, List.setIfInBounds_toArray, List.set_cons_zero, List.set_cons_succ]
    refine wpList_run (v := .pointer (some ⟨x, 1, none⟩)) (wanted_none rfl) (exec_field (off := 0) (d := 1) rfl rfl (by kernel_rfl)) ?_
    simp only [Act.put, List.setIfInBounds_toArray, List.set_cons_zero, List.set_cons_succ]
    refine wpList_storeU 1 (.pointer (some ⟨p, 0, none⟩)) (wanted_none rfl) 56 _ _ rfl HB0.out rfl rfl (by show 1 < 4; omega) ⟨rfl, rfl⟩ size_ptr ?_
    intro w1 hb9 ht9
    simp only [Act.put, List.setIfInBounds_toArray, List.set_cons_zero, List.set_cons_succ]
    have HX1 := Lib.hid (HX0.out.st ht9 (HX0.out.in_.off HB0.out))
    have HB1 := Lib.hid (show Blk w1 x 58 #[.int .i64 (M : Int), .pointer (some ⟨p, 0, none⟩), .int .i64 (cn : Int), .int .i64 (ch : Int)] from hb9)
    clear hb9 ht9
    obtain ⟨d, hd⟩ : ∃ d : Nat, d = 0 := ⟨0, rfl⟩
    obtain ⟨t, ht⟩ : ∃ t : Tr d, flat t = [] ∧ TrAt H1 p t [p] ∧ Nd (M / 2) M 0 M t := by
      subst hd
      exact ⟨([], ()), rfl, ⟨HIS1.out, rfl⟩, Nat.le_refl _, Nat.zero_le _⟩
    obtain ⟨lo, hlo⟩ : ∃ lo : Nat, lo = 0 := ⟨0, rfl⟩
    obtain ⟨F, hF⟩ : ∃ F, F = [p] := ⟨_, rfl⟩
    have HFL := Lib.hid (show flat t = l from by rw [HL0.out]; exact ht.1)
    have HSR := Lib.hid (show Srt (flat t) from by rw [ht.1]; exact List.Pairwise.nil)
    have HTE := Lib.hid (show Tree w1 H1 p t F (M / 2) M lo M from ⟨HX1.out.in_, by rw [hF]; exact ht.2.1, by rw [hF]; exact fun a => by simp only [List.count_cons, List.count_nil]; split <;> omega, by rw [hlo]; exact ht.2.2⟩)
    have HLO := Lib.hid (show 1 ≤ lo ∨ d = 0 from .inr hd)
    clear hd ht hlo hF
    go_upto_region 3 with fail
    refine wp_region_alw (fun W => Blk W x 58 #[.int .i64 (M : Int), .pointer (some ⟨p, 0, none⟩), .int .i64 (cn : Int), .int .i64 (ch : Int)]) (by kernel_rfl) ?_
    have HD := Lib.hid ((Turn.refl nowhere w1).drew)
    have hS0 : Blk w1.drew x 58 #[.int .i64 (M : Int), .pointer (some ⟨p, 0, none⟩), .int .i64 (cn : Int), .int .i64 (ch : Int)] := HB1.out
    have HXF1 := Lib.hid (HTE.out.hin.off HB1.out)
    refine alw_take (i := 0) (v := .pointer (some ⟨x, 0, none⟩)) rfl (by kernel_rfl) (by kernel_rfl) (fun _ _ _ h => h) (.inl ⟨by rfl, fun W hW => exec_move rfl rfl⟩) hS0 ?_
    simp only [Act.put, List.setIfInBounds_toArray, List.set_cons_zero, List.set_cons_succ]
    refine alw_take (i := 1) (v := .pointer (some ⟨x, 0, none⟩)) rfl (by kernel_rfl) (by kernel_rfl) (fun _ _ _ h => h) (.inl ⟨by rfl, fun W hW => exec_nil rfl rfl⟩) hS0 ?_
    simp only [Act.put, List.setIfInBounds_toArray, List.set_cons_zero, List.set_cons_succ]
    refine alw_take (i := 2) (v := .pointer (some ⟨x, 1, none⟩)) rfl (by kernel_rfl) (by kernel_rfl) (fun _ _ _ h => h) (.inl ⟨by rfl, fun W hW => exec_field (off := 0) (d := 1) rfl rfl (by kernel_rfl)⟩) hS0 ?_
    simp only [Act.put, List.setIfInBounds_toArray, List.set_cons_zero, List.set_cons_succ]
    refine alw_take (i := 3) (v := .pointer (some ⟨p, 0, none⟩)) rfl (by kernel_rfl) (by kernel_rfl) (fun _ _ _ h => h) (.inl ⟨by rfl, fun W hW => exec_load1 rfl rfl (by kernel_rfl) (hW.cell 1)⟩) hS0 ?_
    simp only [Act.put, List.setIfInBounds_toArray, List.set_cons_zero, List.set_cons_succ]
    refine alw_take (i := 4) (v := strV k) rfl (by kernel_rfl) (by kernel_rfl) (fun _ _ _ h => h) (.inl ⟨by rfl, fun W hW => exec_move rfl rfl⟩) hS0 ?_
    simp only [Act.put, List.setIfInBounds_toArray, List.set_cons_zero, List.set_cons_succ]
    refine alw_take (i := 5) (v := .int .i64 v) rfl (by kernel_rfl) (by kernel_rfl) (fun _ _ _ h => h) (.inl ⟨by rfl, fun W hW => exec_move rfl rfl⟩) hS0 ?_
    simp only [Act.put, List.setIfInBounds_toArray, List.set_cons_zero, List.set_cons_succ]
    refine alw_take (i := 6) (v := .pointer (some ⟨x, 0, none⟩)) rfl (by kernel_rfl) (by kernel_rfl) (fun _ _ _ h => h) (.inl ⟨by rfl, fun W hW => exec_move rfl rfl⟩) hS0 ?_
    simp only [Act.put, List.setIfInBounds_toArray, List.set_cons_zero, List.set_cons_succ]
    refine alw_take (i := 7) (v := .pointer (some ⟨x, 0, none⟩)) rfl (by kernel_rfl) (by kernel_rfl) (fun _ _ _ h => h) (.inl ⟨by rfl, fun W hW => exec_nil rfl rfl⟩) hS0 ?_
    simp only [Act.put, List.setIfInBounds_toArray, List.set_cons_zero, List.set_cons_succ]
    refine alw_take (i := 8) (v := .pointer (some ⟨x, 0, none⟩)) rfl (by kernel_rfl) (by kernel_rfl) (fun _ _ _ h => h) (.inl ⟨by rfl, fun W hW => exec_field (off := 0) (d := 0) rfl rfl (by kernel_rfl)⟩) hS0 ?_
    simp only [Act.put, List.setIfInBounds_toArray, List.set_cons_zero, List.set_cons_succ]
    refine alw_take (i := 9) (v := .int .i64 (M : Int)) rfl (by kernel_rfl) (by kernel_rfl) (fun _ _ _ h => h) (.inl ⟨by rfl, fun W hW => exec_load1 rfl rfl (by kernel_rfl) (hW.cell 0)⟩) hS0 ?_
    simp only [Act.put, List.setIfInBounds_toArray, List.set_cons_zero, List.set_cons_succ]
    have HPW := Lib.hid (put_walk (v := v) rfl HO.out.1 (by have := HO.out.2; omega) HKL.out (show Tree w1.drew H1 p t F (M / 2) M lo M from ⟨HTE.out.hin.still HD.out, HTE.out.tr, HTE.out.nd, HTE.out.nb⟩) HSR.out (by have := HO.out.2; omega))
    refine alw_step (i := 10) (by kernel_rfl) rfl rfl ?_
    intro K1 HK1
    go_wp2_with fail
    refine HPW.out.mono ?_
    rintro e w2 ⟨rfl, haf⟩
    obtain ⟨H2, F2, hx2⟩ := haf.x
    have hS2 : Blk w2 x 58 #[.int .i64 (M : Int), .pointer (some ⟨p, 0, none⟩), .int .i64 (cn : Int), .int .i64 (ch : Int)] := hS0.turn hx2.to.turn HXF1.out
    refine HK1.out _ _ ⟨hS2, ?_⟩
    clear HK1 haf hS0
    try simp only [Act.put, List.setIfInBounds_toArray, List.set_cons_zero, List.set_cons_succ]
    have HX2 := Lib.hid (AfterX.pre HTE.out.hin HD.out hx2)
    clear hx2
    refine alw_take (i := 11) (v := .tuple #[.int .i64 ((tget k t).getD 0), .bool (tget k t).isSome]) rfl (by kernel_rfl) (by kernel_rfl) (fun _ _ _ h => h) (.inl ⟨by rfl, fun W hW => exec_move rfl rfl⟩) hS2 ?_
    simp only [Act.put, List.setIfInBounds_toArray, List.set_cons_zero, List.set_cons_succ]
    refine alw_take (i := 12) (v := .int .i64 ((tget k t).getD 0)) rfl (by kernel_rfl) (by kernel_rfl) (fun _ _ _ h => h) (.inl ⟨by rfl, fun W hW => ix_extract rfl rfl rfl⟩) hS2 ?_
    simp only [Act.put, List.setIfInBounds_toArray, List.set_cons_zero, List.set_cons_succ]
    refine alw_take (i := 13) (v := .bool (tget k t).isSome) rfl (by kernel_rfl) (by kernel_rfl) (fun _ _ _ h => h) (.inl ⟨by rfl, fun W hW => ix_extract rfl rfl rfl⟩) hS2 ?_
    simp only [Act.put, List.setIfInBounds_toArray, List.set_cons_zero, List.set_cons_succ]
    refine alw_take (i := 14) (v := .int .i64 ((tget k t).getD 0)) rfl (by kernel_rfl) (by kernel_rfl) (fun _ _ _ h => h) (.inl ⟨by rfl, fun W hW => gx_assign rfl rfl⟩) hS2 ?_
    simp only [Act.put, List.setIfInBounds_toArray, List.set_cons_zero, List.set_cons_succ]
    refine alw_take (i := 15) (v := .bool (tget k t).isSome) rfl (by kernel_rfl) (by kernel_rfl) (fun _ _ _ h => h) (.inl ⟨by rfl, fun W hW => gx_assign rfl rfl⟩) hS2 ?_
    simp only [Act.put, List.setIfInBounds_toArray, List.set_cons_zero, List.set_cons_succ]
    refine alw_done rfl ?_
    refine NoPanic.normal ?_
    try simp only [Act.put, List.setIfInBounds_toArray, List.set_cons_zero, List.set_cons_succ]
    have HB2 := Lib.hid hS2
    clear hS2 HD HPW
    obtain ⟨tf, tn⟩ := tput_ok (k := k) (n := v) rfl HO.out.1 HTE.out.nb HSR.out
    have tp := tput_pos (k := k) (v := v) rfl HO.out.1 HTE.out.nb HSR.out HLO.out
    rw [HFL.out] at tf
    have HTG := Lib.hid (show tget k t = lget k l from (tget_ok HTE.out.nb HSR.out).trans (by rw [HFL.out]))
    have HXT := Lib.hid (HX1.out.to HX2.out.to)
    obtain ⟨T, hT⟩ : ∃ T, T = tput k v M t := ⟨_, rfl⟩
    rw [← hT] at tf tn tp HX2
    have HTF := Lib.hid tf
    have HTN := Lib.hid tn
    have HTP := Lib.hid tp
    obtain ⟨vp, vk, ks, hp2⟩ := HX2.out.tr.root
    have hsl : Srt l := by have h := HSR.out; rwa [HFL.out] at h
    have HSL := Lib.hid hsl
    have HLN := Lib.hid (lput_len (k := k) (v := v) hsl)
    obtain ⟨A2, c2, e9, _, _, _, _⟩ := (HXT.out.in_.at_ hp2).prs.form
    obtain ⟨n2, hn2⟩ : ∃ n, n = T.ps.length := ⟨_, rfl⟩
    replace e9 := e9.trans (show _ = Value.slice A2 n2 c2 from by rw [List.length_map, hn2])
    subst e9
    have HP2 := Lib.hid hp2
    have HN2 := Lib.hid hn2
    have z1 : (n2 : Int) ≤ 65 := by have := tn.hi; have := HO.out.2; omega
    clear tf tn tp hT hp2 hn2 hsl
    go_upto_region 4 with fail
    refine wp_region_alw (fun W => Blk W x 58 #[.int .i64 (M : Int), .pointer (some ⟨p, 0, none⟩), .int .i64 (cn : Int), .int .i64 (ch : Int)] ∧ Blk W p 62 #[.slice A2 n2 c2, vk]) (by kernel_rfl) ?_
    have HD := Lib.hid ((Turn.refl nowhere w2).drew)
    have hS0 : Blk w2.drew x 58 #[.int .i64 (M : Int), .pointer (some ⟨p, 0, none⟩), .int .i64 (cn : Int), .int .i64 (ch : Int)] ∧ Blk w2.drew p 62 #[.slice A2 n2 c2, vk] := ⟨HB2.out, (HXT.out.in_.at_ HP2.out).blk⟩
    refine alw_take (i := 0) (v := .pointer (some ⟨x, 0, none⟩)) rfl (by kernel_rfl) (by kernel_rfl) (fun _ _ _ h => h) (.inl ⟨by rfl, fun W hW => exec_move rfl rfl⟩) hS0 ?_
    simp only [Act.put, List.setIfInBounds_toArray, List.set_cons_zero, List.set_cons_succ]
    refine alw_take (i := 1) (v := .pointer (some ⟨x, 0, none⟩)) rfl (by kernel_rfl) (by kernel_rfl) (fun _ _ _ h => h) (.inl ⟨by rfl, fun W hW => exec_nil rfl rfl⟩) hS0 ?_
    simp only [Act.put, List.setIfInBounds_toArray, List.set_cons_zero, List.set_cons_succ]
    refine alw_take (i := 2) (v := .pointer (some ⟨x, 1, none⟩)) rfl (by kernel_rfl) (by kernel_rfl) (fun _ _ _ h => h) (.inl ⟨by rfl, fun W hW => exec_field (off := 0) (d := 1) rfl rfl (by kernel_rfl)⟩) hS0 ?_
    simp only [Act.put, List.setIfInBounds_toArray, List.set_cons_zero, List.set_cons_succ]
    refine alw_take (i := 3) (v := .pointer (some ⟨p, 0, none⟩)) rfl (by kernel_rfl) (by kernel_rfl) (fun _ _ _ h => h) (.inl ⟨by rfl, fun W hW => exec_load1 rfl rfl (by kernel_rfl) (hW.1.cell 1)⟩) hS0 ?_
    simp only [Act.put, List.setIfInBounds_toArray, List.set_cons_zero, List.set_cons_succ]
    refine alw_take (i := 4) (v := .pointer (some ⟨p, 0, none⟩)) rfl (by kernel_rfl) (by kernel_rfl) (fun _ _ _ h => h) (.inl ⟨by rfl, fun W hW => exec_nil rfl rfl⟩) hS0 ?_
    simp only [Act.put, List.setIfInBounds_toArray, List.set_cons_zero, List.set_cons_succ]
    refine alw_take (i := 5) (v := .pointer (some ⟨p, 0, none⟩)) rfl (by kernel_rfl) (by kernel_rfl) (fun _ _ _ h => h) (.inl ⟨by rfl, fun W hW => exec_field (off := 0) (d := 0) rfl rfl (by kernel_rfl)⟩) hS0 ?_
    simp only [Act.put, List.setIfInBounds_toArray, List.set_cons_zero, List.set_cons_succ]
    refine alw_take (i := 6) (v := .slice A2 n2 c2) rfl (by kernel_rfl) (by kernel_rfl) (fun _ _ _ h => h) (.inl ⟨by rfl, fun W hW => exec_load1 rfl rfl (by kernel_rfl) (hW.2.cell 0)⟩) hS0 ?_
    simp only [Act.put, List.setIfInBounds_toArray, List.set_cons_zero, List.set_cons_succ]
    refine alw_take (i := 7) (v := .int .i64 (n2 : Int)) rfl (by kernel_rfl) (by kernel_rfl) (fun _ _ _ h => h) (.inl ⟨by rfl, fun W hW => gx_len rfl rfl Try.underlying59⟩) hS0 ?_
    simp only [Act.put, List.setIfInBounds_toArray, List.set_cons_zero, List.set_cons_succ]
    refine alw_take (i := 8) (v := .pointer (some ⟨x, 0, none⟩)) rfl (by kernel_rfl) (by kernel_rfl) (fun _ _ _ h => h) (.inl ⟨by rfl, fun W hW => exec_move rfl rfl⟩) hS0 ?_
    simp only [Act.put, List.setIfInBounds_toArray, List.set_cons_zero, List.set_cons_succ]
    refine alw_take (i := 9) (v := .pointer (some ⟨x, 0, none⟩)) rfl (by kernel_rfl) (by kernel_rfl) (fun _ _ _ h => h) (.inl ⟨by rfl, fun W hW => exec_nil rfl rfl⟩) hS0 ?_
    simp only [Act.put, List.setIfInBounds_toArray, List.set_cons_zero, List.set_cons_succ]
    refine alw_take (i := 10) (v := .pointer (some ⟨x, 0, none⟩)) rfl (by kernel_rfl) (by kernel_rfl) (fun _ _ _ h => h) (.inl ⟨by rfl, fun W hW => exec_field (off := 0) (d := 0) rfl rfl (by kernel_rfl)⟩) hS0 ?_
    simp only [Act.put, List.setIfInBounds_toArray, List.set_cons_zero, List.set_cons_succ]
    refine alw_take (i := 11) (v := .int .i64 (M : Int)) rfl (by kernel_rfl) (by kernel_rfl) (fun _ _ _ h => h) (.inl ⟨by rfl, fun W hW => exec_load1 rfl rfl (by kernel_rfl) (hW.1.cell 0)⟩) hS0 ?_
    simp only [Act.put, List.setIfInBounds_toArray, List.set_cons_zero, List.set_cons_succ]
    have HX3 := Lib.hid (HXT.out.still HD.out)
    have HB3 := Lib.hid hS0.1
    have HXA := Lib.hid (HX2.out.post HD.out)
    by_cases hov : M < n2
    · refine alw_take (i := 12) (v := .bool true) rfl (by kernel_rfl) (by kernel_rfl) (fun _ _ _ h => h) (.inl ⟨by rfl, fun W hW => ix_gtr rfl rfl rfl (decide_eq_true (by omega))⟩) hS0 ?_
      simp only [Act.put, List.setIfInBounds_toArray, List.set_cons_zero, List.set_cons_succ]
      refine alw_done rfl ?_
      refine NoPanic.normal ?_
      try simp only [Act.put, List.setIfInBounds_toArray, List.set_cons_zero, List.set_cons_succ]
      have HOV := Lib.hid hov
      clear hS0 hov
      obtain ⟨w3, hw3⟩ : ∃ q, q = w2.drew := ⟨_, rfl⟩
      rw [← hw3] at HX3 HB3 HXA ⊢
      clear hw3 HD
      obtain ⟨y, hy⟩ : ∃ y, T.ps[T.ps.length / 2]? = some y := ⟨_, List.getElem?_eq_getElem (show T.ps.length / 2 < T.ps.length by have := HTP.out; omega)⟩
      have HY := Lib.hid (show splitM T = y from by unfold splitM; rw [hy]; rfl)
      have hks2 : ks = [] ∨ ks.length = T.ps.length + 1 := by
        have h1 := HXA.out.tr
        have h2 := HTN.out
        have h3 : Is H2 p T.ps ks := ⟨_, _, HP2.out⟩
        clear HX2 HXA HTG HTF HTP HTN HSR HFL HTE HLO HY hy HN2
        cases d with
        | zero => exact .inl (h3.inj h1.1).2
        | succ d =>
          obtain ⟨ks', F', g1, g2, _⟩ := h1
          obtain ⟨_, e⟩ := h3.inj g1
          right
          rw [e, g2.len]
          exact h2.2.2.1
      have HSW := Lib.hid (split_walk HX3.out.in_ ⟨_, _, HP2.out⟩ hy (by have := HN2.out; omega) hks2)
      clear hy hks2
      go_upto_region 5 with fail
      refine wp_region_lit ?_
      refine wpList_run (v := .pointer (some ⟨x, 0, none⟩)) (wanted_none rfl) (exec_move rfl rfl) ?_
      simp only [Act.put, List.setIfInBounds_toArray, List.set_cons_zero, List.set_cons_succ]
      refine wpList_run (v := .pointer (some ⟨x, 0, none⟩)) (wanted_none rfl) (exec_nil rfl rfl) ?_
      simp only [Act.put, List.setIfInBounds_toArray, List.set_cons_zero, List.set_cons_succ]
      refine wpList_run (v := .pointer (some ⟨x, 1, none⟩)) (wanted_none rfl) (exec_field (off := 0) (d := 1) rfl rfl (by kernel_rfl)) ?_
      simp only [Act.put, List.setIfInBounds_toArray, List.set_cons_zero, List.set_cons_succ]
      refine wpList_run (v := .pointer (some ⟨p, 0, none⟩)) (wanted_none rfl) (exec_load1 rfl rfl (by kernel_rfl) (HB3.out.cell 1)) ?_
      simp only [Act.put, List.setIfInBounds_toArray, List.set_cons_zero, List.set_cons_succ]
      refine wpList_run (v := .pointer (some ⟨p, 0, none⟩)) (wanted_none rfl) (gx_assign rfl rfl) ?_
      simp only [Act.put, List.setIfInBounds_toArray, List.set_cons_zero, List.set_cons_succ]
      go_upto_region 6 with fail
      refine wp_region_lit ?_
      refine wpList_run (v := .pointer (some ⟨p, 0, none⟩)) (wanted_none rfl) (exec_move rfl rfl) ?_
      simp only [Act.put, List.setIfInBounds_toArray, List.set_cons_zero, List.set_cons_succ]
      refine wpList_op rfl fun K9 HK9 => ?_
      go_wp2_with fail
      refine (HSW.out).mono ?_
      rintro e w4 ⟨r, H4, rfl, hgr, hto, jx, jr, hs4⟩
      refine HK9.out _ _ ?_
      clear HK9
      try simp only [Act.put, List.setIfInBounds_toArray, List.set_cons_zero, List.set_cons_succ]
      have HX4 := Lib.hid (HX3.out.to hto)
      have HB4 := Lib.hid (HB3.out.turn hto.turn (HX3.out.in_.off HB3.out))
      have hnG : Nd1 (r :: F2) := fun a => by
        have h1 := HXA.out.nd a
        simp only [List.count_cons]
        split
        · rename_i e
          have e : r = a := by simpa using e
          have : F2.count a = 0 := List.count_eq_zero.2 fun hm => by
            have := TrAt.lt HX3.out.in_ HXA.out.tr a hm
            omega
          omega
        · omega
      obtain ⟨Gl, Gr, t1, t2, t3⟩ := split_tree (n := r) HX3.out.in_ HXA.out.tr ⟨_, _, HP2.out⟩ hnG hgr jx jr (fun q hq => hs4 q fun e => hq (by rcases e with e | e; exact .inr (.inl e); exact .inr (.inr e)))
      have HGL := Lib.hid t1
      have HGRT := Lib.hid t2
      have HGC := Lib.hid t3
      have HNF := Lib.hid hnG
      have HLT4 := Lib.hid (fun q (hq : q ∈ F2) => TrAt.lt HX3.out.in_ HXA.out.tr q hq)
      have HGR := Lib.hid hgr
      have HSZ := Lib.hid hto.turn.size
      clear hto jx jr hs4 hgr t1 t2 t3 hnG
      refine wpList_run (v := .tuple #[.agg (encP y).toArray, .pointer (some ⟨r, 0, none⟩)]) (wanted_none rfl) (exec_move rfl rfl) ?_
      simp only [Act.put, List.setIfInBounds_toArray, List.set_cons_zero, List.set_cons_succ]
      refine wpList_run (v := .agg (encP y).toArray) (wanted_none rfl) (ix_extract rfl rfl rfl) ?_
      simp only [Act.put, List.setIfInBounds_toArray, List.set_cons_zero, List.set_cons_succ]
      refine wpList_run (v := .pointer (some ⟨r, 0, none⟩)) (wanted_none rfl) (ix_extract rfl rfl rfl) ?_
      simp only [Act.put, List.setIfInBounds_toArray, List.set_cons_zero, List.set_cons_succ]
      refine wpList_new 65 (.tmp 11) (.tmp 57) (encP y).toArray (wanted_none rfl) rfl (zero_pair _) rfl (wanted_none rfl) rfl rfl rfl rfl (by rw [size_pair]; rfl) (fun v hv => encP_one y v (by simpa using hv)) ?_
      intro w5 g5 hge hb5 ht5
      simp only [Act.put, List.setIfInBounds_toArray, List.set_cons_zero, List.set_cons_succ]
      have HB5 := Lib.hid hb5
      have HX5 := Lib.hid (HX4.out.still ht5)
      have HBX5 := Lib.hid (HB4.out.turn ht5 (fun e => e))
      have HT5 := Lib.hid ht5
      clear hge hb5 ht5
      refine wpList_run (v := .pointer (some ⟨r, 0, none⟩)) (wanted_none rfl) (gx_assign rfl rfl) ?_
      simp only [Act.put, List.setIfInBounds_toArray, List.set_cons_zero, List.set_cons_succ]
      go_upto_region 7 with fail
      refine wp_region_lit ?_
      refine wpList_run (v := .pointer (some ⟨x, 0, none⟩)) (wanted_none rfl) (exec_move rfl rfl) ?_
      simp only [Act.put, List.setIfInBounds_toArray, List.set_cons_zero, List.set_cons_succ]
      refine wpList_run (v := .agg (encP y).toArray) (wanted_none rfl) (gx_loads rfl rfl (blk_range HB5.out) Try.underlying65 rfl (by rw [size_pair]; rfl)) ?_
      simp only [Act.put, List.setIfInBounds_toArray, List.set_cons_zero, List.set_cons_succ]
      have hb2 := Blk.new w5 65 (encP y).toArray
      have ht2 := (Turn.refl nowhere w5).alloc (.cells (encP y).toArray 65)
      obtain ⟨g6, hg2⟩ : ∃ q, q = w5.heap.size := ⟨_, rfl⟩
      have hbld := build_oneP y w5
      rw [← hg2] at hb2 hbld
      generalize w5.alloc (.cells (encP y).toArray 65) = w6 at *
      refine wpList_run (v := .slice (some ⟨g6, 0, none⟩) 1 1) (w' := w6) (wanted_none rfl) (exec_buildSlice1 rfl rfl hbld) ?_
      simp only [Act.put, List.setIfInBounds_toArray, List.set_cons_zero, List.set_cons_succ]
      have HG6 := Lib.hid hb2
      have HT6 := Lib.hid ht2
      have HE6 := Lib.hid hg2
      clear hb2 ht2 hg2 hbld
      refine wpList_run (v := .pointer (some ⟨p, 0, none⟩)) (wanted_none rfl) (exec_move rfl rfl) ?_
      simp only [Act.put, List.setIfInBounds_toArray, List.set_cons_zero, List.set_cons_succ]
      refine wpList_run (v := .pointer (some ⟨r, 0, none⟩)) (wanted_none rfl) (exec_move rfl rfl) ?_
      simp only [Act.put, List.setIfInBounds_toArray, List.set_cons_zero, List.set_cons_succ]
      have hb2 := Blk.new w6 56 #[.pointer (some ⟨p, 0, none⟩), .pointer (some ⟨r, 0, none⟩)]
      have ht2 := (Turn.refl nowhere w6).alloc (.cells #[.pointer (some ⟨p, 0, none⟩), .pointer (some ⟨r, 0, none⟩)] 56)
      obtain ⟨g7, hg2⟩ : ∃ q, q = w6.heap.size := ⟨_, rfl⟩
      have hbld := build_twoK p r w6
      rw [← hg2] at hb2 hbld
      generalize w6.alloc (.cells #[.pointer (some ⟨p, 0, none⟩), .pointer (some ⟨r, 0, none⟩)] 56) = w7 at *
      refine wpList_run (v := .slice (some ⟨g7, 0, none⟩) 2 2) (w' := w7) (wanted_none rfl) (bx_slice2 rfl rfl rfl hbld) ?_
      simp only [Act.put, List.setIfInBounds_toArray, List.set_cons_zero, List.set_cons_succ]
      have HG7 := Lib.hid hb2
      have HT7 := Lib.hid ht2
      have HE7 := Lib.hid hg2
      clear hb2 ht2 hg2 hbld
      refine wpList_run (v := .agg #[.slice (some ⟨g6, 0, none⟩) 1 1, .slice (some ⟨g7, 0, none⟩) 2 2]) (wanted_none rfl) (gx_build2 rfl rfl rfl (build_node2 _ _ _ _ _ _ _)) ?_
      simp only [Act.put, List.setIfInBounds_toArray, List.set_cons_zero, List.set_cons_succ]
      have hb2 := Blk.new w7 62 #[.slice (some ⟨g6, 0, none⟩) 1 1, .slice (some ⟨g7, 0, none⟩) 2 2]
      have ht2 := (Turn.refl nowhere w7).alloc (.cells #[.slice (some ⟨g6, 0, none⟩) 1 1, .slice (some ⟨g7, 0, none⟩) 2 2] 62)
      have hbx := box_node (some ⟨g6, 0, none⟩) 1 1 (some ⟨g7, 0, none⟩) 2 2 w7
      obtain ⟨g8, hg2⟩ : ∃ q, q = w7.heap.size := ⟨_, rfl⟩
      rw [← hg2] at hb2 hbx
      generalize w7.alloc (.cells #[.slice (some ⟨g6, 0, none⟩) 1 1, .slice (some ⟨g7, 0, none⟩) 2 2] 62) = w8 at *
      refine wpList_run (v := .pointer (some ⟨g8, 0, none⟩)) (w' := w8) (wanted_none rfl) (gx_box rfl rfl hbx) ?_
      simp only [Act.put, List.setIfInBounds_toArray, List.set_cons_zero, List.set_cons_succ]
      have HT58 := Lib.hid (HT6.out.trans (HT7.out.trans ht2 fun _ _ e => e) fun _ _ e => e)
      have HG8 := Lib.hid (show w5.heap.size ≤ g8 from by have := HT6.out.size; have := HT7.out.size; omega)
      have HNW := Lib.hid (HX5.out.in_.new (nd := ⟨[y], [p, r], .slice (some ⟨g6, 0, none⟩) 1 1, .slice (some ⟨g7, 0, none⟩) 2 2⟩) HT58.out HG8.out
        ⟨hb2, (row_one (HG6.out.turn (HT7.out.trans ht2 fun _ _ e => e) fun e => e)), (row_twoK (HG7.out.turn ht2 fun e => e))⟩ (fun b hb => by have hb : some g6 = some b := hb; have := Option.some.inj hb; have := HE6.out; omega) (fun b hb => by have hb : some g7 = some b := hb; have := Option.some.inj hb; have := HE7.out; have := HT6.out.size; omega))
      have HB8 := Lib.hid (HBX5.out.turn HT58.out fun e => e)
      clear hb2 ht2 hg2 hbx
      obtain ⟨H8, hH8⟩ : ∃ q, q = up H4 g8 ⟨[y], [p, r], .slice (some ⟨g6, 0, none⟩) 1 1, .slice (some ⟨g7, 0, none⟩) 2 2⟩ := ⟨_, rfl⟩
      have HIS8 := Lib.hid (show Is H8 g8 [y] [p, r] from by rw [hH8]; exact ⟨_, _, up_same _ _ _⟩)
      have HSM8 := Lib.hid (show Same H4 H8 (fun q => q = g8) from by rw [hH8]; exact same_up _ _ _)
      rw [← hH8] at HNW
      clear hH8
      have HX8 := Lib.hid (HX5.out.to HNW.out)
      refine wpList_run (v := .pointer (some ⟨x, 0, none⟩)) (wanted_none rfl) (exec_nil rfl rfl) ?_
      simp only [Act.put, List.setIfInBounds_toArray, List.set_cons_zero, List.set_cons_succ]
      refine wpList_run (v := .pointer (some ⟨x, 1, none⟩)) (wanted_none rfl) (exec_field (off := 0) (d := 1) rfl rfl (by kernel_rfl)) ?_
      simp only [Act.put, List.setIfInBounds_toArray, List.set_cons_zero, List.set_cons_succ]
      refine wpList_storeU 1 (.pointer (some ⟨g8, 0, none⟩)) (wanted_none rfl) 56 _ _ rfl HB8.out rfl rfl (by show 1 < 4; omega) ⟨rfl, rfl⟩ size_ptr ?_
      intro w9 hb9 ht9
      simp only [Act.put, List.setIfInBounds_toArray, List.set_cons_zero, List.set_cons_succ]
      have HX9 := Lib.hid (HX8.out.st ht9 (HX8.out.in_.off HB8.out))
      have HB9 := Lib.hid (show Blk w9 x 58 #[.int .i64 (M : Int), .pointer (some ⟨g8, 0, none⟩), .int .i64 (cn : Int), .int .i64 (ch : Int)] from hb9)
      clear hb9 ht9
      have hg8 : ∀ q, q ∈ F2 ∨ q = r → q ≠ g8 := fun q hq e => by
        have := HG8.out
        have := HT5.out.size
        have := HSZ.out
        rcases hq with h | h
        · have := HLT4.out q h; omega
        · have := HX4.out.in_
          have hr : r < w4.heap.size := TrAt.lt HX4.out.in_ HGRT.out r HGRT.out.mem
          omega
      have hin : ∀ q ∈ Gl ++ Gr, q ∈ F2 ∨ q = r := fun q hq => by
        have h1 := cnt_mem hq
        rw [HGC.out] at h1
        by_cases e : q = r
        · exact .inr e
        · have : ([r] : List Nat).count q = 0 := List.count_eq_zero.2 (by simp [e])
          exact .inl (List.count_pos_iff.1 (by omega))
      have HTOP := Lib.hid (show Top H8 M (.pointer (some ⟨g8, 0, none⟩)) (lput k v l) from .inr ⟨d + 1, g8, nodeT [y] [splitL T, splitR T], g8 :: (Gl ++ (Gr ++ [])), rfl,
        ⟨[p, r], Gl ++ (Gr ++ []), HIS8.out, ⟨Gl, Gr ++ [], rfl, HGL.out.same HSM8.out fun q hq e => hg8 q (hin q (List.mem_append_left _ hq)) e, ⟨Gr, [], rfl, HGRT.out.same HSM8.out fun q hq e => hg8 q (hin q (List.mem_append_right _ hq)) e, rfl⟩⟩, rfl⟩,
        fun a => by
          have h1 := HGC.out a
          have h2 := HNF.out a
          have h3 : 1 ≤ (Gl ++ Gr).count a → a ≠ g8 := fun h => hg8 a (hin a (List.count_pos_iff.1 h))
          simp only [List.count_append, List.count_cons, List.count_nil] at h1 h2 h3 ⊢
          by_cases e : g8 = a
          · have : ¬ 1 ≤ Gl.count a + Gr.count a := fun h => h3 h e.symm
            simp only [e, beq_self_eq_true, if_true]
            omega
          · simp only [show (g8 == a) = false from by simpa using e, Bool.false_eq_true, if_false]
            omega,
        by
          obtain ⟨n1, n2'⟩ := split_nd HTN.out (show T.ps.length = M + 1 from by have := HTN.out.hi; have := HN2.out; have := HOV.out; omega) rfl (by have := HO.out.1; omega)
          refine ⟨Nat.le_refl _, by show 1 ≤ M; have := HO.out.1; omega, rfl, fun c hc => ?_⟩
          have hc : c ∈ [splitL T, splitR T] := hc
          simp at hc
          rcases hc with rfl | rfl
          · exact n1
          · exact n2',
        by
          show Srt (flat (nodeT [y] [splitL T, splitR T]))
          have h : flat (nodeT [y] [splitL T, splitR T]) = flat T := by
            rw [split_flat HTN.out (by have := HTP.out; omega), HY.out]
            show inter ([splitL T, splitR T].map flat) [y] = _
            simp [inter]
          rw [h, HTF.out]
          exact lput_srt HSL.out,
        by
          have h : flat (nodeT [y] [splitL T, splitR T]) = flat T := by
            rw [split_flat HTN.out (by have := HTP.out; omega), HY.out]
            show inter ([splitL T, splitR T].map flat) [y] = _
            simp [inter]
          rw [h, HTF.out]⟩)
      clear hg8 hin
      cases hg : tget k t with
      | some u =>
        have HRET := Lib.hid (show retV (lget k l) = .tuple #[.int .i64 u, .bool true] from by rw [← HTG.out, hg]; rfl)
        have HLE := Lib.hid (show (lput k v l).length = cn from by rw [HLN.out, ← HTG.out, hg, HCE.out]; rfl)
        clear hg
        go_upto_region 8 with fail
        refine wp_region_lit ?_
        refine wpList_run (v := .bool true) (wanted_none rfl) (exec_move rfl rfl) ?_
        simp only [Act.put, List.setIfInBounds_toArray, List.set_cons_zero, List.set_cons_succ]
        refine wpList_run (v := .bool false) (wanted_none rfl) (gx_not rfl rfl rfl) ?_
        simp only [Act.put, List.setIfInBounds_toArray, List.set_cons_zero, List.set_cons_succ]
        go_upto_region 11 with fail
        refine wp_region_lit ?_
        refine wpList_run (v := .int .i64 u) (wanted_none rfl) (exec_move rfl rfl) ?_
        simp only [Act.put, List.setIfInBounds_toArray, List.set_cons_zero, List.set_cons_succ]
        refine wpList_run (v := .bool true) (wanted_none rfl) (exec_move rfl rfl) ?_
        simp only [Act.put, List.setIfInBounds_toArray, List.set_cons_zero, List.set_cons_succ]
        refine wpList_run (v := .int .i64 u) (wanted_none rfl) (gx_assign rfl rfl) ?_
        simp only [Act.put, List.setIfInBounds_toArray, List.set_cons_zero, List.set_cons_succ]
        refine wpList_run (v := .bool true) (wanted_none rfl) (gx_assign rfl rfl) ?_
        simp only [Act.put, List.setIfInBounds_toArray, List.set_cons_zero, List.set_cons_succ]
        go_wp2_with fail
        go_ret2
        rw [HRET.out]
        exact ⟨rfl, HX9.out.idx ⟨HX9.out.in_, HO.out, ⟨.pointer (some ⟨g8, 0, none⟩), ch, by rw [HLE.out]; exact HB9.out, by have := HCN.out; omega, HTOP.out⟩, by rw [HLE.out]; have := HCN.out; have := HCE.out; omega, by have := HCN.out; omega⟩⟩
      | none =>
        have HRET := Lib.hid (show retV (lget k l) = .tuple #[.int .i64 0, .bool false] from by rw [← HTG.out, hg]; rfl)
        have HLE := Lib.hid (show (lput k v l).length = cn + 1 from by rw [HLN.out, ← HTG.out, hg, HCE.out]; rfl)
        clear hg
        go_upto_region 8 with fail
        refine wp_region_lit ?_
        refine wpList_run (v := .bool false) (wanted_none rfl) (exec_move rfl rfl) ?_
        simp only [Act.put, List.setIfInBounds_toArray, List.set_cons_zero, List.set_cons_succ]
        refine wpList_run (v := .bool true) (wanted_none rfl) (gx_not rfl rfl rfl) ?_
        simp only [Act.put, List.setIfInBounds_toArray, List.set_cons_zero, List.set_cons_succ]
        go_upto_region 9 with fail
        refine wp_region_lit ?_
        refine wpList_run (v := .pointer (some ⟨x, 0, none⟩)) (wanted_none rfl) (exec_move rfl rfl) ?_
        simp only [Act.put, List.setIfInBounds_toArray, List.set_cons_zero, List.set_cons_succ]
        refine wpList_run (v := .pointer (some ⟨x, 0, none⟩)) (wanted_none rfl) (exec_nil rfl rfl) ?_
        simp only [Act.put, List.setIfInBounds_toArray, List.set_cons_zero, List.set_cons_succ]
        refine wpList_run (v := .pointer (some ⟨x, 2, none⟩)) (wanted_none rfl) (exec_field (off := 0) (d := 2) rfl rfl (by kernel_rfl)) ?_
        simp only [Act.put, List.setIfInBounds_toArray, List.set_cons_zero, List.set_cons_succ]
        refine wpList_run (v := .int .i64 (cn : Int)) (wanted_none rfl) (exec_load1 rfl rfl (by kernel_rfl) (HB9.out.cell 2)) ?_
        simp only [Act.put, List.setIfInBounds_toArray, List.set_cons_zero, List.set_cons_succ]
        refine wpList_run (v := .int .i64 ((cn + 1 : Nat) : Int)) (wanted_none rfl) (ix_add rfl rfl rfl (by omega) (by omega)) ?_
        simp only [Act.put, List.setIfInBounds_toArray, List.set_cons_zero, List.set_cons_succ]
        refine wpList_run (v := .pointer (some ⟨x, 0, none⟩)) (wanted_none rfl) (exec_nil rfl rfl) ?_
        simp only [Act.put, List.setIfInBounds_toArray, List.set_cons_zero, List.set_cons_succ]
        refine wpList_run (v := .pointer (some ⟨x, 2, none⟩)) (wanted_none rfl) (exec_field (off := 0) (d := 2) rfl rfl (by kernel_rfl)) ?_
        simp only [Act.put, List.setIfInBounds_toArray, List.set_cons_zero, List.set_cons_succ]
        refine wpList_storeU 2 (.int .i64 ((cn + 1 : Nat) : Int)) (wanted_none rfl) 3 _ _ rfl HB9.out rfl rfl (by show 2 < 4; omega) ⟨rfl, rfl⟩ (by kernel_rfl) ?_
        intro w10 hb10 ht10
        simp only [Act.put, List.setIfInBounds_toArray, List.set_cons_zero, List.set_cons_succ]
        have HX10 := Lib.hid (HX9.out.st ht10 (HX9.out.in_.off HB9.out))
        have HB10 := Lib.hid (show Blk w10 x 58 #[.int .i64 (M : Int), .pointer (some ⟨g8, 0, none⟩), .int .i64 ((cn + 1 : Nat) : Int), .int .i64 (ch : Int)] from hb10)
        clear hb10 ht10
        go_upto_region 10 with fail
        refine wp_region_lit ?_
        refine wpList_run (v := .pointer (some ⟨x, 0, none⟩)) (wanted_none rfl) (exec_move rfl rfl) ?_
        simp only [Act.put, List.setIfInBounds_toArray, List.set_cons_zero, List.set_cons_succ]
        refine wpList_run (v := .pointer (some ⟨x, 0, none⟩)) (wanted_none rfl) (exec_nil rfl rfl) ?_
        simp only [Act.put, List.setIfInBounds_toArray, List.set_cons_zero, List.set_cons_succ]
        refine wpList_run (v := .pointer (some ⟨x, 3, none⟩)) (wanted_none rfl) (exec_field (off := 0) (d := 3) rfl rfl (by kernel_rfl)) ?_
        simp only [Act.put, List.setIfInBounds_toArray, List.set_cons_zero, List.set_cons_succ]
        refine wpList_run (v := .int .i64 (ch : Int)) (wanted_none rfl) (exec_load1 rfl rfl (by kernel_rfl) (HB10.out.cell 3)) ?_
        simp only [Act.put, List.setIfInBounds_toArray, List.set_cons_zero, List.set_cons_succ]
        refine wpList_run (v := .int .i64 ((ch + 1 : Nat) : Int)) (wanted_none rfl) (ix_add rfl rfl rfl (by omega) (by omega)) ?_
        simp only [Act.put, List.setIfInBounds_toArray, List.set_cons_zero, List.set_cons_succ]
        refine wpList_run (v := .pointer (some ⟨x, 0, none⟩)) (wanted_none rfl) (exec_nil rfl rfl) ?_
        simp only [Act.put, List.setIfInBounds_toArray, List.set_cons_zero, List.set_cons_succ]
        refine wpList_run (v := .pointer (some ⟨x, 3, none⟩)) (wanted_none rfl) (exec_field (off := 0) (d := 3) rfl rfl (by kernel_rfl)) ?_
        simp only [Act.put, List.setIfInBounds_toArray, List.set_cons_zero, List.set_cons_succ]
        refine wpList_storeU 3 (.int .i64 ((ch + 1 : Nat) : Int)) (wanted_none rfl) 3 _ _ rfl HB10.out rfl rfl (by show 3 < 4; omega) ⟨rfl, rfl⟩ (by kernel_rfl) ?_
        intro w11 hb11 ht11
        simp only [Act.put, List.setIfInBounds_toArray, List.set_cons_zero, List.set_cons_succ]
        have HX11 := Lib.hid (HX10.out.st ht11 (HX10.out.in_.off HB10.out))
        have HB11 := Lib.hid (show Blk w11 x 58 #[.int .i64 (M : Int), .pointer (some ⟨g8, 0, none⟩), .int .i64 ((cn + 1 : Nat) : Int), .int .i64 ((ch + 1 : Nat) : Int)] from hb11)
        clear hb11 ht11
        go_upto_region 11 with fail
        refine wp_region_lit ?_
        refine wpList_run (v := .int .i64 0) (wanted_none rfl) (exec_move rfl rfl) ?_
        simp only [Act.put, List.setIfInBounds_toArray, List.set_cons_zero, List.set_cons_succ]
        refine wpList_run (v := .bool false) (wanted_none rfl) (exec_move rfl rfl) ?_
        simp only [Act.put, List.setIfInBounds_toArray, List.set_cons_zero, List.set_cons_succ]
        refine wpList_run (v := .int .i64 0) (wanted_none rfl) (gx_assign rfl rfl) ?_
        simp only [Act.put, List.setIfInBounds_toArray, List.set_cons_zero, List.set_cons_succ]
        refine wpList_run (v := .bool false) (wanted_none rfl) (gx_assign rfl rfl) ?_
        simp only [Act.put, List.setIfInBounds_toArray, List.set_cons_zero, List.set_cons_succ]
        go_wp2_with fail
        go_ret2
        rw [HRET.out]
        exact ⟨rfl, HX11.out.idx ⟨HX11.out.in_, HO.out, ⟨.pointer (some ⟨g8, 0, none⟩), ch + 1, by rw [HLE.out]; exact HB11.out, by have := HCN.out; omega, HTOP.out⟩, by rw [HLE.out]; have := HCN.out; have := HCE.out; omega, by have := HCN.out; omega⟩⟩
    · refine alw_take (i := 12) (v := .bool false) rfl (by kernel_rfl) (by kernel_rfl) (fun _ _ _ h => h) (.inl ⟨by rfl, fun W hW => ix_gtr rfl rfl rfl (decide_eq_false (by omega))⟩) hS0 ?_
      simp only [Act.put, List.setIfInBounds_toArray, List.set_cons_zero, List.set_cons_succ]
      refine alw_done rfl ?_
      refine NoPanic.normal ?_
      try simp only [Act.put, List.setIfInBounds_toArray, List.set_cons_zero, List.set_cons_succ]
      have HOV := Lib.hid hov
      clear hS0 hov
      obtain ⟨w9, hw3⟩ : ∃ q, q = w2.drew := ⟨_, rfl⟩
      rw [← hw3] at HX3 HB3 HXA ⊢
      clear hw3 HD
      have HX9 := HX3
      have HB9 := HB3
      have HTOP := Lib.hid (show Top H2 M (.pointer (some ⟨p, 0, none⟩)) (lput k v l) from .inr ⟨d, p, T, F2, rfl, HXA.out.tr, HXA.out.nd, HTN.out.mono HTP.out (by have := HN2.out; have := HOV.out; omega), by rw [HTF.out]; exact lput_srt HSL.out, HTF.out⟩)
      cases hg : tget k t with
      | some u =>
        have HRET := Lib.hid (show retV (lget k l) = .tuple #[.int .i64 u, .bool true] from by rw [← HTG.out, hg]; rfl)
        have HLE := Lib.hid (show (lput k v l).length = cn from by rw [HLN.out, ← HTG.out, hg, HCE.out]; rfl)
        clear hg
        go_upto_region 8 with fail
        refine wp_region_lit ?_
        refine wpList_run (v := .bool true) (wanted_none rfl) (exec_move rfl rfl) ?_
        simp only [Act.put, List.setIfInBounds_toArray, List.set_cons_zero, List.set_cons_succ]
        refine wpList_run (v := .bool false) (wanted_none rfl) (gx_not rfl rfl rfl) ?_
        simp only [Act.put, List.setIfInBounds_toArray, List.set_cons_zero, List.set_cons_succ]
        go_upto_region 11 with fail
        refine wp_region_lit ?_
        refine wpList_run (v := .int .i64 u) (wanted_none rfl) (exec_move rfl rfl) ?_
        simp only [Act.put, List.setIfInBounds_toArray, List.set_cons_zero, List.set_cons_succ]
        refine wpList_run (v := .bool true) (wanted_none rfl) (exec_move rfl rfl) ?_
        simp only [Act.put, List.setIfInBounds_toArray, List.set_cons_zero, List.set_cons_succ]
        refine wpList_run (v := .int .i64 u) (wanted_none rfl) (gx_assign rfl rfl) ?_
        simp only [Act.put, List.setIfInBounds_toArray, List.set_cons_zero, List.set_cons_succ]
        refine wpList_run (v := .bool true) (wanted_none rfl) (gx_assign rfl rfl) ?_
        simp only [Act.put, List.setIfInBounds_toArray, List.set_cons_zero, List.set_cons_succ]
        go_wp2_with fail
        go_ret2
        rw [HRET.out]
        exact ⟨rfl, HX9.out.idx ⟨HX9.out.in_, HO.out, ⟨.pointer (some ⟨p, 0, none⟩), ch, by rw [HLE.out]; exact HB9.out, by have := HCN.out; omega, HTOP.out⟩, by rw [HLE.out]; have := HCN.out; have := HCE.out; omega, by have := HCN.out; omega⟩⟩
      | none =>
        have HRET := Lib.hid (show retV (lget k l) = .tuple #[.int .i64 0, .bool false] from by rw [← HTG.out, hg]; rfl)
        have HLE := Lib.hid (show (lput k v l).length = cn + 1 from by rw [HLN.out, ← HTG.out, hg, HCE.out]; rfl)
        clear hg
        go_upto_region 8 with fail
        refine wp_region_lit ?_
        refine wpList_run (v := .bool false) (wanted_none rfl) (exec_move rfl rfl) ?_
        simp only [Act.put, List.setIfInBounds_toArray, List.set_cons_zero, List.set_cons_succ]
        refine wpList_run (v := .bool true) (wanted_none rfl) (gx_not rfl rfl rfl) ?_
        simp only [Act.put, List.setIfInBounds_toArray, List.set_cons_zero, List.set_cons_succ]
        go_upto_region 9 with fail
        refine wp_region_lit ?_
        refine wpList_run (v := .pointer (some ⟨x, 0, none⟩)) (wanted_none rfl) (exec_move rfl rfl) ?_
        simp only [Act.put, List.setIfInBounds_toArray, List.set_cons_zero, List.set_cons_succ]
        refine wpList_run (v := .pointer (some ⟨x, 0, none⟩)) (wanted_none rfl) (exec_nil rfl rfl) ?_
        simp only [Act.put, List.setIfInBounds_toArray, List.set_cons_zero, List.set_cons_succ]
        refine wpList_run (v := .pointer (some ⟨x, 2, none⟩)) (wanted_none rfl) (exec_field (off := 0) (d := 2) rfl rfl (by kernel_rfl)) ?_
        simp only [Act.put, List.setIfInBounds_toArray, List.set_cons_zero, List.set_cons_succ]
        refine wpList_run (v := .int .i64 (cn : Int)) (wanted_none rfl) (exec_load1 rfl rfl (by kernel_rfl) (HB9.out.cell 2)) ?_
        simp only [Act.put, List.setIfInBounds_toArray, List.set_cons_zero, List.set_cons_succ]
        refine wpList_run (v := .int .i64 ((cn + 1 : Nat) : Int)) (wanted_none rfl) (ix_add rfl rfl rfl (by omega) (by omega)) ?_
        simp only [Act.put, List.setIfInBounds_toArray, List.set_cons_zero, List.set_cons_succ]
        refine wpList_run (v := .pointer (some ⟨x, 0, none⟩)) (wanted_none rfl) (exec_nil rfl rfl) ?_
        simp only [Act.put, List.setIfInBounds_toArray, List.set_cons_zero, List.set_cons_succ]
        refine wpList_run (v := .pointer (some ⟨x, 2, none⟩)) (wanted_none rfl) (exec_field (off := 0) (d := 2) rfl rfl (by kernel_rfl)) ?_
        simp only [Act.put, List.setIfInBounds_toArray, List.set_cons_zero, List.set_cons_succ]
        refine wpList_storeU 2 (.int .i64 ((cn + 1 : Nat) : Int)) (wanted_none rfl) 3 _ _ rfl HB9.out rfl rfl (by show 2 < 4; omega) ⟨rfl, rfl⟩ (by kernel_rfl) ?_
        intro w10 hb10 ht10
        simp only [Act.put, List.setIfInBounds_toArray, List.set_cons_zero, List.set_cons_succ]
        have HX10 := Lib.hid (HX9.out.st ht10 (HX9.out.in_.off HB9.out))
        have HB10 := Lib.hid (show Blk w10 x 58 #[.int .i64 (M : Int), .pointer (some ⟨p, 0, none⟩), .int .i64 ((cn + 1 : Nat) : Int), .int .i64 (ch : Int)] from hb10)
        clear hb10 ht10
        go_upto_region 10 with fail
        refine wp_region_lit ?_
        refine wpList_run (v := .pointer (some ⟨x, 0, none⟩)) (wanted_none rfl) (exec_move rfl rfl) ?_
        simp only [Act.put, List.setIfInBounds_toArray, List.set_cons_zero, List.set_cons_succ]
        refine wpList_run (v := .pointer (some ⟨x, 0, none⟩)) (wanted_none rfl) (exec_nil rfl rfl) ?_
        simp only [Act.put, List.setIfInBounds_toArray, List.set_cons_zero, List.set_cons_succ]
        refine wpList_run (v := .pointer (some ⟨x, 3, none⟩)) (wanted_none rfl) (exec_field (off := 0) (d := 3) rfl rfl (by kernel_rfl)) ?_
        simp only [Act.put, List.setIfInBounds_toArray, List.set_cons_zero, List.set_cons_succ]
        refine wpList_run (v := .int .i64 (ch : Int)) (wanted_none rfl) (exec_load1 rfl rfl (by kernel_rfl) (HB10.out.cell 3)) ?_
        simp only [Act.put, List.setIfInBounds_toArray, List.set_cons_zero, List.set_cons_succ]
        refine wpList_run (v := .int .i64 ((ch + 1 : Nat) : Int)) (wanted_none rfl) (ix_add rfl rfl rfl (by omega) (by omega)) ?_
        simp only [Act.put, List.setIfInBounds_toArray, List.set_cons_zero, List.set_cons_succ]
        refine wpList_run (v := .pointer (some ⟨x, 0, none⟩)) (wanted_none rfl) (exec_nil rfl rfl) ?_
        simp only [Act.put, List.setIfInBounds_toArray, List.set_cons_zero, List.set_cons_succ]
        refine wpList_run (v := .pointer (some ⟨x, 3, none⟩)) (wanted_none rfl) (exec_field (off := 0) (d := 3) rfl rfl (by kernel_rfl)) ?_
        simp only [Act.put, List.setIfInBounds_toArray, List.set_cons_zero, List.set_cons_succ]
        refine wpList_storeU 3 (.int .i64 ((ch + 1 : Nat) : Int)) (wanted_none rfl) 3 _ _ rfl HB10.out rfl rfl (by show 3 < 4; omega) ⟨rfl, rfl⟩ (by kernel_rfl) ?_
        intro w11 hb11 ht11
        simp only [Act.put, List.setIfInBounds_toArray, List.set_cons_zero, List.set_cons_succ]
        have HX11 := Lib.hid (HX10.out.st ht11 (HX10.out.in_.off HB10.out))
        have HB11 := Lib.hid (show Blk w11 x 58 #[.int .i64 (M : Int), .pointer (some ⟨p, 0, none⟩), .int .i64 ((cn + 1 : Nat) : Int), .int .i64 ((ch + 1 : Nat) : Int)] from hb11)
        clear hb11 ht11
        go_upto_region 11 with fail
        refine wp_region_lit ?_
        refine wpList_run (v := .int .i64 0) (wanted_none rfl) (exec_move rfl rfl) ?_
        simp only [Act.put, List.setIfInBounds_toArray, List.set_cons_zero, List.set_cons_succ]
        refine wpList_run (v := .bool false) (wanted_none rfl) (exec_move rfl rfl) ?_
        simp only [Act.put, List.setIfInBounds_toArray, List.set_cons_zero, List.set_cons_succ]
        refine wpList_run (v := .int .i64 0) (wanted_none rfl) (gx_assign rfl rfl) ?_
        simp only [Act.put, List.setIfInBounds_toArray, List.set_cons_zero, List.set_cons_succ]
        refine wpList_run (v := .bool false) (wanted_none rfl) (gx_assign rfl rfl) ?_
        simp only [Act.put, List.setIfInBounds_toArray, List.set_cons_zero, List.set_cons_succ]
        go_wp2_with fail
        go_ret2
        rw [HRET.out]
        exact ⟨rfl, HX11.out.idx ⟨HX11.out.in_, HO.out, ⟨.pointer (some ⟨p, 0, none⟩), ch + 1, by rw [HLE.out]; exact HB11.out, by have := HCN.out; omega, HTOP.out⟩, by rw [HLE.out]; have := HCN.out; have := HCE.out; omega, by have := HCN.out; omega⟩⟩
  · have HX1 := Lib.hid (ToX.refl (x := x) HIN.out)
    have HTE := Lib.hid (show Tree w H p t F (M / 2) M 1 M from ⟨HIN.out, ht, hnd, hnb⟩)
    have HSR := Lib.hid hsr
    have HFL := Lib.hid hfl
    obtain ⟨lo, hlo⟩ : ∃ lo : Nat, lo = 1 := ⟨1, rfl⟩
    rw [← hlo] at HTE
    have HLO := Lib.hid (show 1 ≤ lo ∨ d = 0 from .inl (by omega))
    have HB1 := HB
    clear ht hnd hnb hsr hfl hlo
    obtain ⟨H1, hH1⟩ : ∃ q, q = H := ⟨_, rfl⟩
    obtain ⟨w1, hw1⟩ : ∃ q, q = w := ⟨_, rfl⟩
    go_enter Try.func10, Try.ntmps10
    go_upto_region 1 with fail
    refine wp_region_lit ?_
    refine wpList_run (v := .pointer (some ⟨x, 0, none⟩)) (wanted_none rfl) (exec_move rfl rfl) ?_
    simp only [Act.put, List.setIfInBounds_toArray, List.set_cons_zero, List.set_cons_succ]
    refine wpList_run (v := .pointer (some ⟨x, 0, none⟩)) (wanted_none rfl) (exec_nil rfl rfl) ?_
    simp only [Act.put, List.setIfInBounds_toArray, List.set_cons_zero, List.set_cons_succ]
    refine wpList_run (v := .pointer (some ⟨x, 1, none⟩)) (wanted_none rfl) (exec_field (off := 0) (d := 1) rfl rfl (by kernel_rfl)) ?_
    simp only [Act.put, List.setIfInBounds_toArray, List.set_cons_zero, List.set_cons_succ]
    refine wpList_run (v := .pointer (some ⟨p, 0, none⟩)) (wanted_none rfl) (exec_load1 rfl rfl (by kernel_rfl) (HB.out.cell 1)) ?_
    simp only [Act.put, List.setIfInBounds_toArray, List.set_cons_zero, List.set_cons_succ]
    refine wpList_run (v := .bool false) (wanted_none rfl) (ptr_some rfl rfl rfl rfl) ?_
    simp only [Act.put, List.setIfInBounds_toArray, List.set_cons_zero, List.set_cons_succ]
    have HX1 := Lib.hid (show ToX w H x w1 H1 from by rw [hw1, hH1]; exact HX1.out)
    have HB1 := Lib.hid (show Blk w1 x 58 #[.int .i64 (M : Int), .pointer (some ⟨p, 0, none⟩), .int .i64 (cn : Int), .int .i64 (ch : Int)] from by rw [hw1]; exact HB.out)
    have HTE := Lib.hid (show Tree w1 H1 p t F (M / 2) M lo M from by rw [hw1, hH1]; exact HTE.out)
    go_upto_region 3 with fail
    rw [← hw1]
    clear hw1 hH1
    refine wp_region_alw (fun W => Blk W x 58 #[.int .i64 (M : Int), .pointer (some ⟨p, 0, none⟩), .int .i64 (cn : Int), .int .i64 (ch : Int)]) (by kernel_rfl) ?_
    have HD := Lib.hid ((Turn.refl nowhere w1).drew)
    have hS0 : Blk w1.drew x 58 #[.int .i64 (M : Int), .pointer (some ⟨p, 0, none⟩), .int .i64 (cn : Int), .int .i64 (ch : Int)] := HB1.out
    have HXF1 := Lib.hid (HTE.out.hin.off HB1.out)
    refine alw_take (i := 0) (v := .pointer (some ⟨x, 0, none⟩)) rfl (by kernel_rfl) (by kernel_rfl) (fun _ _ _ h => h) (.inl ⟨by rfl, fun W hW => exec_move rfl rfl⟩) hS0 ?_
    simp only [Act.put, List.setIfInBounds_toArray, List.set_cons_zero, List.set_cons_succ]
    refine alw_take (i := 1) (v := .pointer (some ⟨x, 0, none⟩)) rfl (by kernel_rfl) (by kernel_rfl) (fun _ _ _ h => h) (.inl ⟨by rfl, fun W hW => exec_nil rfl rfl⟩) hS0 ?_
    simp only [Act.put, List.setIfInBounds_toArray, List.set_cons_zero, List.set_cons_succ]
    refine alw_take (i := 2) (v := .pointer (some ⟨x, 1, none⟩)) rfl (by kernel_rfl) (by kernel_rfl) (fun _ _ _ h => h) (.inl ⟨by rfl, fun W hW => exec_field (off := 0) (d := 1) rfl rfl (by kernel_rfl)⟩) hS0 ?_
    simp only [Act.put, List.setIfInBounds_toArray, List.set_cons_zero, List.set_cons_succ]
    refine alw_take (i := 3) (v := .pointer (some ⟨p, 0, none⟩)) rfl (by kernel_rfl) (by kernel_rfl) (fun _ _ _ h => h) (.inl ⟨by rfl, fun W hW => exec_load1 rfl rfl (by kernel_rfl) (hW.cell 1)⟩) hS0 ?_
    simp only [Act.put, List.setIfInBounds_toArray, List.set_cons_zero, List.set_cons_succ]
    refine alw_take (i := 4) (v := strV k) rfl (by kernel_rfl) (by kernel_rfl) (fun _ _ _ h => h) (.inl ⟨by rfl, fun W hW => exec_move rfl rfl⟩) hS0 ?_
    simp only [Act.put, List.setIfInBounds_toArray, List.set_cons_zero, List.set_cons_succ]
    refine alw_take (i := 5) (v := .int .i64 v) rfl (by kernel_rfl) (by kernel_rfl) (fun _ _ _ h => h) (.inl ⟨by rfl, fun W hW => exec_move rfl rfl⟩) hS0 ?_
    simp only [Act.put, List.setIfInBounds_toArray, List.set_cons_zero, List.set_cons_succ]
    refine alw_take (i := 6) (v := .pointer (some ⟨x, 0, none⟩)) rfl (by kernel_rfl) (by kernel_rfl) (fun _ _ _ h => h) (.inl ⟨by rfl, fun W hW => exec_move rfl rfl⟩) hS0 ?_
    simp only [Act.put, List.setIfInBounds_toArray, List.set_cons_zero, List.set_cons_succ]
    refine alw_take (i := 7) (v := .pointer (some ⟨x, 0, none⟩)) rfl (by kernel_rfl) (by kernel_rfl) (fun _ _ _ h => h) (.inl ⟨by rfl, fun W hW => exec_nil rfl rfl⟩) hS0 ?_
    simp only [Act.put, List.setIfInBounds_toArray, List.set_cons_zero, List.set_cons_succ]
    refine alw_take (i := 8) (v := .pointer (some ⟨x, 0, none⟩)) rfl (by kernel_rfl) (by kernel_rfl) (fun _ _ _ h => h) (.inl ⟨by rfl, fun W hW => exec_field (off := 0) (d := 0) rfl rfl (by kernel_rfl)⟩) hS0 ?_
    simp only [Act.put, List.setIfInBounds_toArray, List.set_cons_zero, List.set_cons_succ]
    refine alw_take (i := 9) (v := .int .i64 (M : Int)) rfl (by kernel_rfl) (by kernel_rfl) (fun _ _ _ h => h) (.inl ⟨by rfl, fun W hW => exec_load1 rfl rfl (by kernel_rfl) (hW.cell 0)⟩) hS0 ?_
    simp only [Act.put, List.setIfInBounds_toArray, List.set_cons_zero, List.set_cons_succ]
    have HPW := Lib.hid (put_walk (v := v) rfl HO.out.1 (by have := HO.out.2; omega) HKL.out (show Tree w1.drew H1 p t F (M / 2) M lo M from ⟨HTE.out.hin.still HD.out, HTE.out.tr, HTE.out.nd, HTE.out.nb⟩) HSR.out (by have := HO.out.2; omega))
    refine alw_step (i := 10) (by kernel_rfl) rfl rfl ?_
    intro K1 HK1
    go_wp2_with fail
    refine HPW.out.mono ?_
    rintro e w2 ⟨rfl, haf⟩
    obtain ⟨H2, F2, hx2⟩ := haf.x
    have hS2 : Blk w2 x 58 #[.int .i64 (M : Int), .pointer (some ⟨p, 0, none⟩), .int .i64 (cn : Int), .int .i64 (ch : Int)] := hS0.turn hx2.to.turn HXF1.out
    refine HK1.out _ _ ⟨hS2, ?_⟩
    clear HK1 haf hS0
    try simp only [Act.put, List.setIfInBounds_toArray, List.set_cons_zero, List.set_cons_succ]
    have HX2 := Lib.hid (AfterX.pre HTE.out.hin HD.out hx2)
    clear hx2
    refine alw_take (i := 11) (v := .tuple #[.int .i64 ((tget k t).getD 0), .bool (tget k t).isSome]) rfl (by kernel_rfl) (by kernel_rfl) (fun _ _ _ h => h) (.inl ⟨by rfl, fun W hW => exec_move rfl rfl⟩) hS2 ?_
    simp only [Act.put, List.setIfInBounds_toArray, List.set_cons_zero, List.set_cons_succ]
    refine alw_take (i := 12) (v := .int .i64 ((tget k t).getD 0)) rfl (by kernel_rfl) (by kernel_rfl) (fun _ _ _ h => h) (.inl ⟨by rfl, fun W hW => ix_extract rfl rfl rfl⟩) hS2 ?_
    simp only [Act.put, List.setIfInBounds_toArray, List.set_cons_zero, List.set_cons_succ]
    refine alw_take (i := 13) (v := .bool (tget k t).isSome) rfl (by kernel_rfl) (by kernel_rfl) (fun _ _ _ h => h) (.inl ⟨by rfl, fun W hW => ix_extract rfl rfl rfl⟩) hS2 ?_
    simp only [Act.put, List.setIfInBounds_toArray, List.set_cons_zero, List.set_cons_succ]
    refine alw_take (i := 14) (v := .int .i64 ((tget k t).getD 0)) rfl (by kernel_rfl) (by kernel_rfl) (fun _ _ _ h => h) (.inl ⟨by rfl, fun W hW => gx_assign rfl rfl⟩) hS2 ?_
    simp only [Act.put, List.setIfInBounds_toArray, List.set_cons_zero, List.set_cons_succ]
    refine alw_take (i := 15) (v := .bool (tget k t).isSome) rfl (by kernel_rfl) (by kernel_rfl) (fun _ _ _ h => h) (.inl ⟨by rfl, fun W hW => gx_assign rfl rfl⟩) hS2 ?_
    simp only [Act.put, List.setIfInBounds_toArray, List.set_cons_zero, List.set_cons_succ]
    refine alw_done rfl ?_
    refine NoPanic.normal ?_
    try simp only [Act.put, List.setIfInBounds_toArray, List.set_cons_zero, List.set_cons_succ]
    have HB2 := Lib.hid hS2
    clear hS2 HD HPW
    obtain ⟨tf, tn⟩ := tput_ok (k := k) (n := v) rfl HO.out.1 HTE.out.nb HSR.out
    have tp := tput_pos (k := k) (v := v) rfl HO.out.1 HTE.out.nb HSR.out HLO.out
    rw [HFL.out] at tf
    have HTG := Lib.hid (show tget k t = lget k l from (tget_ok HTE.out.nb HSR.out).trans (by rw [HFL.out]))
    have HXT := Lib.hid (HX1.out.to HX2.out.to)
    obtain ⟨T, hT⟩ : ∃ T, T = tput k v M t := ⟨_, rfl⟩
    rw [← hT] at tf tn tp HX2
    have HTF := Lib.hid tf
    have HTN := Lib.hid tn
    have HTP := Lib.hid tp
    obtain ⟨vp, vk, ks, hp2⟩ := HX2.out.tr.root
    have hsl : Srt l := by have h := HSR.out; rwa [HFL.out] at h
    have HSL := Lib.hid hsl
    have HLN := Lib.hid (lput_len (k := k) (v := v) hsl)
    obtain ⟨A2, c2, e9, _, _, _, _⟩ := (HXT.out.in_.at_ hp2).prs.form
    obtain ⟨n2, hn2⟩ : ∃ n, n = T.ps.length := ⟨_, rfl⟩
    replace e9 := e9.trans (show _ = Value.slice A2 n2 c2 from by rw [List.length_map, hn2])
    subst e9
    have HP2 := Lib.hid hp2
    have HN2 := Lib.hid hn2
    have z1 : (n2 : Int) ≤ 65 := by have := tn.hi; have := HO.out.2; omega
    clear tf tn tp hT hp2 hn2 hsl
    go_upto_region 4 with fail
    refine wp_region_alw (fun W => Blk W x 58 #[.int .i64 (M : Int), .pointer (some ⟨p, 0, none⟩), .int .i64 (cn : Int), .int .i64 (ch : Int)] ∧ Blk W p 62 #[.slice A2 n2 c2, vk]) (by kernel_rfl) ?_
    have HD := Lib.hid ((Turn.refl nowhere w2).drew)
    have hS0 : Blk w2.drew x 58 #[.int .i64 (M : Int), .pointer (some ⟨p, 0, none⟩), .int .i64 (cn : Int), .int .i64 (ch : Int)] ∧ Blk w2.drew p 62 #[.slice A2 n2 c2, vk] := ⟨HB2.out, (HXT.out.in_.at_ HP2.out).blk⟩
    refine alw_take (i := 0) (v := .pointer (some ⟨x, 0, none⟩)) rfl (by kernel_rfl) (by kernel_rfl) (fun _ _ _ h => h) (.inl ⟨by rfl, fun W hW => exec_move rfl rfl⟩) hS0 ?_
    simp only [Act.put, List.setIfInBounds_toArray, List.set_cons_zero, List.set_cons_succ]
    refine alw_take (i := 1) (v := .pointer (some ⟨x, 0, none⟩)) rfl (by kernel_rfl) (by kernel_rfl) (fun _ _ _ h => h) (.inl ⟨by rfl, fun W hW => exec_nil rfl rfl⟩) hS0 ?_
    simp only [Act.put, List.setIfInBounds_toArray, List.set_cons_zero, List.set_cons_succ]
    refine alw_take (i := 2) (v := .pointer (some ⟨x, 1, none⟩)) rfl (by kernel_rfl) (by kernel_rfl) (fun _ _ _ h => h) (.inl ⟨by rfl, fun W hW => exec_field (off := 0) (d := 1) rfl rfl (by kernel_rfl)⟩) hS0 ?_
    simp only [Act.put, List.setIfInBounds_toArray, List.set_cons_zero, List.set_cons_succ]
    refine alw_take (i := 3) (v := .pointer (some ⟨p, 0, none⟩)) rfl (by kernel_rfl) (by kernel_rfl) (fun _ _ _ h => h) (.inl ⟨by rfl, fun W hW => exec_load1 rfl rfl (by kernel_rfl) (hW.1.cell 1)⟩) hS0 ?_
    simp only [Act.put, List.setIfInBounds_toArray, List.set_cons_zero, List.set_cons_succ]
    refine alw_take (i := 4) (v := .pointer (some ⟨p, 0, none⟩)) rfl (by kernel_rfl) (by kernel_rfl) (fun _ _ _ h => h) (.inl ⟨by rfl, fun W hW => exec_nil rfl rfl⟩) hS0 ?_
    simp only [Act.put, List.setIfInBounds_toArray, List.set_cons_zero, List.set_cons_succ]
    refine alw_take (i := 5) (v := .pointer (some ⟨p, 0, none⟩)) rfl (by kernel_rfl) (by kernel_rfl) (fun _ _ _ h => h) (.inl ⟨by rfl, fun W hW => exec_field (off := 0) (d := 0) rfl rfl (by kernel_rfl)⟩) hS0 ?_
    simp only [Act.put, List.setIfInBounds_toArray, List.set_cons_zero, List.set_cons_succ]
    refine alw_take (i := 6) (v := .slice A2 n2 c2) rfl (by kernel_rfl) (by kernel_rfl) (fun _ _ _ h => h) (.inl ⟨by rfl, fun W hW => exec_load1 rfl rfl (by kernel_rfl) (hW.2.cell 0)⟩) hS0 ?_
    simp only [Act.put, List.setIfInBounds_toArray, List.set_cons_zero, List.set_cons_succ]
    refine alw_take (i := 7) (v := .int .i64 (n2 : Int)) rfl (by kernel_rfl) (by kernel_rfl) (fun _ _ _ h => h) (.inl ⟨by rfl, fun W hW => gx_len rfl rfl Try.underlying59⟩) hS0 ?_
    simp only [Act.put, List.setIfInBounds_toArray, List.set_cons_zero, List.set_cons_succ]
    refine alw_take (i := 8) (v := .pointer (some ⟨x, 0, none⟩)) rfl (by kernel_rfl) (by kernel_rfl) (fun _ _ _ h => h) (.inl ⟨by rfl, fun W hW => exec_move rfl rfl⟩) hS0 ?_
    simp only [Act.put, List.setIfInBounds_toArray, List.set_cons_zero, List.set_cons_succ]
    refine alw_take (i := 9) (v := .pointer (some ⟨x, 0, none⟩)) rfl (by kernel_rfl) (by kernel_rfl) (fun _ _ _ h => h) (.inl ⟨by rfl, fun W hW => exec_nil rfl rfl⟩) hS0 ?_
    simp only [Act.put, List.setIfInBounds_toArray, List.set_cons_zero, List.set_cons_succ]
    refine alw_take (i := 10) (v := .pointer (some ⟨x, 0, none⟩)) rfl (by kernel_rfl) (by kernel_rfl) (fun _ _ _ h => h) (.inl ⟨by rfl, fun W hW => exec_field (off := 0) (d := 0) rfl rfl (by kernel_rfl)⟩) hS0 ?_
    simp only [Act.put, List.setIfInBounds_toArray, List.set_cons_zero, List.set_cons_succ]
    refine alw_take (i := 11) (v := .int .i64 (M : Int)) rfl (by kernel_rfl) (by kernel_rfl) (fun _ _ _ h => h) (.inl ⟨by rfl, fun W hW => exec_load1 rfl rfl (by kernel_rfl) (hW.1.cell 0)⟩) hS0 ?_
    simp only [Act.put, List.setIfInBounds_toArray, List.set_cons_zero, List.set_cons_succ]
    have HX3 := Lib.hid (HXT.out.still HD.out)
    have HB3 := Lib.hid hS0.1
    have HXA := Lib.hid (HX2.out.post HD.out)
    by_cases hov : M < n2
    · refine alw_take (i := 12) (v := .bool true) rfl (by kernel_rfl) (by kernel_rfl) (fun _ _ _ h => h) (.inl ⟨by rfl, fun W hW => ix_gtr rfl rfl rfl (decide_eq_true (by omega))⟩) hS0 ?_
      simp only [Act.put, List.setIfInBounds_toArray, List.set_cons_zero, List.set_cons_succ]
      refine alw_done rfl ?_
      refine NoPanic.normal ?_
      try simp only [Act.put, List.setIfInBounds_toArray, List.set_cons_zero, List.set_cons_succ]
      have HOV := Lib.hid hov
      clear hS0 hov
      obtain ⟨w3, hw3⟩ : ∃ q, q = w2.drew := ⟨_, rfl⟩
      rw [← hw3] at HX3 HB3 HXA ⊢
      clear hw3 HD
      obtain ⟨y, hy⟩ : ∃ y, T.ps[T.ps.length / 2]? = some y := ⟨_, List.getElem?_eq_getElem (show T.ps.length / 2 < T.ps.length by have := HTP.out; omega)⟩
      have HY := Lib.hid (show splitM T = y from by unfold splitM; rw [hy]; rfl)
      have hks2 : ks = [] ∨ ks.length = T.ps.length + 1 := by
        have h1 := HXA.out.tr
        have h2 := HTN.out
        have h3 : Is H2 p T.ps ks := ⟨_, _, HP2.out⟩
        clear HX2 HXA HTG HTF HTP HTN HSR HFL HTE HLO HY hy HN2
        cases d with
        | zero => exact .inl (h3.inj h1.1).2
        | succ d =>
          obtain ⟨ks', F', g1, g2, _⟩ := h1
          obtain ⟨_, e⟩ := h3.inj g1
          right
          rw [e, g2.len]
          exact h2.2.2.1
      have HSW := Lib.hid (split_walk HX3.out.in_ ⟨_, _, HP2.out⟩ hy (by have := HN2.out; omega) hks2)
      clear hy hks2
      go_upto_region 5 with fail
      refine wp_region_lit ?_
      refine wpList_run (v := .pointer (some ⟨x, 0, none⟩)) (wanted_none rfl) (exec_move rfl rfl) ?_
      simp only [Act.put, List.setIfInBounds_toArray, List.set_cons_zero, List.set_cons_succ]
      refine wpList_run (v := .pointer (some ⟨x, 0, none⟩)) (wanted_none rfl) (exec_nil rfl rfl) ?_
      simp only [Act.put, List.setIfInBounds_toArray, List.set_cons_zero, List.set_cons_succ]
      refine wpList_run (v := .pointer (some ⟨x, 1, none⟩)) (wanted_none rfl) (exec_field (off := 0) (d := 1) rfl rfl (by kernel_rfl)) ?_
      simp only [Act.put, List.setIfInBounds_toArray, List.set_cons_zero, List.set_cons_succ]
      refine wpList_run (v := .pointer (some ⟨p, 0, none⟩)) (wanted_none rfl) (exec_load1 rfl rfl (by kernel_rfl) (HB3.out.cell 1)) ?_
      simp only [Act.put, List.setIfInBounds_toArray, List.set_cons_zero, List.set_cons_succ]
      refine wpList_run (v := .pointer (some ⟨p, 0, none⟩)) (wanted_none rfl) (gx_assign rfl rfl) ?_
      simp only [Act.put, List.setIfInBounds_toArray, List.set_cons_zero, List.set_cons_succ]
      go_upto_region 6 with fail
      refine wp_region_lit ?_
      refine wpList_run (v := .pointer (some ⟨p, 0, none⟩)) (wanted_none rfl) (exec_move rfl rfl) ?_
      simp only [Act.put, List.setIfInBounds_toArray, List.set_cons_zero, List.set_cons_succ]
      refine wpList_op rfl fun K9 HK9 => ?_
      go_wp2_with fail
      refine (HSW.out).mono ?_
      rintro e w4 ⟨r, H4, rfl, hgr, hto, jx, jr, hs4⟩
      refine HK9.out _ _ ?_
      clear HK9
      try simp only [Act.put, List.setIfInBounds_toArray, List.set_cons_zero, List.set_cons_succ]
      have HX4 := Lib.hid (HX3.out.to hto)
      have HB4 := Lib.hid (HB3.out.turn hto.turn (HX3.out.in_.off HB3.out))
      have hnG : Nd1 (r :: F2) := fun a => by
        have h1 := HXA.out.nd a
        simp only [List.count_cons]
        split
        · rename_i e
          have e : r = a := by simpa using e
          have : F2.count a = 0 := List.count_eq_zero.2 fun hm => by
            have := TrAt.lt HX3.out.in_ HXA.out.tr a hm
            omega
          omega
        · omega
      obtain ⟨Gl, Gr, t1, t2, t3⟩ := split_tree (n := r) HX3.out.in_ HXA.out.tr ⟨_, _, HP2.out⟩ hnG hgr jx jr (fun q hq => hs4 q fun e => hq (by rcases e with e | e; exact .inr (.inl e); exact .inr (.inr e)))
      have HGL := Lib.hid t1
      have HGRT := Lib.hid t2
      have HGC := Lib.hid t3
      have HNF := Lib.hid hnG
      have HLT4 := Lib.hid (fun q (hq : q ∈ F2) => TrAt.lt HX3.out.in_ HXA.out.tr q hq)
      have HGR := Lib.hid hgr
      have HSZ := Lib.hid hto.turn.size
      clear hto jx jr hs4 hgr t1 t2 t3 hnG
      refine wpList_run (v := .tuple #[.agg (encP y).toArray, .pointer (some ⟨r, 0, none⟩)]) (wanted_none rfl) (exec_move rfl rfl) ?_
      simp only [Act.put, List.setIfInBounds_toArray, List.set_cons_zero, List.set_cons_succ]
      refine wpList_run (v := .agg (encP y).toArray) (wanted_none rfl) (ix_extract rfl rfl rfl) ?_
      simp only [Act.put, List.setIfInBounds_toArray, List.set_cons_zero, List.set_cons_succ]
      refine wpList_run (v := .pointer (some ⟨r, 0, none⟩)) (wanted_none rfl) (ix_extract rfl rfl rfl) ?_
      simp only [Act.put, List.setIfInBounds_toArray, List.set_cons_zero, List.set_cons_succ]
      refine wpList_new 65 (.tmp 11) (.tmp 57) (encP y).toArray (wanted_none rfl) rfl (zero_pair _) rfl (wanted_none rfl) rfl rfl rfl rfl (by rw [size_pair]; rfl) (fun v hv => encP_one y v (by simpa using hv)) ?_
      intro w5 g5 hge hb5 ht5
      simp only [Act.put, List.setIfInBounds_toArray, List.set_cons_zero, List.set_cons_succ]
      have HB5 := Lib.hid hb5
      have HX5 := Lib.hid (HX4.out.still ht5)
      have HBX5 := Lib.hid (HB4.out.turn ht5 (fun e => e))
      have HT5 := Lib.hid ht5
      clear hge hb5 ht5
      refine wpList_run (v := .pointer (some ⟨r, 0, none⟩)) (wanted_none rfl) (gx_assign rfl rfl) ?_
      simp only [Act.put, List.setIfInBounds_toArray, List.set_cons_zero, List.set_cons_succ]
      go_upto_region 7 with fail
      refine wp_region_lit ?_
      refine wpList_run (v := .pointer (some ⟨x, 0, none⟩)) (wanted_none rfl) (exec_move rfl rfl) ?_
      simp only [Act.put, List.setIfInBounds_toArray, List.set_cons_zero, List.set_cons_succ]
      refine wpList_run (v := .agg (encP y).toArray) (wanted_none rfl) (gx_loads rfl rfl (blk_range HB5.out) Try.underlying65 rfl (by rw [size_pair]; rfl)) ?_
      simp only [Act.put, List.setIfInBounds_toArray, List.set_cons_zero, List.set_cons_succ]
      have hb2 := Blk.new w5 65 (encP y).toArray
      have ht2 := (Turn.refl nowhere w5).alloc (.cells (encP y).toArray 65)
      obtain ⟨g6, hg2⟩ : ∃ q, q = w5.heap.size := ⟨_, rfl⟩
      have hbld := build_oneP y w5
      rw [← hg2] at hb2 hbld
      generalize w5.alloc (.cells (encP y).toArray 65) = w6 at *
      refine wpList_run (v := .slice (some ⟨g6, 0, none⟩) 1 1) (w' := w6) (wanted_none rfl) (exec_buildSlice1 rfl rfl hbld) ?_
      simp only [Act.put, List.setIfInBounds_toArray, List.set_cons_zero, List.set_cons_succ]
      have HG6 := Lib.hid hb2
      have HT6 := Lib.hid ht2
      have HE6 := Lib.hid hg2
      clear hb2 ht2 hg2 hbld
      refine wpList_run (v := .pointer (some ⟨p, 0, none⟩)) (wanted_none rfl) (exec_move rfl rfl) ?_
      simp only [Act.put, List.setIfInBounds_toArray, List.set_cons_zero, List.set_cons_succ]
      refine wpList_run (v := .pointer (some ⟨r, 0, none⟩)) (wanted_none rfl) (exec_move rfl rfl) ?_
      simp only [Act.put, List.setIfInBounds_toArray, List.set_cons_zero, List.set_cons_succ]
      have hb2 := Blk.new w6 56 #[.pointer (some ⟨p, 0, none⟩), .pointer (some ⟨r, 0, none⟩)]
      have ht2 := (Turn.refl nowhere w6).alloc (.cells #[.pointer (some ⟨p, 0, none⟩), .pointer (some ⟨r, 0, none⟩)] 56)
      obtain ⟨g7, hg2⟩ : ∃ q, q = w6.heap.size := ⟨_, rfl⟩
      have hbld := build_twoK p r w6
      rw [← hg2] at hb2 hbld
      generalize w6.alloc (.cells #[.pointer (some ⟨p, 0, none⟩), .pointer (some ⟨r, 0, none⟩)] 56) = w7 at *
      refine wpList_run (v := .slice (some ⟨g7, 0, none⟩) 2 2) (w' := w7) (wanted_none rfl) (bx_slice2 rfl rfl rfl hbld) ?_
      simp only [Act.put, List.setIfInBounds_toArray, List.set_cons_zero, List.set_cons_succ]
      have HG7 := Lib.hid hb2
      have HT7 := Lib.hid ht2
      have HE7 := Lib.hid hg2
      clear hb2 ht2 hg2 hbld
      refine wpList_run (v := .agg #[.slice (some ⟨g6, 0, none⟩) 1 1, .slice (some ⟨g7, 0, none⟩) 2 2]) (wanted_none rfl) (gx_build2 rfl rfl rfl (build_node2 _ _ _ _ _ _ _)) ?_
      simp only [Act.put, List.setIfInBounds_toArray, List.set_cons_zero, List.set_cons_succ]
      have hb2 := Blk.new w7 62 #[.slice (some ⟨g6, 0, none⟩) 1 1, .slice (some ⟨g7, 0, none⟩) 2 2]
      have ht2 := (Turn.refl nowhere w7).alloc (.cells #[.slice (some ⟨g6, 0, none⟩) 1 1, .slice (some ⟨g7, 0, none⟩) 2 2] 62)
      have hbx := box_node (some ⟨g6, 0, none⟩) 1 1 (some ⟨g7, 0, none⟩) 2 2 w7
      obtain ⟨g8, hg2⟩ : ∃ q, q = w7.heap.size := ⟨_, rfl⟩
      rw [← hg2] at hb2 hbx
      generalize w7.alloc (.cells #[.slice (some ⟨g6, 0, none⟩) 1 1, .slice (some ⟨g7, 0, none⟩) 2 2] 62) = w8 at *
      refine wpList_run (v := .pointer (some ⟨g8, 0, none⟩)) (w' := w8) (wanted_none rfl) (gx_box rfl rfl hbx) ?_
      simp only [Act.put, List.setIfInBounds_toArray, List.set_cons_zero, List.set_cons_succ]
      have HT58 := Lib.hid (HT6.out.trans (HT7.out.trans ht2 fun _ _ e => e) fun _ _ e => e)
      have HG8 := Lib.hid (show w5.heap.size ≤ g8 from by have := HT6.out.size; have := HT7.out.size; omega)
      have HNW := Lib.hid (HX5.out.in_.new (nd := ⟨[y], [p, r], .slice (some ⟨g6, 0, none⟩) 1 1, .slice (some ⟨g7, 0, none⟩) 2 2⟩) HT58.out HG8.out
        ⟨hb2, (row_one (HG6.out.turn (HT7.out.trans ht2 fun _ _ e => e) fun e => e)), (row_twoK (HG7.out.turn ht2 fun e => e))⟩ (fun b hb => by have hb : some g6 = some b := hb; have := Option.some.inj hb; have := HE6.out; omega) (fun b hb => by have hb : some g7 = some b := hb; have := Option.some.inj hb; have := HE7.out; have := HT6.out.size; omega))
      have HB8 := Lib.hid (HBX5.out.turn HT58.out fun e => e)
      clear hb2 ht2 hg2 hbx
      obtain ⟨H8, hH8⟩ : ∃ q, q = up H4 g8 ⟨[y], [p, r], .slice (some ⟨g6, 0, none⟩) 1 1, .slice (some ⟨g7, 0, none⟩) 2 2⟩ := ⟨_, rfl⟩
      have HIS8 := Lib.hid (show Is H8 g8 [y] [p, r] from by rw [hH8]; exact ⟨_, _, up_same _ _ _⟩)
      have HSM8 := Lib.hid (show Same H4 H8 (fun q => q = g8) from by rw [hH8]; exact same_up _ _ _)
      rw [← hH8] at HNW
      clear hH8
      have HX8 := Lib.hid (HX5.out.to HNW.out)
      refine wpList_run (v := .pointer (some ⟨x, 0, none⟩)) (wanted_none rfl) (exec_nil rfl rfl) ?_
      simp only [Act.put, List.setIfInBounds_toArray, List.set_cons_zero, List.set_cons_succ]
      refine wpList_run (v := .pointer (some ⟨x, 1, none⟩)) (wanted_none rfl) (exec_field (off := 0) (d := 1) rfl rfl (by kernel_rfl)) ?_
      simp only [Act.put, List.setIfInBounds_toArray, List.set_cons_zero, List.set_cons_succ]
      refine wpList_storeU 1 (.pointer (some ⟨g8, 0, none⟩)) (wanted_none rfl) 56 _ _ rfl HB8.out rfl rfl (by show 1 < 4; omega) ⟨rfl, rfl⟩ size_ptr ?_
      intro w9 hb9 ht9
      simp only [Act.put, List.setIfInBounds_toArray, List.set_cons_zero, List.set_cons_succ]
      have HX9 := Lib.hid (HX8.out.st ht9 (HX8.out.in_.off HB8.out))
      have HB9 := Lib.hid (show Blk w9 x 58 #[.int .i64 (M : Int), .pointer (some ⟨g8, 0, none⟩), .int .i64 (cn : Int), .int .i64 (ch : Int)] from hb9)
      clear hb9 ht9
      have hg8 : ∀ q, q ∈ F2 ∨ q = r → q ≠ g8 := fun q hq e => by
        have := HG8.out
        have := HT5.out.size
        have := HSZ.out
        rcases hq with h | h
        · have := HLT4.out q h; omega
        · have := HX4.out.in_
          have hr : r < w4.heap.size := TrAt.lt HX4.out.in_ HGRT.out r HGRT.out.mem
          omega
      have hin : ∀ q ∈ Gl ++ Gr, q ∈ F2 ∨ q = r := fun q hq => by
        have h1 := cnt_mem hq
        rw [HGC.out] at h1
        by_cases e : q = r
        · exact .inr e
        · have : ([r] : List Nat).count q = 0 := List.count_eq_zero.2 (by simp [e])
          exact .inl (List.count_pos_iff.1 (by omega))
      have HTOP := Lib.hid (show Top H8 M (.pointer (some ⟨g8, 0, none⟩)) (lput k v l) from .inr ⟨d + 1, g8, nodeT [y] [splitL T, splitR T], g8 :: (Gl ++ (Gr ++ [])), rfl,
        ⟨[p, r], Gl ++ (Gr ++ []), HIS8.out, ⟨Gl, Gr ++ [], rfl, HGL.out.same HSM8.out fun q hq e => hg8 q (hin q (List.mem_append_left _ hq)) e, ⟨Gr, [], rfl, HGRT.out.same HSM8.out fun q hq e => hg8 q (hin q (List.mem_append_right _ hq)) e, rfl⟩⟩, rfl⟩,
        fun a => by
          have h1 := HGC.out a
          have h2 := HNF.out a
          have h3 : 1 ≤ (Gl ++ Gr).count a → a ≠ g8 := fun h => hg8 a (hin a (List.count_pos_iff.1 h))
          simp only [List.count_append, List.count_cons, List.count_nil] at h1 h2 h3 ⊢
          by_cases e : g8 = a
          · have : ¬ 1 ≤ Gl.count a + Gr.count a := fun h => h3 h e.symm
            simp only [e, beq_self_eq_true, if_true]
            omega
          · simp only [show (g8 == a) = false from by simpa using e, Bool.false_eq_true, if_false]
            omega,
        by
          obtain ⟨n1, n2'⟩ := split_nd HTN.out (show T.ps.length = M + 1 from by have := HTN.out.hi; have := HN2.out; have := HOV.out; omega) rfl (by have := HO.out.1; omega)
          refine ⟨Nat.le_refl _, by show 1 ≤ M; have := HO.out.1; omega, rfl, fun c hc => ?_⟩
          have hc : c ∈ [splitL T, splitR T] := hc
          simp at hc
          rcases hc with rfl | rfl
          · exact n1
          · exact n2',
        by
          show Srt (flat (nodeT [y] [splitL T, splitR T]))
          have h : flat (nodeT [y] [splitL T, splitR T]) = flat T := by
            rw [split_flat HTN.out (by have := HTP.out; omega), HY.out]
            show inter ([splitL T, splitR T].map flat) [y] = _
            simp [inter]
          rw [h, HTF.out]
          exact lput_srt HSL.out,
        by
          have h : flat (nodeT [y] [splitL T, splitR T]) = flat T := by
            rw [split_flat HTN.out (by have := HTP.out; omega), HY.out]
            show inter ([splitL T, splitR T].map flat) [y] = _
            simp [inter]
          rw [h, HTF.out]⟩)
      clear hg8 hin
      cases hg : tget k t with
      | some u =>
        have HRET := Lib.hid (show retV (lget k l) = .tuple #[.int .i64 u, .bool true] from by rw [← HTG.out, hg]; rfl)
        have HLE := Lib.hid (show (lput k v l).length = cn from by rw [HLN.out, ← HTG.out, hg, HCE.out]; rfl)
        clear hg
        go_upto_region 8 with fail
        refine wp_region_lit ?_
        refine wpList_run (v := .bool true) (wanted_none rfl) (exec_move rfl rfl) ?_
        simp only [Act.put, List.setIfInBounds_toArray, List.set_cons_zero, List.set_cons_succ]
        refine wpList_run (v := .bool false) (wanted_none rfl) (gx_not rfl rfl rfl) ?_
        simp only [Act.put, List.setIfInBounds_toArray, List.set_cons_zero, List.set_cons_succ]
        go_upto_region 11 with fail
        refine wp_region_lit ?_
        refine wpList_run (v := .int .i64 u) (wanted_none rfl) (exec_move rfl rfl) ?_
        simp only [Act.put, List.setIfInBounds_toArray, List.set_cons_zero, List.set_cons_succ]
        refine wpList_run (v := .bool true) (wanted_none rfl) (exec_move rfl rfl) ?_
        simp only [Act.put, List.setIfInBounds_toArray, List.set_cons_zero, List.set_cons_succ]
        refine wpList_run (v := .int .i64 u) (wanted_none rfl) (gx_assign rfl rfl) ?_
        simp only [Act.put, List.setIfInBounds_toArray, List.set_cons_zero, List.set_cons_succ]
        refine wpList_run (v := .bool true) (wanted_none rfl) (gx_assign rfl rfl) ?_
        simp only [Act.put, List.setIfInBounds_toArray, List.set_cons_zero, List.set_cons_succ]
        go_wp2_with fail
        go_ret2
        rw [HRET.out]
        exact ⟨rfl, HX9.out.idx ⟨HX9.out.in_, HO.out, ⟨.pointer (some ⟨g8, 0, none⟩), ch, by rw [HLE.out]; exact HB9.out, by have := HCN.out; omega, HTOP.out⟩, by rw [HLE.out]; have := HCN.out; have := HCE.out; omega, by have := HCN.out; omega⟩⟩
      | none =>
        have HRET := Lib.hid (show retV (lget k l) = .tuple #[.int .i64 0, .bool false] from by rw [← HTG.out, hg]; rfl)
        have HLE := Lib.hid (show (lput k v l).length = cn + 1 from by rw [HLN.out, ← HTG.out, hg, HCE.out]; rfl)
        clear hg
        go_upto_region 8 with fail
        refine wp_region_lit ?_
        refine wpList_run (v := .bool false) (wanted_none rfl) (exec_move rfl rfl) ?_
        simp only [Act.put, List.setIfInBounds_toArray, List.set_cons_zero, List.set_cons_succ]
        refine wpList_run (v := .bool true) (wanted_none rfl) (gx_not rfl rfl rfl) ?_
        simp only [Act.put, List.setIfInBounds_toArray, List.set_cons_zero, List.set_cons_succ]
        go_upto_region 9 with fail
        refine wp_region_lit ?_
        refine wpList_run (v := .pointer (some ⟨x, 0, none⟩)) (wanted_none rfl) (exec_move rfl rfl) ?_
        simp only [Act.put, List.setIfInBounds_toArray, List.set_cons_zero, List.set_cons_succ]
        refine wpList_run (v := .pointer (some ⟨x, 0, none⟩)) (wanted_none rfl) (exec_nil rfl rfl) ?_
        simp only [Act.put, List.setIfInBounds_toArray, List.set_cons_zero, List.set_cons_succ]
        refine wpList_run (v := .pointer (some ⟨x, 2, none⟩)) (wanted_none rfl) (exec_field (off := 0) (d := 2) rfl rfl (by kernel_rfl)) ?_
        simp only [Act.put, List.setIfInBounds_toArray, List.set_cons_zero, List.set_cons_succ]
        refine wpList_run (v := .int .i64 (cn : Int)) (wanted_none rfl) (exec_load1 rfl rfl (by kernel_rfl) (HB9.out.cell 2)) ?_
        simp only [Act.put, List.setIfInBounds_toArray, List.set_cons_zero, List.set_cons_succ]
        refine wpList_run (v := .int .i64 ((cn + 1 : Nat) : Int)) (wanted_none rfl) (ix_add rfl rfl rfl (by omega) (by omega)) ?_
        simp only [Act.put, List.setIfInBounds_toArray, List.set_cons_zero, List.set_cons_succ]
        refine wpList_run (v := .pointer (some ⟨x, 0, none⟩)) (wanted_none rfl) (exec_nil rfl rfl) ?_
        simp only [Act.put, List.setIfInBounds_toArray, List.set_cons_zero, List.set_cons_succ]
        refine wpList_run (v := .pointer (some ⟨x, 2, none⟩)) (wanted_none rfl) (exec_field (off := 0) (d := 2) rfl rfl (by kernel_rfl)) ?_
        simp only [Act.put, List.setIfInBounds_toArray, List.set_cons_zero, List.set_cons_succ]
        refine wpList_storeU 2 (.int .i64 ((cn + 1 : Nat) : Int)) (wanted_none rfl) 3 _ _ rfl HB9.out rfl rfl (by show 2 < 4; omega) ⟨rfl, rfl⟩ (by kernel_rfl) ?_
        intro w10 hb10 ht10
        simp only [Act.put, List.setIfInBounds_toArray, List.set_cons_zero, List.set_cons_succ]
        have HX10 := Lib.hid (HX9.out.st ht10 (HX9.out.in_.off HB9.out))
        have HB10 := Lib.hid (show Blk w10 x 58 #[.int .i64 (M : Int), .pointer (some ⟨g8, 0, none⟩), .int .i64 ((cn + 1 : Nat) : Int), .int .i64 (ch : Int)] from hb10)
        clear hb10 ht10
        go_upto_region 10 with fail
        refine wp_region_lit ?_
        refine wpList_run (v := .pointer (some ⟨x, 0, none⟩)) (wanted_none rfl) (exec_move rfl rfl) ?_
        simp only [Act.put, List.setIfInBounds_toArray, List.set_cons_zero, List.set_cons_succ]
        refine wpList_run (v := .pointer (some ⟨x, 0, none⟩)) (wanted_none rfl) (exec_nil rfl rfl) ?_
        simp only [Act.put, List.setIfInBounds_toArray, List.set_cons_zero, List.set_cons_succ]
        refine wpList_run (v := .pointer (some ⟨x, 3, none⟩)) (wanted_none rfl) (exec_field (off := 0) (d := 3) rfl rfl (by kernel_rfl)) ?_
        simp only [Act.put, List.setIfInBounds_toArray, List.set_cons_zero, List.set_cons_succ]
        refine wpList_run (v := .int .i64 (ch : Int)) (wanted_none rfl) (exec_load1 rfl rfl (by kernel_rfl) (HB10.out.cell 3)) ?_
        simp only [Act.put, List.setIfInBounds_toArray, List.set_cons_zero, List.set_cons_succ]
        refine wpList_run (v := .int .i64 ((ch + 1 : Nat) : Int)) (wanted_none rfl) (ix_add rfl rfl rfl (by omega) (by omega)) ?_
        simp only [Act.put, List.setIfInBounds_toArray, List.set_cons_zero, List.set_cons_succ]
        refine wpList_run (v := .pointer (some ⟨x, 0, none⟩)) (wanted_none rfl) (exec_nil rfl rfl) ?_
        simp only [Act.put, List.setIfInBounds_toArray, List.set_cons_zero, List.set_cons_succ]
        refine wpList_run (v := .pointer (some ⟨x, 3, none⟩)) (wanted_none rfl) (exec_field (off := 0) (d := 3) rfl rfl (by kernel_rfl)) ?_
        simp only [Act.put, List.setIfInBounds_toArray, List.set_cons_zero, List.set_cons_succ]
        refine wpList_storeU 3 (.int .i64 ((ch + 1 : Nat) : Int)) (wanted_none rfl) 3 _ _ rfl HB10.out rfl rfl (by show 3 < 4; omega) ⟨rfl, rfl⟩ (by kernel_rfl) ?_
        intro w11 hb11 ht11
        simp only [Act.put, List.setIfInBounds_toArray, List.set_cons_zero, List.set_cons_succ]
        have HX11 := Lib.hid (HX10.out.st ht11 (HX10.out.in_.off HB10.out))
        have HB11 := Lib.hid (show Blk w11 x 58 #[.int .i64 (M : Int), .pointer (some ⟨g8, 0, none⟩), .int .i64 ((cn + 1 : Nat) : Int), .int .i64 ((ch + 1 : Nat) : Int)] from hb11)
        clear hb11 ht11
        go_upto_region 11 with fail
        refine wp_region_lit ?_
        refine wpList_run (v := .int .i64 0) (wanted_none rfl) (exec_move rfl rfl) ?_
        simp only [Act.put, List.setIfInBounds_toArray, List.set_cons_zero, List.set_cons_succ]
        refine wpList_run (v := .bool false) (wanted_none rfl) (exec_move rfl rfl) ?_
        simp only [Act.put, List.setIfInBounds_toArray, List.set_cons_zero, List.set_cons_succ]
        refine wpList_run (v := .int .i64 0) (wanted_none rfl) (gx_assign rfl rfl) ?_
        simp only [Act.put, List.setIfInBounds_toArray, List.set_cons_zero, List.set_cons_succ]
        refine wpList_run (v := .bool false) (wanted_none rfl) (gx_assign rfl rfl) ?_
        simp only [Act.put, List.setIfInBounds_toArray, List.set_cons_zero, List.set_cons_succ]
        go_wp2_with fail
        go_ret2
        rw [HRET.out]
        exact ⟨rfl, HX11.out.idx ⟨HX11.out.in_, HO.out, ⟨.pointer (some ⟨g8, 0, none⟩), ch + 1, by rw [HLE.out]; exact HB11.out, by have := HCN.out; omega, HTOP.out⟩, by rw [HLE.out]; have := HCN.out; have := HCE.out; omega, by have := HCN.out; omega⟩⟩
    · refine alw_take (i := 12) (v := .bool false) rfl (by kernel_rfl) (by kernel_rfl) (fun _ _ _ h => h) (.inl ⟨by rfl, fun W hW => ix_gtr rfl rfl rfl (decide_eq_false (by omega))⟩) hS0 ?_
      simp only [Act.put, List.setIfInBounds_toArray, List.set_cons_zero, List.set_cons_succ]
      refine alw_done rfl ?_
      refine NoPanic.normal ?_
      try simp only [Act.put, List.setIfInBounds_toArray, List.set_cons_zero, List.set_cons_succ]
      have HOV := Lib.hid hov
      clear hS0 hov
      obtain ⟨w9, hw3⟩ : ∃ q, q = w2.drew := ⟨_, rfl⟩
      rw [← hw3] at HX3 HB3 HXA ⊢
      clear hw3 HD
      have HX9 := HX3
      have HB9 := HB3
      have HTOP := Lib.hid (show Top H2 M (.pointer (some ⟨p, 0, none⟩)) (lput k v l) from .inr ⟨d, p, T, F2, rfl, HXA.out.tr, HXA.out.nd, HTN.out.mono HTP.out (by have := HN2.out; have := HOV.out; omega), by rw [HTF.out]; exact lput_srt HSL.out, HTF.out⟩)
      cases hg : tget k t with
      | some u =>
        have HRET := Lib.hid (show retV (lget k l) = .tuple #[.int .i64 u, .bool true] from by rw [← HTG.out, hg]; rfl)
        have HLE := Lib.hid (show (lput k v l).length = cn from by rw [HLN.out, ← HTG.out, hg, HCE.out]; rfl)
        clear hg
        go_upto_region 8 with fail
        refine wp_region_lit ?_
        refine wpList_run (v := .bool true) (wanted_none rfl) (exec_move rfl rfl) ?_
        simp only [Act.put, List.setIfInBounds_toArray, List.set_cons_zero, List.set_cons_succ]
        refine wpList_run (v := .bool false) (wanted_none rfl) (gx_not rfl rfl rfl) ?_
        simp only [Act.put, List.setIfInBounds_toArray, List.set_cons_zero, List.set_cons_succ]
        go_upto_region 11 with fail
        refine wp_region_lit ?_
        refine wpList_run (v := .int .i64 u) (wanted_none rfl) (exec_move rfl rfl) ?_
        simp only [Act.put, List.setIfInBounds_toArray, List.set_cons_zero, List.set_cons_succ]
        refine wpList_run (v := .bool true) (wanted_none rfl) (exec_move rfl rfl) ?_
        simp only [Act.put, List.setIfInBounds_toArray, List.set_cons_zero, List.set_cons_succ]
        refine wpList_run (v := .int .i64 u) (wanted_none rfl) (gx_assign rfl rfl) ?_
        simp only [Act.put, List.setIfInBounds_toArray, List.set_cons_zero, List.set_cons_succ]
        refine wpList_run (v := .bool true) (wanted_none rfl) (gx_assign rfl rfl) ?_
        simp only [Act.put, List.setIfInBounds_toArray, List.set_cons_zero, List.set_cons_succ]
        go_wp2_with fail
        go_ret2
        rw [HRET.out]
        exact ⟨rfl, HX9.out.idx ⟨HX9.out.in_, HO.out, ⟨.pointer (some ⟨p, 0, none⟩), ch, by rw [HLE.out]; exact HB9.out, by have := HCN.out; omega, HTOP.out⟩, by rw [HLE.out]; have := HCN.out; have := HCE.out; omega, by have := HCN.out; omega⟩⟩
      | none =>
        have HRET := Lib.hid (show retV (lget k l) = .tuple #[.int .i64 0, .bool false] from by rw [← HTG.out, hg]; rfl)
        have HLE := Lib.hid (show (lput k v l).length = cn + 1 from by rw [HLN.out, ← HTG.out, hg, HCE.out]; rfl)
        clear hg
        go_upto_region 8 with fail
        refine wp_region_lit ?_
        refine wpList_run (v := .bool false) (wanted_none rfl) (exec_move rfl rfl) ?_
        simp only [Act.put, List.setIfInBounds_toArray, List.set_cons_zero, List.set_cons_succ]
        refine wpList_run (v := .bool true) (wanted_none rfl) (gx_not rfl rfl rfl) ?_
        simp only [Act.put, List.setIfInBounds_toArray, List.set_cons_zero, List.set_cons_succ]
        go_upto_region 9 with fail
        refine wp_region_lit ?_
        refine wpList_run (v := .pointer (some ⟨x, 0, none⟩)) (wanted_none rfl) (exec_move rfl rfl) ?_
        simp only [Act.put, List.setIfInBounds_toArray, List.set_cons_zero, List.set_cons_succ]
        refine wpList_run (v := .pointer (some ⟨x, 0, none⟩)) (wanted_none rfl) (exec_nil rfl rfl) ?_
        simp only [Act.put, List.setIfInBounds_toArray, List.set_cons_zero, List.set_cons_succ]
        refine wpList_run (v := .pointer (some ⟨x, 2, none⟩)) (wanted_none rfl) (exec_field (off := 0) (d := 2) rfl rfl (by kernel_rfl)) ?_
        simp only [Act.put, List.setIfInBounds_toArray, List.set_cons_zero, List.set_cons_succ]
        refine wpList_run (v := .int .i64 (cn : Int)) (wanted_none rfl) (exec_load1 rfl rfl (by kernel_rfl) (HB9.out.cell 2)) ?_
        simp only [Act.put, List.setIfInBounds_toArray, List.set_cons_zero, List.set_cons_succ]
        refine wpList_run (v := .int .i64 ((cn + 1 : Nat) : Int)) (wanted_none rfl) (ix_add rfl rfl rfl (by omega) (by omega)) ?_
        simp only [Act.put, List.setIfInBounds_toArray, List.set_cons_zero, List.set_cons_succ]
        refine wpList_run (v := .pointer (some ⟨x, 0, none⟩)) (wanted_none rfl) (exec_nil rfl rfl) ?_
        simp only [Act.put, List.setIfInBounds_toArray, List.set_cons_zero, List.set_cons_succ]
        refine wpList_run (v := .pointer (some ⟨x, 2, none⟩)) (wanted_none rfl) (exec_field (off := 0) (d := 2) rfl rfl (by kernel_rfl)) ?_
        simp only [Act.put, List.setIfInBounds_toArray, List.set_cons_zero, List.set_cons_succ]
        refine wpList_storeU 2 (.int .i64 ((cn + 1 : Nat) : Int)) (wanted_none rfl) 3 _ _ rfl HB9.out rfl rfl (by show 2 < 4; omega) ⟨rfl, rfl⟩ (by kernel_rfl) ?_
        intro w10 hb10 ht10
        simp only [Act.put, List.setIfInBounds_toArray, List.set_cons_zero, List.set_cons_succ]
        have HX10 := Lib.hid (HX9.out.st ht10 (HX9.out.in_.off HB9.out))
        have HB10 := Lib.hid (show Blk w10 x 58 #[.int .i64 (M : Int), .pointer (some ⟨p, 0, none⟩), .int .i64 ((cn + 1 : Nat) : Int), .int .i64 (ch : Int)] from hb10)
        clear hb10 ht10
        go_upto_region 10 with fail
        refine wp_region_lit ?_
        refine wpList_run (v := .pointer (some ⟨x, 0, none⟩)) (wanted_none rfl) (exec_move rfl rfl) ?_
        simp only [Act.put, List.setIfInBounds_toArray, List.set_cons_zero, List.set_cons_succ]
        refine wpList_run (v := .pointer (some ⟨x, 0, none⟩)) (wanted_none rfl) (exec_nil rfl rfl) ?_
        simp only [Act.put, List.setIfInBounds_toArray, List.set_cons_zero, List.set_cons_succ]
        refine wpList_run (v := .pointer (some ⟨x, 3, none⟩)) (wanted_none rfl) (exec_field (off := 0) (d := 3) rfl rfl (by kernel_rfl)) ?_
        simp only [Act.put, List.setIfInBounds_toArray, List.set_cons_zero, List.set_cons_succ]
        refine wpList_run (v := .int .i64 (ch : Int)) (wanted_none rfl) (exec_load1 rfl rfl (by kernel_rfl) (HB10.out.cell 3)) ?_
        simp only [Act.put, List.setIfInBounds_toArray, List.set_cons_zero, List.set_cons_succ]
        refine wpList_run (v := .int .i64 ((ch + 1 : Nat) : Int)) (wanted_none rfl) (ix_add rfl rfl rfl (by omega) (by omega)) ?_
        simp only [Act.put, List.setIfInBounds_toArray, List.set_cons_zero, List.set_cons_succ]
        refine wpList_run (v := .pointer (some ⟨x, 0, none⟩)) (wanted_none rfl) (exec_nil rfl rfl) ?_
        simp only [Act.put, List.setIfInBounds_toArray, List.set_cons_zero, List.set_cons_succ]
        refine wpList_run (v := .pointer (some ⟨x, 3, none⟩)) (wanted_none rfl) (exec_field (off := 0) (d := 3) rfl rfl (by kernel_rfl)) ?_
        simp only [Act.put, List.setIfInBounds_toArray, List.set_cons_zero, List.set_cons_succ]
        refine wpList_storeU 3 (.int .i64 ((ch + 1 : Nat) : Int)) (wanted_none rfl) 3 _ _ rfl HB10.out rfl rfl (by show 3 < 4; omega) ⟨rfl, rfl⟩ (by kernel_rfl) ?_
        intro w11 hb11 ht11
        simp only [Act.put, List.setIfInBounds_toArray, List.set_cons_zero, List.set_cons_succ]
        have HX11 := Lib.hid (HX10.out.st ht11 (HX10.out.in_.off HB10.out))
        have HB11 := Lib.hid (show Blk w11 x 58 #[.int .i64 (M : Int), .pointer (some ⟨p, 0, none⟩), .int .i64 ((cn + 1 : Nat) : Int), .int .i64 ((ch + 1 : Nat) : Int)] from hb11)
        clear hb11 ht11
        go_upto_region 11 with fail
        refine wp_region_lit ?_
        refine wpList_run (v := .int .i64 0) (wanted_none rfl) (exec_move rfl rfl) ?_
        simp only [Act.put, List.setIfInBounds_toArray, List.set_cons_zero, List.set_cons_succ]
        refine wpList_run (v := .bool false) (wanted_none rfl) (exec_move rfl rfl) ?_
        simp only [Act.put, List.setIfInBounds_toArray, List.set_cons_zero, List.set_cons_succ]
        refine wpList_run (v := .int .i64 0) (wanted_none rfl) (gx_assign rfl rfl) ?_
        simp only [Act.put, List.setIfInBounds_toArray, List.set_cons_zero, List.set_cons_succ]
        refine wpList_run (v := .bool false) (wanted_none rfl) (gx_assign rfl rfl) ?_
        simp only [Act.put, List.setIfInBounds_toArray, List.set_cons_zero, List.set_cons_succ]
        go_wp2_with fail
        go_ret2
        rw [HRET.out]
        exact ⟨rfl, HX11.out.idx ⟨HX11.out.in_, HO.out, ⟨.pointer (some ⟨p, 0, none⟩), ch + 1, by rw [HLE.out]; exact HB11.out, by have := HCN.out; omega, HTOP.out⟩, by rw [HLE.out]; have := HCN.out; have := HCE.out; omega, by have := HCN.out; omega⟩⟩
end Go.Proofs.Ytmlkdkbpbleilaa

namespace Go.Proofs.Ytmlkdkbpbleilaa
open Go.RowKit
open Ix
set_option linter.unusedVariables false
set_option linter.unusedSimpArgs false
set_option maxRecDepth 20000 in
set_option maxHeartbeats 16000000 in
theorem Drop_walk {w : World} {x : Nat} {H : Hp} {M N : Nat} {l : List Pr} {k : Key} (h : Idx w x H M l N) (hN : N < 1099511627776) :
    Calls Try.prog 12 #[.pointer (some ⟨x, 0, none⟩), strV k] w fun e w' => e = .returned (retV (lget k l)) ∧ IdxTo w x H M (ldrop k l) (N + 1) w' := by
  have HI := Lib.hid h
  obtain ⟨top, ch, hb, hch, htop⟩ := h.blk
  have HO := Lib.hid h.ord
  have HB := Lib.hid hb
  have HIN := Lib.hid h.hin
  have HCN := Lib.hid (show l.length ≤ N ∧ ch ≤ N ∧ N < 1099511627776 from ⟨h.cnt, hch, hN⟩)
  have y1 : (M : Int) ≤ 64 := by have := h.ord; omega
  have y2 : (l.length : Int) ≤ 1099511627776 := by have := h.cnt; omega
  have y3 : (ch : Int) ≤ 1099511627776 := by omega
  obtain ⟨cn, hcn⟩ : ∃ cn, cn = l.length := ⟨_, rfl⟩
  rw [← hcn] at y2
  have HCE := Lib.hid hcn
  rw [← hcn] at HB
  clear h hb hch hN hcn
  rcases htop with ⟨rfl, hl⟩ | ⟨d, p, t, F, rfl, ht, hnd, hnb, hsr, hfl⟩
  · have HL0 := Lib.hid hl
    clear hl
    go_enter Try.func12, Try.ntmps12
    go_upto_region 1 with fail
    refine wp_region_lit ?_
    refine wpList_run (v := .pointer (some ⟨x, 0, none⟩)) (wanted_none rfl) (exec_move rfl rfl) ?_
    simp only [Act.put, List.setIfInBounds_toArray, List.set_cons_zero, List.set_cons_succ]
    refine wpList_run (v := .pointer (some ⟨x, 0, none⟩)) (wanted_none rfl) (exec_nil rfl rfl) ?_
    simp only [Act.put, List.setIfInBounds_toArray, List.set_cons_zero, List.set_cons_succ]
    refine wpList_run (v := .pointer (some ⟨x, 1, none⟩)) (wanted_none rfl) (exec_field (off := 0) (d := 1) rfl rfl (by kernel_rfl)) ?_
    simp only [Act.put, List.setIfInBounds_toArray, List.set_cons_zero, List.set_cons_succ]
    refine wpList_run (v := .pointer none) (wanted_none rfl) (exec_load1 rfl rfl (by kernel_rfl) (HB.out.cell 1)) ?_
    simp only [Act.put, List.setIfInBounds_toArray, List.set_cons_zero, List.set_cons_succ]
    refine wpList_run (v := .bool true) (wanted_none rfl) (ptr_nil rfl rfl rfl rfl) ?_
    simp only [Act.put, List.setIfInBounds_toArray, List.set_cons_zero, List.set_cons_succ]
    go_wp2_with fail
    go_ret2
    rw [HL0.out]
    refine ⟨rfl, H, ⟨HIN.out, HO.out, ⟨.pointer none, ch, ?_, by have := HCN.out; omega, .inl ⟨rfl, rfl⟩⟩, Nat.zero_le _, by have := HCN.out; omega⟩, Turn.refl _ _, fun b hb => .inl hb⟩
    have h := HB.out
    rw [HCE.out, HL0.out] at h
    exact h
  · have HTE := Lib.hid (show Tree w H p t F (M / 2) M 1 M from ⟨HIN.out, ht, hnd, hnb⟩)
    have HSR := Lib.hid hsr
    have HFL := Lib.hid hfl
    obtain ⟨m, hm⟩ : ∃ m, m = M / 2 := ⟨_, rfl⟩
    have HMH := Lib.hid hm
    rw [← hm] at HTE
    have HXF := Lib.hid (HIN.out.off HB.out)
    have HM1 := Lib.hid (show 1 ≤ m ∧ m ≤ 32 from by have := HO.out; omega)
    clear ht hnd hnb hsr hfl hm
    go_enter Try.func12, Try.ntmps12
    go_upto_region 1 with fail
    refine wp_region_lit ?_
    refine wpList_run (v := .pointer (some ⟨x, 0, none⟩)) (wanted_none rfl) (exec_move rfl rfl) ?_
    simp only [Act.put, List.setIfInBounds_toArray, List.set_cons_zero, List.set_cons_succ]
    refine wpList_run (v := .pointer (some ⟨x, 0, none⟩)) (wanted_none rfl) (exec_nil rfl rfl) ?_
    simp only [Act.put, List.setIfInBounds_toArray, List.set_cons_zero, List.set_cons_succ]
    refine wpList_run (v := .pointer (some ⟨x, 1, none⟩)) (wanted_none rfl) (exec_field (off := 0) (d := 1) rfl rfl (by kernel_rfl)) ?_
    simp only [Act.put, List.setIfInBounds_toArray, List.set_cons_zero, List.set_cons_succ]
    refine wpList_run (v := .pointer (some ⟨p, 0, none⟩)) (wanted_none rfl) (exec_load1 rfl rfl (by kernel_rfl) (HB.out.cell 1)) ?_
    simp only [Act.put, List.setIfInBounds_toArray, List.set_cons_zero, List.set_cons_succ]
    refine wpList_run (v := .bool false) (wanted_none rfl) (ptr_some rfl rfl rfl rfl) ?_
    simp only [Act.put, List.setIfInBounds_toArray, List.set_cons_zero, List.set_cons_succ]
    go_upto_region 3 with fail
    refine wp_region_alw (fun W => Blk W x 58 #[.int .i64 (M : Int), .pointer (some ⟨p, 0, none⟩), .int .i64 (cn : Int), .int .i64 (ch : Int)]) (by kernel_rfl) ?_
    have HD := Lib.hid ((Turn.refl nowhere w).drew)
    have hS0 : Blk w.drew x 58 #[.int .i64 (M : Int), .pointer (some ⟨p, 0, none⟩), .int .i64 (cn : Int), .int .i64 (ch : Int)] := HB.out
    refine alw_take (i := 0) (v := .pointer (some ⟨x, 0, none⟩)) rfl (by kernel_rfl) (by kernel_rfl) (fun _ _ _ h => h) (.inl ⟨by rfl, fun W hW => exec_move rfl rfl⟩) hS0 ?_
    simp only [Act.put, List.setIfInBounds_toArray, List.set_cons_zero, List.set_cons_succ]
    refine alw_take (i := 1) (v := .pointer (some ⟨x, 0, none⟩)) rfl (by kernel_rfl) (by kernel_rfl) (fun _ _ _ h => h) (.inl ⟨by rfl, fun W hW => exec_nil rfl rfl⟩) hS0 ?_
    simp only [Act.put, List.setIfInBounds_toArray, List.set_cons_zero, List.set_cons_succ]
    refine alw_take (i := 2) (v := .pointer (some ⟨x, 1, none⟩)) rfl (by kernel_rfl) (by kernel_rfl) (fun _ _ _ h => h) (.inl ⟨by rfl, fun W hW => exec_field (off := 0) (d := 1) rfl rfl (by kernel_rfl)⟩) hS0 ?_
    simp only [Act.put, List.setIfInBounds_toArray, List.set_cons_zero, List.set_cons_succ]
    refine alw_take (i := 3) (v := .pointer (some ⟨p, 0, none⟩)) rfl (by kernel_rfl) (by kernel_rfl) (fun _ _ _ h => h) (.inl ⟨by rfl, fun W hW => exec_load1 rfl rfl (by kernel_rfl) (hW.cell 1)⟩) hS0 ?_
    simp only [Act.put, List.setIfInBounds_toArray, List.set_cons_zero, List.set_cons_succ]
    refine alw_take (i := 4) (v := strV k) rfl (by kernel_rfl) (by kernel_rfl) (fun _ _ _ h => h) (.inl ⟨by rfl, fun W hW => exec_move rfl rfl⟩) hS0 ?_
    simp only [Act.put, List.setIfInBounds_toArray, List.set_cons_zero, List.set_cons_succ]
    refine alw_take (i := 5) (v := .pointer (some ⟨x, 0, none⟩)) rfl (by kernel_rfl) (by kernel_rfl) (fun _ _ _ h => h) (.inl ⟨by rfl, fun W hW => exec_move rfl rfl⟩) hS0 ?_
    simp only [Act.put, List.setIfInBounds_toArray, List.set_cons_zero, List.set_cons_succ]
    refine alw_take (i := 6) (v := .pointer (some ⟨x, 0, none⟩)) rfl (by kernel_rfl) (by kernel_rfl) (fun _ _ _ h => h) (.inl ⟨by rfl, fun W hW => exec_nil rfl rfl⟩) hS0 ?_
    simp only [Act.put, List.setIfInBounds_toArray, List.set_cons_zero, List.set_cons_succ]
    refine alw_take (i := 7) (v := .pointer (some ⟨x, 0, none⟩)) rfl (by kernel_rfl) (by kernel_rfl) (fun _ _ _ h => h) (.inl ⟨by rfl, fun W hW => exec_field (off := 0) (d := 0) rfl rfl (by kernel_rfl)⟩) hS0 ?_
    simp only [Act.put, List.setIfInBounds_toArray, List.set_cons_zero, List.set_cons_succ]
    refine alw_take (i := 8) (v := .int .i64 (M : Int)) rfl (by kernel_rfl) (by kernel_rfl) (fun _ _ _ h => h) (.inl ⟨by rfl, fun W hW => exec_load1 rfl rfl (by kernel_rfl) (hW.cell 0)⟩) hS0 ?_
    simp only [Act.put, List.setIfInBounds_toArray, List.set_cons_zero, List.set_cons_succ]
    refine alw_take (i := 9) (v := .int .i64 (m : Int)) rfl (by kernel_rfl) (by kernel_rfl) (fun _ _ _ h => h) (.inl ⟨by rfl, fun W hW => by rw [HMH.out]; exact ix_quo (n := M) (m := 2) rfl rfl rfl (by decide) (by omega)⟩) hS0 ?_
    simp only [Act.put, List.setIfInBounds_toArray, List.set_cons_zero, List.set_cons_succ]
    have HPW := Lib.hid (drop_walk (k := k) HMH.out HO.out.1 (by have := HO.out.2; omega) (show Tree w.drew H p t F m M 1 M from ⟨HIN.out.still HD.out, HTE.out.tr, HTE.out.nd, HTE.out.nb⟩) HSR.out (Nat.le_refl 1) (by have := HO.out.2; omega))
    refine alw_step (i := 10) (by kernel_rfl) rfl rfl ?_
    intro K1 HK1
    go_wp2_with fail
    refine HPW.out.mono ?_
    rintro e w2 ⟨rfl, haf⟩
    obtain ⟨H2, F2, hx2⟩ := haf.x
    have hS2 : Blk w2 x 58 #[.int .i64 (M : Int), .pointer (some ⟨p, 0, none⟩), .int .i64 (cn : Int), .int .i64 (ch : Int)] := hS0.turn hx2.to.turn HXF.out
    refine HK1.out _ _ ⟨hS2, ?_⟩
    clear HK1 haf hS0
    try simp only [Act.put, List.setIfInBounds_toArray, List.set_cons_zero, List.set_cons_succ]
    have HX2 := Lib.hid (AfterX.pre HIN.out HD.out hx2)
    clear hx2
    refine alw_take (i := 11) (v := .tuple #[.int .i64 ((tget k t).getD 0), .bool (tget k t).isSome]) rfl (by kernel_rfl) (by kernel_rfl) (fun _ _ _ h => h) (.inl ⟨by rfl, fun W hW => exec_move rfl rfl⟩) hS2 ?_
    simp only [Act.put, List.setIfInBounds_toArray, List.set_cons_zero, List.set_cons_succ]
    refine alw_take (i := 12) (v := .int .i64 ((tget k t).getD 0)) rfl (by kernel_rfl) (by kernel_rfl) (fun _ _ _ h => h) (.inl ⟨by rfl, fun W hW => ix_extract rfl rfl rfl⟩) hS2 ?_
    simp only [Act.put, List.setIfInBounds_toArray, List.set_cons_zero, List.set_cons_succ]
    refine alw_take (i := 13) (v := .bool (tget k t).isSome) rfl (by kernel_rfl) (by kernel_rfl) (fun _ _ _ h => h) (.inl ⟨by rfl, fun W hW => ix_extract rfl rfl rfl⟩) hS2 ?_
    simp only [Act.put, List.setIfInBounds_toArray, List.set_cons_zero, List.set_cons_succ]
    refine alw_take (i := 14) (v := .int .i64 ((tget k t).getD 0)) rfl (by kernel_rfl) (by kernel_rfl) (fun _ _ _ h => h) (.inl ⟨by rfl, fun W hW => gx_assign rfl rfl⟩) hS2 ?_
    simp only [Act.put, List.setIfInBounds_toArray, List.set_cons_zero, List.set_cons_succ]
    refine alw_take (i := 15) (v := .bool (tget k t).isSome) rfl (by kernel_rfl) (by kernel_rfl) (fun _ _ _ h => h) (.inl ⟨by rfl, fun W hW => gx_assign rfl rfl⟩) hS2 ?_
    simp only [Act.put, List.setIfInBounds_toArray, List.set_cons_zero, List.set_cons_succ]
    refine alw_done rfl ?_
    refine NoPanic.normal ?_
    try simp only [Act.put, List.setIfInBounds_toArray, List.set_cons_zero, List.set_cons_succ]
    have HB2 := Lib.hid hS2
    clear hS2 HD HPW
    obtain ⟨tf, tn⟩ := tdrop_ok (k := k) HMH.out HO.out.1 HTE.out.nb (Nat.le_refl 1) HSR.out
    rw [HFL.out] at tf
    have HTG := Lib.hid (show tget k t = lget k l from (tget_ok HTE.out.nb HSR.out).trans (by rw [HFL.out]))
    have HXT := Lib.hid ((ToX.refl (x := x) HIN.out).to HX2.out.to)
    obtain ⟨T, hT⟩ : ∃ T, T = tdrop k m t := ⟨_, rfl⟩
    rw [← hT] at tf tn HX2
    have HTF := Lib.hid tf
    have HTN := Lib.hid (show Nd m M 0 M T from tn)
    obtain ⟨vp, vk, ks, hp2⟩ := HX2.out.tr.root
    have hsl : Srt l := by have h := HSR.out; rwa [HFL.out] at h
    have HSL := Lib.hid hsl
    have HLN := Lib.hid (ldrop_len (k := k) hsl)
    obtain ⟨A2, c2, e9, _, _, _, _⟩ := (HXT.out.in_.at_ hp2).prs.form
    obtain ⟨n2, hn2⟩ : ∃ n, n = T.ps.length := ⟨_, rfl⟩
    replace e9 := e9.trans (show _ = Value.slice A2 n2 c2 from by rw [List.length_map, hn2])
    subst e9
    have HP2 := Lib.hid hp2
    have HN2 := Lib.hid hn2
    clear tf tn hT hp2 hn2 hsl
    go_upto_region 4 with fail
    refine wp_region_lit ?_
    refine wpList_run (v := .pointer (some ⟨x, 0, none⟩)) (wanted_none rfl) (exec_move rfl rfl) ?_
    simp only [Act.put, List.setIfInBounds_toArray, List.set_cons_zero, List.set_cons_succ]
    refine wpList_run (v := .pointer (some ⟨x, 0, none⟩)) (wanted_none rfl) (exec_nil rfl rfl) ?_
    simp only [Act.put, List.setIfInBounds_toArray, List.set_cons_zero, List.set_cons_succ]
    refine wpList_run (v := .pointer (some ⟨x, 1, none⟩)) (wanted_none rfl) (exec_field (off := 0) (d := 1) rfl rfl (by kernel_rfl)) ?_
    simp only [Act.put, List.setIfInBounds_toArray, List.set_cons_zero, List.set_cons_succ]
    refine wpList_run (v := .pointer (some ⟨p, 0, none⟩)) (wanted_none rfl) (exec_load1 rfl rfl (by kernel_rfl) (HB2.out.cell 1)) ?_
    simp only [Act.put, List.setIfInBounds_toArray, List.set_cons_zero, List.set_cons_succ]
    refine wpList_run (v := .pointer (some ⟨p, 0, none⟩)) (wanted_none rfl) (exec_nil rfl rfl) ?_
    simp only [Act.put, List.setIfInBounds_toArray, List.set_cons_zero, List.set_cons_succ]
    refine wpList_run (v := .pointer (some ⟨p, 0, none⟩)) (wanted_none rfl) (exec_field (off := 0) (d := 0) rfl rfl (by kernel_rfl)) ?_
    simp only [Act.put, List.setIfInBounds_toArray, List.set_cons_zero, List.set_cons_succ]
    refine wpList_run (v := .slice A2 n2 c2) (wanted_none rfl) (exec_load1 rfl rfl (by kernel_rfl) ((HXT.out.in_.at_ HP2.out).blk.cell 0)) ?_
    simp only [Act.put, List.setIfInBounds_toArray, List.set_cons_zero, List.set_cons_succ]
    refine wpList_run (v := .int .i64 (n2 : Int)) (wanted_none rfl) (gx_len rfl rfl Try.underlying59) ?_
    simp only [Act.put, List.setIfInBounds_toArray, List.set_cons_zero, List.set_cons_succ]
    by_cases hz : n2 = 0
    · refine wpList_run (v := .bool true) (wanted_none rfl) (ix_eql rfl rfl rfl (decide_eq_true (by omega))) ?_
      simp only [Act.put, List.setIfInBounds_toArray, List.set_cons_zero, List.set_cons_succ]
      have HT0 := Lib.hid (show T.ps = [] from List.eq_nil_of_length_eq_zero (by rw [← HN2.out]; exact hz))
      clear hz
      go_upto_region 5 with fail
      refine wp_region_lit ?_
      refine wpList_run (v := .pointer (some ⟨x, 0, none⟩)) (wanted_none rfl) (exec_move rfl rfl) ?_
      simp only [Act.put, List.setIfInBounds_toArray, List.set_cons_zero, List.set_cons_succ]
      refine wpList_run (v := .pointer (some ⟨x, 0, none⟩)) (wanted_none rfl) (exec_move rfl rfl) ?_
      simp only [Act.put, List.setIfInBounds_toArray, List.set_cons_zero, List.set_cons_succ]
      refine wpList_run (v := .pointer (some ⟨x, 0, none⟩)) (wanted_none rfl) (exec_nil rfl rfl) ?_
      simp only [Act.put, List.setIfInBounds_toArray, List.set_cons_zero, List.set_cons_succ]
      refine wpList_run (v := .pointer (some ⟨x, 1, none⟩)) (wanted_none rfl) (exec_field (off := 0) (d := 1) rfl rfl (by kernel_rfl)) ?_
      simp only [Act.put, List.setIfInBounds_toArray, List.set_cons_zero, List.set_cons_succ]
      refine wpList_run (v := .pointer (some ⟨p, 0, none⟩)) (wanted_none rfl) (exec_load1 rfl rfl (by kernel_rfl) (HB2.out.cell 1)) ?_
      simp only [Act.put, List.setIfInBounds_toArray, List.set_cons_zero, List.set_cons_succ]
      have HIN2 := Lib.hid HXT.out.in_
      have key : ∃ top2, Calls Try.prog 30 #[.pointer (some ⟨p, 0, none⟩)] w2 (fun e w' => e = .returned top2 ∧ w' = w2) ∧ Top H2 M top2 (ldrop k l) ∧ top2.cells = #[top2] ∧ top2.oneCell' = true := by
        have h1 := HX2.out.tr
        have h2 := HTN.out
        have h3 := HTF.out
        have h4 := HT0.out
        have h5 := HX2.out.nd
        have h6 := HMH.out
        clear HX2 HTN HTF HT0 HTE HSR HFL HTG HN2 HP2 HXT
        have hin := HIN2.out
        cases d with
        | zero =>
          obtain ⟨g1, rfl⟩ := h1
          exact ⟨.pointer none, only_none hin g1, .inl ⟨rfl, by rw [← h3]; exact h4⟩, rfl, rfl⟩
        | succ d =>
          obtain ⟨ks', F', g1, g2, rfl⟩ := h1
          have h4 : T.1 = [] := h4
          have hl2 : T.2.length = 1 := by have := h2.2.2.1; rw [h4] at this; exact this
          rcases hT2 : T.2 with _ | ⟨c, cs⟩
          · rw [hT2] at hl2; cases hl2
          · have hcs : cs = [] := by
              rw [hT2] at hl2
              exact List.eq_nil_of_length_eq_zero (by simpa using hl2)
            subst hcs
            rw [hT2] at g2
            obtain ⟨x0, ks2, G, F3, e1, e2, g3, g4⟩ := g2.cons
            have nc : Nd m M m M c := h2.2.2.2 c (by rw [hT2]; exact List.mem_cons_self ..)
            have hfl : flat T = flat c := by
              show inter (T.2.map flat) T.1 = _
              rw [hT2, h4]
              show flat c ++ inter [] [] = _
              rw [show inter [] [] = ([] : List Pr) from rfl, List.append_nil]
            refine ⟨.pointer (some ⟨x0, 0, none⟩), only_kid hin g1 (by rw [e1]; rfl), .inr ⟨d, x0, c, G, rfl, g3, fun a => ?_, ?_, ?_, ?_⟩, rfl, rfl⟩
            · have := h5 a
              rw [e2] at this
              simp only [List.count_append, List.count_cons] at this
              omega
            · rw [← h6]
              exact nc.mono (by have := nc.lo; have := HM1.out.1; omega) nc.hi
            · rw [← hfl, h3]; exact ldrop_srt HSL.out
            · rw [← hfl, h3]
      obtain ⟨top2, hc1, hc2, hc3⟩ := key
      have HCT := Lib.hid hc2
      have HC3 := Lib.hid hc3
      refine wpList_op rfl fun K9 HK9 => ?_
      go_wp2_with fail
      refine (hc1).mono ?_
      rintro e w3 ⟨rfl, hw3⟩
      refine HK9.out _ _ ?_
      clear HK9
      try simp only [Act.put, List.setIfInBounds_toArray, List.set_cons_zero, List.set_cons_succ]
      subst hw3
      clear hc1 hc2 hc3
      refine wpList_run (v := .pointer (some ⟨x, 0, none⟩)) (wanted_none rfl) (exec_nil rfl rfl) ?_
      simp only [Act.put, List.setIfInBounds_toArray, List.set_cons_zero, List.set_cons_succ]
      refine wpList_run (v := .pointer (some ⟨x, 1, none⟩)) (wanted_none rfl) (exec_field (off := 0) (d := 1) rfl rfl (by kernel_rfl)) ?_
      simp only [Act.put, List.setIfInBounds_toArray, List.set_cons_zero, List.set_cons_succ]
      refine wpList_storeU 1 top2 (wanted_none rfl) 56 _ _ rfl HB2.out rfl rfl (by show 1 < 4; omega) HC3.out size_ptr ?_
      intro w9 hb9 ht9
      simp only [Act.put, List.setIfInBounds_toArray, List.set_cons_zero, List.set_cons_succ]
      have HX9 := Lib.hid (HXT.out.st ht9 (HXT.out.in_.off HB2.out))
      have HB9 := Lib.hid (show Blk w9 x 58 #[.int .i64 (M : Int), top2, .int .i64 (cn : Int), .int .i64 (ch : Int)] from hb9)
      have HTOP := HCT
      clear hb9 ht9
      cases hg : tget k t with
      | none =>
        have HRET := Lib.hid (show retV (lget k l) = .tuple #[.int .i64 0, .bool false] from by rw [← HTG.out, hg]; rfl)
        have HLE := Lib.hid (show (ldrop k l).length = cn from by have h := HLN.out; rw [← HTG.out, hg] at h; rw [HCE.out]; exact h)
        clear hg
        go_upto_region 6 with fail
        refine wp_region_lit ?_
        refine wpList_run (v := .bool false) (wanted_none rfl) (exec_move rfl rfl) ?_
        simp only [Act.put, List.setIfInBounds_toArray, List.set_cons_zero, List.set_cons_succ]
        go_upto_region 9 with fail
        refine wp_region_lit ?_
        refine wpList_run (v := .int .i64 0) (wanted_none rfl) (exec_move rfl rfl) ?_
        simp only [Act.put, List.setIfInBounds_toArray, List.set_cons_zero, List.set_cons_succ]
        refine wpList_run (v := .bool false) (wanted_none rfl) (exec_move rfl rfl) ?_
        simp only [Act.put, List.setIfInBounds_toArray, List.set_cons_zero, List.set_cons_succ]
        refine wpList_run (v := .int .i64 0) (wanted_none rfl) (gx_assign rfl rfl) ?_
        simp only [Act.put, List.setIfInBounds_toArray, List.set_cons_zero, List.set_cons_succ]
        refine wpList_run (v := .bool false) (wanted_none rfl) (gx_assign rfl rfl) ?_
        simp only [Act.put, List.setIfInBounds_toArray, List.set_cons_zero, List.set_cons_succ]
        go_wp2_with fail
        go_ret2
        rw [HRET.out]
        exact ⟨rfl, HX9.out.idx ⟨HX9.out.in_, HO.out, ⟨top2, ch, by rw [HLE.out]; exact HB9.out, by have := HCN.out; omega, HTOP.out⟩, by rw [HLE.out]; have := HCN.out; have := HCE.out; omega, by have := HCN.out; omega⟩⟩
      | some u =>
        have HRET := Lib.hid (show retV (lget k l) = .tuple #[.int .i64 u, .bool true] from by rw [← HTG.out, hg]; rfl)
        have hle : (ldrop k l).length + 1 = cn := by have h := HLN.out; rw [← HTG.out, hg] at h; rw [HCE.out]; exact h
        obtain ⟨c1, hc1⟩ : ∃ c1, c1 = (ldrop k l).length := ⟨_, rfl⟩
        rw [← hc1] at hle
        have HLE := Lib.hid hc1
        have HC1 := Lib.hid hle
        have z1 : (cn : Int) ≤ (c1 : Int) + 1 := by omega
        have z2 : (c1 : Int) + 1 ≤ (cn : Int) := by omega
        clear hg hc1 hle
        go_upto_region 6 with fail
        refine wp_region_lit ?_
        refine wpList_run (v := .bool true) (wanted_none rfl) (exec_move rfl rfl) ?_
        simp only [Act.put, List.setIfInBounds_toArray, List.set_cons_zero, List.set_cons_succ]
        go_upto_region 7 with fail
        refine wp_region_lit ?_
        refine wpList_run (v := .pointer (some ⟨x, 0, none⟩)) (wanted_none rfl) (exec_move rfl rfl) ?_
        simp only [Act.put, List.setIfInBounds_toArray, List.set_cons_zero, List.set_cons_succ]
        refine wpList_run (v := .pointer (some ⟨x, 0, none⟩)) (wanted_none rfl) (exec_nil rfl rfl) ?_
        simp only [Act.put, List.setIfInBounds_toArray, List.set_cons_zero, List.set_cons_succ]
        refine wpList_run (v := .pointer (some ⟨x, 2, none⟩)) (wanted_none rfl) (exec_field (off := 0) (d := 2) rfl rfl (by kernel_rfl)) ?_
        simp only [Act.put, List.setIfInBounds_toArray, List.set_cons_zero, List.set_cons_succ]
        refine wpList_run (v := .int .i64 (cn : Int)) (wanted_none rfl) (exec_load1 rfl rfl (by kernel_rfl) (HB9.out.cell 2)) ?_
        simp only [Act.put, List.setIfInBounds_toArray, List.set_cons_zero, List.set_cons_succ]
        refine wpList_run (v := .int .i64 (c1 : Int)) (wanted_none rfl) (ix_sub rfl rfl rfl (by omega) (by omega)) ?_
        simp only [Act.put, List.setIfInBounds_toArray, List.set_cons_zero, List.set_cons_succ]
        refine wpList_run (v := .pointer (some ⟨x, 0, none⟩)) (wanted_none rfl) (exec_nil rfl rfl) ?_
        simp only [Act.put, List.setIfInBounds_toArray, List.set_cons_zero, List.set_cons_succ]
        refine wpList_run (v := .pointer (some ⟨x, 2, none⟩)) (wanted_none rfl) (exec_field (off := 0) (d := 2) rfl rfl (by kernel_rfl)) ?_
        simp only [Act.put, List.setIfInBounds_toArray, List.set_cons_zero, List.set_cons_succ]
        refine wpList_storeU 2 (.int .i64 (c1 : Int)) (wanted_none rfl) 3 _ _ rfl HB9.out rfl rfl (by show 2 < 4; omega) ⟨rfl, rfl⟩ (by kernel_rfl) ?_
        intro w10 hb10 ht10
        simp only [Act.put, List.setIfInBounds_toArray, List.set_cons_zero, List.set_cons_succ]
        have HX10 := Lib.hid (HX9.out.st ht10 (HX9.out.in_.off HB9.out))
        have HB10 := Lib.hid (show Blk w10 x 58 #[.int .i64 (M : Int), top2, .int .i64 (c1 : Int), .int .i64 (ch : Int)] from hb10)
        clear hb10 ht10
        go_upto_region 8 with fail
        refine wp_region_lit ?_
        refine wpList_run (v := .pointer (some ⟨x, 0, none⟩)) (wanted_none rfl) (exec_move rfl rfl) ?_
        simp only [Act.put, List.setIfInBounds_toArray, List.set_cons_zero, List.set_cons_succ]
        refine wpList_run (v := .pointer (some ⟨x, 0, none⟩)) (wanted_none rfl) (exec_nil rfl rfl) ?_
        simp only [Act.put, List.setIfInBounds_toArray, List.set_cons_zero, List.set_cons_succ]
        refine wpList_run (v := .pointer (some ⟨x, 3, none⟩)) (wanted_none rfl) (exec_field (off := 0) (d := 3) rfl rfl (by kernel_rfl)) ?_
        simp only [Act.put, List.setIfInBounds_toArray, List.set_cons_zero, List.set_cons_succ]
        refine wpList_run (v := .int .i64 (ch : Int)) (wanted_none rfl) (exec_load1 rfl rfl (by kernel_rfl) (HB10.out.cell 3)) ?_
        simp only [Act.put, List.setIfInBounds_toArray, List.set_cons_zero, List.set_cons_succ]
        refine wpList_run (v := .int .i64 ((ch + 1 : Nat) : Int)) (wanted_none rfl) (ix_add rfl rfl rfl (by omega) (by omega)) ?_
        simp only [Act.put, List.setIfInBounds_toArray, List.set_cons_zero, List.set_cons_succ]
        refine wpList_run (v := .pointer (some ⟨x, 0, none⟩)) (wanted_none rfl) (exec_nil rfl rfl) ?_
        simp only [Act.put, List.setIfInBounds_toArray, List.set_cons_zero, List.set_cons_succ]
        refine wpList_run (v := .pointer (some ⟨x, 3, none⟩)) (wanted_none rfl) (exec_field (off := 0) (d := 3) rfl rfl (by kernel_rfl)) ?_
        simp only [Act.put, List.setIfInBounds_toArray, List.set_cons_zero, List.set_cons_succ]
        refine wpList_storeU 3 (.int .i64 ((ch + 1 : Nat) : Int)) (wanted_none rfl) 3 _ _ rfl HB10.out rfl rfl (by show 3 < 4; omega) ⟨rfl, rfl⟩ (by kernel_rfl) ?_
        intro w11 hb11 ht11
        simp only [Act.put, List.setIfInBounds_toArray, List.set_cons_zero, List.set_cons_succ]
        have HX11 := Lib.hid (HX10.out.st ht11 (HX10.out.in_.off HB10.out))
        have HB11 := Lib.hid (show Blk w11 x 58 #[.int .i64 (M : Int), top2, .int .i64 (c1 : Int), .int .i64 ((ch + 1 : Nat) : Int)] from hb11)
        clear hb11 ht11
        go_upto_region 9 with fail
        refine wp_region_lit ?_
        refine wpList_run (v := .int .i64 u) (wanted_none rfl) (exec_move rfl rfl) ?_
        simp only [Act.put, List.setIfInBounds_toArray, List.set_cons_zero, List.set_cons_succ]
        refine wpList_run (v := .bool true) (wanted_none rfl) (exec_move rfl rfl) ?_
        simp only [Act.put, List.setIfInBounds_toArray, List.set_cons_zero, List.set_cons_succ]
        refine wpList_run (v := .int .i64 u) (wanted_none rfl) (gx_assign rfl rfl) ?_
        simp only [Act.put, List.setIfInBounds_toArray, List.set_cons_zero, List.set_cons_succ]
        refine wpList_run (v := .bool true) (wanted_none rfl) (gx_assign rfl rfl) ?_
        simp only [Act.put, List.setIfInBounds_toArray, List.set_cons_zero, List.set_cons_succ]
        go_wp2_with fail
        go_ret2
        rw [HRET.out]
        exact ⟨rfl, HX11.out.idx ⟨HX11.out.in_, HO.out, ⟨top2, ch + 1, by rw [← HLE.out]; exact HB11.out, by have := HCN.out; omega, HTOP.out⟩, by rw [← HLE.out]; have := HCN.out; have := HCE.out; have := HC1.out; omega, by have := HCN.out; omega⟩⟩
    · refine wpList_run (v := .bool false) (wanted_none rfl) (ix_eql rfl rfl rfl (decide_eq_false (by omega))) ?_
      simp only [Act.put, List.setIfInBounds_toArray, List.set_cons_zero, List.set_cons_succ]
      have HX9 := HXT
      have HB9 := HB2
      have HTOP := Lib.hid (show Top H2 M (.pointer (some ⟨p, 0, none⟩)) (ldrop k l) from .inr ⟨d, p, T, F2, rfl, HX2.out.tr, HX2.out.nd, by rw [← HMH.out]; exact HTN.out.mono (by have := HN2.out; omega) HTN.out.hi, by rw [HTF.out]; exact ldrop_srt HSL.out, HTF.out⟩)
      clear hz
      cases hg : tget k t with
      | none =>
        have HRET := Lib.hid (show retV (lget k l) = .tuple #[.int .i64 0, .bool false] from by rw [← HTG.out, hg]; rfl)
        have HLE := Lib.hid (show (ldrop k l).length = cn from by have h := HLN.out; rw [← HTG.out, hg] at h; rw [HCE.out]; exact h)
        clear hg
        go_upto_region 6 with fail
        refine wp_region_lit ?_
        refine wpList_run (v := .bool false) (wanted_none rfl) (exec_move rfl rfl) ?_
        simp only [Act.put, List.setIfInBounds_toArray, List.set_cons_zero, List.set_cons_succ]
        go_upto_region 9 with fail
        refine wp_region_lit ?_
        refine wpList_run (v := .int .i64 0) (wanted_none rfl) (exec_move rfl rfl) ?_
        simp only [Act.put, List.setIfInBounds_toArray, List.set_cons_zero, List.set_cons_succ]
        refine wpList_run (v := .bool false) (wanted_none rfl) (exec_move rfl rfl) ?_
        simp only [Act.put, List.setIfInBounds_toArray, List.set_cons_zero, List.set_cons_succ]
        refine wpList_run (v := .int .i64 0) (wanted_none rfl) (gx_assign rfl rfl) ?_
        simp only [Act.put, List.setIfInBounds_toArray, List.set_cons_zero, List.set_cons_succ]
        refine wpList_run (v := .bool false) (wanted_none rfl) (gx_assign rfl rfl) ?_
        simp only [Act.put, List.setIfInBounds_toArray, List.set_cons_zero, List.set_cons_succ]
        go_wp2_with fail
        go_ret2
        rw [HRET.out]
        exact ⟨rfl, HX9.out.idx ⟨HX9.out.in_, HO.out, ⟨.pointer (some ⟨p, 0, none⟩), ch, by rw [HLE.out]; exact HB9.out, by have := HCN.out; omega, HTOP.out⟩, by rw [HLE.out]; have := HCN.out; have := HCE.out; omega, by have := HCN.out; omega⟩⟩
      | some u =>
        have HRET := Lib.hid (show retV (lget k l) = .tuple #[.int .i64 u, .bool true] from by rw [← HTG.out, hg]; rfl)
        have hle : (ldrop k l).length + 1 = cn := by have h := HLN.out; rw [← HTG.out, hg] at h; rw [HCE.out]; exact h
        obtain ⟨c1, hc1⟩ : ∃ c1, c1 = (ldrop k l).length := ⟨_, rfl⟩
        rw [← hc1] at hle
        have HLE := Lib.hid hc1
        have HC1 := Lib.hid hle
        have z1 : (cn : Int) ≤ (c1 : Int) + 1 := by omega
        have z2 : (c1 : Int) + 1 ≤ (cn : Int) := by omega
        clear hg hc1 hle
        go_upto_region 6 with fail
        refine wp_region_lit ?_
        refine wpList_run (v := .bool true) (wanted_none rfl) (exec_move rfl rfl) ?_
        simp only [Act.put, List.setIfInBounds_toArray, List.set_cons_zero, List.set_cons_succ]
        go_upto_region 7 with fail
        refine wp_region_lit ?_
        refine wpList_run (v := .pointer (some ⟨x, 0, none⟩)) (wanted_none rfl) (exec_move rfl rfl) ?_
        simp only [Act.put, List.setIfInBounds_toArray, List.set_cons_zero, List.set_cons_succ]
        refine wpList_run (v := .pointer (some ⟨x, 0, none⟩)) (wanted_none rfl) (exec_nil rfl rfl) ?_
        simp only [Act.put, List.setIfInBounds_toArray, List.set_cons_zero, List.set_cons_succ]
        refine wpList_run (v := .pointer (some ⟨x, 2, none⟩)) (wanted_none rfl) (exec_field (off := 0) (d := 2) rfl rfl (by kernel_rfl)) ?_
        simp only [Act.put, List.setIfInBounds_toArray, List.set_cons_zero, List.set_cons_succ]
        refine wpList_run (v := .int .i64 (cn : Int)) (wanted_none rfl) (exec_load1 rfl rfl (by kernel_rfl) (HB9.out.cell 2)) ?_
        simp only [Act.put, List.setIfInBounds_toArray, List.set_cons_zero, List.set_cons_succ]
        refine wpList_run (v := .int .i64 (c1 : Int)) (wanted_none rfl) (ix_sub rfl rfl rfl (by omega) (by omega)) ?_
        simp only [Act.put, List.setIfInBounds_toArray, List.set_cons_zero, List.set_cons_succ]
        refine wpList_run (v := .pointer (some ⟨x, 0, none⟩)) (wanted_none rfl) (exec_nil rfl rfl) ?_
        simp only [Act.put, List.setIfInBounds_toArray, List.set_cons_zero, List.set_cons_succ]
        refine wpList_run (v := .pointer (some ⟨x, 2, none⟩)) (wanted_none rfl) (exec_field (off := 0) (d := 2) rfl rfl (by kernel_rfl)) ?_
        simp only [Act.put, List.setIfInBounds_toArray, List.set_cons_zero, List.set_cons_succ]
        refine wpList_storeU 2 (.int .i64 (c1 : Int)) (wanted_none rfl) 3 _ _ rfl HB9.out rfl rfl (by show 2 < 4; omega) ⟨rfl, rfl⟩ (by kernel_rfl) ?_
        intro w10 hb10 ht10
        simp only [Act.put, List.setIfInBounds_toArray, List.set_cons_zero, List.set_cons_succ]
        have HX10 := Lib.hid (HX9.out.st ht10 (HX9.out.in_.off HB9.out))
        have HB10 := Lib.hid (show Blk w10 x 58 #[.int .i64 (M : Int), .pointer (some ⟨p, 0, none⟩), .int .i64 (c1 : Int), .int .i64 (ch : Int)] from hb10)
        clear hb10 ht10
        go_upto_region 8 with fail
        refine wp_region_lit ?_
        refine wpList_run (v := .pointer (some ⟨x, 0, none⟩)) (wanted_none rfl) (exec_move rfl rfl) ?_
        simp only [Act.put, List.setIfInBounds_toArray, List.set_cons_zero, List.set_cons_succ]
        refine wpList_run (v := .pointer (some ⟨x, 0, none⟩)) (wanted_none rfl) (exec_nil rfl rfl) ?_
        simp only [Act.put, List.setIfInBounds_toArray, List.set_cons_zero, List.set_cons_succ]
        refine wpList_run (v := .pointer (some ⟨x, 3, none⟩)) (wanted_none rfl) (exec_field (off := 0) (d := 3) rfl rfl (by kernel_rfl)) ?_
        simp only [Act.put, List.setIfInBounds_toArray, List.set_cons_zero, List.set_cons_succ]
        refine wpList_run (v := .int .i64 (ch : Int)) (wanted_none rfl) (exec_load1 rfl rfl (by kernel_rfl) (HB10.out.cell 3)) ?_
        simp only [Act.put, List.setIfInBounds_toArray, List.set_cons_zero, List.set_cons_succ]
        refine wpList_run (v := .int .i64 ((ch + 1 : Nat) : Int)) (wanted_none rfl) (ix_add rfl rfl rfl (by omega) (by omega)) ?_
        simp only [Act.put, List.setIfInBounds_toArray, List.set_cons_zero, List.set_cons_succ]
        refine wpList_run (v := .pointer (some ⟨x, 0, none⟩)) (wanted_none rfl) (exec_nil rfl rfl) ?_
        simp only [Act.put, List.setIfInBounds_toArray, List.set_cons_zero, List.set_cons_succ]
        refine wpList_run (v := .pointer (some ⟨x, 3, none⟩)) (wanted_none rfl) (exec_field (off := 0) (d := 3) rfl rfl (by kernel_rfl)) ?_
        simp only [Act.put, List.setIfInBounds_toArray, List.set_cons_zero, List.set_cons_succ]
        refine wpList_storeU 3 (.int .i64 ((ch + 1 : Nat) : Int)) (wanted_none rfl) 3 _ _ rfl HB10.out rfl rfl (by show 3 < 4; omega) ⟨rfl, rfl⟩ (by kernel_rfl) ?_
        intro w11 hb11 ht11
        simp only [Act.put, List.setIfInBounds_toArray, List.set_cons_zero, List.set_cons_succ]
        have HX11 := Lib.hid (HX10.out.st ht11 (HX10.out.in_.off HB10.out))
        have HB11 := Lib.hid (show Blk w11 x 58 #[.int .i64 (M : Int), .pointer (some ⟨p, 0, none⟩), .int .i64 (c1 : Int), .int .i64 ((ch + 1 : Nat) : Int)] from hb11)
        clear hb11 ht11
        go_upto_region 9 with fail
        refine wp_region_lit ?_
        refine wpList_run (v := .int .i64 u) (wanted_none rfl) (exec_move rfl rfl) ?_
        simp only [Act.put, List.setIfInBounds_toArray, List.set_cons_zero, List.set_cons_succ]
        refine wpList_run (v := .bool true) (wanted_none rfl) (exec_move rfl rfl) ?_
        simp only [Act.put, List.setIfInBounds_toArray, List.set_cons_zero, List.set_cons_succ]
        refine wpList_run (v := .int .i64 u) (wanted_none rfl) (gx_assign rfl rfl) ?_
        simp only [Act.put, List.setIfInBounds_toArray, List.set_cons_zero, List.set_cons_succ]
        refine wpList_run (v := .bool true) (wanted_none rfl) (gx_assign rfl rfl) ?_
        simp only [Act.put, List.setIfInBounds_toArray, List.set_cons_zero, List.set_cons_succ]
        go_wp2_with fail
        go_ret2
        rw [HRET.out]
        exact ⟨rfl, HX11.out.idx ⟨HX11.out.in_, HO.out, ⟨.pointer (some ⟨p, 0, none⟩), ch + 1, by rw [← HLE.out]; exact HB11.out, by have := HCN.out; omega, HTOP.out⟩, by rw [← HLE.out]; have := HCN.out; have := HCE.out; have := HC1.out; omega, by have := HCN.out; omega⟩⟩
theorem Len_walk {w : World} {x : Nat} {H : Hp} {M N : Nat} {l : List Pr} (h : Idx w x H M l N) :
    Calls Try.prog 21 #[.pointer (some ⟨x, 0, none⟩)] w fun e w' => e = .returned (.int .i64 (l.length : Int)) ∧ w' = w := by
  obtain ⟨top, ch, hb, _, _⟩ := h.blk
  have HB := Lib.hid hb
  obtain ⟨cn, hcn⟩ : ∃ cn, cn = l.length := ⟨_, rfl⟩
  rw [← hcn] at HB ⊢
  clear h hb hcn
  go_enter Try.func21, Try.ntmps21
  go_upto_region 1 with fail
  refine wp_region_lit ?_
  refine wpList_run (v := .pointer (some ⟨x, 0, none⟩)) (wanted_none rfl) (exec_move rfl rfl) ?_
  simp only [Act.put, List.setIfInBounds_toArray, List.set_cons_zero, List.set_cons_succ]
  refine wpList_run (v := .pointer (some ⟨x, 0, none⟩)) (wanted_none rfl) (exec_nil rfl rfl) ?_
  simp only [Act.put, List.setIfInBounds_toArray, List.set_cons_zero, List.set_cons_succ]
  refine wpList_run (v := .pointer (some ⟨x, 2, none⟩)) (wanted_none rfl) (exec_field (off := 0) (d := 2) rfl rfl (by kernel_rfl)) ?_
  simp only [Act.put, List.setIfInBounds_toArray, List.set_cons_zero, List.set_cons_succ]
  refine wpList_run (v := .int .i64 (cn : Int)) (wanted_none rfl) (exec_load1 rfl rfl (by kernel_rfl) (HB.out.cell 2)) ?_
  simp only [Act.put, List.setIfInBounds_toArray, List.set_cons_zero, List.set_cons_succ]
  refine wpList_run (v := .int .i64 (cn : Int)) (wanted_none rfl) (gx_assign rfl rfl) ?_
  simp only [Act.put, List.setIfInBounds_toArray, List.set_cons_zero, List.set_cons_succ]
  go_wp2_with fail
  go_ret
  exact ⟨rfl, rfl⟩
theorem ptr_neqS {a : Act} {o : Oper} {W : World} {x y : Operand} {t u : TypeId} {p : Addr} (ho : o.op = .binOp .neq t x y u) (hx : a.eval x = .pointer (some p)) (hy : a.eval y = .pointer none) (ht : t = 56) : (execOp a.eval o).run Try.prog W = .ok (.value (.bool true)) W := by
  subst ht
  unfold execOp
  simp only [ho, hx, hy]
  go_simp
set_option maxRecDepth 20000 in
set_option maxHeartbeats 4000000 in
theorem Get_walk {w : World} {x : Nat} {H : Hp} {M N : Nat} {l : List Pr} {k : Key} (h : Idx w x H M l N) :
    Calls Try.prog 14 #[.pointer (some ⟨x, 0, none⟩), strV k] w fun e w' => e = .returned (retV (lget k l)) ∧ Turn nowhere w w' := by
  obtain ⟨top, ch, hb, hch, htop⟩ := h.blk
  have HO := Lib.hid h.ord
  have HB := Lib.hid hb
  have HIN := Lib.hid h.hin
  clear h hb hch
  rcases htop with ⟨rfl, rfl⟩ | ⟨d, p, t, F, rfl, ht, hnd, hnb, hsr, hfl⟩
  · go_enter Try.func14, Try.ntmps14
    go_upto_region 1 with fail
    refine wp_region_lit ?_
    refine wpList_run (v := .pointer (some ⟨x, 0, none⟩)) (wanted_none rfl) (exec_move rfl rfl) ?_
    simp only [Act.put, List.setIfInBounds_toArray, List.set_cons_zero, List.set_cons_succ]
    refine wpList_run (v := .pointer (some ⟨x, 0, none⟩)) (wanted_none rfl) (exec_nil rfl rfl) ?_
    simp only [Act.put, List.setIfInBounds_toArray, List.set_cons_zero, List.set_cons_succ]
    refine wpList_run (v := .pointer (some ⟨x, 1, none⟩)) (wanted_none rfl) (exec_field (off := 0) (d := 1) rfl rfl (by kernel_rfl)) ?_
    simp only [Act.put, List.setIfInBounds_toArray, List.set_cons_zero, List.set_cons_succ]
    refine wpList_run (v := .pointer none) (wanted_none rfl) (exec_load1 rfl rfl (by kernel_rfl) (HB.out.cell 1)) ?_
    simp only [Act.put, List.setIfInBounds_toArray, List.set_cons_zero, List.set_cons_succ]
    refine wpList_run (v := .pointer none) (wanted_none rfl) (gx_assign rfl rfl) ?_
    simp only [Act.put, List.setIfInBounds_toArray, List.set_cons_zero, List.set_cons_succ]
    go_wp2_with fail
    refine wp_loop_rounds 1 ?_
    rw [rounds_succ]
    go_wp2_with fail
    go_ret2
    exact ⟨rfl, Turn.refl _ _⟩
  · have HG0 := Lib.hid (show lget k l = tget k t from ((tget_ok hnb hsr).trans (by rw [hfl])).symm)
    have HT0 := Lib.hid ht
    have HNB0 := Lib.hid hnb
    have HSR0 := Lib.hid hsr
    clear hfl ht hnb hsr hnd
    go_enter Try.func14, Try.ntmps14
    go_upto_region 1 with fail
    refine wp_region_lit ?_
    refine wpList_run (v := .pointer (some ⟨x, 0, none⟩)) (wanted_none rfl) (exec_move rfl rfl) ?_
    simp only [Act.put, List.setIfInBounds_toArray, List.set_cons_zero, List.set_cons_succ]
    refine wpList_run (v := .pointer (some ⟨x, 0, none⟩)) (wanted_none rfl) (exec_nil rfl rfl) ?_
    simp only [Act.put, List.setIfInBounds_toArray, List.set_cons_zero, List.set_cons_succ]
    refine wpList_run (v := .pointer (some ⟨x, 1, none⟩)) (wanted_none rfl) (exec_field (off := 0) (d := 1) rfl rfl (by kernel_rfl)) ?_
    simp only [Act.put, List.setIfInBounds_toArray, List.set_cons_zero, List.set_cons_succ]
    refine wpList_run (v := .pointer (some ⟨p, 0, none⟩)) (wanted_none rfl) (exec_load1 rfl rfl (by kernel_rfl) (HB.out.cell 1)) ?_
    simp only [Act.put, List.setIfInBounds_toArray, List.set_cons_zero, List.set_cons_succ]
    refine wpList_run (v := .pointer (some ⟨p, 0, none⟩)) (wanted_none rfl) (gx_assign rfl rfl) ?_
    simp only [Act.put, List.setIfInBounds_toArray, List.set_cons_zero, List.set_cons_succ]
    go_wp2_with fail
    go_loopg [6] (d + 1) (fun gk pv wr => ∃ (e q lo : Nat) (s : Tr e) (G : List Nat), gk = e + 1 ∧ pv = .pointer (some ⟨q, 0, none⟩) ∧ TrAt H q s G ∧ Nd (M / 2) M lo M s ∧ Srt (flat s) ∧ tget k t = tget k s ∧ Turn nowhere w wr)
    case atStart => exact ⟨d, p, 1, t, F, rfl, rfl, HT0.out, HNB0.out, HSR0.out, rfl, Turn.refl _ _⟩
    obtain ⟨e, q, lo, s, G, rfl, rfl, hs, hnb, hsr, hge, htr⟩ := hrel
    have HS := Lib.hid hs
    have HNB := Lib.hid hnb
    have HSR := Lib.hid hsr
    have HGE := Lib.hid hge
    have HTR := Lib.hid htr
    have HI := Lib.hid (HIN.out.still htr)
    obtain ⟨vp, vk, ks, hq⟩ := hs.root
    have HQ := Lib.hid hq
    have HN := Lib.hid (show NodeAt wr q vp vk s.ps ks from HI.out.at_ hq)
    have hlen : s.ps.length ≤ 64 := by have := hnb.hi; have := HO.out.2; omega
    obtain ⟨i, hi0⟩ : ∃ i, i = fnd k s.ps := ⟨_, rfl⟩
    have HF := Lib.hid (show Calls Try.prog 31 #[.pointer (some ⟨q, 0, none⟩), strV k] wr fun e w' => e = .returned (.tuple #[.int .i64 (i : Int), .bool (hit k s.ps)]) ∧ Turn nowhere wr w' from by
      rw [hi0]
      exact find_walk HN.out (srt_top hnb hsr) (by omega))
    have HI0 := Lib.hid hi0
    have HLEN := Lib.hid hlen
    clear hs hnb hsr hge htr hq hlen hi0
    go_upto_region 2 with fail
    refine wp_region_lit ?_
    refine wpList_run (v := .pointer (some ⟨q, 0, none⟩)) (wanted_none rfl) (exec_move rfl rfl) ?_
    simp only [Act.put, List.setIfInBounds_toArray, List.set_cons_zero, List.set_cons_succ]
    refine wpList_run (v := .bool true) (wanted_none rfl) (ptr_neqS rfl rfl rfl rfl) ?_
    simp only [Act.put, List.setIfInBounds_toArray, List.set_cons_zero, List.set_cons_succ]
    go_upto_region 3 with fail
    refine wp_region_lit ?_
    refine wpList_run (v := .pointer (some ⟨q, 0, none⟩)) (wanted_none rfl) (exec_move rfl rfl) ?_
    simp only [Act.put, List.setIfInBounds_toArray, List.set_cons_zero, List.set_cons_succ]
    refine wpList_run (v := strV k) (wanted_none rfl) (exec_move rfl rfl) ?_
    simp only [Act.put, List.setIfInBounds_toArray, List.set_cons_zero, List.set_cons_succ]
    refine wpList_op rfl fun K9 HK9 => ?_
    go_wp2_with fail
    refine (HF.out).mono ?_
    rintro e w1 ⟨rfl, ht1⟩
    refine HK9.out _ _ ?_
    clear HK9
    try simp only [Act.put, List.setIfInBounds_toArray, List.set_cons_zero, List.set_cons_succ]
    refine wpList_run (v := .tuple #[.int .i64 (i : Int), .bool (hit k s.ps)]) (wanted_none rfl) (exec_move rfl rfl) ?_
    simp only [Act.put, List.setIfInBounds_toArray, List.set_cons_zero, List.set_cons_succ]
    refine wpList_run (v := .int .i64 (i : Int)) (wanted_none rfl) (ix_extract rfl rfl rfl) ?_
    simp only [Act.put, List.setIfInBounds_toArray, List.set_cons_zero, List.set_cons_succ]
    refine wpList_run (v := .bool (hit k s.ps)) (wanted_none rfl) (ix_extract rfl rfl rfl) ?_
    simp only [Act.put, List.setIfInBounds_toArray, List.set_cons_zero, List.set_cons_succ]
    refine wpList_run (v := .int .i64 (i : Int)) (wanted_none rfl) (gx_assign rfl rfl) ?_
    simp only [Act.put, List.setIfInBounds_toArray, List.set_cons_zero, List.set_cons_succ]
    refine wpList_run (v := .bool (hit k s.ps)) (wanted_none rfl) (gx_assign rfl rfl) ?_
    simp only [Act.put, List.setIfInBounds_toArray, List.set_cons_zero, List.set_cons_succ]
    have HT1 := Lib.hid (HTR.out.trans ht1 fun _ _ e => e)
    have HI1 := Lib.hid (HI.out.still ht1)
    have HN1 := Lib.hid (show NodeAt w1 q vp vk s.ps ks from HI1.out.at_ HQ.out)
    clear ht1
    cases hh : hit k s.ps with
    | true =>
      obtain ⟨u, hu, huk⟩ := hit_yes hh
      have HRET := Lib.hid (show retV (lget k l) = .tuple #[.int .i64 u.2, .bool true] from by
        rw [HG0.out, HGE.out]
        have h1 := HNB.out
        cases e with
        | zero =>
          have hg := tget_leaf (k := k) (t := s)
          have hh : hit k s.1 = true := hh
          have hu : s.1[fnd k s.1]? = some u := hu
          rw [hh, hu] at hg
          rw [hg]
          rfl
        | succ e =>
          have hlt : fnd k s.1 < s.2.length := by have := h1.2.2.1; have := fnd_le k s.1; omega
          rw [tget_yes (show s.1[fnd k s.1]? = some u from hu) huk (List.getElem?_eq_getElem hlt)]
          rfl)
      have HU := Lib.hid (show s.ps[i]? = some u from by rw [HI0.out]; exact hu)
      have hil : i < s.ps.length := (List.getElem?_eq_some_iff.1 HU.out).1
      obtain ⟨b, c, e9, _, _⟩ := HN1.out.prs.some_ (by rw [List.length_map]; omega)
      obtain ⟨n, hn⟩ : ∃ n, n = s.ps.length := ⟨_, rfl⟩
      replace e9 := e9.trans (show _ = Value.slice (some ⟨b, 0, none⟩) n c from by rw [List.length_map, hn])
      subst e9
      have HIL := Lib.hid (show i < n by omega)
      clear hh hu huk hil hn
      go_upto_region 4 with fail
      refine wp_region_lit ?_
      refine wpList_run (v := .bool (true)) (wanted_none rfl) (exec_move rfl rfl) ?_
      simp only [Act.put, List.setIfInBounds_toArray, List.set_cons_zero, List.set_cons_succ]
      go_upto_region 5 with fail
      refine wp_region_lit ?_
      refine wpList_run (v := .pointer (some ⟨q, 0, none⟩)) (wanted_none rfl) (exec_move rfl rfl) ?_
      simp only [Act.put, List.setIfInBounds_toArray, List.set_cons_zero, List.set_cons_succ]
      refine wpList_run (v := .pointer (some ⟨q, 0, none⟩)) (wanted_none rfl) (exec_nil rfl rfl) ?_
      simp only [Act.put, List.setIfInBounds_toArray, List.set_cons_zero, List.set_cons_succ]
      refine wpList_run (v := .pointer (some ⟨q, 0, none⟩)) (wanted_none rfl) (exec_field (off := 0) (d := 0) rfl rfl (by kernel_rfl)) ?_
      simp only [Act.put, List.setIfInBounds_toArray, List.set_cons_zero, List.set_cons_succ]
      refine wpList_run (v := .slice (some ⟨b, 0, none⟩) n c) (wanted_none rfl) (exec_load1 rfl rfl (by kernel_rfl) (HN1.out.blk.cell 0)) ?_
      simp only [Act.put, List.setIfInBounds_toArray, List.set_cons_zero, List.set_cons_succ]
      refine wpList_run (v := .int .i64 (i : Int)) (wanted_none rfl) (exec_move rfl rfl) ?_
      simp only [Act.put, List.setIfInBounds_toArray, List.set_cons_zero, List.set_cons_succ]
      refine wpList_run (v := .pointer (some ⟨b, 0 + i * 2, none⟩)) (wanted_none rfl) (gx_iaddr (i := i) (sz := 2) rfl rfl rfl Try.underlying59 size_pair HIL.out rfl) ?_
      simp only [Act.put, List.setIfInBounds_toArray, List.set_cons_zero, List.set_cons_succ]
      refine wpList_run (v := .pointer (some ⟨b, 0 + i * 2 + 1, none⟩)) (wanted_none rfl) (exec_field (off := 0 + i * 2) (d := 1) rfl rfl (by kernel_rfl)) ?_
      simp only [Act.put, List.setIfInBounds_toArray, List.set_cons_zero, List.set_cons_succ]
      refine wpList_run (v := .int .i64 u.2) (wanted_none rfl) (exec_load1 rfl rfl (by kernel_rfl) (HN1.out.prs.el0 (r := encP u) (by rw [List.getElem?_map, HU.out]; rfl) 1 _ rfl)) ?_
      simp only [Act.put, List.setIfInBounds_toArray, List.set_cons_zero, List.set_cons_succ]
      refine wpList_run (v := .int .i64 u.2) (wanted_none rfl) (gx_assign rfl rfl) ?_
      simp only [Act.put, List.setIfInBounds_toArray, List.set_cons_zero, List.set_cons_succ]
      refine wpList_run (v := .bool true) (wanted_none rfl) (gx_assign rfl rfl) ?_
      simp only [Act.put, List.setIfInBounds_toArray, List.set_cons_zero, List.set_cons_succ]
      go_wp2_with fail
      go_ret2
      rw [HRET.out]
      exact ⟨rfl, HT1.out⟩
    | false =>
      go_upto_region 4 with fail
      refine wp_region_lit ?_
      refine wpList_run (v := .bool (false)) (wanted_none rfl) (exec_move rfl rfl) ?_
      simp only [Act.put, List.setIfInBounds_toArray, List.set_cons_zero, List.set_cons_succ]
      go_upto_region 6 with fail
      refine wp_region_lit ?_
      refine wpList_run (v := .pointer (some ⟨q, 0, none⟩)) (wanted_none rfl) (exec_move rfl rfl) ?_
      simp only [Act.put, List.setIfInBounds_toArray, List.set_cons_zero, List.set_cons_succ]
      have hw := lowest_walk (ks := ks) HN1.out
      by_cases hks : ks = []
      · rw [show decide (ks = []) = true from decide_eq_true hks] at hw
        have HW := Lib.hid hw
        have HRET := Lib.hid (show retV (lget k l) = .tuple #[.int .i64 0, .bool false] from by
          rw [HG0.out, HGE.out]
          have h1 := HNB.out
          have h2 := HS.out
          have h3 := HQ.out
          cases e with
          | zero =>
            have hg := tget_leaf (k := k) (t := s)
            have hh : hit k s.1 = false := hh
            rw [hh] at hg
            rw [hg]
            rfl
          | succ e =>
            exfalso
            have := not_leaf h2 h1 ⟨_, _, h3⟩
            rw [hks] at this
            cases this)
        clear hw hh hks
        refine wpList_op rfl fun K9 HK9 => ?_
        go_wp2_with fail
        refine (HW.out).mono ?_
        rintro e w2 ⟨rfl, hw2⟩
        refine HK9.out _ _ ?_
        clear HK9
        try simp only [Act.put, List.setIfInBounds_toArray, List.set_cons_zero, List.set_cons_succ]
        subst hw2
        go_wp2_with fail
        go_ret2
        rw [HRET.out]
        exact ⟨rfl, HT1.out⟩
      · rw [show decide (ks = []) = false from decide_eq_false hks] at hw
        have HW := Lib.hid hw
        have key : ∃ (e' q' : Nat) (s' : Tr e') (G' : List Nat), e = e' + 1 ∧ ks[i]? = some q' ∧ TrAt H q' s' G' ∧ Nd (M / 2) M (M / 2) M s' ∧ Srt (flat s') ∧ tget k s = tget k s' := by
          have h1 := HNB.out
          have h2 := HS.out
          have h3 := HQ.out
          have h4 := HSR.out
          have h5 := HI0.out
          clear HGE HNB HS HQ HSR HI0 HF HN HN1
          cases e with
          | zero =>
            exfalso
            exact hks (Is.inj (show Is H q s.ps ks from ⟨_, _, h3⟩) h2.1).2
          | succ e =>
            have hlt : fnd k s.1 < s.2.length := by have := h1.2.2.1; have := fnd_le k s.1; omega
            obtain ⟨c, hc⟩ : ∃ c, s.2[fnd k s.1]? = some c := ⟨_, List.getElem?_eq_getElem hlt⟩
            obtain ⟨ks', F', g1, g2, _⟩ := h2
            obtain ⟨_, e9⟩ := Is.inj (show Is H q s.1 ks from ⟨_, _, h3⟩) g1
            subst e9
            obtain ⟨q', G', g3, g4, _⟩ := g2.get hc
            have h5 : i = fnd k s.1 := h5
            exact ⟨e, q', c, G', rfl, by rw [h5]; exact g3, g4, nd_kid h1 hc, srt_kid h1 h4 hc, tget_no (hit_no hh) hc⟩
        obtain ⟨e', q', s', G', he, hq', hs', hn', hsr', hg'⟩ := key
        have HEE := Lib.hid he
        have HQ' := Lib.hid hq'
        have HR := Lib.hid (show TrAt H q' s' G' ∧ Nd (M / 2) M (M / 2) M s' ∧ Srt (flat s') ∧ tget k t = tget k s' from ⟨hs', hn', hsr', HGE.out.trans hg'⟩)
        have hil : i < ks.length := (List.getElem?_eq_some_iff.1 hq').1
        obtain ⟨b, c, e9, _, _⟩ := HN1.out.kds.some_ (by rw [List.length_map]; omega)
        obtain ⟨n, hn⟩ : ∃ n, n = ks.length := ⟨_, rfl⟩
        replace e9 := e9.trans (show _ = Value.slice (some ⟨b, 0, none⟩) n c from by rw [List.length_map, hn])
        subst e9
        have HIL := Lib.hid (show i < n by omega)
        clear hw hh hks he hq' hs' hn' hsr' hg' hil hn
        refine wpList_op rfl fun K9 HK9 => ?_
        go_wp2_with fail
        refine (HW.out).mono ?_
        rintro e w2 ⟨rfl, hw2⟩
        refine HK9.out _ _ ?_
        clear HK9
        try simp only [Act.put, List.setIfInBounds_toArray, List.set_cons_zero, List.set_cons_succ]
        subst hw2
        go_upto_region 7 with fail
        refine wp_region_lit ?_
        refine wpList_run (v := .pointer (some ⟨q, 0, none⟩)) (wanted_none rfl) (exec_move rfl rfl) ?_
        simp only [Act.put, List.setIfInBounds_toArray, List.set_cons_zero, List.set_cons_succ]
        refine wpList_run (v := .pointer (some ⟨q, 0, none⟩)) (wanted_none rfl) (exec_nil rfl rfl) ?_
        simp only [Act.put, List.setIfInBounds_toArray, List.set_cons_zero, List.set_cons_succ]
        refine wpList_run (v := .pointer (some ⟨q, 1, none⟩)) (wanted_none rfl) (exec_field (off := 0) (d := 1) rfl rfl (by kernel_rfl)) ?_
        simp only [Act.put, List.setIfInBounds_toArray, List.set_cons_zero, List.set_cons_succ]
        refine wpList_run (v := .slice (some ⟨b, 0, none⟩) n c) (wanted_none rfl) (exec_load1 rfl rfl (by kernel_rfl) (HN1.out.blk.cell 1)) ?_
        simp only [Act.put, List.setIfInBounds_toArray, List.set_cons_zero, List.set_cons_succ]
        refine wpList_run (v := .int .i64 (i : Int)) (wanted_none rfl) (exec_move rfl rfl) ?_
        simp only [Act.put, List.setIfInBounds_toArray, List.set_cons_zero, List.set_cons_succ]
        refine wpList_run (v := .pointer (some ⟨b, 0 + i * 1, none⟩)) (wanted_none rfl) (gx_iaddr (i := i) (sz := 1) rfl rfl rfl Try.underlying60 size_ptr HIL.out rfl) ?_
        simp only [Act.put, List.setIfInBounds_toArray, List.set_cons_zero, List.set_cons_succ]
        refine wpList_run (v := .pointer (some ⟨q', 0, none⟩)) (wanted_none rfl) (exec_load1 rfl rfl (by kernel_rfl) (kid_cell HN1.out HQ'.out)) ?_
        simp only [Act.put, List.setIfInBounds_toArray, List.set_cons_zero, List.set_cons_succ]
        refine wpList_run (v := .pointer (some ⟨q', 0, none⟩)) (wanted_none rfl) (gx_assign rfl rfl) ?_
        simp only [Act.put, List.setIfInBounds_toArray, List.set_cons_zero, List.set_cons_succ]
        go_wp2_with fail
        go_roundg (e' + 1)
        case measure => have := HEE.out; omega
        case rel => exact ⟨e', q', M / 2, s', G', rfl, rfl, HR.out.1, HR.out.2.1, HR.out.2.2.1, HR.out.2.2.2, HT1.out⟩
/-- what a depth is: the levels of a tree that holds l -/
def DepthOf (M : Nat) (l : List Pr) (n : Nat) : Prop := (n = 0 ∧ l = []) ∨ ∃ (d : Nat) (t : Tr d), n = d + 1 ∧ Nd (M / 2) M 1 M t ∧ flat t = l
set_option maxRecDepth 20000 in
set_option maxHeartbeats 4000000 in
theorem Depth_walk {w : World} {x : Nat} {H : Hp} {M N : Nat} {l : List Pr} (h : Idx w x H M l N) :
    Calls Try.prog 20 #[.pointer (some ⟨x, 0, none⟩)] w fun e w' => (∃ n : Nat, e = .returned (.int .i64 (n : Int)) ∧ DepthOf M l n) ∧ w' = w := by
  obtain ⟨top, ch, hb, hch, htop⟩ := h.blk
  have HO := Lib.hid h.ord
  have HB := Lib.hid hb
  have HIN := Lib.hid h.hin
  have hbig : l.length ≤ 1099511627776 := Nat.le_trans h.cnt h.big
  clear h hb hch
  rcases htop with ⟨rfl, rfl⟩ | ⟨d, p, t, F, rfl, ht, hnd, hnb, hsr, hfl⟩
  · go_enter Try.func20, Try.ntmps20
    go_upto_region 1 with fail
    refine wp_region_lit ?_
    refine wpList_run (v := .pointer (some ⟨x, 0, none⟩)) (wanted_none rfl) (exec_move rfl rfl) ?_
    simp only [Act.put, List.setIfInBounds_toArray, List.set_cons_zero, List.set_cons_succ]
    refine wpList_run (v := .pointer (some ⟨x, 0, none⟩)) (wanted_none rfl) (exec_nil rfl rfl) ?_
    simp only [Act.put, List.setIfInBounds_toArray, List.set_cons_zero, List.set_cons_succ]
    refine wpList_run (v := .pointer (some ⟨x, 1, none⟩)) (wanted_none rfl) (exec_field (off := 0) (d := 1) rfl rfl (by kernel_rfl)) ?_
    simp only [Act.put, List.setIfInBounds_toArray, List.set_cons_zero, List.set_cons_succ]
    refine wpList_run (v := .pointer none) (wanted_none rfl) (exec_load1 rfl rfl (by kernel_rfl) (HB.out.cell 1)) ?_
    simp only [Act.put, List.setIfInBounds_toArray, List.set_cons_zero, List.set_cons_succ]
    refine wpList_run (v := .bool true) (wanted_none rfl) (ptr_nil rfl rfl rfl rfl) ?_
    simp only [Act.put, List.setIfInBounds_toArray, List.set_cons_zero, List.set_cons_succ]
    go_wp2_with fail
    go_ret
    exact ⟨⟨0, rfl, .inl ⟨rfl, rfl⟩⟩, rfl⟩
  · have hdd : d < 100 := by
      have h1 := flat_ge hnb
      rw [hfl] at h1
      have h2 : 2 ^ d ≤ (M / 2 + 1) ^ d := Nat.pow_le_pow_left (by have := HO.out; omega) d
      rcases Nat.lt_or_ge d 100 with h | h
      · exact h
      · exfalso
        have h3 : 2 ^ 100 ≤ 2 ^ d := Nat.pow_le_pow_right (by decide) h
        have h4 : (2 : Nat) ^ 100 = 1267650600228229401496703205376 := by decide
        have h5 : (1 + 1) * (M / 2 + 1) ^ d = 2 * (M / 2 + 1) ^ d := rfl
        omega
    have y1 : (d : Int) < 100 := by omega
    have HDO := Lib.hid (show DepthOf M l (d + 1) from .inr ⟨d, t, rfl, hnb, hfl⟩)
    have HT0 := Lib.hid ht
    have HNB0 := Lib.hid hnb
    clear hfl ht hnb hsr hnd hdd hbig
    go_enter Try.func20, Try.ntmps20
    go_upto_region 1 with fail
    refine wp_region_lit ?_
    refine wpList_run (v := .pointer (some ⟨x, 0, none⟩)) (wanted_none rfl) (exec_move rfl rfl) ?_
    simp only [Act.put, List.setIfInBounds_toArray, List.set_cons_zero, List.set_cons_succ]
    refine wpList_run (v := .pointer (some ⟨x, 0, none⟩)) (wanted_none rfl) (exec_nil rfl rfl) ?_
    simp only [Act.put, List.setIfInBounds_toArray, List.set_cons_zero, List.set_cons_succ]
    refine wpList_run (v := .pointer (some ⟨x, 1, none⟩)) (wanted_none rfl) (exec_field (off := 0) (d := 1) rfl rfl (by kernel_rfl)) ?_
    simp only [Act.put, List.setIfInBounds_toArray, List.set_cons_zero, List.set_cons_succ]
    refine wpList_run (v := .pointer (some ⟨p, 0, none⟩)) (wanted_none rfl) (exec_load1 rfl rfl (by kernel_rfl) (HB.out.cell 1)) ?_
    simp only [Act.put, List.setIfInBounds_toArray, List.set_cons_zero, List.set_cons_succ]
    refine wpList_run (v := .bool false) (wanted_none rfl) (ptr_some rfl rfl rfl rfl) ?_
    simp only [Act.put, List.setIfInBounds_toArray, List.set_cons_zero, List.set_cons_succ]
    go_upto_region 3 with fail
    refine wp_region_lit ?_
    refine wpList_run (v := .int .i64 1) (wanted_none rfl) (gx_assign rfl rfl) ?_
    simp only [Act.put, List.setIfInBounds_toArray, List.set_cons_zero, List.set_cons_succ]
    go_upto_region 4 with fail
    refine wp_region_lit ?_
    refine wpList_run (v := .pointer (some ⟨x, 0, none⟩)) (wanted_none rfl) (exec_move rfl rfl) ?_
    simp only [Act.put, List.setIfInBounds_toArray, List.set_cons_zero, List.set_cons_succ]
    refine wpList_run (v := .pointer (some ⟨x, 0, none⟩)) (wanted_none rfl) (exec_nil rfl rfl) ?_
    simp only [Act.put, List.setIfInBounds_toArray, List.set_cons_zero, List.set_cons_succ]
    refine wpList_run (v := .pointer (some ⟨x, 1, none⟩)) (wanted_none rfl) (exec_field (off := 0) (d := 1) rfl rfl (by kernel_rfl)) ?_
    simp only [Act.put, List.setIfInBounds_toArray, List.set_cons_zero, List.set_cons_succ]
    refine wpList_run (v := .pointer (some ⟨p, 0, none⟩)) (wanted_none rfl) (exec_load1 rfl rfl (by kernel_rfl) (HB.out.cell 1)) ?_
    simp only [Act.put, List.setIfInBounds_toArray, List.set_cons_zero, List.set_cons_succ]
    refine wpList_run (v := .pointer (some ⟨p, 0, none⟩)) (wanted_none rfl) (gx_assign rfl rfl) ?_
    simp only [Act.put, List.setIfInBounds_toArray, List.set_cons_zero, List.set_cons_succ]
    go_wp2_with fail
    go_loopg [3, 4] d (fun gk nv pv wr => ∃ (n q lo : Nat) (s : Tr gk) (G : List Nat), n + gk = d + 1 ∧ nv = .int .i64 (n : Int) ∧ pv = .pointer (some ⟨q, 0, none⟩) ∧ TrAt H q s G ∧ Nd (M / 2) M lo M s ∧ wr = w)
    case atStart => exact ⟨1, p, 1, t, F, by omega, rfl, rfl, HT0.out, HNB0.out, rfl⟩
    obtain ⟨n, q, lo, s, G, hn, rfl, rfl, hs, hnb, rfl⟩ := hrel
    have HS := Lib.hid hs
    have HNB := Lib.hid hnb
    have HNN := Lib.hid hn
    obtain ⟨vp, vk, ks, hq⟩ := hs.root
    have HQ := Lib.hid hq
    have HN := Lib.hid (show NodeAt wr q vp vk s.ps ks from HIN.out.at_ hq)
    have hw := lowest_walk HN.out
    have y2 : (n : Int) ≤ 101 := by omega
    clear hs hnb hq hn
    by_cases hks : ks = []
    · rw [show decide (ks = []) = true from decide_eq_true hks] at hw
      have HW := Lib.hid hw
      have HNE := Lib.hid (show n = d + 1 from by
        have h1 := HNB.out
        have h2 := HS.out
        have h3 := HQ.out
        have h4 := HNN.out
        cases gk with
        | zero => omega
        | succ e =>
          exfalso
          have := not_leaf h2 h1 ⟨_, _, h3⟩
          rw [hks] at this
          cases this)
      clear hw hks
      go_upto_region 5 with fail
      refine wp_region_lit ?_
      refine wpList_run (v := .pointer (some ⟨q, 0, none⟩)) (wanted_none rfl) (exec_move rfl rfl) ?_
      simp only [Act.put, List.setIfInBounds_toArray, List.set_cons_zero, List.set_cons_succ]
      refine wpList_op rfl fun K9 HK9 => ?_
      go_wp2_with fail
      refine (HW.out).mono ?_
      rintro e w2 ⟨rfl, hw2⟩
      refine HK9.out _ _ ?_
      clear HK9
      try simp only [Act.put, List.setIfInBounds_toArray, List.set_cons_zero, List.set_cons_succ]
      subst hw2
      refine wpList_run (v := .bool false) (wanted_none rfl) (ix_not (b := true) rfl rfl) ?_
      simp only [Act.put, List.setIfInBounds_toArray, List.set_cons_zero, List.set_cons_succ]
      go_wp2_with fail
      go_ret
      exact ⟨⟨n, rfl, by rw [HNE.out]; exact HDO.out⟩, rfl⟩
    · rw [show decide (ks = []) = false from decide_eq_false hks] at hw
      have HW := Lib.hid hw
      have key : ∃ (e' q' : Nat) (s' : Tr e') (G' : List Nat), gk = e' + 1 ∧ ks[0]? = some q' ∧ TrAt H q' s' G' ∧ Nd (M / 2) M (M / 2) M s' := by
        have h1 := HNB.out
        have h2 := HS.out
        have h3 := HQ.out
        clear HNB HS HQ HN HNN
        cases gk with
        | zero =>
          exfalso
          exact hks (Is.inj (show Is H q s.ps ks from ⟨_, _, h3⟩) h2.1).2
        | succ e =>
          have hlt : 0 < s.2.length := by have := h1.2.2.1; omega
          obtain ⟨c, hc⟩ : ∃ c, s.2[0]? = some c := ⟨_, List.getElem?_eq_getElem hlt⟩
          obtain ⟨ks', F', g1, g2, _⟩ := h2
          obtain ⟨_, e9⟩ := Is.inj (show Is H q s.1 ks from ⟨_, _, h3⟩) g1
          subst e9
          obtain ⟨q', G', g3, g4, _⟩ := g2.get hc
          exact ⟨e, q', c, G', rfl, g3, g4, nd_kid h1 hc⟩
      obtain ⟨e', q', s', G', he, hq', hs', hn'⟩ := key
      have HEE := Lib.hid he
      have HQ' := Lib.hid hq'
      have HR := Lib.hid (show TrAt H q' s' G' ∧ Nd (M / 2) M (M / 2) M s' from ⟨hs', hn'⟩)
      have hil : 0 < ks.length := (List.getElem?_eq_some_iff.1 hq').1
      obtain ⟨b, c, e9, _, _⟩ := HN.out.kds.some_ (by rw [List.length_map]; omega)
      obtain ⟨m, hm⟩ : ∃ n, n = ks.length := ⟨_, rfl⟩
      replace e9 := e9.trans (show _ = Value.slice (some ⟨b, 0, none⟩) m c from by rw [List.length_map, hm])
      subst e9
      have HIL := Lib.hid (show 0 < m by omega)
      clear hw hks he hq' hs' hn' hil hm
      go_upto_region 5 with fail
      refine wp_region_lit ?_
      refine wpList_run (v := .pointer (some ⟨q, 0, none⟩)) (wanted_none rfl) (exec_move rfl rfl) ?_
      simp only [Act.put, List.setIfInBounds_toArray, List.set_cons_zero, List.set_cons_succ]
      refine wpList_op rfl fun K9 HK9 => ?_
      go_wp2_with fail
      refine (HW.out).mono ?_
      rintro e w2 ⟨rfl, hw2⟩
      refine HK9.out _ _ ?_
      clear HK9
      try simp only [Act.put, List.setIfInBounds_toArray, List.set_cons_zero, List.set_cons_succ]
      subst hw2
      refine wpList_run (v := .bool true) (wanted_none rfl) (ix_not (b := false) rfl rfl) ?_
      simp only [Act.put, List.setIfInBounds_toArray, List.set_cons_zero, List.set_cons_succ]
      go_upto_region 7 with fail
      refine wp_region_lit ?_
      refine wpList_run (v := .int .i64 (n : Int)) (wanted_none rfl) (exec_move rfl rfl) ?_
      simp only [Act.put, List.setIfInBounds_toArray, List.set_cons_zero, List.set_cons_succ]
      refine wpList_run (v := .int .i64 ((n + 1 : Nat) : Int)) (wanted_none rfl) (ix_add rfl rfl rfl (by omega) (by omega)) ?_
      simp only [Act.put, List.setIfInBounds_toArray, List.set_cons_zero, List.set_cons_succ]
      refine wpList_run (v := .int .i64 ((n + 1 : Nat) : Int)) (wanted_none rfl) (gx_assign rfl rfl) ?_
      simp only [Act.put, List.setIfInBounds_toArray, List.set_cons_zero, List.set_cons_succ]
      go_upto_region 6 with fail
      refine wp_region_lit ?_
      refine wpList_run (v := .pointer (some ⟨q, 0, none⟩)) (wanted_none rfl) (exec_move rfl rfl) ?_
      simp only [Act.put, List.setIfInBounds_toArray, List.set_cons_zero, List.set_cons_succ]
      refine wpList_run (v := .pointer (some ⟨q, 0, none⟩)) (wanted_none rfl) (exec_nil rfl rfl) ?_
      simp only [Act.put, List.setIfInBounds_toArray, List.set_cons_zero, List.set_cons_succ]
      refine wpList_run (v := .pointer (some ⟨q, 1, none⟩)) (wanted_none rfl) (exec_field (off := 0) (d := 1) rfl rfl (by kernel_rfl)) ?_
      simp only [Act.put, List.setIfInBounds_toArray, List.set_cons_zero, List.set_cons_succ]
      refine wpList_run (v := .slice (some ⟨b, 0, none⟩) m c) (wanted_none rfl) (exec_load1 rfl rfl (by kernel_rfl) (HN.out.blk.cell 1)) ?_
      simp only [Act.put, List.setIfInBounds_toArray, List.set_cons_zero, List.set_cons_succ]
      refine wpList_run (v := .pointer (some ⟨b, 0 + 0 * 1, none⟩)) (wanted_none rfl) (gx_iaddr (i := 0) (sz := 1) rfl rfl rfl Try.underlying60 size_ptr HIL.out rfl) ?_
      simp only [Act.put, List.setIfInBounds_toArray, List.set_cons_zero, List.set_cons_succ]
      refine wpList_run (v := .pointer (some ⟨q', 0, none⟩)) (wanted_none rfl) (exec_load1 rfl rfl (by kernel_rfl) (kid_cell HN.out HQ'.out)) ?_
      simp only [Act.put, List.setIfInBounds_toArray, List.set_cons_zero, List.set_cons_succ]
      refine wpList_run (v := .pointer (some ⟨q', 0, none⟩)) (wanted_none rfl) (gx_assign rfl rfl) ?_
      simp only [Act.put, List.setIfInBounds_toArray, List.set_cons_zero, List.set_cons_succ]
      go_wp2_with fail
      go_roundg e'
      case measure => have := HEE.out; omega
      case rel => exact ⟨n + 1, q', M / 2, s', G', by have := HEE.out; have := HNN.out; omega, rfl, rfl, HR.out.1, HR.out.2, rfl⟩
end Go.Proofs.Ytmlkdkbpbleilaa

namespace Go.Proofs.Ytmlkdkbpbleilaa
open Go.RowKit
open Ix
set_option linter.unusedVariables false
set_option linter.unusedSimpArgs false
/-- all of a row are below the end -/
def Ok (to : Key) (a : List Pr) : Prop := ∀ q ∈ a, stopAt to q = false
theorem Ok.app {to : Key} {a b : List Pr} (h : Ok to a) (g : Ok to b) : Ok to (a ++ b) := fun q hq => (List.mem_append.1 hq).elim (h q) (g q)
/-- told so far l, r was to come: somebody stopped -/
def Stops (to : Key) (J Jx : List Pr → World → Prop) (l r : List Pr) (W : World) : Prop :=
  (∃ a p b, r = a ++ p :: b ∧ Ok to a ∧ stopAt to p = true ∧ J (l ++ a) W) ∨ ∃ a b, r = a ++ b ∧ Ok to a ∧ Jx (l ++ a) W
theorem Stops.pre {to : Key} {J Jx : List Pr → World → Prop} {l c r : List Pr} {W : World} (hc : Ok to c) (h : Stops to J Jx (l ++ c) r W) : Stops to J Jx l (c ++ r) W := by
  rcases h with ⟨a, p, b, rfl, h1, h2, h3⟩ | ⟨a, b, rfl, h1, h2⟩
  · exact .inl ⟨c ++ a, p, b, by simp, hc.app h1, h2, by rwa [← List.append_assoc]⟩
  · exact .inr ⟨c ++ a, b, by simp, hc.app h1, by rwa [← List.append_assoc]⟩
theorem Stops.app {to : Key} {J Jx : List Pr → World → Prop} {l r : List Pr} {W : World} (s : List Pr) (h : Stops to J Jx l r W) : Stops to J Jx l (r ++ s) W := by
  rcases h with ⟨a, p, b, rfl, h1, h2, h3⟩ | ⟨a, b, rfl, h1, h2⟩
  · exact .inl ⟨a, p, b ++ s, by simp, h1, h2, h3⟩
  · exact .inr ⟨a, b ++ s, by simp, h1, h2⟩
/-- how going through r ends, behind l -/
def WEnd (to : Key) (J Jx : List Pr → World → Prop) (l r : List Pr) (e : Ending) (W : World) : Prop :=
  (e = .returned (.bool true) ∧ Ok to r ∧ J (l ++ r) W) ∨ (e = .returned (.bool false) ∧ Stops to J Jx l r W)
theorem WEnd.pre {to : Key} {J Jx : List Pr → World → Prop} {l c r : List Pr} {e : Ending} {W : World} (hc : Ok to c) (h : WEnd to J Jx (l ++ c) r e W) : WEnd to J Jx l (c ++ r) e W := by
  rcases h with ⟨h1, h2, h3⟩ | ⟨h1, h2⟩
  · exact .inl ⟨h1, hc.app h2, by rwa [← List.append_assoc]⟩
  · exact .inr ⟨h1, h2.pre hc⟩
theorem WEnd.nil {to : Key} {J Jx : List Pr → World → Prop} {l : List Pr} {W : World} (h : J l W) : WEnd to J Jx l [] (.returned (.bool true)) W :=
  .inl ⟨rfl, fun q hq => absurd hq List.not_mem_nil, by rw [List.append_nil]; exact h⟩
/-- there is room for all that comes -/
def Room (to : Key) (N : Nat) (l r : List Pr) : Prop := ∀ a p b, r = a ++ p :: b → Ok to (a ++ [p]) → l.length + a.length < N
theorem Room.left {to : Key} {N : Nat} {l r s : List Pr} (h : Room to N l (r ++ s)) : Room to N l r := fun a p b e g => h a p (b ++ s) (by rw [e]; simp) g
theorem Room.right {to : Key} {N : Nat} {l r s : List Pr} (h : Room to N l (r ++ s)) (hr : Ok to r) : Room to N (l ++ r) s := fun a p b e g => by
  have := h (r ++ a) p b (by rw [e]; simp) (by rw [List.append_assoc]; exact hr.app g)
  rw [List.length_append] at this ⊢
  omega
theorem Room.head {to : Key} {N : Nat} {l r : List Pr} {p : Pr} (h : Room to N l (p :: r)) (hp : stopAt to p = false) : l.length < N := by
  have := h [] p r rfl (fun q hq => by
    rw [List.nil_append, List.mem_singleton] at hq
    rw [hq]; exact hp)
  simpa using this
/-- behind the kid at i: pairs and kids -/
def tlr (K : Nat → List Pr) : List Pr → Nat → List Pr
  | [], _ => []
  | p :: ps, i => p :: (K (i + 1) ++ tlr K ps (i + 1))
def telV (y x b : Nat) : Value := .func (.func 36) #[] #[.pointer (some ⟨y, 0, none⟩), .pointer (some ⟨x, 0, none⟩), .pointer (some ⟨b, 0, none⟩)]
/-- what is asked of who is told -/
def TellC (y x b : Nat) (J Jx : List Pr → World → Prop) (N : Nat) : Prop := ∀ (l : List Pr) (p : Pr) (W : World), J l W → l.length < N →
  Calls Try.prog 36 #[.agg (encP p).toArray, .pointer (some ⟨y, 0, none⟩), .pointer (some ⟨x, 0, none⟩), .pointer (some ⟨b, 0, none⟩)] W fun e W' => (e = .returned (.bool true) ∧ J (l ++ [p]) W') ∨ (e = .returned (.bool false) ∧ Jx (l ++ [p]) W')
def JT (J : List Pr → World → Prop) : Prop := ∀ l W W', J l W → Turn nowhere W W' → J l W'
def WalkC (y x b : Nat) (fr to : Key) (J Jx : List Pr → World → Prop) (N : Nat) (p : Nat) (r : List Pr) : Prop := ∀ (l : List Pr) (W : World), J l W → Room to N l r →
  Calls Try.prog 35 #[.pointer (some ⟨p, 0, none⟩), strV fr, strV to, telV y x b] W (WEnd to J Jx l r)
theorem node_cell0 {w : World} {p : Nat} {vp vk : Value} {ps : List Pr} {ks : List Nat} (h : NodeAt w p vp vk ps ks) : w.cell? ⟨p, 0, none⟩ = some vp := h.blk.cell 0
theorem pair_cell0 {w : World} {b n c : Nat} {ps : List Pr} {i : Nat} {u : Pr} (h : Orw w 0 65 2 (.slice (some ⟨b, 0, none⟩) n c) (ps.map encP)) (hu : ps[i]? = some u) : w.cell? ⟨b, i * 2, none⟩ = some (strV u.1) := by
  have := h.el0 (r := encP u) (by rw [List.getElem?_map, hu]; rfl) 0 _ rfl
  rwa [Nat.zero_add] at this
theorem pair_cell1 {w : World} {b n c : Nat} {ps : List Pr} {i : Nat} {u : Pr} (h : Orw w 0 65 2 (.slice (some ⟨b, 0, none⟩) n c) (ps.map encP)) (hu : ps[i]? = some u) : w.cell? ⟨b, i * 2 + 1, none⟩ = some (.int .i64 u.2) := by
  have := h.el0 (r := encP u) (by rw [List.getElem?_map, hu]; rfl) 1 _ rfl
  rwa [Nat.zero_add] at this
theorem stopAt_nil (p : Pr) : stopAt [] p = false := rfl
theorem stopAt_some {to : Key} (h : to ≠ []) (p : Pr) : stopAt to p = !klt p.1 to := by
  unfold stopAt
  rw [show (to != []) = true from by simpa using h, Bool.true_and]
set_option maxRecDepth 20000 in
set_option maxHeartbeats 8000000 in
theorem walk_node {H : Hp} {y x b : Nat} {fr to : Key} {J Jx : List Pr → World → Prop} {N : Nat} (hT : TellC y x b J Jx N) (hJ : JT J) (hin : ∀ l W, J l W → In W H) {p : Nat} {ps : List Pr} {ks : List Nat} {vp vk : Value} (hp : H p = some ⟨ps, ks, vp, vk⟩)
    (hs : Srt ps) (hl : ps.length ≤ 64) {f : Nat} (hf : f = fnd fr ps) {K : Nat → List Pr} (hk : (ks = [] ∧ ∀ i, K i = []) ∨ (ks ≠ [] ∧ ∀ i, f ≤ i → i ≤ ps.length → ∃ kp, ks[i]? = some kp ∧ WalkC y x b fr to J Jx N kp (K i))) :
    WalkC y x b fr to J Jx N p (K f ++ tlr K (ps.drop f) f) := by
  intro l W h1 h3
  have HTE := Lib.hid hT
  have HJT := Lib.hid hJ
  have HIN := Lib.hid hin
  have HP := Lib.hid hp
  have HK := Lib.hid hk
  have HLN := Lib.hid hl
  have HFN := Lib.hid (show f ≤ ps.length from by rw [hf]; exact fnd_le _ _)
  have HF := Lib.hid (show Calls Try.prog 31 #[.pointer (some ⟨p, 0, none⟩), strV fr] W fun e w' => e = .returned (.tuple #[.int .i64 (f : Int), .bool (hit fr ps)]) ∧ Turn nowhere W w' from by
    rw [hf]
    exact find_walk ((hin _ _ h1).at_ hp) hs (by omega))
  have HJ0 := Lib.hid h1
  have HR0 := Lib.hid h3
  obtain ⟨r0, hr0⟩ : ∃ r, r = K f ++ tlr K (ps.drop f) f := ⟨_, rfl⟩
  have HR0E := Lib.hid hr0
  rw [← hr0]
  obtain ⟨n, hn⟩ : ∃ n, n = ps.length := ⟨_, rfl⟩
  have HN := Lib.hid hn
  clear h1 h3 hT hJ hin hp hk hf hs hl hr0 hn
  have HFN2 := Lib.hid (show f ≤ n from by rw [HN.out]; exact HFN.out)
  have HN64 := Lib.hid (show n ≤ 64 from by rw [HN.out]; exact HLN.out)
  have y9 : (n : Int) ≤ 64 := by have := HN64.out; omega
  have y8 : (f : Int) ≤ (n : Int) := by have := HFN2.out; omega
  unfold telV
  go_enter Try.func35, Try.ntmps35
  go_upto_region 0 with fail
  refine wp_region_lit ?_
  refine wpList_run (v := .bool false) (wanted_none rfl) (gx_assign rfl rfl) ?_
  simp only [Act.put, List.setIfInBounds_toArray, List.set_cons_zero, List.set_cons_succ]
  go_upto_region 1 with fail
  refine wp_region_lit ?_
  refine wpList_run (v := .pointer (some ⟨p, 0, none⟩)) (wanted_none rfl) (exec_move rfl rfl) ?_
  simp only [Act.put, List.setIfInBounds_toArray, List.set_cons_zero, List.set_cons_succ]
  refine wpList_run (v := strV fr) (wanted_none rfl) (exec_move rfl rfl) ?_
  simp only [Act.put, List.setIfInBounds_toArray, List.set_cons_zero, List.set_cons_succ]
  refine wpList_op rfl fun K9 HK9 => ?_
  go_wp2_with fail
  refine (HF.out).mono ?_
  rintro e w1 ⟨rfl, ht1⟩
  refine HK9.out _ _ ?_
  clear HK9
  try simp only [Act.put, List.setIfInBounds_toArray, List.set_cons_zero, List.set_cons_succ]
  refine wpList_run (v := .tuple #[.int .i64 (f : Int), .bool (hit fr ps)]) (wanted_none rfl) (exec_move rfl rfl) ?_
  simp only [Act.put, List.setIfInBounds_toArray, List.set_cons_zero, List.set_cons_succ]
  refine wpList_run (v := .int .i64 (f : Int)) (wanted_none rfl) (ix_extract rfl rfl rfl) ?_
  simp only [Act.put, List.setIfInBounds_toArray, List.set_cons_zero, List.set_cons_succ]
  refine wpList_run (v := .bool (hit fr ps)) (wanted_none rfl) (ix_extract rfl rfl rfl) ?_
  simp only [Act.put, List.setIfInBounds_toArray, List.set_cons_zero, List.set_cons_succ]
  refine wpList_run (v := .int .i64 (f : Int)) (wanted_none rfl) (gx_assign rfl rfl) ?_
  simp only [Act.put, List.setIfInBounds_toArray, List.set_cons_zero, List.set_cons_succ]
  refine wpList_run (v := .bool (hit fr ps)) (wanted_none rfl) (gx_assign rfl rfl) ?_
  simp only [Act.put, List.setIfInBounds_toArray, List.set_cons_zero, List.set_cons_succ]
  have HJ1 := Lib.hid (HJT.out _ _ _ HJ0.out ht1)
  clear ht1
  go_wp2_with fail
  go_loopg [9] (n - f) (fun gk iv wr => ∃ (i : Nat) (l1 : List Pr), iv = .int .i64 (i : Int) ∧ i + gk = n ∧ f ≤ i ∧ J l1 wr ∧ Room to N l1 (K i ++ tlr K (ps.drop i) i) ∧ ∀ e W', WEnd to J Jx l1 (K i ++ tlr K (ps.drop i) i) e W' → WEnd to J Jx l r0 e W')
  case atStart => exact ⟨f, l, rfl, by have := HFN2.out; omega, Nat.le_refl _, HJ1.out, HR0.out, fun e W' h => by rw [HR0E.out]; exact h⟩
  obtain ⟨i, l1, rfl, hgk, hfi, hj, hr, hfin⟩ := hrel
  have HGK := Lib.hid hgk
  have HFI := Lib.hid hfi
  have HIN2 := Lib.hid (show i ≤ n from by omega)
  have HJ := Lib.hid hj
  have HR := Lib.hid hr
  have HFIN := Lib.hid hfin
  have y1 : (i : Int) ≤ (n : Int) := by omega
  have HI := Lib.hid (HIN.out _ _ hj)
  have HW := Lib.hid (lowest_walk (HI.out.at_ HP.out))
  clear hgk hfi hj hr hfin
  rcases HK.out with ⟨hks, hk0⟩ | ⟨hks, hkid⟩
  · rw [show decide (ks = []) = true from decide_eq_true hks] at HW
    rw [hk0 i] at HR HFIN
    have HJ2 := HJ
    have HR2 := Lib.hid (show Room to N l1 (tlr K (ps.drop i) i) from HR.out)
    have HF2 := Lib.hid (show ∀ e W', WEnd to J Jx l1 (tlr K (ps.drop i) i) e W' → WEnd to J Jx l r0 e W' from HFIN.out)
    obtain ⟨l2, hl2⟩ : ∃ l2, l2 = l1 := ⟨_, rfl⟩
    rw [← hl2] at HJ2 HR2 HF2
    clear hl2 hks hk0
    go_upto_region 3 with fail
    rename_i K8 hK8
    have HKB := Lib.hid hK8
    clear hK8
    refine wp_region_lit ?_
    refine wpList_run (v := .pointer (some ⟨p, 0, none⟩)) (wanted_none rfl) (exec_move rfl rfl) ?_
    simp only [Act.put, List.setIfInBounds_toArray, List.set_cons_zero, List.set_cons_succ]
    refine wpList_op (wanted_none rfl) fun K9 HK9 => ?_
    go_wp2_with fail
    refine (HW.out).mono ?_
    rintro e w2 ⟨rfl, hw2⟩
    refine HK9.out _ _ ?_
    clear HK9
    try simp only [Act.put, List.setIfInBounds_toArray, List.set_cons_zero, List.set_cons_succ]
    subst hw2
    refine wpList_run (v := .bool false) (wanted_none rfl) (ix_not (b := true) rfl rfl) ?_
    simp only [Act.put, List.setIfInBounds_toArray, List.set_cons_zero, List.set_cons_succ]
    refine wpList_run (v := .bool false) (wanted_none rfl) (exec_move rfl rfl) ?_
    simp only [Act.put, List.setIfInBounds_toArray, List.set_cons_zero, List.set_cons_succ]
    go_wp2_with fail
    refine HKB.out _ _ ?_
    have HI2 := Lib.hid (HIN.out _ _ HJ2.out)
    obtain ⟨AP, cP, e9, _, _, _, _⟩ := (HI2.out.at_ HP.out).prs.form
    rw [List.length_map] at e9
    replace e9 := e9.trans (show _ = Value.slice AP n cP from by rw [HN.out])
    subst e9
    by_cases hin : i < n
    · have y2 : (i : Int) < (n : Int) := by omega
      have HIL := Lib.hid hin
      go_upto_region 5 with fail
      refine wp_region_lit ?_
      refine wpList_run (v := .int .i64 (i : Int)) (wanted_none rfl) (exec_move rfl rfl) ?_
      simp only [Act.put, List.setIfInBounds_toArray, List.set_cons_zero, List.set_cons_succ]
      refine wpList_run (v := .pointer (some ⟨p, 0, none⟩)) (wanted_none rfl) (exec_move rfl rfl) ?_
      simp only [Act.put, List.setIfInBounds_toArray, List.set_cons_zero, List.set_cons_succ]
      refine wpList_run (v := .pointer (some ⟨p, 0, none⟩)) (wanted_none rfl) (exec_nil rfl rfl) ?_
      simp only [Act.put, List.setIfInBounds_toArray, List.set_cons_zero, List.set_cons_succ]
      refine wpList_run (v := .pointer (some ⟨p, 0, none⟩)) (wanted_none rfl) (exec_field (off := 0) (d := 0) rfl rfl (by kernel_rfl)) ?_
      simp only [Act.put, List.setIfInBounds_toArray, List.set_cons_zero, List.set_cons_succ]
      refine wpList_run (v := .slice AP n cP) (wanted_none rfl) (exec_load1 rfl rfl (by kernel_rfl) ((HI2.out.at_ HP.out).blk.cell 0)) ?_
      simp only [Act.put, List.setIfInBounds_toArray, List.set_cons_zero, List.set_cons_succ]
      refine wpList_run (v := .int .i64 (n : Int)) (wanted_none rfl) (gx_len rfl rfl Try.underlying59) ?_
      simp only [Act.put, List.setIfInBounds_toArray, List.set_cons_zero, List.set_cons_succ]
      refine wpList_run (v := .bool false) (wanted_none rfl) (ix_eql rfl rfl rfl (decide_eq_false (by omega))) ?_
      simp only [Act.put, List.setIfInBounds_toArray, List.set_cons_zero, List.set_cons_succ]
      obtain ⟨bP, cP2, e8, _, _⟩ := (HI2.out.at_ HP.out).prs.some_ (by rw [List.length_map, ← HN.out]; omega)
      rw [List.length_map] at e8
      replace e8 := e8.trans (show _ = Value.slice (some ⟨bP, 0, none⟩) n cP2 from by rw [HN.out])
      injection e8 with e5 e6 e7
      subst e5 e7
      obtain ⟨u, hu⟩ : ∃ u, ps[i]? = some u := ⟨_, List.getElem?_eq_getElem (show i < ps.length from by rw [← HN.out]; exact hin)⟩
      have HU := Lib.hid hu
      have HDR := Lib.hid (show ps.drop i = u :: ps.drop (i + 1) from by
        obtain ⟨h1, h2⟩ := List.getElem?_eq_some_iff.1 hu
        rw [List.drop_eq_getElem_cons h1, h2])
      rw [HDR.out] at HR2 HF2
      clear e6 hu hin
      go_upto_region 7 with fail
      rename_i K9 hK9
      have HKC := Lib.hid hK9
      clear hK9
      refine wp_region_lit ?_
      refine wpList_run (v := strV to) (wanted_none rfl) (exec_move rfl rfl) ?_
      simp only [Act.put, List.setIfInBounds_toArray, List.set_cons_zero, List.set_cons_succ]
      by_cases hto : to = []
      · have HSF := Lib.hid (show stopAt to u = false from by rw [hto]; rfl)
        have HTN := Lib.hid (show (!(to == ([] : Key))) = false from by rw [hto]; rfl)
        clear hto
        refine wpList_run (v := .bool false) (wanted_none rfl) ((exec_sneq (l := to) (m := []) rfl rfl rfl).trans (by rw [HTN.out])) ?_
        simp only [Act.put, List.setIfInBounds_toArray, List.set_cons_zero, List.set_cons_succ]
        refine wpList_run (v := .bool false) (wanted_none rfl) (exec_move rfl rfl) ?_
        simp only [Act.put, List.setIfInBounds_toArray, List.set_cons_zero, List.set_cons_succ]
        have hc := node_cell0 (HI2.out.at_ HP.out)
        have hc1 := pair_cell0 (HI2.out.at_ HP.out).prs HU.out
        have hc2 := pair_cell1 (HI2.out.at_ HP.out).prs HU.out
        have HTL := Lib.hid (HTE.out l2 u _ HJ2.out (HR2.out.head HSF.out))
        go_wp2_with fail
        refine HTL.out.mono ?_
        rintro e W3 (⟨rfl, hj3⟩ | ⟨rfl, hx3⟩)
        · have HJ3 := Lib.hid hj3
          clear hj3
          go_wp2_with fail
          refine HKC.out _ _ ?_
          go_upto_region 2 with fail
          refine wp_region_lit ?_
          refine wpList_run (v := .int .i64 (i : Int)) (wanted_none rfl) (exec_move rfl rfl) ?_
          simp only [Act.put, List.setIfInBounds_toArray, List.set_cons_zero, List.set_cons_succ]
          refine wpList_run (v := .int .i64 ((i + 1 : Nat) : Int)) (wanted_none rfl) (ix_add rfl rfl rfl (by omega) (by omega)) ?_
          simp only [Act.put, List.setIfInBounds_toArray, List.set_cons_zero, List.set_cons_succ]
          refine wpList_run (v := .int .i64 ((i + 1 : Nat) : Int)) (wanted_none rfl) (gx_assign rfl rfl) ?_
          simp only [Act.put, List.setIfInBounds_toArray, List.set_cons_zero, List.set_cons_succ]
          go_wp2_with fail
          go_roundg (n - (i + 1))
          case measure => have := HGK.out; have := HIL.out; omega
          case rel =>
            have hok : Ok to [u] := fun q hq => by rw [List.mem_singleton] at hq; rw [hq]; exact HSF.out
            exact ⟨i + 1, l2 ++ [u], rfl, by have := HIL.out; omega, by have := HFI.out; omega, HJ3.out, Room.right (r := [u]) HR2.out hok, fun e W' h => HF2.out e W' (WEnd.pre (c := [u]) hok h)⟩
        · have HX3 := Lib.hid hx3
          clear hx3
          go_wp2_with fail
          refine HKC.out _ _ ?_
          go_upto_region 8 with fail
          refine wp_region_lit ?_
          refine wpList_run (v := .bool false) (wanted_none rfl) (gx_assign rfl rfl) ?_
          simp only [Act.put, List.setIfInBounds_toArray, List.set_cons_zero, List.set_cons_succ]
          go_wp2_with fail
          go_ret
          exact HF2.out _ _ (.inr ⟨rfl, .inr ⟨[u], _, rfl, fun q hq => by rw [List.mem_singleton] at hq; rw [hq]; exact HSF.out, HX3.out⟩⟩)
      · have HTN := Lib.hid (show (!(to == ([] : Key))) = true from by simpa using hto)
        have HST := Lib.hid (stopAt_some hto u)
        clear hto
        refine wpList_run (v := .bool true) (wanted_none rfl) ((exec_sneq (l := to) (m := []) rfl rfl rfl).trans (by rw [HTN.out])) ?_
        simp only [Act.put, List.setIfInBounds_toArray, List.set_cons_zero, List.set_cons_succ]
        refine wpList_run (v := .bool true) (wanted_none rfl) (exec_move rfl rfl) ?_
        simp only [Act.put, List.setIfInBounds_toArray, List.set_cons_zero, List.set_cons_succ]
        refine wpList_run (v := .pointer (some ⟨p, 0, none⟩)) rfl (exec_move rfl rfl) ?_
        simp only [Act.put, List.setIfInBounds_toArray, List.set_cons_zero, List.set_cons_succ]
        refine wpList_run (v := .pointer (some ⟨p, 0, none⟩)) rfl (exec_nil rfl rfl) ?_
        simp only [Act.put, List.setIfInBounds_toArray, List.set_cons_zero, List.set_cons_succ]
        refine wpList_run (v := .pointer (some ⟨p, 0, none⟩)) rfl (exec_field (off := 0) (d := 0) rfl rfl (by kernel_rfl)) ?_
        simp only [Act.put, List.setIfInBounds_toArray, List.set_cons_zero, List.set_cons_succ]
        refine wpList_run (v := .slice (some ⟨bP, 0, none⟩) n cP) rfl (exec_load1 rfl rfl (by kernel_rfl) ((HI2.out.at_ HP.out).blk.cell 0)) ?_
        simp only [Act.put, List.setIfInBounds_toArray, List.set_cons_zero, List.set_cons_succ]
        refine wpList_run (v := .int .i64 (i : Int)) rfl (exec_move rfl rfl) ?_
        simp only [Act.put, List.setIfInBounds_toArray, List.set_cons_zero, List.set_cons_succ]
        refine wpList_run (v := .pointer (some ⟨bP, 0 + i * 2, none⟩)) rfl (gx_iaddr (i := i) (sz := 2) rfl rfl rfl Try.underlying59 size_pair HIL.out rfl) ?_
        simp only [Act.put, List.setIfInBounds_toArray, List.set_cons_zero, List.set_cons_succ]
        refine wpList_run (v := .pointer (some ⟨bP, 0 + i * 2 + 0, none⟩)) rfl (exec_field (off := 0 + i * 2) (d := 0) rfl rfl (by kernel_rfl)) ?_
        simp only [Act.put, List.setIfInBounds_toArray, List.set_cons_zero, List.set_cons_succ]
        refine wpList_run (v := strV u.1) rfl (exec_load1 rfl rfl (by kernel_rfl) ((HI2.out.at_ HP.out).prs.el0 (r := encP u) (by rw [List.getElem?_map, HU.out]; rfl) 0 _ rfl)) ?_
        simp only [Act.put, List.setIfInBounds_toArray, List.set_cons_zero, List.set_cons_succ]
        refine wpList_run (v := strV to) rfl (exec_move rfl rfl) ?_
        simp only [Act.put, List.setIfInBounds_toArray, List.set_cons_zero, List.set_cons_succ]
        cases hb : stopAt to u with
        | false =>
            have HSF := Lib.hid hb
            have HSE := Lib.hid (show (!klt u.1 to) = false from by rw [← HST.out]; exact hb)
            clear hb
            refine wpList_run (v := .bool false) rfl (exec_sgeq rfl rfl rfl HSE.out) ?_
            simp only [Act.put, List.setIfInBounds_toArray, List.set_cons_zero, List.set_cons_succ]
            refine wpList_run (v := .bool false) (wanted_none rfl) (ix_pickT rfl rfl rfl) ?_
            simp only [Act.put, List.setIfInBounds_toArray, List.set_cons_zero, List.set_cons_succ]
            refine wpList_run (v := .bool false) (wanted_none rfl) (exec_move rfl rfl) ?_
            simp only [Act.put, List.setIfInBounds_toArray, List.set_cons_zero, List.set_cons_succ]
            refine wpList_run (v := .func (.func 36) #[] #[.pointer (some ⟨y, 0, none⟩), .pointer (some ⟨x, 0, none⟩), .pointer (some ⟨b, 0, none⟩)]) rfl (exec_move rfl rfl) ?_
            simp only [Act.put, List.setIfInBounds_toArray, List.set_cons_zero, List.set_cons_succ]
            refine wpList_run (v := .pointer (some ⟨p, 0, none⟩)) rfl (exec_move rfl rfl) ?_
            simp only [Act.put, List.setIfInBounds_toArray, List.set_cons_zero, List.set_cons_succ]
            refine wpList_run (v := .pointer (some ⟨p, 0, none⟩)) rfl (exec_nil rfl rfl) ?_
            simp only [Act.put, List.setIfInBounds_toArray, List.set_cons_zero, List.set_cons_succ]
            refine wpList_run (v := .pointer (some ⟨p, 0, none⟩)) rfl (exec_field (off := 0) (d := 0) rfl rfl (by kernel_rfl)) ?_
            simp only [Act.put, List.setIfInBounds_toArray, List.set_cons_zero, List.set_cons_succ]
            refine wpList_run (v := .slice (some ⟨bP, 0, none⟩) n cP) rfl (exec_load1 rfl rfl (by kernel_rfl) ((HI2.out.at_ HP.out).blk.cell 0)) ?_
            simp only [Act.put, List.setIfInBounds_toArray, List.set_cons_zero, List.set_cons_succ]
            refine wpList_run (v := .int .i64 (i : Int)) rfl (exec_move rfl rfl) ?_
            simp only [Act.put, List.setIfInBounds_toArray, List.set_cons_zero, List.set_cons_succ]
            refine wpList_run (v := .pointer (some ⟨bP, 0 + i * 2, none⟩)) rfl (gx_iaddr (i := i) (sz := 2) rfl rfl rfl Try.underlying59 size_pair HIL.out rfl) ?_
            simp only [Act.put, List.setIfInBounds_toArray, List.set_cons_zero, List.set_cons_succ]
            refine wpList_run (v := .agg (encP u).toArray) rfl (gx_loads rfl rfl ((HI2.out.at_ HP.out).prs.el0 (by rw [List.getElem?_map, HU.out]; rfl)) Try.underlying65 rfl (by rw [size_pair]; rfl)) ?_
            simp only [Act.put, List.setIfInBounds_toArray, List.set_cons_zero, List.set_cons_succ]
            have HTL := Lib.hid (HTE.out l2 u _ HJ2.out (HR2.out.head HSF.out))
            refine wpList_op (by go_simp) fun K7 HK7 => ?_
            go_wp2_with fail
            refine HTL.out.mono ?_
            rintro e W3 (⟨rfl, hj3⟩ | ⟨rfl, hx3⟩)
            · refine HK7.out _ _ ?_
              clear HK7
              try simp only [Act.put, List.setIfInBounds_toArray, List.set_cons_zero, List.set_cons_succ]
              have HJ3 := Lib.hid hj3
              clear hj3
              refine wpList_run (v := .bool false) rfl (ix_not (b := true) rfl rfl) ?_
              simp only [Act.put, List.setIfInBounds_toArray, List.set_cons_zero, List.set_cons_succ]
              refine wpList_run (v := .bool false) (wanted_none rfl) (ix_pickF rfl rfl rfl) ?_
              simp only [Act.put, List.setIfInBounds_toArray, List.set_cons_zero, List.set_cons_succ]
              refine wpList_nil ?_
              refine HKC.out _ _ ?_
              go_upto_region 2 with fail
              refine wp_region_lit ?_
              refine wpList_run (v := .int .i64 (i : Int)) (wanted_none rfl) (exec_move rfl rfl) ?_
              simp only [Act.put, List.setIfInBounds_toArray, List.set_cons_zero, List.set_cons_succ]
              refine wpList_run (v := .int .i64 ((i + 1 : Nat) : Int)) (wanted_none rfl) (ix_add rfl rfl rfl (by omega) (by omega)) ?_
              simp only [Act.put, List.setIfInBounds_toArray, List.set_cons_zero, List.set_cons_succ]
              refine wpList_run (v := .int .i64 ((i + 1 : Nat) : Int)) (wanted_none rfl) (gx_assign rfl rfl) ?_
              simp only [Act.put, List.setIfInBounds_toArray, List.set_cons_zero, List.set_cons_succ]
              go_wp2_with fail
              go_roundg (n - (i + 1))
              case measure => have := HGK.out; have := HIL.out; omega
              case rel =>
                have hok : Ok to [u] := fun q hq => by rw [List.mem_singleton] at hq; rw [hq]; exact HSF.out
                exact ⟨i + 1, l2 ++ [u], rfl, by have := HIL.out; omega, by have := HFI.out; omega, HJ3.out, Room.right (r := [u]) HR2.out hok, fun e W' h => HF2.out e W' (WEnd.pre (c := [u]) hok h)⟩
            · refine HK7.out _ _ ?_
              clear HK7
              try simp only [Act.put, List.setIfInBounds_toArray, List.set_cons_zero, List.set_cons_succ]
              have HX3 := Lib.hid hx3
              clear hx3
              refine wpList_run (v := .bool true) rfl (ix_not (b := false) rfl rfl) ?_
              simp only [Act.put, List.setIfInBounds_toArray, List.set_cons_zero, List.set_cons_succ]
              refine wpList_run (v := .bool true) (wanted_none rfl) (ix_pickF rfl rfl rfl) ?_
              simp only [Act.put, List.setIfInBounds_toArray, List.set_cons_zero, List.set_cons_succ]
              refine wpList_nil ?_
              refine HKC.out _ _ ?_
              go_upto_region 8 with fail
              refine wp_region_lit ?_
              refine wpList_run (v := .bool false) (wanted_none rfl) (gx_assign rfl rfl) ?_
              simp only [Act.put, List.setIfInBounds_toArray, List.set_cons_zero, List.set_cons_succ]
              go_wp2_with fail
              go_ret
              exact HF2.out _ _ (.inr ⟨rfl, .inr ⟨[u], _, rfl, fun q hq => by rw [List.mem_singleton] at hq; rw [hq]; exact HSF.out, HX3.out⟩⟩)
        | true =>
            have HSF := Lib.hid hb
            have HSE := Lib.hid (show (!klt u.1 to) = true from by rw [← HST.out]; exact hb)
            clear hb
            refine wpList_run (v := .bool true) rfl (exec_sgeq rfl rfl rfl HSE.out) ?_
            simp only [Act.put, List.setIfInBounds_toArray, List.set_cons_zero, List.set_cons_succ]
            refine wpList_run (v := .bool true) (wanted_none rfl) (ix_pickT rfl rfl rfl) ?_
            simp only [Act.put, List.setIfInBounds_toArray, List.set_cons_zero, List.set_cons_succ]
            refine wpList_run (v := .bool true) (wanted_none rfl) (exec_move rfl rfl) ?_
            simp only [Act.put, List.setIfInBounds_toArray, List.set_cons_zero, List.set_cons_succ]
            go_wp2_with fail
            refine HKC.out _ _ ?_
            go_upto_region 8 with fail
            refine wp_region_lit ?_
            refine wpList_run (v := .bool false) (wanted_none rfl) (gx_assign rfl rfl) ?_
            simp only [Act.put, List.setIfInBounds_toArray, List.set_cons_zero, List.set_cons_succ]
            go_wp2_with fail
            go_ret
            exact HF2.out _ _ (.inr ⟨rfl, .inl ⟨[], u, _, rfl, fun q hq => by simp at hq, HSF.out, by rw [List.append_nil]; exact HJ2.out⟩⟩)
    · have HIE := Lib.hid (show ps.drop i = [] from List.drop_eq_nil_of_le (by rw [← HN.out]; omega))
      rw [HIE.out] at HR2 HF2
      go_upto_region 5 with fail
      refine wp_region_lit ?_
      refine wpList_run (v := .int .i64 (i : Int)) (wanted_none rfl) (exec_move rfl rfl) ?_
      simp only [Act.put, List.setIfInBounds_toArray, List.set_cons_zero, List.set_cons_succ]
      refine wpList_run (v := .pointer (some ⟨p, 0, none⟩)) (wanted_none rfl) (exec_move rfl rfl) ?_
      simp only [Act.put, List.setIfInBounds_toArray, List.set_cons_zero, List.set_cons_succ]
      refine wpList_run (v := .pointer (some ⟨p, 0, none⟩)) (wanted_none rfl) (exec_nil rfl rfl) ?_
      simp only [Act.put, List.setIfInBounds_toArray, List.set_cons_zero, List.set_cons_succ]
      refine wpList_run (v := .pointer (some ⟨p, 0, none⟩)) (wanted_none rfl) (exec_field (off := 0) (d := 0) rfl rfl (by kernel_rfl)) ?_
      simp only [Act.put, List.setIfInBounds_toArray, List.set_cons_zero, List.set_cons_succ]
      refine wpList_run (v := .slice AP n cP) (wanted_none rfl) (exec_load1 rfl rfl (by kernel_rfl) ((HI2.out.at_ HP.out).blk.cell 0)) ?_
      simp only [Act.put, List.setIfInBounds_toArray, List.set_cons_zero, List.set_cons_succ]
      refine wpList_run (v := .int .i64 (n : Int)) (wanted_none rfl) (gx_len rfl rfl Try.underlying59) ?_
      simp only [Act.put, List.setIfInBounds_toArray, List.set_cons_zero, List.set_cons_succ]
      refine wpList_run (v := .bool true) (wanted_none rfl) (ix_eql rfl rfl rfl (decide_eq_true (by omega))) ?_
      simp only [Act.put, List.setIfInBounds_toArray, List.set_cons_zero, List.set_cons_succ]
      go_upto_region 6 with fail
      refine wp_region_lit ?_
      refine wpList_run (v := .bool true) (wanted_none rfl) (gx_assign rfl rfl) ?_
      simp only [Act.put, List.setIfInBounds_toArray, List.set_cons_zero, List.set_cons_succ]
      go_wp2_with fail
      go_ret
      exact HF2.out _ _ (WEnd.nil HJ2.out)
  · rw [show decide (ks = []) = false from decide_eq_false hks] at HW
    obtain ⟨kp, hkp, hkc⟩ := hkid i HFI.out (by rw [← HN.out]; exact HIN2.out)
    have HKP := Lib.hid hkp
    have HKW := Lib.hid (hkc l1 _ HJ.out HR.out.left)
    have hil : i < ks.length := (List.getElem?_eq_some_iff.1 hkp).1
    obtain ⟨bK, cK, e9, _, _⟩ := (HI.out.at_ HP.out).kds.some_ (by rw [List.length_map]; exact Nat.lt_of_le_of_lt (Nat.zero_le _) hil)
    obtain ⟨m, hm⟩ : ∃ n, n = ks.length := ⟨_, rfl⟩
    replace e9 := e9.trans (show _ = Value.slice (some ⟨bK, 0, none⟩) m cK from by rw [List.length_map, hm])
    subst e9
    have HIM := Lib.hid (show i < m by omega)
    clear hks hkid hkp hkc hil hm
    go_upto_region 3 with fail
    rename_i K8 hK8
    have HKB := Lib.hid hK8
    clear hK8
    refine wp_region_lit ?_
    refine wpList_run (v := .pointer (some ⟨p, 0, none⟩)) (wanted_none rfl) (exec_move rfl rfl) ?_
    simp only [Act.put, List.setIfInBounds_toArray, List.set_cons_zero, List.set_cons_succ]
    refine wpList_op (wanted_none rfl) fun K9 HK9 => ?_
    go_wp2_with fail
    refine (HW.out).mono ?_
    rintro e w2 ⟨rfl, hw2⟩
    refine HK9.out _ _ ?_
    clear HK9
    try simp only [Act.put, List.setIfInBounds_toArray, List.set_cons_zero, List.set_cons_succ]
    subst hw2
    refine wpList_run (v := .bool true) (wanted_none rfl) (ix_not (b := false) rfl rfl) ?_
    simp only [Act.put, List.setIfInBounds_toArray, List.set_cons_zero, List.set_cons_succ]
    refine wpList_run (v := .bool true) (wanted_none rfl) (exec_move rfl rfl) ?_
    simp only [Act.put, List.setIfInBounds_toArray, List.set_cons_zero, List.set_cons_succ]
    refine wpList_run (v := .pointer (some ⟨p, 0, none⟩)) rfl (exec_move rfl rfl) ?_
    simp only [Act.put, List.setIfInBounds_toArray, List.set_cons_zero, List.set_cons_succ]
    refine wpList_run (v := .pointer (some ⟨p, 0, none⟩)) rfl (exec_nil rfl rfl) ?_
    simp only [Act.put, List.setIfInBounds_toArray, List.set_cons_zero, List.set_cons_succ]
    refine wpList_run (v := .pointer (some ⟨p, 1, none⟩)) rfl (exec_field (off := 0) (d := 1) rfl rfl (by kernel_rfl)) ?_
    simp only [Act.put, List.setIfInBounds_toArray, List.set_cons_zero, List.set_cons_succ]
    refine wpList_run (v := .slice (some ⟨bK, 0, none⟩) m cK) rfl (exec_load1 rfl rfl (by kernel_rfl) ((HI.out.at_ HP.out).blk.cell 1)) ?_
    simp only [Act.put, List.setIfInBounds_toArray, List.set_cons_zero, List.set_cons_succ]
    refine wpList_run (v := .int .i64 (i : Int)) rfl (exec_move rfl rfl) ?_
    simp only [Act.put, List.setIfInBounds_toArray, List.set_cons_zero, List.set_cons_succ]
    refine wpList_run (v := .pointer (some ⟨bK, 0 + i * 1, none⟩)) rfl (gx_iaddr (i := i) (sz := 1) rfl rfl rfl Try.underlying60 size_ptr HIM.out rfl) ?_
    simp only [Act.put, List.setIfInBounds_toArray, List.set_cons_zero, List.set_cons_succ]
    refine wpList_run (v := .pointer (some ⟨kp, 0, none⟩)) rfl (exec_load1 rfl rfl (by kernel_rfl) (kid_cell (HI.out.at_ HP.out) HKP.out)) ?_
    simp only [Act.put, List.setIfInBounds_toArray, List.set_cons_zero, List.set_cons_succ]
    refine wpList_run (v := strV fr) rfl (exec_move rfl rfl) ?_
    simp only [Act.put, List.setIfInBounds_toArray, List.set_cons_zero, List.set_cons_succ]
    refine wpList_run (v := strV to) rfl (exec_move rfl rfl) ?_
    simp only [Act.put, List.setIfInBounds_toArray, List.set_cons_zero, List.set_cons_succ]
    refine wpList_run (v := .func (.func 36) #[] #[.pointer (some ⟨y, 0, none⟩), .pointer (some ⟨x, 0, none⟩), .pointer (some ⟨b, 0, none⟩)]) rfl (exec_move rfl rfl) ?_
    simp only [Act.put, List.setIfInBounds_toArray, List.set_cons_zero, List.set_cons_succ]
    refine wpList_op (by go_simp) fun K7 HK7 => ?_
    go_wp2_with fail
    refine HKW.out.mono ?_
    rintro e W3 (⟨rfl, hok, hj3⟩ | ⟨rfl, hst⟩)
    · refine HK7.out _ _ ?_
      clear HK7
      try simp only [Act.put, List.setIfInBounds_toArray, List.set_cons_zero, List.set_cons_succ]
      have HJ2 := Lib.hid hj3
      have HR2 := Lib.hid (HR.out.right hok)
      have HF2 := Lib.hid (show ∀ e W', WEnd to J Jx (l1 ++ K i) (tlr K (ps.drop i) i) e W' → WEnd to J Jx l r0 e W' from fun e W' h => HFIN.out e W' (WEnd.pre hok h))
      obtain ⟨l2, hl2⟩ : ∃ l2, l2 = l1 ++ K i := ⟨_, rfl⟩
      rw [← hl2] at HJ2 HR2 HF2
      clear hl2 hok hj3 HKW HI HW
      refine wpList_run (v := .bool false) rfl (ix_not (b := true) rfl rfl) ?_
      simp only [Act.put, List.setIfInBounds_toArray, List.set_cons_zero, List.set_cons_succ]
      refine wpList_run (v := .bool false) (wanted_none rfl) (ix_pickT rfl rfl rfl) ?_
      simp only [Act.put, List.setIfInBounds_toArray, List.set_cons_zero, List.set_cons_succ]
      refine wpList_nil ?_
      refine HKB.out _ _ ?_
      have HI2 := Lib.hid (HIN.out _ _ HJ2.out)
      obtain ⟨AP, cP, e9, _, _, _, _⟩ := (HI2.out.at_ HP.out).prs.form
      rw [List.length_map] at e9
      replace e9 := e9.trans (show _ = Value.slice AP n cP from by rw [HN.out])
      subst e9
      by_cases hin : i < n
      · have y2 : (i : Int) < (n : Int) := by omega
        have HIL := Lib.hid hin
        go_upto_region 5 with fail
        refine wp_region_lit ?_
        refine wpList_run (v := .int .i64 (i : Int)) (wanted_none rfl) (exec_move rfl rfl) ?_
        simp only [Act.put, List.setIfInBounds_toArray, List.set_cons_zero, List.set_cons_succ]
        refine wpList_run (v := .pointer (some ⟨p, 0, none⟩)) (wanted_none rfl) (exec_move rfl rfl) ?_
        simp only [Act.put, List.setIfInBounds_toArray, List.set_cons_zero, List.set_cons_succ]
        refine wpList_run (v := .pointer (some ⟨p, 0, none⟩)) (wanted_none rfl) (exec_nil rfl rfl) ?_
        simp only [Act.put, List.setIfInBounds_toArray, List.set_cons_zero, List.set_cons_succ]
        refine wpList_run (v := .pointer (some ⟨p, 0, none⟩)) (wanted_none rfl) (exec_field (off := 0) (d := 0) rfl rfl (by kernel_rfl)) ?_
        simp only [Act.put, List.setIfInBounds_toArray, List.set_cons_zero, List.set_cons_succ]
        refine wpList_run (v := .slice AP n cP) (wanted_none rfl) (exec_load1 rfl rfl (by kernel_rfl) ((HI2.out.at_ HP.out).blk.cell 0)) ?_
        simp only [Act.put, List.setIfInBounds_toArray, List.set_cons_zero, List.set_cons_succ]
        refine wpList_run (v := .int .i64 (n : Int)) (wanted_none rfl) (gx_len rfl rfl Try.underlying59) ?_
        simp only [Act.put, List.setIfInBounds_toArray, List.set_cons_zero, List.set_cons_succ]
        refine wpList_run (v := .bool false) (wanted_none rfl) (ix_eql rfl rfl rfl (decide_eq_false (by omega))) ?_
        simp only [Act.put, List.setIfInBounds_toArray, List.set_cons_zero, List.set_cons_succ]
        obtain ⟨bP, cP2, e8, _, _⟩ := (HI2.out.at_ HP.out).prs.some_ (by rw [List.length_map, ← HN.out]; omega)
        rw [List.length_map] at e8
        replace e8 := e8.trans (show _ = Value.slice (some ⟨bP, 0, none⟩) n cP2 from by rw [HN.out])
        injection e8 with e5 e6 e7
        subst e5 e7
        obtain ⟨u, hu⟩ : ∃ u, ps[i]? = some u := ⟨_, List.getElem?_eq_getElem (show i < ps.length from by rw [← HN.out]; exact hin)⟩
        have HU := Lib.hid hu
        have HDR := Lib.hid (show ps.drop i = u :: ps.drop (i + 1) from by
          obtain ⟨h1, h2⟩ := List.getElem?_eq_some_iff.1 hu
          rw [List.drop_eq_getElem_cons h1, h2])
        rw [HDR.out] at HR2 HF2
        clear e6 hu hin
        go_upto_region 7 with fail
        rename_i K9 hK9
        have HKC := Lib.hid hK9
        clear hK9
        refine wp_region_lit ?_
        refine wpList_run (v := strV to) (wanted_none rfl) (exec_move rfl rfl) ?_
        simp only [Act.put, List.setIfInBounds_toArray, List.set_cons_zero, List.set_cons_succ]
        by_cases hto : to = []
        · have HSF := Lib.hid (show stopAt to u = false from by rw [hto]; rfl)
          have HTN := Lib.hid (show (!(to == ([] : Key))) = false from by rw [hto]; rfl)
          clear hto
          refine wpList_run (v := .bool false) (wanted_none rfl) ((exec_sneq (l := to) (m := []) rfl rfl rfl).trans (by rw [HTN.out])) ?_
          simp only [Act.put, List.setIfInBounds_toArray, List.set_cons_zero, List.set_cons_succ]
          refine wpList_run (v := .bool false) (wanted_none rfl) (exec_move rfl rfl) ?_
          simp only [Act.put, List.setIfInBounds_toArray, List.set_cons_zero, List.set_cons_succ]
          have hc := node_cell0 (HI2.out.at_ HP.out)
          have hc1 := pair_cell0 (HI2.out.at_ HP.out).prs HU.out
          have hc2 := pair_cell1 (HI2.out.at_ HP.out).prs HU.out
          have HTL := Lib.hid (HTE.out l2 u _ HJ2.out (HR2.out.head HSF.out))
          go_wp2_with fail
          refine HTL.out.mono ?_
          rintro e W3 (⟨rfl, hj3⟩ | ⟨rfl, hx3⟩)
          · have HJ3 := Lib.hid hj3
            clear hj3
            go_wp2_with fail
            refine HKC.out _ _ ?_
            go_upto_region 2 with fail
            refine wp_region_lit ?_
            refine wpList_run (v := .int .i64 (i : Int)) (wanted_none rfl) (exec_move rfl rfl) ?_
            simp only [Act.put, List.setIfInBounds_toArray, List.set_cons_zero, List.set_cons_succ]
            refine wpList_run (v := .int .i64 ((i + 1 : Nat) : Int)) (wanted_none rfl) (ix_add rfl rfl rfl (by omega) (by omega)) ?_
            simp only [Act.put, List.setIfInBounds_toArray, List.set_cons_zero, List.set_cons_succ]
            refine wpList_run (v := .int .i64 ((i + 1 : Nat) : Int)) (wanted_none rfl) (gx_assign rfl rfl) ?_
            simp only [Act.put, List.setIfInBounds_toArray, List.set_cons_zero, List.set_cons_succ]
            go_wp2_with fail
            go_roundg (n - (i + 1))
            case measure => have := HGK.out; have := HIL.out; omega
            case rel =>
              have hok : Ok to [u] := fun q hq => by rw [List.mem_singleton] at hq; rw [hq]; exact HSF.out
              exact ⟨i + 1, l2 ++ [u], rfl, by have := HIL.out; omega, by have := HFI.out; omega, HJ3.out, Room.right (r := [u]) HR2.out hok, fun e W' h => HF2.out e W' (WEnd.pre (c := [u]) hok h)⟩
          · have HX3 := Lib.hid hx3
            clear hx3
            go_wp2_with fail
            refine HKC.out _ _ ?_
            go_upto_region 8 with fail
            refine wp_region_lit ?_
            refine wpList_run (v := .bool false) (wanted_none rfl) (gx_assign rfl rfl) ?_
            simp only [Act.put, List.setIfInBounds_toArray, List.set_cons_zero, List.set_cons_succ]
            go_wp2_with fail
            go_ret
            exact HF2.out _ _ (.inr ⟨rfl, .inr ⟨[u], _, rfl, fun q hq => by rw [List.mem_singleton] at hq; rw [hq]; exact HSF.out, HX3.out⟩⟩)
        · have HTN := Lib.hid (show (!(to == ([] : Key))) = true from by simpa using hto)
          have HST := Lib.hid (stopAt_some hto u)
          clear hto
          refine wpList_run (v := .bool true) (wanted_none rfl) ((exec_sneq (l := to) (m := []) rfl rfl rfl).trans (by rw [HTN.out])) ?_
          simp only [Act.put, List.setIfInBounds_toArray, List.set_cons_zero, List.set_cons_succ]
          refine wpList_run (v := .bool true) (wanted_none rfl) (exec_move rfl rfl) ?_
          simp only [Act.put, List.setIfInBounds_toArray, List.set_cons_zero, List.set_cons_succ]
          refine wpList_run (v := .pointer (some ⟨p, 0, none⟩)) rfl (exec_move rfl rfl) ?_
          simp only [Act.put, List.setIfInBounds_toArray, List.set_cons_zero, List.set_cons_succ]
          refine wpList_run (v := .pointer (some ⟨p, 0, none⟩)) rfl (exec_nil rfl rfl) ?_
          simp only [Act.put, List.setIfInBounds_toArray, List.set_cons_zero, List.set_cons_succ]
          refine wpList_run (v := .pointer (some ⟨p, 0, none⟩)) rfl (exec_field (off := 0) (d := 0) rfl rfl (by kernel_rfl)) ?_
          simp only [Act.put, List.setIfInBounds_toArray, List.set_cons_zero, List.set_cons_succ]
          refine wpList_run (v := .slice (some ⟨bP, 0, none⟩) n cP) rfl (exec_load1 rfl rfl (by kernel_rfl) ((HI2.out.at_ HP.out).blk.cell 0)) ?_
          simp only [Act.put, List.setIfInBounds_toArray, List.set_cons_zero, List.set_cons_succ]
          refine wpList_run (v := .int .i64 (i : Int)) rfl (exec_move rfl rfl) ?_
          simp only [Act.put, List.setIfInBounds_toArray, List.set_cons_zero, List.set_cons_succ]
          refine wpList_run (v := .pointer (some ⟨bP, 0 + i * 2, none⟩)) rfl (gx_iaddr (i := i) (sz := 2) rfl rfl rfl Try.underlying59 size_pair HIL.out rfl) ?_
          simp only [Act.put, List.setIfInBounds_toArray, List.set_cons_zero, List.set_cons_succ]
          refine wpList_run (v := .pointer (some ⟨bP, 0 + i * 2 + 0, none⟩)) rfl (exec_field (off := 0 + i * 2) (d := 0) rfl rfl (by kernel_rfl)) ?_
          simp only [Act.put, List.setIfInBounds_toArray, List.set_cons_zero, List.set_cons_succ]
          refine wpList_run (v := strV u.1) rfl (exec_load1 rfl rfl (by kernel_rfl) ((HI2.out.at_ HP.out).prs.el0 (r := encP u) (by rw [List.getElem?_map, HU.out]; rfl) 0 _ rfl)) ?_
          simp only [Act.put, List.setIfInBounds_toArray, List.set_cons_zero, List.set_cons_succ]
          refine wpList_run (v := strV to) rfl (exec_move rfl rfl) ?_
          simp only [Act.put, List.setIfInBounds_toArray, List.set_cons_zero, List.set_cons_succ]
          cases hb : stopAt to u with
          | false =>
              have HSF := Lib.hid hb
              have HSE := Lib.hid (show (!klt u.1 to) = false from by rw [← HST.out]; exact hb)
              clear hb
              refine wpList_run (v := .bool false) rfl (exec_sgeq rfl rfl rfl HSE.out) ?_
              simp only [Act.put, List.setIfInBounds_toArray, List.set_cons_zero, List.set_cons_succ]
              refine wpList_run (v := .bool false) (wanted_none rfl) (ix_pickT rfl rfl rfl) ?_
              simp only [Act.put, List.setIfInBounds_toArray, List.set_cons_zero, List.set_cons_succ]
              refine wpList_run (v := .bool false) (wanted_none rfl) (exec_move rfl rfl) ?_
              simp only [Act.put, List.setIfInBounds_toArray, List.set_cons_zero, List.set_cons_succ]
              refine wpList_run (v := .func (.func 36) #[] #[.pointer (some ⟨y, 0, none⟩), .pointer (some ⟨x, 0, none⟩), .pointer (some ⟨b, 0, none⟩)]) rfl (exec_move rfl rfl) ?_
              simp only [Act.put, List.setIfInBounds_toArray, List.set_cons_zero, List.set_cons_succ]
              refine wpList_run (v := .pointer (some ⟨p, 0, none⟩)) rfl (exec_move rfl rfl) ?_
              simp only [Act.put, List.setIfInBounds_toArray, List.set_cons_zero, List.set_cons_succ]
              refine wpList_run (v := .pointer (some ⟨p, 0, none⟩)) rfl (exec_nil rfl rfl) ?_
              simp only [Act.put, List.setIfInBounds_toArray, List.set_cons_zero, List.set_cons_succ]
              refine wpList_run (v := .pointer (some ⟨p, 0, none⟩)) rfl (exec_field (off := 0) (d := 0) rfl rfl (by kernel_rfl)) ?_
              simp only [Act.put, List.setIfInBounds_toArray, List.set_cons_zero, List.set_cons_succ]
              refine wpList_run (v := .slice (some ⟨bP, 0, none⟩) n cP) rfl (exec_load1 rfl rfl (by kernel_rfl) ((HI2.out.at_ HP.out).blk.cell 0)) ?_
              simp only [Act.put, List.setIfInBounds_toArray, List.set_cons_zero, List.set_cons_succ]
              refine wpList_run (v := .int .i64 (i : Int)) rfl (exec_move rfl rfl) ?_
              simp only [Act.put, List.setIfInBounds_toArray, List.set_cons_zero, List.set_cons_succ]
              refine wpList_run (v := .pointer (some ⟨bP, 0 + i * 2, none⟩)) rfl (gx_iaddr (i := i) (sz := 2) rfl rfl rfl Try.underlying59 size_pair HIL.out rfl) ?_
              simp only [Act.put, List.setIfInBounds_toArray, List.set_cons_zero, List.set_cons_succ]
              refine wpList_run (v := .agg (encP u).toArray) rfl (gx_loads rfl rfl ((HI2.out.at_ HP.out).prs.el0 (by rw [List.getElem?_map, HU.out]; rfl)) Try.underlying65 rfl (by rw [size_pair]; rfl)) ?_
              simp only [Act.put, List.setIfInBounds_toArray, List.set_cons_zero, List.set_cons_succ]
              have HTL := Lib.hid (HTE.out l2 u _ HJ2.out (HR2.out.head HSF.out))
              refine wpList_op (by go_simp) fun K7 HK7 => ?_
              go_wp2_with fail
              refine HTL.out.mono ?_
              rintro e W3 (⟨rfl, hj3⟩ | ⟨rfl, hx3⟩)
              · refine HK7.out _ _ ?_
                clear HK7
                try simp only [Act.put, List.setIfInBounds_toArray, List.set_cons_zero, List.set_cons_succ]
                have HJ3 := Lib.hid hj3
                clear hj3
                refine wpList_run (v := .bool false) rfl (ix_not (b := true) rfl rfl) ?_
                simp only [Act.put, List.setIfInBounds_toArray, List.set_cons_zero, List.set_cons_succ]
                refine wpList_run (v := .bool false) (wanted_none rfl) (ix_pickF rfl rfl rfl) ?_
                simp only [Act.put, List.setIfInBounds_toArray, List.set_cons_zero, List.set_cons_succ]
                refine wpList_nil ?_
                refine HKC.out _ _ ?_
                go_upto_region 2 with fail
                refine wp_region_lit ?_
                refine wpList_run (v := .int .i64 (i : Int)) (wanted_none rfl) (exec_move rfl rfl) ?_
                simp only [Act.put, List.setIfInBounds_toArray, List.set_cons_zero, List.set_cons_succ]
                refine wpList_run (v := .int .i64 ((i + 1 : Nat) : Int)) (wanted_none rfl) (ix_add rfl rfl rfl (by omega) (by omega)) ?_
                simp only [Act.put, List.setIfInBounds_toArray, List.set_cons_zero, List.set_cons_succ]
                refine wpList_run (v := .int .i64 ((i + 1 : Nat) : Int)) (wanted_none rfl) (gx_assign rfl rfl) ?_
                simp only [Act.put, List.setIfInBounds_toArray, List.set_cons_zero, List.set_cons_succ]
                go_wp2_with fail
                go_roundg (n - (i + 1))
                case measure => have := HGK.out; have := HIL.out; omega
                case rel =>
                  have hok : Ok to [u] := fun q hq => by rw [List.mem_singleton] at hq; rw [hq]; exact HSF.out
                  exact ⟨i + 1, l2 ++ [u], rfl, by have := HIL.out; omega, by have := HFI.out; omega, HJ3.out, Room.right (r := [u]) HR2.out hok, fun e W' h => HF2.out e W' (WEnd.pre (c := [u]) hok h)⟩
              · refine HK7.out _ _ ?_
                clear HK7
                try simp only [Act.put, List.setIfInBounds_toArray, List.set_cons_zero, List.set_cons_succ]
                have HX3 := Lib.hid hx3
                clear hx3
                refine wpList_run (v := .bool true) rfl (ix_not (b := false) rfl rfl) ?_
                simp only [Act.put, List.setIfInBounds_toArray, List.set_cons_zero, List.set_cons_succ]
                refine wpList_run (v := .bool true) (wanted_none rfl) (ix_pickF rfl rfl rfl) ?_
                simp only [Act.put, List.setIfInBounds_toArray, List.set_cons_zero, List.set_cons_succ]
                refine wpList_nil ?_
                refine HKC.out _ _ ?_
                go_upto_region 8 with fail
                refine wp_region_lit ?_
                refine wpList_run (v := .bool false) (wanted_none rfl) (gx_assign rfl rfl) ?_
                simp only [Act.put, List.setIfInBounds_toArray, List.set_cons_zero, List.set_cons_succ]
                go_wp2_with fail
                go_ret
                exact HF2.out _ _ (.inr ⟨rfl, .inr ⟨[u], _, rfl, fun q hq => by rw [List.mem_singleton] at hq; rw [hq]; exact HSF.out, HX3.out⟩⟩)
          | true =>
              have HSF := Lib.hid hb
              have HSE := Lib.hid (show (!klt u.1 to) = true from by rw [← HST.out]; exact hb)
              clear hb
              refine wpList_run (v := .bool true) rfl (exec_sgeq rfl rfl rfl HSE.out) ?_
              simp only [Act.put, List.setIfInBounds_toArray, List.set_cons_zero, List.set_cons_succ]
              refine wpList_run (v := .bool true) (wanted_none rfl) (ix_pickT rfl rfl rfl) ?_
              simp only [Act.put, List.setIfInBounds_toArray, List.set_cons_zero, List.set_cons_succ]
              refine wpList_run (v := .bool true) (wanted_none rfl) (exec_move rfl rfl) ?_
              simp only [Act.put, List.setIfInBounds_toArray, List.set_cons_zero, List.set_cons_succ]
              go_wp2_with fail
              refine HKC.out _ _ ?_
              go_upto_region 8 with fail
              refine wp_region_lit ?_
              refine wpList_run (v := .bool false) (wanted_none rfl) (gx_assign rfl rfl) ?_
              simp only [Act.put, List.setIfInBounds_toArray, List.set_cons_zero, List.set_cons_succ]
              go_wp2_with fail
              go_ret
              exact HF2.out _ _ (.inr ⟨rfl, .inl ⟨[], u, _, rfl, fun q hq => by simp at hq, HSF.out, by rw [List.append_nil]; exact HJ2.out⟩⟩)
      · have HIE := Lib.hid (show ps.drop i = [] from List.drop_eq_nil_of_le (by rw [← HN.out]; omega))
        rw [HIE.out] at HR2 HF2
        go_upto_region 5 with fail
        refine wp_region_lit ?_
        refine wpList_run (v := .int .i64 (i : Int)) (wanted_none rfl) (exec_move rfl rfl) ?_
        simp only [Act.put, List.setIfInBounds_toArray, List.set_cons_zero, List.set_cons_succ]
        refine wpList_run (v := .pointer (some ⟨p, 0, none⟩)) (wanted_none rfl) (exec_move rfl rfl) ?_
        simp only [Act.put, List.setIfInBounds_toArray, List.set_cons_zero, List.set_cons_succ]
        refine wpList_run (v := .pointer (some ⟨p, 0, none⟩)) (wanted_none rfl) (exec_nil rfl rfl) ?_
        simp only [Act.put, List.setIfInBounds_toArray, List.set_cons_zero, List.set_cons_succ]
        refine wpList_run (v := .pointer (some ⟨p, 0, none⟩)) (wanted_none rfl) (exec_field (off := 0) (d := 0) rfl rfl (by kernel_rfl)) ?_
        simp only [Act.put, List.setIfInBounds_toArray, List.set_cons_zero, List.set_cons_succ]
        refine wpList_run (v := .slice AP n cP) (wanted_none rfl) (exec_load1 rfl rfl (by kernel_rfl) ((HI2.out.at_ HP.out).blk.cell 0)) ?_
        simp only [Act.put, List.setIfInBounds_toArray, List.set_cons_zero, List.set_cons_succ]
        refine wpList_run (v := .int .i64 (n : Int)) (wanted_none rfl) (gx_len rfl rfl Try.underlying59) ?_
        simp only [Act.put, List.setIfInBounds_toArray, List.set_cons_zero, List.set_cons_succ]
        refine wpList_run (v := .bool true) (wanted_none rfl) (ix_eql rfl rfl rfl (decide_eq_true (by omega))) ?_
        simp only [Act.put, List.setIfInBounds_toArray, List.set_cons_zero, List.set_cons_succ]
        go_upto_region 6 with fail
        refine wp_region_lit ?_
        refine wpList_run (v := .bool true) (wanted_none rfl) (gx_assign rfl rfl) ?_
        simp only [Act.put, List.setIfInBounds_toArray, List.set_cons_zero, List.set_cons_succ]
        go_wp2_with fail
        go_ret
        exact HF2.out _ _ (WEnd.nil HJ2.out)
    · refine HK7.out _ _ ?_
      clear HK7
      try simp only [Act.put, List.setIfInBounds_toArray, List.set_cons_zero, List.set_cons_succ]
      have HST := Lib.hid hst
      clear hst
      refine wpList_run (v := .bool true) rfl (ix_not (b := false) rfl rfl) ?_
      simp only [Act.put, List.setIfInBounds_toArray, List.set_cons_zero, List.set_cons_succ]
      refine wpList_run (v := .bool true) (wanted_none rfl) (ix_pickT rfl rfl rfl) ?_
      simp only [Act.put, List.setIfInBounds_toArray, List.set_cons_zero, List.set_cons_succ]
      refine wpList_nil ?_
      refine HKB.out _ _ ?_
      go_upto_region 4 with fail
      refine wp_region_lit ?_
      refine wpList_run (v := .bool false) (wanted_none rfl) (gx_assign rfl rfl) ?_
      simp only [Act.put, List.setIfInBounds_toArray, List.set_cons_zero, List.set_cons_succ]
      go_wp2_with fail
      go_ret
      exact HFIN.out _ _ (.inr ⟨rfl, HST.out.app _⟩)
end Go.Proofs.Ytmlkdkbpbleilaa

namespace Go.Proofs.Ytmlkdkbpbleilaa
open Go.RowKit
open Ix
set_option linter.unusedVariables false
theorem tlr_nil {K : Nat → List Pr} (hK : ∀ i, K i = []) : ∀ (ps : List Pr) (i : Nat), tlr K ps i = ps
  | [], _ => rfl
  | p :: ps, i => by
    show p :: (K (i + 1) ++ tlr K ps (i + 1)) = _
    rw [hK, List.nil_append, tlr_nil hK ps]
theorem fdrop_leaf {k : Key} {ps : List Pr} (hs : Srt ps) : fdrop k ps = ps.drop (fnd k ps) := by
  have h1 : Bel (ps.take (fnd k ps)) k := fun p hp => by
    obtain ⟨i, hi⟩ := List.mem_iff_getElem?.1 hp
    rw [List.getElem?_take] at hi
    split at hi
    · rename_i hlt
      exact (fnd_lt hs hi).1 hlt
    · cases hi
  have h2 : Nlo (ps.drop (fnd k ps)) k := fun p hp => by
    obtain ⟨i, hi⟩ := List.mem_iff_getElem?.1 hp
    rw [List.getElem?_drop] at hi
    cases h : klt p.1 k with
    | false => rfl
    | true =>
      have := (fnd_lt hs hi).2 h
      omega
  have h3 : fdrop k (ps.take (fnd k ps) ++ ps.drop (fnd k ps)) = ps.drop (fnd k ps) := by
    rw [fdrop_app, fdrop_bel h1, fdrop_nlo h2, List.nil_append]
  rwa [List.take_append_drop] at h3
theorem tlr_post {k : Key} {K : Nat → List Pr} : ∀ (ps : List Pr) (B : List (List Pr)) (i : Nat), B.length = ps.length → Nlo (post ps B) k → (∀ j a, B[j]? = some a → K (i + 1 + j) = fdrop k a) → tlr K ps i = post ps B
  | [], [], _, _, _, _ => rfl
  | [], _ :: _, _, h, _, _ => by cases h
  | _ :: _, [], _, h, _, _ => by cases h
  | p :: ps, a :: B, i, h, hn, hK => by
    show p :: (K (i + 1) ++ tlr K ps (i + 1)) = _
    rw [post_cons] at hn ⊢
    have h1 : K (i + 1) = fdrop k a := hK 0 a rfl
    have h2 : fdrop k a = a := fdrop_nlo fun q hq => hn q (by simp [hq])
    rw [tlr_post ps B (i + 1) (by simpa using h) (fun q hq => hn q (by simp [hq])) (fun j b hb => by
      have := hK (j + 1) b hb
      rwa [show i + 1 + (j + 1) = i + 1 + 1 + j from by omega] at this), h1, h2]
    rfl
theorem inter_mem : ∀ {L : List (List Pr)} {ps : List Pr} {i : Nat} {a : List Pr}, L[i]? = some a → a.Sublist (inter L ps)
  | b :: L, [], 0, a, h => by
    obtain rfl : b = a := by simpa using h
    exact List.sublist_append_left _ _
  | b :: L, p :: ps, 0, a, h => by
    obtain rfl : b = a := by simpa using h
    exact List.sublist_append_left _ _
  | b :: L, [], i + 1, a, h => (inter_mem (L := L) (ps := []) (i := i) (by simpa using h)).trans (List.sublist_append_right _ _)
  | b :: L, p :: ps, i + 1, a, h => ((inter_mem (L := L) (ps := ps) (i := i) (by simpa using h)).cons p).trans (List.sublist_append_right _ _)
theorem walk_tree {H : Hp} {y x b : Nat} {fr to : Key} {J Jx : List Pr → World → Prop} {N : Nat} (hT : TellC y x b J Jx N) (hJ : JT J) (hin : ∀ l W, J l W → In W H) {m M : Nat} (hM : M ≤ 64) :
    ∀ {d lo : Nat} {t : Tr d} {p : Nat} {F : List Nat}, TrAt H p t F → Nd m M lo M t → Srt (flat t) → WalkC y x b fr to J Jx N p (fdrop fr (flat t))
  | 0, lo, t, p, F, ht, hn, hs => by
    obtain ⟨⟨vp, vk, hp⟩, _⟩ := ht
    have hs : Srt t.1 := hs
    have h := walk_node (fr := fr) (to := to) hT hJ hin hp hs (Nat.le_trans hn.2 hM) rfl (K := fun _ => []) (.inl ⟨rfl, fun _ => rfl⟩)
    rw [tlr_nil (fun _ => rfl), List.nil_append, ← fdrop_leaf hs] at h
    exact h
  | d + 1, lo, t, p, F, ht, hn, hs => by
    obtain ⟨ks, F', ⟨vp, vk, hp⟩, hk, _⟩ := ht
    have hs : Srt (inter (t.2.map flat) t.1) := hs
    have hlen : (t.2.map (flat (d := d))).length = t.1.length + 1 := by rw [List.length_map]; exact hn.2.2.1
    obtain ⟨A, c, B, hL, hA, hB, hsc, hsp, hfd, hnl⟩ := fdrop_at fr hlen hs
    have h := walk_node (fr := fr) (to := to) hT hJ hin hp (srt_top hn hs) (Nat.le_trans hn.2.1 hM) rfl (K := fun i => fdrop fr (((t.2.map flat)[i]?).getD [])) (.inr ⟨?_, ?_⟩)
    · have e1 : (t.2.map flat)[fnd fr t.1]? = some c := by
        rw [hL, ← hA, List.getElem?_append_right (Nat.le_refl _), Nat.sub_self]
        rfl
      have e2 : tlr (fun i => fdrop fr (((t.2.map flat)[i]?).getD [])) (t.1.drop (fnd fr t.1)) (fnd fr t.1) = post (t.1.drop (fnd fr t.1)) B := by
        refine tlr_post (k := fr) _ _ _ hB hnl fun j a ha => ?_
        have : (t.2.map flat)[fnd fr t.1 + 1 + j]? = some a := by
          rw [hL, ← hA, show A.length + 1 + j = A.length + (j + 1) from by omega, List.getElem?_append_right (Nat.le_add_right _ _), Nat.add_sub_cancel_left]
          exact ha
        show fdrop fr (((t.2.map flat)[fnd fr t.1 + 1 + j]?).getD []) = _
        rw [this]
        rfl
      rw [e2] at h
      simp only [e1, Option.getD_some] at h
      have e3 : fdrop fr (flat t) = fdrop fr c ++ post (t.1.drop (fnd fr t.1)) B := hfd
      rw [e3]
      exact h
    · intro e
      have := hk.len
      rw [e] at this
      have h2 := hn.2.2.1
      rw [← this] at h2
      cases h2
    · intro i _ hi
      obtain ⟨u, hu⟩ : ∃ u, t.2[i]? = some u := ⟨_, List.getElem?_eq_getElem (show i < t.2.length from by have := hn.2.2.1; omega)⟩
      obtain ⟨kp, G, h1, h2, _⟩ := hk.get hu
      have e1 : (t.2.map flat)[i]? = some (flat u) := by rw [List.getElem?_map, hu]; rfl
      refine ⟨kp, h1, ?_⟩
      simp only [e1, Option.getD_some]
      exact walk_tree hT hJ hin hM h2 (nd_kid hn hu) (hs.sublist (inter_mem e1))
end Go.Proofs.Ytmlkdkbpbleilaa

namespace Go.Proofs.Ytmlkdkbpbleilaa
open Go.RowKit Go.Shelf
open Ix
set_option linter.unusedVariables false
set_option linter.unusedSimpArgs false
attribute [local go_sem] Oper.semAt_some
/-- what a range has boxed -/
structure Env (y xb b l0 ix : Nat) (W : World) : Prop where
  yb : Blk W y 70 #[.func (.yield l0) #[] #[]]
  xb : Blk W xb 24 #[.pointer (some ⟨ix, 0, none⟩)]
  ch : ∃ (o t c : Value) (ch : Nat), Blk W ix 58 #[o, t, c, .int .i64 (ch : Int)] ∧ Blk W b 3 #[.int .i64 (ch : Int)]
theorem RoundIn.anyDepthW {m m' : Nat} {P : Program} {l : Nat} {f : FuncId} {tmps : Array Value} {assign body : Code} {w : World} {R : Ending → World → Prop}
    (h : RoundIn Fence.wide m P l f tmps assign body w R) : RoundIn Fence.wide m' P l f tmps assign body w R := ⟨h.1, fun c cs _ => h.2 c cs (room_wide _)⟩
theorem agg_cells (k : Key) (n : Int) : (Value.agg (encP (k, n)).toArray).cells = #[strV k, .int .i64 n] := rfl
set_option maxRecDepth 20000 in
set_option maxHeartbeats 4000000 in
theorem tell_walk {y xb b l0 ix : Nat} {J Jx : List Pr → World → Prop} {N : Nat} (hJ : JT J) (hE : ∀ l W, J l W → Env y xb b l0 ix W)
    (hY : ∀ (l : List Pr) (p : Pr) (W : World), J l W → l.length < N → YieldAt Fence.wide 0 Try.prog l0 #[strV p.1, .int .i64 p.2] W fun e W' => (e = .returned (.bool true) ∧ J (l ++ [p]) W') ∨ (e = .returned (.bool false) ∧ Jx (l ++ [p]) W')) :
    TellC y xb b J Jx N := by
  intro l p W h1 hN
  obtain ⟨k, n⟩ := p
  have HJ := Lib.hid hJ
  have HE := Lib.hid hE
  have HY := Lib.hid hY
  have H1 := Lib.hid h1
  have HN := Lib.hid hN
  clear hJ hE hY h1 hN
  refine callsIn_wide.1 (?_ : CallsIn Fence.wide 5 _ _ _ _ _)
  refine callsIn_of_wp Try.func36 rfl trivial ?_ rfl
  simp only [Try.ntmps36, List.size_toArray, List.length_cons, List.length_nil, Nat.reduceAdd, Nat.reduceSub, Array.replicate_succ, Array.replicate_zero, List.push_toArray, List.append_toArray, List.nil_append, List.cons_append]
  gi_wp2
  have hb0 := Blk.new W 65 #[strV k, .int .i64 n]
  have ht0 : Turn nowhere W (W.alloc (Obj.cells (encP (k, n)).toArray 65)).drew := ((Turn.refl nowhere W).alloc _).drew
  have hb1 : Blk (W.alloc (Obj.cells (encP (k, n)).toArray 65)).drew W.heap.size 65 #[strV k, .int .i64 n] := hb0
  obtain ⟨g0, hg0⟩ : ∃ g, g = W.heap.size := ⟨_, rfl⟩
  rw [← hg0] at hb1 ⊢
  obtain ⟨w1, hw1⟩ : ∃ w1, w1 = (W.alloc (Obj.cells (encP (k, n)).toArray 65)).drew := ⟨_, rfl⟩
  rw [← hw1] at hb1 ht0
  have HJ1 := Lib.hid (HJ.out _ _ _ H1.out ht0)
  have hy0 := (HE.out _ _ HJ1.out).yb
  have hS0 : Blk w1 y 70 #[.func (.yield l0) #[] #[]] ∧ Blk w1 g0 65 #[strV k, .int .i64 n] := ⟨hy0, hb1⟩
  clear hb0 hb1 hg0 ht0 hy0
  refine wpIn_region_till (fun W => Blk W y 70 #[.func (.yield l0) #[] #[]] ∧ Blk W g0 65 #[strV k, .int .i64 n]) 5 (by kernel_rfl) ?_
  rw [← hw1]
  clear hw1
  refine tillI_take (i := 0) (v := .func (.yield l0) #[] #[]) rfl rfl (by kernel_rfl) (by kernel_rfl) (fun _ _ _ h => h) (.inl ⟨by rfl, fun W hW => exec_load1 rfl rfl (by kernel_rfl) (hW.1.cell 0)⟩) (fun w => rfl) hS0 ?_
  simp only [Act.put, List.setIfInBounds_toArray, List.set_cons_zero, List.set_cons_succ]
  refine tillI_pure (i := 1) (v := .pointer (some ⟨g0, 0, none⟩)) rfl rfl (by kernel_rfl) (by kernel_rfl) (fun _ _ _ h => h) (.inl ⟨by rfl, fun W hW => exec_field (off := 0) (d := 0) rfl rfl (by kernel_rfl)⟩) (fun w => rfl) hS0 ?_
  simp only [Act.put, List.setIfInBounds_toArray, List.set_cons_zero, List.set_cons_succ]
  refine tillI_take (i := 2) (v := strV k) rfl rfl (by kernel_rfl) (by kernel_rfl) (fun _ _ _ h => h) (.inl ⟨by rfl, fun W hW => exec_load1 rfl rfl (by kernel_rfl) (hW.2.cell 0)⟩) (fun w => rfl) hS0 ?_
  simp only [Act.put, List.setIfInBounds_toArray, List.set_cons_zero, List.set_cons_succ]
  refine tillI_pure (i := 3) (v := .pointer (some ⟨g0, 1, none⟩)) rfl rfl (by kernel_rfl) (by kernel_rfl) (fun _ _ _ h => h) (.inl ⟨by rfl, fun W hW => exec_field (off := 0) (d := 1) rfl rfl (by kernel_rfl)⟩) (fun w => rfl) hS0 ?_
  simp only [Act.put, List.setIfInBounds_toArray, List.set_cons_zero, List.set_cons_succ]
  refine tillI_take (i := 4) (v := .int .i64 n) rfl rfl (by kernel_rfl) (by kernel_rfl) (fun _ _ _ h => h) (.inl ⟨by rfl, fun W hW => exec_load1 rfl rfl (by kernel_rfl) (hW.2.cell 1)⟩) (fun w => rfl) hS0 ?_
  simp only [Act.put, List.setIfInBounds_toArray, List.set_cons_zero, List.set_cons_succ]
  obtain ⟨fn, tmps, assign, body, hy, hR⟩ := HY.out l (k, n) w1 HJ1.out HN.out
  have hR := RoundIn.anyDepthW (m' := 4) hR
  refine tillI_step (i := 5) (by kernel_rfl) rfl rfl ?_
  intro K1 HK1
  gi_wp2
  refine hR.mono ?_
  rintro e w2 (⟨rfl, hj⟩ | ⟨rfl, hx⟩)
  · refine HK1.out _ _ ⟨fun e => (by simp at e), ?_⟩
    clear HK1
    try simp only [Act.put, List.setIfInBounds_toArray, List.set_cons_zero, List.set_cons_succ]
    obtain ⟨hyb, hxb, o, t, c, ch, hix, hbb⟩ := HE.out _ _ hj
    have hS1 : Blk w2 xb 24 #[.pointer (some ⟨ix, 0, none⟩)] ∧ Blk w2 ix 58 #[o, t, c, .int .i64 (ch : Int)] ∧ Blk w2 b 3 #[.int .i64 (ch : Int)] := ⟨hxb, hix, hbb⟩
    refine tillI_of_alw (S' := fun W => Blk W xb 24 #[.pointer (some ⟨ix, 0, none⟩)] ∧ Blk W ix 58 #[o, t, c, .int .i64 (ch : Int)] ∧ Blk W b 3 #[.int .i64 (ch : Int)]) _ _ _ _ (by kernel_rfl) ?_
    clear hyb hxb hix hbb hS0 hy hR
    refine alwI_take (i := 6) (v := .bool true) rfl rfl (by kernel_rfl) (by kernel_rfl) (fun _ _ _ h => h) (.inl ⟨by rfl, fun W hW => exec_move rfl rfl⟩) (fun w => rfl) hS1 ?_
    simp only [Act.put, List.setIfInBounds_toArray, List.set_cons_zero, List.set_cons_succ]
    refine alwI_take (i := 7) (v := .pointer (some ⟨ix, 0, none⟩)) rfl rfl (by kernel_rfl) (by kernel_rfl) (fun _ _ _ h => h) (.inl ⟨by rfl, fun W hW => exec_load1 rfl rfl (by kernel_rfl) (hW.1.cell 0)⟩) (fun w => rfl) hS1 ?_
    simp only [Act.put, List.setIfInBounds_toArray, List.set_cons_zero, List.set_cons_succ]
    refine alwI_take (i := 8) (v := .pointer (some ⟨ix, 0, none⟩)) rfl rfl (by kernel_rfl) (by kernel_rfl) (fun _ _ _ h => h) (.inl ⟨by rfl, fun W hW => exec_nil rfl rfl⟩) (fun w => rfl) hS1 ?_
    simp only [Act.put, List.setIfInBounds_toArray, List.set_cons_zero, List.set_cons_succ]
    refine alwI_take (i := 9) (v := .pointer (some ⟨ix, 3, none⟩)) rfl rfl (by kernel_rfl) (by kernel_rfl) (fun _ _ _ h => h) (.inl ⟨by rfl, fun W hW => exec_field (off := 0) (d := 3) rfl rfl (by kernel_rfl)⟩) (fun w => rfl) hS1 ?_
    simp only [Act.put, List.setIfInBounds_toArray, List.set_cons_zero, List.set_cons_succ]
    refine alwI_take (i := 10) (v := .int .i64 (ch : Int)) rfl rfl (by kernel_rfl) (by kernel_rfl) (fun _ _ _ h => h) (.inl ⟨by rfl, fun W hW => exec_load1 rfl rfl (by kernel_rfl) (hW.2.1.cell 3)⟩) (fun w => rfl) hS1 ?_
    simp only [Act.put, List.setIfInBounds_toArray, List.set_cons_zero, List.set_cons_succ]
    refine alwI_take (i := 11) (v := .int .i64 (ch : Int)) rfl rfl (by kernel_rfl) (by kernel_rfl) (fun _ _ _ h => h) (.inl ⟨by rfl, fun W hW => exec_load1 rfl rfl (by kernel_rfl) (hW.2.2.cell 0)⟩) (fun w => rfl) hS1 ?_
    simp only [Act.put, List.setIfInBounds_toArray, List.set_cons_zero, List.set_cons_succ]
    refine alwI_take (i := 12) (v := .bool true) rfl rfl (by kernel_rfl) (by kernel_rfl) (fun _ _ _ h => h) (.inl ⟨by rfl, fun W hW => ix_eql rfl rfl rfl (by simp)⟩) (fun w => rfl) hS1 ?_
    simp only [Act.put, List.setIfInBounds_toArray, List.set_cons_zero, List.set_cons_succ]
    refine alwI_take (i := 13) (v := .bool true) rfl rfl (by kernel_rfl) (by kernel_rfl) (fun _ _ _ h => h) (.inl ⟨by rfl, fun W hW => ix_pickT rfl rfl rfl⟩) (fun w => rfl) hS1 ?_
    simp only [Act.put, List.setIfInBounds_toArray, List.set_cons_zero, List.set_cons_succ]
    refine alwI_take (i := 14) (v := .bool true) rfl rfl (by kernel_rfl) (by kernel_rfl) (fun _ _ _ h => h) (.inl ⟨by rfl, fun W hW => gx_assign rfl rfl⟩) (fun w => rfl) hS1 ?_
    simp only [Act.put, List.setIfInBounds_toArray, List.set_cons_zero, List.set_cons_succ]
    refine alwI_done rfl ?_
    refine NoPanic.normal ?_
    try simp only [Act.put, List.setIfInBounds_toArray, List.set_cons_zero, List.set_cons_succ]
    gi_wp2
    go_ret
    exact .inl ⟨rfl, hj⟩
  · refine HK1.out _ _ ⟨fun e => (by simp at e), ?_⟩
    clear HK1
    try simp only [Act.put, List.setIfInBounds_toArray, List.set_cons_zero, List.set_cons_succ]
    refine tillI_of_alw (S' := fun _ => True) _ _ _ _ (by kernel_rfl) ?_
    clear hS0 hy hR
    refine alwI_take (i := 6) (v := .bool false) rfl rfl (by kernel_rfl) (by kernel_rfl) (fun _ _ _ h => h) (.inl ⟨by rfl, fun W hW => exec_move rfl rfl⟩) (fun w => rfl) trivial ?_
    simp only [Act.put, List.setIfInBounds_toArray, List.set_cons_zero, List.set_cons_succ]
    refine alwI_take (i := 7) (v := undef) rfl rfl (by kernel_rfl) (by kernel_rfl) (fun _ _ _ h => h) (.inr ⟨by rfl, rfl⟩) (fun w => rfl) trivial ?_
    simp only [Act.put, List.setIfInBounds_toArray, List.set_cons_zero, List.set_cons_succ]
    refine alwI_take (i := 8) (v := undef) rfl rfl (by kernel_rfl) (by kernel_rfl) (fun _ _ _ h => h) (.inr ⟨by rfl, rfl⟩) (fun w => rfl) trivial ?_
    simp only [Act.put, List.setIfInBounds_toArray, List.set_cons_zero, List.set_cons_succ]
    refine alwI_take (i := 9) (v := undef) rfl rfl (by kernel_rfl) (by kernel_rfl) (fun _ _ _ h => h) (.inr ⟨by rfl, rfl⟩) (fun w => rfl) trivial ?_
    simp only [Act.put, List.setIfInBounds_toArray, List.set_cons_zero, List.set_cons_succ]
    refine alwI_take (i := 10) (v := undef) rfl rfl (by kernel_rfl) (by kernel_rfl) (fun _ _ _ h => h) (.inr ⟨by rfl, rfl⟩) (fun w => rfl) trivial ?_
    simp only [Act.put, List.setIfInBounds_toArray, List.set_cons_zero, List.set_cons_succ]
    refine alwI_take (i := 11) (v := undef) rfl rfl (by kernel_rfl) (by kernel_rfl) (fun _ _ _ h => h) (.inr ⟨by rfl, rfl⟩) (fun w => rfl) trivial ?_
    simp only [Act.put, List.setIfInBounds_toArray, List.set_cons_zero, List.set_cons_succ]
    refine alwI_take (i := 12) (v := undef) rfl rfl (by kernel_rfl) (by kernel_rfl) (fun _ _ _ h => h) (.inr ⟨by rfl, rfl⟩) (fun w => rfl) trivial ?_
    simp only [Act.put, List.setIfInBounds_toArray, List.set_cons_zero, List.set_cons_succ]
    refine alwI_take (i := 13) (v := .bool false) rfl rfl (by kernel_rfl) (by kernel_rfl) (fun _ _ _ h => h) (.inl ⟨by rfl, fun W hW => ix_pickF rfl rfl rfl⟩) (fun w => rfl) trivial ?_
    simp only [Act.put, List.setIfInBounds_toArray, List.set_cons_zero, List.set_cons_succ]
    refine alwI_take (i := 14) (v := .bool false) rfl rfl (by kernel_rfl) (by kernel_rfl) (fun _ _ _ h => h) (.inl ⟨by rfl, fun W hW => gx_assign rfl rfl⟩) (fun w => rfl) trivial ?_
    simp only [Act.put, List.setIfInBounds_toArray, List.set_cons_zero, List.set_cons_succ]
    refine alwI_done rfl ?_
    refine NoPanic.normal ?_
    try simp only [Act.put, List.setIfInBounds_toArray, List.set_cons_zero, List.set_cons_succ]
    gi_wp2
    go_ret
    exact .inr ⟨rfl, hx⟩
end Go.Proofs.Ytmlkdkbpbleilaa

namespace Go.Proofs.Ytmlkdkbpbleilaa
open Go.RowKit Go.Shelf
open Ix
set_option linter.unusedVariables false
/-- a block that is no cells -/
def nc (n0 : Nat) (A : World) (k : Nat) : Prop := n0 ≤ k ∧ ∃ o : Obj, A.heap[k]? = some o ∧ o.isCells = false
/-- all lies as it lay but the blocks of G, and what is no cells; G takes no others on -/
def KpG (G : World → Nat → Prop) (n0 : Nat) (A B : World) : Prop := Turn (fun k => G A k ∨ nc n0 A k) A B ∧ ∀ k, G B k → k < A.heap.size → G A k ∨ nc n0 A k
theorem KpG.back {G : World → Nat → Prop} {n0 : Nat} {A B : World} (h : KpG G n0 A B) {k : Nat} (hk : k < A.heap.size) (hn : nc n0 B k) : G A k ∨ nc n0 A k := by
  by_cases hG : G A k ∨ nc n0 A k
  · exact hG
  · have e := h.1.block k hk hG
    obtain ⟨hl, o, ho, hc⟩ := hn
    exact .inr ⟨hl, o, by rw [← e]; exact ho, hc⟩
theorem KpG.trans {G : World → Nat → Prop} {n0 : Nat} {A B C : World} (h : KpG G n0 A B) (g : KpG G n0 B C) : KpG G n0 A C :=
  ⟨h.1.trans g.1 (fun k hk hb => hb.elim (fun hG => h.2 k hG hk) (fun hn => h.back hk hn)),
   fun k hG hk => (g.2 k hG (Nat.lt_of_lt_of_le hk h.1.size)).elim (fun x => h.2 k x hk) (fun x => h.back hk x)⟩
/-- G hangs on what lies below n0 alone -/
def GOK (G : World → Nat → Prop) (n0 : Nat) : Prop := ∀ A B k, Below n0 A B → n0 ≤ A.heap.size → G B k → G A k
theorem KpG.still {G : World → Nat → Prop} {n0 : Nat} (hG : GOK G n0) {A B : World} (hn : n0 ≤ A.heap.size) (h : Turn nowhere A B) : KpG G n0 A B :=
  ⟨h.mono fun _ _ e => e.elim, fun k hk _ => .inl (hG A B k (h.below hn fun _ _ e => e) hn hk)⟩
theorem KpG.put {G : World → Nat → Prop} {n0 : Nat} (hG : GOK G n0) (W : World) (l : Nat) (o o' : Obj) (hn : n0 ≤ l) (hl : W.heap[l]? = some o) (hc : o.isCells = false) : KpG G n0 W (W.putObj l o') := by
  have hlt : l < W.heap.size := (Array.getElem?_eq_some_iff.1 hl).1
  have ht : Turn (only l) W (W.putObj l o') := (Turn.refl _ W).grown (grownBy_putObj' W l o') fun g e _ => by cases e; rfl
  refine ⟨ht.mono fun k _ e => .inr ⟨by rw [show k = l from e]; exact hn, o, by rw [show k = l from e]; exact hl, hc⟩, fun k hk _ => .inl (hG W _ k (ht.below (Nat.le_trans hn (Nat.le_of_lt hlt)) fun k hk e => ?_) (Nat.le_trans hn (Nat.le_of_lt hlt)) hk)⟩
  have : k = l := e
  omega
theorem Blk.not_nc {n0 : Nat} {w : World} {g : Nat} {t : TypeId} {cs : Array Value} (h : Blk w g t cs) : ¬ nc n0 w g := by
  rintro ⟨_, o, ho, hc⟩
  have h : w.heap[g]? = some (.cells cs t (0, 0)) := h
  rw [h] at ho
  cases ho
  cases hc
theorem Blk.kp {G : World → Nat → Prop} {n0 : Nat} {A B : World} {g : Nat} {t : TypeId} {cs : Array Value} (h : Blk A g t cs) (hk : KpG G n0 A B) (hg : ¬ G A g) : Blk B g t cs :=
  h.turn hk.1 fun e => e.elim hg h.not_nc
theorem In.foot_cells {w : World} {H : Hp} (h : In w H) {b : Nat} (hb : foot H b) : ∃ t cs, Blk w b t cs := by
  obtain ⟨p, nd, hp, e | e | e⟩ := hb
  · subst e
    exact ⟨_, _, (h.at_ hp).blk⟩
  · exact ⟨_, (h.at_ hp).prs.own_blk e⟩
  · exact ⟨_, (h.at_ hp).kds.own_blk e⟩
theorem In.kp {G : World → Nat → Prop} {n0 : Nat} {A B : World} {H : Hp} (h : In A H) (hk : KpG G n0 A B) (hg : ∀ b, foot H b → ¬ G A b) : In B H :=
  h.turn hk.1 fun b hb hf => by
    obtain ⟨t, cs, hc⟩ := h.foot_cells hf
    exact hb.elim (hg b hf) hc.not_nc
theorem YieldAt.wide {m m' : Nat} {P : Program} {l : Nat} {args : Array Value} {W : World} {R R' : Ending → World → Prop} (h : YieldAt Fence.wide m P l args W R) (hr : ∀ e w', R e w' → R' e w') : YieldAt Fence.wide m' P l args W R' := by
  obtain ⟨fn, tmps, assign, body, hy, hR⟩ := h
  exact ⟨fn, tmps, assign, body, hy, (RoundIn.anyDepthW hR).mono hr⟩
theorem jt_of {J : List Pr → World → Prop} {n0 : Nat} (h : AbidesFrom n0 J) : JT J := fun l W W' hj ht =>
  h l W W' none hj ⟨ht.os, ht.tape, ht.output, ht.size, fun k hk _ => ht.block k hk fun e => e⟩ fun r e => by cases e
/-- what a range tells -/
def rngOf (fr to : Key) (l : List Pr) : List Pr := (fdrop fr l).takeWhile fun p => !stopAt to p
theorem take_ok {to : Key} : ∀ {a : List Pr}, Ok to a → (a.takeWhile fun p => !stopAt to p) = a
  | [], _ => rfl
  | p :: a, h => by
    rw [List.takeWhile_cons_of_pos (by rw [h p (List.mem_cons_self ..)]; rfl), take_ok fun q hq => h q (List.mem_cons_of_mem _ hq)]
theorem take_ok_app {to : Key} : ∀ {a b : List Pr}, Ok to a → ((a ++ b).takeWhile fun p => !stopAt to p) = a ++ b.takeWhile fun p => !stopAt to p
  | [], _, _ => rfl
  | p :: a, b, h => by
    show ((p :: (a ++ b)).takeWhile fun p => !stopAt to p) = _
    rw [List.takeWhile_cons_of_pos (by rw [h p (List.mem_cons_self ..)]; rfl), take_ok_app fun q hq => h q (List.mem_cons_of_mem _ hq)]
    rfl
theorem room_rng {fr to : Key} {l : List Pr} : Room to (rngOf fr to l).length [] (fdrop fr l) := fun a p b e g => by
  have : rngOf fr to l = (a ++ [p]) ++ b.takeWhile fun p => !stopAt to p := by
    unfold rngOf
    rw [e, show a ++ p :: b = (a ++ [p]) ++ b from by simp, take_ok_app g]
  rw [this]
  simp
/-- how it ends -/
theorem wend_rng {fr to : Key} {J Jx : List Pr → World → Prop} {l : List Pr} {e : Ending} {W : World} (h : WEnd to J Jx [] (fdrop fr l) e W) :
    (∃ v, e = .returned v) ∧ ((∃ ys, ys = rngOf fr to l ∧ J ys W) ∨ ∃ pre, pre <+: rngOf fr to l ∧ Jx pre W) := by
  rcases h with ⟨rfl, h1, h2⟩ | ⟨rfl, ⟨a, p, b, h0, h1, h2, h3⟩ | ⟨a, b, h0, h1, h2⟩⟩
  · exact ⟨⟨_, rfl⟩, .inl ⟨_, (take_ok h1).symm, h2⟩⟩
  · refine ⟨⟨_, rfl⟩, .inl ⟨a, ?_, h3⟩⟩
    unfold rngOf
    rw [h0, take_ok_app h1, List.takeWhile_cons_of_neg (by rw [h2]; simp), List.append_nil]
  · refine ⟨⟨_, rfl⟩, .inr ⟨a, ?_, h2⟩⟩
    unfold rngOf
    rw [h0, take_ok_app h1]
    exact List.prefix_append ..
end Go.Proofs.Ytmlkdkbpbleilaa

namespace Go.Proofs.Ytmlkdkbpbleilaa
open Go.RowKit Go.Shelf
open Ix
set_option linter.unusedVariables false
set_option linter.unusedSimpArgs false
attribute [local go_sem] Oper.semAt_some
set_option maxRecDepth 20000 in
set_option maxHeartbeats 4000000 in
theorem range_stops {n : Nat} {w : World} {xb fb tb ix : Nat} {H : Hp} {M N : Nat} {l : List Pr} {fr to : Key} {G : World → Nat → Prop} {n0 : Nat} (hG : GOK G n0) (hn0 : n0 ≤ w.heap.size)
    (hx : Blk w xb 24 #[.pointer (some ⟨ix, 0, none⟩)]) (hf : Blk w fb 9 #[strV fr]) (ht : Blk w tb 9 #[strV to]) (h : Idx w ix H M l N)
    (hg : ∀ k, G w k → ¬ own ix H k ∧ k ≠ xb ∧ k < w.heap.size) :
    SeqStopsK Fence.wide n Try.prog 34 #[.pointer (some ⟨xb, 0, none⟩), .pointer (some ⟨fb, 0, none⟩), .pointer (some ⟨tb, 0, none⟩)] (fun p : Pr => #[strV p.1, .int .i64 p.2]) (KpG G n0) (fun ys => ys = rngOf fr to l) (fun pre => pre <+: rngOf fr to l) (rngOf fr to l).length w := by
  intro l0 J Jx W hW hJ hJx hY h0
  have htw : Turn nowhere w W := Turn.of_below hW (Nat.le_refl _)
  have hn1 : n0 ≤ W.heap.size := Nat.le_trans hn0 hW.size
  have hg1 : ∀ k, G W k → ¬ own ix H k ∧ k ≠ xb ∧ k < W.heap.size := fun k hk => by
    obtain ⟨a, b, c⟩ := hg k (hG w W k (hW.mono hn0) hn0 hk)
    exact ⟨a, b, Nat.lt_of_lt_of_le c hW.size⟩
  have HX := Lib.hid (hx.turn htw fun e => e)
  have HF := Lib.hid (hf.turn htw fun e => e)
  have HT := Lib.hid (ht.turn htw fun e => e)
  have HI := Lib.hid (h.still htw)
  have HG := Lib.hid hG
  have HN1 := Lib.hid hn1
  have HG1 := Lib.hid hg1
  have HJT := Lib.hid (jt_of hJ)
  have HY := Lib.hid hY
  have HJ0 := Lib.hid h0
  clear hx hf ht h hG hn0 hg hJ hJx hY h0 hW htw hn1 hg1
  obtain ⟨top, ch, hb, hch, htop⟩ := HI.out.blk
  have HO := Lib.hid HI.out.ord
  have HB := Lib.hid hb
  clear hb hch
  refine callsIn_wide.2 ?_
  refine callsIn_wide.1 (?_ : CallsIn Fence.wide 5 _ _ _ _ _)
  refine callsIn_of_wp Try.func34 rfl trivial ?_ rfl
  simp only [Try.ntmps34, List.size_toArray, List.length_cons, List.length_nil, Nat.reduceAdd, Nat.reduceSub, Array.replicate_succ, Array.replicate_zero, List.push_toArray, List.append_toArray, List.nil_append, List.cons_append]
  have ht1 : Turn nowhere W (W.alloc (.cells #[.func (.yield l0) #[] #[]] 70)) := (Turn.refl nowhere W).alloc _
  have HYB := Lib.hid (show Blk (W.alloc (.cells #[.func (.yield l0) #[] #[]] 70)) W.heap.size 70 #[.func (.yield l0) #[] #[]] from Blk.new _ _ _)
  have hcx : (W.alloc (.cells #[.func (.yield l0) #[] #[]] 70)).cell? ⟨xb, 0, none⟩ = some (.pointer (some ⟨ix, 0, none⟩)) := (HX.out.turn ht1 fun e => e).cell 0
  have hct : (W.alloc (.cells #[.func (.yield l0) #[] #[]] 70)).cell? ⟨ix, 1, none⟩ = some top := (HB.out.turn ht1 fun e => e).cell 1
  have hcc : (W.alloc (.cells #[.func (.yield l0) #[] #[]] 70)).cell? ⟨ix, 3, none⟩ = some (.int .i64 (ch : Int)) := (HB.out.turn ht1 fun e => e).cell 3
  clear ht1
  rcases htop with ⟨rfl, hl⟩ | ⟨d, p, t, F, rfl, htr, hnd, hnb, hsr, hfl⟩
  · gi_wp2
    refine bodyPost_ret (results_none rfl _ _ _) rfl ?_
    refine ⟨⟨_, rfl⟩, .inl ?_⟩
    exact HJT.out _ _ _ HJ0.out ((Turn.refl nowhere W).alloc _)
  · have HTR := Lib.hid htr
    have HNB := Lib.hid hnb
    have HSR := Lib.hid hsr
    have HFL := Lib.hid hfl
    clear htr hnd hnb hsr hfl
    gi_wp2
    obtain ⟨W3, hw3⟩ : ∃ W3, W3 = ((W.alloc (.cells #[.func (.yield l0) #[] #[]] 70)).alloc (.cells #[.int .i64 (ch : Int)] 3)).drew := ⟨_, rfl⟩
    have ht3 : Turn nowhere W W3 := by rw [hw3]; exact (((Turn.refl nowhere W).alloc _).alloc _).drew
    have hyb : Blk W3 W.heap.size 70 #[.func (.yield l0) #[] #[]] := by
      rw [hw3]
      exact HYB.out.turn ((Turn.refl nowhere _).alloc _).drew fun e => e
    have hbb : Blk W3 (W.heap.size + 1) 3 #[.int .i64 (ch : Int)] := by
      rw [hw3]
      have := Blk.new (W.alloc (.cells #[.func (.yield l0) #[] #[]] 70)) 3 #[.int .i64 (ch : Int)]
      rw [World.size_alloc] at this
      exact this
    obtain ⟨y, hy⟩ : ∃ y, y = W.heap.size := ⟨_, rfl⟩
    obtain ⟨b, hb⟩ : ∃ b, b = W.heap.size + 1 := ⟨_, rfl⟩
    rw [← hy] at hyb
    rw [← hb] at hbb
    have hg3 : ∀ k, G W3 k → ¬ own ix H k ∧ k ≠ xb ∧ k < W.heap.size := fun k hk => HG1.out k (HG.out W W3 k (ht3.below HN1.out fun _ _ e => e) HN1.out hk)
    have hn3 : n0 ≤ W3.heap.size := Nat.le_trans HN1.out ht3.size
    have hS0 : (fun V => Blk V xb 24 #[.pointer (some ⟨ix, 0, none⟩)] ∧ Blk V ix 58 #[.int .i64 (M : Int), .pointer (some ⟨p, 0, none⟩), .int .i64 (l.length : Int), .int .i64 (ch : Int)] ∧ Blk V fb 9 #[strV fr] ∧ Blk V tb 9 #[strV to]) W3 := ⟨HX.out.turn ht3 fun e => e, HB.out.turn ht3 fun e => e, HF.out.turn ht3 fun e => e, HT.out.turn ht3 fun e => e⟩
    have hE : ∀ pre V, (J pre V ∧ KpG G n0 W3 V) → Env y xb b l0 ix V := fun pre V hv =>
      ⟨hyb.kp hv.2 (fun e => by have := (hg3 _ e).2.2; omega), hS0.1.kp hv.2 (fun e => (hg3 _ e).2.1 rfl), ⟨_, _, _, ch, hS0.2.1.kp hv.2 (fun e => (hg3 _ e).1 (.inl rfl)), hbb.kp hv.2 (fun e => by have := (hg3 _ e).2.2; omega)⟩⟩
    have hT := tell_walk (Jx := Jx) (N := (rngOf fr to l).length) (J := fun pre V => J pre V ∧ KpG G n0 W3 V)
      (fun pre A B hA hAB => ⟨HJT.out _ _ _ hA.1 hAB, hA.2.trans (KpG.still HG.out (Nat.le_trans hn3 hA.2.1.size) hAB)⟩) hE
      (fun pre q V hV hlen => YieldAt.wide (HY.out pre q V hV.1 hlen) fun e V' h => h.elim (fun ⟨h1, h2, h3⟩ => .inl ⟨h1, h2, hV.2.trans h3⟩) .inr)
    have hW := walk_tree (fr := fr) (to := to) hT (fun pre A B hA hAB => ⟨HJT.out _ _ _ hA.1 hAB, hA.2.trans (KpG.still HG.out (Nat.le_trans hn3 hA.2.1.size) hAB)⟩)
      (fun pre V hV => (HI.out.hin.still ht3).kp hV.2 fun k hk e => (hg3 k e).1 (.inr hk)) HO.out.2 HTR.out HNB.out HSR.out
    rw [HFL.out] at hW
    have HCW := Lib.hid (hW [] W3 ⟨HJT.out _ _ _ HJ0.out ht3, KpG.still HG.out hn3 (Turn.refl _ _)⟩ room_rng)
    clear hT hW hE hg3 hn3 hyb hbb HYB hcx hct hcc ht3
    refine wpIn_region_till (fun V => Blk V xb 24 #[.pointer (some ⟨ix, 0, none⟩)] ∧ Blk V ix 58 #[.int .i64 (M : Int), .pointer (some ⟨p, 0, none⟩), .int .i64 (l.length : Int), .int .i64 (ch : Int)] ∧ Blk V fb 9 #[strV fr] ∧ Blk V tb 9 #[strV to]) 7 (by kernel_rfl) ?_
    rw [← hw3, ← hb, ← hy]
    clear hw3 hb hy
    refine tillI_takeL [1, 2, 3, 7] (i := 0) (v := .pointer (some ⟨ix, 0, none⟩)) rfl rfl (by kernel_rfl) (by kernel_rfl) (fun _ _ _ h => h) (.inl ⟨by rfl, fun W hW => exec_load1 rfl rfl (by kernel_rfl) (hW.1.cell 0)⟩) (fun w => rfl) hS0 ?_
    simp only [Act.put, List.setIfInBounds_toArray, List.set_cons_zero, List.set_cons_succ]
    refine tillI_pure (i := 1) (v := .pointer (some ⟨ix, 0, none⟩)) rfl rfl (by kernel_rfl) (by kernel_rfl) (fun _ _ _ h => h) (.inl ⟨by rfl, fun W hW => exec_nil rfl rfl⟩) (fun w => rfl) hS0 ?_
    simp only [Act.put, List.setIfInBounds_toArray, List.set_cons_zero, List.set_cons_succ]
    refine tillI_pure (i := 2) (v := .pointer (some ⟨ix, 1, none⟩)) rfl rfl (by kernel_rfl) (by kernel_rfl) (fun _ _ _ h => h) (.inl ⟨by rfl, fun W hW => exec_field (off := 0) (d := 1) rfl rfl (by kernel_rfl)⟩) (fun w => rfl) hS0 ?_
    simp only [Act.put, List.setIfInBounds_toArray, List.set_cons_zero, List.set_cons_succ]
    refine tillI_take (i := 3) (v := .pointer (some ⟨p, 0, none⟩)) rfl rfl (by kernel_rfl) (by kernel_rfl) (fun _ _ _ h => h) (.inl ⟨by rfl, fun W hW => exec_load1 rfl rfl (by kernel_rfl) (hW.2.1.cell 1)⟩) (fun w => rfl) hS0 ?_
    simp only [Act.put, List.setIfInBounds_toArray, List.set_cons_zero, List.set_cons_succ]
    refine tillI_take (i := 4) (v := strV fr) rfl rfl (by kernel_rfl) (by kernel_rfl) (fun _ _ _ h => h) (.inl ⟨by rfl, fun W hW => exec_load1 rfl rfl (by kernel_rfl) (hW.2.2.1.cell 0)⟩) (fun w => rfl) hS0 ?_
    simp only [Act.put, List.setIfInBounds_toArray, List.set_cons_zero, List.set_cons_succ]
    refine tillI_take (i := 5) (v := strV to) rfl rfl (by kernel_rfl) (by kernel_rfl) (fun _ _ _ h => h) (.inl ⟨by rfl, fun W hW => exec_load1 rfl rfl (by kernel_rfl) (hW.2.2.2.cell 0)⟩) (fun w => rfl) hS0 ?_
    simp only [Act.put, List.setIfInBounds_toArray, List.set_cons_zero, List.set_cons_succ]
    refine tillI_pure (i := 6) (v := .func (.func 36) #[] #[.pointer (some ⟨y, 0, none⟩), .pointer (some ⟨xb, 0, none⟩), .pointer (some ⟨b, 0, none⟩)]) rfl rfl (by kernel_rfl) (by kernel_rfl) (fun _ _ _ h => h) (.inl ⟨by rfl, fun W hW => by simp [go_sem]⟩) (fun w => rfl) hS0 ?_
    simp only [Act.put, List.setIfInBounds_toArray, List.set_cons_zero, List.set_cons_succ]
    refine tillI_step (i := 7) (by kernel_rfl) rfl rfl ?_
    intro K1 HK1
    gi_wp2
    refine ⟨trivial, (callsIn_wide.2 HCW.out).mono ?_⟩
    rintro e w2 he
    obtain ⟨⟨v, rfl⟩, hend⟩ := wend_rng he
    refine HK1.out _ _ ⟨fun e => (by simp at e), ?_⟩
    clear HK1
    refine tillI_of_alw (S' := fun _ => True) _ _ _ _ (by kernel_rfl) ?_
    refine alwI_done rfl ?_
    refine NoPanic.normal ?_
    try simp only [Act.put, List.setIfInBounds_toArray, List.set_cons_zero, List.set_cons_succ]
    gi_wp2
    go_end0
    exact ⟨⟨_, rfl⟩, hend.elim (fun ⟨ys, h1, h2⟩ => .inl ⟨ys, h1, h2.1⟩) .inr⟩
end Go.Proofs.Ytmlkdkbpbleilaa

namespace Go.Proofs.Ytmlkdkbpbleilaa
open Go.RowKit Go.Shelf
open Ix
set_option linter.unusedVariables false
theorem Range_walk {w : World} {x : Nat} {fr to : Key} :
    Calls Try.prog 25 #[.pointer (some ⟨x, 0, none⟩), strV fr, strV to] w fun e w' => ∃ a b c, e = .returned (.func (.func 34) #[] #[.pointer (some ⟨a, 0, none⟩), .pointer (some ⟨b, 0, none⟩), .pointer (some ⟨c, 0, none⟩)]) ∧ Turn nowhere w w' ∧
      (w.heap.size ≤ a ∧ w.heap.size ≤ b ∧ w.heap.size ≤ c) ∧ Blk w' a 24 #[.pointer (some ⟨x, 0, none⟩)] ∧ Blk w' b 9 #[strV fr] ∧ Blk w' c 9 #[strV to] := by
  go_enter Try.func25, Try.ntmps25
  go_wp2_with fail
  go_ret
  have h1 := (Blk.new w 24 #[.pointer (some ⟨x, 0, none⟩)])
  have h2 := (Blk.new (w.alloc (.cells #[.pointer (some ⟨x, 0, none⟩)] 24)) 9 #[strV fr])
  have h3 := (Blk.new ((w.alloc (.cells #[.pointer (some ⟨x, 0, none⟩)] 24)).alloc (.cells #[strV fr] 9)) 9 #[strV to])
  rw [World.size_alloc] at h2
  rw [World.size_alloc, World.size_alloc] at h3
  have t1 : ∀ (V : World) o, Turn nowhere V (V.alloc o) := fun V o => (Turn.refl nowhere V).alloc o
  exact ⟨_, _, _, rfl, ((t1 _ _).alloc _).alloc _, ⟨Nat.le_refl _, by first | omega | simp, by first | omega | simp⟩, (h1.turn (t1 _ _) fun e => e).turn (t1 _ _) fun e => e, h2.turn (t1 _ _) fun e => e, h3⟩
end Go.Proofs.Ytmlkdkbpbleilaa

namespace Go.Proofs.Ytmlkdkbpbleilaa
open Go.RowKit Go.Shelf
open Ix
set_option linter.unusedVariables false
set_option linter.unusedSimpArgs false
attribute [local go_sem] Oper.semAt_some
theorem elmR : Elm Try.prog 29 54 2 24 (.agg #[.string ByteArray.empty, .int .i64 0]) := ⟨Try.underlying29, by kernel_rfl, rfl, by decide, by decide⟩
theorem orw_made (w : World) (et : TypeId) (k : Nat) : Orw (w.alloc (.cells #[] et)) w.heap.size et k (.slice (some ⟨w.heap.size, 0, none⟩) 0 0) [] :=
  ⟨Fit.nil k, World.ownsRow_made w #[] 0 (Nat.le_refl _) (by unfold maxLen; omega) (by simp)⟩
theorem wpListIn_app {F : Fence} {n : Nat} {P : Program} {w w' : World} {ops : Array Oper} {rest : List Oper} {o : Oper} {a : Act} {Q : Exit → Act → World → Prop}
    (hg : o.guard = none) (s x : Operand) (t : TypeId) (hop : o.op = Op.call { callee := Callee.builtin Builtin.append, args := #[s, x], argTypes := #[t, t] })
    {v u r : Value} (hs : a.eval s = v) (hx : a.eval x = u) (hrun : (Builtin.append_ #[t, t] o.type #[v, u]).run P w = .ok r w') (hK : wpListIn F n P ops Q rest (a.put o.dst r) w') :
    wpListIn F n P ops Q (o :: rest) a w := by
  refine wpListIn_plain hg fun K hK' => ?_
  unfold Oper.wpIn
  refine ⟨?_, ?_⟩
  · simp [Oper.about, hop, resolve, Target.leads, Sem.run_pure]
  · rw [Oper.semAt_plain F _ _ (by rw [hop]; intro c hc'; cases hc')]
    simp [execOp, hop, resolve, invoke, builtin, hs, hx, hrun, Result.andThen]
    exact hK' _ _ hK
/-- left behind so many; below nought: never -/
def cut (most : Int) (r : List Pr) : List Pr := if most < 0 then r else r.take most.toNat
theorem cut_all {most : Int} {r : List Pr} (h : 0 ≤ most → (r.length : Int) < most) : cut most r = r := by
  unfold cut
  split
  · rfl
  · rw [List.take_of_length_le]
    have := h (by omega)
    omega
theorem cut_pre {most : Int} {a r : List Pr} (h : a <+: r) (hl : (a.length : Int) = most) : cut most r = a := by
  unfold cut
  rw [if_neg (by omega)]
  obtain ⟨b, rfl⟩ := h
  rw [show most.toNat = a.length from by omega]
  simp
/-- the blocks that the collecting body writes -/
def colG (B9 : Nat) (A : World) (k : Nat) : Prop := k = B9 ∨ ∃ o n c, A.cell? ⟨B9, 0, none⟩ = some (.slice (some ⟨k, o, none⟩) n c)
theorem colG_ok {B9 n0 : Nat} (h : B9 < n0) : GOK (colG B9) n0 := fun A B k hb hn hk => by
  have e : B.cell? ⟨B9, 0, none⟩ = A.cell? ⟨B9, 0, none⟩ := hb.cell (p := ⟨B9, 0, none⟩) h
  rcases hk with hk | ⟨o, n, c, hk⟩
  · exact .inl hk
  · exact .inr ⟨o, n, c, by rw [← e]; exact hk⟩
/-- between two rounds -/
structure ColI (w w1 : World) (most : Int) (B7 B9 : Nat) (pre : List Pr) (W : World) (v : Value) : Prop where
  b9 : Blk W B9 29 #[v]
  row : Orw W w.heap.size 54 2 v (pre.map encP)
  b7 : Blk W B7 3 #[.int .i64 most]
  kp : KpG (colG B9) w1.heap.size w1 W
theorem Blk.by_ {W W' : World} {g : Nat} {t : TypeId} {cs : Array Value} (h : Blk W g t cs) {row : Option Nat} (hg : W.grownBy W' row) (hr : ∀ r, row = some r → ∃ o : Obj, W.heap[r]? = some o ∧ o.isCells = false) : Blk W' g t cs :=
  (grownBy_keeps_cells hg hr (o := .cells cs t (0, 0)) h rfl).trans h
theorem ColI.own {w w1 : World} {most : Int} {B7 B9 : Nat} {pre : List Pr} {W W' : World} {v : Value} {row : Option Nat} (h : ColI w w1 most B7 B9 pre W v) (h9 : B9 < w1.heap.size) (hg : W.grownBy W' row)
    (hr : ∀ r, row = some r → w1.heap.size ≤ r ∧ ∃ o : Obj, W.heap[r]? = some o ∧ o.isCells = false) : ColI w w1 most B7 B9 pre W' v := by
  have ht : Turn (fun k => row = some k) W W' := (Turn.refl _ W).grown hg fun g e _ => e
  refine ⟨h.b9.by_ hg fun r e => (hr r e).2, h.row.turn ht fun b hb e => ?_, h.b7.by_ hg fun r e => (hr r e).2, h.kp.trans ⟨ht.mono fun k _ e => .inr ⟨(hr k e).1, (hr k e).2⟩, fun k hk _ => .inl ?_⟩⟩
  · obtain ⟨o, ho, hc⟩ := (hr b e).2
    obtain ⟨cur, hcur⟩ := h.row.own_blk hb
    have hcur : W.heap[b]? = some (.cells cur 54 (0, 0)) := hcur
    rw [hcur] at ho
    cases ho
    cases hc
  · have e9 := (h.b9.by_ hg fun r e => (hr r e).2).cell 0
    have e8 := h.b9.cell 0
    rcases hk with hk | ⟨o, n, c, hk⟩
    · exact .inl hk
    · exact .inr ⟨o, n, c, by rw [e8]; rw [e9] at hk; exact hk⟩
theorem row_blk {W : World} {B b n c : Nat} {o : Nat} {et : TypeId} {k : Nat} {rs : List (List Value)} (h : Orw W B et k (.slice (some ⟨b, o, none⟩) n c) rs) : (Value.slice (some ⟨b, o, none⟩) n c).ownBlock = some b := rfl
set_option maxHeartbeats 2000000 in
theorem col_step {w w1 : World} {most : Int} {B7 B9 : Nat} {pre : List Pr} {W : World} {v : Value} (h : ColI w w1 most B7 B9 pre W v) (hw : w.heap.size ≤ w1.heap.size) (x : Pr) (hlen : (pre.length + 1) * 24 ≤ 140737488355328) :
    ∃ A c A' c' W2, v = .slice A pre.length c ∧ (Builtin.append_ #[29, 29] 29 #[.slice A pre.length c, .slice (some ⟨W.heap.size, 0, none⟩) 1 1]).run Try.prog (W.alloc (.cells #[strV x.1, .int .i64 x.2] 54)) = .ok (.slice A' (pre.length + 1) c') W2 ∧
      W2.cell? ⟨B9, 0, none⟩ = some (.slice A pre.length c) ∧ W2.frozen? ⟨B9, 0, none⟩ = false ∧ W2.cell? ⟨B7, 0, none⟩ = some (.int .i64 most) ∧ KeepsOthers W (W2.setCell ⟨B9, 0, none⟩ (.slice A' (pre.length + 1) c')) ∧
      KpG (colG B9) w1.heap.size W (W2.setCell ⟨B9, 0, none⟩ (.slice A' (pre.length + 1) c')) ∧ ColI w w1 most B7 B9 (pre ++ [x]) (W2.setCell ⟨B9, 0, none⟩ (.slice A' (pre.length + 1) c')) (.slice A' (pre.length + 1) c') := by
  obtain ⟨A, c, rfl, _, _, hz, _⟩ := h.row.form
  rw [List.length_map] at *
  have hle : w.heap.size ≤ W.heap.size := Nat.le_trans hw h.kp.1.size
  have ha : Turn nowhere W (W.alloc (.cells #[strV x.1, .int .i64 x.2] 54)) := (Turn.refl nowhere W).alloc _
  have hrow := h.row.still ha
  have h9a := h.b9.alloc (.cells #[strV x.1, .int .i64 x.2] 54)
  have h7a := h.b7.alloc (.cells #[strV x.1, .int .i64 x.2] 54)
  have hn9 := hrow.ne h9a (by decide)
  have hn7 := hrow.ne h7a (by decide)
  have h79 : B7 ≠ B9 := h.b7.ne_ h.b9 (by decide)
  obtain ⟨A', c', W2, hrun, hown, hg, hob⟩ := orw_grow elmR (ty := 29) (news := [encP x]) (A := some ⟨W.heap.size, 0, none⟩) (m := 1) (c := 1) hrow (Nat.le_trans hle ha.size) (rws_one (et := 54) (r := encP x) rfl fun _ => trivial) (Fit.one rfl (encP_one x)) (fun e => by cases e) (by rw [List.length_map]; exact hlen)
  rw [List.length_map] at hrun hown hob
  have ht2 : Turn (fun k => (Value.slice A pre.length c).ownBlock = some k) (W.alloc (.cells #[strV x.1, .int .i64 x.2] 54)) W2 := (Turn.refl _ _).grown hg fun g e _ => e
  have h92 := h9a.turn ht2 fun e => hn9 _ e rfl
  have h72 := h7a.turn ht2 fun e => hn7 _ e rfl
  have hn9' := hown.ne h92 (by decide)
  have h93 : Blk (W2.setCell ⟨B9, 0, none⟩ (.slice A' (pre.length + 1) c')) B9 29 #[.slice A' (pre.length + 1) c'] := h92.set_ 0 _
  have h73 := h72.far (p := ⟨B9, 0, none⟩) h79 (.slice A' (pre.length + 1) c')
  have ht3 : Turn (only B9) W2 (W2.setCell ⟨B9, 0, none⟩ (.slice A' (pre.length + 1) c')) := (Turn.refl _ _).at_ 0 _
  have hko : KeepsOthers W (W2.setCell ⟨B9, 0, none⟩ (.slice A' (pre.length + 1) c')) := ((KeepsOthers.alloc W _).trans (KeepsOthers.of_grownBy hg fun j o e ho => by
    obtain ⟨cur, hcur⟩ := hrow.own_blk e
    have hcur : (W.alloc (.cells #[strV x.1, .int .i64 x.2] 54)).heap[j]? = some (.cells cur 54 (0, 0)) := hcur
    rw [hcur] at ho
    cases ho
    rfl)).trans (KeepsOthers.setCell _ _ _)
  have hA : ∀ k, k < W.heap.size → (Value.slice A pre.length c).ownBlock = some k → colG B9 W k := fun k _ e => by
    have e8 := h.b9.cell 0
    rcases A with _ | ⟨ab, ao, ap⟩
    · cases e
    · rcases h.row.2.2 with ⟨e0, _⟩ | ⟨g, cap, cur, e0, _⟩
      · cases e0
      · injection e0 with e1 e2 e3
        cases e1
        have e' := Option.some.inj e
        subst e'
        exact .inr ⟨_, _, _, e8⟩
  have hkp : KpG (colG B9) w1.heap.size W (W2.setCell ⟨B9, 0, none⟩ (.slice A' (pre.length + 1) c')) := by
    refine ⟨((ha.mono fun k _ e => e.elim).trans ht2 fun k hk e => .inl (hA k hk e)).trans ht3 fun k _ e => .inl (.inl e), fun k hk hlt => ?_⟩
    rcases hk with hk | ⟨o, n, cc, hk⟩
    · exact .inl (.inl hk)
    · have e9 : (W2.setCell ⟨B9, 0, none⟩ (.slice A' (pre.length + 1) c')).cell? ⟨B9, 0, none⟩ = some (.slice A' (pre.length + 1) c') := h93.cell 0
      rw [e9] at hk
      injection hk with hk
      injection hk with e1 e2 e3
      subst e1
      have hb : (Value.slice (some ⟨k, o, none⟩) (pre.length + 1) c').ownBlock = some k := rfl
      rw [hb] at hob
      rcases hob with e | e
      · exact .inl (hA k hlt e.symm)
      · injection e with e
        have := ha.size
        rw [World.size_alloc] at e
        omega
  refine ⟨A, c, A', c', W2, rfl, hrun, h92.cell 0, h92.frozen 0, h72.cell 0, hko, hkp, h93, ?_, h73, h.kp.trans hkp⟩
  rw [List.map_append]
  exact hown.turn ht3 fun b hb e => hn9' b hb e
set_option maxRecDepth 20000 in
set_option maxHeartbeats 4000000 in
theorem ranged_walk {w : World} {ix : Nat} {H : Hp} {M N : Nat} {l : List Pr} {fr to : Key} {most : Int} (h : Idx w ix H M l N) :
    Calls Try.prog 18 #[.pointer (some ⟨ix, 0, none⟩), strV fr, strV to, .int .i64 most] w fun e w' => ∃ v, e = .returned v ∧ Orw w' w.heap.size 54 2 v ((cut most (rngOf fr to l)).map encP) ∧ Turn nowhere w w' := by
  have HI := Lib.hid h
  clear h
  have hwa : Turn nowhere w (((w.alloc (.cells #[.int .i64 most] 3)).alloc (.cells #[] 54)).alloc (.cells #[.slice (some ⟨w.heap.size + 1, 0, none⟩) 0 0] 29)) := (((Turn.refl nowhere w).alloc _).alloc _).alloc _
  have hrow : Orw (((w.alloc (.cells #[.int .i64 most] 3)).alloc (.cells #[] 54)).alloc (.cells #[.slice (some ⟨w.heap.size + 1, 0, none⟩) 0 0] 29)) w.heap.size 54 2 (.slice (some ⟨w.heap.size + 1, 0, none⟩) 0 0) [] := by
    have h := orw_made (w.alloc (.cells #[.int .i64 most] 3)) 54 2
    rw [World.size_alloc] at h
    exact (h.less (Nat.le_succ _)).still ((Turn.refl nowhere _).alloc _)
  refine callsIn_wide.1 (?_ : CallsIn Fence.wide 9 _ _ _ _ _)
  refine callsIn_of_wp_marks Try.func18 rfl trivial ?_ rfl
  simp only [Try.ntmps18, List.size_toArray, List.length_cons, List.length_nil, Nat.reduceAdd, Nat.reduceSub, Array.replicate_succ, Array.replicate_zero, List.push_toArray, List.append_toArray, List.nil_append, List.cons_append]
  by_cases h0 : most = 0
  · subst h0
    gi_wp2
    refine ⟨_, results_tmp rfl _ _ _, _, rfl, ?_, hwa⟩
    exact hrow
  · have hz : (most == 0) = false := by simpa using h0
    have H0 := Lib.hid h0
    have HROW := Lib.hid hrow
    have HWA := Lib.hid hwa
    clear h0 hrow hwa
    gi_wp2
    refine ⟨trivial, (callsIn_wide.2 Range_walk).mono ?_⟩
    rintro e w1 ⟨xb, fb, tb, rfl, ht1, ⟨hsx, hsf, hst⟩, hbx, hbf, hbt⟩
    gi_wp2
    have hwa := HWA.out
    have hs1 : w.heap.size + 1 + 1 + 1 ≤ w1.heap.size := by
      have := ht1.size
      simp only [World.size_alloc] at this
      exact this
    simp only [World.size_alloc] at hsx
    have h9 : w.heap.size + 1 + 1 < w1.heap.size := by omega
    have hb9 : Blk w1 (w.heap.size + 1 + 1) 29 #[.slice (some ⟨w.heap.size + 1, 0, none⟩) 0 0] := by
      have := Blk.new ((w.alloc (.cells #[.int .i64 most] 3)).alloc (.cells #[] 54)) 29 #[.slice (some ⟨w.heap.size + 1, 0, none⟩) 0 0]
      rw [World.size_alloc, World.size_alloc] at this
      exact this.turn ht1 fun e => e
    have hb7 : Blk w1 w.heap.size 3 #[.int .i64 most] := (((Blk.new w 3 #[.int .i64 most]).alloc _).alloc _).turn ht1 fun e => e
    have hi1 : Idx w1 ix H M l N := HI.out.still (hwa.trans ht1 fun _ _ e => e)
    have hc0 : ColI w w1 most w.heap.size (w.heap.size + 1 + 1) [] w1 (.slice (some ⟨w.heap.size + 1, 0, none⟩) 0 0) :=
      ⟨hb9, HROW.out.still ht1, hb7, KpG.still (colG_ok h9) (Nat.le_refl _) (Turn.refl _ _)⟩
    have hcolk : ∀ k, colG (w.heap.size + 1 + 1) w1 k → k = w.heap.size + 1 + 1 ∨ k = w.heap.size + 1 := fun k hk => by
      rcases hk with hk | ⟨o, n, c, hk⟩
      · exact .inl hk
      · have e9 : w1.cell? ⟨w.heap.size + 1 + 1, 0, none⟩ = some (.slice (some ⟨w.heap.size + 1, 0, none⟩) 0 0) := hb9.cell 0
        rw [e9] at hk
        injection hk with hk
        injection hk with e1
        injection e1 with e1
        injection e1 with e1
        exact .inr e1.symm
    have hlen : ∀ pre : List Pr, pre.length < (rngOf fr to l).length → (pre.length + 1) * 24 ≤ 140737488355328 := fun pre hp => by
      have h1 : (rngOf fr to l).length ≤ l.length := Nat.le_trans (List.takeWhile_sublist _).length_le (List.filter_sublist (l := l)).length_le
      have h2 := HI.out.cnt
      have h3 := HI.out.big
      omega
    have HFIN := Lib.hid (show ∀ W D, w1.heap.size ≤ D → KpG (colG (w.heap.size + 1 + 1)) w1.heap.size w1 W → Turn nowhere w (W.putObj D (.deferred none)) from fun W D hD hk => by
      have h1 : Turn nowhere w w1 := hwa.trans ht1 fun _ _ e => e
      have h2 : Turn nowhere w W := h1.trans hk.1 fun k hk0 e => by
        rcases e with e | e
        · rcases hcolk k e with e | e <;> omega
        · have := e.1
          omega
      exact h2.grown (grownBy_putObj' W D _) fun g e hg => by
        cases e
        omega)
    clear hwa hsf hst hb9 hb7
    refine wpIn_rangeFunc_ownF (w0 := w1) rfl (by decide) (gf := 34) (lb := #[.pointer (some ⟨xb, 0, none⟩), .pointer (some ⟨fb, 0, none⟩), .pointer (some ⟨tb, 0, none⟩)]) rfl trivial (enters_of Try.func34 (by kernel_rfl) rfl)
      (range_stops (colG_ok h9) (Nat.le_refl _) hbx hbf hbt hi1 (fun k hk => ?own)) (fun h g => h.trans g) (fun W d o o' hd ho hc _ => KpG.put (colG_ok h9) W d o o' hd ho hc) (Below.refl _ _) (fun _ => rfl)
      (fun pre W => (∃ v, ColI w w1 most w.heap.size (w.heap.size + 1 + 1) pre W v) ∧ (0 ≤ most → (pre.length : Int) < most))
      (fun c pre W => c = .exit 0 ∧ (∃ v, ColI w w1 most w.heap.size (w.heap.size + 1 + 1) pre W v) ∧ (pre.length : Int) = most)
      (fun pre A B row hs hg hr => ⟨hs.1.elim fun v hv => ⟨v, hv.own h9 hg hr⟩, hs.2⟩)
      (fun c pre A B row hs hg hr => ⟨hs.1, hs.2.1.elim fun v hv => ⟨v, hv.own h9 hg hr⟩, hs.2.2⟩)
      ⟨⟨_, hc0⟩, fun h => by have := H0.out; show ((0 : Nat) : Int) < most; omega⟩
      (fun x => { tmps := #[.pointer (some ⟨ix, 0, none⟩), strV fr, strV to, .int .i64 most, undef, undef, undef, .pointer (some ⟨w.heap.size, 0, none⟩), .slice none 0 0, .pointer (some ⟨w.heap.size + 1 + 1, 0, none⟩), strV x.1, .int .i64 x.2, .slice (some ⟨w.heap.size + 1, 0, none⟩) 0 0, .int .i64 most, .bool false, undef, .pointer (some ⟨ix, 0, none⟩), strV fr, strV to,
        .func (.func 34) #[] #[.pointer (some ⟨xb, 0, none⟩), .pointer (some ⟨fb, 0, none⟩), .pointer (some ⟨tb, 0, none⟩)], strV x.1, .int .i64 x.2, undef, undef, undef, undef, undef, undef, undef, undef, undef, undef, undef], defers := [] }) ?assign ?body ?done ?stop
    case own =>
      rcases hcolk k hk with rfl | rfl
      · exact ⟨fun e => by have := HI.out.lt e; omega, by omega, by omega⟩
      · exact ⟨fun e => by have := HI.out.lt e; omega, by omega, by omega⟩
    case assign =>
      intro d x W K hK
      gi_wp2
      exact hK
    case body =>
      rintro d pre x W ⟨⟨v, hv⟩, hlt⟩ hp
      obtain ⟨A, c, A', c', W2, rfl, hrun, hc9, hf9, hc7, hko, hkp, hcol⟩ := col_step hv (by omega) x (hlen pre hp)
      have hW9 : (W.alloc (.cells #[strV x.1, .int .i64 x.2] 54)).cell? ⟨w.heap.size + 1 + 1, 0, none⟩ = some (.slice A pre.length c) := (hv.b9.alloc _).cell 0
      have hV9 : W.cell? ⟨w.heap.size + 1 + 1, 0, none⟩ = some (.slice A pre.length c) := hv.b9.cell 0
      gi_wp2_with (gi_at_builtin; refine wpListIn_app rfl _ _ 29 rfl rfl rfl hrun ?_)
      · exfalso
        simp [strV] at h
      · exfalso
        exact h.elim (fun h => h rfl) (fun h => Nat.lt_irrefl 2 h)
      · have he : ((pre.length : Int) + 1) = most := by simpa using ‹((pre.length : Int) + 1 == most) = true›
        exact ⟨hko, rfl, ⟨_, hcol⟩, by rw [List.length_append]; show ((pre.length + 1 : Nat) : Int) = most; omega⟩
      · have he : ¬ ((pre.length : Int) + 1) = most := by simpa using ‹((pre.length : Int) + 1 == most) = false›
        exact ⟨hko, hkp, ⟨_, hcol⟩, fun h => by
          have := hlt h
          rw [List.length_append]
          show ((pre.length + 1 : Nat) : Int) < most
          omega⟩
    case done =>
      rintro D ys W hD rfl ⟨⟨v, hv⟩, hlt⟩ hK
      have hc := hv.b9.cell 0
      have hc' : W.cell? ⟨w.heap.size + 1 + 1, 0, none⟩ = some v := hc
      gi_wp2
      refine ⟨by simp, .inl ⟨_, _, rfl, run_takeDeferred hK, ?_⟩⟩
      exact ⟨_, results_tmp rfl _ _ _, v, rfl, by rw [cut_all hlt]; exact (hv.own h9 (grownBy_putObj' W D _) fun r e => by cases e; exact ⟨hD, _, hK, rfl⟩).row, HFIN.out W D hD hv.kp⟩
    case stop =>
      rintro D c pre W hD hS ⟨rfl, ⟨v, hv⟩, hl⟩ hK
      have hc' : W.cell? ⟨w.heap.size + 1 + 1, 0, none⟩ = some v := hv.b9.cell 0
      gi_wp2
      refine ⟨by simp, .inl ⟨_, _, rfl, run_takeDeferred hK, ?_⟩⟩
      exact ⟨_, results_tmp rfl _ _ _, v, rfl, by rw [cut_pre hS hl]; exact (hv.own h9 (grownBy_putObj' W D _) fun r e => by cases e; exact ⟨hD, _, hK, rfl⟩).row, HFIN.out W D hD hv.kp⟩
end Go.Proofs.Ytmlkdkbpbleilaa
