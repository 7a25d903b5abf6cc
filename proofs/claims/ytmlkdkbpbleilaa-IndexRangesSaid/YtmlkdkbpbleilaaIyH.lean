/-
  Index: a range's own function (Range$1$1): it calls yield. No conditions.
-/
import Derived.RangeFuncNested
import Derived.RangeFuncBound
import Derived.RangeFuncCalls
import Derived.RangeFuncLeaves
import Derived.Shelf.Abstract
import Derived.Shelf.RegionOpen
import Derived.WalkKit
import Derived.OwnWalkIn
import Derived.TacticsInMore
import Derived.LoopNIn
import Derived.LoopIn
import Derived.Test.YtmlkdkbpbleilaaAlwI
import Derived.Test.YtmlkdkbpbleilaaIyG
namespace Go.Proofs.Ytmlkdkbpbleilaa
open Go.RowKit Go.Shelf
open Ix
set_option linter.unusedVariables false
set_option linter.unusedSimpArgs false
attribute [local go_sem] Oper.semAt_some
/-- what a range has boxed -/
structure Env (y xb b l0 ix : Nat) (W : World) : Prop where
  yb : Blk W y 70 #[.func (.yield l0) #[] #[]]
  xb : Blk W xb 24 #[.pointer (some ⟨ix, 0, none⟩)]
  ch : ∃ (o t c : Value) (ch : Nat), Blk W ix 58 #[o, t, c, .int .i64 (ch : Int)] ∧ Blk W b 3 #[.int .i64 (ch : Int)]
theorem RoundIn.anyDepthW {m m' : Nat} {P : Program} {l : Nat} {f : FuncId} {tmps : Array Value} {assign body : Code} {w : World} {R : Ending → World → Prop}
    (h : RoundIn Fence.wide m P l f tmps assign body w R) : RoundIn Fence.wide m' P l f tmps assign body w R := ⟨h.1, fun c cs _ => h.2 c cs (room_wide _)⟩
theorem agg_cells (k : Key) (n : Int) : (Value.agg (encP (k, n)).toArray).cells = #[strV k, .int .i64 n] := rfl
set_option maxRecDepth 20000 in
set_option maxHeartbeats 4000000 in
theorem tell_walk {y xb b l0 ix : Nat} {J Jx : List Pr → World → Prop} {N : Nat} (hJ : JT J) (hE : ∀ l W, J l W → Env y xb b l0 ix W)
    (hY : ∀ (l : List Pr) (p : Pr) (W : World), J l W → l.length < N → YieldAt Fence.wide 0 Try.prog l0 #[strV p.1, .int .i64 p.2] W fun e W' => (e = .returned (.bool true) ∧ J (l ++ [p]) W') ∨ (e = .returned (.bool false) ∧ Jx (l ++ [p]) W')) :
    TellC y xb b J Jx N := by
  intro l p W h1 hN
  obtain ⟨k, n⟩ := p
  have HJ := Lib.hid hJ
  have HE := Lib.hid hE
  have HY := Lib.hid hY
  have H1 := Lib.hid h1
  have HN := Lib.hid hN
  clear hJ hE hY h1 hN
  refine callsIn_wide.1 (?_ : CallsIn Fence.wide 5 _ _ _ _ _)
  refine callsIn_of_wp Try.func36 rfl trivial ?_ rfl
  simp only [Try.ntmps36, List.size_toArray, List.length_cons, List.length_nil, Nat.reduceAdd, Nat.reduceSub, Array.replicate_succ, Array.replicate_zero, List.push_toArray, List.append_toArray, List.nil_append, List.cons_append]
  gi_wp2
  have hb0 := Blk.new W 65 #[strV k, .int .i64 n]
  have ht0 : Turn nowhere W (W.alloc (Obj.cells (encP (k, n)).toArray 65)).drew := ((Turn.refl nowhere W).alloc _).drew
  have hb1 : Blk (W.alloc (Obj.cells (encP (k, n)).toArray 65)).drew W.heap.size 65 #[strV k, .int .i64 n] := hb0
  obtain ⟨g0, hg0⟩ : ∃ g, g = W.heap.size := ⟨_, rfl⟩
  rw [← hg0] at hb1 ⊢
  obtain ⟨w1, hw1⟩ : ∃ w1, w1 = (W.alloc (Obj.cells (encP (k, n)).toArray 65)).drew := ⟨_, rfl⟩
  rw [← hw1] at hb1 ht0
  have HJ1 := Lib.hid (HJ.out _ _ _ H1.out ht0)
  have hy0 := (HE.out _ _ HJ1.out).yb
  have hS0 : Blk w1 y 70 #[.func (.yield l0) #[] #[]] ∧ Blk w1 g0 65 #[strV k, .int .i64 n] := ⟨hy0, hb1⟩
  clear hb0 hb1 hg0 ht0 hy0
  refine wpIn_region_till (fun W => Blk W y 70 #[.func (.yield l0) #[] #[]] ∧ Blk W g0 65 #[strV k, .int .i64 n]) 5 (by kernel_rfl) ?_
  rw [← hw1]
  clear hw1
  refine tillI_take (i := 0) (v := .func (.yield l0) #[] #[]) rfl rfl (by kernel_rfl) (by kernel_rfl) (fun _ _ _ h => h) (.inl ⟨by rfl, fun W hW => exec_load1 rfl rfl (by kernel_rfl) (hW.1.cell 0)⟩) (fun w => rfl) hS0 ?_
  simp only [Act.put, List.setIfInBounds_toArray, List.set_cons_zero, List.set_cons_succ]
  refine tillI_pure (i := 1) (v := .pointer (some ⟨g0, 0, none⟩)) rfl rfl (by kernel_rfl) (by kernel_rfl) (fun _ _ _ h => h) (.inl ⟨by rfl, fun W hW => exec_field (off := 0) (d := 0) rfl rfl (by kernel_rfl)⟩) (fun w => rfl) hS0 ?_
  simp only [Act.put, List.setIfInBounds_toArray, List.set_cons_zero, List.set_cons_succ]
  refine tillI_take (i := 2) (v := strV k) rfl rfl (by kernel_rfl) (by kernel_rfl) (fun _ _ _ h => h) (.inl ⟨by rfl, fun W hW => exec_load1 rfl rfl (by kernel_rfl) (hW.2.cell 0)⟩) (fun w => rfl) hS0 ?_
  simp only [Act.put, List.setIfInBounds_toArray, List.set_cons_zero, List.set_cons_succ]
  refine tillI_pure (i := 3) (v := .pointer (some ⟨g0, 1, none⟩)) rfl rfl (by kernel_rfl) (by kernel_rfl) (fun _ _ _ h => h) (.inl ⟨by rfl, fun W hW => exec_field (off := 0) (d := 1) rfl rfl (by kernel_rfl)⟩) (fun w => rfl) hS0 ?_
  simp only [Act.put, List.setIfInBounds_toArray, List.set_cons_zero, List.set_cons_succ]
  refine tillI_take (i := 4) (v := .int .i64 n) rfl rfl (by kernel_rfl) (by kernel_rfl) (fun _ _ _ h => h) (.inl ⟨by rfl, fun W hW => exec_load1 rfl rfl (by kernel_rfl) (hW.2.cell 1)⟩) (fun w => rfl) hS0 ?_
  simp only [Act.put, List.setIfInBounds_toArray, List.set_cons_zero, List.set_cons_succ]
  obtain ⟨fn, tmps, assign, body, hy, hR⟩ := HY.out l (k, n) w1 HJ1.out HN.out
  have hR := RoundIn.anyDepthW (m' := 4) hR
  refine tillI_step (i := 5) (by kernel_rfl) rfl rfl ?_
  intro K1 HK1
  gi_wp2
  refine hR.mono ?_
  rintro e w2 (⟨rfl, hj⟩ | ⟨rfl, hx⟩)
  · refine HK1.out _ _ ⟨fun e => (by simp at e), ?_⟩
    clear HK1
    try simp only [Act.put, List.setIfInBounds_toArray, List.set_cons_zero, List.set_cons_succ]
    obtain ⟨hyb, hxb, o, t, c, ch, hix, hbb⟩ := HE.out _ _ hj
    have hS1 : Blk w2 xb 24 #[.pointer (some ⟨ix, 0, none⟩)] ∧ Blk w2 ix 58 #[o, t, c, .int .i64 (ch : Int)] ∧ Blk w2 b 3 #[.int .i64 (ch : Int)] := ⟨hxb, hix, hbb⟩
    refine tillI_of_alw (S' := fun W => Blk W xb 24 #[.pointer (some ⟨ix, 0, none⟩)] ∧ Blk W ix 58 #[o, t, c, .int .i64 (ch : Int)] ∧ Blk W b 3 #[.int .i64 (ch : Int)]) _ _ _ _ (by kernel_rfl) ?_
    clear hyb hxb hix hbb hS0 hy hR
    refine alwI_take (i := 6) (v := .bool true) rfl rfl (by kernel_rfl) (by kernel_rfl) (fun _ _ _ h => h) (.inl ⟨by rfl, fun W hW => exec_move rfl rfl⟩) (fun w => rfl) hS1 ?_
    simp only [Act.put, List.setIfInBounds_toArray, List.set_cons_zero, List.set_cons_succ]
    refine alwI_take (i := 7) (v := .pointer (some ⟨ix, 0, none⟩)) rfl rfl (by kernel_rfl) (by kernel_rfl) (fun _ _ _ h => h) (.inl ⟨by rfl, fun W hW => exec_load1 rfl rfl (by kernel_rfl) (hW.1.cell 0)⟩) (fun w => rfl) hS1 ?_
    simp only [Act.put, List.setIfInBounds_toArray, List.set_cons_zero, List.set_cons_succ]
    refine alwI_take (i := 8) (v := .pointer (some ⟨ix, 0, none⟩)) rfl rfl (by kernel_rfl) (by kernel_rfl) (fun _ _ _ h => h) (.inl ⟨by rfl, fun W hW => exec_nil rfl rfl⟩) (fun w => rfl) hS1 ?_
    simp only [Act.put, List.setIfInBounds_toArray, List.set_cons_zero, List.set_cons_succ]
    refine alwI_take (i := 9) (v := .pointer (some ⟨ix, 3, none⟩)) rfl rfl (by kernel_rfl) (by kernel_rfl) (fun _ _ _ h => h) (.inl ⟨by rfl, fun W hW => exec_field (off := 0) (d := 3) rfl rfl (by kernel_rfl)⟩) (fun w => rfl) hS1 ?_
    simp only [Act.put, List.setIfInBounds_toArray, List.set_cons_zero, List.set_cons_succ]
    refine alwI_take (i := 10) (v := .int .i64 (ch : Int)) rfl rfl (by kernel_rfl) (by kernel_rfl) (fun _ _ _ h => h) (.inl ⟨by rfl, fun W hW => exec_load1 rfl rfl (by kernel_rfl) (hW.2.1.cell 3)⟩) (fun w => rfl) hS1 ?_
    simp only [Act.put, List.setIfInBounds_toArray, List.set_cons_zero, List.set_cons_succ]
    refine alwI_take (i := 11) (v := .int .i64 (ch : Int)) rfl rfl (by kernel_rfl) (by kernel_rfl) (fun _ _ _ h => h) (.inl ⟨by rfl, fun W hW => exec_load1 rfl rfl (by kernel_rfl) (hW.2.2.cell 0)⟩) (fun w => rfl) hS1 ?_
    simp only [Act.put, List.setIfInBounds_toArray, List.set_cons_zero, List.set_cons_succ]
    refine alwI_take (i := 12) (v := .bool true) rfl rfl (by kernel_rfl) (by kernel_rfl) (fun _ _ _ h => h) (.inl ⟨by rfl, fun W hW => ix_eql rfl rfl rfl (by simp)⟩) (fun w => rfl) hS1 ?_
    simp only [Act.put, List.setIfInBounds_toArray, List.set_cons_zero, List.set_cons_succ]
    refine alwI_take (i := 13) (v := .bool true) rfl rfl (by kernel_rfl) (by kernel_rfl) (fun _ _ _ h => h) (.inl ⟨by rfl, fun W hW => ix_pickT rfl rfl rfl⟩) (fun w => rfl) hS1 ?_
    simp only [Act.put, List.setIfInBounds_toArray, List.set_cons_zero, List.set_cons_succ]
    refine alwI_take (i := 14) (v := .bool true) rfl rfl (by kernel_rfl) (by kernel_rfl) (fun _ _ _ h => h) (.inl ⟨by rfl, fun W hW => gx_assign rfl rfl⟩) (fun w => rfl) hS1 ?_
    simp only [Act.put, List.setIfInBounds_toArray, List.set_cons_zero, List.set_cons_succ]
    refine alwI_done rfl ?_
    refine NoPanic.normal ?_
    try simp only [Act.put, List.setIfInBounds_toArray, List.set_cons_zero, List.set_cons_succ]
    gi_wp2
    go_ret
    exact .inl ⟨rfl, hj⟩
  · refine HK1.out _ _ ⟨fun e => (by simp at e), ?_⟩
    clear HK1
    try simp only [Act.put, List.setIfInBounds_toArray, List.set_cons_zero, List.set_cons_succ]
    refine tillI_of_alw (S' := fun _ => True) _ _ _ _ (by kernel_rfl) ?_
    clear hS0 hy hR
    refine alwI_take (i := 6) (v := .bool false) rfl rfl (by kernel_rfl) (by kernel_rfl) (fun _ _ _ h => h) (.inl ⟨by rfl, fun W hW => exec_move rfl rfl⟩) (fun w => rfl) trivial ?_
    simp only [Act.put, List.setIfInBounds_toArray, List.set_cons_zero, List.set_cons_succ]
    refine alwI_take (i := 7) (v := undef) rfl rfl (by kernel_rfl) (by kernel_rfl) (fun _ _ _ h => h) (.inr ⟨by rfl, rfl⟩) (fun w => rfl) trivial ?_
    simp only [Act.put, List.setIfInBounds_toArray, List.set_cons_zero, List.set_cons_succ]
    refine alwI_take (i := 8) (v := undef) rfl rfl (by kernel_rfl) (by kernel_rfl) (fun _ _ _ h => h) (.inr ⟨by rfl, rfl⟩) (fun w => rfl) trivial ?_
    simp only [Act.put, List.setIfInBounds_toArray, List.set_cons_zero, List.set_cons_succ]
    refine alwI_take (i := 9) (v := undef) rfl rfl (by kernel_rfl) (by kernel_rfl) (fun _ _ _ h => h) (.inr ⟨by rfl, rfl⟩) (fun w => rfl) trivial ?_
    simp only [Act.put, List.setIfInBounds_toArray, List.set_cons_zero, List.set_cons_succ]
    refine alwI_take (i := 10) (v := undef) rfl rfl (by kernel_rfl) (by kernel_rfl) (fun _ _ _ h => h) (.inr ⟨by rfl, rfl⟩) (fun w => rfl) trivial ?_
    simp only [Act.put, List.setIfInBounds_toArray, List.set_cons_zero, List.set_cons_succ]
    refine alwI_take (i := 11) (v := undef) rfl rfl (by kernel_rfl) (by kernel_rfl) (fun _ _ _ h => h) (.inr ⟨by rfl, rfl⟩) (fun w => rfl) trivial ?_
    simp only [Act.put, List.setIfInBounds_toArray, List.set_cons_zero, List.set_cons_succ]
    refine alwI_take (i := 12) (v := undef) rfl rfl (by kernel_rfl) (by kernel_rfl) (fun _ _ _ h => h) (.inr ⟨by rfl, rfl⟩) (fun w => rfl) trivial ?_
    simp only [Act.put, List.setIfInBounds_toArray, List.set_cons_zero, List.set_cons_succ]
    refine alwI_take (i := 13) (v := .bool false) rfl rfl (by kernel_rfl) (by kernel_rfl) (fun _ _ _ h => h) (.inl ⟨by rfl, fun W hW => ix_pickF rfl rfl rfl⟩) (fun w => rfl) trivial ?_
    simp only [Act.put, List.setIfInBounds_toArray, List.set_cons_zero, List.set_cons_succ]
    refine alwI_take (i := 14) (v := .bool false) rfl rfl (by kernel_rfl) (by kernel_rfl) (fun _ _ _ h => h) (.inl ⟨by rfl, fun W hW => gx_assign rfl rfl⟩) (fun w => rfl) trivial ?_
    simp only [Act.put, List.setIfInBounds_toArray, List.set_cons_zero, List.set_cons_succ]
    refine alwI_done rfl ?_
    refine NoPanic.normal ?_
    try simp only [Act.put, List.setIfInBounds_toArray, List.set_cons_zero, List.set_cons_succ]
    gi_wp2
    go_ret
    exact .inr ⟨rfl, hx⟩
end Go.Proofs.Ytmlkdkbpbleilaa
