/-
  Index: New, Put: the walks. No conditions.
-/
import Derived.Test.YtmlkdkbpbleilaaIyC
namespace Go.Proofs.Ytmlkdkbpbleilaa
open Go.RowKit
open Ix
set_option linter.unusedVariables false
set_option linter.unusedSimpArgs false
structure ToX (w : World) (H : Hp) (x : Nat) (w' : World) (H' : Hp) : Prop where
  in_ : In w' H'
  turn : Turn (own x H) w w'
  foot : ∀ b, Go.Proofs.Ytmlkdkbpbleilaa.foot H' b → Go.Proofs.Ytmlkdkbpbleilaa.foot H b ∨ w.heap.size ≤ b
theorem ToX.refl {w : World} {H : Hp} {x : Nat} (h : In w H) : ToX w H x w H := ⟨h, Turn.refl _ _, fun b hb => .inl hb⟩
theorem ToX.to {w w1 w2 : World} {H H1 H2 : Hp} {x : Nat} (h : ToX w H x w1 H1) (g : To w1 H1 w2 H2) : ToX w H x w2 H2 := by
  refine ⟨g.in_, h.turn.trans g.turn fun k hk hf => ?_, fun b hb => ?_⟩
  · rcases h.foot k hf with h1 | h1
    · exact .inr h1
    · omega
  · rcases g.foot b hb with h1 | h1
    · exact h.foot b h1
    · exact .inr (by have := h.turn.size; omega)
theorem ToX.still {w w1 w2 : World} {H H1 : Hp} {x : Nat} (h : ToX w H x w1 H1) (ht : Turn nowhere w1 w2) : ToX w H x w2 H1 := h.to (To.still h.in_ ht)
theorem ToX.st {w w1 w2 : World} {H H1 : Hp} {x : Nat} (h : ToX w H x w1 H1) (ht : Turn (only x) w1 w2) (hx : ¬ Go.Proofs.Ytmlkdkbpbleilaa.foot H1 x) : ToX w H x w2 H1 :=
  ⟨h.in_.turn ht fun b e f => hx (by have e : b = x := e; rw [← e]; exact f), h.turn.trans ht fun k _ e => .inl e, h.foot⟩
def IdxTo (w : World) (x : Nat) (H : Hp) (M : Nat) (l : List Pr) (N : Nat) (w' : World) : Prop := ∃ H', Idx w' x H' M l N ∧ Turn (own x H) w w' ∧ ∀ b, own x H' b → own x H b ∨ w.heap.size ≤ b
theorem ToX.idx {w w' : World} {H H' : Hp} {x M N : Nat} {l : List Pr} (h : ToX w H x w' H') (hi : Idx w' x H' M l N) : IdxTo w x H M l N w' := ⟨H', hi, h.turn, fun b hb => by
  rcases hb with hb | hb
  · exact .inl (.inl hb)
  · rcases h.foot b hb with h1 | h1
    · exact .inl (.inr h1)
    · exact .inr h1⟩
theorem exec_bld {P : Program} {a : Act} {o : Oper} {t : TypeId} {r : Value} {W : World} (ho : o.op = .build t #[]) (h : (Instr.build t #[]).run P W = .ok r W) : (execOp a.eval o).run P W = .ok (.value r) W := by
  unfold execOp
  simp only [ho, List.map_toArray, List.map_nil, h, Sem.run_bind, Sem.run_pure, Result.andThen_ok]
theorem build_node0 (w : World) : (Instr.build 62 #[]).run Try.prog w = .ok (.agg #[.slice none 0 0, .slice none 0 0]) w := by kernel_rfl
theorem build_node2 (A : Option Addr) (n c : Nat) (B : Option Addr) (m d : Nat) (w : World) : (Instr.build 62 #[(0, .slice A n c), (1, .slice B m d)]).run Try.prog w = .ok (.agg #[.slice A n c, .slice B m d]) w := by kernel_rfl
theorem build_idx (M : Int) (w : World) : (Instr.build 58 #[(0, .int .i64 M)]).run Try.prog w = .ok (.agg #[.int .i64 M, .pointer none, .int .i64 0, .int .i64 0]) w := by kernel_rfl
theorem box_idx (M : Int) (w : World) : (Instr.box 58 (.agg #[.int .i64 M, .pointer none, .int .i64 0, .int .i64 0])).run Try.prog w = .ok (.pointer (some ⟨w.heap.size, 0, none⟩)) (w.alloc (.cells #[.int .i64 M, .pointer none, .int .i64 0, .int .i64 0] 58)) := by
  simp [Instr.box, newVar, newRow, Result.andThen, Value.cells]
theorem bx_slice2 {P : Program} {a : Act} {o : Oper} {t : TypeId} {x y : Operand} {u v q : Value} {W W' : World} (ho : o.op = .buildSlice t 2 #[(0, x), (1, y)]) (hx : a.eval x = u) (hy : a.eval y = v)
    (h : (Instr.buildSlice t 2 #[(0, u), (1, v)]).run P W = .ok q W') : (execOp a.eval o).run P W = .ok (.value q) W' := by
  unfold execOp
  simp only [ho, List.map_toArray, List.map_cons, List.map_nil, hx, hy, h, Sem.run_bind, Sem.run_pure, Result.andThen_ok]
theorem build_twoK (k r : Nat) (w : World) : (Instr.buildSlice 60 2 #[(0, .pointer (some ⟨k, 0, none⟩)), (1, .pointer (some ⟨r, 0, none⟩))]).run Try.prog w = .ok (.slice (some ⟨w.heap.size, 0, none⟩) 2 2) (w.alloc (.cells #[.pointer (some ⟨k, 0, none⟩), .pointer (some ⟨r, 0, none⟩)] 56)) := by kernel_rfl
theorem ptr_nil {a : Act} {o : Oper} {W : World} {x y : Operand} {t u : TypeId} (ho : o.op = .binOp .eql t x y u) (hx : a.eval x = .pointer none) (hy : a.eval y = .pointer none) (ht : t = 56) : (execOp a.eval o).run Try.prog W = .ok (.value (.bool true)) W := by
  subst ht
  unfold execOp
  simp only [ho, hx, hy]
  go_simp
theorem ptr_some {a : Act} {o : Oper} {W : World} {x y : Operand} {t u : TypeId} {p : Addr} (ho : o.op = .binOp .eql t x y u) (hx : a.eval x = .pointer (some p)) (hy : a.eval y = .pointer none) (ht : t = 56) : (execOp a.eval o).run Try.prog W = .ok (.value (.bool false)) W := by
  subst ht
  unfold execOp
  simp only [ho, hx, hy]
  go_simp
theorem row_one {w : World} {g : Nat} {p : Pr} (h : Blk w g 65 (encP p).toArray) : Orw w 0 65 2 (.slice (some ⟨g, 0, none⟩) 1 1) ([p].map encP) := orw_of h (Nat.zero_le _) (fitP [p]) rfl (Nat.le_refl _) (by unfold maxLen; omega) rfl (by simp [encP])
theorem row_twoK {w : World} {g k r : Nat} (h : Blk w g 56 #[.pointer (some ⟨k, 0, none⟩), .pointer (some ⟨r, 0, none⟩)]) : Orw w 0 56 1 (.slice (some ⟨g, 0, none⟩) 2 2) ([k, r].map encK) := orw_of h (Nat.zero_le _) (fitK [k, r]) rfl (Nat.le_refl _) (by unfold maxLen; omega) rfl (by simp [encK])
theorem in_none (w : World) : In w (fun _ => none) := ⟨fun {p nd} h => (by cases h), fun {p q a b g} h _ _ _ => (by cases h), fun {p q a b g} h _ _ _ => (by cases h)⟩
/-- New, an order that may be -/
theorem new_walk {w : World} {M : Nat} (h2 : 2 ≤ M) (h64 : M ≤ 64) : Calls Try.prog 8 #[.int .i64 (M : Int)] w fun e w' => ∃ x, e = .returned (.tuple #[.pointer (some ⟨x, 0, none⟩), .int .i64 0]) ∧ w.heap.size ≤ x ∧ Turn nowhere w w' ∧ Idx w' x (fun _ => none) M [] 0 := by
  have y1 : (2 : Int) ≤ (M : Int) := by omega
  have y2 : (M : Int) ≤ 64 := by omega
  have HO := Lib.hid (show 2 ≤ M ∧ M ≤ 64 from ⟨h2, h64⟩)
  clear h2 h64
  go_enter Try.func8, Try.ntmps8
  go_upto_region 1 with fail
  refine wp_region_lit ?_
  refine wpList_run (v := .int .i64 (M : Int)) (wanted_none rfl) (exec_move rfl rfl) ?_
  simp only [Act.put, List.setIfInBounds_toArray, List.set_cons_zero, List.set_cons_succ]
  refine wpList_run (v := .bool false) (wanted_none rfl) (ix_lss rfl rfl rfl (decide_eq_false (by omega))) ?_
  simp only [Act.put, List.setIfInBounds_toArray, List.set_cons_zero, List.set_cons_succ]
  refine wpList_run (v := .bool false) (wanted_none rfl) (exec_move rfl rfl) ?_
  simp only [Act.put, List.setIfInBounds_toArray, List.set_cons_zero, List.set_cons_succ]
  refine wpList_run (v := .int .i64 (M : Int)) rfl (exec_move rfl rfl) ?_
  simp only [Act.put, List.setIfInBounds_toArray, List.set_cons_zero, List.set_cons_succ]
  refine wpList_run (v := .bool false) rfl (ix_gtr rfl rfl rfl (decide_eq_false (by omega))) ?_
  simp only [Act.put, List.setIfInBounds_toArray, List.set_cons_zero, List.set_cons_succ]
  refine wpList_run (v := .bool false) (wanted_none rfl) (ix_pickF rfl rfl rfl) ?_
  simp only [Act.put, List.setIfInBounds_toArray, List.set_cons_zero, List.set_cons_succ]
  go_upto_region 3 with fail
  refine wp_region_lit ?_
  refine wpList_run (v := .int .i64 (M : Int)) (wanted_none rfl) (exec_move rfl rfl) ?_
  simp only [Act.put, List.setIfInBounds_toArray, List.set_cons_zero, List.set_cons_succ]
  refine wpList_run (v := .agg #[.int .i64 (M : Int), .pointer none, .int .i64 0, .int .i64 0]) (wanted_none rfl) (gx_build1 rfl rfl (build_idx _ _)) ?_
  simp only [Act.put, List.setIfInBounds_toArray, List.set_cons_zero, List.set_cons_succ]
  have hb := Blk.new w 58 #[.int .i64 (M : Int), .pointer none, .int .i64 0, .int .i64 0]
  have ht := (Turn.refl nowhere w).alloc (.cells #[.int .i64 (M : Int), .pointer none, .int .i64 0, .int .i64 0] 58)
  have hbx := box_idx (M : Int) w
  obtain ⟨x, hx⟩ : ∃ x, x = w.heap.size := ⟨_, rfl⟩
  rw [← hx] at hb hbx
  generalize w.alloc (.cells #[.int .i64 (M : Int), .pointer none, .int .i64 0, .int .i64 0] 58) = w1 at *
  refine wpList_run (v := .pointer (some ⟨x, 0, none⟩)) (w' := w1) (wanted_none rfl) (gx_box rfl rfl hbx) ?_
  simp only [Act.put, List.setIfInBounds_toArray, List.set_cons_zero, List.set_cons_succ]
  have HB := Lib.hid hb
  have HT := Lib.hid ht
  have HX := Lib.hid (show w.heap.size ≤ x by omega)
  clear hb ht hbx hx
  refine wpList_run (v := .pointer (some ⟨x, 0, none⟩)) (wanted_none rfl) (gx_assign rfl rfl) ?_
  simp only [Act.put, List.setIfInBounds_toArray, List.set_cons_zero, List.set_cons_succ]
  refine wpList_run (v := .int .i64 0) (wanted_none rfl) (gx_assign rfl rfl) ?_
  simp only [Act.put, List.setIfInBounds_toArray, List.set_cons_zero, List.set_cons_succ]
  go_wp2_with fail
  go_ret2
  exact ⟨x, rfl, HX.out, HT.out, in_none _, HO.out, ⟨.pointer none, 0, HB.out, Nat.le_refl _, .inl ⟨rfl, rfl⟩⟩, Nat.le_refl _, by omega⟩
/-- New, an order that may not be -/
theorem new_bad {w : World} {M : Int} (h : M < 2 ∨ 64 < M) : Calls Try.prog 8 #[.int .i64 M] w fun e w' => e = .returned (.tuple #[.pointer none, .int .i64 80]) ∧ w' = w := by
  go_enter Try.func8, Try.ntmps8
  rcases h with h | h
  · go_wp2
    go_ret2
    exact ⟨rfl, rfl⟩
  · have h2 : ¬ M < 2 := by omega
    go_wp2
    go_ret2
    exact ⟨rfl, rfl⟩
set_option maxRecDepth 20000 in
set_option maxHeartbeats 16000000 in
theorem Put_walk {w : World} {x : Nat} {H : Hp} {M N : Nat} {l : List Pr} {k : Key} {v : Int} (h : Idx w x H M l N) (hN : N < 1099511627776) (hkl : k.length ≤ 281474976710656) :
    Calls Try.prog 10 #[.pointer (some ⟨x, 0, none⟩), strV k, .int .i64 v] w fun e w' => e = .returned (retV (lget k l)) ∧ IdxTo w x H M (lput k v l) (N + 1) w' := by
  have HI := Lib.hid h
  obtain ⟨top, ch, hb, hch, htop⟩ := h.blk
  have HO := Lib.hid h.ord
  have HB := Lib.hid hb
  have HXF := Lib.hid (h.hin.off hb)
  have HIN := Lib.hid h.hin
  have HCN := Lib.hid (show l.length ≤ N ∧ ch ≤ N ∧ N < 1099511627776 from ⟨h.cnt, hch, hN⟩)
  have HKL := Lib.hid hkl
  have y1 : (M : Int) ≤ 64 := by have := h.ord; omega
  have y2 : (l.length : Int) ≤ 1099511627776 := by have := h.cnt; omega
  have y3 : (ch : Int) ≤ 1099511627776 := by omega
  obtain ⟨cn, hcn⟩ : ∃ cn, cn = l.length := ⟨_, rfl⟩
  rw [← hcn] at y2
  have HCE := Lib.hid hcn
  rw [← hcn] at HB
  clear h hb hch hN hkl hcn
  rcases htop with ⟨rfl, hl⟩ | ⟨d, p, t, F, rfl, ht, hnd, hnb, hsr, hfl⟩
  · have HL0 := Lib.hid hl
    clear hl
    go_enter Try.func10, Try.ntmps10
    go_upto_region 1 with fail
    refine wp_region_lit ?_
    refine wpList_run (v := .pointer (some ⟨x, 0, none⟩)) (wanted_none rfl) (exec_move rfl rfl) ?_
    simp only [Act.put, List.setIfInBounds_toArray, List.set_cons_zero, List.set_cons_succ]
    refine wpList_run (v := .pointer (some ⟨x, 0, none⟩)) (wanted_none rfl) (exec_nil rfl rfl) ?_
    simp only [Act.put, List.setIfInBounds_toArray, List.set_cons_zero, List.set_cons_succ]
    refine wpList_run (v := .pointer (some ⟨x, 1, none⟩)) (wanted_none rfl) (exec_field (off := 0) (d := 1) rfl rfl (by kernel_rfl)) ?_
    simp only [Act.put, List.setIfInBounds_toArray, List.set_cons_zero, List.set_cons_succ]
    refine wpList_run (v := .pointer none) (wanted_none rfl) (exec_load1 rfl rfl (by kernel_rfl) (HB.out.cell 1)) ?_
    simp only [Act.put, List.setIfInBounds_toArray, List.set_cons_zero, List.set_cons_succ]
    refine wpList_run (v := .bool true) (wanted_none rfl) (ptr_nil rfl rfl rfl rfl) ?_
    simp only [Act.put, List.setIfInBounds_toArray, List.set_cons_zero, List.set_cons_succ]
    go_upto_region 2 with fail
    refine wp_region_lit ?_
    refine wpList_run (v := .pointer (some ⟨x, 0, none⟩)) (wanted_none rfl) (exec_move rfl rfl) ?_
    simp only [Act.put, List.setIfInBounds_toArray, List.set_cons_zero, List.set_cons_succ]
    refine wpList_run (v := .agg #[.slice none 0 0, .slice none 0 0]) (wanted_none rfl) (exec_bld rfl (build_node0 _)) ?_
    simp only [Act.put, List.setIfInBounds_toArray, List.set_cons_zero, List.set_cons_succ]
    have hb2 := Blk.new w 62 #[.slice none 0 0, .slice none 0 0]
    have ht2 := (Turn.refl nowhere w).alloc (.cells #[.slice none 0 0, .slice none 0 0] 62)
    have hbx := box_node none 0 0 none 0 0 w
    obtain ⟨p, hg2⟩ : ∃ q, q = w.heap.size := ⟨_, rfl⟩
    rw [← hg2] at hb2 hbx
    generalize w.alloc (.cells #[.slice none 0 0, .slice none 0 0] 62) = w0 at *
    refine wpList_run (v := .pointer (some ⟨p, 0, none⟩)) (w' := w0) (wanted_none rfl) (gx_box rfl rfl hbx) ?_
    simp only [Act.put, List.setIfInBounds_toArray, List.set_cons_zero, List.set_cons_succ]
    have HNW := Lib.hid (HIN.out.new (nd := ⟨[], [], .slice none 0 0, .slice none 0 0⟩) ht2 (by omega) ⟨hb2, Orw.nil _ _ _ _, Orw.nil _ _ _ _⟩ (fun b hb => by cases hb) (fun b hb => by cases hb))
    have HB0 := Lib.hid (HB.out.turn ht2 fun e => e)
    clear hb2 ht2 hg2 hbx
    obtain ⟨H1, hH1⟩ : ∃ q, q = up H p ⟨[], [], .slice none 0 0, .slice none 0 0⟩ := ⟨_, rfl⟩
    have HIS1 := Lib.hid (show Is H1 p [] [] from by rw [hH1]; exact ⟨_, _, up_same _ _ _⟩)
    rw [← hH1] at HNW
    clear hH1
    have HX0 := Lib.hid ((ToX.refl (x := x) HIN.out).to HNW.out)
    refine wpList_run (v := .pointer (some ⟨x, 0, none⟩)) (wanted_none rfl) (exec_nil rfl rfl) ?_
    simp only [Act.put, List.setIfInBounds_toArray, List.set_cons_zero, List.set_cons_succ]
    refine wpList_run (v := .pointer (some ⟨x, 1, none⟩)) (wanted_none rfl) (exec_field (off := 0) (d := 1) rfl rfl (by kernel_rfl)) ?_
    simp only [Act.put, List.setIfInBounds_toArray, List.set_cons_zero, List.set_cons_succ]
    refine wpList_storeU 1 (.pointer (some ⟨p, 0, none⟩)) (wanted_none rfl) 56 _ _ rfl HB0.out rfl rfl (by show 1 < 4; omega) ⟨rfl, rfl⟩ size_ptr ?_
    intro w1 hb9 ht9
    simp only [Act.put, List.setIfInBounds_toArray, List.set_cons_zero, List.set_cons_succ]
    have HX1 := Lib.hid (HX0.out.st ht9 (HX0.out.in_.off HB0.out))
    have HB1 := Lib.hid (show Blk w1 x 58 #[.int .i64 (M : Int), .pointer (some ⟨p, 0, none⟩), .int .i64 (cn : Int), .int .i64 (ch : Int)] from hb9)
    clear hb9 ht9
    obtain ⟨d, hd⟩ : ∃ d : Nat, d = 0 := ⟨0, rfl⟩
    obtain ⟨t, ht⟩ : ∃ t : Tr d, flat t = [] ∧ TrAt H1 p t [p] ∧ Nd (M / 2) M 0 M t := by
      subst hd
      exact ⟨([], ()), rfl, ⟨HIS1.out, rfl⟩, Nat.le_refl _, Nat.zero_le _⟩
    obtain ⟨lo, hlo⟩ : ∃ lo : Nat, lo = 0 := ⟨0, rfl⟩
    obtain ⟨F, hF⟩ : ∃ F, F = [p] := ⟨_, rfl⟩
    have HFL := Lib.hid (show flat t = l from by rw [HL0.out]; exact ht.1)
    have HSR := Lib.hid (show Srt (flat t) from by rw [ht.1]; exact List.Pairwise.nil)
    have HTE := Lib.hid (show Tree w1 H1 p t F (M / 2) M lo M from ⟨HX1.out.in_, by rw [hF]; exact ht.2.1, by rw [hF]; exact fun a => by simp only [List.count_cons, List.count_nil]; split <;> omega, by rw [hlo]; exact ht.2.2⟩)
    have HLO := Lib.hid (show 1 ≤ lo ∨ d = 0 from .inr hd)
    clear hd ht hlo hF
    go_upto_region 3 with fail
    refine wp_region_alw (fun W => Blk W x 58 #[.int .i64 (M : Int), .pointer (some ⟨p, 0, none⟩), .int .i64 (cn : Int), .int .i64 (ch : Int)]) (by kernel_rfl) ?_
    have HD := Lib.hid ((Turn.refl nowhere w1).drew)
    have hS0 : Blk w1.drew x 58 #[.int .i64 (M : Int), .pointer (some ⟨p, 0, none⟩), .int .i64 (cn : Int), .int .i64 (ch : Int)] := HB1.out
    have HXF1 := Lib.hid (HTE.out.hin.off HB1.out)
    refine alw_take (i := 0) (v := .pointer (some ⟨x, 0, none⟩)) rfl (by kernel_rfl) (by kernel_rfl) (fun _ _ _ h => h) (.inl ⟨by rfl, fun W hW => exec_move rfl rfl⟩) hS0 ?_
    simp only [Act.put, List.setIfInBounds_toArray, List.set_cons_zero, List.set_cons_succ]
    refine alw_take (i := 1) (v := .pointer (some ⟨x, 0, none⟩)) rfl (by kernel_rfl) (by kernel_rfl) (fun _ _ _ h => h) (.inl ⟨by rfl, fun W hW => exec_nil rfl rfl⟩) hS0 ?_
    simp only [Act.put, List.setIfInBounds_toArray, List.set_cons_zero, List.set_cons_succ]
    refine alw_take (i := 2) (v := .pointer (some ⟨x, 1, none⟩)) rfl (by kernel_rfl) (by kernel_rfl) (fun _ _ _ h => h) (.inl ⟨by rfl, fun W hW => exec_field (off := 0) (d := 1) rfl rfl (by kernel_rfl)⟩) hS0 ?_
    simp only [Act.put, List.setIfInBounds_toArray, List.set_cons_zero, List.set_cons_succ]
    refine alw_take (i := 3) (v := .pointer (some ⟨p, 0, none⟩)) rfl (by kernel_rfl) (by kernel_rfl) (fun _ _ _ h => h) (.inl ⟨by rfl, fun W hW => exec_load1 rfl rfl (by kernel_rfl) (hW.cell 1)⟩) hS0 ?_
    simp only [Act.put, List.setIfInBounds_toArray, List.set_cons_zero, List.set_cons_succ]
    refine alw_take (i := 4) (v := strV k) rfl (by kernel_rfl) (by kernel_rfl) (fun _ _ _ h => h) (.inl ⟨by rfl, fun W hW => exec_move rfl rfl⟩) hS0 ?_
    simp only [Act.put, List.setIfInBounds_toArray, List.set_cons_zero, List.set_cons_succ]
    refine alw_take (i := 5) (v := .int .i64 v) rfl (by kernel_rfl) (by kernel_rfl) (fun _ _ _ h => h) (.inl ⟨by rfl, fun W hW => exec_move rfl rfl⟩) hS0 ?_
    simp only [Act.put, List.setIfInBounds_toArray, List.set_cons_zero, List.set_cons_succ]
    refine alw_take (i := 6) (v := .pointer (some ⟨x, 0, none⟩)) rfl (by kernel_rfl) (by kernel_rfl) (fun _ _ _ h => h) (.inl ⟨by rfl, fun W hW => exec_move rfl rfl⟩) hS0 ?_
    simp only [Act.put, List.setIfInBounds_toArray, List.set_cons_zero, List.set_cons_succ]
    refine alw_take (i := 7) (v := .pointer (some ⟨x, 0, none⟩)) rfl (by kernel_rfl) (by kernel_rfl) (fun _ _ _ h => h) (.inl ⟨by rfl, fun W hW => exec_nil rfl rfl⟩) hS0 ?_
    simp only [Act.put, List.setIfInBounds_toArray, List.set_cons_zero, List.set_cons_succ]
    refine alw_take (i := 8) (v := .pointer (some ⟨x, 0, none⟩)) rfl (by kernel_rfl) (by kernel_rfl) (fun _ _ _ h => h) (.inl ⟨by rfl, fun W hW => exec_field (off := 0) (d := 0) rfl rfl (by kernel_rfl)⟩) hS0 ?_
    simp only [Act.put, List.setIfInBounds_toArray, List.set_cons_zero, List.set_cons_succ]
    refine alw_take (i := 9) (v := .int .i64 (M : Int)) rfl (by kernel_rfl) (by kernel_rfl) (fun _ _ _ h => h) (.inl ⟨by rfl, fun W hW => exec_load1 rfl rfl (by kernel_rfl) (hW.cell 0)⟩) hS0 ?_
    simp only [Act.put, List.setIfInBounds_toArray, List.set_cons_zero, List.set_cons_succ]
    have HPW := Lib.hid (put_walk (v := v) rfl HO.out.1 (by have := HO.out.2; omega) HKL.out (show Tree w1.drew H1 p t F (M / 2) M lo M from ⟨HTE.out.hin.still HD.out, HTE.out.tr, HTE.out.nd, HTE.out.nb⟩) HSR.out (by have := HO.out.2; omega))
    refine alw_step (i := 10) (by kernel_rfl) rfl rfl ?_
    intro K1 HK1
    go_wp2_with fail
    refine HPW.out.mono ?_
    rintro e w2 ⟨rfl, haf⟩
    obtain ⟨H2, F2, hx2⟩ := haf.x
    have hS2 : Blk w2 x 58 #[.int .i64 (M : Int), .pointer (some ⟨p, 0, none⟩), .int .i64 (cn : Int), .int .i64 (ch : Int)] := hS0.turn hx2.to.turn HXF1.out
    refine HK1.out _ _ ⟨hS2, ?_⟩
    clear HK1 haf hS0
    try simp only [Act.put, List.setIfInBounds_toArray, List.set_cons_zero, List.set_cons_succ]
    have HX2 := Lib.hid (AfterX.pre HTE.out.hin HD.out hx2)
    clear hx2
    refine alw_take (i := 11) (v := .tuple #[.int .i64 ((tget k t).getD 0), .bool (tget k t).isSome]) rfl (by kernel_rfl) (by kernel_rfl) (fun _ _ _ h => h) (.inl ⟨by rfl, fun W hW => exec_move rfl rfl⟩) hS2 ?_
    simp only [Act.put, List.setIfInBounds_toArray, List.set_cons_zero, List.set_cons_succ]
    refine alw_take (i := 12) (v := .int .i64 ((tget k t).getD 0)) rfl (by kernel_rfl) (by kernel_rfl) (fun _ _ _ h => h) (.inl ⟨by rfl, fun W hW => ix_extract rfl rfl rfl⟩) hS2 ?_
    simp only [Act.put, List.setIfInBounds_toArray, List.set_cons_zero, List.set_cons_succ]
    refine alw_take (i := 13) (v := .bool (tget k t).isSome) rfl (by kernel_rfl) (by kernel_rfl) (fun _ _ _ h => h) (.inl ⟨by rfl, fun W hW => ix_extract rfl rfl rfl⟩) hS2 ?_
    simp only [Act.put, List.setIfInBounds_toArray, List.set_cons_zero, List.set_cons_succ]
    refine alw_take (i := 14) (v := .int .i64 ((tget k t).getD 0)) rfl (by kernel_rfl) (by kernel_rfl) (fun _ _ _ h => h) (.inl ⟨by rfl, fun W hW => gx_assign rfl rfl⟩) hS2 ?_
    simp only [Act.put, List.setIfInBounds_toArray, List.set_cons_zero, List.set_cons_succ]
    refine alw_take (i := 15) (v := .bool (tget k t).isSome) rfl (by kernel_rfl) (by kernel_rfl) (fun _ _ _ h => h) (.inl ⟨by rfl, fun W hW => gx_assign rfl rfl⟩) hS2 ?_
    simp only [Act.put, List.setIfInBounds_toArray, List.set_cons_zero, List.set_cons_succ]
    refine alw_done rfl ?_
    refine NoPanic.normal ?_
    try simp only [Act.put, List.setIfInBounds_toArray, List.set_cons_zero, List.set_cons_succ]
    have HB2 := Lib.hid hS2
    clear hS2 HD HPW
    obtain ⟨tf, tn⟩ := tput_ok (k := k) (n := v) rfl HO.out.1 HTE.out.nb HSR.out
    have tp := tput_pos (k := k) (v := v) rfl HO.out.1 HTE.out.nb HSR.out HLO.out
    rw [HFL.out] at tf
    have HTG := Lib.hid (show tget k t = lget k l from (tget_ok HTE.out.nb HSR.out).trans (by rw [HFL.out]))
    have HXT := Lib.hid (HX1.out.to HX2.out.to)
    obtain ⟨T, hT⟩ : ∃ T, T = tput k v M t := ⟨_, rfl⟩
    rw [← hT] at tf tn tp HX2
    have HTF := Lib.hid tf
    have HTN := Lib.hid tn
    have HTP := Lib.hid tp
    obtain ⟨vp, vk, ks, hp2⟩ := HX2.out.tr.root
    have hsl : Srt l := by have h := HSR.out; rwa [HFL.out] at h
    have HSL := Lib.hid hsl
    have HLN := Lib.hid (lput_len (k := k) (v := v) hsl)
    obtain ⟨A2, c2, e9, _, _, _, _⟩ := (HXT.out.in_.at_ hp2).prs.form
    obtain ⟨n2, hn2⟩ : ∃ n, n = T.ps.length := ⟨_, rfl⟩
    replace e9 := e9.trans (show _ = Value.slice A2 n2 c2 from by rw [List.length_map, hn2])
    subst e9
    have HP2 := Lib.hid hp2
    have HN2 := Lib.hid hn2
    have z1 : (n2 : Int) ≤ 65 := by have := tn.hi; have := HO.out.2; omega
    clear tf tn tp hT hp2 hn2 hsl
    go_upto_region 4 with fail
    refine wp_region_alw (fun W => Blk W x 58 #[.int .i64 (M : Int), .pointer (some ⟨p, 0, none⟩), .int .i64 (cn : Int), .int .i64 (ch : Int)] ∧ Blk W p 62 #[.slice A2 n2 c2, vk]) (by kernel_rfl) ?_
    have HD := Lib.hid ((Turn.refl nowhere w2).drew)
    have hS0 : Blk w2.drew x 58 #[.int .i64 (M : Int), .pointer (some ⟨p, 0, none⟩), .int .i64 (cn : Int), .int .i64 (ch : Int)] ∧ Blk w2.drew p 62 #[.slice A2 n2 c2, vk] := ⟨HB2.out, (HXT.out.in_.at_ HP2.out).blk⟩
    refine alw_take (i := 0) (v := .pointer (some ⟨x, 0, none⟩)) rfl (by kernel_rfl) (by kernel_rfl) (fun _ _ _ h => h) (.inl ⟨by rfl, fun W hW => exec_move rfl rfl⟩) hS0 ?_
    simp only [Act.put, List.setIfInBounds_toArray, List.set_cons_zero, List.set_cons_succ]
    refine alw_take (i := 1) (v := .pointer (some ⟨x, 0, none⟩)) rfl (by kernel_rfl) (by kernel_rfl) (fun _ _ _ h => h) (.inl ⟨by rfl, fun W hW => exec_nil rfl rfl⟩) hS0 ?_
    simp only [Act.put, List.setIfInBounds_toArray, List.set_cons_zero, List.set_cons_succ]
    refine alw_take (i := 2) (v := .pointer (some ⟨x, 1, none⟩)) rfl (by kernel_rfl) (by kernel_rfl) (fun _ _ _ h => h) (.inl ⟨by rfl, fun W hW => exec_field (off := 0) (d := 1) rfl rfl (by kernel_rfl)⟩) hS0 ?_
    simp only [Act.put, List.setIfInBounds_toArray, List.set_cons_zero, List.set_cons_succ]
    refine alw_take (i := 3) (v := .pointer (some ⟨p, 0, none⟩)) rfl (by kernel_rfl) (by kernel_rfl) (fun _ _ _ h => h) (.inl ⟨by rfl, fun W hW => exec_load1 rfl rfl (by kernel_rfl) (hW.1.cell 1)⟩) hS0 ?_
    simp only [Act.put, List.setIfInBounds_toArray, List.set_cons_zero, List.set_cons_succ]
    refine alw_take (i := 4) (v := .pointer (some ⟨p, 0, none⟩)) rfl (by kernel_rfl) (by kernel_rfl) (fun _ _ _ h => h) (.inl ⟨by rfl, fun W hW => exec_nil rfl rfl⟩) hS0 ?_
    simp only [Act.put, List.setIfInBounds_toArray, List.set_cons_zero, List.set_cons_succ]
    refine alw_take (i := 5) (v := .pointer (some ⟨p, 0, none⟩)) rfl (by kernel_rfl) (by kernel_rfl) (fun _ _ _ h => h) (.inl ⟨by rfl, fun W hW => exec_field (off := 0) (d := 0) rfl rfl (by kernel_rfl)⟩) hS0 ?_
    simp only [Act.put, List.setIfInBounds_toArray, List.set_cons_zero, List.set_cons_succ]
    refine alw_take (i := 6) (v := .slice A2 n2 c2) rfl (by kernel_rfl) (by kernel_rfl) (fun _ _ _ h => h) (.inl ⟨by rfl, fun W hW => exec_load1 rfl rfl (by kernel_rfl) (hW.2.cell 0)⟩) hS0 ?_
    simp only [Act.put, List.setIfInBounds_toArray, List.set_cons_zero, List.set_cons_succ]
    refine alw_take (i := 7) (v := .int .i64 (n2 : Int)) rfl (by kernel_rfl) (by kernel_rfl) (fun _ _ _ h => h) (.inl ⟨by rfl, fun W hW => gx_len rfl rfl Try.underlying59⟩) hS0 ?_
    simp only [Act.put, List.setIfInBounds_toArray, List.set_cons_zero, List.set_cons_succ]
    refine alw_take (i := 8) (v := .pointer (some ⟨x, 0, none⟩)) rfl (by kernel_rfl) (by kernel_rfl) (fun _ _ _ h => h) (.inl ⟨by rfl, fun W hW => exec_move rfl rfl⟩) hS0 ?_
    simp only [Act.put, List.setIfInBounds_toArray, List.set_cons_zero, List.set_cons_succ]
    refine alw_take (i := 9) (v := .pointer (some ⟨x, 0, none⟩)) rfl (by kernel_rfl) (by kernel_rfl) (fun _ _ _ h => h) (.inl ⟨by rfl, fun W hW => exec_nil rfl rfl⟩) hS0 ?_
    simp only [Act.put, List.setIfInBounds_toArray, List.set_cons_zero, List.set_cons_succ]
    refine alw_take (i := 10) (v := .pointer (some ⟨x, 0, none⟩)) rfl (by kernel_rfl) (by kernel_rfl) (fun _ _ _ h => h) (.inl ⟨by rfl, fun W hW => exec_field (off := 0) (d := 0) rfl rfl (by kernel_rfl)⟩) hS0 ?_
    simp only [Act.put, List.setIfInBounds_toArray, List.set_cons_zero, List.set_cons_succ]
    refine alw_take (i := 11) (v := .int .i64 (M : Int)) rfl (by kernel_rfl) (by kernel_rfl) (fun _ _ _ h => h) (.inl ⟨by rfl, fun W hW => exec_load1 rfl rfl (by kernel_rfl) (hW.1.cell 0)⟩) hS0 ?_
    simp only [Act.put, List.setIfInBounds_toArray, List.set_cons_zero, List.set_cons_succ]
    have HX3 := Lib.hid (HXT.out.still HD.out)
    have HB3 := Lib.hid hS0.1
    have HXA := Lib.hid (HX2.out.post HD.out)
    by_cases hov : M < n2
    · refine alw_take (i := 12) (v := .bool true) rfl (by kernel_rfl) (by kernel_rfl) (fun _ _ _ h => h) (.inl ⟨by rfl, fun W hW => ix_gtr rfl rfl rfl (decide_eq_true (by omega))⟩) hS0 ?_
      simp only [Act.put, List.setIfInBounds_toArray, List.set_cons_zero, List.set_cons_succ]
      refine alw_done rfl ?_
      refine NoPanic.normal ?_
      try simp only [Act.put, List.setIfInBounds_toArray, List.set_cons_zero, List.set_cons_succ]
      have HOV := Lib.hid hov
      clear hS0 hov
      obtain ⟨w3, hw3⟩ : ∃ q, q = w2.drew := ⟨_, rfl⟩
      rw [← hw3] at HX3 HB3 HXA ⊢
      clear hw3 HD
      obtain ⟨y, hy⟩ : ∃ y, T.ps[T.ps.length / 2]? = some y := ⟨_, List.getElem?_eq_getElem (show T.ps.length / 2 < T.ps.length by have := HTP.out; omega)⟩
      have HY := Lib.hid (show splitM T = y from by unfold splitM; rw [hy]; rfl)
      have hks2 : ks = [] ∨ ks.length = T.ps.length + 1 := by
        have h1 := HXA.out.tr
        have h2 := HTN.out
        have h3 : Is H2 p T.ps ks := ⟨_, _, HP2.out⟩
        clear HX2 HXA HTG HTF HTP HTN HSR HFL HTE HLO HY hy HN2
        cases d with
        | zero => exact .inl (h3.inj h1.1).2
        | succ d =>
          obtain ⟨ks', F', g1, g2, _⟩ := h1
          obtain ⟨_, e⟩ := h3.inj g1
          right
          rw [e, g2.len]
          exact h2.2.2.1
      have HSW := Lib.hid (split_walk HX3.out.in_ ⟨_, _, HP2.out⟩ hy (by have := HN2.out; omega) hks2)
      clear hy hks2
      go_upto_region 5 with fail
      refine wp_region_lit ?_
      refine wpList_run (v := .pointer (some ⟨x, 0, none⟩)) (wanted_none rfl) (exec_move rfl rfl) ?_
      simp only [Act.put, List.setIfInBounds_toArray, List.set_cons_zero, List.set_cons_succ]
      refine wpList_run (v := .pointer (some ⟨x, 0, none⟩)) (wanted_none rfl) (exec_nil rfl rfl) ?_
      simp only [Act.put, List.setIfInBounds_toArray, List.set_cons_zero, List.set_cons_succ]
      refine wpList_run (v := .pointer (some ⟨x, 1, none⟩)) (wanted_none rfl) (exec_field (off := 0) (d := 1) rfl rfl (by kernel_rfl)) ?_
      simp only [Act.put, List.setIfInBounds_toArray, List.set_cons_zero, List.set_cons_succ]
      refine wpList_run (v := .pointer (some ⟨p, 0, none⟩)) (wanted_none rfl) (exec_load1 rfl rfl (by kernel_rfl) (HB3.out.cell 1)) ?_
      simp only [Act.put, List.setIfInBounds_toArray, List.set_cons_zero, List.set_cons_succ]
      refine wpList_run (v := .pointer (some ⟨p, 0, none⟩)) (wanted_none rfl) (gx_assign rfl rfl) ?_
      simp only [Act.put, List.setIfInBounds_toArray, List.set_cons_zero, List.set_cons_succ]
      go_upto_region 6 with fail
      refine wp_region_lit ?_
      refine wpList_run (v := .pointer (some ⟨p, 0, none⟩)) (wanted_none rfl) (exec_move rfl rfl) ?_
      simp only [Act.put, List.setIfInBounds_toArray, List.set_cons_zero, List.set_cons_succ]
      refine wpList_op rfl fun K9 HK9 => ?_
      go_wp2_with fail
      refine (HSW.out).mono ?_
      rintro e w4 ⟨r, H4, rfl, hgr, hto, jx, jr, hs4⟩
      refine HK9.out _ _ ?_
      clear HK9
      try simp only [Act.put, List.setIfInBounds_toArray, List.set_cons_zero, List.set_cons_succ]
      have HX4 := Lib.hid (HX3.out.to hto)
      have HB4 := Lib.hid (HB3.out.turn hto.turn (HX3.out.in_.off HB3.out))
      have hnG : Nd1 (r :: F2) := fun a => by
        have h1 := HXA.out.nd a
        simp only [List.count_cons]
        split
        · rename_i e
          have e : r = a := by simpa using e
          have : F2.count a = 0 := List.count_eq_zero.2 fun hm => by
            have := TrAt.lt HX3.out.in_ HXA.out.tr a hm
            omega
          omega
        · omega
      obtain ⟨Gl, Gr, t1, t2, t3⟩ := split_tree (n := r) HX3.out.in_ HXA.out.tr ⟨_, _, HP2.out⟩ hnG hgr jx jr (fun q hq => hs4 q fun e => hq (by rcases e with e | e; exact .inr (.inl e); exact .inr (.inr e)))
      have HGL := Lib.hid t1
      have HGRT := Lib.hid t2
      have HGC := Lib.hid t3
      have HNF := Lib.hid hnG
      have HLT4 := Lib.hid (fun q (hq : q ∈ F2) => TrAt.lt HX3.out.in_ HXA.out.tr q hq)
      have HGR := Lib.hid hgr
      have HSZ := Lib.hid hto.turn.size
      clear hto jx jr hs4 hgr t1 t2 t3 hnG
      refine wpList_run (v := .tuple #[.agg (encP y).toArray, .pointer (some ⟨r, 0, none⟩)]) (wanted_none rfl) (exec_move rfl rfl) ?_
      simp only [Act.put, List.setIfInBounds_toArray, List.set_cons_zero, List.set_cons_succ]
      refine wpList_run (v := .agg (encP y).toArray) (wanted_none rfl) (ix_extract rfl rfl rfl) ?_
      simp only [Act.put, List.setIfInBounds_toArray, List.set_cons_zero, List.set_cons_succ]
      refine wpList_run (v := .pointer (some ⟨r, 0, none⟩)) (wanted_none rfl) (ix_extract rfl rfl rfl) ?_
      simp only [Act.put, List.setIfInBounds_toArray, List.set_cons_zero, List.set_cons_succ]
      refine wpList_new 65 (.tmp 11) (.tmp 57) (encP y).toArray (wanted_none rfl) rfl (zero_pair _) rfl (wanted_none rfl) rfl rfl rfl rfl (by rw [size_pair]; rfl) (fun v hv => encP_one y v (by simpa using hv)) ?_
      intro w5 g5 hge hb5 ht5
      simp only [Act.put, List.setIfInBounds_toArray, List.set_cons_zero, List.set_cons_succ]
      have HB5 := Lib.hid hb5
      have HX5 := Lib.hid (HX4.out.still ht5)
      have HBX5 := Lib.hid (HB4.out.turn ht5 (fun e => e))
      have HT5 := Lib.hid ht5
      clear hge hb5 ht5
      refine wpList_run (v := .pointer (some ⟨r, 0, none⟩)) (wanted_none rfl) (gx_assign rfl rfl) ?_
      simp only [Act.put, List.setIfInBounds_toArray, List.set_cons_zero, List.set_cons_succ]
      go_upto_region 7 with fail
      refine wp_region_lit ?_
      refine wpList_run (v := .pointer (some ⟨x, 0, none⟩)) (wanted_none rfl) (exec_move rfl rfl) ?_
      simp only [Act.put, List.setIfInBounds_toArray, List.set_cons_zero, List.set_cons_succ]
      refine wpList_run (v := .agg (encP y).toArray) (wanted_none rfl) (gx_loads rfl rfl (blk_range HB5.out) Try.underlying65 rfl (by rw [size_pair]; rfl)) ?_
      simp only [Act.put, List.setIfInBounds_toArray, List.set_cons_zero, List.set_cons_succ]
      have hb2 := Blk.new w5 65 (encP y).toArray
      have ht2 := (Turn.refl nowhere w5).alloc (.cells (encP y).toArray 65)
      obtain ⟨g6, hg2⟩ : ∃ q, q = w5.heap.size := ⟨_, rfl⟩
      have hbld := build_oneP y w5
      rw [← hg2] at hb2 hbld
      generalize w5.alloc (.cells (encP y).toArray 65) = w6 at *
      refine wpList_run (v := .slice (some ⟨g6, 0, none⟩) 1 1) (w' := w6) (wanted_none rfl) (exec_buildSlice1 rfl rfl hbld) ?_
      simp only [Act.put, List.setIfInBounds_toArray, List.set_cons_zero, List.set_cons_succ]
      have HG6 := Lib.hid hb2
      have HT6 := Lib.hid ht2
      have HE6 := Lib.hid hg2
      clear hb2 ht2 hg2 hbld
      refine wpList_run (v := .pointer (some ⟨p, 0, none⟩)) (wanted_none rfl) (exec_move rfl rfl) ?_
      simp only [Act.put, List.setIfInBounds_toArray, List.set_cons_zero, List.set_cons_succ]
      refine wpList_run (v := .pointer (some ⟨r, 0, none⟩)) (wanted_none rfl) (exec_move rfl rfl) ?_
      simp only [Act.put, List.setIfInBounds_toArray, List.set_cons_zero, List.set_cons_succ]
      have hb2 := Blk.new w6 56 #[.pointer (some ⟨p, 0, none⟩), .pointer (some ⟨r, 0, none⟩)]
      have ht2 := (Turn.refl nowhere w6).alloc (.cells #[.pointer (some ⟨p, 0, none⟩), .pointer (some ⟨r, 0, none⟩)] 56)
      obtain ⟨g7, hg2⟩ : ∃ q, q = w6.heap.size := ⟨_, rfl⟩
      have hbld := build_twoK p r w6
      rw [← hg2] at hb2 hbld
      generalize w6.alloc (.cells #[.pointer (some ⟨p, 0, none⟩), .pointer (some ⟨r, 0, none⟩)] 56) = w7 at *
      refine wpList_run (v := .slice (some ⟨g7, 0, none⟩) 2 2) (w' := w7) (wanted_none rfl) (bx_slice2 rfl rfl rfl hbld) ?_
      simp only [Act.put, List.setIfInBounds_toArray, List.set_cons_zero, List.set_cons_succ]
      have HG7 := Lib.hid hb2
      have HT7 := Lib.hid ht2
      have HE7 := Lib.hid hg2
      clear hb2 ht2 hg2 hbld
      refine wpList_run (v := .agg #[.slice (some ⟨g6, 0, none⟩) 1 1, .slice (some ⟨g7, 0, none⟩) 2 2]) (wanted_none rfl) (gx_build2 rfl rfl rfl (build_node2 _ _ _ _ _ _ _)) ?_
      simp only [Act.put, List.setIfInBounds_toArray, List.set_cons_zero, List.set_cons_succ]
      have hb2 := Blk.new w7 62 #[.slice (some ⟨g6, 0, none⟩) 1 1, .slice (some ⟨g7, 0, none⟩) 2 2]
      have ht2 := (Turn.refl nowhere w7).alloc (.cells #[.slice (some ⟨g6, 0, none⟩) 1 1, .slice (some ⟨g7, 0, none⟩) 2 2] 62)
      have hbx := box_node (some ⟨g6, 0, none⟩) 1 1 (some ⟨g7, 0, none⟩) 2 2 w7
      obtain ⟨g8, hg2⟩ : ∃ q, q = w7.heap.size := ⟨_, rfl⟩
      rw [← hg2] at hb2 hbx
      generalize w7.alloc (.cells #[.slice (some ⟨g6, 0, none⟩) 1 1, .slice (some ⟨g7, 0, none⟩) 2 2] 62) = w8 at *
      refine wpList_run (v := .pointer (some ⟨g8, 0, none⟩)) (w' := w8) (wanted_none rfl) (gx_box rfl rfl hbx) ?_
      simp only [Act.put, List.setIfInBounds_toArray, List.set_cons_zero, List.set_cons_succ]
      have HT58 := Lib.hid (HT6.out.trans (HT7.out.trans ht2 fun _ _ e => e) fun _ _ e => e)
      have HG8 := Lib.hid (show w5.heap.size ≤ g8 from by have := HT6.out.size; have := HT7.out.size; omega)
      have HNW := Lib.hid (HX5.out.in_.new (nd := ⟨[y], [p, r], .slice (some ⟨g6, 0, none⟩) 1 1, .slice (some ⟨g7, 0, none⟩) 2 2⟩) HT58.out HG8.out
        ⟨hb2, (row_one (HG6.out.turn (HT7.out.trans ht2 fun _ _ e => e) fun e => e)), (row_twoK (HG7.out.turn ht2 fun e => e))⟩ (fun b hb => by have hb : some g6 = some b := hb; have := Option.some.inj hb; have := HE6.out; omega) (fun b hb => by have hb : some g7 = some b := hb; have := Option.some.inj hb; have := HE7.out; have := HT6.out.size; omega))
      have HB8 := Lib.hid (HBX5.out.turn HT58.out fun e => e)
      clear hb2 ht2 hg2 hbx
      obtain ⟨H8, hH8⟩ : ∃ q, q = up H4 g8 ⟨[y], [p, r], .slice (some ⟨g6, 0, none⟩) 1 1, .slice (some ⟨g7, 0, none⟩) 2 2⟩ := ⟨_, rfl⟩
      have HIS8 := Lib.hid (show Is H8 g8 [y] [p, r] from by rw [hH8]; exact ⟨_, _, up_same _ _ _⟩)
      have HSM8 := Lib.hid (show Same H4 H8 (fun q => q = g8) from by rw [hH8]; exact same_up _ _ _)
      rw [← hH8] at HNW
      clear hH8
      have HX8 := Lib.hid (HX5.out.to HNW.out)
      refine wpList_run (v := .pointer (some ⟨x, 0, none⟩)) (wanted_none rfl) (exec_nil rfl rfl) ?_
      simp only [Act.put, List.setIfInBounds_toArray, List.set_cons_zero, List.set_cons_succ]
      refine wpList_run (v := .pointer (some ⟨x, 1, none⟩)) (wanted_none rfl) (exec_field (off := 0) (d := 1) rfl rfl (by kernel_rfl)) ?_
      simp only [Act.put, List.setIfInBounds_toArray, List.set_cons_zero, List.set_cons_succ]
      refine wpList_storeU 1 (.pointer (some ⟨g8, 0, none⟩)) (wanted_none rfl) 56 _ _ rfl HB8.out rfl rfl (by show 1 < 4; omega) ⟨rfl, rfl⟩ size_ptr ?_
      intro w9 hb9 ht9
      simp only [Act.put, List.setIfInBounds_toArray, List.set_cons_zero, List.set_cons_succ]
      have HX9 := Lib.hid (HX8.out.st ht9 (HX8.out.in_.off HB8.out))
      have HB9 := Lib.hid (show Blk w9 x 58 #[.int .i64 (M : Int), .pointer (some ⟨g8, 0, none⟩), .int .i64 (cn : Int), .int .i64 (ch : Int)] from hb9)
      clear hb9 ht9
      have hg8 : ∀ q, q ∈ F2 ∨ q = r → q ≠ g8 := fun q hq e => by
        have := HG8.out
        have := HT5.out.size
        have := HSZ.out
        rcases hq with h | h
        · have := HLT4.out q h; omega
        · have := HX4.out.in_
          have hr : r < w4.heap.size := TrAt.lt HX4.out.in_ HGRT.out r HGRT.out.mem
          omega
      have hin : ∀ q ∈ Gl ++ Gr, q ∈ F2 ∨ q = r := fun q hq => by
        have h1 := cnt_mem hq
        rw [HGC.out] at h1
        by_cases e : q = r
        · exact .inr e
        · have : ([r] : List Nat).count q = 0 := List.count_eq_zero.2 (by simp [e])
          exact .inl (List.count_pos_iff.1 (by omega))
      have HTOP := Lib.hid (show Top H8 M (.pointer (some ⟨g8, 0, none⟩)) (lput k v l) from .inr ⟨d + 1, g8, nodeT [y] [splitL T, splitR T], g8 :: (Gl ++ (Gr ++ [])), rfl,
        ⟨[p, r], Gl ++ (Gr ++ []), HIS8.out, ⟨Gl, Gr ++ [], rfl, HGL.out.same HSM8.out fun q hq e => hg8 q (hin q (List.mem_append_left _ hq)) e, ⟨Gr, [], rfl, HGRT.out.same HSM8.out fun q hq e => hg8 q (hin q (List.mem_append_right _ hq)) e, rfl⟩⟩, rfl⟩,
        fun a => by
          have h1 := HGC.out a
          have h2 := HNF.out a
          have h3 : 1 ≤ (Gl ++ Gr).count a → a ≠ g8 := fun h => hg8 a (hin a (List.count_pos_iff.1 h))
          simp only [List.count_append, List.count_cons, List.count_nil] at h1 h2 h3 ⊢
          by_cases e : g8 = a
          · have : ¬ 1 ≤ Gl.count a + Gr.count a := fun h => h3 h e.symm
            simp only [e, beq_self_eq_true, if_true]
            omega
          · simp only [show (g8 == a) = false from by simpa using e, Bool.false_eq_true, if_false]
            omega,
        by
          obtain ⟨n1, n2'⟩ := split_nd HTN.out (show T.ps.length = M + 1 from by have := HTN.out.hi; have := HN2.out; have := HOV.out; omega) rfl (by have := HO.out.1; omega)
          refine ⟨Nat.le_refl _, by show 1 ≤ M; have := HO.out.1; omega, rfl, fun c hc => ?_⟩
          have hc : c ∈ [splitL T, splitR T] := hc
          simp at hc
          rcases hc with rfl | rfl
          · exact n1
          · exact n2',
        by
          show Srt (flat (nodeT [y] [splitL T, splitR T]))
          have h : flat (nodeT [y] [splitL T, splitR T]) = flat T := by
            rw [split_flat HTN.out (by have := HTP.out; omega), HY.out]
            show inter ([splitL T, splitR T].map flat) [y] = _
            simp [inter]
          rw [h, HTF.out]
          exact lput_srt HSL.out,
        by
          have h : flat (nodeT [y] [splitL T, splitR T]) = flat T := by
            rw [split_flat HTN.out (by have := HTP.out; omega), HY.out]
            show inter ([splitL T, splitR T].map flat) [y] = _
            simp [inter]
          rw [h, HTF.out]⟩)
      clear hg8 hin
      cases hg : tget k t with
      | some u =>
        have HRET := Lib.hid (show retV (lget k l) = .tuple #[.int .i64 u, .bool true] from by rw [← HTG.out, hg]; rfl)
        have HLE := Lib.hid (show (lput k v l).length = cn from by rw [HLN.out, ← HTG.out, hg, HCE.out]; rfl)
        clear hg
        go_upto_region 8 with fail
        refine wp_region_lit ?_
        refine wpList_run (v := .bool true) (wanted_none rfl) (exec_move rfl rfl) ?_
        simp only [Act.put, List.setIfInBounds_toArray, List.set_cons_zero, List.set_cons_succ]
        refine wpList_run (v := .bool false) (wanted_none rfl) (gx_not rfl rfl rfl) ?_
        simp only [Act.put, List.setIfInBounds_toArray, List.set_cons_zero, List.set_cons_succ]
        go_upto_region 11 with fail
        refine wp_region_lit ?_
        refine wpList_run (v := .int .i64 u) (wanted_none rfl) (exec_move rfl rfl) ?_
        simp only [Act.put, List.setIfInBounds_toArray, List.set_cons_zero, List.set_cons_succ]
        refine wpList_run (v := .bool true) (wanted_none rfl) (exec_move rfl rfl) ?_
        simp only [Act.put, List.setIfInBounds_toArray, List.set_cons_zero, List.set_cons_succ]
        refine wpList_run (v := .int .i64 u) (wanted_none rfl) (gx_assign rfl rfl) ?_
        simp only [Act.put, List.setIfInBounds_toArray, List.set_cons_zero, List.set_cons_succ]
        refine wpList_run (v := .bool true) (wanted_none rfl) (gx_assign rfl rfl) ?_
        simp only [Act.put, List.setIfInBounds_toArray, List.set_cons_zero, List.set_cons_succ]
        go_wp2_with fail
        go_ret2
        rw [HRET.out]
        exact ⟨rfl, HX9.out.idx ⟨HX9.out.in_, HO.out, ⟨.pointer (some ⟨g8, 0, none⟩), ch, by rw [HLE.out]; exact HB9.out, by have := HCN.out; omega, HTOP.out⟩, by rw [HLE.out]; have := HCN.out; have := HCE.out; omega, by have := HCN.out; omega⟩⟩
      | none =>
        have HRET := Lib.hid (show retV (lget k l) = .tuple #[.int .i64 0, .bool false] from by rw [← HTG.out, hg]; rfl)
        have HLE := Lib.hid (show (lput k v l).length = cn + 1 from by rw [HLN.out, ← HTG.out, hg, HCE.out]; rfl)
        clear hg
        go_upto_region 8 with fail
        refine wp_region_lit ?_
        refine wpList_run (v := .bool false) (wanted_none rfl) (exec_move rfl rfl) ?_
        simp only [Act.put, List.setIfInBounds_toArray, List.set_cons_zero, List.set_cons_succ]
        refine wpList_run (v := .bool true) (wanted_none rfl) (gx_not rfl rfl rfl) ?_
        simp only [Act.put, List.setIfInBounds_toArray, List.set_cons_zero, List.set_cons_succ]
        go_upto_region 9 with fail
        refine wp_region_lit ?_
        refine wpList_run (v := .pointer (some ⟨x, 0, none⟩)) (wanted_none rfl) (exec_move rfl rfl) ?_
        simp only [Act.put, List.setIfInBounds_toArray, List.set_cons_zero, List.set_cons_succ]
        refine wpList_run (v := .pointer (some ⟨x, 0, none⟩)) (wanted_none rfl) (exec_nil rfl rfl) ?_
        simp only [Act.put, List.setIfInBounds_toArray, List.set_cons_zero, List.set_cons_succ]
        refine wpList_run (v := .pointer (some ⟨x, 2, none⟩)) (wanted_none rfl) (exec_field (off := 0) (d := 2) rfl rfl (by kernel_rfl)) ?_
        simp only [Act.put, List.setIfInBounds_toArray, List.set_cons_zero, List.set_cons_succ]
        refine wpList_run (v := .int .i64 (cn : Int)) (wanted_none rfl) (exec_load1 rfl rfl (by kernel_rfl) (HB9.out.cell 2)) ?_
        simp only [Act.put, List.setIfInBounds_toArray, List.set_cons_zero, List.set_cons_succ]
        refine wpList_run (v := .int .i64 ((cn + 1 : Nat) : Int)) (wanted_none rfl) (ix_add rfl rfl rfl (by omega) (by omega)) ?_
        simp only [Act.put, List.setIfInBounds_toArray, List.set_cons_zero, List.set_cons_succ]
        refine wpList_run (v := .pointer (some ⟨x, 0, none⟩)) (wanted_none rfl) (exec_nil rfl rfl) ?_
        simp only [Act.put, List.setIfInBounds_toArray, List.set_cons_zero, List.set_cons_succ]
        refine wpList_run (v := .pointer (some ⟨x, 2, none⟩)) (wanted_none rfl) (exec_field (off := 0) (d := 2) rfl rfl (by kernel_rfl)) ?_
        simp only [Act.put, List.setIfInBounds_toArray, List.set_cons_zero, List.set_cons_succ]
        refine wpList_storeU 2 (.int .i64 ((cn + 1 : Nat) : Int)) (wanted_none rfl) 3 _ _ rfl HB9.out rfl rfl (by show 2 < 4; omega) ⟨rfl, rfl⟩ (by kernel_rfl) ?_
        intro w10 hb10 ht10
        simp only [Act.put, List.setIfInBounds_toArray, List.set_cons_zero, List.set_cons_succ]
        have HX10 := Lib.hid (HX9.out.st ht10 (HX9.out.in_.off HB9.out))
        have HB10 := Lib.hid (show Blk w10 x 58 #[.int .i64 (M : Int), .pointer (some ⟨g8, 0, none⟩), .int .i64 ((cn + 1 : Nat) : Int), .int .i64 (ch : Int)] from hb10)
        clear hb10 ht10
        go_upto_region 10 with fail
        refine wp_region_lit ?_
        refine wpList_run (v := .pointer (some ⟨x, 0, none⟩)) (wanted_none rfl) (exec_move rfl rfl) ?_
        simp only [Act.put, List.setIfInBounds_toArray, List.set_cons_zero, List.set_cons_succ]
        refine wpList_run (v := .pointer (some ⟨x, 0, none⟩)) (wanted_none rfl) (exec_nil rfl rfl) ?_
        simp only [Act.put, List.setIfInBounds_toArray, List.set_cons_zero, List.set_cons_succ]
        refine wpList_run (v := .pointer (some ⟨x, 3, none⟩)) (wanted_none rfl) (exec_field (off := 0) (d := 3) rfl rfl (by kernel_rfl)) ?_
        simp only [Act.put, List.setIfInBounds_toArray, List.set_cons_zero, List.set_cons_succ]
        refine wpList_run (v := .int .i64 (ch : Int)) (wanted_none rfl) (exec_load1 rfl rfl (by kernel_rfl) (HB10.out.cell 3)) ?_
        simp only [Act.put, List.setIfInBounds_toArray, List.set_cons_zero, List.set_cons_succ]
        refine wpList_run (v := .int .i64 ((ch + 1 : Nat) : Int)) (wanted_none rfl) (ix_add rfl rfl rfl (by omega) (by omega)) ?_
        simp only [Act.put, List.setIfInBounds_toArray, List.set_cons_zero, List.set_cons_succ]
        refine wpList_run (v := .pointer (some ⟨x, 0, none⟩)) (wanted_none rfl) (exec_nil rfl rfl) ?_
        simp only [Act.put, List.setIfInBounds_toArray, List.set_cons_zero, List.set_cons_succ]
        refine wpList_run (v := .pointer (some ⟨x, 3, none⟩)) (wanted_none rfl) (exec_field (off := 0) (d := 3) rfl rfl (by kernel_rfl)) ?_
        simp only [Act.put, List.setIfInBounds_toArray, List.set_cons_zero, List.set_cons_succ]
        refine wpList_storeU 3 (.int .i64 ((ch + 1 : Nat) : Int)) (wanted_none rfl) 3 _ _ rfl HB10.out rfl rfl (by show 3 < 4; omega) ⟨rfl, rfl⟩ (by kernel_rfl) ?_
        intro w11 hb11 ht11
        simp only [Act.put, List.setIfInBounds_toArray, List.set_cons_zero, List.set_cons_succ]
        have HX11 := Lib.hid (HX10.out.st ht11 (HX10.out.in_.off HB10.out))
        have HB11 := Lib.hid (show Blk w11 x 58 #[.int .i64 (M : Int), .pointer (some ⟨g8, 0, none⟩), .int .i64 ((cn + 1 : Nat) : Int), .int .i64 ((ch + 1 : Nat) : Int)] from hb11)
        clear hb11 ht11
        go_upto_region 11 with fail
        refine wp_region_lit ?_
        refine wpList_run (v := .int .i64 0) (wanted_none rfl) (exec_move rfl rfl) ?_
        simp only [Act.put, List.setIfInBounds_toArray, List.set_cons_zero, List.set_cons_succ]
        refine wpList_run (v := .bool false) (wanted_none rfl) (exec_move rfl rfl) ?_
        simp only [Act.put, List.setIfInBounds_toArray, List.set_cons_zero, List.set_cons_succ]
        refine wpList_run (v := .int .i64 0) (wanted_none rfl) (gx_assign rfl rfl) ?_
        simp only [Act.put, List.setIfInBounds_toArray, List.set_cons_zero, List.set_cons_succ]
        refine wpList_run (v := .bool false) (wanted_none rfl) (gx_assign rfl rfl) ?_
        simp only [Act.put, List.setIfInBounds_toArray, List.set_cons_zero, List.set_cons_succ]
        go_wp2_with fail
        go_ret2
        rw [HRET.out]
        exact ⟨rfl, HX11.out.idx ⟨HX11.out.in_, HO.out, ⟨.pointer (some ⟨g8, 0, none⟩), ch + 1, by rw [HLE.out]; exact HB11.out, by have := HCN.out; omega, HTOP.out⟩, by rw [HLE.out]; have := HCN.out; have := HCE.out; omega, by have := HCN.out; omega⟩⟩
    · refine alw_take (i := 12) (v := .bool false) rfl (by kernel_rfl) (by kernel_rfl) (fun _ _ _ h => h) (.inl ⟨by rfl, fun W hW => ix_gtr rfl rfl rfl (decide_eq_false (by omega))⟩) hS0 ?_
      simp only [Act.put, List.setIfInBounds_toArray, List.set_cons_zero, List.set_cons_succ]
      refine alw_done rfl ?_
      refine NoPanic.normal ?_
      try simp only [Act.put, List.setIfInBounds_toArray, List.set_cons_zero, List.set_cons_succ]
      have HOV := Lib.hid hov
      clear hS0 hov
      obtain ⟨w9, hw3⟩ : ∃ q, q = w2.drew := ⟨_, rfl⟩
      rw [← hw3] at HX3 HB3 HXA ⊢
      clear hw3 HD
      have HX9 := HX3
      have HB9 := HB3
      have HTOP := Lib.hid (show Top H2 M (.pointer (some ⟨p, 0, none⟩)) (lput k v l) from .inr ⟨d, p, T, F2, rfl, HXA.out.tr, HXA.out.nd, HTN.out.mono HTP.out (by have := HN2.out; have := HOV.out; omega), by rw [HTF.out]; exact lput_srt HSL.out, HTF.out⟩)
      cases hg : tget k t with
      | some u =>
        have HRET := Lib.hid (show retV (lget k l) = .tuple #[.int .i64 u, .bool true] from by rw [← HTG.out, hg]; rfl)
        have HLE := Lib.hid (show (lput k v l).length = cn from by rw [HLN.out, ← HTG.out, hg, HCE.out]; rfl)
        clear hg
        go_upto_region 8 with fail
        refine wp_region_lit ?_
        refine wpList_run (v := .bool true) (wanted_none rfl) (exec_move rfl rfl) ?_
        simp only [Act.put, List.setIfInBounds_toArray, List.set_cons_zero, List.set_cons_succ]
        refine wpList_run (v := .bool false) (wanted_none rfl) (gx_not rfl rfl rfl) ?_
        simp only [Act.put, List.setIfInBounds_toArray, List.set_cons_zero, List.set_cons_succ]
        go_upto_region 11 with fail
        refine wp_region_lit ?_
        refine wpList_run (v := .int .i64 u) (wanted_none rfl) (exec_move rfl rfl) ?_
        simp only [Act.put, List.setIfInBounds_toArray, List.set_cons_zero, List.set_cons_succ]
        refine wpList_run (v := .bool true) (wanted_none rfl) (exec_move rfl rfl) ?_
        simp only [Act.put, List.setIfInBounds_toArray, List.set_cons_zero, List.set_cons_succ]
        refine wpList_run (v := .int .i64 u) (wanted_none rfl) (gx_assign rfl rfl) ?_
        simp only [Act.put, List.setIfInBounds_toArray, List.set_cons_zero, List.set_cons_succ]
        refine wpList_run (v := .bool true) (wanted_none rfl) (gx_assign rfl rfl) ?_
        simp only [Act.put, List.setIfInBounds_toArray, List.set_cons_zero, List.set_cons_succ]
        go_wp2_with fail
        go_ret2
        rw [HRET.out]
        exact ⟨rfl, HX9.out.idx ⟨HX9.out.in_, HO.out, ⟨.pointer (some ⟨p, 0, none⟩), ch, by rw [HLE.out]; exact HB9.out, by have := HCN.out; omega, HTOP.out⟩, by rw [HLE.out]; have := HCN.out; have := HCE.out; omega, by have := HCN.out; omega⟩⟩
      | none =>
        have HRET := Lib.hid (show retV (lget k l) = .tuple #[.int .i64 0, .bool false] from by rw [← HTG.out, hg]; rfl)
        have HLE := Lib.hid (show (lput k v l).length = cn + 1 from by rw [HLN.out, ← HTG.out, hg, HCE.out]; rfl)
        clear hg
        go_upto_region 8 with fail
        refine wp_region_lit ?_
        refine wpList_run (v := .bool false) (wanted_none rfl) (exec_move rfl rfl) ?_
        simp only [Act.put, List.setIfInBounds_toArray, List.set_cons_zero, List.set_cons_succ]
        refine wpList_run (v := .bool true) (wanted_none rfl) (gx_not rfl rfl rfl) ?_
        simp only [Act.put, List.setIfInBounds_toArray, List.set_cons_zero, List.set_cons_succ]
        go_upto_region 9 with fail
        refine wp_region_lit ?_
        refine wpList_run (v := .pointer (some ⟨x, 0, none⟩)) (wanted_none rfl) (exec_move rfl rfl) ?_
        simp only [Act.put, List.setIfInBounds_toArray, List.set_cons_zero, List.set_cons_succ]
        refine wpList_run (v := .pointer (some ⟨x, 0, none⟩)) (wanted_none rfl) (exec_nil rfl rfl) ?_
        simp only [Act.put, List.setIfInBounds_toArray, List.set_cons_zero, List.set_cons_succ]
        refine wpList_run (v := .pointer (some ⟨x, 2, none⟩)) (wanted_none rfl) (exec_field (off := 0) (d := 2) rfl rfl (by kernel_rfl)) ?_
        simp only [Act.put, List.setIfInBounds_toArray, List.set_cons_zero, List.set_cons_succ]
        refine wpList_run (v := .int .i64 (cn : Int)) (wanted_none rfl) (exec_load1 rfl rfl (by kernel_rfl) (HB9.out.cell 2)) ?_
        simp only [Act.put, List.setIfInBounds_toArray, List.set_cons_zero, List.set_cons_succ]
        refine wpList_run (v := .int .i64 ((cn + 1 : Nat) : Int)) (wanted_none rfl) (ix_add rfl rfl rfl (by omega) (by omega)) ?_
        simp only [Act.put, List.setIfInBounds_toArray, List.set_cons_zero, List.set_cons_succ]
        refine wpList_run (v := .pointer (some ⟨x, 0, none⟩)) (wanted_none rfl) (exec_nil rfl rfl) ?_
        simp only [Act.put, List.setIfInBounds_toArray, List.set_cons_zero, List.set_cons_succ]
        refine wpList_run (v := .pointer (some ⟨x, 2, none⟩)) (wanted_none rfl) (exec_field (off := 0) (d := 2) rfl rfl (by kernel_rfl)) ?_
        simp only [Act.put, List.setIfInBounds_toArray, List.set_cons_zero, List.set_cons_succ]
        refine wpList_storeU 2 (.int .i64 ((cn + 1 : Nat) : Int)) (wanted_none rfl) 3 _ _ rfl HB9.out rfl rfl (by show 2 < 4; omega) ⟨rfl, rfl⟩ (by kernel_rfl) ?_
        intro w10 hb10 ht10
        simp only [Act.put, List.setIfInBounds_toArray, List.set_cons_zero, List.set_cons_succ]
        have HX10 := Lib.hid (HX9.out.st ht10 (HX9.out.in_.off HB9.out))
        have HB10 := Lib.hid (show Blk w10 x 58 #[.int .i64 (M : Int), .pointer (some ⟨p, 0, none⟩), .int .i64 ((cn + 1 : Nat) : Int), .int .i64 (ch : Int)] from hb10)
        clear hb10 ht10
        go_upto_region 10 with fail
        refine wp_region_lit ?_
        refine wpList_run (v := .pointer (some ⟨x, 0, none⟩)) (wanted_none rfl) (exec_move rfl rfl) ?_
        simp only [Act.put, List.setIfInBounds_toArray, List.set_cons_zero, List.set_cons_succ]
        refine wpList_run (v := .pointer (some ⟨x, 0, none⟩)) (wanted_none rfl) (exec_nil rfl rfl) ?_
        simp only [Act.put, List.setIfInBounds_toArray, List.set_cons_zero, List.set_cons_succ]
        refine wpList_run (v := .pointer (some ⟨x, 3, none⟩)) (wanted_none rfl) (exec_field (off := 0) (d := 3) rfl rfl (by kernel_rfl)) ?_
        simp only [Act.put, List.setIfInBounds_toArray, List.set_cons_zero, List.set_cons_succ]
        refine wpList_run (v := .int .i64 (ch : Int)) (wanted_none rfl) (exec_load1 rfl rfl (by kernel_rfl) (HB10.out.cell 3)) ?_
        simp only [Act.put, List.setIfInBounds_toArray, List.set_cons_zero, List.set_cons_succ]
        refine wpList_run (v := .int .i64 ((ch + 1 : Nat) : Int)) (wanted_none rfl) (ix_add rfl rfl rfl (by omega) (by omega)) ?_
        simp only [Act.put, List.setIfInBounds_toArray, List.set_cons_zero, List.set_cons_succ]
        refine wpList_run (v := .pointer (some ⟨x, 0, none⟩)) (wanted_none rfl) (exec_nil rfl rfl) ?_
        simp only [Act.put, List.setIfInBounds_toArray, List.set_cons_zero, List.set_cons_succ]
        refine wpList_run (v := .pointer (some ⟨x, 3, none⟩)) (wanted_none rfl) (exec_field (off := 0) (d := 3) rfl rfl (by kernel_rfl)) ?_
        simp only [Act.put, List.setIfInBounds_toArray, List.set_cons_zero, List.set_cons_succ]
        refine wpList_storeU 3 (.int .i64 ((ch + 1 : Nat) : Int)) (wanted_none rfl) 3 _ _ rfl HB10.out rfl rfl (by show 3 < 4; omega) ⟨rfl, rfl⟩ (by kernel_rfl) ?_
        intro w11 hb11 ht11
        simp only [Act.put, List.setIfInBounds_toArray, List.set_cons_zero, List.set_cons_succ]
        have HX11 := Lib.hid (HX10.out.st ht11 (HX10.out.in_.off HB10.out))
        have HB11 := Lib.hid (show Blk w11 x 58 #[.int .i64 (M : Int), .pointer (some ⟨p, 0, none⟩), .int .i64 ((cn + 1 : Nat) : Int), .int .i64 ((ch + 1 : Nat) : Int)] from hb11)
        clear hb11 ht11
        go_upto_region 11 with fail
        refine wp_region_lit ?_
        refine wpList_run (v := .int .i64 0) (wanted_none rfl) (exec_move rfl rfl) ?_
        simp only [Act.put, List.setIfInBounds_toArray, List.set_cons_zero, List.set_cons_succ]
        refine wpList_run (v := .bool false) (wanted_none rfl) (exec_move rfl rfl) ?_
        simp only [Act.put, List.setIfInBounds_toArray, List.set_cons_zero, List.set_cons_succ]
        refine wpList_run (v := .int .i64 0) (wanted_none rfl) (gx_assign rfl rfl) ?_
        simp only [Act.put, List.setIfInBounds_toArray, List.set_cons_zero, List.set_cons_succ]
        refine wpList_run (v := .bool false) (wanted_none rfl) (gx_assign rfl rfl) ?_
        simp only [Act.put, List.setIfInBounds_toArray, List.set_cons_zero, List.set_cons_succ]
        go_wp2_with fail
        go_ret2
        rw [HRET.out]
        exact ⟨rfl, HX11.out.idx ⟨HX11.out.in_, HO.out, ⟨.pointer (some ⟨p, 0, none⟩), ch + 1, by rw [HLE.out]; exact HB11.out, by have := HCN.out; omega, HTOP.out⟩, by rw [HLE.out]; have := HCN.out; have := HCE.out; omega, by have := HCN.out; omega⟩⟩
  · have HX1 := Lib.hid (ToX.refl (x := x) HIN.out)
    have HTE := Lib.hid (show Tree w H p t F (M / 2) M 1 M from ⟨HIN.out, ht, hnd, hnb⟩)
    have HSR := Lib.hid hsr
    have HFL := Lib.hid hfl
    obtain ⟨lo, hlo⟩ : ∃ lo : Nat, lo = 1 := ⟨1, rfl⟩
    rw [← hlo] at HTE
    have HLO := Lib.hid (show 1 ≤ lo ∨ d = 0 from .inl (by omega))
    have HB1 := HB
    clear ht hnd hnb hsr hfl hlo
    obtain ⟨H1, hH1⟩ : ∃ q, q = H := ⟨_, rfl⟩
    obtain ⟨w1, hw1⟩ : ∃ q, q = w := ⟨_, rfl⟩
    go_enter Try.func10, Try.ntmps10
    go_upto_region 1 with fail
    refine wp_region_lit ?_
    refine wpList_run (v := .pointer (some ⟨x, 0, none⟩)) (wanted_none rfl) (exec_move rfl rfl) ?_
    simp only [Act.put, List.setIfInBounds_toArray, List.set_cons_zero, List.set_cons_succ]
    refine wpList_run (v := .pointer (some ⟨x, 0, none⟩)) (wanted_none rfl) (exec_nil rfl rfl) ?_
    simp only [Act.put, List.setIfInBounds_toArray, List.set_cons_zero, List.set_cons_succ]
    refine wpList_run (v := .pointer (some ⟨x, 1, none⟩)) (wanted_none rfl) (exec_field (off := 0) (d := 1) rfl rfl (by kernel_rfl)) ?_
    simp only [Act.put, List.setIfInBounds_toArray, List.set_cons_zero, List.set_cons_succ]
    refine wpList_run (v := .pointer (some ⟨p, 0, none⟩)) (wanted_none rfl) (exec_load1 rfl rfl (by kernel_rfl) (HB.out.cell 1)) ?_
    simp only [Act.put, List.setIfInBounds_toArray, List.set_cons_zero, List.set_cons_succ]
    refine wpList_run (v := .bool false) (wanted_none rfl) (ptr_some rfl rfl rfl rfl) ?_
    simp only [Act.put, List.setIfInBounds_toArray, List.set_cons_zero, List.set_cons_succ]
    have HX1 := Lib.hid (show ToX w H x w1 H1 from by rw [hw1, hH1]; exact HX1.out)
    have HB1 := Lib.hid (show Blk w1 x 58 #[.int .i64 (M : Int), .pointer (some ⟨p, 0, none⟩), .int .i64 (cn : Int), .int .i64 (ch : Int)] from by rw [hw1]; exact HB.out)
    have HTE := Lib.hid (show Tree w1 H1 p t F (M / 2) M lo M from by rw [hw1, hH1]; exact HTE.out)
    go_upto_region 3 with fail
    rw [← hw1]
    clear hw1 hH1
    refine wp_region_alw (fun W => Blk W x 58 #[.int .i64 (M : Int), .pointer (some ⟨p, 0, none⟩), .int .i64 (cn : Int), .int .i64 (ch : Int)]) (by kernel_rfl) ?_
    have HD := Lib.hid ((Turn.refl nowhere w1).drew)
    have hS0 : Blk w1.drew x 58 #[.int .i64 (M : Int), .pointer (some ⟨p, 0, none⟩), .int .i64 (cn : Int), .int .i64 (ch : Int)] := HB1.out
    have HXF1 := Lib.hid (HTE.out.hin.off HB1.out)
    refine alw_take (i := 0) (v := .pointer (some ⟨x, 0, none⟩)) rfl (by kernel_rfl) (by kernel_rfl) (fun _ _ _ h => h) (.inl ⟨by rfl, fun W hW => exec_move rfl rfl⟩) hS0 ?_
    simp only [Act.put, List.setIfInBounds_toArray, List.set_cons_zero, List.set_cons_succ]
    refine alw_take (i := 1) (v := .pointer (some ⟨x, 0, none⟩)) rfl (by kernel_rfl) (by kernel_rfl) (fun _ _ _ h => h) (.inl ⟨by rfl, fun W hW => exec_nil rfl rfl⟩) hS0 ?_
    simp only [Act.put, List.setIfInBounds_toArray, List.set_cons_zero, List.set_cons_succ]
    refine alw_take (i := 2) (v := .pointer (some ⟨x, 1, none⟩)) rfl (by kernel_rfl) (by kernel_rfl) (fun _ _ _ h => h) (.inl ⟨by rfl, fun W hW => exec_field (off := 0) (d := 1) rfl rfl (by kernel_rfl)⟩) hS0 ?_
    simp only [Act.put, List.setIfInBounds_toArray, List.set_cons_zero, List.set_cons_succ]
    refine alw_take (i := 3) (v := .pointer (some ⟨p, 0, none⟩)) rfl (by kernel_rfl) (by kernel_rfl) (fun _ _ _ h => h) (.inl ⟨by rfl, fun W hW => exec_load1 rfl rfl (by kernel_rfl) (hW.cell 1)⟩) hS0 ?_
    simp only [Act.put, List.setIfInBounds_toArray, List.set_cons_zero, List.set_cons_succ]
    refine alw_take (i := 4) (v := strV k) rfl (by kernel_rfl) (by kernel_rfl) (fun _ _ _ h => h) (.inl ⟨by rfl, fun W hW => exec_move rfl rfl⟩) hS0 ?_
    simp only [Act.put, List.setIfInBounds_toArray, List.set_cons_zero, List.set_cons_succ]
    refine alw_take (i := 5) (v := .int .i64 v) rfl (by kernel_rfl) (by kernel_rfl) (fun _ _ _ h => h) (.inl ⟨by rfl, fun W hW => exec_move rfl rfl⟩) hS0 ?_
    simp only [Act.put, List.setIfInBounds_toArray, List.set_cons_zero, List.set_cons_succ]
    refine alw_take (i := 6) (v := .pointer (some ⟨x, 0, none⟩)) rfl (by kernel_rfl) (by kernel_rfl) (fun _ _ _ h => h) (.inl ⟨by rfl, fun W hW => exec_move rfl rfl⟩) hS0 ?_
    simp only [Act.put, List.setIfInBounds_toArray, List.set_cons_zero, List.set_cons_succ]
    refine alw_take (i := 7) (v := .pointer (some ⟨x, 0, none⟩)) rfl (by kernel_rfl) (by kernel_rfl) (fun _ _ _ h => h) (.inl ⟨by rfl, fun W hW => exec_nil rfl rfl⟩) hS0 ?_
    simp only [Act.put, List.setIfInBounds_toArray, List.set_cons_zero, List.set_cons_succ]
    refine alw_take (i := 8) (v := .pointer (some ⟨x, 0, none⟩)) rfl (by kernel_rfl) (by kernel_rfl) (fun _ _ _ h => h) (.inl ⟨by rfl, fun W hW => exec_field (off := 0) (d := 0) rfl rfl (by kernel_rfl)⟩) hS0 ?_
    simp only [Act.put, List.setIfInBounds_toArray, List.set_cons_zero, List.set_cons_succ]
    refine alw_take (i := 9) (v := .int .i64 (M : Int)) rfl (by kernel_rfl) (by kernel_rfl) (fun _ _ _ h => h) (.inl ⟨by rfl, fun W hW => exec_load1 rfl rfl (by kernel_rfl) (hW.cell 0)⟩) hS0 ?_
    simp only [Act.put, List.setIfInBounds_toArray, List.set_cons_zero, List.set_cons_succ]
    have HPW := Lib.hid (put_walk (v := v) rfl HO.out.1 (by have := HO.out.2; omega) HKL.out (show Tree w1.drew H1 p t F (M / 2) M lo M from ⟨HTE.out.hin.still HD.out, HTE.out.tr, HTE.out.nd, HTE.out.nb⟩) HSR.out (by have := HO.out.2; omega))
    refine alw_step (i := 10) (by kernel_rfl) rfl rfl ?_
    intro K1 HK1
    go_wp2_with fail
    refine HPW.out.mono ?_
    rintro e w2 ⟨rfl, haf⟩
    obtain ⟨H2, F2, hx2⟩ := haf.x
    have hS2 : Blk w2 x 58 #[.int .i64 (M : Int), .pointer (some ⟨p, 0, none⟩), .int .i64 (cn : Int), .int .i64 (ch : Int)] := hS0.turn hx2.to.turn HXF1.out
    refine HK1.out _ _ ⟨hS2, ?_⟩
    clear HK1 haf hS0
    try simp only [Act.put, List.setIfInBounds_toArray, List.set_cons_zero, List.set_cons_succ]
    have HX2 := Lib.hid (AfterX.pre HTE.out.hin HD.out hx2)
    clear hx2
    refine alw_take (i := 11) (v := .tuple #[.int .i64 ((tget k t).getD 0), .bool (tget k t).isSome]) rfl (by kernel_rfl) (by kernel_rfl) (fun _ _ _ h => h) (.inl ⟨by rfl, fun W hW => exec_move rfl rfl⟩) hS2 ?_
    simp only [Act.put, List.setIfInBounds_toArray, List.set_cons_zero, List.set_cons_succ]
    refine alw_take (i := 12) (v := .int .i64 ((tget k t).getD 0)) rfl (by kernel_rfl) (by kernel_rfl) (fun _ _ _ h => h) (.inl ⟨by rfl, fun W hW => ix_extract rfl rfl rfl⟩) hS2 ?_
    simp only [Act.put, List.setIfInBounds_toArray, List.set_cons_zero, List.set_cons_succ]
    refine alw_take (i := 13) (v := .bool (tget k t).isSome) rfl (by kernel_rfl) (by kernel_rfl) (fun _ _ _ h => h) (.inl ⟨by rfl, fun W hW => ix_extract rfl rfl rfl⟩) hS2 ?_
    simp only [Act.put, List.setIfInBounds_toArray, List.set_cons_zero, List.set_cons_succ]
    refine alw_take (i := 14) (v := .int .i64 ((tget k t).getD 0)) rfl (by kernel_rfl) (by kernel_rfl) (fun _ _ _ h => h) (.inl ⟨by rfl, fun W hW => gx_assign rfl rfl⟩) hS2 ?_
    simp only [Act.put, List.setIfInBounds_toArray, List.set_cons_zero, List.set_cons_succ]
    refine alw_take (i := 15) (v := .bool (tget k t).isSome) rfl (by kernel_rfl) (by kernel_rfl) (fun _ _ _ h => h) (.inl ⟨by rfl, fun W hW => gx_assign rfl rfl⟩) hS2 ?_
    simp only [Act.put, List.setIfInBounds_toArray, List.set_cons_zero, List.set_cons_succ]
    refine alw_done rfl ?_
    refine NoPanic.normal ?_
    try simp only [Act.put, List.setIfInBounds_toArray, List.set_cons_zero, List.set_cons_succ]
    have HB2 := Lib.hid hS2
    clear hS2 HD HPW
    obtain ⟨tf, tn⟩ := tput_ok (k := k) (n := v) rfl HO.out.1 HTE.out.nb HSR.out
    have tp := tput_pos (k := k) (v := v) rfl HO.out.1 HTE.out.nb HSR.out HLO.out
    rw [HFL.out] at tf
    have HTG := Lib.hid (show tget k t = lget k l from (tget_ok HTE.out.nb HSR.out).trans (by rw [HFL.out]))
    have HXT := Lib.hid (HX1.out.to HX2.out.to)
    obtain ⟨T, hT⟩ : ∃ T, T = tput k v M t := ⟨_, rfl⟩
    rw [← hT] at tf tn tp HX2
    have HTF := Lib.hid tf
    have HTN := Lib.hid tn
    have HTP := Lib.hid tp
    obtain ⟨vp, vk, ks, hp2⟩ := HX2.out.tr.root
    have hsl : Srt l := by have h := HSR.out; rwa [HFL.out] at h
    have HSL := Lib.hid hsl
    have HLN := Lib.hid (lput_len (k := k) (v := v) hsl)
    obtain ⟨A2, c2, e9, _, _, _, _⟩ := (HXT.out.in_.at_ hp2).prs.form
    obtain ⟨n2, hn2⟩ : ∃ n, n = T.ps.length := ⟨_, rfl⟩
    replace e9 := e9.trans (show _ = Value.slice A2 n2 c2 from by rw [List.length_map, hn2])
    subst e9
    have HP2 := Lib.hid hp2
    have HN2 := Lib.hid hn2
    have z1 : (n2 : Int) ≤ 65 := by have := tn.hi; have := HO.out.2; omega
    clear tf tn tp hT hp2 hn2 hsl
    go_upto_region 4 with fail
    refine wp_region_alw (fun W => Blk W x 58 #[.int .i64 (M : Int), .pointer (some ⟨p, 0, none⟩), .int .i64 (cn : Int), .int .i64 (ch : Int)] ∧ Blk W p 62 #[.slice A2 n2 c2, vk]) (by kernel_rfl) ?_
    have HD := Lib.hid ((Turn.refl nowhere w2).drew)
    have hS0 : Blk w2.drew x 58 #[.int .i64 (M : Int), .pointer (some ⟨p, 0, none⟩), .int .i64 (cn : Int), .int .i64 (ch : Int)] ∧ Blk w2.drew p 62 #[.slice A2 n2 c2, vk] := ⟨HB2.out, (HXT.out.in_.at_ HP2.out).blk⟩
    refine alw_take (i := 0) (v := .pointer (some ⟨x, 0, none⟩)) rfl (by kernel_rfl) (by kernel_rfl) (fun _ _ _ h => h) (.inl ⟨by rfl, fun W hW => exec_move rfl rfl⟩) hS0 ?_
    simp only [Act.put, List.setIfInBounds_toArray, List.set_cons_zero, List.set_cons_succ]
    refine alw_take (i := 1) (v := .pointer (some ⟨x, 0, none⟩)) rfl (by kernel_rfl) (by kernel_rfl) (fun _ _ _ h => h) (.inl ⟨by rfl, fun W hW => exec_nil rfl rfl⟩) hS0 ?_
    simp only [Act.put, List.setIfInBounds_toArray, List.set_cons_zero, List.set_cons_succ]
    refine alw_take (i := 2) (v := .pointer (some ⟨x, 1, none⟩)) rfl (by kernel_rfl) (by kernel_rfl) (fun _ _ _ h => h) (.inl ⟨by rfl, fun W hW => exec_field (off := 0) (d := 1) rfl rfl (by kernel_rfl)⟩) hS0 ?_
    simp only [Act.put, List.setIfInBounds_toArray, List.set_cons_zero, List.set_cons_succ]
    refine alw_take (i := 3) (v := .pointer (some ⟨p, 0, none⟩)) rfl (by kernel_rfl) (by kernel_rfl) (fun _ _ _ h => h) (.inl ⟨by rfl, fun W hW => exec_load1 rfl rfl (by kernel_rfl) (hW.1.cell 1)⟩) hS0 ?_
    simp only [Act.put, List.setIfInBounds_toArray, List.set_cons_zero, List.set_cons_succ]
    refine alw_take (i := 4) (v := .pointer (some ⟨p, 0, none⟩)) rfl (by kernel_rfl) (by kernel_rfl) (fun _ _ _ h => h) (.inl ⟨by rfl, fun W hW => exec_nil rfl rfl⟩) hS0 ?_
    simp only [Act.put, List.setIfInBounds_toArray, List.set_cons_zero, List.set_cons_succ]
    refine alw_take (i := 5) (v := .pointer (some ⟨p, 0, none⟩)) rfl (by kernel_rfl) (by kernel_rfl) (fun _ _ _ h => h) (.inl ⟨by rfl, fun W hW => exec_field (off := 0) (d := 0) rfl rfl (by kernel_rfl)⟩) hS0 ?_
    simp only [Act.put, List.setIfInBounds_toArray, List.set_cons_zero, List.set_cons_succ]
    refine alw_take (i := 6) (v := .slice A2 n2 c2) rfl (by kernel_rfl) (by kernel_rfl) (fun _ _ _ h => h) (.inl ⟨by rfl, fun W hW => exec_load1 rfl rfl (by kernel_rfl) (hW.2.cell 0)⟩) hS0 ?_
    simp only [Act.put, List.setIfInBounds_toArray, List.set_cons_zero, List.set_cons_succ]
    refine alw_take (i := 7) (v := .int .i64 (n2 : Int)) rfl (by kernel_rfl) (by kernel_rfl) (fun _ _ _ h => h) (.inl ⟨by rfl, fun W hW => gx_len rfl rfl Try.underlying59⟩) hS0 ?_
    simp only [Act.put, List.setIfInBounds_toArray, List.set_cons_zero, List.set_cons_succ]
    refine alw_take (i := 8) (v := .pointer (some ⟨x, 0, none⟩)) rfl (by kernel_rfl) (by kernel_rfl) (fun _ _ _ h => h) (.inl ⟨by rfl, fun W hW => exec_move rfl rfl⟩) hS0 ?_
    simp only [Act.put, List.setIfInBounds_toArray, List.set_cons_zero, List.set_cons_succ]
    refine alw_take (i := 9) (v := .pointer (some ⟨x, 0, none⟩)) rfl (by kernel_rfl) (by kernel_rfl) (fun _ _ _ h => h) (.inl ⟨by rfl, fun W hW => exec_nil rfl rfl⟩) hS0 ?_
    simp only [Act.put, List.setIfInBounds_toArray, List.set_cons_zero, List.set_cons_succ]
    refine alw_take (i := 10) (v := .pointer (some ⟨x, 0, none⟩)) rfl (by kernel_rfl) (by kernel_rfl) (fun _ _ _ h => h) (.inl ⟨by rfl, fun W hW => exec_field (off := 0) (d := 0) rfl rfl (by kernel_rfl)⟩) hS0 ?_
    simp only [Act.put, List.setIfInBounds_toArray, List.set_cons_zero, List.set_cons_succ]
    refine alw_take (i := 11) (v := .int .i64 (M : Int)) rfl (by kernel_rfl) (by kernel_rfl) (fun _ _ _ h => h) (.inl ⟨by rfl, fun W hW => exec_load1 rfl rfl (by kernel_rfl) (hW.1.cell 0)⟩) hS0 ?_
    simp only [Act.put, List.setIfInBounds_toArray, List.set_cons_zero, List.set_cons_succ]
    have HX3 := Lib.hid (HXT.out.still HD.out)
    have HB3 := Lib.hid hS0.1
    have HXA := Lib.hid (HX2.out.post HD.out)
    by_cases hov : M < n2
    · refine alw_take (i := 12) (v := .bool true) rfl (by kernel_rfl) (by kernel_rfl) (fun _ _ _ h => h) (.inl ⟨by rfl, fun W hW => ix_gtr rfl rfl rfl (decide_eq_true (by omega))⟩) hS0 ?_
      simp only [Act.put, List.setIfInBounds_toArray, List.set_cons_zero, List.set_cons_succ]
      refine alw_done rfl ?_
      refine NoPanic.normal ?_
      try simp only [Act.put, List.setIfInBounds_toArray, List.set_cons_zero, List.set_cons_succ]
      have HOV := Lib.hid hov
      clear hS0 hov
      obtain ⟨w3, hw3⟩ : ∃ q, q = w2.drew := ⟨_, rfl⟩
      rw [← hw3] at HX3 HB3 HXA ⊢
      clear hw3 HD
      obtain ⟨y, hy⟩ : ∃ y, T.ps[T.ps.length / 2]? = some y := ⟨_, List.getElem?_eq_getElem (show T.ps.length / 2 < T.ps.length by have := HTP.out; omega)⟩
      have HY := Lib.hid (show splitM T = y from by unfold splitM; rw [hy]; rfl)
      have hks2 : ks = [] ∨ ks.length = T.ps.length + 1 := by
        have h1 := HXA.out.tr
        have h2 := HTN.out
        have h3 : Is H2 p T.ps ks := ⟨_, _, HP2.out⟩
        clear HX2 HXA HTG HTF HTP HTN HSR HFL HTE HLO HY hy HN2
        cases d with
        | zero => exact .inl (h3.inj h1.1).2
        | succ d =>
          obtain ⟨ks', F', g1, g2, _⟩ := h1
          obtain ⟨_, e⟩ := h3.inj g1
          right
          rw [e, g2.len]
          exact h2.2.2.1
      have HSW := Lib.hid (split_walk HX3.out.in_ ⟨_, _, HP2.out⟩ hy (by have := HN2.out; omega) hks2)
      clear hy hks2
      go_upto_region 5 with fail
      refine wp_region_lit ?_
      refine wpList_run (v := .pointer (some ⟨x, 0, none⟩)) (wanted_none rfl) (exec_move rfl rfl) ?_
      simp only [Act.put, List.setIfInBounds_toArray, List.set_cons_zero, List.set_cons_succ]
      refine wpList_run (v := .pointer (some ⟨x, 0, none⟩)) (wanted_none rfl) (exec_nil rfl rfl) ?_
      simp only [Act.put, List.setIfInBounds_toArray, List.set_cons_zero, List.set_cons_succ]
      refine wpList_run (v := .pointer (some ⟨x, 1, none⟩)) (wanted_none rfl) (exec_field (off := 0) (d := 1) rfl rfl (by kernel_rfl)) ?_
      simp only [Act.put, List.setIfInBounds_toArray, List.set_cons_zero, List.set_cons_succ]
      refine wpList_run (v := .pointer (some ⟨p, 0, none⟩)) (wanted_none rfl) (exec_load1 rfl rfl (by kernel_rfl) (HB3.out.cell 1)) ?_
      simp only [Act.put, List.setIfInBounds_toArray, List.set_cons_zero, List.set_cons_succ]
      refine wpList_run (v := .pointer (some ⟨p, 0, none⟩)) (wanted_none rfl) (gx_assign rfl rfl) ?_
      simp only [Act.put, List.setIfInBounds_toArray, List.set_cons_zero, List.set_cons_succ]
      go_upto_region 6 with fail
      refine wp_region_lit ?_
      refine wpList_run (v := .pointer (some ⟨p, 0, none⟩)) (wanted_none rfl) (exec_move rfl rfl) ?_
      simp only [Act.put, List.setIfInBounds_toArray, List.set_cons_zero, List.set_cons_succ]
      refine wpList_op rfl fun K9 HK9 => ?_
      go_wp2_with fail
      refine (HSW.out).mono ?_
      rintro e w4 ⟨r, H4, rfl, hgr, hto, jx, jr, hs4⟩
      refine HK9.out _ _ ?_
      clear HK9
      try simp only [Act.put, List.setIfInBounds_toArray, List.set_cons_zero, List.set_cons_succ]
      have HX4 := Lib.hid (HX3.out.to hto)
      have HB4 := Lib.hid (HB3.out.turn hto.turn (HX3.out.in_.off HB3.out))
      have hnG : Nd1 (r :: F2) := fun a => by
        have h1 := HXA.out.nd a
        simp only [List.count_cons]
        split
        · rename_i e
          have e : r = a := by simpa using e
          have : F2.count a = 0 := List.count_eq_zero.2 fun hm => by
            have := TrAt.lt HX3.out.in_ HXA.out.tr a hm
            omega
          omega
        · omega
      obtain ⟨Gl, Gr, t1, t2, t3⟩ := split_tree (n := r) HX3.out.in_ HXA.out.tr ⟨_, _, HP2.out⟩ hnG hgr jx jr (fun q hq => hs4 q fun e => hq (by rcases e with e | e; exact .inr (.inl e); exact .inr (.inr e)))
      have HGL := Lib.hid t1
      have HGRT := Lib.hid t2
      have HGC := Lib.hid t3
      have HNF := Lib.hid hnG
      have HLT4 := Lib.hid (fun q (hq : q ∈ F2) => TrAt.lt HX3.out.in_ HXA.out.tr q hq)
      have HGR := Lib.hid hgr
      have HSZ := Lib.hid hto.turn.size
      clear hto jx jr hs4 hgr t1 t2 t3 hnG
      refine wpList_run (v := .tuple #[.agg (encP y).toArray, .pointer (some ⟨r, 0, none⟩)]) (wanted_none rfl) (exec_move rfl rfl) ?_
      simp only [Act.put, List.setIfInBounds_toArray, List.set_cons_zero, List.set_cons_succ]
      refine wpList_run (v := .agg (encP y).toArray) (wanted_none rfl) (ix_extract rfl rfl rfl) ?_
      simp only [Act.put, List.setIfInBounds_toArray, List.set_cons_zero, List.set_cons_succ]
      refine wpList_run (v := .pointer (some ⟨r, 0, none⟩)) (wanted_none rfl) (ix_extract rfl rfl rfl) ?_
      simp only [Act.put, List.setIfInBounds_toArray, List.set_cons_zero, List.set_cons_succ]
      refine wpList_new 65 (.tmp 11) (.tmp 57) (encP y).toArray (wanted_none rfl) rfl (zero_pair _) rfl (wanted_none rfl) rfl rfl rfl rfl (by rw [size_pair]; rfl) (fun v hv => encP_one y v (by simpa using hv)) ?_
      intro w5 g5 hge hb5 ht5
      simp only [Act.put, List.setIfInBounds_toArray, List.set_cons_zero, List.set_cons_succ]
      have HB5 := Lib.hid hb5
      have HX5 := Lib.hid (HX4.out.still ht5)
      have HBX5 := Lib.hid (HB4.out.turn ht5 (fun e => e))
      have HT5 := Lib.hid ht5
      clear hge hb5 ht5
      refine wpList_run (v := .pointer (some ⟨r, 0, none⟩)) (wanted_none rfl) (gx_assign rfl rfl) ?_
      simp only [Act.put, List.setIfInBounds_toArray, List.set_cons_zero, List.set_cons_succ]
      go_upto_region 7 with fail
      refine wp_region_lit ?_
      refine wpList_run (v := .pointer (some ⟨x, 0, none⟩)) (wanted_none rfl) (exec_move rfl rfl) ?_
      simp only [Act.put, List.setIfInBounds_toArray, List.set_cons_zero, List.set_cons_succ]
      refine wpList_run (v := .agg (encP y).toArray) (wanted_none rfl) (gx_loads rfl rfl (blk_range HB5.out) Try.underlying65 rfl (by rw [size_pair]; rfl)) ?_
      simp only [Act.put, List.setIfInBounds_toArray, List.set_cons_zero, List.set_cons_succ]
      have hb2 := Blk.new w5 65 (encP y).toArray
      have ht2 := (Turn.refl nowhere w5).alloc (.cells (encP y).toArray 65)
      obtain ⟨g6, hg2⟩ : ∃ q, q = w5.heap.size := ⟨_, rfl⟩
      have hbld := build_oneP y w5
      rw [← hg2] at hb2 hbld
      generalize w5.alloc (.cells (encP y).toArray 65) = w6 at *
      refine wpList_run (v := .slice (some ⟨g6, 0, none⟩) 1 1) (w' := w6) (wanted_none rfl) (exec_buildSlice1 rfl rfl hbld) ?_
      simp only [Act.put, List.setIfInBounds_toArray, List.set_cons_zero, List.set_cons_succ]
      have HG6 := Lib.hid hb2
      have HT6 := Lib.hid ht2
      have HE6 := Lib.hid hg2
      clear hb2 ht2 hg2 hbld
      refine wpList_run (v := .pointer (some ⟨p, 0, none⟩)) (wanted_none rfl) (exec_move rfl rfl) ?_
      simp only [Act.put, List.setIfInBounds_toArray, List.set_cons_zero, List.set_cons_succ]
      refine wpList_run (v := .pointer (some ⟨r, 0, none⟩)) (wanted_none rfl) (exec_move rfl rfl) ?_
      simp only [Act.put, List.setIfInBounds_toArray, List.set_cons_zero, List.set_cons_succ]
      have hb2 := Blk.new w6 56 #[.pointer (some ⟨p, 0, none⟩), .pointer (some ⟨r, 0, none⟩)]
      have ht2 := (Turn.refl nowhere w6).alloc (.cells #[.pointer (some ⟨p, 0, none⟩), .pointer (some ⟨r, 0, none⟩)] 56)
      obtain ⟨g7, hg2⟩ : ∃ q, q = w6.heap.size := ⟨_, rfl⟩
      have hbld := build_twoK p r w6
      rw [← hg2] at hb2 hbld
      generalize w6.alloc (.cells #[.pointer (some ⟨p, 0, none⟩), .pointer (some ⟨r, 0, none⟩)] 56) = w7 at *
      refine wpList_run (v := .slice (some ⟨g7, 0, none⟩) 2 2) (w' := w7) (wanted_none rfl) (bx_slice2 rfl rfl rfl hbld) ?_
      simp only [Act.put, List.setIfInBounds_toArray, List.set_cons_zero, List.set_cons_succ]
      have HG7 := Lib.hid hb2
      have HT7 := Lib.hid ht2
      have HE7 := Lib.hid hg2
      clear hb2 ht2 hg2 hbld
      refine wpList_run (v := .agg #[.slice (some ⟨g6, 0, none⟩) 1 1, .slice (some ⟨g7, 0, none⟩) 2 2]) (wanted_none rfl) (gx_build2 rfl rfl rfl (build_node2 _ _ _ _ _ _ _)) ?_
      simp only [Act.put, List.setIfInBounds_toArray, List.set_cons_zero, List.set_cons_succ]
      have hb2 := Blk.new w7 62 #[.slice (some ⟨g6, 0, none⟩) 1 1, .slice (some ⟨g7, 0, none⟩) 2 2]
      have ht2 := (Turn.refl nowhere w7).alloc (.cells #[.slice (some ⟨g6, 0, none⟩) 1 1, .slice (some ⟨g7, 0, none⟩) 2 2] 62)
      have hbx := box_node (some ⟨g6, 0, none⟩) 1 1 (some ⟨g7, 0, none⟩) 2 2 w7
      obtain ⟨g8, hg2⟩ : ∃ q, q = w7.heap.size := ⟨_, rfl⟩
      rw [← hg2] at hb2 hbx
      generalize w7.alloc (.cells #[.slice (some ⟨g6, 0, none⟩) 1 1, .slice (some ⟨g7, 0, none⟩) 2 2] 62) = w8 at *
      refine wpList_run (v := .pointer (some ⟨g8, 0, none⟩)) (w' := w8) (wanted_none rfl) (gx_box rfl rfl hbx) ?_
      simp only [Act.put, List.setIfInBounds_toArray, List.set_cons_zero, List.set_cons_succ]
      have HT58 := Lib.hid (HT6.out.trans (HT7.out.trans ht2 fun _ _ e => e) fun _ _ e => e)
      have HG8 := Lib.hid (show w5.heap.size ≤ g8 from by have := HT6.out.size; have := HT7.out.size; omega)
      have HNW := Lib.hid (HX5.out.in_.new (nd := ⟨[y], [p, r], .slice (some ⟨g6, 0, none⟩) 1 1, .slice (some ⟨g7, 0, none⟩) 2 2⟩) HT58.out HG8.out
        ⟨hb2, (row_one (HG6.out.turn (HT7.out.trans ht2 fun _ _ e => e) fun e => e)), (row_twoK (HG7.out.turn ht2 fun e => e))⟩ (fun b hb => by have hb : some g6 = some b := hb; have := Option.some.inj hb; have := HE6.out; omega) (fun b hb => by have hb : some g7 = some b := hb; have := Option.some.inj hb; have := HE7.out; have := HT6.out.size; omega))
      have HB8 := Lib.hid (HBX5.out.turn HT58.out fun e => e)
      clear hb2 ht2 hg2 hbx
      obtain ⟨H8, hH8⟩ : ∃ q, q = up H4 g8 ⟨[y], [p, r], .slice (some ⟨g6, 0, none⟩) 1 1, .slice (some ⟨g7, 0, none⟩) 2 2⟩ := ⟨_, rfl⟩
      have HIS8 := Lib.hid (show Is H8 g8 [y] [p, r] from by rw [hH8]; exact ⟨_, _, up_same _ _ _⟩)
      have HSM8 := Lib.hid (show Same H4 H8 (fun q => q = g8) from by rw [hH8]; exact same_up _ _ _)
      rw [← hH8] at HNW
      clear hH8
      have HX8 := Lib.hid (HX5.out.to HNW.out)
      refine wpList_run (v := .pointer (some ⟨x, 0, none⟩)) (wanted_none rfl) (exec_nil rfl rfl) ?_
      simp only [Act.put, List.setIfInBounds_toArray, List.set_cons_zero, List.set_cons_succ]
      refine wpList_run (v := .pointer (some ⟨x, 1, none⟩)) (wanted_none rfl) (exec_field (off := 0) (d := 1) rfl rfl (by kernel_rfl)) ?_
      simp only [Act.put, List.setIfInBounds_toArray, List.set_cons_zero, List.set_cons_succ]
      refine wpList_storeU 1 (.pointer (some ⟨g8, 0, none⟩)) (wanted_none rfl) 56 _ _ rfl HB8.out rfl rfl (by show 1 < 4; omega) ⟨rfl, rfl⟩ size_ptr ?_
      intro w9 hb9 ht9
      simp only [Act.put, List.setIfInBounds_toArray, List.set_cons_zero, List.set_cons_succ]
      have HX9 := Lib.hid (HX8.out.st ht9 (HX8.out.in_.off HB8.out))
      have HB9 := Lib.hid (show Blk w9 x 58 #[.int .i64 (M : Int), .pointer (some ⟨g8, 0, none⟩), .int .i64 (cn : Int), .int .i64 (ch : Int)] from hb9)
      clear hb9 ht9
      have hg8 : ∀ q, q ∈ F2 ∨ q = r → q ≠ g8 := fun q hq e => by
        have := HG8.out
        have := HT5.out.size
        have := HSZ.out
        rcases hq with h | h
        · have := HLT4.out q h; omega
        · have := HX4.out.in_
          have hr : r < w4.heap.size := TrAt.lt HX4.out.in_ HGRT.out r HGRT.out.mem
          omega
      have hin : ∀ q ∈ Gl ++ Gr, q ∈ F2 ∨ q = r := fun q hq => by
        have h1 := cnt_mem hq
        rw [HGC.out] at h1
        by_cases e : q = r
        · exact .inr e
        · have : ([r] : List Nat).count q = 0 := List.count_eq_zero.2 (by simp [e])
          exact .inl (List.count_pos_iff.1 (by omega))
      have HTOP := Lib.hid (show Top H8 M (.pointer (some ⟨g8, 0, none⟩)) (lput k v l) from .inr ⟨d + 1, g8, nodeT [y] [splitL T, splitR T], g8 :: (Gl ++ (Gr ++ [])), rfl,
        ⟨[p, r], Gl ++ (Gr ++ []), HIS8.out, ⟨Gl, Gr ++ [], rfl, HGL.out.same HSM8.out fun q hq e => hg8 q (hin q (List.mem_append_left _ hq)) e, ⟨Gr, [], rfl, HGRT.out.same HSM8.out fun q hq e => hg8 q (hin q (List.mem_append_right _ hq)) e, rfl⟩⟩, rfl⟩,
        fun a => by
          have h1 := HGC.out a
          have h2 := HNF.out a
          have h3 : 1 ≤ (Gl ++ Gr).count a → a ≠ g8 := fun h => hg8 a (hin a (List.count_pos_iff.1 h))
          simp only [List.count_append, List.count_cons, List.count_nil] at h1 h2 h3 ⊢
          by_cases e : g8 = a
          · have : ¬ 1 ≤ Gl.count a + Gr.count a := fun h => h3 h e.symm
            simp only [e, beq_self_eq_true, if_true]
            omega
          · simp only [show (g8 == a) = false from by simpa using e, Bool.false_eq_true, if_false]
            omega,
        by
          obtain ⟨n1, n2'⟩ := split_nd HTN.out (show T.ps.length = M + 1 from by have := HTN.out.hi; have := HN2.out; have := HOV.out; omega) rfl (by have := HO.out.1; omega)
          refine ⟨Nat.le_refl _, by show 1 ≤ M; have := HO.out.1; omega, rfl, fun c hc => ?_⟩
          have hc : c ∈ [splitL T, splitR T] := hc
          simp at hc
          rcases hc with rfl | rfl
          · exact n1
          · exact n2',
        by
          show Srt (flat (nodeT [y] [splitL T, splitR T]))
          have h : flat (nodeT [y] [splitL T, splitR T]) = flat T := by
            rw [split_flat HTN.out (by have := HTP.out; omega), HY.out]
            show inter ([splitL T, splitR T].map flat) [y] = _
            simp [inter]
          rw [h, HTF.out]
          exact lput_srt HSL.out,
        by
          have h : flat (nodeT [y] [splitL T, splitR T]) = flat T := by
            rw [split_flat HTN.out (by have := HTP.out; omega), HY.out]
            show inter ([splitL T, splitR T].map flat) [y] = _
            simp [inter]
          rw [h, HTF.out]⟩)
      clear hg8 hin
      cases hg : tget k t with
      | some u =>
        have HRET := Lib.hid (show retV (lget k l) = .tuple #[.int .i64 u, .bool true] from by rw [← HTG.out, hg]; rfl)
        have HLE := Lib.hid (show (lput k v l).length = cn from by rw [HLN.out, ← HTG.out, hg, HCE.out]; rfl)
        clear hg
        go_upto_region 8 with fail
        refine wp_region_lit ?_
        refine wpList_run (v := .bool true) (wanted_none rfl) (exec_move rfl rfl) ?_
        simp only [Act.put, List.setIfInBounds_toArray, List.set_cons_zero, List.set_cons_succ]
        refine wpList_run (v := .bool false) (wanted_none rfl) (gx_not rfl rfl rfl) ?_
        simp only [Act.put, List.setIfInBounds_toArray, List.set_cons_zero, List.set_cons_succ]
        go_upto_region 11 with fail
        refine wp_region_lit ?_
        refine wpList_run (v := .int .i64 u) (wanted_none rfl) (exec_move rfl rfl) ?_
        simp only [Act.put, List.setIfInBounds_toArray, List.set_cons_zero, List.set_cons_succ]
        refine wpList_run (v := .bool true) (wanted_none rfl) (exec_move rfl rfl) ?_
        simp only [Act.put, List.setIfInBounds_toArray, List.set_cons_zero, List.set_cons_succ]
        refine wpList_run (v := .int .i64 u) (wanted_none rfl) (gx_assign rfl rfl) ?_
        simp only [Act.put, List.setIfInBounds_toArray, List.set_cons_zero, List.set_cons_succ]
        refine wpList_run (v := .bool true) (wanted_none rfl) (gx_assign rfl rfl) ?_
        simp only [Act.put, List.setIfInBounds_toArray, List.set_cons_zero, List.set_cons_succ]
        go_wp2_with fail
        go_ret2
        rw [HRET.out]
        exact ⟨rfl, HX9.out.idx ⟨HX9.out.in_, HO.out, ⟨.pointer (some ⟨g8, 0, none⟩), ch, by rw [HLE.out]; exact HB9.out, by have := HCN.out; omega, HTOP.out⟩, by rw [HLE.out]; have := HCN.out; have := HCE.out; omega, by have := HCN.out; omega⟩⟩
      | none =>
        have HRET := Lib.hid (show retV (lget k l) = .tuple #[.int .i64 0, .bool false] from by rw [← HTG.out, hg]; rfl)
        have HLE := Lib.hid (show (lput k v l).length = cn + 1 from by rw [HLN.out, ← HTG.out, hg, HCE.out]; rfl)
        clear hg
        go_upto_region 8 with fail
        refine wp_region_lit ?_
        refine wpList_run (v := .bool false) (wanted_none rfl) (exec_move rfl rfl) ?_
        simp only [Act.put, List.setIfInBounds_toArray, List.set_cons_zero, List.set_cons_succ]
        refine wpList_run (v := .bool true) (wanted_none rfl) (gx_not rfl rfl rfl) ?_
        simp only [Act.put, List.setIfInBounds_toArray, List.set_cons_zero, List.set_cons_succ]
        go_upto_region 9 with fail
        refine wp_region_lit ?_
        refine wpList_run (v := .pointer (some ⟨x, 0, none⟩)) (wanted_none rfl) (exec_move rfl rfl) ?_
        simp only [Act.put, List.setIfInBounds_toArray, List.set_cons_zero, List.set_cons_succ]
        refine wpList_run (v := .pointer (some ⟨x, 0, none⟩)) (wanted_none rfl) (exec_nil rfl rfl) ?_
        simp only [Act.put, List.setIfInBounds_toArray, List.set_cons_zero, List.set_cons_succ]
        refine wpList_run (v := .pointer (some ⟨x, 2, none⟩)) (wanted_none rfl) (exec_field (off := 0) (d := 2) rfl rfl (by kernel_rfl)) ?_
        simp only [Act.put, List.setIfInBounds_toArray, List.set_cons_zero, List.set_cons_succ]
        refine wpList_run (v := .int .i64 (cn : Int)) (wanted_none rfl) (exec_load1 rfl rfl (by kernel_rfl) (HB9.out.cell 2)) ?_
        simp only [Act.put, List.setIfInBounds_toArray, List.set_cons_zero, List.set_cons_succ]
        refine wpList_run (v := .int .i64 ((cn + 1 : Nat) : Int)) (wanted_none rfl) (ix_add rfl rfl rfl (by omega) (by omega)) ?_
        simp only [Act.put, List.setIfInBounds_toArray, List.set_cons_zero, List.set_cons_succ]
        refine wpList_run (v := .pointer (some ⟨x, 0, none⟩)) (wanted_none rfl) (exec_nil rfl rfl) ?_
        simp only [Act.put, List.setIfInBounds_toArray, List.set_cons_zero, List.set_cons_succ]
        refine wpList_run (v := .pointer (some ⟨x, 2, none⟩)) (wanted_none rfl) (exec_field (off := 0) (d := 2) rfl rfl (by kernel_rfl)) ?_
        simp only [Act.put, List.setIfInBounds_toArray, List.set_cons_zero, List.set_cons_succ]
        refine wpList_storeU 2 (.int .i64 ((cn + 1 : Nat) : Int)) (wanted_none rfl) 3 _ _ rfl HB9.out rfl rfl (by show 2 < 4; omega) ⟨rfl, rfl⟩ (by kernel_rfl) ?_
        intro w10 hb10 ht10
        simp only [Act.put, List.setIfInBounds_toArray, List.set_cons_zero, List.set_cons_succ]
        have HX10 := Lib.hid (HX9.out.st ht10 (HX9.out.in_.off HB9.out))
        have HB10 := Lib.hid (show Blk w10 x 58 #[.int .i64 (M : Int), .pointer (some ⟨g8, 0, none⟩), .int .i64 ((cn + 1 : Nat) : Int), .int .i64 (ch : Int)] from hb10)
        clear hb10 ht10
        go_upto_region 10 with fail
        refine wp_region_lit ?_
        refine wpList_run (v := .pointer (some ⟨x, 0, none⟩)) (wanted_none rfl) (exec_move rfl rfl) ?_
        simp only [Act.put, List.setIfInBounds_toArray, List.set_cons_zero, List.set_cons_succ]
        refine wpList_run (v := .pointer (some ⟨x, 0, none⟩)) (wanted_none rfl) (exec_nil rfl rfl) ?_
        simp only [Act.put, List.setIfInBounds_toArray, List.set_cons_zero, List.set_cons_succ]
        refine wpList_run (v := .pointer (some ⟨x, 3, none⟩)) (wanted_none rfl) (exec_field (off := 0) (d := 3) rfl rfl (by kernel_rfl)) ?_
        simp only [Act.put, List.setIfInBounds_toArray, List.set_cons_zero, List.set_cons_succ]
        refine wpList_run (v := .int .i64 (ch : Int)) (wanted_none rfl) (exec_load1 rfl rfl (by kernel_rfl) (HB10.out.cell 3)) ?_
        simp only [Act.put, List.setIfInBounds_toArray, List.set_cons_zero, List.set_cons_succ]
        refine wpList_run (v := .int .i64 ((ch + 1 : Nat) : Int)) (wanted_none rfl) (ix_add rfl rfl rfl (by omega) (by omega)) ?_
        simp only [Act.put, List.setIfInBounds_toArray, List.set_cons_zero, List.set_cons_succ]
        refine wpList_run (v := .pointer (some ⟨x, 0, none⟩)) (wanted_none rfl) (exec_nil rfl rfl) ?_
        simp only [Act.put, List.setIfInBounds_toArray, List.set_cons_zero, List.set_cons_succ]
        refine wpList_run (v := .pointer (some ⟨x, 3, none⟩)) (wanted_none rfl) (exec_field (off := 0) (d := 3) rfl rfl (by kernel_rfl)) ?_
        simp only [Act.put, List.setIfInBounds_toArray, List.set_cons_zero, List.set_cons_succ]
        refine wpList_storeU 3 (.int .i64 ((ch + 1 : Nat) : Int)) (wanted_none rfl) 3 _ _ rfl HB10.out rfl rfl (by show 3 < 4; omega) ⟨rfl, rfl⟩ (by kernel_rfl) ?_
        intro w11 hb11 ht11
        simp only [Act.put, List.setIfInBounds_toArray, List.set_cons_zero, List.set_cons_succ]
        have HX11 := Lib.hid (HX10.out.st ht11 (HX10.out.in_.off HB10.out))
        have HB11 := Lib.hid (show Blk w11 x 58 #[.int .i64 (M : Int), .pointer (some ⟨g8, 0, none⟩), .int .i64 ((cn + 1 : Nat) : Int), .int .i64 ((ch + 1 : Nat) : Int)] from hb11)
        clear hb11 ht11
        go_upto_region 11 with fail
        refine wp_region_lit ?_
        refine wpList_run (v := .int .i64 0) (wanted_none rfl) (exec_move rfl rfl) ?_
        simp only [Act.put, List.setIfInBounds_toArray, List.set_cons_zero, List.set_cons_succ]
        refine wpList_run (v := .bool false) (wanted_none rfl) (exec_move rfl rfl) ?_
        simp only [Act.put, List.setIfInBounds_toArray, List.set_cons_zero, List.set_cons_succ]
        refine wpList_run (v := .int .i64 0) (wanted_none rfl) (gx_assign rfl rfl) ?_
        simp only [Act.put, List.setIfInBounds_toArray, List.set_cons_zero, List.set_cons_succ]
        refine wpList_run (v := .bool false) (wanted_none rfl) (gx_assign rfl rfl) ?_
        simp only [Act.put, List.setIfInBounds_toArray, List.set_cons_zero, List.set_cons_succ]
        go_wp2_with fail
        go_ret2
        rw [HRET.out]
        exact ⟨rfl, HX11.out.idx ⟨HX11.out.in_, HO.out, ⟨.pointer (some ⟨g8, 0, none⟩), ch + 1, by rw [HLE.out]; exact HB11.out, by have := HCN.out; omega, HTOP.out⟩, by rw [HLE.out]; have := HCN.out; have := HCE.out; omega, by have := HCN.out; omega⟩⟩
    · refine alw_take (i := 12) (v := .bool false) rfl (by kernel_rfl) (by kernel_rfl) (fun _ _ _ h => h) (.inl ⟨by rfl, fun W hW => ix_gtr rfl rfl rfl (decide_eq_false (by omega))⟩) hS0 ?_
      simp only [Act.put, List.setIfInBounds_toArray, List.set_cons_zero, List.set_cons_succ]
      refine alw_done rfl ?_
      refine NoPanic.normal ?_
      try simp only [Act.put, List.setIfInBounds_toArray, List.set_cons_zero, List.set_cons_succ]
      have HOV := Lib.hid hov
      clear hS0 hov
      obtain ⟨w9, hw3⟩ : ∃ q, q = w2.drew := ⟨_, rfl⟩
      rw [← hw3] at HX3 HB3 HXA ⊢
      clear hw3 HD
      have HX9 := HX3
      have HB9 := HB3
      have HTOP := Lib.hid (show Top H2 M (.pointer (some ⟨p, 0, none⟩)) (lput k v l) from .inr ⟨d, p, T, F2, rfl, HXA.out.tr, HXA.out.nd, HTN.out.mono HTP.out (by have := HN2.out; have := HOV.out; omega), by rw [HTF.out]; exact lput_srt HSL.out, HTF.out⟩)
      cases hg : tget k t with
      | some u =>
        have HRET := Lib.hid (show retV (lget k l) = .tuple #[.int .i64 u, .bool true] from by rw [← HTG.out, hg]; rfl)
        have HLE := Lib.hid (show (lput k v l).length = cn from by rw [HLN.out, ← HTG.out, hg, HCE.out]; rfl)
        clear hg
        go_upto_region 8 with fail
        refine wp_region_lit ?_
        refine wpList_run (v := .bool true) (wanted_none rfl) (exec_move rfl rfl) ?_
        simp only [Act.put, List.setIfInBounds_toArray, List.set_cons_zero, List.set_cons_succ]
        refine wpList_run (v := .bool false) (wanted_none rfl) (gx_not rfl rfl rfl) ?_
        simp only [Act.put, List.setIfInBounds_toArray, List.set_cons_zero, List.set_cons_succ]
        go_upto_region 11 with fail
        refine wp_region_lit ?_
        refine wpList_run (v := .int .i64 u) (wanted_none rfl) (exec_move rfl rfl) ?_
        simp only [Act.put, List.setIfInBounds_toArray, List.set_cons_zero, List.set_cons_succ]
        refine wpList_run (v := .bool true) (wanted_none rfl) (exec_move rfl rfl) ?_
        simp only [Act.put, List.setIfInBounds_toArray, List.set_cons_zero, List.set_cons_succ]
        refine wpList_run (v := .int .i64 u) (wanted_none rfl) (gx_assign rfl rfl) ?_
        simp only [Act.put, List.setIfInBounds_toArray, List.set_cons_zero, List.set_cons_succ]
        refine wpList_run (v := .bool true) (wanted_none rfl) (gx_assign rfl rfl) ?_
        simp only [Act.put, List.setIfInBounds_toArray, List.set_cons_zero, List.set_cons_succ]
        go_wp2_with fail
        go_ret2
        rw [HRET.out]
        exact ⟨rfl, HX9.out.idx ⟨HX9.out.in_, HO.out, ⟨.pointer (some ⟨p, 0, none⟩), ch, by rw [HLE.out]; exact HB9.out, by have := HCN.out; omega, HTOP.out⟩, by rw [HLE.out]; have := HCN.out; have := HCE.out; omega, by have := HCN.out; omega⟩⟩
      | none =>
        have HRET := Lib.hid (show retV (lget k l) = .tuple #[.int .i64 0, .bool false] from by rw [← HTG.out, hg]; rfl)
        have HLE := Lib.hid (show (lput k v l).length = cn + 1 from by rw [HLN.out, ← HTG.out, hg, HCE.out]; rfl)
        clear hg
        go_upto_region 8 with fail
        refine wp_region_lit ?_
        refine wpList_run (v := .bool false) (wanted_none rfl) (exec_move rfl rfl) ?_
        simp only [Act.put, List.setIfInBounds_toArray, List.set_cons_zero, List.set_cons_succ]
        refine wpList_run (v := .bool true) (wanted_none rfl) (gx_not rfl rfl rfl) ?_
        simp only [Act.put, List.setIfInBounds_toArray, List.set_cons_zero, List.set_cons_succ]
        go_upto_region 9 with fail
        refine wp_region_lit ?_
        refine wpList_run (v := .pointer (some ⟨x, 0, none⟩)) (wanted_none rfl) (exec_move rfl rfl) ?_
        simp only [Act.put, List.setIfInBounds_toArray, List.set_cons_zero, List.set_cons_succ]
        refine wpList_run (v := .pointer (some ⟨x, 0, none⟩)) (wanted_none rfl) (exec_nil rfl rfl) ?_
        simp only [Act.put, List.setIfInBounds_toArray, List.set_cons_zero, List.set_cons_succ]
        refine wpList_run (v := .pointer (some ⟨x, 2, none⟩)) (wanted_none rfl) (exec_field (off := 0) (d := 2) rfl rfl (by kernel_rfl)) ?_
        simp only [Act.put, List.setIfInBounds_toArray, List.set_cons_zero, List.set_cons_succ]
        refine wpList_run (v := .int .i64 (cn : Int)) (wanted_none rfl) (exec_load1 rfl rfl (by kernel_rfl) (HB9.out.cell 2)) ?_
        simp only [Act.put, List.setIfInBounds_toArray, List.set_cons_zero, List.set_cons_succ]
        refine wpList_run (v := .int .i64 ((cn + 1 : Nat) : Int)) (wanted_none rfl) (ix_add rfl rfl rfl (by omega) (by omega)) ?_
        simp only [Act.put, List.setIfInBounds_toArray, List.set_cons_zero, List.set_cons_succ]
        refine wpList_run (v := .pointer (some ⟨x, 0, none⟩)) (wanted_none rfl) (exec_nil rfl rfl) ?_
        simp only [Act.put, List.setIfInBounds_toArray, List.set_cons_zero, List.set_cons_succ]
        refine wpList_run (v := .pointer (some ⟨x, 2, none⟩)) (wanted_none rfl) (exec_field (off := 0) (d := 2) rfl rfl (by kernel_rfl)) ?_
        simp only [Act.put, List.setIfInBounds_toArray, List.set_cons_zero, List.set_cons_succ]
        refine wpList_storeU 2 (.int .i64 ((cn + 1 : Nat) : Int)) (wanted_none rfl) 3 _ _ rfl HB9.out rfl rfl (by show 2 < 4; omega) ⟨rfl, rfl⟩ (by kernel_rfl) ?_
        intro w10 hb10 ht10
        simp only [Act.put, List.setIfInBounds_toArray, List.set_cons_zero, List.set_cons_succ]
        have HX10 := Lib.hid (HX9.out.st ht10 (HX9.out.in_.off HB9.out))
        have HB10 := Lib.hid (show Blk w10 x 58 #[.int .i64 (M : Int), .pointer (some ⟨p, 0, none⟩), .int .i64 ((cn + 1 : Nat) : Int), .int .i64 (ch : Int)] from hb10)
        clear hb10 ht10
        go_upto_region 10 with fail
        refine wp_region_lit ?_
        refine wpList_run (v := .pointer (some ⟨x, 0, none⟩)) (wanted_none rfl) (exec_move rfl rfl) ?_
        simp only [Act.put, List.setIfInBounds_toArray, List.set_cons_zero, List.set_cons_succ]
        refine wpList_run (v := .pointer (some ⟨x, 0, none⟩)) (wanted_none rfl) (exec_nil rfl rfl) ?_
        simp only [Act.put, List.setIfInBounds_toArray, List.set_cons_zero, List.set_cons_succ]
        refine wpList_run (v := .pointer (some ⟨x, 3, none⟩)) (wanted_none rfl) (exec_field (off := 0) (d := 3) rfl rfl (by kernel_rfl)) ?_
        simp only [Act.put, List.setIfInBounds_toArray, List.set_cons_zero, List.set_cons_succ]
        refine wpList_run (v := .int .i64 (ch : Int)) (wanted_none rfl) (exec_load1 rfl rfl (by kernel_rfl) (HB10.out.cell 3)) ?_
        simp only [Act.put, List.setIfInBounds_toArray, List.set_cons_zero, List.set_cons_succ]
        refine wpList_run (v := .int .i64 ((ch + 1 : Nat) : Int)) (wanted_none rfl) (ix_add rfl rfl rfl (by omega) (by omega)) ?_
        simp only [Act.put, List.setIfInBounds_toArray, List.set_cons_zero, List.set_cons_succ]
        refine wpList_run (v := .pointer (some ⟨x, 0, none⟩)) (wanted_none rfl) (exec_nil rfl rfl) ?_
        simp only [Act.put, List.setIfInBounds_toArray, List.set_cons_zero, List.set_cons_succ]
        refine wpList_run (v := .pointer (some ⟨x, 3, none⟩)) (wanted_none rfl) (exec_field (off := 0) (d := 3) rfl rfl (by kernel_rfl)) ?_
        simp only [Act.put, List.setIfInBounds_toArray, List.set_cons_zero, List.set_cons_succ]
        refine wpList_storeU 3 (.int .i64 ((ch + 1 : Nat) : Int)) (wanted_none rfl) 3 _ _ rfl HB10.out rfl rfl (by show 3 < 4; omega) ⟨rfl, rfl⟩ (by kernel_rfl) ?_
        intro w11 hb11 ht11
        simp only [Act.put, List.setIfInBounds_toArray, List.set_cons_zero, List.set_cons_succ]
        have HX11 := Lib.hid (HX10.out.st ht11 (HX10.out.in_.off HB10.out))
        have HB11 := Lib.hid (show Blk w11 x 58 #[.int .i64 (M : Int), .pointer (some ⟨p, 0, none⟩), .int .i64 ((cn + 1 : Nat) : Int), .int .i64 ((ch + 1 : Nat) : Int)] from hb11)
        clear hb11 ht11
        go_upto_region 11 with fail
        refine wp_region_lit ?_
        refine wpList_run (v := .int .i64 0) (wanted_none rfl) (exec_move rfl rfl) ?_
        simp only [Act.put, List.setIfInBounds_toArray, List.set_cons_zero, List.set_cons_succ]
        refine wpList_run (v := .bool false) (wanted_none rfl) (exec_move rfl rfl) ?_
        simp only [Act.put, List.setIfInBounds_toArray, List.set_cons_zero, List.set_cons_succ]
        refine wpList_run (v := .int .i64 0) (wanted_none rfl) (gx_assign rfl rfl) ?_
        simp only [Act.put, List.setIfInBounds_toArray, List.set_cons_zero, List.set_cons_succ]
        refine wpList_run (v := .bool false) (wanted_none rfl) (gx_assign rfl rfl) ?_
        simp only [Act.put, List.setIfInBounds_toArray, List.set_cons_zero, List.set_cons_succ]
        go_wp2_with fail
        go_ret2
        rw [HRET.out]
        exact ⟨rfl, HX11.out.idx ⟨HX11.out.in_, HO.out, ⟨.pointer (some ⟨p, 0, none⟩), ch + 1, by rw [HLE.out]; exact HB11.out, by have := HCN.out; omega, HTOP.out⟩, by rw [HLE.out]; have := HCN.out; have := HCE.out; omega, by have := HCN.out; omega⟩⟩
end Go.Proofs.Ytmlkdkbpbleilaa
