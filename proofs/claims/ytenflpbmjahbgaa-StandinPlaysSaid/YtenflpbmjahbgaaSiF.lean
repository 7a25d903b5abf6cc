/-
  standin's laws: what they share. No conditions.
-/
import Derived.Test.YtenflpbmjahbgaaSiE
import Derived.Test.YtenflpbmjahbgaaRwo
import Derived.ProofKit
import Derived.OpenShut
import Derived.SizedLaws
import Derived.Shelf.SlMaps.Clone
import Derived.WalkSpells
import Derived.Lib.SliceRun
namespace Go.Proofs.Ytenflpbmjahbgaa
open Go.RowKit Go.Maps Go.ChangeShapes Go.WideShapes Go.Deep
open Si (Card Lims)
set_option linter.unusedVariables false
set_option linter.unusedSimpArgs false
set_option maxRecDepth 20000
theorem kind_walk (n : Int) (w : World) (hn : -9223372036854775808 ≤ n ∧ n ≤ 9223372036854775807) : Calls Try.prog 11 #[.int .i64 n] w fun e w' => ∃ m : Nat, e = .returned (.int .i64 (m : Int)) ∧ m < 8 ∧ w' = w := by
  by_cases h0 : n < 0
  · have h1 : ¬ (n + 1 > 9223372036854775807) := by omega
    go_enter Try.func11, Try.ntmps11
    go_wp2
    go_ret
    have h2 : 0 ≤ Int.tmod (-(n + 1)) 8 := Int.tmod_nonneg _ (by omega)
    have h3 : Int.tmod (-(n + 1)) 8 < 8 := Int.tmod_lt_of_pos _ (by omega)
    exact ⟨(Int.tmod (-(n + 1)) 8).toNat, by rw [Int.toNat_of_nonneg h2, Int.neg_tmod]; rfl, by omega, rfl⟩
  · go_enter Try.func11, Try.ntmps11
    go_wp2
    go_ret
    exact ⟨(n % 8).toNat, by rw [Int.toNat_of_nonneg (by omega)]; rfl, by omega, rfl⟩
theorem ptr_eqn {a : Act} {o : Oper} {W : World} {x y : Operand} {t u : TypeId} {p : Addr} (ht : t = 25 ∨ t = 31) (ho : o.op = .binOp .eql t x y u) (hx : a.eval x = .pointer (some p)) (hy : a.eval y = .pointer none) : (execOp a.eval o).run Try.prog W = .ok (.value (.bool false)) W := by
  rcases ht with rfl | rfl
  all_goals (
    unfold execOp
    simp only [ho, hx, hy]
    go_simp)
theorem ptr_eqt {a : Act} {o : Oper} {W : World} {x y : Operand} {t u : TypeId} (ht : t = 25 ∨ t = 31) (ho : o.op = .binOp .eql t x y u) (hx : a.eval x = .pointer none) (hy : a.eval y = .pointer none) : (execOp a.eval o).run Try.prog W = .ok (.value (.bool true)) W := by
  rcases ht with rfl | rfl
  all_goals (
    unfold execOp
    simp only [ho, hx, hy]
    go_simp)
/-- Ask, its answer known -/
theorem Ask_at {w : World} {a b n : Nat} {l : Lims} {h : Card → Int} (d : Desk w a b l n h) (hn : n ≤ 1000000) {mm x E : Int} {pan : List UInt8} {H : Card → Int} (hc : (Lit.int .i64 mm).wf = true ∧ pan.length ≤ 281474976710656) (hE : Si.askE l h (mm, pan) x = E) (hH : Si.askH l h (mm, pan) x = H) :
    Calls Try.prog 14 #[.pointer (some ⟨a, 0, none⟩), .int .i64 mm, strV pan, .int .i64 x] w fun e w' => e = .returned (.int .i64 E) ∧ Desk w' a b l (n + 1) H ∧ Turn (only b) w w' := by
  subst hE hH
  exact Ask_walk d hn hc
theorem Had_at {w : World} {a b n : Nat} {l : Lims} {h : Card → Int} (d : Desk w a b l n h) {mm x : Int} {pan : List UInt8} (hc : (Lit.int .i64 mm).wf = true ∧ pan.length ≤ 281474976710656) (hE : h (mm, pan) = x) :
    Calls Try.prog 16 #[.pointer (some ⟨a, 0, none⟩), .int .i64 mm, strV pan] w fun e w' => e = .returned (.int .i64 x) ∧ w' = w := by
  subst hE
  exact Had_walk d ⟨(mm, pan), hc⟩
theorem rHad_at {w : World} {y n : Nat} {l : Lims} {h : Card → Int} (d : RDesk w y l n h) (hn : n ≤ 1000000) {mm x : Int} {pan : List UInt8} (hE : h (mm, pan) = x) :
    Calls Try.prog 17 #[.pointer (some ⟨y, 0, none⟩), .int .i64 mm, strV pan] w fun e w' => e = .returned (.int .i64 x) ∧ w' = w := by
  subst hE
  exact rHad_walk d hn (mm, pan)
theorem New_ok {w : World} {A : Option Addr} {n c : Nat} {l : Lims} (hr : Rws w 2 A n (l.map limC)) (hcc : A = none → c = 0) (hn : n ≤ 140737488355328) (h0 : Si.newE l = 0) :
    Calls Try.prog 7 #[.slice A n c] w fun e w' => ∃ a b, e = .returned (.tuple #[.pointer (some ⟨a, 0, none⟩), .int .i64 0]) ∧ Desk w' a b l 0 (fun _ => 0) ∧ w.heap.size ≤ a ∧ w.heap.size ≤ b ∧ Turn nowhere w w' :=
  (New_walk hr hcc hn).mono fun e w' h => by
    rcases h with ⟨h, _⟩ | ⟨_, p, he, ⟨a, b, rfl, h1, h2, h3, h4⟩, _⟩
    · exact absurd h0 h
    · exact ⟨a, b, he, h1, h2, h3, h4⟩
theorem New_no {w : World} {A : Option Addr} {n c : Nat} {l : Lims} (hr : Rws w 2 A n (l.map limC)) (hcc : A = none → c = 0) (hn : n ≤ 140737488355328) (h0 : Si.newE l ≠ 0) :
    Calls Try.prog 7 #[.slice A n c] w fun e w' => e = .returned (.tuple #[.pointer none, .int .i64 (Si.newE l)]) ∧ Turn nowhere w w' :=
  (New_walk hr hcc hn).mono fun e w' h => by
    rcases h with ⟨_, h⟩ | ⟨h, _⟩
    · exact h
    · exact absurd h h0
theorem build_st (x y : Int) (W : World) : (Instr.build 30 #[(0, .int .i64 x), (1, .int .i64 y)]).run Try.prog W = .ok (.agg #[.int .i64 x, .int .i64 y]) W := by kernel_rfl
theorem exec_bst {a : Act} {o : Oper} {x y : Int} {W : World} (ho : o.op = .build 30 #[(0, .const (.int .i64 x)), (1, .const (.int .i64 y))]) : (execOp a.eval o).run Try.prog W = .ok (.value (.agg #[.int .i64 x, .int .i64 y])) W := gx_build2 ho rfl rfl (build_st x y W)
/-- a row of one -/
theorem one_row (s : Int × Int) (w : World) : Rws (w.alloc (.cells (limC s).toArray 30)) 2 (some ⟨w.heap.size, 0, none⟩) 1 ([s].map limC) := rws_one rfl fun _ => trivial
def L0 : Lims := [(100, 150)]
def c4 : Card := (0, [52])
def z0 : Card → Int := fun _ => 0
def z1 : Card → Int := Si.put z0 c4 100
def z2 : Card → Int := Si.put z1 c4 150
theorem wf0 : (Lit.int .i64 0).wf = true ∧ ([52] : List UInt8).length ≤ 281474976710656 := ⟨by decide, by decide⟩
theorem wf5 : (Lit.int .i64 0).wf = true ∧ ([53] : List UInt8).length ≤ 281474976710656 := ⟨by decide, by decide⟩
theorem wf6 : (Lit.int .i64 1).wf = true ∧ ([53] : List UInt8).length ≤ 281474976710656 := ⟨by decide, by decide⟩
theorem sh_a : Si.askE L0 z0 (0, [52]) 100 = 0 := by decide
theorem sh_a' : Si.askH L0 z0 (0, [52]) 100 = z1 := by unfold Si.askH; rw [sh_a, if_pos rfl]; rfl
theorem sh_b : Si.askE L0 z1 (0, [52]) 60 = 150 := by decide
theorem sh_b' : Si.askH L0 z1 (0, [52]) 60 = z1 := by unfold Si.askH; rw [sh_b, if_neg (by decide)]
theorem sh_c : Si.askE L0 z1 (0, [52]) 50 = 0 := by decide
theorem sh_c' : Si.askH L0 z1 (0, [52]) 50 = z2 := by unfold Si.askH; rw [sh_c, if_pos rfl]; rfl
theorem sh_f : Si.askE L0 z2 (0, [53]) 101 = 150 := by decide
theorem sh_f' : Si.askH L0 z2 (0, [53]) 101 = z2 := by unfold Si.askH; rw [sh_f, if_neg (by decide)]
theorem sh_g : Si.askE L0 z2 (1, [53]) 1 = 130 := by decide
theorem sh_g' : Si.askH L0 z2 (1, [53]) 1 = z2 := by unfold Si.askH; rw [sh_g, if_neg (by decide)]
set_option maxRecDepth 20000 in
set_option maxHeartbeats 4000000 in
theorem shown_walk (w : World) : Calls Try.prog 6 #[] w fun e w' => e = .returned (.bool true) ∧ Turn nowhere w w' := by
  go_enter Try.func6, Try.ntmps6
  go_upto_region 0 with fail
  refine wp_region_lit ?_
  refine wpList_run (v := .bool false) (wanted_none rfl) (gx_assign rfl rfl) ?_
  simp only [Act.put, List.setIfInBounds_toArray, List.set_cons_zero, List.set_cons_succ]
  go_upto_region 1 with fail
  refine wp_region_lit ?_
  refine wpList_run (v := .agg #[.int .i64 100, .int .i64 150]) (wanted_none rfl) (exec_bst rfl) ?_
  simp only [Act.put, List.setIfInBounds_toArray, List.set_cons_zero, List.set_cons_succ]
  refine wpList_run (v := .slice (some ⟨w.heap.size, 0, none⟩) 1 1) (w' := w.alloc (.cells (limC (100, 150)).toArray 30)) (wanted_none rfl) (exec_buildSlice1 rfl rfl (build_one elmS (limC (100, 150)) rfl (by decide) _ rfl _)) ?_
  simp only [Act.put, List.setIfInBounds_toArray, List.set_cons_zero, List.set_cons_succ]
  have hr1 := one_row (100, 150) w
  have ht1 := (Turn.refl nowhere w).alloc (.cells (limC (100, 150)).toArray 30)
  generalize w.alloc (.cells (limC (100, 150)).toArray 30) = w1 at *
  have HR1 := Lib.hid hr1
  have HT1 := Lib.hid ht1
  clear hr1 ht1
  refine wpList_op (wanted_none rfl) fun K9 HK9 => ?_
  go_wp2_with fail
  refine (New_ok (l := L0) (c := 1) HR1.out (fun h => by cases h) (by decide) (by decide)).mono ?_
  rintro e w2 ⟨a, b, rfl, hd, hla, hlb, ht⟩
  refine HK9.out _ _ ?_
  clear HK9
  try simp only [Act.put, List.setIfInBounds_toArray, List.set_cons_zero, List.set_cons_succ]
  have HD2 := Lib.hid hd
  have HLB := Lib.hid (show w.heap.size ≤ b from Nat.le_trans HT1.out.size hlb)
  have HT2 := Lib.hid (HT1.out.trans ht fun _ _ e => e)
  clear hd hla hlb ht
  refine wpList_run (v := .tuple #[.pointer (some ⟨a, 0, none⟩), .int .i64 0]) (wanted_none rfl) (exec_move rfl rfl) ?_
  simp only [Act.put, List.setIfInBounds_toArray, List.set_cons_zero, List.set_cons_succ]
  refine wpList_run (v := .pointer (some ⟨a, 0, none⟩)) (wanted_none rfl) (ix_extract rfl rfl rfl) ?_
  simp only [Act.put, List.setIfInBounds_toArray, List.set_cons_zero, List.set_cons_succ]
  refine wpList_run (v := .int .i64 0) (wanted_none rfl) (ix_extract rfl rfl rfl) ?_
  simp only [Act.put, List.setIfInBounds_toArray, List.set_cons_zero, List.set_cons_succ]
  refine wpList_run (v := .pointer (some ⟨a, 0, none⟩)) (wanted_none rfl) (gx_assign rfl rfl) ?_
  simp only [Act.put, List.setIfInBounds_toArray, List.set_cons_zero, List.set_cons_succ]
  refine wpList_run (v := .int .i64 0) (wanted_none rfl) (gx_assign rfl rfl) ?_
  simp only [Act.put, List.setIfInBounds_toArray, List.set_cons_zero, List.set_cons_succ]
  go_upto_region 2 with fail
  refine wp_region_lit ?_
  refine wpList_run (v := .pointer (some ⟨a, 0, none⟩)) (wanted_none rfl) (exec_move rfl rfl) ?_
  simp only [Act.put, List.setIfInBounds_toArray, List.set_cons_zero, List.set_cons_succ]
  refine wpList_run (v := .bool false) (wanted_none rfl) (ptr_eqn (.inl rfl) rfl rfl rfl) ?_
  simp only [Act.put, List.setIfInBounds_toArray, List.set_cons_zero, List.set_cons_succ]
  refine wpList_run (v := .bool false) (wanted_none rfl) (exec_move rfl rfl) ?_
  simp only [Act.put, List.setIfInBounds_toArray, List.set_cons_zero, List.set_cons_succ]
  refine wpList_run (v := .int .i64 0) rfl (exec_move rfl rfl) ?_
  simp only [Act.put, List.setIfInBounds_toArray, List.set_cons_zero, List.set_cons_succ]
  refine wpList_run (v := .bool false) rfl (ix_neq rfl rfl rfl (by decide)) ?_
  simp only [Act.put, List.setIfInBounds_toArray, List.set_cons_zero, List.set_cons_succ]
  refine wpList_run (v := .bool false) (wanted_none rfl) (ix_pickF rfl rfl rfl) ?_
  simp only [Act.put, List.setIfInBounds_toArray, List.set_cons_zero, List.set_cons_succ]
  go_upto_region 4 with fail
  refine wp_region_lit ?_
  refine wpList_run (v := .pointer (some ⟨a, 0, none⟩)) (wanted_none rfl) (exec_move rfl rfl) ?_
  simp only [Act.put, List.setIfInBounds_toArray, List.set_cons_zero, List.set_cons_succ]
  refine wpList_op (wanted_none rfl) fun K9 HK9 => ?_
  go_wp2_with fail
  refine (Ask_at HD2.out (by decide) wf0 sh_a sh_a').mono ?_
  rintro e w3 ⟨rfl, hd, ht⟩
  refine HK9.out _ _ ?_
  clear HK9
  try simp only [Act.put, List.setIfInBounds_toArray, List.set_cons_zero, List.set_cons_succ]
  have HD3 := Lib.hid hd
  have HT3 := Lib.hid (HT2.out.newer HLB.out ht)
  clear hd ht
  refine wpList_run (v := .int .i64 0) (wanted_none rfl) (gx_assign rfl rfl) ?_
  simp only [Act.put, List.setIfInBounds_toArray, List.set_cons_zero, List.set_cons_succ]
  go_upto_region 5 with fail
  refine wp_region_lit ?_
  refine wpList_run (v := .pointer (some ⟨a, 0, none⟩)) (wanted_none rfl) (exec_move rfl rfl) ?_
  simp only [Act.put, List.setIfInBounds_toArray, List.set_cons_zero, List.set_cons_succ]
  refine wpList_op (wanted_none rfl) fun K9 HK9 => ?_
  go_wp2_with fail
  refine (Ask_at HD3.out (by decide) wf0 sh_b sh_b').mono ?_
  rintro e w4 ⟨rfl, hd, ht⟩
  refine HK9.out _ _ ?_
  clear HK9
  try simp only [Act.put, List.setIfInBounds_toArray, List.set_cons_zero, List.set_cons_succ]
  have HD4 := Lib.hid hd
  have HT4 := Lib.hid (HT3.out.newer HLB.out ht)
  clear hd ht
  refine wpList_run (v := .int .i64 150) (wanted_none rfl) (gx_assign rfl rfl) ?_
  simp only [Act.put, List.setIfInBounds_toArray, List.set_cons_zero, List.set_cons_succ]
  go_upto_region 6 with fail
  refine wp_region_lit ?_
  refine wpList_run (v := .pointer (some ⟨a, 0, none⟩)) (wanted_none rfl) (exec_move rfl rfl) ?_
  simp only [Act.put, List.setIfInBounds_toArray, List.set_cons_zero, List.set_cons_succ]
  refine wpList_op (wanted_none rfl) fun K9 HK9 => ?_
  go_wp2_with fail
  refine (Ask_at HD4.out (by decide) wf0 sh_c sh_c').mono ?_
  rintro e w5 ⟨rfl, hd, ht⟩
  refine HK9.out _ _ ?_
  clear HK9
  try simp only [Act.put, List.setIfInBounds_toArray, List.set_cons_zero, List.set_cons_succ]
  have HD5 := Lib.hid hd
  have HT5 := Lib.hid (HT4.out.newer HLB.out ht)
  clear hd ht
  refine wpList_run (v := .int .i64 0) (wanted_none rfl) (gx_assign rfl rfl) ?_
  simp only [Act.put, List.setIfInBounds_toArray, List.set_cons_zero, List.set_cons_succ]
  go_upto_region 7 with fail
  refine wp_region_lit ?_
  refine wpList_run (v := .pointer (some ⟨a, 0, none⟩)) (wanted_none rfl) (exec_move rfl rfl) ?_
  simp only [Act.put, List.setIfInBounds_toArray, List.set_cons_zero, List.set_cons_succ]
  refine wpList_op (wanted_none rfl) fun K9 HK9 => ?_
  go_wp2_with fail
  refine (Had_at HD5.out wf0 (show z2 (0, [52]) = 150 from by decide)).mono ?_
  rintro e w5 ⟨rfl, rfl⟩
  refine HK9.out _ _ ?_
  clear HK9
  try simp only [Act.put, List.setIfInBounds_toArray, List.set_cons_zero, List.set_cons_succ]
  refine wpList_run (v := .int .i64 150) (wanted_none rfl) (gx_assign rfl rfl) ?_
  simp only [Act.put, List.setIfInBounds_toArray, List.set_cons_zero, List.set_cons_succ]
  go_upto_region 8 with fail
  refine wp_region_lit ?_
  refine wpList_run (v := .pointer (some ⟨a, 0, none⟩)) (wanted_none rfl) (exec_move rfl rfl) ?_
  simp only [Act.put, List.setIfInBounds_toArray, List.set_cons_zero, List.set_cons_succ]
  refine wpList_op (wanted_none rfl) fun K9 HK9 => ?_
  go_wp2_with fail
  refine (Ask_at HD5.out (by decide) wf5 sh_f sh_f').mono ?_
  rintro e w6 ⟨rfl, hd, ht⟩
  refine HK9.out _ _ ?_
  clear HK9
  try simp only [Act.put, List.setIfInBounds_toArray, List.set_cons_zero, List.set_cons_succ]
  have HD6 := Lib.hid hd
  have HT6 := Lib.hid (HT5.out.newer HLB.out ht)
  clear hd ht
  refine wpList_run (v := .int .i64 150) (wanted_none rfl) (gx_assign rfl rfl) ?_
  simp only [Act.put, List.setIfInBounds_toArray, List.set_cons_zero, List.set_cons_succ]
  go_upto_region 9 with fail
  refine wp_region_lit ?_
  refine wpList_run (v := .pointer (some ⟨a, 0, none⟩)) (wanted_none rfl) (exec_move rfl rfl) ?_
  simp only [Act.put, List.setIfInBounds_toArray, List.set_cons_zero, List.set_cons_succ]
  refine wpList_op (wanted_none rfl) fun K9 HK9 => ?_
  go_wp2_with fail
  refine (Ask_at HD6.out (by decide) wf6 sh_g sh_g').mono ?_
  rintro e w7 ⟨rfl, hd, ht⟩
  refine HK9.out _ _ ?_
  clear HK9
  try simp only [Act.put, List.setIfInBounds_toArray, List.set_cons_zero, List.set_cons_succ]
  have HD7 := Lib.hid hd
  have HT7 := Lib.hid (HT6.out.newer HLB.out ht)
  clear hd ht
  refine wpList_run (v := .int .i64 130) (wanted_none rfl) (gx_assign rfl rfl) ?_
  simp only [Act.put, List.setIfInBounds_toArray, List.set_cons_zero, List.set_cons_succ]
  go_upto_region 10 with fail
  refine wp_region_lit ?_
  refine wpList_run (v := .pointer (some ⟨a, 0, none⟩)) (wanted_none rfl) (exec_move rfl rfl) ?_
  simp only [Act.put, List.setIfInBounds_toArray, List.set_cons_zero, List.set_cons_succ]
  refine wpList_op (wanted_none rfl) fun K9 HK9 => ?_
  go_wp2_with fail
  refine (Reset_walk HD7.out).mono ?_
  rintro e w8 ⟨rfl, hd, ht⟩
  refine HK9.out _ _ ?_
  clear HK9
  try simp only [Act.put, List.setIfInBounds_toArray, List.set_cons_zero, List.set_cons_succ]
  have HD8 := Lib.hid hd
  have HT8 := Lib.hid (HT7.out.newer HLB.out ht)
  clear hd ht
  go_upto_region 11 with fail
  refine wp_region_lit ?_
  refine wpList_run (v := .int .i64 0) (wanted_none rfl) (exec_move rfl rfl) ?_
  simp only [Act.put, List.setIfInBounds_toArray, List.set_cons_zero, List.set_cons_succ]
  refine wpList_run (v := .bool true) (wanted_none rfl) (ix_eql rfl rfl rfl (by decide)) ?_
  simp only [Act.put, List.setIfInBounds_toArray, List.set_cons_zero, List.set_cons_succ]
  refine wpList_run (v := .bool true) (wanted_none rfl) (exec_move rfl rfl) ?_
  simp only [Act.put, List.setIfInBounds_toArray, List.set_cons_zero, List.set_cons_succ]
  refine wpList_run (v := .int .i64 150) rfl (exec_move rfl rfl) ?_
  simp only [Act.put, List.setIfInBounds_toArray, List.set_cons_zero, List.set_cons_succ]
  refine wpList_run (v := .bool true) rfl (ix_eql rfl rfl rfl (by decide)) ?_
  simp only [Act.put, List.setIfInBounds_toArray, List.set_cons_zero, List.set_cons_succ]
  refine wpList_run (v := .bool true) (wanted_none rfl) (ix_pickT rfl rfl rfl) ?_
  simp only [Act.put, List.setIfInBounds_toArray, List.set_cons_zero, List.set_cons_succ]
  refine wpList_run (v := .bool true) (wanted_none rfl) (exec_move rfl rfl) ?_
  simp only [Act.put, List.setIfInBounds_toArray, List.set_cons_zero, List.set_cons_succ]
  refine wpList_run (v := .int .i64 0) rfl (exec_move rfl rfl) ?_
  simp only [Act.put, List.setIfInBounds_toArray, List.set_cons_zero, List.set_cons_succ]
  refine wpList_run (v := .bool true) rfl (ix_eql rfl rfl rfl (by decide)) ?_
  simp only [Act.put, List.setIfInBounds_toArray, List.set_cons_zero, List.set_cons_succ]
  refine wpList_run (v := .bool true) (wanted_none rfl) (ix_pickT rfl rfl rfl) ?_
  simp only [Act.put, List.setIfInBounds_toArray, List.set_cons_zero, List.set_cons_succ]
  refine wpList_run (v := .bool true) (wanted_none rfl) (exec_move rfl rfl) ?_
  simp only [Act.put, List.setIfInBounds_toArray, List.set_cons_zero, List.set_cons_succ]
  refine wpList_run (v := .int .i64 150) rfl (exec_move rfl rfl) ?_
  simp only [Act.put, List.setIfInBounds_toArray, List.set_cons_zero, List.set_cons_succ]
  refine wpList_run (v := .bool true) rfl (ix_eql rfl rfl rfl (by decide)) ?_
  simp only [Act.put, List.setIfInBounds_toArray, List.set_cons_zero, List.set_cons_succ]
  refine wpList_run (v := .bool true) (wanted_none rfl) (ix_pickT rfl rfl rfl) ?_
  simp only [Act.put, List.setIfInBounds_toArray, List.set_cons_zero, List.set_cons_succ]
  refine wpList_run (v := .bool true) (wanted_none rfl) (exec_move rfl rfl) ?_
  simp only [Act.put, List.setIfInBounds_toArray, List.set_cons_zero, List.set_cons_succ]
  refine wpList_run (v := .int .i64 150) rfl (exec_move rfl rfl) ?_
  simp only [Act.put, List.setIfInBounds_toArray, List.set_cons_zero, List.set_cons_succ]
  refine wpList_run (v := .bool true) rfl (ix_eql rfl rfl rfl (by decide)) ?_
  simp only [Act.put, List.setIfInBounds_toArray, List.set_cons_zero, List.set_cons_succ]
  refine wpList_run (v := .bool true) (wanted_none rfl) (ix_pickT rfl rfl rfl) ?_
  simp only [Act.put, List.setIfInBounds_toArray, List.set_cons_zero, List.set_cons_succ]
  refine wpList_run (v := .bool true) (wanted_none rfl) (exec_move rfl rfl) ?_
  simp only [Act.put, List.setIfInBounds_toArray, List.set_cons_zero, List.set_cons_succ]
  refine wpList_run (v := .int .i64 130) rfl (exec_move rfl rfl) ?_
  simp only [Act.put, List.setIfInBounds_toArray, List.set_cons_zero, List.set_cons_succ]
  refine wpList_run (v := .bool true) rfl (ix_eql rfl rfl rfl (by decide)) ?_
  simp only [Act.put, List.setIfInBounds_toArray, List.set_cons_zero, List.set_cons_succ]
  refine wpList_run (v := .bool true) (wanted_none rfl) (ix_pickT rfl rfl rfl) ?_
  simp only [Act.put, List.setIfInBounds_toArray, List.set_cons_zero, List.set_cons_succ]
  refine wpList_run (v := .bool true) (wanted_none rfl) (exec_move rfl rfl) ?_
  simp only [Act.put, List.setIfInBounds_toArray, List.set_cons_zero, List.set_cons_succ]
  refine wpList_run (v := .pointer (some ⟨a, 0, none⟩)) rfl (exec_move rfl rfl) ?_
  simp only [Act.put, List.setIfInBounds_toArray, List.set_cons_zero, List.set_cons_succ]
  refine wpList_op (by go_simp) fun K9 HK9 => ?_
  go_wp2_with fail
  refine (Had_at HD8.out wf0 rfl).mono ?_
  rintro e w8 ⟨rfl, rfl⟩
  refine HK9.out _ _ ?_
  clear HK9
  try simp only [Act.put, List.setIfInBounds_toArray, List.set_cons_zero, List.set_cons_succ]
  refine wpList_run (v := .bool true) rfl (ix_eql rfl rfl rfl (by decide)) ?_
  simp only [Act.put, List.setIfInBounds_toArray, List.set_cons_zero, List.set_cons_succ]
  refine wpList_run (v := .bool true) (wanted_none rfl) (ix_pickT rfl rfl rfl) ?_
  simp only [Act.put, List.setIfInBounds_toArray, List.set_cons_zero, List.set_cons_succ]
  refine wpList_run (v := .bool true) (wanted_none rfl) (gx_assign rfl rfl) ?_
  simp only [Act.put, List.setIfInBounds_toArray, List.set_cons_zero, List.set_cons_succ]
  go_wp2_with fail
  go_ret
  exact ⟨rfl, HT8.out⟩
/-- a call of the laws -/
structure SOp where
  kind : Int
  mem : Int
  amt : Int
  pan : List UInt8
def SOp.cells (o : SOp) : List Value := [.int .i64 o.kind, .int .i64 o.mem, .int .i64 o.amt, strV o.pan]
def i64r (x : Int) : Prop := -9223372036854775808 ≤ x ∧ x ≤ 9223372036854775807
def SOp.okay (o : SOp) : Prop := i64r o.kind ∧ (i64r o.mem ∧ i64r o.amt) ∧ ((Lit.int .i64 o.mem).wf = true ∧ o.pan.length ≤ 281474976710656)
theorem size_sop : (Try.prog.info? 37).map (·.size) = some 4 := by kernel_rfl
theorem zero_sop (w : World) : (zeroValue 37).run Try.prog w = .ok (.agg #[.int .i64 0, .int .i64 0, .int .i64 0, .string ByteArray.empty]) w := by kernel_rfl
theorem sop_one (o : SOp) : ∀ v ∈ o.cells.toArray.toList, v.oneCell' = true := fun v hv => by
  simp only [SOp.cells, List.mem_cons, List.not_mem_nil, or_false] at hv
  rcases hv with rfl | rfl | rfl | rfl <;> rfl
theorem i64_of {x : Int} (h : (Lit.int .i64 x).wf = true) : i64r x := i64_in h
structure OpAt (w : World) (A : Option Addr) (n : Nat) (os : List SOp) : Prop where
  row : Rws w 4 A n (os.map SOp.cells)
  ok : ∀ o ∈ os, o.okay
theorem OpAt.still {w w' : World} {A : Option Addr} {n : Nat} {os : List SOp} (h : OpAt w A n os) (ht : Turn nowhere w w') : OpAt w' A n os := ⟨h.row.still ht, h.ok⟩
theorem OpAt.len {w : World} {A : Option Addr} {n : Nat} {os : List SOp} (h : OpAt w A n os) : os.length = n := by
  have := h.row.1
  rwa [List.length_map] at this
theorem OpAt.rng {w : World} {A : Option Addr} {n : Nat} {os : List SOp} (h : OpAt w A n os) {i : Nat} {o : SOp} (ho : os[i]? = some o) : ∃ b off, A = some ⟨b, off, none⟩ ∧ w.rangeAt b (off + i * 4) o.cells := by
  obtain ⟨b, off, hA, hc⟩ := h.row.at_ (i := i) (r := o.cells) (by rw [List.getElem?_map, ho]; rfl)
  exact ⟨b, off, hA, fun j v hv => hc j v hv⟩
section
variable {H : Type} {enc : TypeId × Value → H} {w : World} {base : Nat} {spare : Nat → Bool} {held : Bool}
set_option maxRecDepth 20000 in
theorem sops_of {fuel : Nat} {v : Value} {x : DataW H × List MemPlace} (h : DataW.trod enc Try.prog w base spare held fuel 23 [v] = some x) (hw : ∀ q ∈ x.1.weights Try.prog 23, q ≤ reachBytes) :
    ∃ (A : Option Addr) (n c : Nat) (os : List SOp), v = .slice A n c ∧ OpAt w A n os := by
  obtain ⟨A, n, c, os, h1, h2, _, _, _, h3, _⟩ := open_rwsW (by_ := 40) Try.underlying23 (k := 4) (by kernel_rfl) (by decide) (by kernel_rfl) (by decide) SOp.cells SOp.okay ⟨0, 0, 0, []⟩ (fun _ => rfl) (fun n cs y hy hwy => by
    obtain ⟨hl, m, hf⟩ := open_fldsW Try.underlying37 (by kernel_rfl) (by kernel_rfl) hy
    obtain ⟨c0, z0, e0, t0, _⟩ := hf 0 _ rfl
    obtain ⟨c1, z1, e1, t1, _⟩ := hf 1 _ rfl
    obtain ⟨c2, z2, e2, t2, _⟩ := hf 2 _ rfl
    obtain ⟨c3, z3, e3, t3, q3⟩ := hf 3 _ rfl
    obtain ⟨x0, g0, _, w0⟩ := DataW.trod_int Try.underlying3 t0
    obtain ⟨x1, g1, _, w1⟩ := DataW.trod_int Try.underlying3 t1
    obtain ⟨x2, g2, _, w2⟩ := DataW.trod_int Try.underlying3 t2
    obtain ⟨s3, g3, rfl, w3⟩ := DataW.trod_string Try.underlying9 t3
    injection g0 with g0
    injection g1 with g1
    injection g2 with g2
    injection g3 with g3
    subst g0 g1 g2 g3
    have hr := reachBytes_lt
    have l3 : s3.data.toList.length ≤ reachBytes := hwy _ (q3 _ (List.mem_singleton.2 rfl))
    refine ⟨⟨x0, x1, x2, s3.data.toList⟩, ?_, i64_of w0, ⟨i64_of w1, i64_of w2⟩, w1, by show s3.data.toList.length ≤ _; omega⟩
    have hl4 : cs.length = 4 := hl
    match cs, hl4 with
    | [a, b, c, d], _ =>
      cases e0
      cases e1
      cases e2
      cases e3
      rfl) h hw
  exact ⟨A, n, c, os, h1, h2, h3⟩
theorem lims_of {fuel : Nat} {v : Value} {x : DataW H × List MemPlace} (h : DataW.trod enc Try.prog w base spare held fuel 22 [v] = some x) (hw : ∀ q ∈ x.1.weights Try.prog 22, q ≤ reachBytes) :
    ∃ (A : Option Addr) (n c : Nat) (l : Lims), v = .slice A n c ∧ Rws w 2 A n (l.map limC) ∧ n ≤ c ∧ (A = none → c = 0) ∧ n * 16 ≤ 140737488355328 := by
  obtain ⟨A, n, c, os, h1, h2, h4, h5, h6, _, _⟩ := open_rws (by_ := 16) Try.underlying22 (k := 2) (by kernel_rfl) (by decide) (by kernel_rfl) (by decide) limC (fun _ => True) (0, 0) (fun _ => rfl) (fun n cs y hy => by
    obtain ⟨hl, m, hf⟩ := open_flds Try.underlying30 (by kernel_rfl) (by kernel_rfl) hy
    obtain ⟨c0, z0, e0, t0⟩ := hf 0 _ rfl
    obtain ⟨c1, z1, e1, t1⟩ := hf 1 _ rfl
    obtain ⟨x0, g0, _, w0⟩ := DataW.trod_int Try.underlying3 t0
    obtain ⟨x1, g1, _, w1⟩ := DataW.trod_int Try.underlying3 t1
    injection g0 with g0
    injection g1 with g1
    subst g0 g1
    refine ⟨(x0, x1), ?_, trivial⟩
    have hl2 : cs.length = 2 := hl
    match cs, hl2 with
    | [a, b], _ =>
      cases e0
      cases e1
      rfl) h hw
  have hr := reachBytes_lt
  exact ⟨A, n, c, os, h1, h2, h4, h5, by omega⟩
end
/-- two desks, and two of the reference's, side by side, made behind w0 -/
structure Fo (w0 w : World) (x bx z bz y u : Nat) (l : Lims) (n : Nat) (hx hz : Card → Int) : Prop where
  dx : Desk w x bx l n hx
  dz : Desk w z bz l n hz
  ry : RDesk w y l n hx
  ru : RDesk w u l n hz
  ne : bx ≠ bz ∧ y ≠ u
  tn : Turn nowhere w0 w
  fr : w0.heap.size ≤ bx ∧ w0.heap.size ≤ bz ∧ w0.heap.size ≤ y ∧ w0.heap.size ≤ u
section
variable {w0 w w' w'' : World} {x bx z bz y u n m : Nat} {l : Lims} {hx hz h' : Card → Int}
theorem Fo.still (f : Fo w0 w x bx z bz y u l n hx hz) (ht : Turn nowhere w w') : Fo w0 w' x bx z bz y u l n hx hz :=
  ⟨f.dx.still ht, f.dz.still ht, f.ry.still ht, f.ru.still ht, f.ne, f.tn.trans ht fun _ _ e => e, f.fr⟩
theorem only_siw {b : Nat} (h : Siw w b) : ∀ k, k < w.heap.size → only b k → Siw w k := fun k _ e => by rw [show k = b from e]; exact h
theorem Fo.mid (f : Fo w0 w x bx z bz y u l n hx hz) (t : Turn (only bx) w w') : RDesk w' y l n hx := f.ry.turn t (only_siw f.dx.siw) fun e => f.dx.ne f.ry e.symm
theorem Fo.step (f : Fo w0 w x bx z bz y u l n hx hz) (d : Desk w' x bx l m h') (t : Turn (only bx) w w') (r : RDesk w'' y l m h') (t' : Turn (only y) w' w'') (hm : n ≤ m) : Fo w0 w'' x bx z bz y u l m h' hz := by
  have hs := only_siw (f.mid t).siw
  have hr1 := f.ru.turn t (only_siw f.dx.siw) fun e => f.dx.ne f.ru e.symm
  have hz1 := f.dz.turn t (only_siw f.dx.siw) fun e => f.ne.1 e.symm
  exact ⟨d.turn t' hs fun e => f.dx.ne f.ry e, (hz1.turn t' hs fun e => f.dz.ne f.ry e).mono hm, r, (hr1.turn t' hs fun e => f.ne.2 e.symm).mono hm, f.ne, (f.tn.newer f.fr.1 t).newer f.fr.2.2.1 t', f.fr⟩
theorem Fo.clone {p q : Value} (f : Fo w0 w x bx z bz y u l n hx hz) (d : MadeD w l n hx p w') (r : MadeR w' l n hx q w'') : ∃ a b c, p = .pointer (some ⟨a, 0, none⟩) ∧ q = .pointer (some ⟨c, 0, none⟩) ∧ Fo w0 w'' a b x bx c y l n hx hx := by
  obtain ⟨a, b, rfl, h1, h2, h3, h4⟩ := d
  obtain ⟨c, rfl, g1, g2, g3⟩ := r
  have s1 := f.tn.size
  have s2 := h4.size
  have l1 := f.dx.lt
  have l2 := f.ry.lt
  exact ⟨a, b, c, rfl, rfl, h1.still g3, (f.dx.still h4).still g3, g1, (f.ry.still h4).still g3, ⟨by omega, by omega⟩, (f.tn.trans h4 fun _ _ e => e).trans g3 fun _ _ e => e, by omega, f.fr.1, by omega, f.fr.2.2.1⟩
/-- the first four -/
theorem Fo.init {w1 w2 w3 : World} {x bx z bz y u : Nat} {h : Card → Int} (hw : Turn nowhere w0 w1) (hb : w0.heap.size ≤ bx) (hy : w0.heap.size ≤ y) (d : Desk w1 x bx l n h) (r : RDesk w1 y l n h) (h2 : w1.heap.size ≤ bz) (t2 : Turn nowhere w1 w2) (d2 : Desk w2 z bz l n h) (h3 : w2.heap.size ≤ u) (t3 : Turn nowhere w2 w3) (r3 : RDesk w3 u l n h) : Fo w0 w3 x bx z bz y u l n h h := by
  have l1 := d.lt
  have l2 := r.lt
  have s0 := hw.size
  have s1 := t2.size
  exact ⟨(d.still t2).still t3, d2.still t3, (r.still t2).still t3, r3, ⟨by omega, by omega⟩, (hw.trans t2 fun _ _ e => e).trans t3 fun _ _ e => e, by omega, by omega, by omega, by omega⟩
end
end Go.Proofs.Ytenflpbmjahbgaa
