/-
  Several texts in one file, in their order:
  - Index: the law's examples (shown), and its small helpers. No conditions.
  - Index: the law's small helpers: among, kind, same. No conditions.
  - Index: what is dropped of a range, in plain data; a row beside an index. No conditions.
  - Arguments that are an array of two strings, or a slice of strings: opened and shut. No conditions.
  - Index: two ranges side by side are one, in plain data; [3]string as an argument. No conditions.
  - Slices of structs as arguments: each cell with its reading, and with the weights of what it holds. No conditions; it imports nothing of the program.
  - Index: the law's calls as an argument ([]Op), opened; two indices side by side. No conditions.
-/
import Derived.Test.YtmlkdkbpbleilaaJa3
import Derived.SliceStrings
import Derived.Test.YtmlkdkbpbleilaaJa0
namespace Go.Proofs.Ytmlkdkbpbleilaa
open Go.RowKit
open Ix
set_option linter.unusedVariables false
set_option linter.unusedSimpArgs false
/-- an index that was made behind w: w lies as it lay -/
def Fr (w : World) (x : Nat) (H : Hp) (w' : World) : Prop := Turn nowhere w w' ∧ ∀ b, own x H b → w.heap.size ≤ b
theorem Fr.new {w w' : World} {x : Nat} (h : Turn nowhere w w') (hx : w.heap.size ≤ x) : Fr w x (fun _ => none) w' := ⟨h, fun b hb => by
  rcases hb with rfl | ⟨p, nd, e, _⟩
  · exact hx
  · cases e⟩
theorem Fr.to {w w1 w2 : World} {x : Nat} {H H' : Hp} (h : Fr w x H w1) (ht : Turn (own x H) w1 w2) (hf : ∀ b, own x H' b → own x H b ∨ w1.heap.size ≤ b) : Fr w x H' w2 :=
  ⟨h.1.trans ht fun k hk e => by have := h.2 k e; omega, fun b hb => (hf b hb).elim (h.2 b) fun e => Nat.le_trans h.1.size e⟩
theorem Fr.still {w w1 w2 : World} {x : Nat} {H : Hp} (h : Fr w x H w1) (ht : Turn nowhere w1 w2) : Fr w x H w2 := ⟨h.1.trans ht fun _ _ e => e, h.2⟩
theorem ixp_some {a : Act} {o : Oper} {W : World} {x y : Operand} {t u : TypeId} {p : Addr} (ho : o.op = .binOp .eql t x y u) (hx : a.eval x = .pointer (some p)) (hy : a.eval y = .pointer none) (ht : t = 24) : (execOp a.eval o).run Try.prog W = .ok (.value (.bool false)) W := by
  subst ht
  unfold execOp
  simp only [ho, hx, hy]
  go_simp
theorem ixp_nil {a : Act} {o : Oper} {W : World} {x y : Operand} {t u : TypeId} (ho : o.op = .binOp .eql t x y u) (hx : a.eval x = .pointer none) (hy : a.eval y = .pointer none) (ht : t = 24) : (execOp a.eval o).run Try.prog W = .ok (.value (.bool true)) W := by
  subst ht
  unfold execOp
  simp only [ho, hx, hy]
  go_simp
theorem depth_le {M : Nat} {l : List Pr} {n : Nat} (h : DepthOf M l n) : (n = 0 ∧ l = []) ∨ ∃ (d : Nat) (t : Tr d), n = d + 1 ∧ flat t = l ∧ 2 * (M / 2 + 1) ^ d ≤ l.length + 1 ∧ (d = 0 → l.length ≤ M) := by
  rcases h with h | ⟨d, t, h1, h2, h3⟩
  · exact .inl h
  · refine .inr ⟨d, t, h1, h3, ?_, fun hd => ?_⟩
    · have := flat_ge h2
      rw [h3] at this
      exact this
    · subst hd
      have := h2.2
      rw [← h3]
      exact this
theorem depth_one {l : List Pr} {n : Nat} (h : DepthOf 2 l n) (hl : l.length = 2) : n = 1 := by
  rcases depth_le h with ⟨_, h2⟩ | ⟨d, t, rfl, h2, h3, _⟩
  · rw [h2] at hl; cases hl
  · cases d with
    | zero => rfl
    | succ d =>
      have h4 : 1 ≤ 2 ^ d := Nat.one_le_two_pow
      have h5 : (2 / 2 + 1) ^ (d + 1) = 2 ^ d * 2 := Nat.pow_succ ..
      rw [h5, hl] at h3
      omega
theorem depth_two {l : List Pr} {n : Nat} (h : DepthOf 2 l n) (hl : l.length = 3) : n = 2 := by
  rcases depth_le h with ⟨_, h2⟩ | ⟨d, t, rfl, h2, h3, h6⟩
  · rw [h2] at hl; cases hl
  · rcases d with _ | _ | d
    · have := h6 rfl
      omega
    · rfl
    · have h4 : 1 ≤ 2 ^ d := Nat.one_le_two_pow
      have h5 : (2 / 2 + 1) ^ (d + 1 + 1) = 2 ^ d * 2 * 2 := by rw [Nat.pow_succ, Nat.pow_succ]
      rw [h5, hl] at h3
      omega
set_option maxRecDepth 20000 in
set_option maxHeartbeats 4000000 in
theorem shown_walk {w : World} : Calls Try.prog 7 #[] w fun e w' => e = .returned (.bool true) ∧ Turn nowhere w w' := by
  have HN := Lib.hid (show Calls Try.prog 8 #[.int .i64 2] w _ from new_walk (w := w) (M := 2) (by decide) (by decide))
  go_enter Try.func7, Try.ntmps7
  go_upto_region 0 with fail
  refine wp_region_lit ?_
  refine wpList_run (v := .bool false) (wanted_none rfl) (gx_assign rfl rfl) ?_
  simp only [Act.put, List.setIfInBounds_toArray, List.set_cons_zero, List.set_cons_succ]
  go_upto_region 1 with fail
  refine wp_region_lit ?_
  refine wpList_op rfl fun K9 HK9 => ?_
  go_wp2_with fail
  refine (HN.out).mono ?_
  rintro e w1 ⟨x, rfl, hx, ht1, hi1⟩
  refine HK9.out _ _ ?_
  clear HK9
  try simp only [Act.put, List.setIfInBounds_toArray, List.set_cons_zero, List.set_cons_succ]
  have HR1 := Lib.hid (Fr.new ht1 hx)
  have HI1 := Lib.hid hi1
  clear hx ht1 hi1
  refine wpList_run (v := .tuple #[.pointer (some ⟨x, 0, none⟩), .int .i64 0]) (wanted_none rfl) (exec_move rfl rfl) ?_
  simp only [Act.put, List.setIfInBounds_toArray, List.set_cons_zero, List.set_cons_succ]
  refine wpList_run (v := .pointer (some ⟨x, 0, none⟩)) (wanted_none rfl) (ix_extract rfl rfl rfl) ?_
  simp only [Act.put, List.setIfInBounds_toArray, List.set_cons_zero, List.set_cons_succ]
  refine wpList_run (v := .int .i64 0) (wanted_none rfl) (ix_extract rfl rfl rfl) ?_
  simp only [Act.put, List.setIfInBounds_toArray, List.set_cons_zero, List.set_cons_succ]
  refine wpList_run (v := .pointer (some ⟨x, 0, none⟩)) (wanted_none rfl) (gx_assign rfl rfl) ?_
  simp only [Act.put, List.setIfInBounds_toArray, List.set_cons_zero, List.set_cons_succ]
  refine wpList_run (v := .int .i64 0) (wanted_none rfl) (gx_assign rfl rfl) ?_
  simp only [Act.put, List.setIfInBounds_toArray, List.set_cons_zero, List.set_cons_succ]
  go_upto_region 2 with fail
  refine wp_region_lit ?_
  refine wpList_op rfl fun K9 HK9 => ?_
  go_wp2_with fail
  refine ((new_bad (w := w1) (M := 1) (.inl (by decide)))).mono ?_
  rintro e w2 ⟨rfl, hw2⟩
  refine HK9.out _ _ ?_
  clear HK9
  try simp only [Act.put, List.setIfInBounds_toArray, List.set_cons_zero, List.set_cons_succ]
  subst hw2
  refine wpList_run (v := .tuple #[.pointer none, .int .i64 80]) (wanted_none rfl) (exec_move rfl rfl) ?_
  simp only [Act.put, List.setIfInBounds_toArray, List.set_cons_zero, List.set_cons_succ]
  refine wpList_run (v := .pointer none) (wanted_none rfl) (ix_extract rfl rfl rfl) ?_
  simp only [Act.put, List.setIfInBounds_toArray, List.set_cons_zero, List.set_cons_succ]
  refine wpList_run (v := .int .i64 80) (wanted_none rfl) (ix_extract rfl rfl rfl) ?_
  simp only [Act.put, List.setIfInBounds_toArray, List.set_cons_zero, List.set_cons_succ]
  refine wpList_run (v := .pointer none) (wanted_none rfl) (gx_assign rfl rfl) ?_
  simp only [Act.put, List.setIfInBounds_toArray, List.set_cons_zero, List.set_cons_succ]
  refine wpList_run (v := .int .i64 80) (wanted_none rfl) (gx_assign rfl rfl) ?_
  simp only [Act.put, List.setIfInBounds_toArray, List.set_cons_zero, List.set_cons_succ]
  go_upto_region 3 with fail
  refine wp_region_lit ?_
  refine wpList_run (v := .pointer (some ⟨x, 0, none⟩)) (wanted_none rfl) (exec_move rfl rfl) ?_
  simp only [Act.put, List.setIfInBounds_toArray, List.set_cons_zero, List.set_cons_succ]
  refine wpList_run (v := .bool false) (wanted_none rfl) (ixp_some rfl rfl rfl rfl) ?_
  simp only [Act.put, List.setIfInBounds_toArray, List.set_cons_zero, List.set_cons_succ]
  refine wpList_run (v := .bool false) (wanted_none rfl) (exec_move rfl rfl) ?_
  simp only [Act.put, List.setIfInBounds_toArray, List.set_cons_zero, List.set_cons_succ]
  refine wpList_run (v := .int .i64 0) rfl (exec_move rfl rfl) ?_
  simp only [Act.put, List.setIfInBounds_toArray, List.set_cons_zero, List.set_cons_succ]
  refine wpList_run (v := .bool false) rfl (ix_neq rfl rfl rfl (by decide)) ?_
  simp only [Act.put, List.setIfInBounds_toArray, List.set_cons_zero, List.set_cons_succ]
  refine wpList_run (v := .bool false) (wanted_none rfl) (ix_pickF rfl rfl rfl) ?_
  simp only [Act.put, List.setIfInBounds_toArray, List.set_cons_zero, List.set_cons_succ]
  refine wpList_run (v := .bool false) (wanted_none rfl) (exec_move rfl rfl) ?_
  simp only [Act.put, List.setIfInBounds_toArray, List.set_cons_zero, List.set_cons_succ]
  refine wpList_run (v := .int .i64 80) rfl (exec_move rfl rfl) ?_
  simp only [Act.put, List.setIfInBounds_toArray, List.set_cons_zero, List.set_cons_succ]
  refine wpList_run (v := .bool false) rfl (ix_neq rfl rfl rfl (by decide)) ?_
  simp only [Act.put, List.setIfInBounds_toArray, List.set_cons_zero, List.set_cons_succ]
  refine wpList_run (v := .bool false) (wanted_none rfl) (ix_pickF rfl rfl rfl) ?_
  simp only [Act.put, List.setIfInBounds_toArray, List.set_cons_zero, List.set_cons_succ]
  go_upto_region 5 with fail
  refine wp_region_lit ?_
  refine wpList_run (v := .pointer (some ⟨x, 0, none⟩)) (wanted_none rfl) (exec_move rfl rfl) ?_
  simp only [Act.put, List.setIfInBounds_toArray, List.set_cons_zero, List.set_cons_succ]
  refine wpList_op rfl fun K9 HK9 => ?_
  go_wp2_with fail
  refine ((Put_walk (k := [98]) (v := 2) HI1.out (by decide) (by decide))).mono ?_
  rintro e w12 ⟨rfl, H2, hi2, ht2, hf2⟩
  refine HK9.out _ _ ?_
  clear HK9
  try simp only [Act.put, List.setIfInBounds_toArray, List.set_cons_zero, List.set_cons_succ]
  have HI2 := Lib.hid (show Idx w12 x H2 2 [([98], 2)] 1 from hi2)
  have HR2 := Lib.hid (HR1.out.to ht2 hf2)
  clear hi2 ht2 hf2
  go_upto_region 6 with fail
  refine wp_region_lit ?_
  refine wpList_run (v := .pointer (some ⟨x, 0, none⟩)) (wanted_none rfl) (exec_move rfl rfl) ?_
  simp only [Act.put, List.setIfInBounds_toArray, List.set_cons_zero, List.set_cons_succ]
  refine wpList_op rfl fun K9 HK9 => ?_
  go_wp2_with fail
  refine ((Put_walk (k := [97]) (v := 1) HI2.out (by decide) (by decide))).mono ?_
  rintro e w13 ⟨rfl, H3, hi3, ht3, hf3⟩
  refine HK9.out _ _ ?_
  clear HK9
  try simp only [Act.put, List.setIfInBounds_toArray, List.set_cons_zero, List.set_cons_succ]
  have HI3 := Lib.hid (show Idx w13 x H3 2 [([97], 1), ([98], 2)] 2 from hi3)
  have HR3 := Lib.hid (HR2.out.to ht3 hf3)
  clear hi3 ht3 hf3
  go_upto_region 7 with fail
  refine wp_region_lit ?_
  refine wpList_run (v := .pointer (some ⟨x, 0, none⟩)) (wanted_none rfl) (exec_move rfl rfl) ?_
  simp only [Act.put, List.setIfInBounds_toArray, List.set_cons_zero, List.set_cons_succ]
  refine wpList_op rfl fun K9 HK9 => ?_
  go_wp2_with fail
  refine ((Depth_walk HI3.out)).mono ?_
  rintro e wd ⟨⟨d, rfl, hd⟩, hwd⟩
  refine HK9.out _ _ ?_
  clear HK9
  try simp only [Act.put, List.setIfInBounds_toArray, List.set_cons_zero, List.set_cons_succ]
  replace hwd := hwd.symm
  subst hwd
  obtain rfl : d = 1 := depth_one hd rfl
  clear hd
  refine wpList_run (v := .int .i64 ((1 : Nat) : Int)) (wanted_none rfl) (gx_assign rfl rfl) ?_
  simp only [Act.put, List.setIfInBounds_toArray, List.set_cons_zero, List.set_cons_succ]
  go_upto_region 8 with fail
  refine wp_region_lit ?_
  refine wpList_run (v := .pointer (some ⟨x, 0, none⟩)) (wanted_none rfl) (exec_move rfl rfl) ?_
  simp only [Act.put, List.setIfInBounds_toArray, List.set_cons_zero, List.set_cons_succ]
  refine wpList_op rfl fun K9 HK9 => ?_
  go_wp2_with fail
  refine ((Put_walk (k := [99]) (v := 3) HI3.out (by decide) (by decide))).mono ?_
  rintro e w14 ⟨rfl, H4, hi4, ht4, hf4⟩
  refine HK9.out _ _ ?_
  clear HK9
  try simp only [Act.put, List.setIfInBounds_toArray, List.set_cons_zero, List.set_cons_succ]
  have HI4 := Lib.hid (show Idx w14 x H4 2 [([97], 1), ([98], 2), ([99], 3)] 3 from hi4)
  have HR4 := Lib.hid (HR3.out.to ht4 hf4)
  clear hi4 ht4 hf4
  refine wpList_run (v := .tuple #[.int .i64 0, .bool false]) (wanted_none rfl) (exec_move rfl rfl) ?_
  simp only [Act.put, List.setIfInBounds_toArray, List.set_cons_zero, List.set_cons_succ]
  refine wpList_run (v := .int .i64 0) (wanted_none rfl) (ix_extract rfl rfl rfl) ?_
  simp only [Act.put, List.setIfInBounds_toArray, List.set_cons_zero, List.set_cons_succ]
  refine wpList_run (v := .bool false) (wanted_none rfl) (ix_extract rfl rfl rfl) ?_
  simp only [Act.put, List.setIfInBounds_toArray, List.set_cons_zero, List.set_cons_succ]
  refine wpList_run (v := .int .i64 0) (wanted_none rfl) (gx_assign rfl rfl) ?_
  simp only [Act.put, List.setIfInBounds_toArray, List.set_cons_zero, List.set_cons_succ]
  refine wpList_run (v := .bool false) (wanted_none rfl) (gx_assign rfl rfl) ?_
  simp only [Act.put, List.setIfInBounds_toArray, List.set_cons_zero, List.set_cons_succ]
  go_upto_region 9 with fail
  refine wp_region_lit ?_
  refine wpList_run (v := .pointer (some ⟨x, 0, none⟩)) (wanted_none rfl) (exec_move rfl rfl) ?_
  simp only [Act.put, List.setIfInBounds_toArray, List.set_cons_zero, List.set_cons_succ]
  refine wpList_op rfl fun K9 HK9 => ?_
  go_wp2_with fail
  refine ((Put_walk (k := [98]) (v := 9) HI4.out (by decide) (by decide))).mono ?_
  rintro e w15 ⟨rfl, H5, hi5, ht5, hf5⟩
  refine HK9.out _ _ ?_
  clear HK9
  try simp only [Act.put, List.setIfInBounds_toArray, List.set_cons_zero, List.set_cons_succ]
  have HI5 := Lib.hid (show Idx w15 x H5 2 [([97], 1), ([98], 9), ([99], 3)] 4 from hi5)
  have HR5 := Lib.hid (HR4.out.to ht5 hf5)
  clear hi5 ht5 hf5
  refine wpList_run (v := .tuple #[.int .i64 2, .bool true]) (wanted_none rfl) (exec_move rfl rfl) ?_
  simp only [Act.put, List.setIfInBounds_toArray, List.set_cons_zero, List.set_cons_succ]
  refine wpList_run (v := .int .i64 2) (wanted_none rfl) (ix_extract rfl rfl rfl) ?_
  simp only [Act.put, List.setIfInBounds_toArray, List.set_cons_zero, List.set_cons_succ]
  refine wpList_run (v := .bool true) (wanted_none rfl) (ix_extract rfl rfl rfl) ?_
  simp only [Act.put, List.setIfInBounds_toArray, List.set_cons_zero, List.set_cons_succ]
  refine wpList_run (v := .int .i64 2) (wanted_none rfl) (gx_assign rfl rfl) ?_
  simp only [Act.put, List.setIfInBounds_toArray, List.set_cons_zero, List.set_cons_succ]
  refine wpList_run (v := .bool true) (wanted_none rfl) (gx_assign rfl rfl) ?_
  simp only [Act.put, List.setIfInBounds_toArray, List.set_cons_zero, List.set_cons_succ]
  go_upto_region 10 with fail
  refine wp_region_lit ?_
  refine wpList_run (v := .pointer (some ⟨x, 0, none⟩)) (wanted_none rfl) (exec_move rfl rfl) ?_
  simp only [Act.put, List.setIfInBounds_toArray, List.set_cons_zero, List.set_cons_succ]
  refine wpList_op rfl fun K9 HK9 => ?_
  go_wp2_with fail
  refine ((Get_walk (k := [98]) HI5.out)).mono ?_
  rintro e w20 ⟨rfl, ht20⟩
  refine HK9.out _ _ ?_
  clear HK9
  try simp only [Act.put, List.setIfInBounds_toArray, List.set_cons_zero, List.set_cons_succ]
  have HR6 := Lib.hid (HR5.out.still ht20)
  have HI6 := Lib.hid (HI5.out.still ht20)
  clear ht20
  refine wpList_run (v := .tuple #[.int .i64 9, .bool true]) (wanted_none rfl) (exec_move rfl rfl) ?_
  simp only [Act.put, List.setIfInBounds_toArray, List.set_cons_zero, List.set_cons_succ]
  refine wpList_run (v := .int .i64 9) (wanted_none rfl) (ix_extract rfl rfl rfl) ?_
  simp only [Act.put, List.setIfInBounds_toArray, List.set_cons_zero, List.set_cons_succ]
  refine wpList_run (v := .bool true) (wanted_none rfl) (ix_extract rfl rfl rfl) ?_
  simp only [Act.put, List.setIfInBounds_toArray, List.set_cons_zero, List.set_cons_succ]
  refine wpList_run (v := .int .i64 9) (wanted_none rfl) (gx_assign rfl rfl) ?_
  simp only [Act.put, List.setIfInBounds_toArray, List.set_cons_zero, List.set_cons_succ]
  refine wpList_run (v := .bool true) (wanted_none rfl) (gx_assign rfl rfl) ?_
  simp only [Act.put, List.setIfInBounds_toArray, List.set_cons_zero, List.set_cons_succ]
  go_upto_region 11 with fail
  refine wp_region_lit ?_
  refine wpList_run (v := .int .i64 ((1 : Nat) : Int)) (wanted_none rfl) (exec_move rfl rfl) ?_
  simp only [Act.put, List.setIfInBounds_toArray, List.set_cons_zero, List.set_cons_succ]
  refine wpList_run (v := .bool true) (wanted_none rfl) (ix_eql rfl rfl rfl rfl) ?_
  simp only [Act.put, List.setIfInBounds_toArray, List.set_cons_zero, List.set_cons_succ]
  refine wpList_run (v := .bool true) (wanted_none rfl) (exec_move rfl rfl) ?_
  simp only [Act.put, List.setIfInBounds_toArray, List.set_cons_zero, List.set_cons_succ]
  refine wpList_run (v := .pointer (some ⟨x, 0, none⟩)) rfl (exec_move rfl rfl) ?_
  simp only [Act.put, List.setIfInBounds_toArray, List.set_cons_zero, List.set_cons_succ]
  refine wpList_op (by go_simp) fun K9 HK9 => ?_
  go_wp2_with fail
  refine ((Depth_walk HI6.out)).mono ?_
  rintro e wd ⟨⟨d, rfl, hd⟩, hwd⟩
  refine HK9.out _ _ ?_
  clear HK9
  try simp only [Act.put, List.setIfInBounds_toArray, List.set_cons_zero, List.set_cons_succ]
  replace hwd := hwd.symm
  subst hwd
  obtain rfl : d = 2 := depth_two hd rfl
  clear hd
  refine wpList_run (v := .bool true) rfl (ix_eql rfl rfl rfl rfl) ?_
  simp only [Act.put, List.setIfInBounds_toArray, List.set_cons_zero, List.set_cons_succ]
  refine wpList_run (v := .bool true) (wanted_none rfl) (ix_pickT rfl rfl rfl) ?_
  simp only [Act.put, List.setIfInBounds_toArray, List.set_cons_zero, List.set_cons_succ]
  refine wpList_run (v := .bool true) (wanted_none rfl) (exec_move rfl rfl) ?_
  simp only [Act.put, List.setIfInBounds_toArray, List.set_cons_zero, List.set_cons_succ]
  refine wpList_run (v := .bool false) rfl (exec_move rfl rfl) ?_
  simp only [Act.put, List.setIfInBounds_toArray, List.set_cons_zero, List.set_cons_succ]
  refine wpList_run (v := .bool true) rfl (ix_not (b := false) rfl rfl) ?_
  simp only [Act.put, List.setIfInBounds_toArray, List.set_cons_zero, List.set_cons_succ]
  refine wpList_run (v := .bool true) (wanted_none rfl) (ix_pickT rfl rfl rfl) ?_
  simp only [Act.put, List.setIfInBounds_toArray, List.set_cons_zero, List.set_cons_succ]
  refine wpList_run (v := .bool true) (wanted_none rfl) (exec_move rfl rfl) ?_
  simp only [Act.put, List.setIfInBounds_toArray, List.set_cons_zero, List.set_cons_succ]
  refine wpList_run (v := .int .i64 2) rfl (exec_move rfl rfl) ?_
  simp only [Act.put, List.setIfInBounds_toArray, List.set_cons_zero, List.set_cons_succ]
  refine wpList_run (v := .bool true) rfl (ix_eql rfl rfl rfl (by decide)) ?_
  simp only [Act.put, List.setIfInBounds_toArray, List.set_cons_zero, List.set_cons_succ]
  refine wpList_run (v := .bool true) (wanted_none rfl) (ix_pickT rfl rfl rfl) ?_
  simp only [Act.put, List.setIfInBounds_toArray, List.set_cons_zero, List.set_cons_succ]
  refine wpList_run (v := .bool true) (wanted_none rfl) (exec_move rfl rfl) ?_
  simp only [Act.put, List.setIfInBounds_toArray, List.set_cons_zero, List.set_cons_succ]
  refine wpList_run (v := .bool true) rfl (exec_move rfl rfl) ?_
  simp only [Act.put, List.setIfInBounds_toArray, List.set_cons_zero, List.set_cons_succ]
  refine wpList_run (v := .bool true) (wanted_none rfl) (ix_pickT rfl rfl rfl) ?_
  simp only [Act.put, List.setIfInBounds_toArray, List.set_cons_zero, List.set_cons_succ]
  refine wpList_run (v := .bool true) (wanted_none rfl) (exec_move rfl rfl) ?_
  simp only [Act.put, List.setIfInBounds_toArray, List.set_cons_zero, List.set_cons_succ]
  refine wpList_run (v := .int .i64 9) rfl (exec_move rfl rfl) ?_
  simp only [Act.put, List.setIfInBounds_toArray, List.set_cons_zero, List.set_cons_succ]
  refine wpList_run (v := .bool true) rfl (ix_eql rfl rfl rfl (by decide)) ?_
  simp only [Act.put, List.setIfInBounds_toArray, List.set_cons_zero, List.set_cons_succ]
  refine wpList_run (v := .bool true) (wanted_none rfl) (ix_pickT rfl rfl rfl) ?_
  simp only [Act.put, List.setIfInBounds_toArray, List.set_cons_zero, List.set_cons_succ]
  refine wpList_run (v := .bool true) (wanted_none rfl) (exec_move rfl rfl) ?_
  simp only [Act.put, List.setIfInBounds_toArray, List.set_cons_zero, List.set_cons_succ]
  refine wpList_run (v := .bool true) rfl (exec_move rfl rfl) ?_
  simp only [Act.put, List.setIfInBounds_toArray, List.set_cons_zero, List.set_cons_succ]
  refine wpList_run (v := .bool true) (wanted_none rfl) (ix_pickT rfl rfl rfl) ?_
  simp only [Act.put, List.setIfInBounds_toArray, List.set_cons_zero, List.set_cons_succ]
  refine wpList_run (v := .bool true) (wanted_none rfl) (exec_move rfl rfl) ?_
  simp only [Act.put, List.setIfInBounds_toArray, List.set_cons_zero, List.set_cons_succ]
  refine wpList_run (v := .pointer (some ⟨x, 0, none⟩)) rfl (exec_move rfl rfl) ?_
  simp only [Act.put, List.setIfInBounds_toArray, List.set_cons_zero, List.set_cons_succ]
  refine wpList_op (by go_simp) fun K9 HK9 => ?_
  go_wp2_with fail
  refine ((Len_walk HI6.out)).mono ?_
  rintro e wd ⟨rfl, hwd⟩
  refine HK9.out _ _ ?_
  clear HK9
  try simp only [Act.put, List.setIfInBounds_toArray, List.set_cons_zero, List.set_cons_succ]
  replace hwd := hwd.symm
  subst hwd
  refine wpList_run (v := .bool true) rfl (ix_eql rfl rfl rfl rfl) ?_
  simp only [Act.put, List.setIfInBounds_toArray, List.set_cons_zero, List.set_cons_succ]
  refine wpList_run (v := .bool true) (wanted_none rfl) (ix_pickT rfl rfl rfl) ?_
  simp only [Act.put, List.setIfInBounds_toArray, List.set_cons_zero, List.set_cons_succ]
  refine wpList_run (v := .bool true) (wanted_none rfl) (gx_assign rfl rfl) ?_
  simp only [Act.put, List.setIfInBounds_toArray, List.set_cons_zero, List.set_cons_succ]
  go_wp2_with fail
  go_ret
  exact ⟨rfl, HR6.out.1⟩
end Go.Proofs.Ytmlkdkbpbleilaa

namespace Go.Proofs.Ytmlkdkbpbleilaa
open Go.RowKit
open Ix
set_option linter.unusedVariables false
set_option linter.unusedSimpArgs false
theorem size_ref : (Try.prog.info? 54).map (·.size) = some 2 := by kernel_rfl
theorem among_walk (c : Int) (n : Nat) (w : World) (hc : -9223372036854775808 ≤ c ∧ c ≤ 9223372036854775807) (h0 : 1 ≤ n) (h1 : n ≤ 1000) : Calls Try.prog 22 #[.int .i64 c, .int .i64 (n : Int)] w fun e w' => ∃ m : Nat, e = .returned (.int .i64 (m : Int)) ∧ m < n ∧ w = w' := by
  have hz : ¬ (n : Int) = 0 := by omega
  have hz2 : ((n : Int) == 0) = false := by simpa using hz
  have hm1 : ¬ (n : Int) = -1 := by omega
  by_cases h0 : c < 0
  · have h1 : ¬ (c + 1 > 9223372036854775807) := by omega
    go_enter Try.func22, Try.ntmps22
    go_wp2
    go_ret
    have h2 : 0 ≤ Int.tmod (-(c + 1)) n := Int.tmod_nonneg _ (by omega)
    have h3 : Int.tmod (-(c + 1)) n < n := Int.tmod_lt_of_pos _ (by omega)
    exact ⟨(Int.tmod (-(c + 1)) n).toNat, by rw [Int.toNat_of_nonneg h2, Int.neg_tmod]; rfl, by omega, rfl⟩
  · go_enter Try.func22, Try.ntmps22
    go_wp2
    go_ret
    have h2 : 0 ≤ c % n := Int.emod_nonneg _ (by omega)
    have h3 : c % n < n := Int.emod_lt_of_pos _ (by omega)
    exact ⟨(c % n).toNat, by rw [Int.toNat_of_nonneg h2]; rfl, by omega, rfl⟩
theorem kind_walk (n : Int) (w : World) (hn : -9223372036854775808 ≤ n ∧ n ≤ 9223372036854775807) : Calls Try.prog 9 #[.int .i64 n] w fun e w' => ∃ m : Nat, e = .returned (.int .i64 (m : Int)) ∧ m < 6 ∧ w = w' := by
  by_cases h0 : n < 0
  · have h1 : ¬ (n + 1 > 9223372036854775807) := by omega
    go_enter Try.func9, Try.ntmps9
    go_wp2
    go_ret
    have h2 : 0 ≤ Int.tmod (-(n + 1)) 6 := Int.tmod_nonneg _ (by omega)
    have h3 : Int.tmod (-(n + 1)) 6 < 6 := Int.tmod_lt_of_pos _ (by omega)
    exact ⟨(Int.tmod (-(n + 1)) 6).toNat, by rw [Int.toNat_of_nonneg h2, Int.neg_tmod]; rfl, by omega, rfl⟩
  · go_enter Try.func9, Try.ntmps9
    go_wp2
    go_ret
    exact ⟨(n % 6).toNat, by rw [Int.toNat_of_nonneg (by omega)]; rfl, by omega, rfl⟩
theorem refs_eq {a : Act} {o : Oper} {W : World} {x y : Operand} {u : TypeId} {t : TypeId} {p : Pr} (ho : o.op = .binOp .neq t x y u) (ht : t = 54) (hx : a.eval x = .agg (encP p).toArray) (hy : a.eval y = .agg (encP p).toArray) : (execOp a.eval o).run Try.prog W = .ok (.value (.bool false)) W := by
  subst ht
  unfold execOp
  simp only [ho, hx, hy, encP, strV]
  go_simp
set_option maxRecDepth 20000 in
set_option maxHeartbeats 2000000 in
theorem same_walk {w : World} {B C : Nat} {va vb : Value} {l : List Pr} (ha : Orw w B 54 2 va (l.map encP)) (hb : Orw w C 54 2 vb (l.map encP)) (hl : l.length ≤ 100000) :
    Calls Try.prog 17 #[va, vb] w fun e w' => e = .returned (.bool true) ∧ Turn nowhere w w' := by
  obtain ⟨A, cA, rfl, _⟩ := ha.form
  obtain ⟨A2, cB, rfl, _⟩ := hb.form
  rw [List.length_map] at *
  have HA := Lib.hid ha
  have HB := Lib.hid hb
  obtain ⟨n, hn⟩ : ∃ n, n = l.length := ⟨_, rfl⟩
  rw [← hn] at HA HB hl ⊢
  have HN := Lib.hid hn
  have y1 : (n : Int) ≤ 100000 := by omega
  clear ha hb hn hl
  go_enter Try.func17, Try.ntmps17
  go_upto_region 0 with fail
  refine wp_region_lit ?_
  refine wpList_run (v := .bool false) (wanted_none rfl) (gx_assign rfl rfl) ?_
  simp only [Act.put, List.setIfInBounds_toArray, List.set_cons_zero, List.set_cons_succ]
  go_upto_region 1 with fail
  refine wp_region_lit ?_
  refine wpList_run (v := .slice A n cA) (wanted_none rfl) (exec_move rfl rfl) ?_
  simp only [Act.put, List.setIfInBounds_toArray, List.set_cons_zero, List.set_cons_succ]
  refine wpList_run (v := .int .i64 (n : Int)) (wanted_none rfl) (gx_len rfl rfl Try.underlying29) ?_
  simp only [Act.put, List.setIfInBounds_toArray, List.set_cons_zero, List.set_cons_succ]
  refine wpList_run (v := .slice A2 n cB) (wanted_none rfl) (exec_move rfl rfl) ?_
  simp only [Act.put, List.setIfInBounds_toArray, List.set_cons_zero, List.set_cons_succ]
  refine wpList_run (v := .int .i64 (n : Int)) (wanted_none rfl) (gx_len rfl rfl Try.underlying29) ?_
  simp only [Act.put, List.setIfInBounds_toArray, List.set_cons_zero, List.set_cons_succ]
  refine wpList_run (v := .bool false) (wanted_none rfl) (ix_neq rfl rfl rfl (decide_eq_false (fun e => e rfl))) ?_
  simp only [Act.put, List.setIfInBounds_toArray, List.set_cons_zero, List.set_cons_succ]
  go_upto_region 3 with fail
  refine wp_region_lit ?_
  refine wpList_run (v := .int .i64 0) (wanted_none rfl) (gx_assign rfl rfl) ?_
  simp only [Act.put, List.setIfInBounds_toArray, List.set_cons_zero, List.set_cons_succ]
  go_wp2_with fail
  go_loopg [5] n (fun gk iv wr => ∃ i : Nat, iv = .int .i64 (i : Int) ∧ i + gk = n ∧ Turn nowhere w wr)
  case atStart => exact ⟨0, rfl, by omega, Turn.refl _ _⟩
  obtain ⟨i, rfl, hgk, htr⟩ := hrel
  have HGK := Lib.hid hgk
  have HTR := Lib.hid htr
  have y2 : (i : Int) ≤ (n : Int) := by omega
  clear hgk htr
  by_cases hlt : i < n
  · have HLT := Lib.hid hlt
    have y3 : (i : Int) < (n : Int) := by omega
    obtain ⟨p, hp⟩ : ∃ p, l[i]? = some p := ⟨_, List.getElem?_eq_getElem (by rw [← HN.out]; exact hlt)⟩
    obtain ⟨a1, c1, e1, _, _⟩ := HA.out.some_ (by rw [List.length_map, ← HN.out]; omega)
    injection e1 with e2 e3 e4
    subst e2
    obtain ⟨a2, c2, e1, _, _⟩ := HB.out.some_ (by rw [List.length_map, ← HN.out]; omega)
    injection e1 with e5 e6 e7
    subst e5
    have hS0 : wr.drew.rangeAt a1 (0 + i * 2) (encP p) ∧ wr.drew.rangeAt a2 (0 + i * 2) (encP p) := ⟨(HA.out.still HTR.out).el0 (by rw [List.getElem?_map, hp]; rfl), (HB.out.still HTR.out).el0 (by rw [List.getElem?_map, hp]; rfl)⟩
    clear hp e3 e4 e6 e7 hlt
    go_upto_region 4 with fail
    refine wp_region_lit ?_
    refine wpList_run (v := .int .i64 (i : Int)) (wanted_none rfl) (exec_move rfl rfl) ?_
    simp only [Act.put, List.setIfInBounds_toArray, List.set_cons_zero, List.set_cons_succ]
    refine wpList_run (v := .slice (some ⟨a1, 0, none⟩) n cA) (wanted_none rfl) (exec_move rfl rfl) ?_
    simp only [Act.put, List.setIfInBounds_toArray, List.set_cons_zero, List.set_cons_succ]
    refine wpList_run (v := .int .i64 (n : Int)) (wanted_none rfl) (gx_len rfl rfl Try.underlying29) ?_
    simp only [Act.put, List.setIfInBounds_toArray, List.set_cons_zero, List.set_cons_succ]
    refine wpList_run (v := .bool true) (wanted_none rfl) (ix_lss rfl rfl rfl (decide_eq_true y3)) ?_
    simp only [Act.put, List.setIfInBounds_toArray, List.set_cons_zero, List.set_cons_succ]
    go_upto_region 6 with fail
    refine wp_region_alw (fun W => W.rangeAt a1 (0 + i * 2) (encP p) ∧ W.rangeAt a2 (0 + i * 2) (encP p)) (by kernel_rfl) ?_
    refine alw_take (i := 0) (v := .slice (some ⟨a1, 0, none⟩) n cA) rfl (by kernel_rfl) (by kernel_rfl) (fun _ _ _ h => h) (.inl ⟨by rfl, fun W hW => exec_move rfl rfl⟩) hS0 ?_
    simp only [Act.put, List.setIfInBounds_toArray, List.set_cons_zero, List.set_cons_succ]
    refine alw_take (i := 1) (v := .int .i64 (i : Int)) rfl (by kernel_rfl) (by kernel_rfl) (fun _ _ _ h => h) (.inl ⟨by rfl, fun W hW => exec_move rfl rfl⟩) hS0 ?_
    simp only [Act.put, List.setIfInBounds_toArray, List.set_cons_zero, List.set_cons_succ]
    refine alw_take (i := 2) (v := .pointer (some ⟨a1, 0 + i * 2, none⟩)) rfl (by kernel_rfl) (by kernel_rfl) (fun _ _ _ h => h) (.inl ⟨by rfl, fun W hW => gx_iaddr (i := i) (sz := 2) rfl rfl rfl Try.underlying29 size_ref HLT.out rfl⟩) hS0 ?_
    simp only [Act.put, List.setIfInBounds_toArray, List.set_cons_zero, List.set_cons_succ]
    refine alw_take (i := 3) (v := .agg (encP p).toArray) rfl (by kernel_rfl) (by kernel_rfl) (fun _ _ _ h => h) (.inl ⟨by rfl, fun W hW => gx_loads rfl rfl hW.1 Try.underlying54 rfl (by rw [size_ref]; rfl)⟩) hS0 ?_
    simp only [Act.put, List.setIfInBounds_toArray, List.set_cons_zero, List.set_cons_succ]
    refine alw_take (i := 4) (v := .slice (some ⟨a2, 0, none⟩) n cB) rfl (by kernel_rfl) (by kernel_rfl) (fun _ _ _ h => h) (.inl ⟨by rfl, fun W hW => exec_move rfl rfl⟩) hS0 ?_
    simp only [Act.put, List.setIfInBounds_toArray, List.set_cons_zero, List.set_cons_succ]
    refine alw_take (i := 5) (v := .int .i64 (i : Int)) rfl (by kernel_rfl) (by kernel_rfl) (fun _ _ _ h => h) (.inl ⟨by rfl, fun W hW => exec_move rfl rfl⟩) hS0 ?_
    simp only [Act.put, List.setIfInBounds_toArray, List.set_cons_zero, List.set_cons_succ]
    refine alw_take (i := 6) (v := .pointer (some ⟨a2, 0 + i * 2, none⟩)) rfl (by kernel_rfl) (by kernel_rfl) (fun _ _ _ h => h) (.inl ⟨by rfl, fun W hW => gx_iaddr (i := i) (sz := 2) rfl rfl rfl Try.underlying29 size_ref HLT.out rfl⟩) hS0 ?_
    simp only [Act.put, List.setIfInBounds_toArray, List.set_cons_zero, List.set_cons_succ]
    refine alw_take (i := 7) (v := .agg (encP p).toArray) rfl (by kernel_rfl) (by kernel_rfl) (fun _ _ _ h => h) (.inl ⟨by rfl, fun W hW => gx_loads rfl rfl hW.2 Try.underlying54 rfl (by rw [size_ref]; rfl)⟩) hS0 ?_
    simp only [Act.put, List.setIfInBounds_toArray, List.set_cons_zero, List.set_cons_succ]
    refine alw_take (i := 8) (v := .bool false) rfl (by kernel_rfl) (by kernel_rfl) (fun _ _ _ h => h) (.inl ⟨by rfl, fun W hW => refs_eq rfl rfl rfl rfl⟩) hS0 ?_
    simp only [Act.put, List.setIfInBounds_toArray, List.set_cons_zero, List.set_cons_succ]
    refine alw_done rfl ?_
    refine NoPanic.normal ?_
    try simp only [Act.put, List.setIfInBounds_toArray, List.set_cons_zero, List.set_cons_succ]
    go_upto_region 5 with fail
    refine wp_region_lit ?_
    refine wpList_run (v := .int .i64 (i : Int)) (wanted_none rfl) (exec_move rfl rfl) ?_
    simp only [Act.put, List.setIfInBounds_toArray, List.set_cons_zero, List.set_cons_succ]
    refine wpList_run (v := .int .i64 ((i + 1 : Nat) : Int)) (wanted_none rfl) (ix_add rfl rfl rfl (by omega) (by omega)) ?_
    simp only [Act.put, List.setIfInBounds_toArray, List.set_cons_zero, List.set_cons_succ]
    refine wpList_run (v := .int .i64 ((i + 1 : Nat) : Int)) (wanted_none rfl) (gx_assign rfl rfl) ?_
    simp only [Act.put, List.setIfInBounds_toArray, List.set_cons_zero, List.set_cons_succ]
    go_wp2_with fail
    go_roundg (n - (i + 1))
    case measure => have := HGK.out; have := HLT.out; omega
    case rel => exact ⟨i + 1, rfl, by have := HLT.out; omega, HTR.out.drew⟩
  · go_upto_region 4 with fail
    refine wp_region_lit ?_
    refine wpList_run (v := .int .i64 (i : Int)) (wanted_none rfl) (exec_move rfl rfl) ?_
    simp only [Act.put, List.setIfInBounds_toArray, List.set_cons_zero, List.set_cons_succ]
    refine wpList_run (v := .slice A n cA) (wanted_none rfl) (exec_move rfl rfl) ?_
    simp only [Act.put, List.setIfInBounds_toArray, List.set_cons_zero, List.set_cons_succ]
    refine wpList_run (v := .int .i64 (n : Int)) (wanted_none rfl) (gx_len rfl rfl Try.underlying29) ?_
    simp only [Act.put, List.setIfInBounds_toArray, List.set_cons_zero, List.set_cons_succ]
    refine wpList_run (v := .bool false) (wanted_none rfl) (ix_lss rfl rfl rfl (decide_eq_false (by omega))) ?_
    simp only [Act.put, List.setIfInBounds_toArray, List.set_cons_zero, List.set_cons_succ]
    go_upto_region 8 with fail
    refine wp_region_lit ?_
    refine wpList_run (v := .bool true) (wanted_none rfl) (gx_assign rfl rfl) ?_
    simp only [Act.put, List.setIfInBounds_toArray, List.set_cons_zero, List.set_cons_succ]
    go_wp2_with fail
    go_ret
    exact ⟨rfl, HTR.out⟩
end Go.Proofs.Ytmlkdkbpbleilaa

namespace Go.Proofs.Ytmlkdkbpbleilaa
open Go.RowKit
open Ix
set_option linter.unusedVariables false
/-- between the ends -/
def inR (fr to : Key) (p : Pr) : Bool := !klt p.1 fr && (to == [] || klt p.1 to)
theorem rngOf_rng {fr to : Key} {l : List Pr} (hs : Srt l) : rngOf fr to l = l.filter (inR fr to) := (rng_while hs).symm
theorem klt_nil (k : Key) : klt k [] = false := by cases k <;> rfl
theorem inR_all (p : Pr) : inR [] [] p = true := by
  unfold inR
  rw [klt_nil]
  rfl
theorem rngOf_all {l : List Pr} (hs : Srt l) : rngOf [] [] l = l := by
  rw [rngOf_rng hs, List.filter_eq_self]
  exact fun p _ => inR_all p
theorem cut_neg (r : List Pr) : cut (-1) r = r := if_pos (by decide)
/-- all but those with keys of ss -/
def dropL (ss : List Pr) (l : List Pr) : List Pr := l.filter fun p => ss.all fun q => decide (p.1 ≠ q.1)
theorem dropL_nil (l : List Pr) : dropL [] l = l := by
  unfold dropL
  rw [List.filter_eq_self]
  exact fun _ _ => rfl
theorem dropL_add (ss l : List Pr) (q : Pr) : ldrop q.1 (dropL ss l) = dropL (ss ++ [q]) l := by
  unfold ldrop dropL
  rw [List.filter_filter]
  congr 1
  funext p
  rw [Bool.eq_iff_iff]
  simp [and_comm]
theorem dropL_srt {ss l : List Pr} (h : Srt l) : Srt (dropL ss l) := List.Pairwise.sublist List.filter_sublist h
theorem lget_mem {q : Pr} : ∀ {l : List Pr}, Srt l → q ∈ l → lget q.1 l = some q.2
  | p :: l, hs, hq => by
    obtain ⟨h1, h2⟩ := List.pairwise_cons.1 hs
    show (if p.1 = q.1 then some p.2 else lget q.1 l) = _
    rcases List.mem_cons.1 hq with rfl | hq
    · rw [if_pos rfl]
    · rw [if_neg (fun e => klt_ne (h1 q hq) e)]
      exact lget_mem h2 hq
theorem srt_lt {l : List Pr} {i j : Nat} {p q : Pr} (hs : Srt l) (hi : l[i]? = some p) (hj : l[j]? = some q) (h : i < j) : p.1 ≠ q.1 := by
  obtain ⟨h1, rfl⟩ := List.getElem?_eq_some_iff.1 hi
  obtain ⟨h2, rfl⟩ := List.getElem?_eq_some_iff.1 hj
  exact klt_ne (List.pairwise_iff_getElem.1 hs i j h1 h2 h)
theorem drop_next {P : Pr → Bool} {l : List Pr} (hs : Srt l) {i : Nat} {q : Pr} (hq : (l.filter P)[i]? = some q) : lget q.1 (dropL ((l.filter P).take i) l) = some q.2 := by
  have hsf : Srt (l.filter P) := List.Pairwise.sublist List.filter_sublist hs
  refine lget_mem (dropL_srt hs) (List.mem_filter.2 ⟨List.filter_sublist.subset (List.mem_of_getElem? hq), ?_⟩)
  rw [List.all_eq_true]
  intro r hr
  obtain ⟨j, hj⟩ := List.mem_iff_getElem?.1 hr
  rw [List.getElem?_take] at hj
  split at hj
  · rename_i hlt
    exact decide_eq_true fun e => srt_lt hsf hj hq hlt e.symm
  · cases hj
theorem drop_take {ss l : List Pr} {i : Nat} {q : Pr} (hq : ss[i]? = some q) : ldrop q.1 (dropL (ss.take i) l) = dropL (ss.take (i + 1)) l := by
  rw [dropL_add, List.take_add_one, hq]
  rfl
theorem drop_rest {fr to : Key} {l : List Pr} : dropL (l.filter (inR fr to)) l = l.filter fun p => !inR fr to p := by
  unfold dropL
  refine List.filter_congr fun p hp => ?_
  rw [Bool.eq_iff_iff, List.all_eq_true, Bool.not_eq_true']
  constructor
  · intro h
    cases e : inR fr to p with
    | false => rfl
    | true => exact absurd rfl (of_decide_eq_true (h p (List.mem_filter.2 ⟨hp, e⟩)))
  · intro h q hq
    refine decide_eq_true fun e => ?_
    have h2 := (List.mem_filter.1 hq).2
    unfold inR at h h2
    rw [← e, h] at h2
    cases h2
theorem rest_rng {fr to : Key} {l : List Pr} : (l.filter fun p => !inR fr to p).filter (inR fr to) = [] := by
  rw [List.filter_eq_nil_iff]
  intro p hp h
  have := (List.mem_filter.1 hp).2
  rw [h] at this
  cases this
theorem rest_len (P : Pr → Bool) : ∀ (l : List Pr), (l.filter fun p => !P p).length + (l.filter P).length = l.length
  | [] => rfl
  | p :: l => by
    have := rest_len P l
    cases h : P p
    · rw [List.filter_cons_of_pos (by simp [h]), List.filter_cons_of_neg (by simp [h]), List.length_cons, List.length_cons]
      omega
    · rw [List.filter_cons_of_neg (by simp [h]), List.filter_cons_of_pos (by simp [h]), List.length_cons, List.length_cons]
      omega
/-- a row of pairs beside an index -/
def RowO (w : World) (x : Nat) (H : Hp) (v : Value) (l : List Pr) : Prop := Orw w 0 54 2 v (l.map encP) ∧ ∀ b, v.ownBlock = some b → ¬ own x H b
theorem RowO.still {w w' : World} {x : Nat} {H : Hp} {v : Value} {l : List Pr} (h : RowO w x H v l) (ht : Turn nowhere w w') : RowO w' x H v l := ⟨h.1.still ht, h.2⟩
theorem RowO.to {w w' : World} {x : Nat} {H H' : Hp} {v : Value} {l : List Pr} (h : RowO w x H v l) (ht : Turn (own x H) w w') (hf : ∀ b, own x H' b → own x H b ∨ w.heap.size ≤ b) : RowO w' x H' v l :=
  ⟨h.1.turn ht h.2, fun b hb e => (hf b e).elim (h.2 b hb) fun e => by have := (h.1.lt hb).2; omega⟩
theorem RowO.new {w w' : World} {x : Nat} {H : Hp} {M N : Nat} {m l : List Pr} {v : Value} (hi : Idx w x H M m N) (h : Orw w' w.heap.size 54 2 v (l.map encP)) : RowO w' x H v l :=
  ⟨h.less (Nat.zero_le _), fun b hb e => by have := (h.lt hb).1; have := hi.lt e; omega⟩
end Go.Proofs.Ytmlkdkbpbleilaa

namespace Go.Proofs.Ytmlkdkbpbleilaa
open Go.ChangeShapes Go.WideShapes Go.RowKit Go.Deep
set_option linter.unusedVariables false
section
variable {H : Type} {enc : TypeId × Value → H} {P : Program} {w : World} {base : Nat} {spare : Nat → Bool} {held : Bool}
theorem open_sarr2 {t e : TypeId} {r : Reach} {b0 : Nat} {v : Value} {d : DataW H} {p : List MemPlace} (ht : P.underlying t = some (.array 2 e)) (he : P.underlying e = some .string) (hce : P.cellsOf e = 1) (hC : P.cellsOf t = 2)
    (hv : Value.okWide P w r b0 t v) (h : DataW.Trod enc P w base spare held t v d p) :
    ∃ a b : ByteArray, v = .agg #[.string a, .string b] ∧ d = .agg [.lit (.string a.data.toList), .lit (.string b.data.toList)] ∧ p = [] ∧ a.size ≤ maxLen ∧ b.size ≤ maxLen := by
  obtain ⟨cs, rfl, hsz⟩ := okWide_array ht hv
  obtain ⟨c0, c1, rfl⟩ := Go.Joins.array2 (hsz.trans hC)
  obtain ⟨fuel, hf⟩ := h
  obtain ⟨xs, m, _, hx, _, hl, hi⟩ := DataW.trod_array ht hf
  match xs, hl with
  | [y0, y1], _ =>
    have h0 := hi 0 (by omega)
    have h1 := hi 1 (by omega)
    simp [Value.cells, hce] at h0 h1
    obtain ⟨a, ea, rfl, wa⟩ := DataW.trod_string he h0
    obtain ⟨b, eb, rfl, wb⟩ := DataW.trod_string he h1
    simp at ea eb hx
    subst ea eb
    exact ⟨a, b, rfl, hx.1, hx.2, wa, wb⟩
theorem shut_sarr2 {t e : TypeId} {a b : ByteArray} (ht : P.underlying t = some (.array 2 e)) (he : P.underlying e = some .string) (hce : P.cellsOf e = 1) (hC : P.cellsOf t = 2) (wa : a.size ≤ maxLen) (wb : b.size ≤ maxLen) :
    DataW.Trod enc P w base spare held t (.agg #[.string a, .string b]) (.agg [.lit (.string a.data.toList), .lit (.string b.data.toList)]) [] := by
  refine ⟨2, ?_⟩
  unfold DataW.trod
  rw [ht]
  have r2 : List.range 2 = [0, 1] := rfl
  simp [Value.cells, hC, hce, r2, DataW.trod, he, wa, wb]
theorem strs_weights {P : Program} {e : TypeId} : ∀ (l : List ByteArray) (s : ByteArray), s ∈ l → s.data.toList.length ∈ DataW.weightsAll (H := H) P e (strs l)
  | [], _, h => by cases h
  | x :: l, s, h => by
    show _ ∈ [x.data.toList.length] ++ DataW.weightsAll (H := H) P e (strs l)
    rcases List.mem_cons.1 h with rfl | h
    · exact List.mem_append_left _ (List.mem_singleton.2 rfl)
    · exact List.mem_append_right _ (strs_weights l s h)
theorem open_strl {fuel : Nat} {v : Value} {x : DataW H × List MemPlace} (h : DataW.trod enc Try.prog w base spare held fuel 51 [v] = some x) (hw : ∀ q ∈ x.1.weights Try.prog 51, q ≤ reachBytes) :
    ∃ (A : Option Addr) (n c : Nat) (ks : List (List UInt8)), v = .slice A n c ∧ Rws w 1 A n (ks.map fun k => [strV k]) ∧ ∀ k ∈ ks, k.length ≤ 281474976710656 := by
  rcases open_strings Try.underlying51 Try.underlying9 (by kernel_rfl) h with ⟨h0, _⟩ | ⟨a, len, cap, ss, h0, _, hl, _, hss, rfl, hcell, _⟩
  · injection h0 with h0
    exact ⟨none, 0, 0, [], h0, rws_nil w 1 none, fun k hk => by cases hk⟩
  · injection h0 with h0
    have hlm : len ≤ ss.length := by rw [hss]; split <;> omega
    have hw1 : ∀ q ∈ ((strs (H := H) (ss.take len)).length + (strs (H := H) (ss.drop len)).length) * Try.prog.bytesOf 9 :: (DataW.weightsAll Try.prog 9 (strs (H := H) (ss.take len)) ++ DataW.weightsAll Try.prog 9 (strs (H := H) (ss.drop len))), q ≤ reachBytes := fun q hq => hw q (by
      unfold DataW.weights
      simp only [Try.underlying51]
      exact hq)
    have hb := hw1 _ (List.mem_cons_self ..)
    have e16 : Try.prog.bytesOf 9 = 16 := by kernel_rfl
    rw [e16] at hb
    have e1 : (strs (H := H) (ss.take len)).length = len := by simp [strs]; omega
    rw [e1] at hb
    have hr := reachBytes_lt
    refine ⟨some a, len, cap, (ss.take len).map fun s => s.data.toList, h0, ⟨by simp; omega, fun r hr => ?_, by omega, fun hp => ?_⟩, fun k hk => ?_⟩
    · simp only [List.map_map, List.mem_map] at hr
      obtain ⟨s, _, rfl⟩ := hr
      rfl
    · obtain ⟨b, off, spot⟩ := a
      have hc0 := hcell 0 (by omega)
      have hspot : spot = none := by simpa [Addr.add] using World.cell?_spot hc0
      subst hspot
      refine ⟨b, off, rfl, fun i r hr j v hv => ?_⟩
      simp only [List.map_map, List.getElem?_map, Option.map_eq_some_iff] at hr
      obtain ⟨s, hs, rfl⟩ := hr
      rw [List.getElem?_take] at hs
      split at hs
      · rename_i hil
        have := hcell i (by omega)
        rw [List.getD_eq_getElem?_getD, hs] at this
        rcases j with _ | j
        · cases hv
          rw [add_nat] at this
          rw [Nat.add_zero, Nat.mul_one]
          exact this
        · cases hv
      · cases hs
    · obtain ⟨s, hs, rfl⟩ := List.mem_map.1 hk
      have := hw1 _ (List.mem_cons_of_mem _ (List.mem_append_left _ (strs_weights _ s hs)))
      omega
end
theorem size_str : (Try.prog.info? 9).map (·.size) = some 1 := by kernel_rfl
end Go.Proofs.Ytmlkdkbpbleilaa

namespace Go.Proofs.Ytmlkdkbpbleilaa
open Go.ChangeShapes Go.WideShapes Go.RowKit Go.Deep
open Ix
set_option linter.unusedVariables false
theorem klt_le {a b c : Key} (h : klt a b = true) (g : klt c b = false) : klt a c = true := by
  cases e : klt b c with
  | true => exact klt_tr h e
  | false =>
    have := klt_eq g e
    rw [this]
    exact h
theorem inR_def {fr to : Key} (h : to ≠ []) (p : Pr) : inR fr to p = (!klt p.1 fr && klt p.1 to) := by
  unfold inR
  rw [show (to == []) = false from by simpa using h, Bool.false_or]
theorem rng_split {a b c : Key} : ∀ {l : List Pr}, Srt l → klt b a = false → klt c b = false → b ≠ [] → c ≠ [] → l.filter (inR a c) = l.filter (inR a b) ++ l.filter (inR b c)
  | [], _, _, _, _, _ => rfl
  | p :: l, hs, hab, hbc, hb, hc => by
    obtain ⟨h1, h2⟩ := List.pairwise_cons.1 hs
    cases e : klt p.1 b with
    | true =>
      have e1 : inR b c p = false := by rw [inR_def hc, e]; rfl
      have e2 : inR a c p = inR a b p := by rw [inR_def hc, inR_def hb, e, klt_le e hbc]
      have ih := rng_split h2 hab hbc hb hc
      rw [List.filter_cons (p := inR b c), e1, List.filter_cons (p := inR a c), e2, List.filter_cons (p := inR a b), ih]
      cases inR a b p <;> rfl
    | false =>
      have ge : ∀ q ∈ p :: l, klt q.1 b = false := fun q hq => by
        rcases List.mem_cons.1 hq with rfl | hq
        · exact e
        · cases g : klt q.1 b with
          | false => rfl
          | true =>
            have := klt_tr (h1 q hq) g
            rw [e] at this
            cases this
      have e1 : (p :: l).filter (inR a b) = [] := by
        rw [List.filter_eq_nil_iff]
        intro q hq
        rw [inR_def hb, ge q hq, Bool.and_false]
        exact fun h => by cases h
      rw [e1, List.nil_append]
      refine List.filter_congr fun q hq => ?_
      rw [inR_def hc, inR_def hc, ge q hq]
      have : klt q.1 a = false := by
        cases g : klt q.1 a with
        | false => rfl
        | true =>
          have := klt_le g hab
          rw [ge q hq] at this
          cases this
      rw [this]
section
variable {H : Type} {enc : TypeId × Value → H} {P : Program} {w : World} {base : Nat} {spare : Nat → Bool} {held : Bool}
theorem open_sarr3 {t e : TypeId} {r : Reach} {b0 : Nat} {v : Value} {d : DataW H} {p : List MemPlace} (ht : P.underlying t = some (.array 3 e)) (he : P.underlying e = some .string) (hce : P.cellsOf e = 1) (hC : P.cellsOf t = 3)
    (hv : Value.okWide P w r b0 t v) (h : DataW.Trod enc P w base spare held t v d p) :
    ∃ a b c : ByteArray, v = .agg #[.string a, .string b, .string c] ∧ d = .agg [.lit (.string a.data.toList), .lit (.string b.data.toList), .lit (.string c.data.toList)] ∧ p = [] ∧ a.size ≤ maxLen ∧ b.size ≤ maxLen ∧ c.size ≤ maxLen := by
  obtain ⟨cs, rfl, hsz⟩ := okWide_array ht hv
  obtain ⟨c0, c1, c2, rfl⟩ := Go.Joins.array3 (hsz.trans hC)
  obtain ⟨fuel, hf⟩ := h
  obtain ⟨xs, m, _, hx, _, hl, hi⟩ := DataW.trod_array ht hf
  match xs, hl with
  | [y0, y1, y2], _ =>
    have h0 := hi 0 (by omega)
    have h1 := hi 1 (by omega)
    have h2 := hi 2 (by omega)
    simp [Value.cells, hce] at h0 h1 h2
    obtain ⟨a, ea, rfl, wa⟩ := DataW.trod_string he h0
    obtain ⟨b, eb, rfl, wb⟩ := DataW.trod_string he h1
    obtain ⟨c, ec, rfl, wc⟩ := DataW.trod_string he h2
    simp at ea eb ec hx
    subst ea eb ec
    exact ⟨a, b, c, rfl, hx.1, hx.2, wa, wb, wc⟩
theorem shut_sarr3 {t e : TypeId} {a b c : ByteArray} (ht : P.underlying t = some (.array 3 e)) (he : P.underlying e = some .string) (hce : P.cellsOf e = 1) (hC : P.cellsOf t = 3) (wa : a.size ≤ maxLen) (wb : b.size ≤ maxLen) (wc : c.size ≤ maxLen) :
    DataW.Trod enc P w base spare held t (.agg #[.string a, .string b, .string c]) (.agg [.lit (.string a.data.toList), .lit (.string b.data.toList), .lit (.string c.data.toList)]) [] := by
  refine ⟨2, ?_⟩
  unfold DataW.trod
  rw [ht]
  have r3 : List.range 3 = [0, 1, 2] := rfl
  simp [Value.cells, hC, hce, r3, DataW.trod, he, wa, wb, wc]
end
end Go.Proofs.Ytmlkdkbpbleilaa

namespace Go.Proofs.Ytmlkdkbpbleilaa
open Go.RowKit Go.ChangeShapes Go.WideShapes Go.Deep
set_option linter.unusedVariables false
section
variable {H : Type} {enc : TypeId × Value → H} {P : Program} {w : World} {base : Nat} {spare : Nat → Bool} {held : Bool}
theorem weights_all {e : TypeId} {d : DataW H} {q : Nat} : ∀ {l : List (DataW H)}, d ∈ l → q ∈ d.weights P e → q ∈ DataW.weightsAll P e l
  | x :: l, h, hq => by
    unfold DataW.weightsAll
    rcases List.mem_cons.1 h with rfl | h
    · exact List.mem_append_left _ hq
    · exact List.mem_append_right _ (weights_all h hq)
/-- a struct of one-cell fields, whatever their number: each cell with its reading -/
theorem open_fldsW {e : TypeId} {fs : Array Go.Field} {n : Nat} {cs : List Value} {y : DataW H × List MemPlace} (he : P.underlying e = some (.struct fs)) (hone : oneCellFields P fs = true) (hC : P.cellsOf e = fs.size) (h : DataW.trod enc P w base spare held n e cs = some y) :
    cs.length = fs.size ∧ ∃ m : Nat, ∀ (j : Nat) (f : Go.Field), fs[j]? = some f → ∃ (c : Value) (z : DataW H × List MemPlace), cs[j]? = some c ∧ DataW.trod enc P w base spare held m f.type [c] = some z ∧ ∀ q ∈ z.1.weights P f.type, q ∈ y.1.weights P e := by
  obtain ⟨ys, m, _, hy0, hl, hlen, hf⟩ := DataW.trod_struct he h
  rw [hC] at hl
  refine ⟨hl, m, fun j f hj => ?_⟩
  obtain ⟨ho, hk⟩ := hone_of hone j f hj
  have hjl : j < fs.size := (Array.getElem?_eq_some_iff.1 hj).1
  have h1 := hf j f hj
  rw [ho, hk, List.drop_eq_getElem_cons (by omega)] at h1
  have hy : ys[j]? = some (ys[j]'(by omega)) := List.getElem?_eq_getElem (by omega)
  refine ⟨cs[j]'(by omega), ys[j]'(by omega), List.getElem?_eq_getElem (by omega), ?_, fun q hq => ?_⟩
  · have h2 : DataW.trod enc P w base spare held m f.type [cs[j]'(by omega)] = ys[j]? := h1
    rw [h2, hy]
  · rw [hy0]
    unfold DataW.weights
    simp only [he]
    exact DataW.weights_mem_each (j := j) (t := f.type) (by simp [hj]) (by rw [List.getElem?_map, hy]; rfl) q hq
/-- a slice whose elements read as 'en x' -/
theorem open_rwsW {α : Type} {t e : TypeId} {fuel k by_ : Nat} {v : Value} {x : DataW H × List MemPlace} (ht : P.underlying t = some (.slice e)) (hC : P.cellsOf e = k) (hk : 0 < k) (hby : P.bytesOf e = by_) (hb1 : 1 ≤ by_) (en : α → List Value) (Q : α → Prop) (d0 : α) (hen : ∀ x, (en x).length = k)
    (dec : ∀ n cs y, DataW.trod enc P w base spare held n e cs = some y → (∀ q ∈ y.1.weights P e, q ≤ reachBytes) → ∃ x : α, cs = en x ∧ Q x) (h : DataW.trod enc P w base spare held fuel t [v] = some x) (hw : ∀ q ∈ x.1.weights P t, q ≤ reachBytes) :
    ∃ (A : Option Addr) (n c : Nat) (xs : List α), v = .slice A n c ∧ Rws w k A n (xs.map en) ∧ n ≤ c ∧ (A = none → c = 0) ∧ n * by_ ≤ reachBytes ∧ (∀ x ∈ xs, Q x) ∧ (x.1 = .nil ∧ n = 0 ∨ ∃ D E, x.1 = .slice D E ∧ D.length = n) := by
  rcases open_slice ht h with ⟨h0, hx0⟩ | ⟨a, len, cap, m, n, D, Pl, hcs, hb, hl, hm, hmm, rfl, hi⟩
  · injection h0 with h0
    exact ⟨none, 0, 0, [], h0, rws_nil w k none, Nat.le_refl _, fun _ => rfl, by omega, fun x hx => (by cases hx), .inl ⟨by rw [hx0], rfl⟩⟩
  · injection hcs with hcs
    have hlm : len ≤ m := by rw [hmm]; split <;> omega
    have hb2 : len * by_ ≤ reachBytes := by
      have := hw ((((List.range len).map D).length + ((List.range (m - len)).map fun j => D (len + j)).length) * P.bytesOf e) (by
        unfold DataW.weights
        simp only [ht]
        exact List.mem_cons_self ..)
      rw [hby] at this
      simp only [List.length_map, List.length_range] at this
      have h3 : len * by_ ≤ (len + (m - len)) * by_ := Nat.mul_le_mul_right _ (by omega)
      omega
    have hwt : ∀ i, i < len → ∀ q ∈ (D i).weights P e, q ≤ reachBytes := by
      intro i hi' q hq
      refine hw q ?_
      unfold DataW.weights
      simp only [ht]
      exact List.mem_cons_of_mem _ (List.mem_append_left _ (weights_all (List.mem_map.2 ⟨i, List.mem_range.2 hi', rfl⟩) hq))
    have hn : len ≤ 140737488355328 := by
      have h1 := reachBytes_lt
      have h2 : len * 1 ≤ len * by_ := Nat.mul_le_mul_left _ hb1
      omega
    rw [hC] at hi
    have one : ∀ i, ∃ x : α, i < len → w.cells? base (a.add (i * k)) k = some (en x) ∧ Q x := by
      intro i
      by_cases him : i < len
      · obtain ⟨cs, hc, ht'⟩ := hi i (by omega)
        obtain ⟨x, rfl, hq⟩ := dec _ _ _ ht' (hwt i him)
        exact ⟨x, fun _ => ⟨hc, hq⟩⟩
      · exact ⟨d0, fun h => absurd h him⟩
    obtain ⟨F, hF⟩ := Classical.axiomOfChoice one
    refine ⟨some a, len, cap, (List.range len).map F, hcs, ⟨by simp, fun r hr => ?_, hn, fun hp => ?_⟩, hl, (fun h => by cases h), hb2, fun x hx => ?_, .inr ⟨_, _, rfl, by simp⟩⟩
    · obtain ⟨x, _, rfl⟩ := List.mem_map.1 hr
      exact hen x
    · have hall : ∀ i, i < len → ∀ j v, (en (F i))[j]? = some v → w.cell? (a.add (i * k + j)) = some v := by
        intro i him j v hv
        obtain ⟨_, hcl, hat⟩ := World.cells?_some (hF i him).1
        have hj : j < k := by
          have := (List.getElem?_eq_some_iff.1 hv).1
          rwa [hen] at this
        have := hat j hj
        rw [hv] at this
        rw [← this, Go.Deep.add_add]
      obtain ⟨b, off, spot⟩ := a
      have hv0 : (en (F 0))[0]? = some ((en (F 0))[0]'(by rw [hen]; exact hk)) := List.getElem?_eq_getElem _
      have hc0 := hall 0 (by omega) 0 _ hv0
      have hspot : spot = none := by simpa [Addr.add] using World.cell?_spot hc0
      subst hspot
      refine ⟨b, off, rfl, fun i r hr j v hv => ?_⟩
      have hil : i < len := by
        have := (List.getElem?_eq_some_iff.1 hr).1
        simpa using this
      have hre : r = en (F i) := by
        rw [List.getElem?_map, List.getElem?_map, List.getElem?_range hil] at hr
        exact (Option.some.inj hr).symm
      subst hre
      have := hall i (by omega) j v hv
      rw [add_nat] at this
      rw [Nat.add_assoc]
      exact this
    · obtain ⟨i, hi', rfl⟩ := List.mem_map.1 hx
      exact (hF i (List.mem_range.1 hi')).2
end
end Go.Proofs.Ytmlkdkbpbleilaa

namespace Go.Proofs.Ytmlkdkbpbleilaa
open Go.ChangeShapes Go.WideShapes Go.RowKit Go.Deep
open Ix
set_option linter.unusedVariables false
/-- a call of the law -/
structure OpV where
  kind : Int
  n : Int
  key : Key
  last : Key
def OpV.cells (o : OpV) : List Value := [.int .i64 o.kind, .int .i64 o.n, strV o.key, strV o.last]
def OpV.okay (o : OpV) : Prop := (-9223372036854775808 ≤ o.kind ∧ o.kind ≤ 9223372036854775807) ∧ (-9223372036854775808 ≤ o.n ∧ o.n ≤ 9223372036854775807) ∧ o.key.length ≤ 281474976710656 ∧ o.last.length ≤ 281474976710656
theorem size_op : (Try.prog.info? 33).map (·.size) = some 4 := by kernel_rfl
theorem zero_op (w : World) : (zeroValue 33).run Try.prog w = .ok (.agg #[.int .i64 0, .int .i64 0, .string ByteArray.empty, .string ByteArray.empty]) w := by kernel_rfl
theorem op_one (o : OpV) : ∀ v ∈ o.cells.toArray.toList, v.oneCell' = true := fun v hv => by
  simp only [OpV.cells, List.mem_cons, List.not_mem_nil, or_false] at hv
  rcases hv with rfl | rfl | rfl | rfl <;> rfl
theorem Rws.el {w : World} {k n b off : Nat} {rs : List (List Value)} (h : Rws w k (some ⟨b, off, none⟩) n rs) {i : Nat} {r : List Value} (hr : rs[i]? = some r) : w.rangeAt b (off + i * k) r := fun j u hu => by
  obtain ⟨b', off', e, hc⟩ := h.at_ hr
  injection e with e
  injection e with e1 e2 e3
  subst e1 e2
  exact hc j u hu
section
variable {H : Type} {enc : TypeId × Value → H} {w : World} {base : Nat} {spare : Nat → Bool} {held : Bool}
set_option maxRecDepth 20000 in
theorem ops_of {fuel : Nat} {v : Value} {x : DataW H × List MemPlace} (h : DataW.trod enc Try.prog w base spare held fuel 22 [v] = some x) (hw : ∀ q ∈ x.1.weights Try.prog 22, q ≤ reachBytes) :
    ∃ (A : Option Addr) (n c : Nat) (os : List OpV), v = .slice A n c ∧ Rws w 4 A n (os.map OpV.cells) ∧ ∀ o ∈ os, o.okay := by
  obtain ⟨A, n, c, os, h1, h2, _, _, _, h3, _⟩ := open_rwsW (by_ := 48) Try.underlying22 (k := 4) (by kernel_rfl) (by decide) (by kernel_rfl) (by decide) OpV.cells OpV.okay ⟨0, 0, [], []⟩ (fun _ => rfl) (fun n cs y hy hwy => by
    obtain ⟨hl, m, hf⟩ := open_fldsW Try.underlying33 (by kernel_rfl) (by kernel_rfl) hy
    obtain ⟨c0, z0, e0, t0, _⟩ := hf 0 _ rfl
    obtain ⟨c1, z1, e1, t1, _⟩ := hf 1 _ rfl
    obtain ⟨c2, z2, e2, t2, q2⟩ := hf 2 _ rfl
    obtain ⟨c3, z3, e3, t3, q3⟩ := hf 3 _ rfl
    obtain ⟨x0, g0, _, w0⟩ := DataW.trod_int Try.underlying3 t0
    obtain ⟨x1, g1, _, w1⟩ := DataW.trod_int Try.underlying3 t1
    obtain ⟨s2, g2, rfl, w2⟩ := DataW.trod_string Try.underlying9 t2
    obtain ⟨s3, g3, rfl, w3⟩ := DataW.trod_string Try.underlying9 t3
    injection g0 with g0
    injection g1 with g1
    injection g2 with g2
    injection g3 with g3
    subst g0 g1 g2 g3
    have hr := reachBytes_lt
    have l2 : s2.data.toList.length ≤ reachBytes := hwy _ (q2 _ (List.mem_singleton.2 rfl))
    have l3 : s3.data.toList.length ≤ reachBytes := hwy _ (q3 _ (List.mem_singleton.2 rfl))
    refine ⟨⟨x0, x1, s2.data.toList, s3.data.toList⟩, ?_, i64_in w0, i64_in w1, by show s2.data.toList.length ≤ _; omega, by show s3.data.toList.length ≤ _; omega⟩
    have hl4 : cs.length = 4 := hl
    match cs, hl4 with
    | [a, b, c, d], _ =>
      cases e0
      cases e1
      cases e2
      cases e3
      rfl) h hw
  exact ⟨A, n, c, os, h1, h2, h3⟩
end
/-- two indices side by side, made behind w0 -/
structure Two (w0 w : World) (x : Nat) (H : Hp) (y : Nat) (G : Hp) (M M2 : Nat) (l l2 : List Pr) (N N2 : Nat) : Prop where
  ix : Idx w x H M l N
  iy : Idx w y G M2 l2 N2
  ap : ∀ b, own x H b → ¬ own y G b
  tn : Turn nowhere w0 w
  fx : ∀ b, own x H b → w0.heap.size ≤ b
  fy : ∀ b, own y G b → w0.heap.size ≤ b
theorem Two.still {w0 w w' : World} {x y : Nat} {H G : Hp} {M M2 N N2 : Nat} {l l2 : List Pr} (h : Two w0 w x H y G M M2 l l2 N N2) (ht : Turn nowhere w w') : Two w0 w' x H y G M M2 l l2 N N2 :=
  ⟨h.ix.still ht, h.iy.still ht, h.ap, h.tn.trans ht fun _ _ e => e, h.fx, h.fy⟩
theorem Two.symm {w0 w : World} {x y : Nat} {H G : Hp} {M M2 N N2 : Nat} {l l2 : List Pr} (h : Two w0 w x H y G M M2 l l2 N N2) : Two w0 w y G x H M2 M l2 l N2 N :=
  ⟨h.iy, h.ix, fun b e f => h.ap b f e, h.tn, h.fy, h.fx⟩
theorem Two.first {w0 w w' : World} {x y : Nat} {H G H' : Hp} {M M2 N N2 N' : Nat} {l l2 l' : List Pr} (h : Two w0 w x H y G M M2 l l2 N N2) (h1 : Idx w' x H' M l' N') (h2 : Turn (own x H) w w') (h3 : ∀ b, own x H' b → own x H b ∨ w.heap.size ≤ b) : Two w0 w' x H' y G M M2 l' l2 N' N2 :=
  ⟨h1, h.iy.turn h2 h.ap, fun b e f => (h3 b e).elim (fun e => h.ap b e f) fun e => by have := h.iy.lt f; omega, h.tn.trans h2 fun k hk e => by have := h.fx k e; omega, fun b hb => (h3 b hb).elim (h.fx b) fun e => Nat.le_trans h.tn.size e, h.fy⟩
theorem Two.second {w0 w w' : World} {x y : Nat} {H G G' : Hp} {M M2 N N2 N' : Nat} {l l2 l' : List Pr} (h : Two w0 w x H y G M M2 l l2 N N2) (h1 : Idx w' y G' M2 l' N') (h2 : Turn (own y G) w w') (h3 : ∀ b, own y G' b → own y G b ∨ w.heap.size ≤ b) : Two w0 w' x H y G' M M2 l l' N N' :=
  (h.symm.first h1 h2 h3).symm
theorem Two.new {w0 w1 w2 w3 : World} {x y M M2 : Nat} (h0 : Turn nowhere w0 w1) (hx : w1.heap.size ≤ x) (h1 : Turn nowhere w1 w2) (hi : Idx w2 x (fun _ => none) M [] 0) (hy : w2.heap.size ≤ y) (h2 : Turn nowhere w2 w3) (hi2 : Idx w3 y (fun _ => none) M2 [] 0) :
    Two w0 w3 x (fun _ => none) y (fun _ => none) M M2 [] [] 0 0 := by
  have own0 : ∀ {z b : Nat}, own z (fun _ => none) b → b = z := fun {z b} h => by
    rcases h with h | ⟨p, nd, e, _⟩
    · exact h
    · cases e
  have hxl : x < w2.heap.size := hi.lt (.inl rfl)
  have s0 := h0.size
  have s1 := h1.size
  exact ⟨hi.still h2, hi2, fun b e f => by have := own0 e; have := own0 f; omega, (h0.trans h1 fun _ _ e => e).trans h2 fun _ _ e => e, fun b e => by have := own0 e; omega, fun b e => by have := own0 e; omega⟩
theorem bx_same {a : Act} {o : Oper} {W : World} {x y : Operand} {t u : TypeId} {b : Bool} (ho : o.op = .binOp .neq t x y u) (hx : a.eval x = .bool b) (hy : a.eval y = .bool b) (ht : t = 4) : (execOp a.eval o).run Try.prog W = .ok (.value (.bool false)) W := by
  subst ht
  unfold execOp
  simp only [ho, hx, hy]
  cases b <;> go_simp
end Go.Proofs.Ytmlkdkbpbleilaa
