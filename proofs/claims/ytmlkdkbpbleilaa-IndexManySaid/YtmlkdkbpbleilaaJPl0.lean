/-
  Several texts in one file, in their order:
  - Index: deep: how deep a tree may be; at, Get of the reference: the walks. No conditions.
  - Index: small helpers: keys compared, an empty row built. No conditions.
  - Index: the reference's row of pairs: at, Get: the walks. No conditions.
  - Index: the reference's Put and Drop: the walks. No conditions.
  - Index: the reference's Range; IndexPlays: the walk. No conditions.
-/
import Derived.Test.YtmlkdkbpbleilaaJa4
import Derived.Test.YtmlkdkbpbleilaaJa0
namespace Go.Proofs.Ytmlkdkbpbleilaa
open Go.RowKit
open Ix
set_option linter.unusedVariables false
set_option linter.unusedSimpArgs false
theorem deep_of {M n : Nat} {l : List Pr} (h : DepthOf M l n) : (n = 0 ∧ l.length = 0) ∨ ∃ d, n = d + 1 ∧ 1 ≤ l.length ∧ 2 * (M / 2 + 1) ^ d ≤ l.length + 1 := by
  rcases depth_le h with ⟨h1, h2⟩ | ⟨d, t, rfl, _, h3, _⟩
  · exact .inl ⟨h1, by rw [h2]; rfl⟩
  · refine .inr ⟨d, rfl, ?_, h3⟩
    have : 1 ≤ (M / 2 + 1) ^ d := Nat.one_le_pow _ _ (by omega)
    omega
theorem deep_small {M d k : Nat} (hM : 2 ≤ M) (h : 2 * (M / 2 + 1) ^ d ≤ k + 1) (hk : k ≤ 100000) : d < 63 := by
  rcases Nat.lt_or_ge d 63 with g | g
  · exact g
  · have h1 : 2 ^ 63 ≤ 2 ^ d := Nat.pow_le_pow_right (by decide) g
    have h2 : 2 ^ d ≤ (M / 2 + 1) ^ d := Nat.pow_le_pow_left (by omega) _
    have h3 : (2 : Nat) ^ 63 = 9223372036854775808 := by decide
    omega
set_option maxRecDepth 20000 in
set_option maxHeartbeats 4000000 in
theorem deep_walk {M n : Nat} {l : List Pr} {w : World} (h : DepthOf M l n) (hM : 2 ≤ M ∧ M ≤ 64) (hl : l.length ≤ 100000) :
    Calls Try.prog 19 #[.int .i64 (M : Int), .int .i64 (n : Int), .int .i64 (l.length : Int)] w fun e w' => e = .returned (.bool true) ∧ w' = w := by
  obtain ⟨k, hk⟩ : ∃ k, k = l.length := ⟨_, rfl⟩
  have hd := deep_of h
  rw [← hk] at hd hl ⊢
  clear hk h
  have ym : (2 : Int) ≤ (M : Int) := by omega
  have ym2 : (M : Int) ≤ 64 := by omega
  rcases hd with ⟨h1, h2⟩ | ⟨d, rfl, h2, h3⟩
  · subst h1 h2
    clear hl hM ym ym2
    go_enter Try.func19, Try.ntmps19
    go_wp2
    go_ret
    exact ⟨rfl, rfl⟩
  · have hds := deep_small hM.1 h3 hl
    obtain ⟨T, hT⟩ : ∃ T, T = M / 2 + 1 := ⟨_, rfl⟩
    rw [← hT] at h3
    have yT : (T : Int) ≤ 33 := by omega
    have HH := Lib.hid (show T = M / 2 + 1 ∧ 1 ≤ k ∧ 2 * T ^ d ≤ k + 1 ∧ k ≤ 100000 ∧ d < 63 from ⟨hT, h2, h3, hl, hds⟩)
    have yk : (1 : Int) ≤ (k : Int) := by omega
    have yk2 : (k : Int) ≤ 100000 := by omega
    have yd : (d : Int) < 63 := by omega
    clear hT h2 h3 hl hds hM
    go_enter Try.func19, Try.ntmps19
    go_upto_region 0 with fail
    refine wp_region_lit ?_
    refine wpList_run (v := .bool false) (wanted_none rfl) (gx_assign rfl rfl) ?_
    simp only [Act.put, List.setIfInBounds_toArray, List.set_cons_zero, List.set_cons_succ]
    go_upto_region 1 with fail
    refine wp_region_lit ?_
    refine wpList_run (v := .int .i64 (k : Int)) (wanted_none rfl) (exec_move rfl rfl) ?_
    simp only [Act.put, List.setIfInBounds_toArray, List.set_cons_zero, List.set_cons_succ]
    refine wpList_run (v := .bool false) (wanted_none rfl) (ix_eql rfl rfl rfl (decide_eq_false (by omega))) ?_
    simp only [Act.put, List.setIfInBounds_toArray, List.set_cons_zero, List.set_cons_succ]
    go_upto_region 3 with fail
    refine wp_region_lit ?_
    refine wpList_run (v := .int .i64 ((d + 1 : Nat) : Int)) (wanted_none rfl) (exec_move rfl rfl) ?_
    simp only [Act.put, List.setIfInBounds_toArray, List.set_cons_zero, List.set_cons_succ]
    refine wpList_run (v := .bool false) (wanted_none rfl) (ix_lss rfl rfl rfl (decide_eq_false (by omega))) ?_
    simp only [Act.put, List.setIfInBounds_toArray, List.set_cons_zero, List.set_cons_succ]
    refine wpList_run (v := .bool false) (wanted_none rfl) (exec_move rfl rfl) ?_
    simp only [Act.put, List.setIfInBounds_toArray, List.set_cons_zero, List.set_cons_succ]
    refine wpList_run (v := .int .i64 ((d + 1 : Nat) : Int)) rfl (exec_move rfl rfl) ?_
    simp only [Act.put, List.setIfInBounds_toArray, List.set_cons_zero, List.set_cons_succ]
    refine wpList_run (v := .bool false) rfl (ix_gtr rfl rfl rfl (decide_eq_false (by omega))) ?_
    simp only [Act.put, List.setIfInBounds_toArray, List.set_cons_zero, List.set_cons_succ]
    refine wpList_run (v := .bool false) (wanted_none rfl) (ix_pickF rfl rfl rfl) ?_
    simp only [Act.put, List.setIfInBounds_toArray, List.set_cons_zero, List.set_cons_succ]
    go_upto_region 5 with fail
    refine wp_region_lit ?_
    refine wpList_run (v := .int .i64 (M : Int)) (wanted_none rfl) (exec_move rfl rfl) ?_
    simp only [Act.put, List.setIfInBounds_toArray, List.set_cons_zero, List.set_cons_succ]
    refine wpList_run (v := .int .i64 ((M / 2 : Nat) : Int)) (wanted_none rfl) (ix_quo (n := M) (m := 2) rfl rfl rfl (by decide) (by omega)) ?_
    simp only [Act.put, List.setIfInBounds_toArray, List.set_cons_zero, List.set_cons_succ]
    refine wpList_run (v := .int .i64 (T : Int)) (wanted_none rfl) (ix_add rfl rfl rfl (by have := HH.out.1; omega) (by omega)) ?_
    simp only [Act.put, List.setIfInBounds_toArray, List.set_cons_zero, List.set_cons_succ]
    refine wpList_run (v := .int .i64 (T : Int)) (wanted_none rfl) (gx_assign rfl rfl) ?_
    simp only [Act.put, List.setIfInBounds_toArray, List.set_cons_zero, List.set_cons_succ]
    go_upto_region 6 with fail
    refine wp_region_lit ?_
    refine wpList_run (v := .int .i64 2) (wanted_none rfl) (gx_assign rfl rfl) ?_
    simp only [Act.put, List.setIfInBounds_toArray, List.set_cons_zero, List.set_cons_succ]
    go_upto_region 7 with fail
    refine wp_region_lit ?_
    refine wpList_run (v := .int .i64 1) (wanted_none rfl) (gx_assign rfl rfl) ?_
    simp only [Act.put, List.setIfInBounds_toArray, List.set_cons_zero, List.set_cons_succ]
    go_wp2_with fail
    go_loopg [8, 9] d (fun gk lv iv wr => ∃ (j L : Nat), iv = .int .i64 ((j + 1 : Nat) : Int) ∧ lv = .int .i64 (L : Int) ∧ L = 2 * T ^ j ∧ j + gk = d ∧ wr = w)
    case atStart => exact ⟨0, 2, rfl, rfl, by simp, by omega, rfl⟩
    obtain ⟨j, L, rfl, rfl, hL, hgk, hw⟩ := hrel
    subst hw
    have HGK := Lib.hid hgk
    have HL := Lib.hid hL
    have yj : (j : Int) ≤ (d : Int) := by omega
    clear hgk hL
    by_cases hlt : j < d
    · have HLT := Lib.hid hlt
      obtain ⟨L2, hL2⟩ : ∃ q, q = L * T := ⟨_, rfl⟩
      have hL3 : L2 = 2 * T ^ (j + 1) := by rw [hL2, HL.out, Nat.pow_succ, Nat.mul_assoc]
      have hle : T ^ (j + 1) ≤ T ^ d := Nat.pow_le_pow_right (by have := HH.out.1; omega) (by omega)
      have yL : (L2 : Int) ≤ (k : Int) + 1 := by have := HH.out.2.2.1; omega
      have HL2 := Lib.hid hL2
      have HL3 := Lib.hid hL3
      have y3 : (j : Int) < (d : Int) := by omega
      clear hL2 hL3 hle hlt
      go_upto_region 8 with fail
      refine wp_region_lit ?_
      refine wpList_run (v := .int .i64 ((j + 1 : Nat) : Int)) (wanted_none rfl) (exec_move rfl rfl) ?_
      simp only [Act.put, List.setIfInBounds_toArray, List.set_cons_zero, List.set_cons_succ]
      refine wpList_run (v := .int .i64 ((d + 1 : Nat) : Int)) (wanted_none rfl) (exec_move rfl rfl) ?_
      simp only [Act.put, List.setIfInBounds_toArray, List.set_cons_zero, List.set_cons_succ]
      refine wpList_run (v := .bool true) (wanted_none rfl) (ix_lss rfl rfl rfl (decide_eq_true (by omega))) ?_
      simp only [Act.put, List.setIfInBounds_toArray, List.set_cons_zero, List.set_cons_succ]
      go_upto_region 10 with fail
      refine wp_region_lit ?_
      refine wpList_run (v := .int .i64 (L : Int)) (wanted_none rfl) (exec_move rfl rfl) ?_
      simp only [Act.put, List.setIfInBounds_toArray, List.set_cons_zero, List.set_cons_succ]
      refine wpList_run (v := .int .i64 (T : Int)) (wanted_none rfl) (exec_move rfl rfl) ?_
      simp only [Act.put, List.setIfInBounds_toArray, List.set_cons_zero, List.set_cons_succ]
      refine wpList_run (v := .int .i64 (L2 : Int)) (wanted_none rfl) (ix_mul rfl rfl rfl (by have := HL2.out; rw [this]; exact (Int.natCast_mul ..).symm) (by omega)) ?_
      simp only [Act.put, List.setIfInBounds_toArray, List.set_cons_zero, List.set_cons_succ]
      refine wpList_run (v := .int .i64 (L2 : Int)) (wanted_none rfl) (gx_assign rfl rfl) ?_
      simp only [Act.put, List.setIfInBounds_toArray, List.set_cons_zero, List.set_cons_succ]
      go_upto_region 11 with fail
      refine wp_region_lit ?_
      refine wpList_run (v := .int .i64 (L2 : Int)) (wanted_none rfl) (exec_move rfl rfl) ?_
      simp only [Act.put, List.setIfInBounds_toArray, List.set_cons_zero, List.set_cons_succ]
      refine wpList_run (v := .int .i64 ((L2 : Int) - 1)) (wanted_none rfl) (ix_sub rfl rfl rfl rfl (by omega)) ?_
      simp only [Act.put, List.setIfInBounds_toArray, List.set_cons_zero, List.set_cons_succ]
      refine wpList_run (v := .int .i64 (k : Int)) (wanted_none rfl) (exec_move rfl rfl) ?_
      simp only [Act.put, List.setIfInBounds_toArray, List.set_cons_zero, List.set_cons_succ]
      refine wpList_run (v := .bool false) (wanted_none rfl) (ix_gtr rfl rfl rfl (decide_eq_false (by omega))) ?_
      simp only [Act.put, List.setIfInBounds_toArray, List.set_cons_zero, List.set_cons_succ]
      go_upto_region 9 with fail
      refine wp_region_lit ?_
      refine wpList_run (v := .int .i64 ((j + 1 : Nat) : Int)) (wanted_none rfl) (exec_move rfl rfl) ?_
      simp only [Act.put, List.setIfInBounds_toArray, List.set_cons_zero, List.set_cons_succ]
      refine wpList_run (v := .int .i64 ((j + 1 + 1 : Nat) : Int)) (wanted_none rfl) (ix_add rfl rfl rfl (by omega) (by omega)) ?_
      simp only [Act.put, List.setIfInBounds_toArray, List.set_cons_zero, List.set_cons_succ]
      refine wpList_run (v := .int .i64 ((j + 1 + 1 : Nat) : Int)) (wanted_none rfl) (gx_assign rfl rfl) ?_
      simp only [Act.put, List.setIfInBounds_toArray, List.set_cons_zero, List.set_cons_succ]
      go_wp2_with fail
      go_roundg (d - (j + 1))
      case measure => have := HGK.out; have := HLT.out; omega
      case rel => exact ⟨j + 1, L2, rfl, rfl, HL3.out, by have := HLT.out; omega, rfl⟩
    · go_upto_region 8 with fail
      refine wp_region_lit ?_
      refine wpList_run (v := .int .i64 ((j + 1 : Nat) : Int)) (wanted_none rfl) (exec_move rfl rfl) ?_
      simp only [Act.put, List.setIfInBounds_toArray, List.set_cons_zero, List.set_cons_succ]
      refine wpList_run (v := .int .i64 ((d + 1 : Nat) : Int)) (wanted_none rfl) (exec_move rfl rfl) ?_
      simp only [Act.put, List.setIfInBounds_toArray, List.set_cons_zero, List.set_cons_succ]
      refine wpList_run (v := .bool false) (wanted_none rfl) (ix_lss rfl rfl rfl (decide_eq_false (by omega))) ?_
      simp only [Act.put, List.setIfInBounds_toArray, List.set_cons_zero, List.set_cons_succ]
      go_upto_region 13 with fail
      refine wp_region_lit ?_
      refine wpList_run (v := .bool true) (wanted_none rfl) (gx_assign rfl rfl) ?_
      simp only [Act.put, List.setIfInBounds_toArray, List.set_cons_zero, List.set_cons_succ]
      go_wp2_with fail
      go_ret
      exact ⟨rfl, rfl⟩
end Go.Proofs.Ytmlkdkbpbleilaa

namespace Go.Proofs.Ytmlkdkbpbleilaa
open Go.RowKit
open Ix
set_option linter.unusedVariables false
set_option linter.unusedSimpArgs false
theorem exec_seqlr {a : Act} {o : Oper} {W : World} {x y : Operand} {l m : List UInt8} {t u : TypeId} {r : Bool} (ho : o.op = .binOp .eql t x y u) (hx : a.eval x = strV l) (hy : a.eval y = strV m) (hr : (l == m) = r) : (execOp a.eval o).run Try.prog W = .ok (.value (.bool r)) W := hr ▸ exec_seql ho hx hy
theorem build0R (w : World) : (Instr.buildSlice 29 0 #[]).run Try.prog w = .ok (.slice (some ⟨w.heap.size, 0, none⟩) 0 0) (w.alloc (.cells #[] 54)) := by kernel_rfl
theorem key_eq_nil {k : Key} (h : k = []) : (k == []) = true := by rw [h]; rfl
theorem key_ne_nil {k : Key} (h : ¬ k = []) : (k == []) = false := by cases k with
  | nil => exact absurd rfl h
  | cons a l => rfl
theorem geq_trans {a b c : Key} (h : klt b a = false) (g : klt c b = false) : klt c a = false := by
  cases e : klt c a with
  | false => rfl
  | true =>
    have := klt_le e h
    rw [g] at this
    cases this
end Go.Proofs.Ytmlkdkbpbleilaa

namespace Go.Proofs.Ytmlkdkbpbleilaa
open Go.RowKit
open Ix
set_option linter.unusedVariables false
set_option linter.unusedSimpArgs false
/-- the reference's index at y: its row -/
structure Rf (w : World) (B : Nat) (y : Nat) (v : Value) (l : List Pr) : Prop where
  blk : Blk w y 31 #[v]
  row : Orw w B 54 2 v (l.map encP)
def fp (y : Nat) (v : Value) : Nat → Prop := fun b => b = y ∨ v.ownBlock = some b
theorem Rf.turn {w w' : World} {B y : Nat} {v : Value} {l : List Pr} {G : Nat → Prop} (h : Rf w B y v l) (ht : Turn G w w') (hG : ∀ b, fp y v b → ¬ G b) : Rf w' B y v l := ⟨h.blk.turn ht (hG y (.inl rfl)), h.row.turn ht fun b hb => hG b (.inr hb)⟩
theorem Rf.still {w w' : World} {B y : Nat} {v : Value} {l : List Pr} (h : Rf w B y v l) (ht : Turn nowhere w w') : Rf w' B y v l := h.turn ht fun _ _ e => e
theorem Rf.lt {w : World} {B y : Nat} {v : Value} {l : List Pr} (h : Rf w B y v l) {b : Nat} (hb : fp y v b) : b < w.heap.size := by
  rcases hb with rfl | hb
  · exact h.blk.lt
  · exact (h.row.lt hb).2
def hasAt (k : Key) (l : List Pr) : Bool := match l[fnd k l]? with
  | some p => p.1 == k
  | none => false
theorem has_no {k : Key} {l : List Pr} (hs : Srt l) (h : hasAt k l = false) : lget k l = none := by
  rw [lget_at hs]
  unfold hasAt at h
  cases e : l[fnd k l]? with
  | none => rfl
  | some p =>
    rw [e] at h
    exact if_neg (by simpa using h)
theorem has_yes {k : Key} {l : List Pr} (hs : Srt l) (h : hasAt k l = true) : ∃ p, l[fnd k l]? = some p ∧ p.1 = k ∧ lget k l = some p.2 := by
  rw [lget_at hs]
  unfold hasAt at h
  cases e : l[fnd k l]? with
  | none => rw [e] at h; cases h
  | some p =>
    rw [e] at h
    have h : p.1 = k := by simpa using h
    exact ⟨p, rfl, h, if_pos h⟩
set_option maxRecDepth 20000 in
set_option maxHeartbeats 4000000 in
theorem at_walk {w : World} {B y : Nat} {v : Value} {l : List Pr} {k : Key} (h : Rf w B y v l) (hl : l.length ≤ 100000) :
    Calls Try.prog 28 #[.pointer (some ⟨y, 0, none⟩), strV k] w fun e w' => e = .returned (.tuple #[.int .i64 (fnd k l : Int), .bool (hasAt k l)]) ∧ Turn nowhere w w' := by
  obtain ⟨A, c, rfl, _⟩ := h.row.form
  rw [List.length_map] at *
  obtain ⟨n, hn⟩ : ∃ n, n = l.length := ⟨_, rfl⟩
  obtain ⟨m, hm⟩ : ∃ m, m = fnd k l := ⟨_, rfl⟩
  rw [← hn] at h hl
  have HR := Lib.hid h
  have HN := Lib.hid hn
  have HM := Lib.hid hm
  have hmn : m ≤ n := by rw [hm, hn]; exact fnd_le k l
  have yn : (n : Int) ≤ 100000 := by omega
  have ymn : (m : Int) ≤ (n : Int) := by omega
  have HMN := Lib.hid hmn
  rw [← hm]
  clear h hn hm hl hmn
  go_enter Try.func28, Try.ntmps28
  go_upto_region 0 with fail
  refine wp_region_lit ?_
  refine wpList_run (v := .int .i64 0) (wanted_none rfl) (gx_assign rfl rfl) ?_
  simp only [Act.put, List.setIfInBounds_toArray, List.set_cons_zero, List.set_cons_succ]
  refine wpList_run (v := .bool false) (wanted_none rfl) (gx_assign rfl rfl) ?_
  simp only [Act.put, List.setIfInBounds_toArray, List.set_cons_zero, List.set_cons_succ]
  go_upto_region 1 with fail
  refine wp_region_lit ?_
  refine wpList_run (v := .int .i64 0) (wanted_none rfl) (gx_assign rfl rfl) ?_
  simp only [Act.put, List.setIfInBounds_toArray, List.set_cons_zero, List.set_cons_succ]
  go_wp2_with fail
  go_loopg [6] m (fun gk iv wr => ∃ (i : Nat), iv = .int .i64 (i : Int) ∧ i + gk = m ∧ Turn nowhere w wr)
  case atStart => exact ⟨0, rfl, by omega, Turn.refl _ _⟩
  obtain ⟨i, rfl, hgk, htr⟩ := hrel
  have HGK := Lib.hid hgk
  have HTR := Lib.hid htr
  have hR2 := HR.out.still htr
  have HR2 := Lib.hid hR2
  have yi : (i : Int) ≤ (m : Int) := by omega
  clear hgk htr hR2
  by_cases hlt : i < m
  · have HLT := Lib.hid hlt
    clear hlt
    have HIN := Lib.hid (show i < n from by have := HMN.out; have := HLT.out; omega)
    have y3 : (i : Int) < (n : Int) := by have := HIN.out; omega
    obtain ⟨p, hp⟩ : ∃ p, l[i]? = some p := ⟨_, List.getElem?_eq_getElem (by rw [← HN.out]; exact HIN.out)⟩
    have HP := Lib.hid hp
    obtain ⟨b1, c1, e1, _, _⟩ := HR2.out.row.some_ (by rw [List.length_map, ← HN.out]; have := HIN.out; omega)
    injection e1 with e2 e3 e4
    subst e2
    clear e3 e4
    have HK9 := Lib.hid (show klt p.1 k = true from fnd_bel k l p (by
      refine List.mem_of_getElem? (i := i) ?_
      rw [List.getElem?_take, if_pos (by rw [← HM.out]; exact HLT.out)]
      exact hp))
    clear hp
    go_upto_region 2 with fail
    refine wp_region_lit ?_
    refine wpList_run (v := .int .i64 (i : Int)) (wanted_none rfl) (exec_move rfl rfl) ?_
    simp only [Act.put, List.setIfInBounds_toArray, List.set_cons_zero, List.set_cons_succ]
    refine wpList_run (v := .pointer (some ⟨y, 0, none⟩)) (wanted_none rfl) (exec_move rfl rfl) ?_
    simp only [Act.put, List.setIfInBounds_toArray, List.set_cons_zero, List.set_cons_succ]
    refine wpList_run (v := .pointer (some ⟨y, 0, none⟩)) (wanted_none rfl) (exec_nil rfl rfl) ?_
    simp only [Act.put, List.setIfInBounds_toArray, List.set_cons_zero, List.set_cons_succ]
    refine wpList_run (v := .pointer (some ⟨y, 0, none⟩)) (wanted_none rfl) (exec_field (off := 0) (d := 0) rfl rfl (by kernel_rfl)) ?_
    simp only [Act.put, List.setIfInBounds_toArray, List.set_cons_zero, List.set_cons_succ]
    refine wpList_run (v := .slice (some ⟨b1, 0, none⟩) n c) (wanted_none rfl) (exec_load1 rfl rfl (by kernel_rfl) (HR2.out.blk.cell 0)) ?_
    simp only [Act.put, List.setIfInBounds_toArray, List.set_cons_zero, List.set_cons_succ]
    refine wpList_run (v := .int .i64 (n : Int)) (wanted_none rfl) (gx_len rfl rfl Try.underlying29) ?_
    simp only [Act.put, List.setIfInBounds_toArray, List.set_cons_zero, List.set_cons_succ]
    refine wpList_run (v := .bool true) (wanted_none rfl) (ix_lss rfl rfl rfl (decide_eq_true y3)) ?_
    simp only [Act.put, List.setIfInBounds_toArray, List.set_cons_zero, List.set_cons_succ]
    refine wpList_run (v := .bool true) (wanted_none rfl) (exec_move rfl rfl) ?_
    simp only [Act.put, List.setIfInBounds_toArray, List.set_cons_zero, List.set_cons_succ]
    refine wpList_run (v := .pointer (some ⟨y, 0, none⟩)) rfl (exec_move rfl rfl) ?_
    simp only [Act.put, List.setIfInBounds_toArray, List.set_cons_zero, List.set_cons_succ]
    refine wpList_run (v := .pointer (some ⟨y, 0, none⟩)) rfl (exec_nil rfl rfl) ?_
    simp only [Act.put, List.setIfInBounds_toArray, List.set_cons_zero, List.set_cons_succ]
    refine wpList_run (v := .pointer (some ⟨y, 0, none⟩)) rfl (exec_field (off := 0) (d := 0) rfl rfl (by kernel_rfl)) ?_
    simp only [Act.put, List.setIfInBounds_toArray, List.set_cons_zero, List.set_cons_succ]
    refine wpList_run (v := .slice (some ⟨b1, 0, none⟩) n c) rfl (exec_load1 rfl rfl (by kernel_rfl) (HR2.out.blk.cell 0)) ?_
    simp only [Act.put, List.setIfInBounds_toArray, List.set_cons_zero, List.set_cons_succ]
    refine wpList_run (v := .int .i64 (i : Int)) rfl (exec_move rfl rfl) ?_
    simp only [Act.put, List.setIfInBounds_toArray, List.set_cons_zero, List.set_cons_succ]
    refine wpList_run (v := .pointer (some ⟨b1, 0 + i * 2, none⟩)) rfl (gx_iaddr (i := i) (sz := 2) rfl rfl rfl Try.underlying29 size_ref HIN.out rfl) ?_
    simp only [Act.put, List.setIfInBounds_toArray, List.set_cons_zero, List.set_cons_succ]
    refine wpList_run (v := .pointer (some ⟨b1, 0 + i * 2 + 0, none⟩)) rfl (exec_field (off := 0 + i * 2) (d := 0) rfl rfl (by kernel_rfl)) ?_
    simp only [Act.put, List.setIfInBounds_toArray, List.set_cons_zero, List.set_cons_succ]
    refine wpList_run (v := strV p.1) rfl (exec_load1 rfl rfl (by kernel_rfl) (HR2.out.row.el0 (r := encP p) (by rw [List.getElem?_map, HP.out]; rfl) 0 _ rfl)) ?_
    simp only [Act.put, List.setIfInBounds_toArray, List.set_cons_zero, List.set_cons_succ]
    refine wpList_run (v := strV k) rfl (exec_move rfl rfl) ?_
    simp only [Act.put, List.setIfInBounds_toArray, List.set_cons_zero, List.set_cons_succ]
    refine wpList_run (v := .bool true) rfl (exec_slss rfl rfl rfl HK9.out) ?_
    simp only [Act.put, List.setIfInBounds_toArray, List.set_cons_zero, List.set_cons_succ]
    refine wpList_run (v := .bool true) (wanted_none rfl) (ix_pickT rfl rfl rfl) ?_
    simp only [Act.put, List.setIfInBounds_toArray, List.set_cons_zero, List.set_cons_succ]
    go_upto_region 3 with fail
    refine wp_region_lit ?_
    refine wpList_run (v := .int .i64 (i : Int)) (wanted_none rfl) (exec_move rfl rfl) ?_
    simp only [Act.put, List.setIfInBounds_toArray, List.set_cons_zero, List.set_cons_succ]
    refine wpList_run (v := .int .i64 ((i + 1 : Nat) : Int)) (wanted_none rfl) (ix_add rfl rfl rfl (by omega) (by omega)) ?_
    simp only [Act.put, List.setIfInBounds_toArray, List.set_cons_zero, List.set_cons_succ]
    refine wpList_run (v := .int .i64 ((i + 1 : Nat) : Int)) (wanted_none rfl) (gx_assign rfl rfl) ?_
    simp only [Act.put, List.setIfInBounds_toArray, List.set_cons_zero, List.set_cons_succ]
    go_wp2_with fail
    go_roundg (m - (i + 1))
    case measure => have := HGK.out; have := HLT.out; omega
    case rel => exact ⟨i + 1, rfl, by have := HLT.out; omega, HTR.out⟩
  · obtain rfl : i = m := by have := HGK.out; omega
    clear hlt
    go_upto_region 2 with fail
    rename_i K9 hK9
    have HKC := Lib.hid hK9
    clear hK9
    refine wp_region_lit ?_
    by_cases him : i < n
    · have HIN := Lib.hid him
      clear him
      have y3 : (i : Int) < (n : Int) := by have := HIN.out; omega
      obtain ⟨p, hp⟩ : ∃ p, l[i]? = some p := ⟨_, List.getElem?_eq_getElem (by rw [← HN.out]; exact HIN.out)⟩
      have HP := Lib.hid hp
      obtain ⟨b1, c1, e1, _, _⟩ := HR2.out.row.some_ (by rw [List.length_map, ← HN.out]; have := HIN.out; omega)
      injection e1 with e2 e3 e4
      subst e2
      have HK9 := Lib.hid (show klt p.1 k = false from fnd_at (l := l) (by rw [← HM.out]; exact hp))
      have HHA := Lib.hid (show hasAt k l = (p.1 == k) from by unfold hasAt; rw [← HM.out, hp])
      clear e3 e4 hp
      refine wpList_run (v := .int .i64 (i : Int)) (wanted_none rfl) (exec_move rfl rfl) ?_
      simp only [Act.put, List.setIfInBounds_toArray, List.set_cons_zero, List.set_cons_succ]
      refine wpList_run (v := .pointer (some ⟨y, 0, none⟩)) (wanted_none rfl) (exec_move rfl rfl) ?_
      simp only [Act.put, List.setIfInBounds_toArray, List.set_cons_zero, List.set_cons_succ]
      refine wpList_run (v := .pointer (some ⟨y, 0, none⟩)) (wanted_none rfl) (exec_nil rfl rfl) ?_
      simp only [Act.put, List.setIfInBounds_toArray, List.set_cons_zero, List.set_cons_succ]
      refine wpList_run (v := .pointer (some ⟨y, 0, none⟩)) (wanted_none rfl) (exec_field (off := 0) (d := 0) rfl rfl (by kernel_rfl)) ?_
      simp only [Act.put, List.setIfInBounds_toArray, List.set_cons_zero, List.set_cons_succ]
      refine wpList_run (v := .slice (some ⟨b1, 0, none⟩) n c) (wanted_none rfl) (exec_load1 rfl rfl (by kernel_rfl) (HR2.out.blk.cell 0)) ?_
      simp only [Act.put, List.setIfInBounds_toArray, List.set_cons_zero, List.set_cons_succ]
      refine wpList_run (v := .int .i64 (n : Int)) (wanted_none rfl) (gx_len rfl rfl Try.underlying29) ?_
      simp only [Act.put, List.setIfInBounds_toArray, List.set_cons_zero, List.set_cons_succ]
      refine wpList_run (v := .bool true) (wanted_none rfl) (ix_lss rfl rfl rfl (decide_eq_true y3)) ?_
      simp only [Act.put, List.setIfInBounds_toArray, List.set_cons_zero, List.set_cons_succ]
      refine wpList_run (v := .bool true) (wanted_none rfl) (exec_move rfl rfl) ?_
      simp only [Act.put, List.setIfInBounds_toArray, List.set_cons_zero, List.set_cons_succ]
      refine wpList_run (v := .pointer (some ⟨y, 0, none⟩)) rfl (exec_move rfl rfl) ?_
      simp only [Act.put, List.setIfInBounds_toArray, List.set_cons_zero, List.set_cons_succ]
      refine wpList_run (v := .pointer (some ⟨y, 0, none⟩)) rfl (exec_nil rfl rfl) ?_
      simp only [Act.put, List.setIfInBounds_toArray, List.set_cons_zero, List.set_cons_succ]
      refine wpList_run (v := .pointer (some ⟨y, 0, none⟩)) rfl (exec_field (off := 0) (d := 0) rfl rfl (by kernel_rfl)) ?_
      simp only [Act.put, List.setIfInBounds_toArray, List.set_cons_zero, List.set_cons_succ]
      refine wpList_run (v := .slice (some ⟨b1, 0, none⟩) n c) rfl (exec_load1 rfl rfl (by kernel_rfl) (HR2.out.blk.cell 0)) ?_
      simp only [Act.put, List.setIfInBounds_toArray, List.set_cons_zero, List.set_cons_succ]
      refine wpList_run (v := .int .i64 (i : Int)) rfl (exec_move rfl rfl) ?_
      simp only [Act.put, List.setIfInBounds_toArray, List.set_cons_zero, List.set_cons_succ]
      refine wpList_run (v := .pointer (some ⟨b1, 0 + i * 2, none⟩)) rfl (gx_iaddr (i := i) (sz := 2) rfl rfl rfl Try.underlying29 size_ref HIN.out rfl) ?_
      simp only [Act.put, List.setIfInBounds_toArray, List.set_cons_zero, List.set_cons_succ]
      refine wpList_run (v := .pointer (some ⟨b1, 0 + i * 2 + 0, none⟩)) rfl (exec_field (off := 0 + i * 2) (d := 0) rfl rfl (by kernel_rfl)) ?_
      simp only [Act.put, List.setIfInBounds_toArray, List.set_cons_zero, List.set_cons_succ]
      refine wpList_run (v := strV p.1) rfl (exec_load1 rfl rfl (by kernel_rfl) (HR2.out.row.el0 (r := encP p) (by rw [List.getElem?_map, HP.out]; rfl) 0 _ rfl)) ?_
      simp only [Act.put, List.setIfInBounds_toArray, List.set_cons_zero, List.set_cons_succ]
      refine wpList_run (v := strV k) rfl (exec_move rfl rfl) ?_
      simp only [Act.put, List.setIfInBounds_toArray, List.set_cons_zero, List.set_cons_succ]
      refine wpList_run (v := .bool false) rfl (exec_slss rfl rfl rfl HK9.out) ?_
      simp only [Act.put, List.setIfInBounds_toArray, List.set_cons_zero, List.set_cons_succ]
      refine wpList_run (v := .bool false) (wanted_none rfl) (ix_pickT rfl rfl rfl) ?_
      simp only [Act.put, List.setIfInBounds_toArray, List.set_cons_zero, List.set_cons_succ]
      refine wpList_nil ?_
      refine HKC.out _ _ ?_
      go_upto_region 4 with fail
      refine wp_region_alw (fun W => Blk W y 31 #[.slice (some ⟨b1, 0, none⟩) n c] ∧ W.cell? ⟨b1, 0 + i * 2 + 0, none⟩ = some (strV p.1)) (by kernel_rfl) ?_
      have hS0 := And.intro HR2.out.blk (HR2.out.row.el0 (r := encP p) (by rw [List.getElem?_map, HP.out]; rfl) 0 _ rfl)
      refine alw_take (i := 0) (v := .int .i64 (i : Int)) rfl (by kernel_rfl) (by kernel_rfl) (fun _ _ _ h => h) (.inl ⟨by rfl, fun W hW => exec_move rfl rfl⟩) hS0 ?_
      simp only [Act.put, List.setIfInBounds_toArray, List.set_cons_zero, List.set_cons_succ]
      refine alw_take (i := 1) (v := .int .i64 (i : Int)) rfl (by kernel_rfl) (by kernel_rfl) (fun _ _ _ h => h) (.inl ⟨by rfl, fun W hW => exec_move rfl rfl⟩) hS0 ?_
      simp only [Act.put, List.setIfInBounds_toArray, List.set_cons_zero, List.set_cons_succ]
      refine alw_take (i := 2) (v := .pointer (some ⟨y, 0, none⟩)) rfl (by kernel_rfl) (by kernel_rfl) (fun _ _ _ h => h) (.inl ⟨by rfl, fun W hW => exec_move rfl rfl⟩) hS0 ?_
      simp only [Act.put, List.setIfInBounds_toArray, List.set_cons_zero, List.set_cons_succ]
      refine alw_take (i := 3) (v := .pointer (some ⟨y, 0, none⟩)) rfl (by kernel_rfl) (by kernel_rfl) (fun _ _ _ h => h) (.inl ⟨by rfl, fun W hW => exec_nil rfl rfl⟩) hS0 ?_
      simp only [Act.put, List.setIfInBounds_toArray, List.set_cons_zero, List.set_cons_succ]
      refine alw_take (i := 4) (v := .pointer (some ⟨y, 0, none⟩)) rfl (by kernel_rfl) (by kernel_rfl) (fun _ _ _ h => h) (.inl ⟨by rfl, fun W hW => exec_field (off := 0) (d := 0) rfl rfl (by kernel_rfl)⟩) hS0 ?_
      simp only [Act.put, List.setIfInBounds_toArray, List.set_cons_zero, List.set_cons_succ]
      refine alw_take (i := 5) (v := .slice (some ⟨b1, 0, none⟩) n c) rfl (by kernel_rfl) (by kernel_rfl) (fun _ _ _ h => h) (.inl ⟨by rfl, fun W hW => exec_load1 rfl rfl (by kernel_rfl) (hW.1.cell 0)⟩) hS0 ?_
      simp only [Act.put, List.setIfInBounds_toArray, List.set_cons_zero, List.set_cons_succ]
      refine alw_take (i := 6) (v := .int .i64 (n : Int)) rfl (by kernel_rfl) (by kernel_rfl) (fun _ _ _ h => h) (.inl ⟨by rfl, fun W hW => gx_len rfl rfl Try.underlying29⟩) hS0 ?_
      simp only [Act.put, List.setIfInBounds_toArray, List.set_cons_zero, List.set_cons_succ]
      refine alw_take (i := 7) (v := .bool true) rfl (by kernel_rfl) (by kernel_rfl) (fun _ _ _ h => h) (.inl ⟨by rfl, fun W hW => ix_lss rfl rfl rfl (decide_eq_true y3)⟩) hS0 ?_
      simp only [Act.put, List.setIfInBounds_toArray, List.set_cons_zero, List.set_cons_succ]
      refine alw_take (i := 8) (v := .bool true) rfl (by kernel_rfl) (by kernel_rfl) (fun _ _ _ h => h) (.inl ⟨by rfl, fun W hW => exec_move rfl rfl⟩) hS0 ?_
      simp only [Act.put, List.setIfInBounds_toArray, List.set_cons_zero, List.set_cons_succ]
      refine alw_take (i := 9) (v := .pointer (some ⟨y, 0, none⟩)) rfl (by kernel_rfl) (by kernel_rfl) (fun _ _ _ h => h) (.inl ⟨by rfl, fun W hW => exec_move rfl rfl⟩) hS0 ?_
      simp only [Act.put, List.setIfInBounds_toArray, List.set_cons_zero, List.set_cons_succ]
      refine alw_take (i := 10) (v := .pointer (some ⟨y, 0, none⟩)) rfl (by kernel_rfl) (by kernel_rfl) (fun _ _ _ h => h) (.inl ⟨by rfl, fun W hW => exec_nil rfl rfl⟩) hS0 ?_
      simp only [Act.put, List.setIfInBounds_toArray, List.set_cons_zero, List.set_cons_succ]
      refine alw_take (i := 11) (v := .pointer (some ⟨y, 0, none⟩)) rfl (by kernel_rfl) (by kernel_rfl) (fun _ _ _ h => h) (.inl ⟨by rfl, fun W hW => exec_field (off := 0) (d := 0) rfl rfl (by kernel_rfl)⟩) hS0 ?_
      simp only [Act.put, List.setIfInBounds_toArray, List.set_cons_zero, List.set_cons_succ]
      refine alw_take (i := 12) (v := .slice (some ⟨b1, 0, none⟩) n c) rfl (by kernel_rfl) (by kernel_rfl) (fun _ _ _ h => h) (.inl ⟨by rfl, fun W hW => exec_load1 rfl rfl (by kernel_rfl) (hW.1.cell 0)⟩) hS0 ?_
      simp only [Act.put, List.setIfInBounds_toArray, List.set_cons_zero, List.set_cons_succ]
      refine alw_take (i := 13) (v := .int .i64 (i : Int)) rfl (by kernel_rfl) (by kernel_rfl) (fun _ _ _ h => h) (.inl ⟨by rfl, fun W hW => exec_move rfl rfl⟩) hS0 ?_
      simp only [Act.put, List.setIfInBounds_toArray, List.set_cons_zero, List.set_cons_succ]
      refine alw_take (i := 14) (v := .pointer (some ⟨b1, 0 + i * 2, none⟩)) rfl (by kernel_rfl) (by kernel_rfl) (fun _ _ _ h => h) (.inl ⟨by rfl, fun W hW => gx_iaddr (i := i) (sz := 2) rfl rfl rfl Try.underlying29 size_ref HIN.out rfl⟩) hS0 ?_
      simp only [Act.put, List.setIfInBounds_toArray, List.set_cons_zero, List.set_cons_succ]
      refine alw_take (i := 15) (v := .pointer (some ⟨b1, 0 + i * 2 + 0, none⟩)) rfl (by kernel_rfl) (by kernel_rfl) (fun _ _ _ h => h) (.inl ⟨by rfl, fun W hW => exec_field (off := 0 + i * 2) (d := 0) rfl rfl (by kernel_rfl)⟩) hS0 ?_
      simp only [Act.put, List.setIfInBounds_toArray, List.set_cons_zero, List.set_cons_succ]
      refine alw_take (i := 16) (v := strV p.1) rfl (by kernel_rfl) (by kernel_rfl) (fun _ _ _ h => h) (.inl ⟨by rfl, fun W hW => exec_load1 rfl rfl (by kernel_rfl) hW.2⟩) hS0 ?_
      simp only [Act.put, List.setIfInBounds_toArray, List.set_cons_zero, List.set_cons_succ]
      refine alw_take (i := 17) (v := strV k) rfl (by kernel_rfl) (by kernel_rfl) (fun _ _ _ h => h) (.inl ⟨by rfl, fun W hW => exec_move rfl rfl⟩) hS0 ?_
      simp only [Act.put, List.setIfInBounds_toArray, List.set_cons_zero, List.set_cons_succ]
      refine alw_take (i := 18) (v := .bool (hasAt k l)) rfl (by kernel_rfl) (by kernel_rfl) (fun _ _ _ h => h) (.inl ⟨by rfl, fun W hW => exec_seqlr rfl rfl rfl HHA.out.symm⟩) hS0 ?_
      simp only [Act.put, List.setIfInBounds_toArray, List.set_cons_zero, List.set_cons_succ]
      refine alw_take (i := 19) (v := .bool (hasAt k l)) rfl (by kernel_rfl) (by kernel_rfl) (fun _ _ _ h => h) (.inl ⟨by rfl, fun W hW => ix_pickT rfl rfl rfl⟩) hS0 ?_
      simp only [Act.put, List.setIfInBounds_toArray, List.set_cons_zero, List.set_cons_succ]
      refine alw_take (i := 20) (v := .int .i64 (i : Int)) rfl (by kernel_rfl) (by kernel_rfl) (fun _ _ _ h => h) (.inl ⟨by rfl, fun W hW => gx_assign rfl rfl⟩) hS0 ?_
      simp only [Act.put, List.setIfInBounds_toArray, List.set_cons_zero, List.set_cons_succ]
      refine alw_take (i := 21) (v := .bool (hasAt k l)) rfl (by kernel_rfl) (by kernel_rfl) (fun _ _ _ h => h) (.inl ⟨by rfl, fun W hW => gx_assign rfl rfl⟩) hS0 ?_
      simp only [Act.put, List.setIfInBounds_toArray, List.set_cons_zero, List.set_cons_succ]
      refine alw_done rfl ?_
      refine NoPanic.normal ?_
      clear hS0
      try simp only [Act.put, List.setIfInBounds_toArray, List.set_cons_zero, List.set_cons_succ]
      go_wp2_with fail
      go_ret2
      exact ⟨rfl, HTR.out.drew⟩
    · have y3 : ¬ (i : Int) < (n : Int) := by omega
      have HHA := Lib.hid (show hasAt k l = false from by unfold hasAt; rw [List.getElem?_eq_none (by rw [← HM.out, ← HN.out]; omega)])
      clear him
      refine wpList_run (v := .int .i64 (i : Int)) (wanted_none rfl) (exec_move rfl rfl) ?_
      simp only [Act.put, List.setIfInBounds_toArray, List.set_cons_zero, List.set_cons_succ]
      refine wpList_run (v := .pointer (some ⟨y, 0, none⟩)) (wanted_none rfl) (exec_move rfl rfl) ?_
      simp only [Act.put, List.setIfInBounds_toArray, List.set_cons_zero, List.set_cons_succ]
      refine wpList_run (v := .pointer (some ⟨y, 0, none⟩)) (wanted_none rfl) (exec_nil rfl rfl) ?_
      simp only [Act.put, List.setIfInBounds_toArray, List.set_cons_zero, List.set_cons_succ]
      refine wpList_run (v := .pointer (some ⟨y, 0, none⟩)) (wanted_none rfl) (exec_field (off := 0) (d := 0) rfl rfl (by kernel_rfl)) ?_
      simp only [Act.put, List.setIfInBounds_toArray, List.set_cons_zero, List.set_cons_succ]
      refine wpList_run (v := .slice A n c) (wanted_none rfl) (exec_load1 rfl rfl (by kernel_rfl) (HR2.out.blk.cell 0)) ?_
      simp only [Act.put, List.setIfInBounds_toArray, List.set_cons_zero, List.set_cons_succ]
      refine wpList_run (v := .int .i64 (n : Int)) (wanted_none rfl) (gx_len rfl rfl Try.underlying29) ?_
      simp only [Act.put, List.setIfInBounds_toArray, List.set_cons_zero, List.set_cons_succ]
      refine wpList_run (v := .bool false) (wanted_none rfl) (ix_lss rfl rfl rfl (decide_eq_false (by omega))) ?_
      simp only [Act.put, List.setIfInBounds_toArray, List.set_cons_zero, List.set_cons_succ]
      refine wpList_run (v := .bool false) (wanted_none rfl) (exec_move rfl rfl) ?_
      simp only [Act.put, List.setIfInBounds_toArray, List.set_cons_zero, List.set_cons_succ]
      go_wp2_with fail
      refine HKC.out _ _ ?_
      go_upto_region 4 with fail
      refine wp_region_alw (fun W => Blk W y 31 #[.slice A n c]) (by kernel_rfl) ?_
      have hS0 := HR2.out.blk
      refine alw_take (i := 0) (v := .int .i64 (i : Int)) rfl (by kernel_rfl) (by kernel_rfl) (fun _ _ _ h => h) (.inl ⟨by rfl, fun W hW => exec_move rfl rfl⟩) hS0 ?_
      simp only [Act.put, List.setIfInBounds_toArray, List.set_cons_zero, List.set_cons_succ]
      refine alw_take (i := 1) (v := .int .i64 (i : Int)) rfl (by kernel_rfl) (by kernel_rfl) (fun _ _ _ h => h) (.inl ⟨by rfl, fun W hW => exec_move rfl rfl⟩) hS0 ?_
      simp only [Act.put, List.setIfInBounds_toArray, List.set_cons_zero, List.set_cons_succ]
      refine alw_take (i := 2) (v := .pointer (some ⟨y, 0, none⟩)) rfl (by kernel_rfl) (by kernel_rfl) (fun _ _ _ h => h) (.inl ⟨by rfl, fun W hW => exec_move rfl rfl⟩) hS0 ?_
      simp only [Act.put, List.setIfInBounds_toArray, List.set_cons_zero, List.set_cons_succ]
      refine alw_take (i := 3) (v := .pointer (some ⟨y, 0, none⟩)) rfl (by kernel_rfl) (by kernel_rfl) (fun _ _ _ h => h) (.inl ⟨by rfl, fun W hW => exec_nil rfl rfl⟩) hS0 ?_
      simp only [Act.put, List.setIfInBounds_toArray, List.set_cons_zero, List.set_cons_succ]
      refine alw_take (i := 4) (v := .pointer (some ⟨y, 0, none⟩)) rfl (by kernel_rfl) (by kernel_rfl) (fun _ _ _ h => h) (.inl ⟨by rfl, fun W hW => exec_field (off := 0) (d := 0) rfl rfl (by kernel_rfl)⟩) hS0 ?_
      simp only [Act.put, List.setIfInBounds_toArray, List.set_cons_zero, List.set_cons_succ]
      refine alw_take (i := 5) (v := .slice A n c) rfl (by kernel_rfl) (by kernel_rfl) (fun _ _ _ h => h) (.inl ⟨by rfl, fun W hW => exec_load1 rfl rfl (by kernel_rfl) (hW.cell 0)⟩) hS0 ?_
      simp only [Act.put, List.setIfInBounds_toArray, List.set_cons_zero, List.set_cons_succ]
      refine alw_take (i := 6) (v := .int .i64 (n : Int)) rfl (by kernel_rfl) (by kernel_rfl) (fun _ _ _ h => h) (.inl ⟨by rfl, fun W hW => gx_len rfl rfl Try.underlying29⟩) hS0 ?_
      simp only [Act.put, List.setIfInBounds_toArray, List.set_cons_zero, List.set_cons_succ]
      refine alw_take (i := 7) (v := .bool false) rfl (by kernel_rfl) (by kernel_rfl) (fun _ _ _ h => h) (.inl ⟨by rfl, fun W hW => ix_lss rfl rfl rfl (decide_eq_false (by omega))⟩) hS0 ?_
      simp only [Act.put, List.setIfInBounds_toArray, List.set_cons_zero, List.set_cons_succ]
      refine alw_take (i := 8) (v := .bool false) rfl (by kernel_rfl) (by kernel_rfl) (fun _ _ _ h => h) (.inl ⟨by rfl, fun W hW => exec_move rfl rfl⟩) hS0 ?_
      simp only [Act.put, List.setIfInBounds_toArray, List.set_cons_zero, List.set_cons_succ]
      refine alw_take (i := 9) (v := undef) rfl (by kernel_rfl) (by kernel_rfl) (fun _ _ _ h => h) (.inr ⟨by rfl, rfl⟩) hS0 ?_
      simp only [Act.put, List.setIfInBounds_toArray, List.set_cons_zero, List.set_cons_succ]
      refine alw_take (i := 10) (v := undef) rfl (by kernel_rfl) (by kernel_rfl) (fun _ _ _ h => h) (.inr ⟨by rfl, rfl⟩) hS0 ?_
      simp only [Act.put, List.setIfInBounds_toArray, List.set_cons_zero, List.set_cons_succ]
      refine alw_take (i := 11) (v := undef) rfl (by kernel_rfl) (by kernel_rfl) (fun _ _ _ h => h) (.inr ⟨by rfl, rfl⟩) hS0 ?_
      simp only [Act.put, List.setIfInBounds_toArray, List.set_cons_zero, List.set_cons_succ]
      refine alw_take (i := 12) (v := undef) rfl (by kernel_rfl) (by kernel_rfl) (fun _ _ _ h => h) (.inr ⟨by rfl, rfl⟩) hS0 ?_
      simp only [Act.put, List.setIfInBounds_toArray, List.set_cons_zero, List.set_cons_succ]
      refine alw_take (i := 13) (v := undef) rfl (by kernel_rfl) (by kernel_rfl) (fun _ _ _ h => h) (.inr ⟨by rfl, rfl⟩) hS0 ?_
      simp only [Act.put, List.setIfInBounds_toArray, List.set_cons_zero, List.set_cons_succ]
      refine alw_take (i := 14) (v := undef) rfl (by kernel_rfl) (by kernel_rfl) (fun _ _ _ h => h) (.inr ⟨by rfl, rfl⟩) hS0 ?_
      simp only [Act.put, List.setIfInBounds_toArray, List.set_cons_zero, List.set_cons_succ]
      refine alw_take (i := 15) (v := undef) rfl (by kernel_rfl) (by kernel_rfl) (fun _ _ _ h => h) (.inr ⟨by rfl, rfl⟩) hS0 ?_
      simp only [Act.put, List.setIfInBounds_toArray, List.set_cons_zero, List.set_cons_succ]
      refine alw_take (i := 16) (v := undef) rfl (by kernel_rfl) (by kernel_rfl) (fun _ _ _ h => h) (.inr ⟨by rfl, rfl⟩) hS0 ?_
      simp only [Act.put, List.setIfInBounds_toArray, List.set_cons_zero, List.set_cons_succ]
      refine alw_take (i := 17) (v := undef) rfl (by kernel_rfl) (by kernel_rfl) (fun _ _ _ h => h) (.inr ⟨by rfl, rfl⟩) hS0 ?_
      simp only [Act.put, List.setIfInBounds_toArray, List.set_cons_zero, List.set_cons_succ]
      refine alw_take (i := 18) (v := undef) rfl (by kernel_rfl) (by kernel_rfl) (fun _ _ _ h => h) (.inr ⟨by rfl, rfl⟩) hS0 ?_
      simp only [Act.put, List.setIfInBounds_toArray, List.set_cons_zero, List.set_cons_succ]
      refine alw_take (i := 19) (v := .bool false) rfl (by kernel_rfl) (by kernel_rfl) (fun _ _ _ h => h) (.inl ⟨by rfl, fun W hW => ix_pickF rfl rfl rfl⟩) hS0 ?_
      simp only [Act.put, List.setIfInBounds_toArray, List.set_cons_zero, List.set_cons_succ]
      refine alw_take (i := 20) (v := .int .i64 (i : Int)) rfl (by kernel_rfl) (by kernel_rfl) (fun _ _ _ h => h) (.inl ⟨by rfl, fun W hW => gx_assign rfl rfl⟩) hS0 ?_
      simp only [Act.put, List.setIfInBounds_toArray, List.set_cons_zero, List.set_cons_succ]
      refine alw_take (i := 21) (v := .bool false) rfl (by kernel_rfl) (by kernel_rfl) (fun _ _ _ h => h) (.inl ⟨by rfl, fun W hW => gx_assign rfl rfl⟩) hS0 ?_
      simp only [Act.put, List.setIfInBounds_toArray, List.set_cons_zero, List.set_cons_succ]
      refine alw_done rfl ?_
      refine NoPanic.normal ?_
      clear hS0
      try simp only [Act.put, List.setIfInBounds_toArray, List.set_cons_zero, List.set_cons_succ]
      go_wp2_with fail
      go_ret2
      rw [HHA.out]
      exact ⟨rfl, HTR.out.drew⟩
set_option maxRecDepth 20000 in
set_option maxHeartbeats 4000000 in
theorem rGet_walk {w : World} {B y : Nat} {v : Value} {l : List Pr} {k : Key} (h : Rf w B y v l) (hl : l.length ≤ 100000) (hs : Srt l) :
    Calls Try.prog 15 #[.pointer (some ⟨y, 0, none⟩), strV k] w fun e w' => e = .returned (retV (lget k l)) ∧ Turn nowhere w w' := by
  obtain ⟨A, c, rfl, _⟩ := h.row.form
  rw [List.length_map] at *
  obtain ⟨n, hn⟩ : ∃ n, n = l.length := ⟨_, rfl⟩
  rw [← hn] at h
  have HR := Lib.hid h
  have HN := Lib.hid hn
  have HL := Lib.hid hl
  have HS := Lib.hid hs
  have HAT := Lib.hid (at_walk (k := k) h hl)
  clear h hn hl hs
  go_enter Try.func15, Try.ntmps15
  go_upto_region 0 with fail
  refine wp_region_lit ?_
  refine wpList_run (v := .int .i64 0) (wanted_none rfl) (gx_assign rfl rfl) ?_
  simp only [Act.put, List.setIfInBounds_toArray, List.set_cons_zero, List.set_cons_succ]
  refine wpList_run (v := .bool false) (wanted_none rfl) (gx_assign rfl rfl) ?_
  simp only [Act.put, List.setIfInBounds_toArray, List.set_cons_zero, List.set_cons_succ]
  cases hh : hasAt k l with
  | false =>
    have HG := Lib.hid (has_no HS.out hh)
    rw [hh] at HAT
    clear hh
    go_upto_region 1 with fail
    refine wp_region_lit ?_
    refine wpList_run (v := .pointer (some ⟨y, 0, none⟩)) (wanted_none rfl) (exec_move rfl rfl) ?_
    simp only [Act.put, List.setIfInBounds_toArray, List.set_cons_zero, List.set_cons_succ]
    refine wpList_run (v := strV k) (wanted_none rfl) (exec_move rfl rfl) ?_
    simp only [Act.put, List.setIfInBounds_toArray, List.set_cons_zero, List.set_cons_succ]
    refine wpList_op rfl fun K9 HK9 => ?_
    go_wp2_with fail
    refine (HAT.out).mono ?_
    rintro e w1 ⟨rfl, ht1⟩
    refine HK9.out _ _ ?_
    clear HK9
    try simp only [Act.put, List.setIfInBounds_toArray, List.set_cons_zero, List.set_cons_succ]
    have HT1 := Lib.hid ht1
    clear ht1 HAT
    refine wpList_run (v := .tuple #[.int .i64 (fnd k l : Int), .bool false]) (wanted_none rfl) (exec_move rfl rfl) ?_
    simp only [Act.put, List.setIfInBounds_toArray, List.set_cons_zero, List.set_cons_succ]
    refine wpList_run (v := .int .i64 (fnd k l : Int)) (wanted_none rfl) (ix_extract rfl rfl rfl) ?_
    simp only [Act.put, List.setIfInBounds_toArray, List.set_cons_zero, List.set_cons_succ]
    refine wpList_run (v := .bool false) (wanted_none rfl) (ix_extract rfl rfl rfl) ?_
    simp only [Act.put, List.setIfInBounds_toArray, List.set_cons_zero, List.set_cons_succ]
    refine wpList_run (v := .int .i64 (fnd k l : Int)) (wanted_none rfl) (gx_assign rfl rfl) ?_
    simp only [Act.put, List.setIfInBounds_toArray, List.set_cons_zero, List.set_cons_succ]
    refine wpList_run (v := .bool false) (wanted_none rfl) (gx_assign rfl rfl) ?_
    simp only [Act.put, List.setIfInBounds_toArray, List.set_cons_zero, List.set_cons_succ]
    go_upto_region 2 with fail
    refine wp_region_lit ?_
    refine wpList_run (v := .bool false) (wanted_none rfl) (exec_move rfl rfl) ?_
    simp only [Act.put, List.setIfInBounds_toArray, List.set_cons_zero, List.set_cons_succ]
    refine wpList_run (v := .bool true) (wanted_none rfl) (ix_not (b := false) rfl rfl) ?_
    simp only [Act.put, List.setIfInBounds_toArray, List.set_cons_zero, List.set_cons_succ]
    go_upto_region 3 with fail
    refine wp_region_lit ?_
    refine wpList_run (v := .int .i64 0) (wanted_none rfl) (gx_assign rfl rfl) ?_
    simp only [Act.put, List.setIfInBounds_toArray, List.set_cons_zero, List.set_cons_succ]
    refine wpList_run (v := .bool false) (wanted_none rfl) (gx_assign rfl rfl) ?_
    simp only [Act.put, List.setIfInBounds_toArray, List.set_cons_zero, List.set_cons_succ]
    go_wp2_with fail
    go_ret2
    rw [HG.out]
    exact ⟨rfl, HT1.out⟩
  | true =>
    obtain ⟨p, hp, hpk, hg⟩ := has_yes HS.out hh
    obtain ⟨i, hi⟩ : ∃ i, i = fnd k l := ⟨_, rfl⟩
    rw [← hi] at HAT hp
    rw [hh] at HAT
    have HP := Lib.hid hp
    have HG := Lib.hid hg
    have HIN := Lib.hid (show i < n from by rw [HN.out]; exact (List.getElem?_eq_some_iff.1 hp).1)
    obtain ⟨b1, c1, e1, _, _⟩ := HR.out.row.some_ (by rw [List.length_map, ← HN.out]; have := HIN.out; omega)
    injection e1 with e2 e3 e4
    subst e2
    clear e3 e4 hh hp hpk hg hi
    go_upto_region 1 with fail
    refine wp_region_lit ?_
    refine wpList_run (v := .pointer (some ⟨y, 0, none⟩)) (wanted_none rfl) (exec_move rfl rfl) ?_
    simp only [Act.put, List.setIfInBounds_toArray, List.set_cons_zero, List.set_cons_succ]
    refine wpList_run (v := strV k) (wanted_none rfl) (exec_move rfl rfl) ?_
    simp only [Act.put, List.setIfInBounds_toArray, List.set_cons_zero, List.set_cons_succ]
    refine wpList_op rfl fun K9 HK9 => ?_
    go_wp2_with fail
    refine (HAT.out).mono ?_
    rintro e w1 ⟨rfl, ht1⟩
    refine HK9.out _ _ ?_
    clear HK9
    try simp only [Act.put, List.setIfInBounds_toArray, List.set_cons_zero, List.set_cons_succ]
    have HT1 := Lib.hid ht1
    have HR2 := Lib.hid (HR.out.still ht1)
    clear ht1 HAT
    refine wpList_run (v := .tuple #[.int .i64 (i : Int), .bool true]) (wanted_none rfl) (exec_move rfl rfl) ?_
    simp only [Act.put, List.setIfInBounds_toArray, List.set_cons_zero, List.set_cons_succ]
    refine wpList_run (v := .int .i64 (i : Int)) (wanted_none rfl) (ix_extract rfl rfl rfl) ?_
    simp only [Act.put, List.setIfInBounds_toArray, List.set_cons_zero, List.set_cons_succ]
    refine wpList_run (v := .bool true) (wanted_none rfl) (ix_extract rfl rfl rfl) ?_
    simp only [Act.put, List.setIfInBounds_toArray, List.set_cons_zero, List.set_cons_succ]
    refine wpList_run (v := .int .i64 (i : Int)) (wanted_none rfl) (gx_assign rfl rfl) ?_
    simp only [Act.put, List.setIfInBounds_toArray, List.set_cons_zero, List.set_cons_succ]
    refine wpList_run (v := .bool true) (wanted_none rfl) (gx_assign rfl rfl) ?_
    simp only [Act.put, List.setIfInBounds_toArray, List.set_cons_zero, List.set_cons_succ]
    go_upto_region 2 with fail
    refine wp_region_lit ?_
    refine wpList_run (v := .bool true) (wanted_none rfl) (exec_move rfl rfl) ?_
    simp only [Act.put, List.setIfInBounds_toArray, List.set_cons_zero, List.set_cons_succ]
    refine wpList_run (v := .bool false) (wanted_none rfl) (ix_not (b := true) rfl rfl) ?_
    simp only [Act.put, List.setIfInBounds_toArray, List.set_cons_zero, List.set_cons_succ]
    go_upto_region 4 with fail
    refine wp_region_lit ?_
    refine wpList_run (v := .pointer (some ⟨y, 0, none⟩)) (wanted_none rfl) (exec_move rfl rfl) ?_
    simp only [Act.put, List.setIfInBounds_toArray, List.set_cons_zero, List.set_cons_succ]
    refine wpList_run (v := .pointer (some ⟨y, 0, none⟩)) (wanted_none rfl) (exec_nil rfl rfl) ?_
    simp only [Act.put, List.setIfInBounds_toArray, List.set_cons_zero, List.set_cons_succ]
    refine wpList_run (v := .pointer (some ⟨y, 0, none⟩)) (wanted_none rfl) (exec_field (off := 0) (d := 0) rfl rfl (by kernel_rfl)) ?_
    simp only [Act.put, List.setIfInBounds_toArray, List.set_cons_zero, List.set_cons_succ]
    refine wpList_run (v := .slice (some ⟨b1, 0, none⟩) n c) (wanted_none rfl) (exec_load1 rfl rfl (by kernel_rfl) (HR2.out.blk.cell 0)) ?_
    simp only [Act.put, List.setIfInBounds_toArray, List.set_cons_zero, List.set_cons_succ]
    refine wpList_run (v := .int .i64 (i : Int)) (wanted_none rfl) (exec_move rfl rfl) ?_
    simp only [Act.put, List.setIfInBounds_toArray, List.set_cons_zero, List.set_cons_succ]
    refine wpList_run (v := .pointer (some ⟨b1, 0 + i * 2, none⟩)) (wanted_none rfl) (gx_iaddr (i := i) (sz := 2) rfl rfl rfl Try.underlying29 size_ref HIN.out rfl) ?_
    simp only [Act.put, List.setIfInBounds_toArray, List.set_cons_zero, List.set_cons_succ]
    refine wpList_run (v := .pointer (some ⟨b1, 0 + i * 2 + 1, none⟩)) (wanted_none rfl) (exec_field (off := 0 + i * 2) (d := 1) rfl rfl (by kernel_rfl)) ?_
    simp only [Act.put, List.setIfInBounds_toArray, List.set_cons_zero, List.set_cons_succ]
    refine wpList_run (v := .int .i64 p.2) (wanted_none rfl) (exec_load1 rfl rfl (by kernel_rfl) (HR2.out.row.el0 (r := encP p) (by rw [List.getElem?_map, HP.out]; rfl) 1 _ rfl)) ?_
    simp only [Act.put, List.setIfInBounds_toArray, List.set_cons_zero, List.set_cons_succ]
    refine wpList_run (v := .int .i64 p.2) (wanted_none rfl) (gx_assign rfl rfl) ?_
    simp only [Act.put, List.setIfInBounds_toArray, List.set_cons_zero, List.set_cons_succ]
    refine wpList_run (v := .bool true) (wanted_none rfl) (gx_assign rfl rfl) ?_
    simp only [Act.put, List.setIfInBounds_toArray, List.set_cons_zero, List.set_cons_succ]
    go_wp2_with fail
    go_ret2
    rw [HG.out]
    exact ⟨rfl, HT1.out⟩
end Go.Proofs.Ytmlkdkbpbleilaa

namespace Go.Proofs.Ytmlkdkbpbleilaa
open Go.RowKit
open Ix
set_option linter.unusedVariables false
set_option linter.unusedSimpArgs false
theorem orw_numR {w w' : World} {B b n c i : Nat} {ps : List Pr} {q : Pr} {v : Int} (h : Orw w B 54 2 (.slice (some ⟨b, 0, none⟩) n c) (ps.map encP)) {cur : Array Value} (hb : Blk w b 54 cur) (hb' : Blk w' b 54 (cur.setIfInBounds (0 + i * 2 + 1) (.int .i64 v))) (hi : i < n) (hq : ps[i]? = some q) : Orw w' B 54 2 (.slice (some ⟨b, 0, none⟩) n c) ((ps.set i (q.1, v)).map encP) := by
  have hel := h.el0 (i := i) (r := encP q) (by rw [List.getElem?_map, hq]; rfl) 0 (strV q.1) rfl
  rw [hb.cell] at hel
  obtain ⟨cur0, hcur, hcs, _, hn, hnc, _, _⟩ := orw_block h
  obtain rfl := hcur.inj hb
  rw [List.map_set]
  refine orw_set h hb hb' (by rw [Array.size_setIfInBounds]) hi rfl (encP_one _) (fun j => ?_) (by decide)
  rw [Array.getElem?_setIfInBounds]
  by_cases h1 : 0 + i * 2 + 1 = j
  · rw [if_pos h1, if_pos (by omega), if_pos (by omega), show j - i * 2 = 1 from by omega]
    rfl
  · rw [if_neg h1]
    by_cases h2 : i * 2 ≤ j ∧ j < i * 2 + 2
    · rw [if_pos h2, show j - i * 2 = 0 from by omega, show j = 0 + i * 2 + 0 from by omega]
      exact hel
    · rw [if_neg h2]
theorem has_no2 {k : Key} {l : List Pr} (h : hasAt k l = false) : ¬ (l[fnd k l]?.map (·.1)) = some k := by
  unfold hasAt at h
  cases e : l[fnd k l]? with
  | none => intro g; cases g
  | some p =>
    rw [e] at h
    intro g
    have g : p.1 = k := Option.some.inj g
    have h : (p.1 == k) = false := h
    rw [g] at h
    simp at h
theorem fromK_nil {k : Nat} {A : Option Addr} {c d : Nat} (h : A = none → c = 0) (g : fromK k A c d = none) : c - d = 0 := by
  unfold fromK at g
  split at g
  · omega
  · cases A with
    | none => have := h rfl; omega
    | some a => cases g
theorem size_sR : (Try.prog.info? 29).map (·.size) = some 1 := by kernel_rfl
theorem buildR (k : Key) (n : Int) (W : World) : (Instr.build 54 #[(0, strV k), (1, .int .i64 n)]).run Try.prog W = .ok (.agg (encP (k, n)).toArray) W := by kernel_rfl
/-- what a call makes of the reference's index -/
def RfTo (w : World) (B y : Nat) (v : Value) (l : List Pr) (w' : World) : Prop := ∃ v', Rf w' B y v' l ∧ Turn (fp y v) w w' ∧ ∀ b, fp y v' b → fp y v b ∨ w.heap.size ≤ b
theorem Rf.fit {w : World} {B y : Nat} {v : Value} {l : List Pr} (h : Rf w B y v l) : Fit 2 (l.map encP) := h.row.1
set_option maxRecDepth 20000 in
set_option maxHeartbeats 4000000 in
theorem rPut_walk {w : World} {B y : Nat} {v : Value} {l : List Pr} {k : Key} {x : Int} (h : Rf w B y v l) (hB : B ≤ w.heap.size) (hl : l.length ≤ 100000) (hs : Srt l) :
    Calls Try.prog 11 #[.pointer (some ⟨y, 0, none⟩), strV k, .int .i64 x] w fun e w' => e = .returned (retV (lget k l)) ∧ RfTo w B y v (lput k x l) w' := by
  obtain ⟨A, c, rfl, hlc, _, hcz, _⟩ := h.row.form
  rw [List.length_map] at *
  obtain ⟨n, hn⟩ : ∃ n, n = l.length := ⟨_, rfl⟩
  rw [← hn] at h hlc ⊢
  have HR := Lib.hid h
  have HB := Lib.hid hB
  have HN := Lib.hid hn
  have HL := Lib.hid hl
  have HS := Lib.hid hs
  have HLC := Lib.hid hlc
  have HCZ := Lib.hid hcz
  have HAT := Lib.hid (at_walk (k := k) h hl)
  have yn : (n : Int) ≤ 100000 := by omega
  clear h hB hn hl hs hlc hcz
  go_enter Try.func11, Try.ntmps11
  go_upto_region 0 with fail
  refine wp_region_lit ?_
  refine wpList_run (v := .int .i64 0) (wanted_none rfl) (gx_assign rfl rfl) ?_
  simp only [Act.put, List.setIfInBounds_toArray, List.set_cons_zero, List.set_cons_succ]
  refine wpList_run (v := .bool false) (wanted_none rfl) (gx_assign rfl rfl) ?_
  simp only [Act.put, List.setIfInBounds_toArray, List.set_cons_zero, List.set_cons_succ]
  cases hh : hasAt k l with
  | true =>
    obtain ⟨p, hp, hpk, hg⟩ := has_yes HS.out hh
    obtain ⟨i, hi⟩ : ∃ i, i = fnd k l := ⟨_, rfl⟩
    rw [← hi] at HAT hp
    rw [hh] at HAT
    have HI := Lib.hid hi
    have HP := Lib.hid hp
    have HPK := Lib.hid hpk
    have HG := Lib.hid hg
    have HIN := Lib.hid (show i < n from by rw [HN.out]; exact (List.getElem?_eq_some_iff.1 hp).1)
    obtain ⟨b1, c1, e1, _, _⟩ := HR.out.row.some_ (by rw [List.length_map, ← HN.out]; have := HIN.out; omega)
    injection e1 with e2 e3 e4
    subst e2
    have yi : (i : Int) < (n : Int) := by have := HIN.out; omega
    clear e3 e4 hh hp hpk hg hi
    go_upto_region 1 with fail
    refine wp_region_lit ?_
    refine wpList_run (v := .pointer (some ⟨y, 0, none⟩)) (wanted_none rfl) (exec_move rfl rfl) ?_
    simp only [Act.put, List.setIfInBounds_toArray, List.set_cons_zero, List.set_cons_succ]
    refine wpList_run (v := strV k) (wanted_none rfl) (exec_move rfl rfl) ?_
    simp only [Act.put, List.setIfInBounds_toArray, List.set_cons_zero, List.set_cons_succ]
    refine wpList_op rfl fun K9 HK9 => ?_
    go_wp2_with fail
    refine (HAT.out).mono ?_
    rintro e w1 ⟨rfl, ht1⟩
    refine HK9.out _ _ ?_
    clear HK9
    try simp only [Act.put, List.setIfInBounds_toArray, List.set_cons_zero, List.set_cons_succ]
    have HT1 := Lib.hid ht1
    have HR1 := Lib.hid (HR.out.still ht1)
    have HB1 := Lib.hid (Nat.le_trans HB.out ht1.size)
    clear ht1 HAT
    refine wpList_run (v := .tuple #[.int .i64 (i : Int), .bool true]) (wanted_none rfl) (exec_move rfl rfl) ?_
    simp only [Act.put, List.setIfInBounds_toArray, List.set_cons_zero, List.set_cons_succ]
    refine wpList_run (v := .int .i64 (i : Int)) (wanted_none rfl) (ix_extract rfl rfl rfl) ?_
    simp only [Act.put, List.setIfInBounds_toArray, List.set_cons_zero, List.set_cons_succ]
    refine wpList_run (v := .bool true) (wanted_none rfl) (ix_extract rfl rfl rfl) ?_
    simp only [Act.put, List.setIfInBounds_toArray, List.set_cons_zero, List.set_cons_succ]
    refine wpList_run (v := .int .i64 (i : Int)) (wanted_none rfl) (gx_assign rfl rfl) ?_
    simp only [Act.put, List.setIfInBounds_toArray, List.set_cons_zero, List.set_cons_succ]
    refine wpList_run (v := .bool true) (wanted_none rfl) (gx_assign rfl rfl) ?_
    simp only [Act.put, List.setIfInBounds_toArray, List.set_cons_zero, List.set_cons_succ]
    go_upto_region 2 with fail
    refine wp_region_lit ?_
    refine wpList_run (v := .bool true) (wanted_none rfl) (exec_move rfl rfl) ?_
    simp only [Act.put, List.setIfInBounds_toArray, List.set_cons_zero, List.set_cons_succ]
    go_upto_region 3 with fail
    refine wp_region_lit ?_
    refine wpList_run (v := .pointer (some ⟨y, 0, none⟩)) (wanted_none rfl) (exec_move rfl rfl) ?_
    simp only [Act.put, List.setIfInBounds_toArray, List.set_cons_zero, List.set_cons_succ]
    refine wpList_run (v := .pointer (some ⟨y, 0, none⟩)) (wanted_none rfl) (exec_nil rfl rfl) ?_
    simp only [Act.put, List.setIfInBounds_toArray, List.set_cons_zero, List.set_cons_succ]
    refine wpList_run (v := .pointer (some ⟨y, 0, none⟩)) (wanted_none rfl) (exec_field (off := 0) (d := 0) rfl rfl (by kernel_rfl)) ?_
    simp only [Act.put, List.setIfInBounds_toArray, List.set_cons_zero, List.set_cons_succ]
    refine wpList_run (v := .slice (some ⟨b1, 0, none⟩) n c) (wanted_none rfl) (exec_load1 rfl rfl (by kernel_rfl) (HR1.out.blk.cell 0)) ?_
    simp only [Act.put, List.setIfInBounds_toArray, List.set_cons_zero, List.set_cons_succ]
    refine wpList_run (v := .int .i64 (i : Int)) (wanted_none rfl) (exec_move rfl rfl) ?_
    simp only [Act.put, List.setIfInBounds_toArray, List.set_cons_zero, List.set_cons_succ]
    refine wpList_run (v := .pointer (some ⟨b1, 0 + i * 2, none⟩)) (wanted_none rfl) (gx_iaddr (i := i) (sz := 2) rfl rfl rfl Try.underlying29 size_ref HIN.out rfl) ?_
    simp only [Act.put, List.setIfInBounds_toArray, List.set_cons_zero, List.set_cons_succ]
    refine wpList_run (v := .pointer (some ⟨b1, 0 + i * 2 + 1, none⟩)) (wanted_none rfl) (exec_field (off := 0 + i * 2) (d := 1) rfl rfl (by kernel_rfl)) ?_
    simp only [Act.put, List.setIfInBounds_toArray, List.set_cons_zero, List.set_cons_succ]
    refine wpList_run (v := .int .i64 p.2) (wanted_none rfl) (exec_load1 rfl rfl (by kernel_rfl) (HR1.out.row.el0 (r := encP p) (by rw [List.getElem?_map, HP.out]; rfl) 1 _ rfl)) ?_
    simp only [Act.put, List.setIfInBounds_toArray, List.set_cons_zero, List.set_cons_succ]
    refine wpList_run (v := .int .i64 p.2) (wanted_none rfl) (gx_assign rfl rfl) ?_
    simp only [Act.put, List.setIfInBounds_toArray, List.set_cons_zero, List.set_cons_succ]
    go_upto_region 4 with fail
    refine wp_region_lit ?_
    refine wpList_run (v := .pointer (some ⟨y, 0, none⟩)) (wanted_none rfl) (exec_move rfl rfl) ?_
    simp only [Act.put, List.setIfInBounds_toArray, List.set_cons_zero, List.set_cons_succ]
    refine wpList_run (v := .pointer (some ⟨y, 0, none⟩)) (wanted_none rfl) (exec_nil rfl rfl) ?_
    simp only [Act.put, List.setIfInBounds_toArray, List.set_cons_zero, List.set_cons_succ]
    refine wpList_run (v := .pointer (some ⟨y, 0, none⟩)) (wanted_none rfl) (exec_field (off := 0) (d := 0) rfl rfl (by kernel_rfl)) ?_
    simp only [Act.put, List.setIfInBounds_toArray, List.set_cons_zero, List.set_cons_succ]
    refine wpList_run (v := .slice (some ⟨b1, 0, none⟩) n c) (wanted_none rfl) (exec_load1 rfl rfl (by kernel_rfl) (HR1.out.blk.cell 0)) ?_
    simp only [Act.put, List.setIfInBounds_toArray, List.set_cons_zero, List.set_cons_succ]
    refine wpList_run (v := .int .i64 (i : Int)) (wanted_none rfl) (exec_move rfl rfl) ?_
    simp only [Act.put, List.setIfInBounds_toArray, List.set_cons_zero, List.set_cons_succ]
    refine wpList_run (v := .int .i64 x) (wanted_none rfl) (exec_move rfl rfl) ?_
    simp only [Act.put, List.setIfInBounds_toArray, List.set_cons_zero, List.set_cons_succ]
    refine wpList_run (v := .pointer (some ⟨b1, 0 + i * 2, none⟩)) (wanted_none rfl) (gx_iaddr (i := i) (sz := 2) rfl rfl rfl Try.underlying29 size_ref HIN.out rfl) ?_
    simp only [Act.put, List.setIfInBounds_toArray, List.set_cons_zero, List.set_cons_succ]
    refine wpList_run (v := .pointer (some ⟨b1, 0 + i * 2 + 1, none⟩)) (wanted_none rfl) (exec_field (off := 0 + i * 2) (d := 1) rfl rfl (by kernel_rfl)) ?_
    simp only [Act.put, List.setIfInBounds_toArray, List.set_cons_zero, List.set_cons_succ]
    obtain ⟨cur, hcur, hcs, _, _, hnc, _, _⟩ := orw_block HR1.out.row
    refine wpList_storeU (0 + i * 2 + 1) (.int .i64 x) (wanted_none rfl) 3 _ _ rfl hcur rfl rfl (by rw [hcs]; have := HIN.out; omega) ⟨rfl, rfl⟩ (by kernel_rfl) ?_
    intro w2 hb2 ht2
    simp only [Act.put, List.setIfInBounds_toArray, List.set_cons_zero, List.set_cons_succ]
    have hrow := orw_numR HR1.out.row hcur hb2 HIN.out HP.out
    have hby : b1 ≠ y := HR1.out.row.ne HR1.out.blk (by decide) _ rfl
    have HX := Lib.hid (show RfTo w B y (.slice (some ⟨b1, 0, none⟩) n c) (lput k x l) w2 from by
      refine ⟨_, ⟨HR1.out.blk.turn ht2 fun e => hby e.symm, ?_⟩, (HT1.out.mono fun _ _ e => e.elim).trans (ht2.mono fun b _ e => .inr (by rw [show b = b1 from e]; rfl)) fun b hb e => e, fun b hb => .inl hb⟩
      rw [lput_at HS.out, ← HI.out, HP.out, if_pos (by rw [← HPK.out]; rfl)]
      rw [HPK.out] at hrow
      exact hrow)
    clear hcur hcs hnc hb2 ht2 hrow hby
    go_upto_region 5 with fail
    refine wp_region_lit ?_
    refine wpList_run (v := .int .i64 p.2) (wanted_none rfl) (exec_move rfl rfl) ?_
    simp only [Act.put, List.setIfInBounds_toArray, List.set_cons_zero, List.set_cons_succ]
    refine wpList_run (v := .int .i64 p.2) (wanted_none rfl) (gx_assign rfl rfl) ?_
    simp only [Act.put, List.setIfInBounds_toArray, List.set_cons_zero, List.set_cons_succ]
    refine wpList_run (v := .bool true) (wanted_none rfl) (gx_assign rfl rfl) ?_
    simp only [Act.put, List.setIfInBounds_toArray, List.set_cons_zero, List.set_cons_succ]
    go_wp2_with fail
    go_ret2
    rw [HG.out]
    exact ⟨rfl, HX.out⟩
  | false =>
    obtain ⟨i, hi⟩ : ∃ i, i = fnd k l := ⟨_, rfl⟩
    have HG := Lib.hid (has_no HS.out hh)
    have HNO := Lib.hid (has_no2 hh)
    rw [← hi] at HAT
    rw [hh] at HAT
    have HIN2 := Lib.hid (show i ≤ n from by rw [hi, HN.out]; exact fnd_le k l)
    have HI := Lib.hid hi
    have yi : (i : Int) ≤ (n : Int) := by have := HIN2.out; omega
    clear hh hi
    go_upto_region 1 with fail
    refine wp_region_lit ?_
    refine wpList_run (v := .pointer (some ⟨y, 0, none⟩)) (wanted_none rfl) (exec_move rfl rfl) ?_
    simp only [Act.put, List.setIfInBounds_toArray, List.set_cons_zero, List.set_cons_succ]
    refine wpList_run (v := strV k) (wanted_none rfl) (exec_move rfl rfl) ?_
    simp only [Act.put, List.setIfInBounds_toArray, List.set_cons_zero, List.set_cons_succ]
    refine wpList_op rfl fun K9 HK9 => ?_
    go_wp2_with fail
    refine (HAT.out).mono ?_
    rintro e w1 ⟨rfl, ht1⟩
    refine HK9.out _ _ ?_
    clear HK9
    try simp only [Act.put, List.setIfInBounds_toArray, List.set_cons_zero, List.set_cons_succ]
    have HT1 := Lib.hid ht1
    have HR1 := Lib.hid (HR.out.still ht1)
    have HB1 := Lib.hid (Nat.le_trans HB.out ht1.size)
    clear ht1 HAT
    refine wpList_run (v := .tuple #[.int .i64 (i : Int), .bool false]) (wanted_none rfl) (exec_move rfl rfl) ?_
    simp only [Act.put, List.setIfInBounds_toArray, List.set_cons_zero, List.set_cons_succ]
    refine wpList_run (v := .int .i64 (i : Int)) (wanted_none rfl) (ix_extract rfl rfl rfl) ?_
    simp only [Act.put, List.setIfInBounds_toArray, List.set_cons_zero, List.set_cons_succ]
    refine wpList_run (v := .bool false) (wanted_none rfl) (ix_extract rfl rfl rfl) ?_
    simp only [Act.put, List.setIfInBounds_toArray, List.set_cons_zero, List.set_cons_succ]
    refine wpList_run (v := .int .i64 (i : Int)) (wanted_none rfl) (gx_assign rfl rfl) ?_
    simp only [Act.put, List.setIfInBounds_toArray, List.set_cons_zero, List.set_cons_succ]
    refine wpList_run (v := .bool false) (wanted_none rfl) (gx_assign rfl rfl) ?_
    simp only [Act.put, List.setIfInBounds_toArray, List.set_cons_zero, List.set_cons_succ]
    go_upto_region 2 with fail
    refine wp_region_lit ?_
    refine wpList_run (v := .bool false) (wanted_none rfl) (exec_move rfl rfl) ?_
    simp only [Act.put, List.setIfInBounds_toArray, List.set_cons_zero, List.set_cons_succ]
    obtain ⟨A7, c7, w7, hrun, hrow, ht7⟩ := copy_rws elmR (ty := 29) (c := c) (rws_to (e := i) (HR1.out.row.rws (by rw [List.length_map, ← HN.out]; omega) (by decide)) (by have := HIN2.out; omega)) (Fit.sub HR1.out.fit fun r hr => List.mem_of_mem_take hr) HCZ.out (by have := HIN2.out; omega)
    have HRUN7 := Lib.hid hrun
    have HO7 := Lib.hid hrow
    have HT7 := Lib.hid ht7
    clear hrun hrow ht7
    go_upto_region 6 with fail
    refine wp_region_lit ?_
    refine wpList_run (v := .slice (some ⟨w1.heap.size, 0, none⟩) 0 0) (w' := w1.alloc (.cells #[] 54)) (wanted_none rfl) (bx_slice0 rfl (build0R _)) ?_
    simp only [Act.put, List.setIfInBounds_toArray, List.set_cons_zero, List.set_cons_succ]
    refine wpList_run (v := .pointer (some ⟨y, 0, none⟩)) (wanted_none rfl) (exec_move rfl rfl) ?_
    simp only [Act.put, List.setIfInBounds_toArray, List.set_cons_zero, List.set_cons_succ]
    refine wpList_run (v := .pointer (some ⟨y, 0, none⟩)) (wanted_none rfl) (exec_nil rfl rfl) ?_
    simp only [Act.put, List.setIfInBounds_toArray, List.set_cons_zero, List.set_cons_succ]
    refine wpList_run (v := .pointer (some ⟨y, 0, none⟩)) (wanted_none rfl) (exec_field (off := 0) (d := 0) rfl rfl (by kernel_rfl)) ?_
    simp only [Act.put, List.setIfInBounds_toArray, List.set_cons_zero, List.set_cons_succ]
    refine wpList_run (v := .slice A n c) (wanted_none rfl) (exec_load1 rfl rfl (by kernel_rfl) ((HR1.out.blk.alloc _).cell 0)) ?_
    simp only [Act.put, List.setIfInBounds_toArray, List.set_cons_zero, List.set_cons_succ]
    refine wpList_run (v := .int .i64 (i : Int)) (wanted_none rfl) (exec_move rfl rfl) ?_
    simp only [Act.put, List.setIfInBounds_toArray, List.set_cons_zero, List.set_cons_succ]
    refine wpList_run (v := .slice A i c) (wanted_none rfl) (exec_slice rfl rfl rfl rfl rfl (sl_to elmR A n c i (by have := HIN2.out; have := HLC.out; omega) _)) ?_
    simp only [Act.put, List.setIfInBounds_toArray, List.set_cons_zero, List.set_cons_succ]
    refine wpList_run (v := .slice A7 i c7) (w' := w7) (wanted_none rfl) (exec_append rfl rfl rfl HRUN7.out) ?_
    simp only [Act.put, List.setIfInBounds_toArray, List.set_cons_zero, List.set_cons_succ]
    refine wpList_run (v := .slice A7 i c7) (wanted_none rfl) (gx_assign rfl rfl) ?_
    simp only [Act.put, List.setIfInBounds_toArray, List.set_cons_zero, List.set_cons_succ]
    have hlm : ((l.map encP).take i).length = i := by rw [List.length_take, List.length_map, ← HN.out]; have := HIN2.out; omega
    obtain ⟨A8, c8, w8, hrun, hrow, ht8⟩ := orw_add elmR (ty := 29) (W1 := w1) HO7.out HT7.out (encP (k, x)) rfl (encP_one _) (by rw [hlm]; omega)
    rw [hlm] at hrun hrow
    have HRUN8 := Lib.hid hrun
    have HO8 := Lib.hid hrow
    have HT8 := Lib.hid ht8
    clear hrun hrow ht8
    go_upto_region 7 with fail
    refine wp_region_lit ?_
    refine wpList_run (v := .slice A7 i c7) (wanted_none rfl) (exec_move rfl rfl) ?_
    simp only [Act.put, List.setIfInBounds_toArray, List.set_cons_zero, List.set_cons_succ]
    refine wpList_run (v := strV k) (wanted_none rfl) (exec_move rfl rfl) ?_
    simp only [Act.put, List.setIfInBounds_toArray, List.set_cons_zero, List.set_cons_succ]
    refine wpList_run (v := .int .i64 x) (wanted_none rfl) (exec_move rfl rfl) ?_
    simp only [Act.put, List.setIfInBounds_toArray, List.set_cons_zero, List.set_cons_succ]
    refine wpList_run (v := .agg (encP (k, x)).toArray) (wanted_none rfl) (gx_build2 rfl rfl rfl (buildR k x _)) ?_
    simp only [Act.put, List.setIfInBounds_toArray, List.set_cons_zero, List.set_cons_succ]
    refine wpList_run (v := .slice (some ⟨w7.heap.size, 0, none⟩) 1 1) (w' := w7.alloc (.cells (encP (k, x)).toArray 54)) (wanted_none rfl) (exec_buildSlice1 rfl rfl (build_one elmR (encP (k, x)) rfl (by decide) _ rfl _)) ?_
    simp only [Act.put, List.setIfInBounds_toArray, List.set_cons_zero, List.set_cons_succ]
    refine wpList_run (v := .slice A8 (i + 1) c8) (w' := w8) (wanted_none rfl) (exec_append rfl rfl rfl HRUN8.out) ?_
    simp only [Act.put, List.setIfInBounds_toArray, List.set_cons_zero, List.set_cons_succ]
    refine wpList_run (v := .slice A8 (i + 1) c8) (wanted_none rfl) (gx_assign rfl rfl) ?_
    simp only [Act.put, List.setIfInBounds_toArray, List.set_cons_zero, List.set_cons_succ]
    have HR8 := Lib.hid (HR1.out.still HT8.out)
    obtain ⟨A9, c9, w9, hrun, hrow, ht9⟩ := orw_more elmR (ty := 29) (W1 := w1) (c := c - i) HO8.out HT8.out (rws_from (d := i) (HR8.out.row.rws (by rw [List.length_map, ← HN.out]; omega) (by decide)) HIN2.out HLC.out) (Fit.sub HR8.out.fit fun r hr => List.mem_of_mem_drop hr) (fromK_nil HCZ.out) (by rw [List.length_append, hlm]; show (i + 1 + (n - i)) * 24 ≤ _; omega)
    obtain ⟨n9, hn9⟩ : ∃ q, q = ((l.map encP).take i ++ [encP (k, x)]).length + (n - i) := ⟨_, rfl⟩
    rw [← hn9] at hrun hrow
    have HRUN9 := Lib.hid hrun
    have HO9 := Lib.hid hrow
    have HT9 := Lib.hid ht9
    have HBY := Lib.hid (HR1.out.blk.turn ht9 fun e => e)
    clear hrun hrow ht9 hn9 hlm
    go_upto_region 8 with fail
    refine wp_region_lit ?_
    refine wpList_run (v := .pointer (some ⟨y, 0, none⟩)) (wanted_none rfl) (exec_move rfl rfl) ?_
    simp only [Act.put, List.setIfInBounds_toArray, List.set_cons_zero, List.set_cons_succ]
    refine wpList_run (v := .slice A8 (i + 1) c8) (wanted_none rfl) (exec_move rfl rfl) ?_
    simp only [Act.put, List.setIfInBounds_toArray, List.set_cons_zero, List.set_cons_succ]
    refine wpList_run (v := .pointer (some ⟨y, 0, none⟩)) (wanted_none rfl) (exec_move rfl rfl) ?_
    simp only [Act.put, List.setIfInBounds_toArray, List.set_cons_zero, List.set_cons_succ]
    refine wpList_run (v := .pointer (some ⟨y, 0, none⟩)) (wanted_none rfl) (exec_nil rfl rfl) ?_
    simp only [Act.put, List.setIfInBounds_toArray, List.set_cons_zero, List.set_cons_succ]
    refine wpList_run (v := .pointer (some ⟨y, 0, none⟩)) (wanted_none rfl) (exec_field (off := 0) (d := 0) rfl rfl (by kernel_rfl)) ?_
    simp only [Act.put, List.setIfInBounds_toArray, List.set_cons_zero, List.set_cons_succ]
    refine wpList_run (v := .slice A n c) (wanted_none rfl) (exec_load1 rfl rfl (by kernel_rfl) (HR8.out.blk.cell 0)) ?_
    simp only [Act.put, List.setIfInBounds_toArray, List.set_cons_zero, List.set_cons_succ]
    refine wpList_run (v := .int .i64 (i : Int)) (wanted_none rfl) (exec_move rfl rfl) ?_
    simp only [Act.put, List.setIfInBounds_toArray, List.set_cons_zero, List.set_cons_succ]
    refine wpList_run (v := .slice (fromK 2 A c i) (n - i) (c - i)) (wanted_none rfl) (exec_slice rfl rfl rfl rfl rfl (sl_from elmR A n c i HIN2.out HLC.out _)) ?_
    simp only [Act.put, List.setIfInBounds_toArray, List.set_cons_zero, List.set_cons_succ]
    refine wpList_run (v := .slice A9 n9 c9) (w' := w9) (wanted_none rfl) (exec_append rfl rfl rfl HRUN9.out) ?_
    simp only [Act.put, List.setIfInBounds_toArray, List.set_cons_zero, List.set_cons_succ]
    refine wpList_run (v := .pointer (some ⟨y, 0, none⟩)) (wanted_none rfl) (exec_nil rfl rfl) ?_
    simp only [Act.put, List.setIfInBounds_toArray, List.set_cons_zero, List.set_cons_succ]
    refine wpList_run (v := .pointer (some ⟨y, 0, none⟩)) (wanted_none rfl) (exec_field (off := 0) (d := 0) rfl rfl (by kernel_rfl)) ?_
    simp only [Act.put, List.setIfInBounds_toArray, List.set_cons_zero, List.set_cons_succ]
    refine wpList_storeU 0 (.slice A9 n9 c9) (wanted_none rfl) 29 _ _ rfl HBY.out rfl rfl (by show 0 < 1; omega) (slice_one HO9.out) size_sR ?_
    intro w2 hb2 ht2
    simp only [Act.put, List.setIfInBounds_toArray, List.set_cons_zero, List.set_cons_succ]
    have HX := Lib.hid (show RfTo w B y (.slice A n c) (lput k x l) w2 from by
      have hlt : ∀ b, fp y (.slice A9 n9 c9) b → fp y (.slice A n c) b ∨ w.heap.size ≤ b := fun b hb => by
        rcases hb with hb | hb
        · exact .inl (.inl hb)
        · exact .inr (Nat.le_trans HT1.out.size (HO9.out.lt hb).1)
      refine ⟨.slice A9 n9 c9, ⟨hb2, ?_⟩, ((HT1.out.trans HT9.out fun _ _ e => e).mono fun _ _ e => e.elim).trans (ht2.mono fun b _ e => .inl e) fun b hb e => e, hlt⟩
      rw [lput_at HS.out, ← HI.out, if_neg (by rw [HI.out]; exact HNO.out), List.map_append, List.map_cons, List.map_take, List.map_drop]
      have h9 := HO9.out
      rw [List.append_assoc] at h9
      exact (h9.less HB1.out).turn ht2 fun b hb e => (HO9.out.ne HBY.out (by decide) b hb) e)
    clear hb2 ht2
    go_upto_region 9 with fail
    refine wp_region_lit ?_
    refine wpList_run (v := .int .i64 0) (wanted_none rfl) (gx_assign rfl rfl) ?_
    simp only [Act.put, List.setIfInBounds_toArray, List.set_cons_zero, List.set_cons_succ]
    refine wpList_run (v := .bool false) (wanted_none rfl) (gx_assign rfl rfl) ?_
    simp only [Act.put, List.setIfInBounds_toArray, List.set_cons_zero, List.set_cons_succ]
    go_wp2_with fail
    go_ret2
    rw [HG.out]
    exact ⟨rfl, HX.out⟩
set_option maxRecDepth 20000 in
set_option maxHeartbeats 4000000 in
theorem rDrop_walk {w : World} {B y : Nat} {v : Value} {l : List Pr} {k : Key} (h : Rf w B y v l) (hB : B ≤ w.heap.size) (hl : l.length ≤ 100000) (hs : Srt l) :
    Calls Try.prog 13 #[.pointer (some ⟨y, 0, none⟩), strV k] w fun e w' => e = .returned (retV (lget k l)) ∧ RfTo w B y v (ldrop k l) w' := by
  obtain ⟨A, c, rfl, hlc, _, hcz, _⟩ := h.row.form
  rw [List.length_map] at *
  obtain ⟨n, hn⟩ : ∃ n, n = l.length := ⟨_, rfl⟩
  rw [← hn] at h hlc ⊢
  have HR := Lib.hid h
  have HB := Lib.hid hB
  have HN := Lib.hid hn
  have HL := Lib.hid hl
  have HS := Lib.hid hs
  have HLC := Lib.hid hlc
  have HCZ := Lib.hid hcz
  have HAT := Lib.hid (at_walk (k := k) h hl)
  have yn : (n : Int) ≤ 100000 := by omega
  clear h hB hn hl hs hlc hcz
  go_enter Try.func13, Try.ntmps13
  go_upto_region 0 with fail
  refine wp_region_lit ?_
  refine wpList_run (v := .int .i64 0) (wanted_none rfl) (gx_assign rfl rfl) ?_
  simp only [Act.put, List.setIfInBounds_toArray, List.set_cons_zero, List.set_cons_succ]
  refine wpList_run (v := .bool false) (wanted_none rfl) (gx_assign rfl rfl) ?_
  simp only [Act.put, List.setIfInBounds_toArray, List.set_cons_zero, List.set_cons_succ]
  cases hh : hasAt k l with
  | false =>
    obtain ⟨i, hi⟩ : ∃ i, i = fnd k l := ⟨_, rfl⟩
    have HG := Lib.hid (has_no HS.out hh)
    have HNO := Lib.hid (has_no2 hh)
    rw [← hi] at HAT
    rw [hh] at HAT
    clear hh hi
    go_upto_region 1 with fail
    refine wp_region_lit ?_
    refine wpList_run (v := .pointer (some ⟨y, 0, none⟩)) (wanted_none rfl) (exec_move rfl rfl) ?_
    simp only [Act.put, List.setIfInBounds_toArray, List.set_cons_zero, List.set_cons_succ]
    refine wpList_run (v := strV k) (wanted_none rfl) (exec_move rfl rfl) ?_
    simp only [Act.put, List.setIfInBounds_toArray, List.set_cons_zero, List.set_cons_succ]
    refine wpList_op rfl fun K9 HK9 => ?_
    go_wp2_with fail
    refine (HAT.out).mono ?_
    rintro e w1 ⟨rfl, ht1⟩
    refine HK9.out _ _ ?_
    clear HK9
    try simp only [Act.put, List.setIfInBounds_toArray, List.set_cons_zero, List.set_cons_succ]
    have HT1 := Lib.hid ht1
    have HR1 := Lib.hid (HR.out.still ht1)
    have HB1 := Lib.hid (Nat.le_trans HB.out ht1.size)
    clear ht1 HAT
    refine wpList_run (v := .tuple #[.int .i64 (i : Int), .bool false]) (wanted_none rfl) (exec_move rfl rfl) ?_
    simp only [Act.put, List.setIfInBounds_toArray, List.set_cons_zero, List.set_cons_succ]
    refine wpList_run (v := .int .i64 (i : Int)) (wanted_none rfl) (ix_extract rfl rfl rfl) ?_
    simp only [Act.put, List.setIfInBounds_toArray, List.set_cons_zero, List.set_cons_succ]
    refine wpList_run (v := .bool false) (wanted_none rfl) (ix_extract rfl rfl rfl) ?_
    simp only [Act.put, List.setIfInBounds_toArray, List.set_cons_zero, List.set_cons_succ]
    refine wpList_run (v := .int .i64 (i : Int)) (wanted_none rfl) (gx_assign rfl rfl) ?_
    simp only [Act.put, List.setIfInBounds_toArray, List.set_cons_zero, List.set_cons_succ]
    refine wpList_run (v := .bool false) (wanted_none rfl) (gx_assign rfl rfl) ?_
    simp only [Act.put, List.setIfInBounds_toArray, List.set_cons_zero, List.set_cons_succ]
    go_upto_region 2 with fail
    refine wp_region_lit ?_
    refine wpList_run (v := .bool false) (wanted_none rfl) (exec_move rfl rfl) ?_
    simp only [Act.put, List.setIfInBounds_toArray, List.set_cons_zero, List.set_cons_succ]
    refine wpList_run (v := .bool true) (wanted_none rfl) (ix_not (b := false) rfl rfl) ?_
    simp only [Act.put, List.setIfInBounds_toArray, List.set_cons_zero, List.set_cons_succ]
    go_upto_region 3 with fail
    refine wp_region_lit ?_
    refine wpList_run (v := .int .i64 0) (wanted_none rfl) (gx_assign rfl rfl) ?_
    simp only [Act.put, List.setIfInBounds_toArray, List.set_cons_zero, List.set_cons_succ]
    refine wpList_run (v := .bool false) (wanted_none rfl) (gx_assign rfl rfl) ?_
    simp only [Act.put, List.setIfInBounds_toArray, List.set_cons_zero, List.set_cons_succ]
    go_wp2_with fail
    go_ret2
    rw [HG.out, ldrop_at HS.out, if_neg HNO.out]
    exact ⟨rfl, _, HR1.out, HT1.out.mono fun _ _ e => e.elim, fun b hb => .inl hb⟩
  | true =>
    obtain ⟨p, hp, hpk, hg⟩ := has_yes HS.out hh
    obtain ⟨i, hi⟩ : ∃ i, i = fnd k l := ⟨_, rfl⟩
    rw [← hi] at HAT hp
    rw [hh] at HAT
    have HI := Lib.hid hi
    have HP := Lib.hid hp
    have HPK := Lib.hid hpk
    have HG := Lib.hid hg
    have HIN := Lib.hid (show i < n from by rw [HN.out]; exact (List.getElem?_eq_some_iff.1 hp).1)
    obtain ⟨b1, c1, e1, _, _⟩ := HR.out.row.some_ (by rw [List.length_map, ← HN.out]; have := HIN.out; omega)
    injection e1 with e2 e3 e4
    subst e2
    have yi : (i : Int) < (n : Int) := by have := HIN.out; omega
    clear e3 e4 hh hp hpk hg hi
    have HIN2 := Lib.hid (Nat.le_of_lt HIN.out)
    go_upto_region 1 with fail
    refine wp_region_lit ?_
    refine wpList_run (v := .pointer (some ⟨y, 0, none⟩)) (wanted_none rfl) (exec_move rfl rfl) ?_
    simp only [Act.put, List.setIfInBounds_toArray, List.set_cons_zero, List.set_cons_succ]
    refine wpList_run (v := strV k) (wanted_none rfl) (exec_move rfl rfl) ?_
    simp only [Act.put, List.setIfInBounds_toArray, List.set_cons_zero, List.set_cons_succ]
    refine wpList_op rfl fun K9 HK9 => ?_
    go_wp2_with fail
    refine (HAT.out).mono ?_
    rintro e w1 ⟨rfl, ht1⟩
    refine HK9.out _ _ ?_
    clear HK9
    try simp only [Act.put, List.setIfInBounds_toArray, List.set_cons_zero, List.set_cons_succ]
    have HT1 := Lib.hid ht1
    have HR1 := Lib.hid (HR.out.still ht1)
    have HB1 := Lib.hid (Nat.le_trans HB.out ht1.size)
    clear ht1 HAT
    refine wpList_run (v := .tuple #[.int .i64 (i : Int), .bool true]) (wanted_none rfl) (exec_move rfl rfl) ?_
    simp only [Act.put, List.setIfInBounds_toArray, List.set_cons_zero, List.set_cons_succ]
    refine wpList_run (v := .int .i64 (i : Int)) (wanted_none rfl) (ix_extract rfl rfl rfl) ?_
    simp only [Act.put, List.setIfInBounds_toArray, List.set_cons_zero, List.set_cons_succ]
    refine wpList_run (v := .bool true) (wanted_none rfl) (ix_extract rfl rfl rfl) ?_
    simp only [Act.put, List.setIfInBounds_toArray, List.set_cons_zero, List.set_cons_succ]
    refine wpList_run (v := .int .i64 (i : Int)) (wanted_none rfl) (gx_assign rfl rfl) ?_
    simp only [Act.put, List.setIfInBounds_toArray, List.set_cons_zero, List.set_cons_succ]
    refine wpList_run (v := .bool true) (wanted_none rfl) (gx_assign rfl rfl) ?_
    simp only [Act.put, List.setIfInBounds_toArray, List.set_cons_zero, List.set_cons_succ]
    go_upto_region 2 with fail
    refine wp_region_lit ?_
    refine wpList_run (v := .bool true) (wanted_none rfl) (exec_move rfl rfl) ?_
    simp only [Act.put, List.setIfInBounds_toArray, List.set_cons_zero, List.set_cons_succ]
    refine wpList_run (v := .bool false) (wanted_none rfl) (ix_not (b := true) rfl rfl) ?_
    simp only [Act.put, List.setIfInBounds_toArray, List.set_cons_zero, List.set_cons_succ]
    go_upto_region 4 with fail
    refine wp_region_lit ?_
    refine wpList_run (v := .pointer (some ⟨y, 0, none⟩)) (wanted_none rfl) (exec_move rfl rfl) ?_
    simp only [Act.put, List.setIfInBounds_toArray, List.set_cons_zero, List.set_cons_succ]
    refine wpList_run (v := .pointer (some ⟨y, 0, none⟩)) (wanted_none rfl) (exec_nil rfl rfl) ?_
    simp only [Act.put, List.setIfInBounds_toArray, List.set_cons_zero, List.set_cons_succ]
    refine wpList_run (v := .pointer (some ⟨y, 0, none⟩)) (wanted_none rfl) (exec_field (off := 0) (d := 0) rfl rfl (by kernel_rfl)) ?_
    simp only [Act.put, List.setIfInBounds_toArray, List.set_cons_zero, List.set_cons_succ]
    refine wpList_run (v := .slice (some ⟨b1, 0, none⟩) n c) (wanted_none rfl) (exec_load1 rfl rfl (by kernel_rfl) (HR1.out.blk.cell 0)) ?_
    simp only [Act.put, List.setIfInBounds_toArray, List.set_cons_zero, List.set_cons_succ]
    refine wpList_run (v := .int .i64 (i : Int)) (wanted_none rfl) (exec_move rfl rfl) ?_
    simp only [Act.put, List.setIfInBounds_toArray, List.set_cons_zero, List.set_cons_succ]
    refine wpList_run (v := .pointer (some ⟨b1, 0 + i * 2, none⟩)) (wanted_none rfl) (gx_iaddr (i := i) (sz := 2) rfl rfl rfl Try.underlying29 size_ref HIN.out rfl) ?_
    simp only [Act.put, List.setIfInBounds_toArray, List.set_cons_zero, List.set_cons_succ]
    refine wpList_run (v := .pointer (some ⟨b1, 0 + i * 2 + 1, none⟩)) (wanted_none rfl) (exec_field (off := 0 + i * 2) (d := 1) rfl rfl (by kernel_rfl)) ?_
    simp only [Act.put, List.setIfInBounds_toArray, List.set_cons_zero, List.set_cons_succ]
    refine wpList_run (v := .int .i64 p.2) (wanted_none rfl) (exec_load1 rfl rfl (by kernel_rfl) (HR1.out.row.el0 (r := encP p) (by rw [List.getElem?_map, HP.out]; rfl) 1 _ rfl)) ?_
    simp only [Act.put, List.setIfInBounds_toArray, List.set_cons_zero, List.set_cons_succ]
    refine wpList_run (v := .int .i64 p.2) (wanted_none rfl) (gx_assign rfl rfl) ?_
    simp only [Act.put, List.setIfInBounds_toArray, List.set_cons_zero, List.set_cons_succ]
    obtain ⟨A7, c7, w7, hrun, hrow, ht7⟩ := copy_rws elmR (ty := 29) (c := c) (rws_to (e := i) (HR1.out.row.rws (by rw [List.length_map, ← HN.out]; omega) (by decide)) (by have := HIN2.out; omega)) (Fit.sub HR1.out.fit fun r hr => List.mem_of_mem_take hr) HCZ.out (by have := HIN2.out; omega)
    have HRUN7 := Lib.hid hrun
    have HO7 := Lib.hid hrow
    have HT7 := Lib.hid ht7
    clear hrun hrow ht7
    go_upto_region 5 with fail
    refine wp_region_lit ?_
    refine wpList_run (v := .slice (some ⟨w1.heap.size, 0, none⟩) 0 0) (w' := w1.alloc (.cells #[] 54)) (wanted_none rfl) (bx_slice0 rfl (build0R _)) ?_
    simp only [Act.put, List.setIfInBounds_toArray, List.set_cons_zero, List.set_cons_succ]
    refine wpList_run (v := .pointer (some ⟨y, 0, none⟩)) (wanted_none rfl) (exec_move rfl rfl) ?_
    simp only [Act.put, List.setIfInBounds_toArray, List.set_cons_zero, List.set_cons_succ]
    refine wpList_run (v := .pointer (some ⟨y, 0, none⟩)) (wanted_none rfl) (exec_nil rfl rfl) ?_
    simp only [Act.put, List.setIfInBounds_toArray, List.set_cons_zero, List.set_cons_succ]
    refine wpList_run (v := .pointer (some ⟨y, 0, none⟩)) (wanted_none rfl) (exec_field (off := 0) (d := 0) rfl rfl (by kernel_rfl)) ?_
    simp only [Act.put, List.setIfInBounds_toArray, List.set_cons_zero, List.set_cons_succ]
    refine wpList_run (v := .slice (some ⟨b1, 0, none⟩) n c) (wanted_none rfl) (exec_load1 rfl rfl (by kernel_rfl) ((HR1.out.blk.alloc _).cell 0)) ?_
    simp only [Act.put, List.setIfInBounds_toArray, List.set_cons_zero, List.set_cons_succ]
    refine wpList_run (v := .int .i64 (i : Int)) (wanted_none rfl) (exec_move rfl rfl) ?_
    simp only [Act.put, List.setIfInBounds_toArray, List.set_cons_zero, List.set_cons_succ]
    refine wpList_run (v := .slice (some ⟨b1, 0, none⟩) i c) (wanted_none rfl) (exec_slice rfl rfl rfl rfl rfl (sl_to elmR (some ⟨b1, 0, none⟩) n c i (by have := HIN2.out; have := HLC.out; omega) _)) ?_
    simp only [Act.put, List.setIfInBounds_toArray, List.set_cons_zero, List.set_cons_succ]
    refine wpList_run (v := .slice A7 i c7) (w' := w7) (wanted_none rfl) (exec_append rfl rfl rfl HRUN7.out) ?_
    simp only [Act.put, List.setIfInBounds_toArray, List.set_cons_zero, List.set_cons_succ]
    refine wpList_run (v := .slice A7 i c7) (wanted_none rfl) (gx_assign rfl rfl) ?_
    simp only [Act.put, List.setIfInBounds_toArray, List.set_cons_zero, List.set_cons_succ]
    have hlm : ((l.map encP).take i).length = i := by rw [List.length_take, List.length_map, ← HN.out]; have := HIN2.out; omega
    have HR8 := Lib.hid (HR1.out.still HT7.out)
    obtain ⟨A9, c9, w9, hrun, hrow, ht9⟩ := orw_more elmR (ty := 29) (W1 := w1) (c := c - (i + 1)) HO7.out HT7.out (rws_from (d := i + 1) (HR8.out.row.rws (by rw [List.length_map, ← HN.out]; omega) (by decide)) HIN.out HLC.out) (Fit.sub HR8.out.fit fun r hr => List.mem_of_mem_drop hr) (fromK_nil HCZ.out) (by rw [hlm]; show (i + (n - (i + 1))) * 24 ≤ _; omega)
    obtain ⟨n9, hn9⟩ : ∃ q, q = ((l.map encP).take i).length + (n - (i + 1)) := ⟨_, rfl⟩
    rw [← hn9] at hrun hrow
    have HRUN9 := Lib.hid hrun
    have HO9 := Lib.hid hrow
    have HT9 := Lib.hid ht9
    have HBY := Lib.hid (HR1.out.blk.turn ht9 fun e => e)
    clear hrun hrow ht9 hn9 hlm
    go_upto_region 6 with fail
    refine wp_region_lit ?_
    refine wpList_run (v := .pointer (some ⟨y, 0, none⟩)) (wanted_none rfl) (exec_move rfl rfl) ?_
    simp only [Act.put, List.setIfInBounds_toArray, List.set_cons_zero, List.set_cons_succ]
    refine wpList_run (v := .slice A7 i c7) (wanted_none rfl) (exec_move rfl rfl) ?_
    simp only [Act.put, List.setIfInBounds_toArray, List.set_cons_zero, List.set_cons_succ]
    refine wpList_run (v := .pointer (some ⟨y, 0, none⟩)) (wanted_none rfl) (exec_move rfl rfl) ?_
    simp only [Act.put, List.setIfInBounds_toArray, List.set_cons_zero, List.set_cons_succ]
    refine wpList_run (v := .pointer (some ⟨y, 0, none⟩)) (wanted_none rfl) (exec_nil rfl rfl) ?_
    simp only [Act.put, List.setIfInBounds_toArray, List.set_cons_zero, List.set_cons_succ]
    refine wpList_run (v := .pointer (some ⟨y, 0, none⟩)) (wanted_none rfl) (exec_field (off := 0) (d := 0) rfl rfl (by kernel_rfl)) ?_
    simp only [Act.put, List.setIfInBounds_toArray, List.set_cons_zero, List.set_cons_succ]
    refine wpList_run (v := .slice (some ⟨b1, 0, none⟩) n c) (wanted_none rfl) (exec_load1 rfl rfl (by kernel_rfl) (HR8.out.blk.cell 0)) ?_
    simp only [Act.put, List.setIfInBounds_toArray, List.set_cons_zero, List.set_cons_succ]
    refine wpList_run (v := .int .i64 (i : Int)) (wanted_none rfl) (exec_move rfl rfl) ?_
    simp only [Act.put, List.setIfInBounds_toArray, List.set_cons_zero, List.set_cons_succ]
    refine wpList_run (v := .int .i64 ((i + 1 : Nat) : Int)) (wanted_none rfl) (ix_add rfl rfl rfl (by omega) (by omega)) ?_
    simp only [Act.put, List.setIfInBounds_toArray, List.set_cons_zero, List.set_cons_succ]
    refine wpList_run (v := .slice (fromK 2 (some ⟨b1, 0, none⟩) c (i + 1)) (n - (i + 1)) (c - (i + 1))) (wanted_none rfl) (exec_slice rfl rfl rfl rfl rfl (sl_from elmR (some ⟨b1, 0, none⟩) n c (i + 1) HIN.out HLC.out _)) ?_
    simp only [Act.put, List.setIfInBounds_toArray, List.set_cons_zero, List.set_cons_succ]
    refine wpList_run (v := .slice A9 n9 c9) (w' := w9) (wanted_none rfl) (exec_append rfl rfl rfl HRUN9.out) ?_
    simp only [Act.put, List.setIfInBounds_toArray, List.set_cons_zero, List.set_cons_succ]
    refine wpList_run (v := .pointer (some ⟨y, 0, none⟩)) (wanted_none rfl) (exec_nil rfl rfl) ?_
    simp only [Act.put, List.setIfInBounds_toArray, List.set_cons_zero, List.set_cons_succ]
    refine wpList_run (v := .pointer (some ⟨y, 0, none⟩)) (wanted_none rfl) (exec_field (off := 0) (d := 0) rfl rfl (by kernel_rfl)) ?_
    simp only [Act.put, List.setIfInBounds_toArray, List.set_cons_zero, List.set_cons_succ]
    refine wpList_storeU 0 (.slice A9 n9 c9) (wanted_none rfl) 29 _ _ rfl HBY.out rfl rfl (by show 0 < 1; omega) (slice_one HO9.out) size_sR ?_
    intro w2 hb2 ht2
    simp only [Act.put, List.setIfInBounds_toArray, List.set_cons_zero, List.set_cons_succ]
    have HX := Lib.hid (show RfTo w B y (.slice (some ⟨b1, 0, none⟩) n c) (ldrop k l) w2 from by
      have hlt : ∀ b, fp y (.slice A9 n9 c9) b → fp y (.slice (some ⟨b1, 0, none⟩) n c) b ∨ w.heap.size ≤ b := fun b hb => by
        rcases hb with hb | hb
        · exact .inl (.inl hb)
        · exact .inr (Nat.le_trans HT1.out.size (HO9.out.lt hb).1)
      refine ⟨.slice A9 n9 c9, ⟨hb2, ?_⟩, ((HT1.out.trans HT9.out fun _ _ e => e).mono fun _ _ e => e.elim).trans (ht2.mono fun b _ e => .inl e) fun b hb e => e, hlt⟩
      rw [ldrop_at HS.out, ← HI.out, HP.out, if_pos (by rw [← HPK.out]; rfl), List.map_append, List.map_take, List.map_drop]
      exact (HO9.out.less HB1.out).turn ht2 fun b hb e => (HO9.out.ne HBY.out (by decide) b hb) e)
    clear hb2 ht2
    go_upto_region 7 with fail
    refine wp_region_lit ?_
    refine wpList_run (v := .int .i64 p.2) (wanted_none rfl) (exec_move rfl rfl) ?_
    simp only [Act.put, List.setIfInBounds_toArray, List.set_cons_zero, List.set_cons_succ]
    refine wpList_run (v := .int .i64 p.2) (wanted_none rfl) (gx_assign rfl rfl) ?_
    simp only [Act.put, List.setIfInBounds_toArray, List.set_cons_zero, List.set_cons_succ]
    refine wpList_run (v := .bool true) (wanted_none rfl) (gx_assign rfl rfl) ?_
    simp only [Act.put, List.setIfInBounds_toArray, List.set_cons_zero, List.set_cons_succ]
    go_wp2_with fail
    go_ret2
    rw [HG.out]
    exact ⟨rfl, HX.out⟩
end Go.Proofs.Ytmlkdkbpbleilaa

namespace Go.Proofs.Ytmlkdkbpbleilaa
open Go.RowKit
open Ix
set_option linter.unusedVariables false
set_option linter.unusedSimpArgs false
theorem orw_pre {w : World} {B k b n c e : Nat} {et : TypeId} {rs : List (List Value)} (h : Orw w B et k (.slice (some ⟨b, 0, none⟩) n c) rs) (he : e ≤ n) : Orw w B et k (.slice (some ⟨b, 0, none⟩) e c) (rs.take e) := by
  obtain ⟨cur, h1, h2, h3, h4, h5, h6, h7⟩ := orw_block h
  have hf : Fit k (rs.take e) := Fit.sub h.1 fun r hr => List.mem_of_mem_take hr
  refine orw_of h1 h7 hf (by rw [List.length_take]; omega) (by omega) h6 h2 ?_
  have hle : e * k ≤ n * k := Nat.mul_le_mul_right k he
  rw [show cur.toList.take (e * k) = (cur.toList.take (n * k)).take (e * k) from by rw [List.take_take, Nat.min_eq_left hle], h3, flat_take e h.1 (by omega)]
theorem gx_max {a : Act} {o : Oper} {W : World} {x y : Operand} {t u : TypeId} {i j r : Int} (ho : o.op = .call { callee := .builtin .max, args := #[x, y], argTypes := #[t, u] }) (hx : a.eval x = .int .i64 i) (hy : a.eval y = .int .i64 j) (ht : o.type = 3) (hr : (if i < j then j else i) = r) : (execOp a.eval o).run Try.prog W = .ok (.value (.int .i64 r)) W := by
  subst hr
  unfold execOp
  simp only [ho, ht, resolve, invoke, builtin, List.map_toArray, List.map_cons, List.map_nil, hx, hy]
  by_cases h : i < j
  · rw [if_pos h]; go_simp; omega
  · rw [if_neg h]; go_simp; omega
/-- an index beside the reference's -/
structure Dbl (w0 w : World) (x : Nat) (H : Hp) (y : Nat) (v : Value) (M : Nat) (l : List Pr) (N : Nat) : Prop where
  ix : Idx w x H M l N
  rf : Rf w w0.heap.size y v l
  ap : ∀ b, own x H b → ¬ fp y v b
  tn : Turn nowhere w0 w
  fx : ∀ b, own x H b → w0.heap.size ≤ b
  fy : ∀ b, fp y v b → w0.heap.size ≤ b
theorem Dbl.still {w0 w w' : World} {x y : Nat} {H : Hp} {v : Value} {M N : Nat} {l : List Pr} (h : Dbl w0 w x H y v M l N) (ht : Turn nowhere w w') : Dbl w0 w' x H y v M l N :=
  ⟨h.ix.still ht, h.rf.still ht, h.ap, h.tn.trans ht fun _ _ e => e, h.fx, h.fy⟩
/-- both have gone the same way -/
theorem Dbl.both {w0 w w1 w2 : World} {x y : Nat} {H H1 : Hp} {v v1 : Value} {M N N' : Nat} {l l' : List Pr} (h : Dbl w0 w x H y v M l N) (h1 : Idx w1 x H1 M l' N') (h2 : Turn (own x H) w w1) (h3 : ∀ b, own x H1 b → own x H b ∨ w.heap.size ≤ b)
    (g1 : Rf w2 w0.heap.size y v1 l') (g2 : Turn (fp y v) w1 w2) (g3 : ∀ b, fp y v1 b → fp y v b ∨ w1.heap.size ≤ b) : Dbl w0 w2 x H1 y v1 M l' N' := by
  have a1 : ∀ b, own x H1 b → ¬ fp y v b := fun b e f => (h3 b e).elim (fun e => h.ap b e f) fun e => by have := h.rf.lt f; omega
  refine ⟨h1.turn g2 fun b e f => a1 b f e, g1, fun b e f => (g3 b f).elim (a1 b e) fun f => by have := h1.lt e; omega, (h.tn.trans h2 fun k hk e => by have := h.fx k e; omega).trans g2 fun k hk e => by have := h.fy k e; omega, fun b hb => (h3 b hb).elim (h.fx b) fun e => Nat.le_trans h.tn.size e, fun b hb => (g3 b hb).elim (h.fy b) fun e => Nat.le_trans (Nat.le_trans h.tn.size h2.size) e⟩
theorem Dbl.rf1 {w0 w w1 : World} {x y : Nat} {H : Hp} {v : Value} {M N : Nat} {l : List Pr} (h : Dbl w0 w x H y v M l N) (h2 : Turn (own x H) w w1) : Rf w1 w0.heap.size y v l := h.rf.turn h2 fun b e f => h.ap b f e
theorem Dbl.more {w0 w : World} {x y : Nat} {H : Hp} {v : Value} {M N : Nat} {l : List Pr} (h : Dbl w0 w x H y v M l N) (hN : N < 1099511627776) : Dbl w0 w x H y v M l (N + 1) :=
  ⟨⟨h.ix.hin, h.ix.ord, by obtain ⟨t, ch, h1, h2, h3⟩ := h.ix.blk; exact ⟨t, ch, h1, by omega, h3⟩, by have := h.ix.cnt; omega, by omega⟩, h.rf, h.ap, h.tn, h.fx, h.fy⟩
theorem box_ref (w : World) : (Instr.box 31 (.agg #[.slice none 0 0])).run Try.prog w = .ok (.pointer (some ⟨w.heap.size, 0, none⟩)) (w.alloc (.cells #[.slice none 0 0] 31)) := by
  simp [Instr.box, newVar, newRow, Result.andThen, Value.cells]
theorem gx_build0 {P : Program} {a : Act} {o : Oper} {t : TypeId} {r : Value} {W : World} (ho : o.op = .build t #[]) (h : (Instr.build t #[]).run P W = .ok r W) : (execOp a.eval o).run P W = .ok (.value r) W := by
  unfold execOp
  simp only [ho, List.map_toArray, List.map_nil, h, Sem.run_bind, Sem.run_pure, Result.andThen_ok]
theorem build_ref (w : World) : (Instr.build 31 #[]).run Try.prog w = .ok (.agg #[.slice none 0 0]) w := by kernel_rfl
theorem Dbl.new {w0 w1 w2 : World} {x M : Nat} (h0 : Turn nowhere w0 w1) (hx : w1.heap.size ≤ x) (h1 : Turn nowhere w1 w2) (hi : Idx w2 x (fun _ => none) M [] 0) : Dbl w0 (w2.alloc (.cells #[.slice none 0 0] 31)) x (fun _ => none) w2.heap.size (.slice none 0 0) M [] 0 := by
  have own0 : ∀ {z b : Nat}, own z (fun _ => none) b → b = z := fun {z b} h => by
    rcases h with h | ⟨p, nd, e, _⟩
    · exact h
    · cases e
  have fp0 : ∀ {b : Nat}, fp w2.heap.size (.slice none 0 0) b → b = w2.heap.size := fun {b} h => by
    rcases h with h | h
    · exact h
    · cases h
  have hxl : x < w2.heap.size := hi.lt (.inl rfl)
  have ha := (Turn.refl nowhere w2).alloc (.cells #[.slice none 0 0] 31)
  have s0 := h0.size
  have s1 := h1.size
  exact ⟨hi.still ha, ⟨Blk.new w2 _ _, Orw.nil _ _ _ _⟩, fun b e f => by have := own0 e; have := fp0 f; omega, (h0.trans h1 fun _ _ e => e).trans ha fun _ _ e => e, fun b e => by have := own0 e; omega, fun b e => by have := fp0 e; omega⟩
set_option maxRecDepth 20000 in
set_option maxHeartbeats 8000000 in
theorem rRange_walk {w : World} {B y : Nat} {v : Value} {l : List Pr} {fr t2 : Key} (h : Rf w B y v l) (hl : l.length ≤ 100000) :
    Calls Try.prog 16 #[.pointer (some ⟨y, 0, none⟩), strV fr, strV t2] w fun e w' => ∃ v', e = .returned v' ∧ Orw w' w.heap.size 54 2 v' ((l.filter (inR fr t2)).map encP) ∧ Turn nowhere w w' := by
  obtain ⟨A, c, rfl, _⟩ := h.row.form
  rw [List.length_map] at *
  obtain ⟨n, hn⟩ : ∃ n, n = l.length := ⟨_, rfl⟩
  rw [← hn] at h
  have HR := Lib.hid h
  have HN := Lib.hid hn
  have yn : (n : Int) ≤ 100000 := by omega
  clear h hn hl
  go_enter Try.func16, Try.ntmps16
  go_upto_region 0 with fail
  refine wp_region_lit ?_
  refine wpList_run (v := .slice none 0 0) (wanted_none rfl) (gx_assign rfl rfl) ?_
  simp only [Act.put, List.setIfInBounds_toArray, List.set_cons_zero, List.set_cons_succ]
  go_upto_region 1 with fail
  refine wp_region_lit ?_
  refine wpList_run (v := .slice none 0 0) (wanted_none rfl) (gx_assign rfl rfl) ?_
  simp only [Act.put, List.setIfInBounds_toArray, List.set_cons_zero, List.set_cons_succ]
  go_upto_region 2 with fail
  refine wp_region_lit ?_
  refine wpList_run (v := .int .i64 0) (wanted_none rfl) (gx_assign rfl rfl) ?_
  simp only [Act.put, List.setIfInBounds_toArray, List.set_cons_zero, List.set_cons_succ]
  go_wp2_with fail
  go_loopg [7, 8] n (fun gk ov iv wr => ∃ (i : Nat), iv = .int .i64 (i : Int) ∧ i + gk = n ∧ Orw wr w.heap.size 54 2 ov (((l.take i).filter (inR fr t2)).map encP) ∧ Turn nowhere w wr)
  case atStart => exact ⟨0, rfl, by omega, Orw.nil _ _ _ _, Turn.refl _ _⟩
  obtain ⟨i, rfl, hgk, hrow, htr⟩ := hrel
  have HGK := Lib.hid hgk
  have HTR := Lib.hid htr
  have HR2 := Lib.hid (HR.out.still htr)
  obtain ⟨A2, c2, e9, _⟩ := hrow.form
  obtain ⟨n2, hn2⟩ : ∃ q, q = ((l.take i).filter (inR fr t2)).length := ⟨_, rfl⟩
  rw [List.length_map, ← hn2] at e9
  subst e9
  have yn2 : (n2 : Int) ≤ (i : Int) := by
    have h1 := (List.filter_sublist (p := inR fr t2) (l := l.take i)).length_le
    rw [List.length_take] at h1
    omega
  have HN2 := Lib.hid hn2
  have HROW := Lib.hid hrow
  have yi : (i : Int) ≤ (n : Int) := by omega
  clear hgk htr hrow hn2
  by_cases hlt : i < n
  · have HIN := Lib.hid hlt
    have y3 : (i : Int) < (n : Int) := by omega
    obtain ⟨p, hp⟩ : ∃ p, l[i]? = some p := ⟨_, List.getElem?_eq_getElem (by rw [← HN.out]; exact hlt)⟩
    have HP := Lib.hid hp
    obtain ⟨b1, c1, e1, _, _⟩ := HR2.out.row.some_ (by rw [List.length_map, ← HN.out]; have := HIN.out; omega)
    injection e1 with e2 e3 e4
    subst e2
    have HTK := Lib.hid (show (l.take (i + 1)).filter (inR fr t2) = (l.take i).filter (inR fr t2) ++ (if inR fr t2 p = true then [p] else []) from by
      rw [List.take_add_one, hp, List.filter_append]
      cases h : inR fr t2 p <;> simp [h])
    clear e3 e4 hp hlt
    go_upto_region 3 with fail
    refine wp_region_lit ?_
    refine wpList_run (v := .int .i64 (i : Int)) (wanted_none rfl) (exec_move rfl rfl) ?_
    simp only [Act.put, List.setIfInBounds_toArray, List.set_cons_zero, List.set_cons_succ]
    refine wpList_run (v := .pointer (some ⟨y, 0, none⟩)) (wanted_none rfl) (exec_move rfl rfl) ?_
    simp only [Act.put, List.setIfInBounds_toArray, List.set_cons_zero, List.set_cons_succ]
    refine wpList_run (v := .pointer (some ⟨y, 0, none⟩)) (wanted_none rfl) (exec_nil rfl rfl) ?_
    simp only [Act.put, List.setIfInBounds_toArray, List.set_cons_zero, List.set_cons_succ]
    refine wpList_run (v := .pointer (some ⟨y, 0, none⟩)) (wanted_none rfl) (exec_field (off := 0) (d := 0) rfl rfl (by kernel_rfl)) ?_
    simp only [Act.put, List.setIfInBounds_toArray, List.set_cons_zero, List.set_cons_succ]
    refine wpList_run (v := .slice (some ⟨b1, 0, none⟩) n c) (wanted_none rfl) (exec_load1 rfl rfl (by kernel_rfl) (HR2.out.blk.cell 0)) ?_
    simp only [Act.put, List.setIfInBounds_toArray, List.set_cons_zero, List.set_cons_succ]
    refine wpList_run (v := .int .i64 (n : Int)) (wanted_none rfl) (gx_len rfl rfl Try.underlying29) ?_
    simp only [Act.put, List.setIfInBounds_toArray, List.set_cons_zero, List.set_cons_succ]
    refine wpList_run (v := .bool true) (wanted_none rfl) (ix_lss rfl rfl rfl (decide_eq_true y3)) ?_
    simp only [Act.put, List.setIfInBounds_toArray, List.set_cons_zero, List.set_cons_succ]
    cases ha : klt p.1 fr with
    | true =>
      have HA := Lib.hid ha
      clear ha
      go_upto_region 5 with fail
      rename_i K9 hK9
      have HKC := Lib.hid hK9
      clear hK9
      refine wp_region_lit ?_
      refine wpList_run (v := .pointer (some ⟨y, 0, none⟩)) (wanted_none rfl) (exec_move rfl rfl) ?_
      simp only [Act.put, List.setIfInBounds_toArray, List.set_cons_zero, List.set_cons_succ]
      refine wpList_run (v := .pointer (some ⟨y, 0, none⟩)) (wanted_none rfl) (exec_nil rfl rfl) ?_
      simp only [Act.put, List.setIfInBounds_toArray, List.set_cons_zero, List.set_cons_succ]
      refine wpList_run (v := .pointer (some ⟨y, 0, none⟩)) (wanted_none rfl) (exec_field (off := 0) (d := 0) rfl rfl (by kernel_rfl)) ?_
      simp only [Act.put, List.setIfInBounds_toArray, List.set_cons_zero, List.set_cons_succ]
      refine wpList_run (v := .slice (some ⟨b1, 0, none⟩) n c) (wanted_none rfl) (exec_load1 rfl rfl (by kernel_rfl) (HR2.out.blk.cell 0)) ?_
      simp only [Act.put, List.setIfInBounds_toArray, List.set_cons_zero, List.set_cons_succ]
      refine wpList_run (v := .int .i64 (i : Int)) (wanted_none rfl) (exec_move rfl rfl) ?_
      simp only [Act.put, List.setIfInBounds_toArray, List.set_cons_zero, List.set_cons_succ]
      refine wpList_run (v := .pointer (some ⟨b1, 0 + i * 2, none⟩)) (wanted_none rfl) (gx_iaddr (i := i) (sz := 2) rfl rfl rfl Try.underlying29 size_ref HIN.out rfl) ?_
      simp only [Act.put, List.setIfInBounds_toArray, List.set_cons_zero, List.set_cons_succ]
      refine wpList_run (v := .pointer (some ⟨b1, 0 + i * 2 + 0, none⟩)) (wanted_none rfl) (exec_field (off := 0 + i * 2) (d := 0) rfl rfl (by kernel_rfl)) ?_
      simp only [Act.put, List.setIfInBounds_toArray, List.set_cons_zero, List.set_cons_succ]
      refine wpList_run (v := strV p.1) (wanted_none rfl) (exec_load1 rfl rfl (by kernel_rfl) (HR2.out.row.el0 (r := encP p) (by rw [List.getElem?_map, HP.out]; rfl) 0 _ rfl)) ?_
      simp only [Act.put, List.setIfInBounds_toArray, List.set_cons_zero, List.set_cons_succ]
      refine wpList_run (v := strV fr) (wanted_none rfl) (exec_move rfl rfl) ?_
      simp only [Act.put, List.setIfInBounds_toArray, List.set_cons_zero, List.set_cons_succ]
      refine wpList_run (v := .bool false) (wanted_none rfl) (exec_sgeq rfl rfl rfl (by rw [HA.out]; rfl)) ?_
      simp only [Act.put, List.setIfInBounds_toArray, List.set_cons_zero, List.set_cons_succ]
      refine wpList_run (v := .bool false) (wanted_none rfl) (exec_move rfl rfl) ?_
      simp only [Act.put, List.setIfInBounds_toArray, List.set_cons_zero, List.set_cons_succ]
      go_wp2_with fail
      refine HKC.out _ _ ?_
      have HNX := Lib.hid (show (l.take (i + 1)).filter (inR fr t2) = (l.take i).filter (inR fr t2) from by rw [HTK.out, show inR fr t2 p = false from (by unfold inR; rw [HA.out]; rfl)]; exact List.append_nil _)
      go_upto_region 4 with fail
      refine wp_region_lit ?_
      refine wpList_run (v := .int .i64 (i : Int)) (wanted_none rfl) (exec_move rfl rfl) ?_
      simp only [Act.put, List.setIfInBounds_toArray, List.set_cons_zero, List.set_cons_succ]
      refine wpList_run (v := .int .i64 ((i + 1 : Nat) : Int)) (wanted_none rfl) (ix_add rfl rfl rfl (by omega) (by omega)) ?_
      simp only [Act.put, List.setIfInBounds_toArray, List.set_cons_zero, List.set_cons_succ]
      refine wpList_run (v := .int .i64 ((i + 1 : Nat) : Int)) (wanted_none rfl) (gx_assign rfl rfl) ?_
      simp only [Act.put, List.setIfInBounds_toArray, List.set_cons_zero, List.set_cons_succ]
      go_wp2_with fail
      go_roundg (n - (i + 1))
      case measure => have := HGK.out; have := HIN.out; omega
      case rel => exact ⟨i + 1, rfl, by have := HIN.out; omega, by rw [HNX.out]; exact HROW.out, HTR.out⟩
    | false =>
      have HA := Lib.hid ha
      clear ha
      by_cases hb : t2 = []
      · have HE := Lib.hid hb
        clear hb
        go_upto_region 5 with fail
        rename_i K9 hK9
        have HKC := Lib.hid hK9
        clear hK9
        refine wp_region_lit ?_
        refine wpList_run (v := .pointer (some ⟨y, 0, none⟩)) (wanted_none rfl) (exec_move rfl rfl) ?_
        simp only [Act.put, List.setIfInBounds_toArray, List.set_cons_zero, List.set_cons_succ]
        refine wpList_run (v := .pointer (some ⟨y, 0, none⟩)) (wanted_none rfl) (exec_nil rfl rfl) ?_
        simp only [Act.put, List.setIfInBounds_toArray, List.set_cons_zero, List.set_cons_succ]
        refine wpList_run (v := .pointer (some ⟨y, 0, none⟩)) (wanted_none rfl) (exec_field (off := 0) (d := 0) rfl rfl (by kernel_rfl)) ?_
        simp only [Act.put, List.setIfInBounds_toArray, List.set_cons_zero, List.set_cons_succ]
        refine wpList_run (v := .slice (some ⟨b1, 0, none⟩) n c) (wanted_none rfl) (exec_load1 rfl rfl (by kernel_rfl) (HR2.out.blk.cell 0)) ?_
        simp only [Act.put, List.setIfInBounds_toArray, List.set_cons_zero, List.set_cons_succ]
        refine wpList_run (v := .int .i64 (i : Int)) (wanted_none rfl) (exec_move rfl rfl) ?_
        simp only [Act.put, List.setIfInBounds_toArray, List.set_cons_zero, List.set_cons_succ]
        refine wpList_run (v := .pointer (some ⟨b1, 0 + i * 2, none⟩)) (wanted_none rfl) (gx_iaddr (i := i) (sz := 2) rfl rfl rfl Try.underlying29 size_ref HIN.out rfl) ?_
        simp only [Act.put, List.setIfInBounds_toArray, List.set_cons_zero, List.set_cons_succ]
        refine wpList_run (v := .pointer (some ⟨b1, 0 + i * 2 + 0, none⟩)) (wanted_none rfl) (exec_field (off := 0 + i * 2) (d := 0) rfl rfl (by kernel_rfl)) ?_
        simp only [Act.put, List.setIfInBounds_toArray, List.set_cons_zero, List.set_cons_succ]
        refine wpList_run (v := strV p.1) (wanted_none rfl) (exec_load1 rfl rfl (by kernel_rfl) (HR2.out.row.el0 (r := encP p) (by rw [List.getElem?_map, HP.out]; rfl) 0 _ rfl)) ?_
        simp only [Act.put, List.setIfInBounds_toArray, List.set_cons_zero, List.set_cons_succ]
        refine wpList_run (v := strV fr) (wanted_none rfl) (exec_move rfl rfl) ?_
        simp only [Act.put, List.setIfInBounds_toArray, List.set_cons_zero, List.set_cons_succ]
        refine wpList_run (v := .bool true) (wanted_none rfl) (exec_sgeq rfl rfl rfl (by rw [HA.out]; rfl)) ?_
        simp only [Act.put, List.setIfInBounds_toArray, List.set_cons_zero, List.set_cons_succ]
        refine wpList_run (v := .bool true) (wanted_none rfl) (exec_move rfl rfl) ?_
        simp only [Act.put, List.setIfInBounds_toArray, List.set_cons_zero, List.set_cons_succ]
        refine wpList_run (v := strV t2) rfl (exec_move rfl rfl) ?_
        simp only [Act.put, List.setIfInBounds_toArray, List.set_cons_zero, List.set_cons_succ]
        refine wpList_run (v := .bool true) rfl (exec_seqlr rfl rfl rfl (key_eq_nil HE.out)) ?_
        simp only [Act.put, List.setIfInBounds_toArray, List.set_cons_zero, List.set_cons_succ]
        refine wpList_run (v := .bool true) rfl (exec_move rfl rfl) ?_
        simp only [Act.put, List.setIfInBounds_toArray, List.set_cons_zero, List.set_cons_succ]
        go_wp2_with fail
        refine HKC.out _ _ ?_
        have hlm : (((l.take i).filter (inR fr t2)).map encP).length = n2 := by rw [List.length_map]; exact HN2.out.symm
        obtain ⟨A8, c8, w8, hrun, hrow, ht8⟩ := orw_add elmR (ty := 29) (W1 := w) HROW.out HTR.out (encP p) rfl (encP_one _) (by rw [hlm]; omega)
        rw [hlm] at hrun hrow
        have HRUN8 := Lib.hid hrun
        have HO8 := Lib.hid (show Orw w8 w.heap.size 54 2 (.slice A8 (n2 + 1) c8) (((l.take (i + 1)).filter (inR fr t2)).map encP) from by rw [HTK.out, if_pos (by unfold inR; rw [HA.out, key_eq_nil HE.out]; rfl), List.map_append]; exact hrow)
        have HT8 := Lib.hid ht8
        clear hrun hrow ht8 hlm
        go_upto_region 6 with fail
        refine wp_region_lit ?_
        refine wpList_run (v := .slice A2 n2 c2) (wanted_none rfl) (exec_move rfl rfl) ?_
        simp only [Act.put, List.setIfInBounds_toArray, List.set_cons_zero, List.set_cons_succ]
        refine wpList_run (v := .pointer (some ⟨y, 0, none⟩)) (wanted_none rfl) (exec_move rfl rfl) ?_
        simp only [Act.put, List.setIfInBounds_toArray, List.set_cons_zero, List.set_cons_succ]
        refine wpList_run (v := .pointer (some ⟨y, 0, none⟩)) (wanted_none rfl) (exec_nil rfl rfl) ?_
        simp only [Act.put, List.setIfInBounds_toArray, List.set_cons_zero, List.set_cons_succ]
        refine wpList_run (v := .pointer (some ⟨y, 0, none⟩)) (wanted_none rfl) (exec_field (off := 0) (d := 0) rfl rfl (by kernel_rfl)) ?_
        simp only [Act.put, List.setIfInBounds_toArray, List.set_cons_zero, List.set_cons_succ]
        refine wpList_run (v := .slice (some ⟨b1, 0, none⟩) n c) (wanted_none rfl) (exec_load1 rfl rfl (by kernel_rfl) (HR2.out.blk.cell 0)) ?_
        simp only [Act.put, List.setIfInBounds_toArray, List.set_cons_zero, List.set_cons_succ]
        refine wpList_run (v := .int .i64 (i : Int)) (wanted_none rfl) (exec_move rfl rfl) ?_
        simp only [Act.put, List.setIfInBounds_toArray, List.set_cons_zero, List.set_cons_succ]
        refine wpList_run (v := .pointer (some ⟨b1, 0 + i * 2, none⟩)) (wanted_none rfl) (gx_iaddr (i := i) (sz := 2) rfl rfl rfl Try.underlying29 size_ref HIN.out rfl) ?_
        simp only [Act.put, List.setIfInBounds_toArray, List.set_cons_zero, List.set_cons_succ]
        refine wpList_run (v := .agg (encP p).toArray) (wanted_none rfl) (gx_loads rfl rfl (show wr.rangeAt b1 (0 + i * 2) (encP p) from by rw [Nat.zero_add]; exact HR2.out.row.el (r := encP p) (by rw [List.getElem?_map, HP.out]; rfl)) Try.underlying54 rfl (by rw [size_ref]; rfl)) ?_
        simp only [Act.put, List.setIfInBounds_toArray, List.set_cons_zero, List.set_cons_succ]
        refine wpList_run (v := .slice (some ⟨wr.heap.size, 0, none⟩) 1 1) (w' := wr.alloc (.cells (encP p).toArray 54)) (wanted_none rfl) (exec_buildSlice1 rfl rfl (build_one elmR (encP p) rfl (by decide) _ rfl _)) ?_
        simp only [Act.put, List.setIfInBounds_toArray, List.set_cons_zero, List.set_cons_succ]
        refine wpList_run (v := .slice A8 (n2 + 1) c8) (w' := w8) (wanted_none rfl) (exec_append rfl rfl rfl HRUN8.out) ?_
        simp only [Act.put, List.setIfInBounds_toArray, List.set_cons_zero, List.set_cons_succ]
        refine wpList_run (v := .slice A8 (n2 + 1) c8) (wanted_none rfl) (gx_assign rfl rfl) ?_
        simp only [Act.put, List.setIfInBounds_toArray, List.set_cons_zero, List.set_cons_succ]
        go_upto_region 4 with fail
        refine wp_region_lit ?_
        refine wpList_run (v := .int .i64 (i : Int)) (wanted_none rfl) (exec_move rfl rfl) ?_
        simp only [Act.put, List.setIfInBounds_toArray, List.set_cons_zero, List.set_cons_succ]
        refine wpList_run (v := .int .i64 ((i + 1 : Nat) : Int)) (wanted_none rfl) (ix_add rfl rfl rfl (by omega) (by omega)) ?_
        simp only [Act.put, List.setIfInBounds_toArray, List.set_cons_zero, List.set_cons_succ]
        refine wpList_run (v := .int .i64 ((i + 1 : Nat) : Int)) (wanted_none rfl) (gx_assign rfl rfl) ?_
        simp only [Act.put, List.setIfInBounds_toArray, List.set_cons_zero, List.set_cons_succ]
        go_wp2_with fail
        go_roundg (n - (i + 1))
        case measure => have := HGK.out; have := HIN.out; omega
        case rel => exact ⟨i + 1, rfl, by have := HIN.out; omega, HO8.out, HT8.out⟩
      · have HE := Lib.hid hb
        clear hb
        cases hc : klt p.1 t2 with
        | true =>
          have HC := Lib.hid hc
          clear hc
          go_upto_region 5 with fail
          refine wp_region_lit ?_
          refine wpList_run (v := .pointer (some ⟨y, 0, none⟩)) (wanted_none rfl) (exec_move rfl rfl) ?_
          simp only [Act.put, List.setIfInBounds_toArray, List.set_cons_zero, List.set_cons_succ]
          refine wpList_run (v := .pointer (some ⟨y, 0, none⟩)) (wanted_none rfl) (exec_nil rfl rfl) ?_
          simp only [Act.put, List.setIfInBounds_toArray, List.set_cons_zero, List.set_cons_succ]
          refine wpList_run (v := .pointer (some ⟨y, 0, none⟩)) (wanted_none rfl) (exec_field (off := 0) (d := 0) rfl rfl (by kernel_rfl)) ?_
          simp only [Act.put, List.setIfInBounds_toArray, List.set_cons_zero, List.set_cons_succ]
          refine wpList_run (v := .slice (some ⟨b1, 0, none⟩) n c) (wanted_none rfl) (exec_load1 rfl rfl (by kernel_rfl) (HR2.out.blk.cell 0)) ?_
          simp only [Act.put, List.setIfInBounds_toArray, List.set_cons_zero, List.set_cons_succ]
          refine wpList_run (v := .int .i64 (i : Int)) (wanted_none rfl) (exec_move rfl rfl) ?_
          simp only [Act.put, List.setIfInBounds_toArray, List.set_cons_zero, List.set_cons_succ]
          refine wpList_run (v := .pointer (some ⟨b1, 0 + i * 2, none⟩)) (wanted_none rfl) (gx_iaddr (i := i) (sz := 2) rfl rfl rfl Try.underlying29 size_ref HIN.out rfl) ?_
          simp only [Act.put, List.setIfInBounds_toArray, List.set_cons_zero, List.set_cons_succ]
          refine wpList_run (v := .pointer (some ⟨b1, 0 + i * 2 + 0, none⟩)) (wanted_none rfl) (exec_field (off := 0 + i * 2) (d := 0) rfl rfl (by kernel_rfl)) ?_
          simp only [Act.put, List.setIfInBounds_toArray, List.set_cons_zero, List.set_cons_succ]
          refine wpList_run (v := strV p.1) (wanted_none rfl) (exec_load1 rfl rfl (by kernel_rfl) (HR2.out.row.el0 (r := encP p) (by rw [List.getElem?_map, HP.out]; rfl) 0 _ rfl)) ?_
          simp only [Act.put, List.setIfInBounds_toArray, List.set_cons_zero, List.set_cons_succ]
          refine wpList_run (v := strV fr) (wanted_none rfl) (exec_move rfl rfl) ?_
          simp only [Act.put, List.setIfInBounds_toArray, List.set_cons_zero, List.set_cons_succ]
          refine wpList_run (v := .bool true) (wanted_none rfl) (exec_sgeq rfl rfl rfl (by rw [HA.out]; rfl)) ?_
          simp only [Act.put, List.setIfInBounds_toArray, List.set_cons_zero, List.set_cons_succ]
          refine wpList_run (v := .bool true) (wanted_none rfl) (exec_move rfl rfl) ?_
          simp only [Act.put, List.setIfInBounds_toArray, List.set_cons_zero, List.set_cons_succ]
          refine wpList_run (v := strV t2) rfl (exec_move rfl rfl) ?_
          simp only [Act.put, List.setIfInBounds_toArray, List.set_cons_zero, List.set_cons_succ]
          refine wpList_run (v := .bool false) rfl (exec_seqlr rfl rfl rfl (key_ne_nil HE.out)) ?_
          simp only [Act.put, List.setIfInBounds_toArray, List.set_cons_zero, List.set_cons_succ]
          refine wpList_run (v := .bool false) rfl (exec_move rfl rfl) ?_
          simp only [Act.put, List.setIfInBounds_toArray, List.set_cons_zero, List.set_cons_succ]
          refine wpList_run (v := .pointer (some ⟨y, 0, none⟩)) rfl (exec_move rfl rfl) ?_
          simp only [Act.put, List.setIfInBounds_toArray, List.set_cons_zero, List.set_cons_succ]
          refine wpList_run (v := .pointer (some ⟨y, 0, none⟩)) rfl (exec_nil rfl rfl) ?_
          simp only [Act.put, List.setIfInBounds_toArray, List.set_cons_zero, List.set_cons_succ]
          refine wpList_run (v := .pointer (some ⟨y, 0, none⟩)) rfl (exec_field (off := 0) (d := 0) rfl rfl (by kernel_rfl)) ?_
          simp only [Act.put, List.setIfInBounds_toArray, List.set_cons_zero, List.set_cons_succ]
          refine wpList_run (v := .slice (some ⟨b1, 0, none⟩) n c) rfl (exec_load1 rfl rfl (by kernel_rfl) (HR2.out.blk.cell 0)) ?_
          simp only [Act.put, List.setIfInBounds_toArray, List.set_cons_zero, List.set_cons_succ]
          refine wpList_run (v := .int .i64 (i : Int)) rfl (exec_move rfl rfl) ?_
          simp only [Act.put, List.setIfInBounds_toArray, List.set_cons_zero, List.set_cons_succ]
          refine wpList_run (v := .pointer (some ⟨b1, 0 + i * 2, none⟩)) rfl (gx_iaddr (i := i) (sz := 2) rfl rfl rfl Try.underlying29 size_ref HIN.out rfl) ?_
          simp only [Act.put, List.setIfInBounds_toArray, List.set_cons_zero, List.set_cons_succ]
          refine wpList_run (v := .pointer (some ⟨b1, 0 + i * 2 + 0, none⟩)) rfl (exec_field (off := 0 + i * 2) (d := 0) rfl rfl (by kernel_rfl)) ?_
          simp only [Act.put, List.setIfInBounds_toArray, List.set_cons_zero, List.set_cons_succ]
          refine wpList_run (v := strV p.1) rfl (exec_load1 rfl rfl (by kernel_rfl) (HR2.out.row.el0 (r := encP p) (by rw [List.getElem?_map, HP.out]; rfl) 0 _ rfl)) ?_
          simp only [Act.put, List.setIfInBounds_toArray, List.set_cons_zero, List.set_cons_succ]
          refine wpList_run (v := strV t2) rfl (exec_move rfl rfl) ?_
          simp only [Act.put, List.setIfInBounds_toArray, List.set_cons_zero, List.set_cons_succ]
          refine wpList_run (v := .bool true) rfl (exec_slss rfl rfl rfl HC.out) ?_
          simp only [Act.put, List.setIfInBounds_toArray, List.set_cons_zero, List.set_cons_succ]
          refine wpList_run (v := .bool true) rfl (ix_pickF rfl rfl rfl) ?_
          simp only [Act.put, List.setIfInBounds_toArray, List.set_cons_zero, List.set_cons_succ]
          refine wpList_run (v := .bool true) (wanted_none rfl) (ix_pickT rfl rfl rfl) ?_
          simp only [Act.put, List.setIfInBounds_toArray, List.set_cons_zero, List.set_cons_succ]
          have hlm : (((l.take i).filter (inR fr t2)).map encP).length = n2 := by rw [List.length_map]; exact HN2.out.symm
          obtain ⟨A8, c8, w8, hrun, hrow, ht8⟩ := orw_add elmR (ty := 29) (W1 := w) HROW.out HTR.out (encP p) rfl (encP_one _) (by rw [hlm]; omega)
          rw [hlm] at hrun hrow
          have HRUN8 := Lib.hid hrun
          have HO8 := Lib.hid (show Orw w8 w.heap.size 54 2 (.slice A8 (n2 + 1) c8) (((l.take (i + 1)).filter (inR fr t2)).map encP) from by rw [HTK.out, if_pos (by unfold inR; rw [HA.out, HC.out, Bool.or_true]; rfl), List.map_append]; exact hrow)
          have HT8 := Lib.hid ht8
          clear hrun hrow ht8 hlm
          go_upto_region 6 with fail
          refine wp_region_lit ?_
          refine wpList_run (v := .slice A2 n2 c2) (wanted_none rfl) (exec_move rfl rfl) ?_
          simp only [Act.put, List.setIfInBounds_toArray, List.set_cons_zero, List.set_cons_succ]
          refine wpList_run (v := .pointer (some ⟨y, 0, none⟩)) (wanted_none rfl) (exec_move rfl rfl) ?_
          simp only [Act.put, List.setIfInBounds_toArray, List.set_cons_zero, List.set_cons_succ]
          refine wpList_run (v := .pointer (some ⟨y, 0, none⟩)) (wanted_none rfl) (exec_nil rfl rfl) ?_
          simp only [Act.put, List.setIfInBounds_toArray, List.set_cons_zero, List.set_cons_succ]
          refine wpList_run (v := .pointer (some ⟨y, 0, none⟩)) (wanted_none rfl) (exec_field (off := 0) (d := 0) rfl rfl (by kernel_rfl)) ?_
          simp only [Act.put, List.setIfInBounds_toArray, List.set_cons_zero, List.set_cons_succ]
          refine wpList_run (v := .slice (some ⟨b1, 0, none⟩) n c) (wanted_none rfl) (exec_load1 rfl rfl (by kernel_rfl) (HR2.out.blk.cell 0)) ?_
          simp only [Act.put, List.setIfInBounds_toArray, List.set_cons_zero, List.set_cons_succ]
          refine wpList_run (v := .int .i64 (i : Int)) (wanted_none rfl) (exec_move rfl rfl) ?_
          simp only [Act.put, List.setIfInBounds_toArray, List.set_cons_zero, List.set_cons_succ]
          refine wpList_run (v := .pointer (some ⟨b1, 0 + i * 2, none⟩)) (wanted_none rfl) (gx_iaddr (i := i) (sz := 2) rfl rfl rfl Try.underlying29 size_ref HIN.out rfl) ?_
          simp only [Act.put, List.setIfInBounds_toArray, List.set_cons_zero, List.set_cons_succ]
          refine wpList_run (v := .agg (encP p).toArray) (wanted_none rfl) (gx_loads rfl rfl (show wr.rangeAt b1 (0 + i * 2) (encP p) from by rw [Nat.zero_add]; exact HR2.out.row.el (r := encP p) (by rw [List.getElem?_map, HP.out]; rfl)) Try.underlying54 rfl (by rw [size_ref]; rfl)) ?_
          simp only [Act.put, List.setIfInBounds_toArray, List.set_cons_zero, List.set_cons_succ]
          refine wpList_run (v := .slice (some ⟨wr.heap.size, 0, none⟩) 1 1) (w' := wr.alloc (.cells (encP p).toArray 54)) (wanted_none rfl) (exec_buildSlice1 rfl rfl (build_one elmR (encP p) rfl (by decide) _ rfl _)) ?_
          simp only [Act.put, List.setIfInBounds_toArray, List.set_cons_zero, List.set_cons_succ]
          refine wpList_run (v := .slice A8 (n2 + 1) c8) (w' := w8) (wanted_none rfl) (exec_append rfl rfl rfl HRUN8.out) ?_
          simp only [Act.put, List.setIfInBounds_toArray, List.set_cons_zero, List.set_cons_succ]
          refine wpList_run (v := .slice A8 (n2 + 1) c8) (wanted_none rfl) (gx_assign rfl rfl) ?_
          simp only [Act.put, List.setIfInBounds_toArray, List.set_cons_zero, List.set_cons_succ]
          go_upto_region 4 with fail
          refine wp_region_lit ?_
          refine wpList_run (v := .int .i64 (i : Int)) (wanted_none rfl) (exec_move rfl rfl) ?_
          simp only [Act.put, List.setIfInBounds_toArray, List.set_cons_zero, List.set_cons_succ]
          refine wpList_run (v := .int .i64 ((i + 1 : Nat) : Int)) (wanted_none rfl) (ix_add rfl rfl rfl (by omega) (by omega)) ?_
          simp only [Act.put, List.setIfInBounds_toArray, List.set_cons_zero, List.set_cons_succ]
          refine wpList_run (v := .int .i64 ((i + 1 : Nat) : Int)) (wanted_none rfl) (gx_assign rfl rfl) ?_
          simp only [Act.put, List.setIfInBounds_toArray, List.set_cons_zero, List.set_cons_succ]
          go_wp2_with fail
          go_roundg (n - (i + 1))
          case measure => have := HGK.out; have := HIN.out; omega
          case rel => exact ⟨i + 1, rfl, by have := HIN.out; omega, HO8.out, HT8.out⟩
        | false =>
          have HC := Lib.hid hc
          clear hc
          go_upto_region 5 with fail
          refine wp_region_lit ?_
          refine wpList_run (v := .pointer (some ⟨y, 0, none⟩)) (wanted_none rfl) (exec_move rfl rfl) ?_
          simp only [Act.put, List.setIfInBounds_toArray, List.set_cons_zero, List.set_cons_succ]
          refine wpList_run (v := .pointer (some ⟨y, 0, none⟩)) (wanted_none rfl) (exec_nil rfl rfl) ?_
          simp only [Act.put, List.setIfInBounds_toArray, List.set_cons_zero, List.set_cons_succ]
          refine wpList_run (v := .pointer (some ⟨y, 0, none⟩)) (wanted_none rfl) (exec_field (off := 0) (d := 0) rfl rfl (by kernel_rfl)) ?_
          simp only [Act.put, List.setIfInBounds_toArray, List.set_cons_zero, List.set_cons_succ]
          refine wpList_run (v := .slice (some ⟨b1, 0, none⟩) n c) (wanted_none rfl) (exec_load1 rfl rfl (by kernel_rfl) (HR2.out.blk.cell 0)) ?_
          simp only [Act.put, List.setIfInBounds_toArray, List.set_cons_zero, List.set_cons_succ]
          refine wpList_run (v := .int .i64 (i : Int)) (wanted_none rfl) (exec_move rfl rfl) ?_
          simp only [Act.put, List.setIfInBounds_toArray, List.set_cons_zero, List.set_cons_succ]
          refine wpList_run (v := .pointer (some ⟨b1, 0 + i * 2, none⟩)) (wanted_none rfl) (gx_iaddr (i := i) (sz := 2) rfl rfl rfl Try.underlying29 size_ref HIN.out rfl) ?_
          simp only [Act.put, List.setIfInBounds_toArray, List.set_cons_zero, List.set_cons_succ]
          refine wpList_run (v := .pointer (some ⟨b1, 0 + i * 2 + 0, none⟩)) (wanted_none rfl) (exec_field (off := 0 + i * 2) (d := 0) rfl rfl (by kernel_rfl)) ?_
          simp only [Act.put, List.setIfInBounds_toArray, List.set_cons_zero, List.set_cons_succ]
          refine wpList_run (v := strV p.1) (wanted_none rfl) (exec_load1 rfl rfl (by kernel_rfl) (HR2.out.row.el0 (r := encP p) (by rw [List.getElem?_map, HP.out]; rfl) 0 _ rfl)) ?_
          simp only [Act.put, List.setIfInBounds_toArray, List.set_cons_zero, List.set_cons_succ]
          refine wpList_run (v := strV fr) (wanted_none rfl) (exec_move rfl rfl) ?_
          simp only [Act.put, List.setIfInBounds_toArray, List.set_cons_zero, List.set_cons_succ]
          refine wpList_run (v := .bool true) (wanted_none rfl) (exec_sgeq rfl rfl rfl (by rw [HA.out]; rfl)) ?_
          simp only [Act.put, List.setIfInBounds_toArray, List.set_cons_zero, List.set_cons_succ]
          refine wpList_run (v := .bool true) (wanted_none rfl) (exec_move rfl rfl) ?_
          simp only [Act.put, List.setIfInBounds_toArray, List.set_cons_zero, List.set_cons_succ]
          refine wpList_run (v := strV t2) rfl (exec_move rfl rfl) ?_
          simp only [Act.put, List.setIfInBounds_toArray, List.set_cons_zero, List.set_cons_succ]
          refine wpList_run (v := .bool false) rfl (exec_seqlr rfl rfl rfl (key_ne_nil HE.out)) ?_
          simp only [Act.put, List.setIfInBounds_toArray, List.set_cons_zero, List.set_cons_succ]
          refine wpList_run (v := .bool false) rfl (exec_move rfl rfl) ?_
          simp only [Act.put, List.setIfInBounds_toArray, List.set_cons_zero, List.set_cons_succ]
          refine wpList_run (v := .pointer (some ⟨y, 0, none⟩)) rfl (exec_move rfl rfl) ?_
          simp only [Act.put, List.setIfInBounds_toArray, List.set_cons_zero, List.set_cons_succ]
          refine wpList_run (v := .pointer (some ⟨y, 0, none⟩)) rfl (exec_nil rfl rfl) ?_
          simp only [Act.put, List.setIfInBounds_toArray, List.set_cons_zero, List.set_cons_succ]
          refine wpList_run (v := .pointer (some ⟨y, 0, none⟩)) rfl (exec_field (off := 0) (d := 0) rfl rfl (by kernel_rfl)) ?_
          simp only [Act.put, List.setIfInBounds_toArray, List.set_cons_zero, List.set_cons_succ]
          refine wpList_run (v := .slice (some ⟨b1, 0, none⟩) n c) rfl (exec_load1 rfl rfl (by kernel_rfl) (HR2.out.blk.cell 0)) ?_
          simp only [Act.put, List.setIfInBounds_toArray, List.set_cons_zero, List.set_cons_succ]
          refine wpList_run (v := .int .i64 (i : Int)) rfl (exec_move rfl rfl) ?_
          simp only [Act.put, List.setIfInBounds_toArray, List.set_cons_zero, List.set_cons_succ]
          refine wpList_run (v := .pointer (some ⟨b1, 0 + i * 2, none⟩)) rfl (gx_iaddr (i := i) (sz := 2) rfl rfl rfl Try.underlying29 size_ref HIN.out rfl) ?_
          simp only [Act.put, List.setIfInBounds_toArray, List.set_cons_zero, List.set_cons_succ]
          refine wpList_run (v := .pointer (some ⟨b1, 0 + i * 2 + 0, none⟩)) rfl (exec_field (off := 0 + i * 2) (d := 0) rfl rfl (by kernel_rfl)) ?_
          simp only [Act.put, List.setIfInBounds_toArray, List.set_cons_zero, List.set_cons_succ]
          refine wpList_run (v := strV p.1) rfl (exec_load1 rfl rfl (by kernel_rfl) (HR2.out.row.el0 (r := encP p) (by rw [List.getElem?_map, HP.out]; rfl) 0 _ rfl)) ?_
          simp only [Act.put, List.setIfInBounds_toArray, List.set_cons_zero, List.set_cons_succ]
          refine wpList_run (v := strV t2) rfl (exec_move rfl rfl) ?_
          simp only [Act.put, List.setIfInBounds_toArray, List.set_cons_zero, List.set_cons_succ]
          refine wpList_run (v := .bool false) rfl (exec_slss rfl rfl rfl HC.out) ?_
          simp only [Act.put, List.setIfInBounds_toArray, List.set_cons_zero, List.set_cons_succ]
          refine wpList_run (v := .bool false) rfl (ix_pickF rfl rfl rfl) ?_
          simp only [Act.put, List.setIfInBounds_toArray, List.set_cons_zero, List.set_cons_succ]
          refine wpList_run (v := .bool false) (wanted_none rfl) (ix_pickT rfl rfl rfl) ?_
          simp only [Act.put, List.setIfInBounds_toArray, List.set_cons_zero, List.set_cons_succ]
          have HNX := Lib.hid (show (l.take (i + 1)).filter (inR fr t2) = (l.take i).filter (inR fr t2) from by rw [HTK.out, show inR fr t2 p = false from (by unfold inR; rw [HA.out, HC.out, key_ne_nil HE.out]; rfl)]; exact List.append_nil _)
          go_upto_region 4 with fail
          refine wp_region_lit ?_
          refine wpList_run (v := .int .i64 (i : Int)) (wanted_none rfl) (exec_move rfl rfl) ?_
          simp only [Act.put, List.setIfInBounds_toArray, List.set_cons_zero, List.set_cons_succ]
          refine wpList_run (v := .int .i64 ((i + 1 : Nat) : Int)) (wanted_none rfl) (ix_add rfl rfl rfl (by omega) (by omega)) ?_
          simp only [Act.put, List.setIfInBounds_toArray, List.set_cons_zero, List.set_cons_succ]
          refine wpList_run (v := .int .i64 ((i + 1 : Nat) : Int)) (wanted_none rfl) (gx_assign rfl rfl) ?_
          simp only [Act.put, List.setIfInBounds_toArray, List.set_cons_zero, List.set_cons_succ]
          go_wp2_with fail
          go_roundg (n - (i + 1))
          case measure => have := HGK.out; have := HIN.out; omega
          case rel => exact ⟨i + 1, rfl, by have := HIN.out; omega, by rw [HNX.out]; exact HROW.out, HTR.out⟩
  · obtain rfl : n = i := by have := HGK.out; omega
    have HFI := Lib.hid (show (l.take n).filter (inR fr t2) = l.filter (inR fr t2) from by rw [List.take_of_length_le (by rw [← HN.out]; exact Nat.le_refl _)])
    clear hlt
    go_upto_region 3 with fail
    refine wp_region_lit ?_
    refine wpList_run (v := .int .i64 (n : Int)) (wanted_none rfl) (exec_move rfl rfl) ?_
    simp only [Act.put, List.setIfInBounds_toArray, List.set_cons_zero, List.set_cons_succ]
    refine wpList_run (v := .pointer (some ⟨y, 0, none⟩)) (wanted_none rfl) (exec_move rfl rfl) ?_
    simp only [Act.put, List.setIfInBounds_toArray, List.set_cons_zero, List.set_cons_succ]
    refine wpList_run (v := .pointer (some ⟨y, 0, none⟩)) (wanted_none rfl) (exec_nil rfl rfl) ?_
    simp only [Act.put, List.setIfInBounds_toArray, List.set_cons_zero, List.set_cons_succ]
    refine wpList_run (v := .pointer (some ⟨y, 0, none⟩)) (wanted_none rfl) (exec_field (off := 0) (d := 0) rfl rfl (by kernel_rfl)) ?_
    simp only [Act.put, List.setIfInBounds_toArray, List.set_cons_zero, List.set_cons_succ]
    refine wpList_run (v := .slice A n c) (wanted_none rfl) (exec_load1 rfl rfl (by kernel_rfl) (HR2.out.blk.cell 0)) ?_
    simp only [Act.put, List.setIfInBounds_toArray, List.set_cons_zero, List.set_cons_succ]
    refine wpList_run (v := .int .i64 (n : Int)) (wanted_none rfl) (gx_len rfl rfl Try.underlying29) ?_
    simp only [Act.put, List.setIfInBounds_toArray, List.set_cons_zero, List.set_cons_succ]
    refine wpList_run (v := .bool false) (wanted_none rfl) (ix_lss rfl rfl rfl (decide_eq_false (by omega))) ?_
    simp only [Act.put, List.setIfInBounds_toArray, List.set_cons_zero, List.set_cons_succ]
    go_upto_region 7 with fail
    refine wp_region_lit ?_
    refine wpList_run (v := .slice A2 n2 c2) (wanted_none rfl) (exec_move rfl rfl) ?_
    simp only [Act.put, List.setIfInBounds_toArray, List.set_cons_zero, List.set_cons_succ]
    refine wpList_run (v := .slice A2 n2 c2) (wanted_none rfl) (gx_assign rfl rfl) ?_
    simp only [Act.put, List.setIfInBounds_toArray, List.set_cons_zero, List.set_cons_succ]
    go_wp2_with fail
    go_ret
    exact ⟨_, rfl, by rw [← HFI.out]; exact HROW.out, HTR.out⟩
end Go.Proofs.Ytmlkdkbpbleilaa
