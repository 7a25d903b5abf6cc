/-
  Ledgers: an account that no entry is of, and what was refused: the law's walk. No conditions.
-/
import Derived.Test.YthoefjaapjaeeaaLgO
namespace Go.Proofs.Ythoefjaapjaeeaa
open Go.RowKit
open Lg (Ent)
set_option linter.unusedVariables false
set_option linter.unusedSimpArgs false
/-- is one of the first i of account a -/
def tch (es : List Ent) (a : Int) (i : Nat) : Bool := (es.take i).any fun e => decide (e.1 = a)
theorem tch_zero (es : List Ent) (a : Int) : tch es a 0 = false := rfl
theorem tch_step {es : List Ent} {a : Int} {i : Nat} {e : Ent} (h : es[i]? = some e) : tch es a (i + 1) = (tch es a i || decide (e.1 = a)) := by
  unfold tch
  rw [Lg.take_snoc h, List.any_append]
  simp
theorem tch_off {es : List Ent} {a : Int} {n : Nat} (h : tch es a n = false) (hn : es.length ≤ n) : Lg.of a es = 0 := Lg.of_none fun e he hc => by
  have : tch es a n = true := by
    unfold tch
    rw [List.take_of_length_le hn]
    exact List.any_eq_true.2 ⟨e, he, by simpa using hc⟩
  rw [h] at this
  cases this
/-- a balance that changed: it was touched, and nothing was refused -/
theorem apart_of {n : Nat} {b : Nat → Int} {es : List Ent} {a m : Nat} (hn : es.length ≤ m) (h : Lg.postB n b es a ≠ b a) : tch es (a : Int) m = true ∧ Lg.postE n b es = 0 := by
  by_cases h0 : Lg.postE n b es = 0
  · refine ⟨?_, h0⟩
    cases ht : tch es (a : Int) m with
    | true => rfl
    | false =>
      rw [Lg.postB_ok h0] at h
      exact absurd (by show b a + Lg.of (a : Int) es = b a; rw [tch_off ht hn]; omega) h
  · rw [Lg.postB_bad h0] at h
    exact absurd rfl h
set_option maxRecDepth 20000 in
set_option maxHeartbeats 4000000 in
theorem apart_walk {w : World} {A1 A2 : Option Addr} {n1 n2 c1 c2 : Nat} {fs es : List Ent} (h1 : EntAt w A1 n1 fs) (h2 : EntAt w A2 n2 es) (hn1 : n1 ≤ 70368744177663) (hn2 : n2 ≤ 70368744177663) : Calls Try.prog 7 #[.slice A1 n1 c1, .slice A2 n2 c2] w fun e w' => e = .returned (.bool true) ∧ Turn nowhere w w' := by
  have HF := Lib.hid h1
  have HE := Lib.hid h2
  have HN1 := Lib.hid hn1
  have HN2 := Lib.hid hn2
  have HLEN := Lib.hid h2.len
  have ym : (n2 : Int) ≤ 70368744177663 := by omega
  clear h1 h2 hn1 hn2
  go_enter Try.func7, Try.ntmps7
  go_upto_region 0 with fail
  refine wp_region_lit ?_
  refine wpList_run (v := .bool false) (wanted_none rfl) (gx_assign rfl rfl) ?_
  simp only [Act.put, List.setIfInBounds_toArray, List.set_cons_zero, List.set_cons_succ]
  go_upto_region 1 with fail
  refine wp_region_lit ?_
  refine wpList_op rfl fun K9 HK9 => ?_
  go_wp2_with fail
  refine (shown_walk w).mono ?_
  rintro e w1 ⟨rfl, ht⟩
  refine HK9.out _ _ ?_
  clear HK9
  try simp only [Act.put, List.setIfInBounds_toArray, List.set_cons_zero, List.set_cons_succ]
  have HT1 := Lib.hid ht
  clear ht
  refine wpList_run (v := .bool true) (wanted_none rfl) (gx_assign rfl rfl) ?_
  simp only [Act.put, List.setIfInBounds_toArray, List.set_cons_zero, List.set_cons_succ]
  go_upto_region 2 with fail
  refine wp_region_lit ?_
  refine wpList_op rfl fun K9 HK9 => ?_
  go_wp2_with fail
  refine (New_ok (n := 5) (by decide)).mono ?_
  rintro e w2 ⟨p, rfl, hp, hpl, ht⟩
  refine HK9.out _ _ ?_
  clear HK9
  try simp only [Act.put, List.setIfInBounds_toArray, List.set_cons_zero, List.set_cons_succ]
  have HP := Lib.hid hp
  have HPL := Lib.hid (show w.heap.size ≤ p from Nat.le_trans HT1.out.size hpl)
  have HT2 := Lib.hid (HT1.out.trans ht fun _ _ e => e)
  clear hp hpl ht
  refine wpList_run (v := .tuple #[.pointer (some ⟨p, 0, none⟩), .int .i64 0]) (wanted_none rfl) (exec_move rfl rfl) ?_
  simp only [Act.put, List.setIfInBounds_toArray, List.set_cons_zero, List.set_cons_succ]
  refine wpList_run (v := .pointer (some ⟨p, 0, none⟩)) (wanted_none rfl) (ix_extract rfl rfl rfl) ?_
  simp only [Act.put, List.setIfInBounds_toArray, List.set_cons_zero, List.set_cons_succ]
  refine wpList_run (v := .int .i64 0) (wanted_none rfl) (ix_extract rfl rfl rfl) ?_
  simp only [Act.put, List.setIfInBounds_toArray, List.set_cons_zero, List.set_cons_succ]
  refine wpList_run (v := .pointer (some ⟨p, 0, none⟩)) (wanted_none rfl) (gx_assign rfl rfl) ?_
  simp only [Act.put, List.setIfInBounds_toArray, List.set_cons_zero, List.set_cons_succ]
  refine wpList_run (v := .int .i64 0) (wanted_none rfl) (gx_assign rfl rfl) ?_
  simp only [Act.put, List.setIfInBounds_toArray, List.set_cons_zero, List.set_cons_succ]
  go_upto_region 3 with fail
  refine wp_region_lit ?_
  refine wpList_run (v := .bool true) (wanted_none rfl) (exec_move rfl rfl) ?_
  simp only [Act.put, List.setIfInBounds_toArray, List.set_cons_zero, List.set_cons_succ]
  refine wpList_run (v := .bool false) (wanted_none rfl) (ix_not (b := true) rfl rfl) ?_
  simp only [Act.put, List.setIfInBounds_toArray, List.set_cons_zero, List.set_cons_succ]
  refine wpList_run (v := .bool false) (wanted_none rfl) (exec_move rfl rfl) ?_
  simp only [Act.put, List.setIfInBounds_toArray, List.set_cons_zero, List.set_cons_succ]
  refine wpList_run (v := .pointer (some ⟨p, 0, none⟩)) rfl (exec_move rfl rfl) ?_
  simp only [Act.put, List.setIfInBounds_toArray, List.set_cons_zero, List.set_cons_succ]
  refine wpList_run (v := .bool false) rfl (ptr_eqn (by decide) rfl rfl rfl) ?_
  simp only [Act.put, List.setIfInBounds_toArray, List.set_cons_zero, List.set_cons_succ]
  refine wpList_run (v := .bool false) (wanted_none rfl) (ix_pickF rfl rfl rfl) ?_
  simp only [Act.put, List.setIfInBounds_toArray, List.set_cons_zero, List.set_cons_succ]
  refine wpList_run (v := .bool false) (wanted_none rfl) (exec_move rfl rfl) ?_
  simp only [Act.put, List.setIfInBounds_toArray, List.set_cons_zero, List.set_cons_succ]
  refine wpList_run (v := .int .i64 0) rfl (exec_move rfl rfl) ?_
  simp only [Act.put, List.setIfInBounds_toArray, List.set_cons_zero, List.set_cons_succ]
  refine wpList_run (v := .bool false) rfl (ix_neq rfl rfl rfl (by decide)) ?_
  simp only [Act.put, List.setIfInBounds_toArray, List.set_cons_zero, List.set_cons_succ]
  refine wpList_run (v := .bool false) (wanted_none rfl) (ix_pickF rfl rfl rfl) ?_
  simp only [Act.put, List.setIfInBounds_toArray, List.set_cons_zero, List.set_cons_succ]
  go_upto_region 5 with fail
  refine wp_region_lit ?_
  refine wpList_run (v := .pointer (some ⟨p, 0, none⟩)) (wanted_none rfl) (exec_move rfl rfl) ?_
  simp only [Act.put, List.setIfInBounds_toArray, List.set_cons_zero, List.set_cons_succ]
  refine wpList_run (v := .slice A1 n1 c1) (wanted_none rfl) (exec_move rfl rfl) ?_
  simp only [Act.put, List.setIfInBounds_toArray, List.set_cons_zero, List.set_cons_succ]
  refine wpList_op rfl fun K9 HK9 => ?_
  go_wp2_with fail
  refine (Post_walk HP.out (HF.out.still HT2.out) HN1.out).mono ?_
  rintro e w3 ⟨rfl, hp, ht⟩
  refine HK9.out _ _ ?_
  clear HK9
  try simp only [Act.put, List.setIfInBounds_toArray, List.set_cons_zero, List.set_cons_succ]
  obtain ⟨b1, hb1⟩ : ∃ x, x = Lg.postB 5 (fun _ => 0) fs := ⟨_, rfl⟩
  rw [← hb1] at hp
  have HP3 := Lib.hid hp
  have HT3 := Lib.hid (HT2.out.newer HPL.out ht)
  clear hp ht hb1
  go_upto_region 6 with fail
  refine wp_region_lit ?_
  refine wpList_run (v := .pointer (some ⟨p, 0, none⟩)) (wanted_none rfl) (exec_move rfl rfl) ?_
  simp only [Act.put, List.setIfInBounds_toArray, List.set_cons_zero, List.set_cons_succ]
  refine wpList_op rfl fun K9 HK9 => ?_
  go_wp2_with fail
  refine (Clone_walk HP3.out).mono ?_
  rintro e w4 ⟨q, rfl, hq, hql, ht⟩
  refine HK9.out _ _ ?_
  clear HK9
  try simp only [Act.put, List.setIfInBounds_toArray, List.set_cons_zero, List.set_cons_succ]
  have HQ4 := Lib.hid hq
  have HQL := Lib.hid (show w.heap.size ≤ q from Nat.le_trans HT3.out.size hql)
  have HNpq := Lib.hid (show q ≠ p from by have := HP3.out.blk.lt; omega)
  have HP4 := Lib.hid (HP3.out.still ht)
  have HT4 := Lib.hid (HT3.out.trans ht fun _ _ e => e)
  clear hq hql ht
  refine wpList_run (v := .pointer (some ⟨q, 0, none⟩)) (wanted_none rfl) (gx_assign rfl rfl) ?_
  simp only [Act.put, List.setIfInBounds_toArray, List.set_cons_zero, List.set_cons_succ]
  go_upto_region 7 with fail
  refine wp_region_lit ?_
  refine wpList_run (v := .pointer (some ⟨q, 0, none⟩)) (wanted_none rfl) (exec_move rfl rfl) ?_
  simp only [Act.put, List.setIfInBounds_toArray, List.set_cons_zero, List.set_cons_succ]
  refine wpList_run (v := .bool false) (wanted_none rfl) (ptr_eqn (by decide) rfl rfl rfl) ?_
  simp only [Act.put, List.setIfInBounds_toArray, List.set_cons_zero, List.set_cons_succ]
  go_upto_region 9 with fail
  refine wp_region_lit ?_
  refine wpList_run (v := .pointer (some ⟨p, 0, none⟩)) (wanted_none rfl) (exec_move rfl rfl) ?_
  simp only [Act.put, List.setIfInBounds_toArray, List.set_cons_zero, List.set_cons_succ]
  refine wpList_run (v := .slice A2 n2 c2) (wanted_none rfl) (exec_move rfl rfl) ?_
  simp only [Act.put, List.setIfInBounds_toArray, List.set_cons_zero, List.set_cons_succ]
  refine wpList_op rfl fun K9 HK9 => ?_
  go_wp2_with fail
  refine (Post_walk HP4.out (HE.out.still HT4.out) HN2.out).mono ?_
  rintro e w5 ⟨rfl, hp, ht⟩
  refine HK9.out _ _ ?_
  clear HK9
  try simp only [Act.put, List.setIfInBounds_toArray, List.set_cons_zero, List.set_cons_succ]
  obtain ⟨E, hE⟩ : ∃ x, x = Lg.postE 5 b1 es := ⟨_, rfl⟩
  obtain ⟨b2, hb2⟩ : ∃ x, x = Lg.postB 5 b1 es := ⟨_, rfl⟩
  have HAP := Lib.hid (show ∀ a : Nat, b2 a ≠ b1 a → tch es (a : Int) n2 = true ∧ E = 0 from fun a ha => by
    rw [hb2] at ha
    rw [hE]
    exact apart_of (by rw [← HLEN.out]; exact Nat.le_refl _) ha)
  rw [← hE]
  rw [← hb2] at hp
  have HP5 := Lib.hid hp
  have HQ5 := Lib.hid (HQ4.out.turn ht fun e => HNpq.out e)
  have HT5 := Lib.hid (HT4.out.newer HPL.out ht)
  clear hp ht hE hb2
  refine wpList_run (v := .int .i64 E) (wanted_none rfl) (gx_assign rfl rfl) ?_
  simp only [Act.put, List.setIfInBounds_toArray, List.set_cons_zero, List.set_cons_succ]
  go_upto_region 10 with fail
  refine wp_region_lit ?_
  refine wpList_run (v := .int .i64 0) (wanted_none rfl) (gx_assign rfl rfl) ?_
  simp only [Act.put, List.setIfInBounds_toArray, List.set_cons_zero, List.set_cons_succ]
  go_wp2_with fail
  go_loopg [10] 5 (fun gk iv wr => ∃ a : Nat, iv = .int .i64 (a : Int) ∧ a + gk = 5 ∧ Turn nowhere w5 wr)
  case atStart => exact ⟨0, rfl, by omega, Turn.refl _ _⟩
  obtain ⟨a, rfl, hga, hta⟩ := hrel
  have HGA := Lib.hid hga
  have HTA := Lib.hid hta
  have ya : (a : Int) ≤ 5 := by omega
  clear hga hta
  by_cases hlt : a < 5
  · have HLA := Lib.hid hlt
    have y3 : (a : Int) < 5 := by omega
    clear hlt
    go_upto_region 11 with fail
    refine wp_region_lit ?_
    refine wpList_run (v := .int .i64 (a : Int)) (wanted_none rfl) (exec_move rfl rfl) ?_
    simp only [Act.put, List.setIfInBounds_toArray, List.set_cons_zero, List.set_cons_succ]
    refine wpList_run (v := .bool true) (wanted_none rfl) (ix_lss rfl rfl rfl (decide_eq_true y3)) ?_
    simp only [Act.put, List.setIfInBounds_toArray, List.set_cons_zero, List.set_cons_succ]
    go_upto_region 13 with fail
    refine wp_region_lit ?_
    refine wpList_run (v := .bool false) (wanted_none rfl) (gx_assign rfl rfl) ?_
    simp only [Act.put, List.setIfInBounds_toArray, List.set_cons_zero, List.set_cons_succ]
    go_upto_region 14 with fail
    refine wp_region_lit ?_
    refine wpList_run (v := .int .i64 0) (wanted_none rfl) (gx_assign rfl rfl) ?_
    simp only [Act.put, List.setIfInBounds_toArray, List.set_cons_zero, List.set_cons_succ]
    obtain ⟨wo, hwo⟩ : ∃ z, z = wr := ⟨_, rfl⟩
    rw [← hwo] at HTA ⊢
    clear hwo
    obtain ⟨go, hgo⟩ : ∃ z, z = gk := ⟨_, rfl⟩
    rw [← hgo] at HGA
    have HGO := Lib.hid hgo
    clear hgo
    go_wp2_with fail
    go_loopg [11, 12] n2 (fun gk tv iv wr => ∃ i : Nat, iv = .int .i64 (i : Int) ∧ tv = .bool (tch es (a : Int) i) ∧ i + gk = n2 ∧ wr = wo)
    case atStart => exact ⟨0, rfl, rfl, by omega, rfl⟩
    obtain ⟨i, rfl, rfl, hgk, rfl⟩ := hrel
    have HGK := Lib.hid hgk
    have yi : (i : Int) ≤ (n2 : Int) := by omega
    clear hgk
    obtain ⟨tb, htb⟩ : ∃ x, x = tch es (a : Int) i := ⟨_, rfl⟩
    rw [← htb]
    have HTB := Lib.hid htb
    clear htb
    by_cases hlt : i < n2
    · have HLT := Lib.hid hlt
      have y4 : (i : Int) < (n2 : Int) := by omega
      obtain ⟨e, hei⟩ := ent_some HLEN.out hlt
      have HEI := Lib.hid hei
      obtain ⟨b9, o9, e9, _⟩ := HE.out.rng hei
      subst e9
      have HR := Lib.hid (((HE.out.still HT5.out).still HTA.out).rngw hei)
      have HC0 := Lib.hid (HR.out 0 _ rfl)
      have HST := Lib.hid (tch_step (a := (a : Int)) hei)
      clear hei hlt HR
      go_upto_region 15 with fail
      refine wp_region_lit ?_
      refine wpList_run (v := .int .i64 (i : Int)) (wanted_none rfl) (exec_move rfl rfl) ?_
      simp only [Act.put, List.setIfInBounds_toArray, List.set_cons_zero, List.set_cons_succ]
      refine wpList_run (v := .slice (some ⟨b9, o9, none⟩) n2 c2) (wanted_none rfl) (exec_move rfl rfl) ?_
      simp only [Act.put, List.setIfInBounds_toArray, List.set_cons_zero, List.set_cons_succ]
      refine wpList_run (v := .int .i64 (n2 : Int)) (wanted_none rfl) (gx_len rfl rfl Try.underlying35) ?_
      simp only [Act.put, List.setIfInBounds_toArray, List.set_cons_zero, List.set_cons_succ]
      refine wpList_run (v := .bool true) (wanted_none rfl) (ix_lss rfl rfl rfl (decide_eq_true y4)) ?_
      simp only [Act.put, List.setIfInBounds_toArray, List.set_cons_zero, List.set_cons_succ]
      cases tb with
      | true =>
        go_upto_region 17 with fail
        first
        | (rename_i K9 hK9; have HKC := Lib.hid hK9; clear hK9)
        | (rename_i K9 hK9 K8; have HKC := Lib.hid hK9; clear hK9)
        refine wp_region_lit ?_
        refine wpList_run (v := .bool true) (wanted_none rfl) (exec_move rfl rfl) ?_
        simp only [Act.put, List.setIfInBounds_toArray, List.set_cons_zero, List.set_cons_succ]
        refine wpList_run (v := .bool true) (wanted_none rfl) (exec_move rfl rfl) ?_
        simp only [Act.put, List.setIfInBounds_toArray, List.set_cons_zero, List.set_cons_succ]
        go_wp2_with fail
        refine HKC.out _ _ ?_
        clear HKC
        go_upto_region 16 with fail
        refine wp_region_lit ?_
        refine wpList_run (v := .int .i64 (i : Int)) (wanted_none rfl) (exec_move rfl rfl) ?_
        simp only [Act.put, List.setIfInBounds_toArray, List.set_cons_zero, List.set_cons_succ]
        refine wpList_run (v := .int .i64 ((i + 1 : Nat) : Int)) (wanted_none rfl) (ix_add rfl rfl rfl (by omega) (by omega)) ?_
        simp only [Act.put, List.setIfInBounds_toArray, List.set_cons_zero, List.set_cons_succ]
        refine wpList_run (v := .int .i64 ((i + 1 : Nat) : Int)) (wanted_none rfl) (gx_assign rfl rfl) ?_
        simp only [Act.put, List.setIfInBounds_toArray, List.set_cons_zero, List.set_cons_succ]
        go_wp2_with fail
        go_roundg (n2 - (i + 1))
        case measure => have := HGK.out; have := HLT.out; omega
        case rel => exact ⟨i + 1, rfl, by rw [HST.out, ← HTB.out]; rfl, by have := HLT.out; omega, rfl⟩
      | false =>
        go_upto_region 17 with fail
        refine wp_region_lit ?_
        refine wpList_run (v := .bool false) (wanted_none rfl) (exec_move rfl rfl) ?_
        simp only [Act.put, List.setIfInBounds_toArray, List.set_cons_zero, List.set_cons_succ]
        refine wpList_run (v := .bool false) (wanted_none rfl) (exec_move rfl rfl) ?_
        simp only [Act.put, List.setIfInBounds_toArray, List.set_cons_zero, List.set_cons_succ]
        refine wpList_run (v := .slice (some ⟨b9, o9, none⟩) n2 c2) rfl (exec_move rfl rfl) ?_
        simp only [Act.put, List.setIfInBounds_toArray, List.set_cons_zero, List.set_cons_succ]
        refine wpList_run (v := .int .i64 (i : Int)) rfl (exec_move rfl rfl) ?_
        simp only [Act.put, List.setIfInBounds_toArray, List.set_cons_zero, List.set_cons_succ]
        refine wpList_run (v := .pointer (some ⟨b9, o9 + i * 2, none⟩)) rfl (gx_iaddr (i := i) (sz := 2) rfl rfl rfl Try.underlying35 size_ent HLT.out rfl) ?_
        simp only [Act.put, List.setIfInBounds_toArray, List.set_cons_zero, List.set_cons_succ]
        refine wpList_run (v := .pointer (some ⟨b9, o9 + i * 2 + 0, none⟩)) rfl (exec_field (off := o9 + i * 2) (d := 0) rfl rfl (by kernel_rfl)) ?_
        simp only [Act.put, List.setIfInBounds_toArray, List.set_cons_zero, List.set_cons_succ]
        refine wpList_run (v := .int .i64 e.1) rfl (exec_load1 rfl rfl (by kernel_rfl) HC0.out) ?_
        simp only [Act.put, List.setIfInBounds_toArray, List.set_cons_zero, List.set_cons_succ]
        refine wpList_run (v := .int .i64 (a : Int)) rfl (exec_move rfl rfl) ?_
        simp only [Act.put, List.setIfInBounds_toArray, List.set_cons_zero, List.set_cons_succ]
        refine wpList_run (v := .bool (decide (e.1 = (a : Int)))) rfl (ix_eql rfl rfl rfl rfl) ?_
        simp only [Act.put, List.setIfInBounds_toArray, List.set_cons_zero, List.set_cons_succ]
        refine wpList_run (v := .bool (decide (e.1 = (a : Int)))) (wanted_none rfl) (ix_pickF rfl rfl rfl) ?_
        simp only [Act.put, List.setIfInBounds_toArray, List.set_cons_zero, List.set_cons_succ]
        refine wpList_run (v := .bool (decide (e.1 = (a : Int)))) (wanted_none rfl) (gx_assign rfl rfl) ?_
        simp only [Act.put, List.setIfInBounds_toArray, List.set_cons_zero, List.set_cons_succ]
        go_upto_region 16 with fail
        refine wp_region_lit ?_
        refine wpList_run (v := .int .i64 (i : Int)) (wanted_none rfl) (exec_move rfl rfl) ?_
        simp only [Act.put, List.setIfInBounds_toArray, List.set_cons_zero, List.set_cons_succ]
        refine wpList_run (v := .int .i64 ((i + 1 : Nat) : Int)) (wanted_none rfl) (ix_add rfl rfl rfl (by omega) (by omega)) ?_
        simp only [Act.put, List.setIfInBounds_toArray, List.set_cons_zero, List.set_cons_succ]
        refine wpList_run (v := .int .i64 ((i + 1 : Nat) : Int)) (wanted_none rfl) (gx_assign rfl rfl) ?_
        simp only [Act.put, List.setIfInBounds_toArray, List.set_cons_zero, List.set_cons_succ]
        go_wp2_with fail
        go_roundg (n2 - (i + 1))
        case measure => have := HGK.out; have := HLT.out; omega
        case rel => exact ⟨i + 1, rfl, by rw [HST.out, ← HTB.out]; rfl, by have := HLT.out; omega, rfl⟩
    · have y4 : ¬ (i : Int) < (n2 : Int) := by omega
      have HIN := Lib.hid (show i = n2 from by omega)
      have HV1 := Lib.hid (bal_at 5 b2 HLA.out)
      have HV2 := Lib.hid (bal_at 5 b1 HLA.out)
      clear hlt
      go_upto_region 15 with fail
      refine wp_region_lit ?_
      refine wpList_run (v := .int .i64 (i : Int)) (wanted_none rfl) (exec_move rfl rfl) ?_
      simp only [Act.put, List.setIfInBounds_toArray, List.set_cons_zero, List.set_cons_succ]
      refine wpList_run (v := .slice A2 n2 c2) (wanted_none rfl) (exec_move rfl rfl) ?_
      simp only [Act.put, List.setIfInBounds_toArray, List.set_cons_zero, List.set_cons_succ]
      refine wpList_run (v := .int .i64 (n2 : Int)) (wanted_none rfl) (gx_len rfl rfl Try.underlying35) ?_
      simp only [Act.put, List.setIfInBounds_toArray, List.set_cons_zero, List.set_cons_succ]
      refine wpList_run (v := .bool false) (wanted_none rfl) (ix_lss rfl rfl rfl (decide_eq_false y4)) ?_
      simp only [Act.put, List.setIfInBounds_toArray, List.set_cons_zero, List.set_cons_succ]
      go_upto_region 18 with fail
      refine wp_region_lit ?_
      refine wpList_run (v := .pointer (some ⟨p, 0, none⟩)) (wanted_none rfl) (exec_move rfl rfl) ?_
      simp only [Act.put, List.setIfInBounds_toArray, List.set_cons_zero, List.set_cons_succ]
      refine wpList_run (v := .int .i64 (a : Int)) (wanted_none rfl) (exec_move rfl rfl) ?_
      simp only [Act.put, List.setIfInBounds_toArray, List.set_cons_zero, List.set_cons_succ]
      refine wpList_op rfl fun K9 HK9 => ?_
      go_wp2_with fail
      refine (Balance_walk (HP5.out.still HTA.out)).mono ?_
      rintro e wr ⟨rfl, rfl⟩
      refine HK9.out _ _ ?_
      clear HK9
      try simp only [Act.put, List.setIfInBounds_toArray, List.set_cons_zero, List.set_cons_succ]
      rw [HV1.out.1, HV1.out.2]
      refine wpList_run (v := .tuple #[.int .i64 (b2 a), .int .i64 0]) (wanted_none rfl) (exec_move rfl rfl) ?_
      simp only [Act.put, List.setIfInBounds_toArray, List.set_cons_zero, List.set_cons_succ]
      refine wpList_run (v := .int .i64 (b2 a)) (wanted_none rfl) (ix_extract rfl rfl rfl) ?_
      simp only [Act.put, List.setIfInBounds_toArray, List.set_cons_zero, List.set_cons_succ]
      refine wpList_run (v := .int .i64 0) (wanted_none rfl) (ix_extract rfl rfl rfl) ?_
      simp only [Act.put, List.setIfInBounds_toArray, List.set_cons_zero, List.set_cons_succ]
      refine wpList_run (v := .int .i64 (b2 a)) (wanted_none rfl) (gx_assign rfl rfl) ?_
      simp only [Act.put, List.setIfInBounds_toArray, List.set_cons_zero, List.set_cons_succ]
      refine wpList_run (v := .int .i64 0) (wanted_none rfl) (gx_assign rfl rfl) ?_
      simp only [Act.put, List.setIfInBounds_toArray, List.set_cons_zero, List.set_cons_succ]
      go_upto_region 19 with fail
      refine wp_region_lit ?_
      refine wpList_run (v := .pointer (some ⟨q, 0, none⟩)) (wanted_none rfl) (exec_move rfl rfl) ?_
      simp only [Act.put, List.setIfInBounds_toArray, List.set_cons_zero, List.set_cons_succ]
      refine wpList_run (v := .int .i64 (a : Int)) (wanted_none rfl) (exec_move rfl rfl) ?_
      simp only [Act.put, List.setIfInBounds_toArray, List.set_cons_zero, List.set_cons_succ]
      refine wpList_op rfl fun K9 HK9 => ?_
      go_wp2_with fail
      refine (Balance_walk (HQ5.out.still HTA.out)).mono ?_
      rintro e wr ⟨rfl, rfl⟩
      refine HK9.out _ _ ?_
      clear HK9
      try simp only [Act.put, List.setIfInBounds_toArray, List.set_cons_zero, List.set_cons_succ]
      rw [HV2.out.1, HV2.out.2]
      refine wpList_run (v := .tuple #[.int .i64 (b1 a), .int .i64 0]) (wanted_none rfl) (exec_move rfl rfl) ?_
      simp only [Act.put, List.setIfInBounds_toArray, List.set_cons_zero, List.set_cons_succ]
      refine wpList_run (v := .int .i64 (b1 a)) (wanted_none rfl) (ix_extract rfl rfl rfl) ?_
      simp only [Act.put, List.setIfInBounds_toArray, List.set_cons_zero, List.set_cons_succ]
      refine wpList_run (v := .int .i64 0) (wanted_none rfl) (ix_extract rfl rfl rfl) ?_
      simp only [Act.put, List.setIfInBounds_toArray, List.set_cons_zero, List.set_cons_succ]
      refine wpList_run (v := .int .i64 (b1 a)) (wanted_none rfl) (gx_assign rfl rfl) ?_
      simp only [Act.put, List.setIfInBounds_toArray, List.set_cons_zero, List.set_cons_succ]
      refine wpList_run (v := .int .i64 0) (wanted_none rfl) (gx_assign rfl rfl) ?_
      simp only [Act.put, List.setIfInBounds_toArray, List.set_cons_zero, List.set_cons_succ]
      by_cases heq : b2 a = b1 a
      · have HEQ := Lib.hid heq
        clear heq
        go_upto_region 20 with fail
        first
        | (rename_i K9 hK9; have HKC := Lib.hid hK9; clear hK9)
        | (rename_i K9 hK9 K8; have HKC := Lib.hid hK9; clear hK9)
        refine wp_region_lit ?_
        refine wpList_run (v := .int .i64 (b2 a)) (wanted_none rfl) (exec_move rfl rfl) ?_
        simp only [Act.put, List.setIfInBounds_toArray, List.set_cons_zero, List.set_cons_succ]
        refine wpList_run (v := .int .i64 (b1 a)) (wanted_none rfl) (exec_move rfl rfl) ?_
        simp only [Act.put, List.setIfInBounds_toArray, List.set_cons_zero, List.set_cons_succ]
        refine wpList_run (v := .bool false) (wanted_none rfl) (ix_neq rfl rfl rfl (by rw [HEQ.out]; simp)) ?_
        simp only [Act.put, List.setIfInBounds_toArray, List.set_cons_zero, List.set_cons_succ]
        refine wpList_run (v := .bool false) (wanted_none rfl) (exec_move rfl rfl) ?_
        simp only [Act.put, List.setIfInBounds_toArray, List.set_cons_zero, List.set_cons_succ]
        go_wp2_with fail
        refine HKC.out _ _ ?_
        clear HKC
        go_upto_region 12 with fail
        refine wp_region_lit ?_
        refine wpList_run (v := .int .i64 (a : Int)) (wanted_none rfl) (exec_move rfl rfl) ?_
        simp only [Act.put, List.setIfInBounds_toArray, List.set_cons_zero, List.set_cons_succ]
        refine wpList_run (v := .int .i64 ((a + 1 : Nat) : Int)) (wanted_none rfl) (ix_add rfl rfl rfl (by omega) (by omega)) ?_
        simp only [Act.put, List.setIfInBounds_toArray, List.set_cons_zero, List.set_cons_succ]
        refine wpList_run (v := .int .i64 ((a + 1 : Nat) : Int)) (wanted_none rfl) (gx_assign rfl rfl) ?_
        simp only [Act.put, List.setIfInBounds_toArray, List.set_cons_zero, List.set_cons_succ]
        go_wp2_with fail
        go_roundg (5 - (a + 1))
        case measure => have := HGA.out; have := HLA.out; have := HGO.out; omega
        case rel => exact ⟨a + 1, rfl, by have := HLA.out; omega, HTA.out⟩
      · have HEQ := Lib.hid heq
        have hz := HAP.out a heq
        obtain rfl : tb = true := by rw [HTB.out, HIN.out]; exact hz.1
        have HE0 := Lib.hid hz.2
        clear heq hz
        go_upto_region 20 with fail
        refine wp_region_lit ?_
        refine wpList_run (v := .int .i64 (b2 a)) (wanted_none rfl) (exec_move rfl rfl) ?_
        simp only [Act.put, List.setIfInBounds_toArray, List.set_cons_zero, List.set_cons_succ]
        refine wpList_run (v := .int .i64 (b1 a)) (wanted_none rfl) (exec_move rfl rfl) ?_
        simp only [Act.put, List.setIfInBounds_toArray, List.set_cons_zero, List.set_cons_succ]
        refine wpList_run (v := .bool true) (wanted_none rfl) (ix_neq rfl rfl rfl (decide_eq_true HEQ.out)) ?_
        simp only [Act.put, List.setIfInBounds_toArray, List.set_cons_zero, List.set_cons_succ]
        refine wpList_run (v := .bool true) (wanted_none rfl) (exec_move rfl rfl) ?_
        simp only [Act.put, List.setIfInBounds_toArray, List.set_cons_zero, List.set_cons_succ]
        refine wpList_run (v := .bool true) rfl (exec_move rfl rfl) ?_
        simp only [Act.put, List.setIfInBounds_toArray, List.set_cons_zero, List.set_cons_succ]
        refine wpList_run (v := .bool false) rfl (ix_not (b := true) rfl rfl) ?_
        simp only [Act.put, List.setIfInBounds_toArray, List.set_cons_zero, List.set_cons_succ]
        refine wpList_run (v := .bool false) rfl (exec_move rfl rfl) ?_
        simp only [Act.put, List.setIfInBounds_toArray, List.set_cons_zero, List.set_cons_succ]
        refine wpList_run (v := .int .i64 E) rfl (exec_move rfl rfl) ?_
        simp only [Act.put, List.setIfInBounds_toArray, List.set_cons_zero, List.set_cons_succ]
        refine wpList_run (v := .bool false) rfl (ix_neq rfl rfl rfl (by rw [HE0.out]; rfl)) ?_
        simp only [Act.put, List.setIfInBounds_toArray, List.set_cons_zero, List.set_cons_succ]
        refine wpList_run (v := .bool false) rfl (ix_pickF rfl rfl rfl) ?_
        simp only [Act.put, List.setIfInBounds_toArray, List.set_cons_zero, List.set_cons_succ]
        refine wpList_run (v := .bool false) (wanted_none rfl) (ix_pickT rfl rfl rfl) ?_
        simp only [Act.put, List.setIfInBounds_toArray, List.set_cons_zero, List.set_cons_succ]
        go_upto_region 12 with fail
        refine wp_region_lit ?_
        refine wpList_run (v := .int .i64 (a : Int)) (wanted_none rfl) (exec_move rfl rfl) ?_
        simp only [Act.put, List.setIfInBounds_toArray, List.set_cons_zero, List.set_cons_succ]
        refine wpList_run (v := .int .i64 ((a + 1 : Nat) : Int)) (wanted_none rfl) (ix_add rfl rfl rfl (by omega) (by omega)) ?_
        simp only [Act.put, List.setIfInBounds_toArray, List.set_cons_zero, List.set_cons_succ]
        refine wpList_run (v := .int .i64 ((a + 1 : Nat) : Int)) (wanted_none rfl) (gx_assign rfl rfl) ?_
        simp only [Act.put, List.setIfInBounds_toArray, List.set_cons_zero, List.set_cons_succ]
        go_wp2_with fail
        go_roundg (5 - (a + 1))
        case measure => have := HGA.out; have := HLA.out; have := HGO.out; omega
        case rel => exact ⟨a + 1, rfl, by have := HLA.out; omega, HTA.out⟩
  · obtain rfl : a = 5 := by omega
    clear hlt
    go_upto_region 11 with fail
    refine wp_region_lit ?_
    refine wpList_run (v := .int .i64 ((5 : Nat) : Int)) (wanted_none rfl) (exec_move rfl rfl) ?_
    simp only [Act.put, List.setIfInBounds_toArray, List.set_cons_zero, List.set_cons_succ]
    refine wpList_run (v := .bool false) (wanted_none rfl) (ix_lss rfl rfl rfl (by decide)) ?_
    simp only [Act.put, List.setIfInBounds_toArray, List.set_cons_zero, List.set_cons_succ]
    go_upto_region 22 with fail
    refine wp_region_lit ?_
    refine wpList_run (v := .bool true) (wanted_none rfl) (gx_assign rfl rfl) ?_
    simp only [Act.put, List.setIfInBounds_toArray, List.set_cons_zero, List.set_cons_succ]
    go_wp2_with fail
    go_ret
    exact ⟨rfl, HT5.out.trans HTA.out fun _ _ e => e⟩
end Go.Proofs.Ythoefjaapjaeeaa
