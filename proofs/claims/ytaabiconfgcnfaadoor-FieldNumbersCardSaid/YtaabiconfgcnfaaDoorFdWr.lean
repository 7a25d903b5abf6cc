/-
  The reference's pair and When. No conditions.
-/
import Derived.Test.YtaabiconfgcnfaaDoorFdWh
namespace Go.Proofs.YtaabiconfgcnfaaDoor
open Go.RowKit
open Fdd
set_option linter.unusedVariables false
set_option linter.unusedSimpArgs false
def pairN (t : List UInt8) (i : Nat) : Nat := 10 * ((t.getD i 0).toNat - 48) + ((t.getD (i + 1) 0).toNat - 48)
theorem pair_val {t : List UInt8} {i : Nat} (h : i + 1 < t.length) : val ((t.take (i + 2)).drop i) = pairN t i := by
  have e : (t.take (i + 2)).drop i = [t.getD i 0, t.getD (i + 1) 0] := by
    rw [List.drop_take, show i + 2 - i = 2 by omega]
    have e2 : t.drop i = t[i] :: t[i + 1] :: t.drop (i + 2) := by rw [List.drop_eq_getElem_cons (by omega), List.drop_eq_getElem_cons h]
    rw [e2, List.getD_eq_getElem?_getD, List.getElem?_eq_getElem (show i < t.length by omega), List.getD_eq_getElem?_getD, List.getElem?_eq_getElem h]
    rfl
  rw [e, val_cons, val_cons]
  unfold pairN
  simp [val]
  omega
set_option maxRecDepth 20000 in
set_option maxHeartbeats 1000000 in
theorem pair_walk {t : List UInt8} {i : Nat} (h : AllD t) (hi : i + 1 < t.length) (hl : t.length ≤ 1000) (w : World) :
    Calls Tryd.prog 34 #[strV t, .int .i64 (i : Int)] w fun e w' => e = .returned (.int .i64 (pairN t i : Int)) ∧ Turn nowhere w w' := by
  have hb : ∀ j, j < t.length → 48 ≤ (t.getD j 0).toNat ∧ (t.getD j 0).toNat ≤ 57 := fun j hj => h _ (by rw [List.getD_eq_getElem?_getD, List.getElem?_eq_getElem hj]; exact List.getElem_mem _)
  have h1 := hb i (by omega)
  have h2 := hb (i + 1) hi
  have hv1 := fun W => value_walk (t.getD i 0) (by rw [dec_byte]; exact decide_eq_true h1) W
  have hv2 := fun W => value_walk (t.getD (i + 1) 0) (by rw [dec_byte]; exact decide_eq_true h2) W
  have hp : pairN t i = 10 * ((t.getD i 0).toNat - 48) + ((t.getD (i + 1) 0).toNat - 48) := rfl
  have HI := Lib.hid hi
  have HL := Lib.hid hl
  have HP := Lib.hid hp
  obtain ⟨b1, hb1⟩ : ∃ b, b = t.getD i 0 := ⟨_, rfl⟩
  obtain ⟨b2, hb2⟩ : ∃ b, b = t.getD (i + 1) 0 := ⟨_, rfl⟩
  rw [← hb1] at hv1 HP h1
  rw [← hb2] at hv2 HP h2
  have HB1 := Lib.hid hb1
  have HB2 := Lib.hid hb2
  have HV1 := Lib.hid hv1
  have HV2 := Lib.hid hv2
  clear hv1 hv2 hb h hi hl hb1 hb2 hp
  obtain ⟨d1, hd1⟩ : ∃ d, d = b1.toNat - 48 := ⟨_, rfl⟩
  obtain ⟨d2, hd2⟩ : ∃ d, d = b2.toNat - 48 := ⟨_, rfl⟩
  rw [← hd1] at HV1 HP
  rw [← hd2] at HV2 HP
  have HD1 := Lib.hid (show d1 ≤ 9 by omega)
  have HD2 := Lib.hid (show d2 ≤ 9 by omega)
  clear hd1 hd2 h1 h2
  go_enter Tryd.func34, Tryd.ntmps34
  go_upto_region 1 with fail
  have HT1 := Lib.hid (show Turn nowhere w w.drew from (Turn.refl _ _).drew)
  refine wp_region_till (fun _ => True) 12 (by kernel_rfl) ?_
  generalize w.drew = w1 at *
  refine till_pure (i := 0) (v := strV t) rfl (by kernel_rfl) (by kernel_rfl) (fun _ _ _ h => h) (.inl ⟨by rfl, fun W hW => exec_move rfl rfl⟩) trivial ?_
  simp only [Act.put, List.setIfInBounds_toArray, List.set_cons_zero, List.set_cons_succ]
  refine till_pure (i := 1) (v := .int .i64 (i : Int)) rfl (by kernel_rfl) (by kernel_rfl) (fun _ _ _ h => h) (.inl ⟨by rfl, fun W hW => exec_move rfl rfl⟩) trivial ?_
  simp only [Act.put, List.setIfInBounds_toArray, List.set_cons_zero, List.set_cons_succ]
  refine till_pure (i := 2) (v := .int .u8 (b1.toNat : Int)) rfl (by kernel_rfl) (by kernel_rfl) (fun _ _ _ h => h) (.inl ⟨by rfl, fun W hW => by rw [HB1.out]; exact exec_sidx rfl rfl rfl (by have := HI.out; omega)⟩) trivial ?_
  simp only [Act.put, List.setIfInBounds_toArray, List.set_cons_zero, List.set_cons_succ]
  refine till_pure (i := 5) (v := strV t) rfl (by kernel_rfl) (by kernel_rfl) (fun _ _ _ h => h) (.inl ⟨by rfl, fun W hW => exec_move rfl rfl⟩) trivial ?_
  simp only [Act.put, List.setIfInBounds_toArray, List.set_cons_zero, List.set_cons_succ]
  refine till_pure (i := 6) (v := .int .i64 (i : Int)) rfl (by kernel_rfl) (by kernel_rfl) (fun _ _ _ h => h) (.inl ⟨by rfl, fun W hW => exec_move rfl rfl⟩) trivial ?_
  simp only [Act.put, List.setIfInBounds_toArray, List.set_cons_zero, List.set_cons_succ]
  refine till_pure (i := 7) (v := .int .i64 ((i + 1 : Nat) : Int)) rfl (by kernel_rfl) (by kernel_rfl) (fun _ _ _ h => h) (.inl ⟨by rfl, fun W hW => by have := HI.out; have := HL.out; go_simp; exact wrap_big (by omega) (by omega)⟩) trivial ?_
  simp only [Act.put, List.setIfInBounds_toArray, List.set_cons_zero, List.set_cons_succ]
  refine till_pure (i := 8) (v := .int .u8 (b2.toNat : Int)) rfl (by kernel_rfl) (by kernel_rfl) (fun _ _ _ h => h) (.inl ⟨by rfl, fun W hW => by rw [HB2.out]; exact exec_sidx rfl rfl rfl HI.out⟩) trivial ?_
  simp only [Act.put, List.setIfInBounds_toArray, List.set_cons_zero, List.set_cons_succ]
  refine till_step (i := 3) (by kernel_rfl) rfl rfl ?_
  intro K1 HK1
  go_wp2_with fail
  refine (HV1.out _).mono ?_
  rintro e w2 ⟨rfl, hw2⟩
  rw [hw2]
  refine HK1.out _ _ ⟨fun _ => trivial, ?_⟩
  clear HK1 hw2
  try simp only [Act.put, List.setIfInBounds_toArray, List.set_cons_zero, List.set_cons_succ]
  refine till_pure (i := 4) (v := .int .i64 (10 * (d1 : Int))) rfl (by kernel_rfl) (by kernel_rfl) (fun _ _ _ h => h) (.inl ⟨by rfl, fun W hW => by have := HD1.out; go_simp; exact wrap_big (by omega) (by omega)⟩) trivial ?_
  simp only [Act.put, List.setIfInBounds_toArray, List.set_cons_zero, List.set_cons_succ]
  refine till_step (i := 9) (by kernel_rfl) rfl rfl ?_
  intro K1 HK1
  go_wp2_with fail
  refine (HV2.out _).mono ?_
  rintro e w2 ⟨rfl, hw2⟩
  rw [hw2]
  refine HK1.out _ _ ⟨fun _ => trivial, ?_⟩
  clear HK1 hw2
  refine till_tail 10 rfl (by kernel_rfl) ?_
  refine wpList_run (v := .int .i64 (pairN t i : Int)) (w' := w1) rfl (by rw [HP.out]; have := HD1.out; have := HD2.out; go_simp; exact wrap_big (by omega) (by omega)) ?_
  simp only [Act.put, List.setIfInBounds_toArray, List.set_cons_zero, List.set_cons_succ]
  go_wp2_with fail
  refine NoPanic.normal ?_
  go_wp2_with fail
  go_ret
  exact ⟨rfl, HT1.out⟩
theorem day_cell {v : Nat} (h1 : 1 ≤ v) (h2 : v ≤ 12) : (#[.int .i64 31, .int .i64 29, .int .i64 31, .int .i64 30, .int .i64 31, .int .i64 30, .int .i64 31, .int .i64 31, .int .i64 30, .int .i64 31, .int .i64 30, .int .i64 31] : Array Value)[v - 1]? = some (.int .i64 (days v : Int)) := by
  have hv : v = 1 ∨ v = 2 ∨ v = 3 ∨ v = 4 ∨ v = 5 ∨ v = 6 ∨ v = 7 ∨ v = 8 ∨ v = 9 ∨ v = 10 ∨ v = 11 ∨ v = 12 := by omega
  rcases hv with rfl | rfl | rfl | rfl | rfl | rfl | rfl | rfl | rfl | rfl | rfl | rfl <;> rfl
set_option maxRecDepth 40000 in
set_option maxHeartbeats 2000000 in
theorem rwhen_walk (t : List UInt8) (w : World) (hl : t.length ≤ 9223372036854775807) :
    Calls Tryd.prog 16 #[strV t] w fun e w' => e = .returned (.bool (whenD t)) ∧ Turn nowhere w w' := by
  have how := all_walk t w hl
  have HW := Lib.hid how
  clear how hl
  obtain ⟨n, hn⟩ : ∃ n, n = t.length := ⟨_, rfl⟩
  have hdef : whenD t = (decide (n = 10 ∧ onlyOf t dec = true) && decide (1 ≤ val (t.take 2) ∧ val (t.take 2) ≤ 12 ∧ 1 ≤ val ((t.take 4).drop 2) ∧ val ((t.take 4).drop 2) ≤ days (val (t.take 2)) ∧ val ((t.take 6).drop 4) ≤ 23 ∧ val ((t.take 8).drop 6) ≤ 59 ∧ val (t.drop 8) ≤ 59)) := by rw [hn]; rfl
  have HD := Lib.hid hdef
  have HN := Lib.hid hn
  clear hdef hn
  go_enter Tryd.func16, Tryd.ntmps16
  go_upto_region 1 with fail
  refine wp_region_lit ?_
  refine wpList_run (v := strV t) rfl (exec_move rfl rfl) ?_
  simp only [Act.put, List.setIfInBounds_toArray, List.set_cons_zero, List.set_cons_succ]
  refine wpList_run (v := .int .i64 (n : Int)) (w' := w) rfl (by rw [HN.out]; exact exec_slen rfl rfl) ?_
  simp only [Act.put, List.setIfInBounds_toArray, List.set_cons_zero, List.set_cons_succ]
  by_cases h10 : n = 10
  · subst h10
    cases hq : onlyOf t dec with
    | false =>
      rw [hq] at HW
      have HX := Lib.hid (show whenD t = false from by rw [HD.out, hq]; simp)
      go_wp2_with (go_at_call 29; refine HW.out.mono ?_; rintro e w1 ⟨rfl, rfl⟩)
      go_ret
      rw [HX.out]
      exact ⟨rfl, Turn.refl _ _⟩
    | true =>
      rw [hq] at HW
      have hlen : t.length = 10 := HN.out.symm
      have HX := Lib.hid (show whenD t = decide (1 ≤ pairN t 0 ∧ pairN t 0 ≤ 12 ∧ 1 ≤ pairN t 2 ∧ pairN t 2 ≤ days (pairN t 0) ∧ pairN t 4 ≤ 23 ∧ pairN t 6 ≤ 59 ∧ pairN t 8 ≤ 59) from by
        rw [HD.out, hq, ← pair_val (t := t) (i := 0) (by omega), ← pair_val (t := t) (i := 2) (by omega), ← pair_val (t := t) (i := 4) (by omega), ← pair_val (t := t) (i := 6) (by omega), ← pair_val (t := t) (i := 8) (by omega), List.drop_zero, List.take_of_length_le (show t.length ≤ 8 + 2 by omega)]
        simp)
      have hpw : ∀ i : Nat, i + 1 < 10 → ∀ W, Calls Tryd.prog 34 #[strV t, .int .i64 (i : Int)] W fun e w' => e = .returned (.int .i64 (pairN t i : Int)) ∧ Turn nowhere W w' := fun i hi W => pair_walk (allD_of hq) (by omega) (by omega) W
      have hp0 : ∀ W, Calls Tryd.prog 34 #[strV t, .int .i64 0] W fun e w' => e = .returned (.int .i64 (pairN t 0 : Int)) ∧ Turn nowhere W w' := hpw 0 (by decide)
      have hp2 : ∀ W, Calls Tryd.prog 34 #[strV t, .int .i64 2] W fun e w' => e = .returned (.int .i64 (pairN t 2 : Int)) ∧ Turn nowhere W w' := hpw 2 (by decide)
      have HP0 := Lib.hid hp0
      have HP2 := Lib.hid hp2
      clear hp0 hp2 hlen hq
      have hp4 : ∀ W, Calls Tryd.prog 34 #[strV t, .int .i64 4] W fun e w' => e = .returned (.int .i64 (pairN t 4 : Int)) ∧ Turn nowhere W w' := hpw 4 (by decide)
      have hp6 : ∀ W, Calls Tryd.prog 34 #[strV t, .int .i64 6] W fun e w' => e = .returned (.int .i64 (pairN t 6 : Int)) ∧ Turn nowhere W w' := hpw 6 (by decide)
      have hp8 : ∀ W, Calls Tryd.prog 34 #[strV t, .int .i64 8] W fun e w' => e = .returned (.int .i64 (pairN t 8 : Int)) ∧ Turn nowhere W w' := hpw 8 (by decide)
      have HP4 := Lib.hid hp4
      have HP6 := Lib.hid hp6
      have HP8 := Lib.hid hp8
      clear hpw hp4 hp6 hp8 HD HN
      generalize pairN t 0 = v0 at *
      generalize pairN t 2 = v1 at *
      generalize pairN t 4 = v2 at *
      generalize pairN t 6 = v3 at *
      generalize pairN t 8 = v4 at *
      go_upto_region 4 with (go_at_call 29; refine HW.out.mono ?_; rintro e w1 ⟨rfl, rfl⟩)
      have hbk := Blk.new w1 3 #[.int .i64 31, .int .i64 29, .int .i64 31, .int .i64 30, .int .i64 31, .int .i64 30, .int .i64 31, .int .i64 31, .int .i64 30, .int .i64 31, .int .i64 30, .int .i64 31]
      have htb := (Turn.refl nowhere w1).alloc (.cells #[.int .i64 31, .int .i64 29, .int .i64 31, .int .i64 30, .int .i64 31, .int .i64 30, .int .i64 31, .int .i64 31, .int .i64 30, .int .i64 31, .int .i64 30, .int .i64 31] 3)
      generalize (w1.alloc (.cells #[.int .i64 31, .int .i64 29, .int .i64 31, .int .i64 30, .int .i64 31, .int .i64 30, .int .i64 31, .int .i64 31, .int .i64 30, .int .i64 31, .int .i64 30, .int .i64 31] 3)) = w2 at *
      generalize w1.heap.size = g at *
      have HB2 := Lib.hid hbk
      have HT2 := Lib.hid htb
      clear hbk htb HW
      go_upto_region 5 with (go_at_call 34; refine (HP0.out _).mono ?_; rintro e w3 ⟨rfl, ht3⟩)
      have HT3 := Lib.hid (HT2.out.trans ht3 (fun _ _ e => e))
      have HB3 := Lib.hid (HB2.out.turn ht3 (fun e => e))
      clear ht3
      go_upto_region 6 with (go_at_call 34; refine (HP2.out _).mono ?_; rintro e wb ⟨rfl, ht4⟩)
      have HTB := Lib.hid (HT3.out.trans ht4 (fun _ _ e => e))
      have HBK := Lib.hid (HB3.out.turn ht4 (fun e => e))
      clear ht4 HT3 HB3 HT2 HB2 HP0 HP2
      refine wp_region_lit ?_
      refine wpList_run (v := .int .i64 (v0 : Int)) rfl (exec_move rfl rfl) ?_
      simp only [Act.put, List.setIfInBounds_toArray, List.set_cons_zero, List.set_cons_succ]
      by_cases hc0 : 1 ≤ v0
      · have HE0 := Lib.hid hc0
        refine wpList_run (v := .bool true) (w' := wb) rfl (by go_simp <;> omega) ?_
        simp only [Act.put, List.setIfInBounds_toArray, List.set_cons_zero, List.set_cons_succ]
        have HC0 := hc0
        refine wpList_run (v := .bool true) rfl (exec_move rfl rfl) ?_
        simp only [Act.put, List.setIfInBounds_toArray, List.set_cons_zero, List.set_cons_succ]
        refine wpList_run (v := .int .i64 (v0 : Int)) rfl (exec_move rfl rfl) ?_
        simp only [Act.put, List.setIfInBounds_toArray, List.set_cons_zero, List.set_cons_succ]
        by_cases hc1 : v0 ≤ 12
        · have HE1 := Lib.hid hc1
          refine wpList_run (v := .bool true) (w' := wb) rfl (by go_simp <;> omega) ?_
          simp only [Act.put, List.setIfInBounds_toArray, List.set_cons_zero, List.set_cons_succ]
          have HC1 := hc1
          refine wpList_run (v := .bool true) (w' := wb) rfl (by go_simp) ?_
          simp only [Act.put, List.setIfInBounds_toArray, List.set_cons_zero, List.set_cons_succ]
          refine wpList_run (v := .bool true) rfl (exec_move rfl rfl) ?_
          simp only [Act.put, List.setIfInBounds_toArray, List.set_cons_zero, List.set_cons_succ]
          refine wpList_run (v := .int .i64 (v1 : Int)) rfl (exec_move rfl rfl) ?_
          simp only [Act.put, List.setIfInBounds_toArray, List.set_cons_zero, List.set_cons_succ]
          by_cases hc2 : 1 ≤ v1
          · have HE2 := Lib.hid hc2
            refine wpList_run (v := .bool true) (w' := wb) rfl (by go_simp <;> omega) ?_
            simp only [Act.put, List.setIfInBounds_toArray, List.set_cons_zero, List.set_cons_succ]
            refine wpList_run (v := .bool true) (w' := wb) rfl (by go_simp) ?_
            simp only [Act.put, List.setIfInBounds_toArray, List.set_cons_zero, List.set_cons_succ]
            refine wpList_run (v := .bool true) rfl (exec_move rfl rfl) ?_
            simp only [Act.put, List.setIfInBounds_toArray, List.set_cons_zero, List.set_cons_succ]
            refine wpList_run (v := .int .i64 (v1 : Int)) rfl (exec_move rfl rfl) ?_
            simp only [Act.put, List.setIfInBounds_toArray, List.set_cons_zero, List.set_cons_succ]
            refine wpList_run (v := .slice (some ⟨g, 0, none⟩) 12 12) rfl (exec_move rfl rfl) ?_
            simp only [Act.put, List.setIfInBounds_toArray, List.set_cons_zero, List.set_cons_succ]
            refine wpList_run (v := .int .i64 (v0 : Int)) rfl (exec_move rfl rfl) ?_
            simp only [Act.put, List.setIfInBounds_toArray, List.set_cons_zero, List.set_cons_succ]
            obtain ⟨q, hq⟩ : ∃ q, q = v0 - 1 := ⟨_, rfl⟩
            refine wpList_run (v := .int .i64 (q : Int)) (w' := wb) rfl (by go_simp; rw [wrap_big (by omega) (by omega)]; omega) ?_
            simp only [Act.put, List.setIfInBounds_toArray, List.set_cons_zero, List.set_cons_succ]
            have hcq : wb.cell? ⟨g, q, none⟩ = some (.int .i64 (days v0 : Int)) := by
              rw [HBK.out.cell q, hq]
              exact day_cell HC0 HC1
            have y9 : (q : Int) < 12 := by omega
            have y10 : (0 : Int) ≤ (q : Int) := by omega
            refine wpList_run (v := .pointer (some ⟨g, q, none⟩)) (w' := wb) rfl (by go_simp <;> omega) ?_
            simp only [Act.put, List.setIfInBounds_toArray, List.set_cons_zero, List.set_cons_succ]
            refine wpList_run (v := .int .i64 (days v0 : Int)) rfl (exec_load1 rfl rfl (by kernel_rfl) hcq) ?_
            simp only [Act.put, List.setIfInBounds_toArray, List.set_cons_zero, List.set_cons_succ]
            clear hcq y9 y10 hq
            by_cases hc3 : v1 ≤ days v0
            · have HE3 := Lib.hid hc3
              refine wpList_run (v := .bool true) (w' := wb) rfl (by go_simp <;> omega) ?_
              simp only [Act.put, List.setIfInBounds_toArray, List.set_cons_zero, List.set_cons_succ]
              refine wpList_run (v := .bool true) (w' := wb) rfl (by go_simp) ?_
              simp only [Act.put, List.setIfInBounds_toArray, List.set_cons_zero, List.set_cons_succ]
              refine wpList_run (v := .bool true) rfl (exec_move rfl rfl) ?_
              simp only [Act.put, List.setIfInBounds_toArray, List.set_cons_zero, List.set_cons_succ]
              refine wpList_run (v := strV t) rfl (exec_move rfl rfl) ?_
              simp only [Act.put, List.setIfInBounds_toArray, List.set_cons_zero, List.set_cons_succ]
              refine wpList_do rfl fun K1 hK1 => ?_
              have HK1 := Lib.hid hK1
              clear hK1
              go_wp2_with fail
              refine (HP4.out _).mono ?_
              rintro e wa4 ⟨rfl, ht4⟩
              have HTA4 := Lib.hid (HTB.out.trans ht4 (fun _ _ e => e))
              clear ht4
              refine HK1.out _ _ ?_
              clear HK1
              try simp only [Act.put, List.setIfInBounds_toArray, List.set_cons_zero, List.set_cons_succ]
              by_cases hc4 : v2 ≤ 23
              · have HE4 := Lib.hid hc4
                refine wpList_run (v := .bool true) (w' := wa4) rfl (by go_simp <;> omega) ?_
                simp only [Act.put, List.setIfInBounds_toArray, List.set_cons_zero, List.set_cons_succ]
                refine wpList_run (v := .bool true) (w' := wa4) rfl (by go_simp) ?_
                simp only [Act.put, List.setIfInBounds_toArray, List.set_cons_zero, List.set_cons_succ]
                refine wpList_run (v := .bool true) rfl (exec_move rfl rfl) ?_
                simp only [Act.put, List.setIfInBounds_toArray, List.set_cons_zero, List.set_cons_succ]
                refine wpList_run (v := strV t) rfl (exec_move rfl rfl) ?_
                simp only [Act.put, List.setIfInBounds_toArray, List.set_cons_zero, List.set_cons_succ]
                refine wpList_do rfl fun K1 hK1 => ?_
                have HK1 := Lib.hid hK1
                clear hK1
                go_wp2_with fail
                refine (HP6.out _).mono ?_
                rintro e wa5 ⟨rfl, ht5⟩
                have HTA5 := Lib.hid (HTA4.out.trans ht5 (fun _ _ e => e))
                clear ht5
                refine HK1.out _ _ ?_
                clear HK1
                try simp only [Act.put, List.setIfInBounds_toArray, List.set_cons_zero, List.set_cons_succ]
                by_cases hc5 : v3 ≤ 59
                · have HE5 := Lib.hid hc5
                  refine wpList_run (v := .bool true) (w' := wa5) rfl (by go_simp <;> omega) ?_
                  simp only [Act.put, List.setIfInBounds_toArray, List.set_cons_zero, List.set_cons_succ]
                  refine wpList_run (v := .bool true) (w' := wa5) rfl (by go_simp) ?_
                  simp only [Act.put, List.setIfInBounds_toArray, List.set_cons_zero, List.set_cons_succ]
                  refine wpList_run (v := .bool true) rfl (exec_move rfl rfl) ?_
                  simp only [Act.put, List.setIfInBounds_toArray, List.set_cons_zero, List.set_cons_succ]
                  refine wpList_run (v := strV t) rfl (exec_move rfl rfl) ?_
                  simp only [Act.put, List.setIfInBounds_toArray, List.set_cons_zero, List.set_cons_succ]
                  refine wpList_do rfl fun K1 hK1 => ?_
                  have HK1 := Lib.hid hK1
                  clear hK1
                  go_wp2_with fail
                  refine (HP8.out _).mono ?_
                  rintro e wa6 ⟨rfl, ht6⟩
                  have HTA6 := Lib.hid (HTA5.out.trans ht6 (fun _ _ e => e))
                  clear ht6
                  refine HK1.out _ _ ?_
                  clear HK1
                  try simp only [Act.put, List.setIfInBounds_toArray, List.set_cons_zero, List.set_cons_succ]
                  by_cases hc6 : v4 ≤ 59
                  · have HE6 := Lib.hid hc6
                    refine wpList_run (v := .bool true) (w' := wa6) rfl (by go_simp <;> omega) ?_
                    simp only [Act.put, List.setIfInBounds_toArray, List.set_cons_zero, List.set_cons_succ]
                    clear hc0 hc1 hc2 hc3 hc4 hc5 hc6 HC0 HC1
                    go_wp2_with fail
                    go_ret
                    rw [HX.out, decide_eq_true ⟨HE0.out, HE1.out, HE2.out, HE3.out, HE4.out, HE5.out, HE6.out⟩]
                    exact ⟨rfl, HTA6.out⟩
                  · have HE6 := Lib.hid hc6
                    refine wpList_run (v := .bool false) (w' := wa6) rfl (by go_simp <;> omega) ?_
                    simp only [Act.put, List.setIfInBounds_toArray, List.set_cons_zero, List.set_cons_succ]
                    clear hc0 hc1 hc2 hc3 hc4 hc5 hc6 HC0 HC1
                    go_wp2_with fail
                    go_ret
                    rw [HX.out, decide_eq_false (fun h => HE6.out h.2.2.2.2.2.2)]
                    exact ⟨rfl, HTA6.out⟩
                · have HE5 := Lib.hid hc5
                  refine wpList_run (v := .bool false) (w' := wa5) rfl (by go_simp <;> omega) ?_
                  simp only [Act.put, List.setIfInBounds_toArray, List.set_cons_zero, List.set_cons_succ]
                  clear hc0 hc1 hc2 hc3 hc4 hc5 HC0 HC1
                  go_wp2_with fail
                  go_ret
                  rw [HX.out, decide_eq_false (fun h => HE5.out h.2.2.2.2.2.1)]
                  exact ⟨rfl, HTA5.out⟩
              · have HE4 := Lib.hid hc4
                refine wpList_run (v := .bool false) (w' := wa4) rfl (by go_simp <;> omega) ?_
                simp only [Act.put, List.setIfInBounds_toArray, List.set_cons_zero, List.set_cons_succ]
                clear hc0 hc1 hc2 hc3 hc4 HC0 HC1
                go_wp2_with fail
                go_ret
                rw [HX.out, decide_eq_false (fun h => HE4.out h.2.2.2.2.1)]
                exact ⟨rfl, HTA4.out⟩
            · have HE3 := Lib.hid hc3
              refine wpList_run (v := .bool false) (w' := wb) rfl (by go_simp <;> omega) ?_
              simp only [Act.put, List.setIfInBounds_toArray, List.set_cons_zero, List.set_cons_succ]
              clear hc0 hc1 hc2 hc3 HC0 HC1
              go_wp2_with fail
              go_ret
              rw [HX.out, decide_eq_false (fun h => HE3.out h.2.2.2.1)]
              exact ⟨rfl, HTB.out⟩
          · have HE2 := Lib.hid hc2
            refine wpList_run (v := .bool false) (w' := wb) rfl (by go_simp <;> omega) ?_
            simp only [Act.put, List.setIfInBounds_toArray, List.set_cons_zero, List.set_cons_succ]
            clear hc0 hc1 hc2 HC0 HC1
            go_wp2_with fail
            go_ret
            rw [HX.out, decide_eq_false (fun h => HE2.out h.2.2.1)]
            exact ⟨rfl, HTB.out⟩
        · have HE1 := Lib.hid hc1
          refine wpList_run (v := .bool false) (w' := wb) rfl (by go_simp <;> omega) ?_
          simp only [Act.put, List.setIfInBounds_toArray, List.set_cons_zero, List.set_cons_succ]
          clear hc0 hc1 HC0
          go_wp2_with fail
          go_ret
          rw [HX.out, decide_eq_false (fun h => HE1.out h.2.1)]
          exact ⟨rfl, HTB.out⟩
      · have HE0 := Lib.hid hc0
        refine wpList_run (v := .bool false) (w' := wb) rfl (by go_simp <;> omega) ?_
        simp only [Act.put, List.setIfInBounds_toArray, List.set_cons_zero, List.set_cons_succ]
        clear hc0
        go_wp2_with fail
        go_ret
        rw [HX.out, decide_eq_false (fun h => HE0.out h.1)]
        exact ⟨rfl, HTB.out⟩
  · have HX := Lib.hid (show whenD t = false from by rw [HD.out, decide_eq_false (fun h => h10 h.1)]; rfl)
    have y1 : ((n : Int) == 10) = false := by simp; omega
    have y2 : ¬ ((n : Int) = 10) := by omega
    go_wp2_with fail
    go_ret
    rw [HX.out]
    exact ⟨rfl, Turn.refl _ _⟩
end Go.Proofs.YtaabiconfgcnfaaDoor
