/-
  Texts in one file: WmRo CrcTab. Conditions: the tables and the errors read as the program's text lays them.
-/
import Derived.Test.YtbfeejkdlhdioaaDoorJR0
import Derived.Test.YtbfeejkdlhdioaaDoorJR33
import Derived.Test.YtbfeejkdlhdioaaDoorRows
import Derived.Test.YtbfeejkdlhdioaaDoorJR5
import Derived.Lib.LaidTab
namespace Go.Proofs.YtbfeejkdlhdioaaDoor
open Go.RowKit
open Wl (B8)
set_option linter.unusedVariables false
set_option linter.unusedSimpArgs false
set_option maxRecDepth 20000
theorem wx_quo {a : Act} {o : Oper} {W : World} {x y : Operand} {n m : Nat} (ho : o.op = .binOp .quo 3 x y 3) (hx : a.eval x = .int .i64 (n : Int)) (hy : a.eval y = .int .i64 (m : Int)) (hm : 0 < m) (hn : n ≤ 9223372036854775807) : (execOp a.eval o).run Tryd.prog W = .ok (.value (.int .i64 ((n / m : Nat) : Int))) W := by
  have hm1 : (m : Int) ≠ 0 := by omega
  obtain ⟨q, hq⟩ : ∃ q : Nat, q = n / m := ⟨_, rfl⟩
  have hlt : q ≤ n := by rw [hq]; exact Nat.div_le_self _ _
  have e : (n : Int).tdiv (m : Int) = (q : Int) := by rw [hq]; rfl
  rw [← hq]
  have hw : IntKind.i64.wrap (q : Int) = (q : Int) := by rw [IntKind.wrap_i64]; omega
  unfold execOp
  simp only [ho, hx, hy]
  go_simp
  rw [if_neg (by omega), show IntKind.i64.wrap ((n : Int) / (m : Int)) = (n : Int) / (m : Int) from by rw [← Int.natCast_ediv, ← hq]; exact hw]
set_option maxRecDepth 20000 in
set_option maxHeartbeats 4000000 in
theorem cost_walk {w : World} {A : Option Addr} {n c : Nat} {l : Wl.Rec} (h1 : Ls w A n l) (hl : ¬ Wl.long l) :
    Calls Tryd.prog 31 #[.slice A n c] w fun r w' => r = .returned (.int .i64 (Wl.cost l : Int)) ∧ w' = w := by
  have HA := Lib.hid h1
  have HNA := Lib.hid h1.1
  obtain ⟨sz, hsz⟩ : ∃ z, z = Wl.size l := ⟨_, rfl⟩
  have hl' : n ≤ 16 ∧ sz ≤ 2048 := by
    unfold Wl.long at hl
    rw [hsz, ← h1.1]
    omega
  have y1 := hl'.1
  have y2 := hl'.2
  have HSZ := Lib.hid hsz
  have HC := Lib.hid (show Wl.cost l = (1 + 2 * n + sz + 39) / 40 from by unfold Wl.cost; rw [hsz, h1.1])
  clear h1 hl hl' hsz
  go_enter Tryd.func31, Tryd.ntmps31
  go_upto_region 0 with fail
  refine wp_region_lit ?_
  refine wpList_run (v := .int .i64 0) (wanted_none rfl) (gx_assign rfl rfl) ?_
  simp only [zz]
  go_upto_region 1 with fail
  refine wp_region_lit ?_
  refine wpList_run (v := .slice A n c) (wanted_none rfl) (exec_move rfl rfl) ?_
  simp only [zz]
  refine wpList_run (v := .int .i64 (n : Int)) (wanted_none rfl) (gx_len rfl rfl Tryd.underlying33) ?_
  simp only [zz]
  refine wpList_run (v := .int .i64 ((2 * n : Nat) : Int)) (wanted_none rfl) (ix_mul rfl rfl rfl (by omega) (by omega)) ?_
  simp only [zz]
  refine wpList_run (v := .int .i64 ((1 + 2 * n : Nat) : Int)) (wanted_none rfl) (ix_add rfl rfl rfl (by omega) (by omega)) ?_
  simp only [zz]
  refine wpList_run (v := .slice A n c) (wanted_none rfl) (exec_move rfl rfl) ?_
  simp only [zz]
  refine wpList_op rfl fun K9 HK9 => ?_
  go_wp2_with fail
  refine (bytes_walk (c := c) HA.out).mono ?_
  rintro e w ⟨rfl, rfl⟩
  refine HK9.out _ _ ?_
  clear HK9
  try simp only [zz]
  rw [← HSZ.out]
  refine wpList_run (v := .int .i64 ((1 + 2 * n + sz : Nat) : Int)) (wanted_none rfl) (ix_add rfl rfl rfl (by omega) (by omega)) ?_
  simp only [zz]
  refine wpList_run (v := .int .i64 ((1 + 2 * n + sz + 39 : Nat) : Int)) (wanted_none rfl) (ix_add rfl rfl rfl (by omega) (by omega)) ?_
  simp only [zz]
  refine wpList_run (v := .int .i64 (((1 + 2 * n + sz + 39) / 40 : Nat) : Int)) (wanted_none rfl) (wx_quo (m := 40) rfl rfl rfl (by decide) (by omega)) ?_
  simp only [zz]
  refine wpList_run (v := .int .i64 (((1 + 2 * n + sz + 39) / 40 : Nat) : Int)) (wanted_none rfl) (gx_assign rfl rfl) ?_
  simp only [zz]
  obtain ⟨q, hq⟩ : ∃ q, q = (1 + 2 * n + sz + 39) / 40 := ⟨_, rfl⟩
  rw [← hq] at HC ⊢
  clear hq
  go_wp2_with fail
  go_ret
  rw [HC.out]
  exact ⟨rfl, rfl⟩
set_option maxRecDepth 20000 in
set_option maxHeartbeats 4000000 in
theorem walRound_main (A0 : Option Addr) (n0 c0 : Nat) (l0 : Wl.Rec) (a1 a2 : Int) (w : World) (h0 : Ls w A0 n0 l0) (h1 : -9223372036854775808 ≤ a1 ∧ a1 ≤ 9223372036854775807) (h2 : -9223372036854775808 ≤ a2 ∧ a2 ≤ 9223372036854775807) (htab : Tab w) :
    Calls Tryd.prog 6 #[.slice A0 n0 c0, .int .i64 a1, .int .i64 a2] w fun r w' => r = .returned (.bool true) ∧ Turn nowhere w w' := by
  have HL := Lib.hid h0
  have HI1 := Lib.hid h1
  have HI2 := Lib.hid h2
  have HTAB := Lib.hid htab
  have y0 := h0.2.1
  clear h0 h1 h2 htab
  go_enter Tryd.func6, Tryd.ntmps6
  go_upto_region 0 with fail
  refine wp_region_lit ?_
  refine wpList_run (v := .bool false) (wanted_none rfl) (gx_assign rfl rfl) ?_
  simp only [zz]
  go_upto_region 1 with fail
  refine wp_region_lit ?_
  refine wpList_op rfl fun K9 HK9 => ?_
  go_wp2_with fail
  refine (shown_walk HTAB.out).mono ?_
  rintro e w1 ⟨rfl, ht⟩
  refine HK9.out _ _ ?_
  clear HK9
  try simp only [zz]
  have HT1 := Lib.hid ht
  have HTAB1 := Lib.hid (tab_still HTAB.out ht)
  clear ht
  refine wpList_run (v := .bool true) (wanted_none rfl) (gx_assign rfl rfl) ?_
  simp only [zz]
  go_upto_region 2 with fail
  refine wp_region_lit ?_
  refine wpList_op rfl fun K9 HK9 => ?_
  go_wp2_with fail
  refine (ground_ro 258 (by decide) (by decide) HTAB1.out).mono ?_
  rintro e w2 ⟨ht, p, xg, rfl, hst⟩
  refine HK9.out _ _ ?_
  clear HK9
  try simp only [zz]
  have HT2 := Lib.hid (HT1.out.trans ht fun _ _ e => e)
  obtain ⟨S, hS⟩ : ∃ S, S = (258 - 2) / 64 := ⟨_, rfl⟩
  rw [← hS] at hst
  have yS : S = 4 := by rw [hS]
  have HSG := Lib.hid (show segsN ((258 : Nat) : Int) = S from by rw [yS]; decide)
  have HRO := Lib.hid (show Ro w w2 p S 258 0 0 xg [] from by
    obtain ⟨F, s, K, d, v, vP, vH, gs, g1, g2, g3, g4, g5, g6, g7, g8⟩ := hst
    exact ⟨F, s, K, d, v, vP, vH, gs, g1, g2, g3, g4, g5, g6, g7, fun b hb => Nat.le_trans HT1.out.size (g8 b hb)⟩)
  clear ht hst hS HTAB1 HT1
  refine wpList_run (v := .tuple #[.pointer (some ⟨p, 0, none⟩), .pointer (some ⟨xg, 0, none⟩)]) (wanted_none rfl) (exec_move rfl rfl) ?_
  simp only [zz]
  refine wpList_run (v := .pointer (some ⟨p, 0, none⟩)) (wanted_none rfl) (ix_extract rfl rfl rfl) ?_
  simp only [zz]
  refine wpList_run (v := .pointer (some ⟨xg, 0, none⟩)) (wanted_none rfl) (ix_extract rfl rfl rfl) ?_
  simp only [zz]
  refine wpList_run (v := .pointer (some ⟨p, 0, none⟩)) (wanted_none rfl) (gx_assign rfl rfl) ?_
  simp only [zz]
  refine wpList_run (v := .pointer (some ⟨xg, 0, none⟩)) (wanted_none rfl) (gx_assign rfl rfl) ?_
  simp only [zz]
  go_upto_region 3 with fail
  refine wp_region_lit ?_
  refine wpList_run (v := .bool true) (wanted_none rfl) (exec_move rfl rfl) ?_
  simp only [zz]
  refine wpList_run (v := .bool false) (wanted_none rfl) (ix_not (b := true) rfl rfl) ?_
  simp only [zz]
  refine wpList_run (v := .bool false) (wanted_none rfl) (exec_move rfl rfl) ?_
  simp only [zz]
  refine wpList_run (v := .pointer (some ⟨xg, 0, none⟩)) rfl (exec_move rfl rfl) ?_
  simp only [zz]
  refine wpList_run (v := .bool false) rfl (ptr_nilW rfl rfl rfl rfl) ?_
  simp only [zz]
  refine wpList_run (v := .bool false) (wanted_none rfl) (ix_pickF rfl rfl rfl) ?_
  simp only [zz]
  go_upto_region 5 with fail
  refine wp_region_lit ?_
  refine wpList_run (v := .slice A0 n0 c0) (wanted_none rfl) (exec_move rfl rfl) ?_
  simp only [zz]
  refine wpList_op rfl fun K9 HK9 => ?_
  go_wp2_with fail
  refine (long_walk (c := c0) (HL.out.still HT2.out)).mono ?_
  rintro e w2 ⟨rfl, rfl⟩
  refine HK9.out _ _ ?_
  clear HK9
  try simp only [zz]
  by_cases hlo : Wl.long l0
  · rw [decide_eq_true hlo]
    refine wpList_run (v := .bool true) (wanted_none rfl) (exec_move rfl rfl) ?_
    simp only [zz]
    refine wpList_skip (by go_simp) ?_
    simp only [zz]
    refine wpList_skip (by go_simp) ?_
    simp only [zz]
    refine wpList_skip (by go_simp) ?_
    simp only [zz]
    refine wpList_run (v := .bool true) (wanted_none rfl) (ix_pickT rfl rfl rfl) ?_
    simp only [zz]
    go_upto_region 6 with fail
    refine wp_region_lit ?_
    refine wpList_run (v := .bool true) (wanted_none rfl) (gx_assign rfl rfl) ?_
    simp only [zz]
    go_wp2_with fail
    go_ret
    exact ⟨rfl, HT2.out⟩
  · rw [decide_eq_false hlo]
    have HLO := Lib.hid hlo
    clear hlo
    refine wpList_run (v := .bool false) (wanted_none rfl) (exec_move rfl rfl) ?_
    simp only [zz]
    refine wpList_run (v := .slice A0 n0 c0) rfl (exec_move rfl rfl) ?_
    simp only [zz]
    refine wpList_op (by go_simp) fun K9 HK9 => ?_
    go_wp2_with fail
    refine (cost_walk (c := c0) (HL.out.still HT2.out) HLO.out).mono ?_
    rintro e w2 ⟨rfl, rfl⟩
    refine HK9.out _ _ ?_
    clear HK9
    try simp only [zz]
    obtain ⟨ct, hct⟩ : ∃ z, z = Wl.cost l0 := ⟨_, rfl⟩
    rw [← hct]
    clear hct
    by_cases hc : 32 < (ct : Int)
    · refine wpList_run (v := .bool true) rfl (ix_gtr rfl rfl rfl (decide_eq_true hc)) ?_
      simp only [zz]
      refine wpList_run (v := .bool true) (wanted_none rfl) (ix_pickF rfl rfl rfl) ?_
      simp only [zz]
      go_upto_region 6 with fail
      refine wp_region_lit ?_
      refine wpList_run (v := .bool true) (wanted_none rfl) (gx_assign rfl rfl) ?_
      simp only [zz]
      go_wp2_with fail
      go_ret
      exact ⟨rfl, HT2.out⟩
    · refine wpList_run (v := .bool false) rfl (ix_gtr rfl rfl rfl (decide_eq_false hc)) ?_
      simp only [zz]
      refine wpList_run (v := .bool false) (wanted_none rfl) (ix_pickF rfl rfl rfl) ?_
      simp only [zz]
      clear hc
      go_upto_region 7 with fail
      refine wp_region_lit ?_
      refine wpList_run (v := .int .i64 a1) (wanted_none rfl) (exec_move rfl rfl) ?_
      simp only [zz]
      have hai := among_in (c := a1) (n := 301) (by omega)
      obtain ⟨n, hn⟩ : ∃ n : Nat, amongI a1 301 = (n : Int) := ⟨(amongI a1 301).toNat, by omega⟩
      have HN := Lib.hid hn
      have yn : n ≤ 300 := by omega
      clear hai hn
      refine wpList_op rfl fun K9 HK9 => ?_
      go_wp2_with fail
      refine (among_walk a1 301 HI1.out (by omega)).mono ?_
      rintro e w2 ⟨rfl, rfl⟩
      refine HK9.out _ _ ?_
      clear HK9
      try simp only [zz]
      rw [HN.out]
      clear HN
      refine wpList_run (v := .int .i64 (n : Int)) (wanted_none rfl) (gx_assign rfl rfl) ?_
      simp only [zz]
      go_upto_region 8 with fail
      refine wp_region_lit ?_
      refine wpList_run (v := .int .i64 0) (wanted_none rfl) (gx_assign rfl rfl) ?_
      simp only [zz]
      go_wp2_with fail
      go_loopg [9, 11] n (fun gk wv iv wr => ∃ (i x f : Nat) (L : List Wl.Rec), wv = .pointer (some ⟨x, 0, none⟩) ∧ iv = .int .i64 (i : Int) ∧ i + gk = n ∧ Turn nowhere w wr ∧ Ro w wr p S 258 f (3 * i) x L ∧ L.length ≤ 1 ∧ f + L.length = i)
      case atStart => exact ⟨0, xg, 0, [], rfl, rfl, by omega, HT2.out, HRO.out, by decide, rfl⟩
      clear HT2 HRO
      obtain ⟨i, x, f, L, rfl, rfl, hgk, htr, hro, hl1, hfi⟩ := hrel
      have HGK := Lib.hid hgk
      have HTR := Lib.hid htr
      have HRO := Lib.hid hro
      have HFI := Lib.hid hfi
      have HL1 := Lib.hid hl1
      have yi : i ≤ n := by omega
      clear hgk htr hro hfi hl1
      by_cases hlt : i < n
      · have HLT := Lib.hid hlt
        have y5 : (i : Int) < (n : Int) := by omega
        clear hlt
        go_upto_region 9 with fail
        refine wp_region_lit ?_
        refine wpList_run (v := .int .i64 (i : Int)) (wanted_none rfl) (exec_move rfl rfl) ?_
        simp only [zz]
        refine wpList_run (v := .int .i64 (n : Int)) (wanted_none rfl) (exec_move rfl rfl) ?_
        simp only [zz]
        refine wpList_run (v := .bool true) (wanted_none rfl) (ix_lss rfl rfl rfl (decide_eq_true y5)) ?_
        simp only [zz]
        go_upto_region 11 with fail
        refine wp_region_lit ?_
        refine wpList_run (v := .pointer (some ⟨x, 0, none⟩)) (wanted_none rfl) (exec_move rfl rfl) ?_
        simp only [zz]
        refine wpList_run (v := .slice A0 n0 c0) (wanted_none rfl) (exec_move rfl rfl) ?_
        simp only [zz]
        refine wpList_op rfl fun K9 HK9 => ?_
        go_wp2_with fail
        refine (HRO.out.append (cap := c0) HTR.out (by omega) (HL.out.still HTR.out) HLO.out (by have := HL1.out; omega) HFI.out).mono ?_
        rintro e w3 ⟨rfl, ht, hr⟩
        refine HK9.out _ _ ?_
        clear HK9
        try simp only [zz]
        have HT3 := Lib.hid ht
        have HR3 := Lib.hid hr
        clear ht hr
        refine wpList_run (v := .tuple #[.int .i64 (i : Int), .int .i64 0]) (wanted_none rfl) (exec_move rfl rfl) ?_
        simp only [zz]
        refine wpList_run (v := .int .i64 (i : Int)) (wanted_none rfl) (ix_extract rfl rfl rfl) ?_
        simp only [zz]
        refine wpList_run (v := .int .i64 0) (wanted_none rfl) (ix_extract rfl rfl rfl) ?_
        simp only [zz]
        refine wpList_run (v := .int .i64 (i : Int)) (wanted_none rfl) (gx_assign rfl rfl) ?_
        simp only [zz]
        refine wpList_run (v := .int .i64 0) (wanted_none rfl) (gx_assign rfl rfl) ?_
        simp only [zz]
        go_upto_region 12 with fail
        refine wp_region_lit ?_
        refine wpList_run (v := .int .i64 0) (wanted_none rfl) (exec_move rfl rfl) ?_
        simp only [zz]
        refine wpList_run (v := .bool false) (wanted_none rfl) (ix_neq rfl rfl rfl (by decide)) ?_
        simp only [zz]
        refine wpList_run (v := .bool false) (wanted_none rfl) (exec_move rfl rfl) ?_
        simp only [zz]
        refine wpList_run (v := .int .i64 (i : Int)) rfl (exec_move rfl rfl) ?_
        simp only [zz]
        refine wpList_run (v := .int .i64 (i : Int)) rfl (exec_move rfl rfl) ?_
        simp only [zz]
        refine wpList_run (v := .bool false) rfl (ix_neq rfl rfl rfl (decide_eq_false (fun e => e rfl))) ?_
        simp only [zz]
        refine wpList_run (v := .bool false) (wanted_none rfl) (ix_pickF rfl rfl rfl) ?_
        simp only [zz]
        go_upto_region 14 with fail
        refine wp_region_lit ?_
        refine wpList_run (v := .pointer (some ⟨x, 0, none⟩)) (wanted_none rfl) (exec_move rfl rfl) ?_
        simp only [zz]
        refine wpList_run (v := .int .i64 (i : Int)) (wanted_none rfl) (exec_move rfl rfl) ?_
        simp only [zz]
        refine wpList_op rfl fun K9 HK9 => ?_
        go_wp2_with fail
        refine (HR3.out.cut HT3.out (by omega) HFI.out (by rw [List.length_append]; omega)).mono ?_
        rintro e w4 ⟨rfl, ht, hr⟩
        refine HK9.out _ _ ?_
        clear HK9
        try simp only [zz]
        rw [List.drop_left] at hr
        have HT4 := Lib.hid ht
        have HR4 := Lib.hid hr
        clear ht hr
        refine wpList_run (v := .int .i64 0) (wanted_none rfl) (gx_assign rfl rfl) ?_
        simp only [zz]
        go_upto_region 15 with fail
        refine wp_region_lit ?_
        refine wpList_run (v := .int .i64 0) (wanted_none rfl) (exec_move rfl rfl) ?_
        simp only [zz]
        refine wpList_run (v := .bool false) (wanted_none rfl) (ix_neq rfl rfl rfl (by decide)) ?_
        simp only [zz]
        go_upto_region 17 with fail
        refine wp_region_lit ?_
        refine wpList_run (v := .int .i64 a2) (wanted_none rfl) (exec_move rfl rfl) ?_
        simp only [zz]
        have hai := among_in (c := a2) (n := 40) (by omega)
        obtain ⟨am, ham⟩ : ∃ z, z = amongI a2 40 := ⟨_, rfl⟩
        have HAM := Lib.hid ham
        rw [← ham] at hai
        have yam := hai
        obtain ⟨rm, hrm⟩ : ∃ z, z = (i : Int).tmod 43 := ⟨_, rfl⟩
        have HRM := Lib.hid hrm.symm
        clear ham hai hrm
        refine wpList_op rfl fun K9 HK9 => ?_
        go_wp2_with fail
        refine (among_walk a2 40 HI2.out (by omega)).mono ?_
        rintro e w4 ⟨rfl, rfl⟩
        refine HK9.out _ _ ?_
        clear HK9
        try simp only [zz]
        rw [← HAM.out]
        clear HAM
        refine wpList_run (v := .int .i64 (am + 3)) (wanted_none rfl) (ix_add rfl rfl rfl rfl (by omega)) ?_
        simp only [zz]
        refine wpList_run (v := .int .i64 (i : Int)) (wanted_none rfl) (exec_move rfl rfl) ?_
        simp only [zz]
        refine wpList_run (v := .int .i64 ((i : Int).tmod 43)) (wanted_none rfl) (wx_rem rfl rfl rfl (by omega) (by omega)) ?_
        simp only [zz]
        rw [HRM.out]
        clear HRM
        by_cases han : am + 3 = rm
        · as_aux_lemma =>
            have HAN := Lib.hid han
            clear han
            refine wpList_run (v := .bool true) (wanted_none rfl) (ix_eql rfl rfl rfl (decide_eq_true HAN.out)) ?_
            simp only [zz]
            go_upto_region 18 with fail
            refine wp_region_lit ?_
            refine wpList_run (v := .pointer (some ⟨p, 0, none⟩)) (wanted_none rfl) (exec_move rfl rfl) ?_
            simp only [zz]
            refine wpList_op rfl fun K9 HK9 => ?_
            go_wp2_with fail
            refine (HR4.out.open_ HT4.out (by omega) HSG.out).mono ?_
            rintro e w5 ⟨ht, x5, rfl, hr⟩
            refine HK9.out _ _ ?_
            clear HK9
            try simp only [zz]
            have HT5 := Lib.hid ht
            have HR5 := Lib.hid hr
            clear ht hr HT4 HR4 HT3 HR3 HTR HRO
            refine wpList_run (v := .tuple #[.pointer (some ⟨x5, 0, none⟩), .int .i64 0]) (wanted_none rfl) (exec_move rfl rfl) ?_
            simp only [zz]
            refine wpList_run (v := .pointer (some ⟨x5, 0, none⟩)) (wanted_none rfl) (ix_extract rfl rfl rfl) ?_
            simp only [zz]
            refine wpList_run (v := .int .i64 0) (wanted_none rfl) (ix_extract rfl rfl rfl) ?_
            simp only [zz]
            refine wpList_run (v := .pointer (some ⟨x5, 0, none⟩)) (wanted_none rfl) (gx_assign rfl rfl) ?_
            simp only [zz]
            refine wpList_run (v := .int .i64 0) (wanted_none rfl) (gx_assign rfl rfl) ?_
            simp only [zz]
            go_upto_region 19 with fail
            refine wp_region_lit ?_
            refine wpList_run (v := .pointer (some ⟨x5, 0, none⟩)) (wanted_none rfl) (exec_move rfl rfl) ?_
            simp only [zz]
            refine wpList_run (v := .bool false) (wanted_none rfl) (ptr_nilW rfl rfl rfl rfl) ?_
            simp only [zz]
            refine wpList_run (v := .bool false) (wanted_none rfl) (exec_move rfl rfl) ?_
            simp only [zz]
            refine wpList_run (v := .int .i64 0) rfl (exec_move rfl rfl) ?_
            simp only [zz]
            refine wpList_run (v := .bool false) rfl (ix_neq rfl rfl rfl (by decide)) ?_
            simp only [zz]
            refine wpList_run (v := .bool false) (wanted_none rfl) (ix_pickF rfl rfl rfl) ?_
            simp only [zz]
            go_upto_region 21 with fail
            refine wp_region_lit ?_
            refine wpList_run (v := .pointer (some ⟨x5, 0, none⟩)) (wanted_none rfl) (exec_move rfl rfl) ?_
            simp only [zz]
            refine wpList_run (v := .pointer (some ⟨x5, 0, none⟩)) (wanted_none rfl) (gx_assign rfl rfl) ?_
            simp only [zz]
            go_upto_region 22 with fail
            refine wp_region_lit ?_
            refine wpList_run (v := .pointer (some ⟨x5, 0, none⟩)) (wanted_none rfl) (exec_move rfl rfl) ?_
            simp only [zz]
            refine wpList_run (v := .int .i64 (i : Int)) (wanted_none rfl) (exec_move rfl rfl) ?_
            simp only [zz]
            refine wpList_op rfl fun K9 HK9 => ?_
            go_wp2_with fail
            refine (HR5.out.read (by omega) (l := l0) rfl).mono ?_
            rintro e w6 ⟨ht, g6, rfl, hls⟩
            refine HK9.out _ _ ?_
            clear HK9
            try simp only [zz]
            have HT6 := Lib.hid (HT5.out.trans ht fun _ _ e => e)
            have HR6 := Lib.hid (HR5.out.still ht)
            have HLS := Lib.hid hls
            clear ht hls HT5 HR5
            obtain ⟨n6, hn6⟩ : ∃ z, z = l0.length := ⟨_, rfl⟩
            rw [← hn6] at HLS ⊢
            clear hn6
            refine wpList_run (v := .tuple #[.slice (some ⟨g6, 0, none⟩) n6 n6, .int .i64 0]) (wanted_none rfl) (exec_move rfl rfl) ?_
            simp only [zz]
            refine wpList_run (v := .slice (some ⟨g6, 0, none⟩) n6 n6) (wanted_none rfl) (ix_extract rfl rfl rfl) ?_
            simp only [zz]
            refine wpList_run (v := .int .i64 0) (wanted_none rfl) (ix_extract rfl rfl rfl) ?_
            simp only [zz]
            refine wpList_run (v := .slice (some ⟨g6, 0, none⟩) n6 n6) (wanted_none rfl) (gx_assign rfl rfl) ?_
            simp only [zz]
            refine wpList_run (v := .int .i64 0) (wanted_none rfl) (gx_assign rfl rfl) ?_
            simp only [zz]
            go_upto_region 23 with fail
            refine wp_region_lit ?_
            refine wpList_run (v := .slice (some ⟨g6, 0, none⟩) n6 n6) (wanted_none rfl) (exec_move rfl rfl) ?_
            simp only [zz]
            refine wpList_run (v := .slice A0 n0 c0) (wanted_none rfl) (exec_move rfl rfl) ?_
            simp only [zz]
            refine wpList_op rfl fun K9 HK9 => ?_
            go_wp2_with fail
            refine (same_walk (c := n6) (e := c0) HLS.out (HL.out.still HT6.out)).mono ?_
            rintro e w7 ⟨rfl, ht⟩
            refine HK9.out _ _ ?_
            clear HK9
            try simp only [zz]
            try rw [decide_eq_true (rfl : l0 = l0)]
            have HT7 := Lib.hid (HT6.out.trans ht fun _ _ e => e)
            have HR7 := Lib.hid (HR6.out.still ht)
            clear ht HT6 HR6
            refine wpList_run (v := .bool true) (wanted_none rfl) (gx_assign rfl rfl) ?_
            simp only [zz]
            go_upto_region 24 with fail
            refine wp_region_lit ?_
            refine wpList_run (v := .int .i64 0) (wanted_none rfl) (exec_move rfl rfl) ?_
            simp only [zz]
            refine wpList_run (v := .bool false) (wanted_none rfl) (ix_neq rfl rfl rfl (by decide)) ?_
            simp only [zz]
            refine wpList_run (v := .bool false) (wanted_none rfl) (exec_move rfl rfl) ?_
            simp only [zz]
            refine wpList_run (v := .bool true) rfl (exec_move rfl rfl) ?_
            simp only [zz]
            refine wpList_run (v := .bool false) rfl (ix_not (b := true) rfl rfl) ?_
            simp only [zz]
            refine wpList_run (v := .bool false) (wanted_none rfl) (ix_pickF rfl rfl rfl) ?_
            simp only [zz]
            refine wpList_run (v := .bool false) (wanted_none rfl) (exec_move rfl rfl) ?_
            simp only [zz]
            refine wpList_run (v := .pointer (some ⟨x5, 0, none⟩)) rfl (exec_move rfl rfl) ?_
            simp only [zz]
            refine wpList_op (by go_simp) fun K9 HK9 => ?_
            go_wp2_with fail
            refine (HR7.out.first).mono ?_
            rintro e w7 ⟨rfl, rfl⟩
            refine HK9.out _ _ ?_
            clear HK9
            try simp only [zz]
            refine wpList_run (v := .int .i64 (i : Int)) rfl (exec_move rfl rfl) ?_
            simp only [zz]
            refine wpList_run (v := .bool false) rfl (ix_neq rfl rfl rfl (decide_eq_false (fun e => e rfl))) ?_
            simp only [zz]
            refine wpList_run (v := .bool false) (wanted_none rfl) (ix_pickF rfl rfl rfl) ?_
            simp only [zz]
            go_upto_region 10 with fail
            refine wp_region_lit ?_
            refine wpList_run (v := .int .i64 (i : Int)) (wanted_none rfl) (exec_move rfl rfl) ?_
            simp only [zz]
            refine wpList_run (v := .int .i64 ((i + 1 : Nat) : Int)) (wanted_none rfl) (ix_add rfl rfl rfl (by omega) (by omega)) ?_
            simp only [zz]
            refine wpList_run (v := .int .i64 ((i + 1 : Nat) : Int)) (wanted_none rfl) (gx_assign rfl rfl) ?_
            simp only [zz]
            go_wp2_with fail
            go_roundg (n - (i + 1))
            case measure => have := HGK.out; have := HLT.out; omega
            case rel => exact ⟨i + 1, x5, i, [l0], rfl, rfl, by have := HLT.out; omega, HT7.out, HR7.out, Nat.le_refl _, rfl⟩
        · have HAN := Lib.hid han
          clear han
          refine wpList_run (v := .bool false) (wanted_none rfl) (ix_eql rfl rfl rfl (decide_eq_false HAN.out)) ?_
          simp only [zz]
          have HT5 := HT4
          have HR5 := Lib.hid (HR4.out.mono (Nat.le_succ _))
          clear HT4 HR4 HT3 HR3 HTR HRO
          go_upto_region 22 with fail
          refine wp_region_lit ?_
          refine wpList_run (v := .pointer (some ⟨x, 0, none⟩)) (wanted_none rfl) (exec_move rfl rfl) ?_
          simp only [zz]
          refine wpList_run (v := .int .i64 (i : Int)) (wanted_none rfl) (exec_move rfl rfl) ?_
          simp only [zz]
          refine wpList_op rfl fun K9 HK9 => ?_
          go_wp2_with fail
          refine (HR5.out.read (by omega) (l := l0) rfl).mono ?_
          rintro e w6 ⟨ht, g6, rfl, hls⟩
          refine HK9.out _ _ ?_
          clear HK9
          try simp only [zz]
          have HT6 := Lib.hid (HT5.out.trans ht fun _ _ e => e)
          have HR6 := Lib.hid (HR5.out.still ht)
          have HLS := Lib.hid hls
          clear ht hls HT5 HR5
          obtain ⟨n6, hn6⟩ : ∃ z, z = l0.length := ⟨_, rfl⟩
          rw [← hn6] at HLS ⊢
          clear hn6
          refine wpList_run (v := .tuple #[.slice (some ⟨g6, 0, none⟩) n6 n6, .int .i64 0]) (wanted_none rfl) (exec_move rfl rfl) ?_
          simp only [zz]
          refine wpList_run (v := .slice (some ⟨g6, 0, none⟩) n6 n6) (wanted_none rfl) (ix_extract rfl rfl rfl) ?_
          simp only [zz]
          refine wpList_run (v := .int .i64 0) (wanted_none rfl) (ix_extract rfl rfl rfl) ?_
          simp only [zz]
          refine wpList_run (v := .slice (some ⟨g6, 0, none⟩) n6 n6) (wanted_none rfl) (gx_assign rfl rfl) ?_
          simp only [zz]
          refine wpList_run (v := .int .i64 0) (wanted_none rfl) (gx_assign rfl rfl) ?_
          simp only [zz]
          go_upto_region 23 with fail
          refine wp_region_lit ?_
          refine wpList_run (v := .slice (some ⟨g6, 0, none⟩) n6 n6) (wanted_none rfl) (exec_move rfl rfl) ?_
          simp only [zz]
          refine wpList_run (v := .slice A0 n0 c0) (wanted_none rfl) (exec_move rfl rfl) ?_
          simp only [zz]
          refine wpList_op rfl fun K9 HK9 => ?_
          go_wp2_with fail
          refine (same_walk (c := n6) (e := c0) HLS.out (HL.out.still HT6.out)).mono ?_
          rintro e w7 ⟨rfl, ht⟩
          refine HK9.out _ _ ?_
          clear HK9
          try simp only [zz]
          try rw [decide_eq_true (rfl : l0 = l0)]
          have HT7 := Lib.hid (HT6.out.trans ht fun _ _ e => e)
          have HR7 := Lib.hid (HR6.out.still ht)
          clear ht HT6 HR6
          refine wpList_run (v := .bool true) (wanted_none rfl) (gx_assign rfl rfl) ?_
          simp only [zz]
          go_upto_region 24 with fail
          refine wp_region_lit ?_
          refine wpList_run (v := .int .i64 0) (wanted_none rfl) (exec_move rfl rfl) ?_
          simp only [zz]
          refine wpList_run (v := .bool false) (wanted_none rfl) (ix_neq rfl rfl rfl (by decide)) ?_
          simp only [zz]
          refine wpList_run (v := .bool false) (wanted_none rfl) (exec_move rfl rfl) ?_
          simp only [zz]
          refine wpList_run (v := .bool true) rfl (exec_move rfl rfl) ?_
          simp only [zz]
          refine wpList_run (v := .bool false) rfl (ix_not (b := true) rfl rfl) ?_
          simp only [zz]
          refine wpList_run (v := .bool false) (wanted_none rfl) (ix_pickF rfl rfl rfl) ?_
          simp only [zz]
          refine wpList_run (v := .bool false) (wanted_none rfl) (exec_move rfl rfl) ?_
          simp only [zz]
          refine wpList_run (v := .pointer (some ⟨x, 0, none⟩)) rfl (exec_move rfl rfl) ?_
          simp only [zz]
          refine wpList_op (by go_simp) fun K9 HK9 => ?_
          go_wp2_with fail
          refine (HR7.out.first).mono ?_
          rintro e w7 ⟨rfl, rfl⟩
          refine HK9.out _ _ ?_
          clear HK9
          try simp only [zz]
          refine wpList_run (v := .int .i64 (i : Int)) rfl (exec_move rfl rfl) ?_
          simp only [zz]
          refine wpList_run (v := .bool false) rfl (ix_neq rfl rfl rfl (decide_eq_false (fun e => e rfl))) ?_
          simp only [zz]
          refine wpList_run (v := .bool false) (wanted_none rfl) (ix_pickF rfl rfl rfl) ?_
          simp only [zz]
          go_upto_region 10 with fail
          refine wp_region_lit ?_
          refine wpList_run (v := .int .i64 (i : Int)) (wanted_none rfl) (exec_move rfl rfl) ?_
          simp only [zz]
          refine wpList_run (v := .int .i64 ((i + 1 : Nat) : Int)) (wanted_none rfl) (ix_add rfl rfl rfl (by omega) (by omega)) ?_
          simp only [zz]
          refine wpList_run (v := .int .i64 ((i + 1 : Nat) : Int)) (wanted_none rfl) (gx_assign rfl rfl) ?_
          simp only [zz]
          go_wp2_with fail
          go_roundg (n - (i + 1))
          case measure => have := HGK.out; have := HLT.out; omega
          case rel => exact ⟨i + 1, x, i, [l0], rfl, rfl, by have := HLT.out; omega, HT7.out, HR7.out, Nat.le_refl _, rfl⟩
      · have y5 : ¬ (i : Int) < (n : Int) := by omega
        clear hlt
        go_upto_region 9 with fail
        refine wp_region_lit ?_
        refine wpList_run (v := .int .i64 (i : Int)) (wanted_none rfl) (exec_move rfl rfl) ?_
        simp only [zz]
        refine wpList_run (v := .int .i64 (n : Int)) (wanted_none rfl) (exec_move rfl rfl) ?_
        simp only [zz]
        refine wpList_run (v := .bool false) (wanted_none rfl) (ix_lss rfl rfl rfl (decide_eq_false y5)) ?_
        simp only [zz]
        go_upto_region 26 with fail
        refine wp_region_lit ?_
        refine wpList_run (v := .bool true) (wanted_none rfl) (gx_assign rfl rfl) ?_
        simp only [zz]
        go_wp2_with fail
        go_ret
        exact ⟨rfl, HTR.out⟩
theorem walRound_walk (A0 : Option Addr) (n0 c0 : Nat) (l0 : Wl.Rec) (a1 a2 : Int) (w : World) (h0 : Ls w A0 n0 l0) (h1 : -9223372036854775808 ≤ a1 ∧ a1 ≤ 9223372036854775807) (h2 : -9223372036854775808 ≤ a2 ∧ a2 ≤ 9223372036854775807) (htab : Tab w) :
    Calls Tryd.prog 6 #[.slice A0 n0 c0, .int .i64 a1, .int .i64 a2] w fun r w' => r = .returned (.bool true) ∧ Below w.heap.size w w' :=
  (walRound_main A0 n0 c0 l0 a1 a2 w h0 h1 h2 htab).mono fun r w' ⟨h1, h2⟩ => ⟨h1, h2.below (Nat.le_refl _) fun _ _ e => e⟩
end Go.Proofs.YtbfeejkdlhdioaaDoor
namespace Go.Proofs.YtbfeejkdlhdioaaDoor
open Go.RowKit Go.ChangeShapes Go.WideShapes Go.ChangeAt
theorem gTab : Tryd.prog.globalNamed "groat/crc.steps" = some 0 := by kernel_rfl
theorem gTabType : (Tryd.prog.globals[0]?).map (·.type) = some 147 := by kernel_rfl
theorem cells_tab : Tryd.prog.cellsOf 147 = 16 := by kernel_rfl
theorem cells_u32 : Tryd.prog.cellsOf 125 = 1 := by kernel_rfl
theorem tab_of_laid {W : World} (h : laidMetH Tryd.prog [("groat/crc.steps", Rows.laid_groat_crc_steps)] W) : Tab W := by
  have ht : Lib.TabIs Tryd.prog W "groat/crc.steps" .u32 [0, 274646895, 549293790, 820201905, 1098587580, 1361435347, 1640403810, 1905808397, 2197175160, 2460548119, 2722870694, 2987750089, 3280807620, 3553878443, 3811616794, 4084100981] :=
    Lib.tabIs_of_head (rest := []) gTab gTabType Tryd.underlying147 Tryd.underlying125 cells_u32 cells_tab h
  intro k hk
  rw [ht.cell gTab k (by simpa using hk)]
  have : ∀ k : Fin 16, ([0, 274646895, 549293790, 820201905, 1098587580, 1361435347, 1640403810, 1905808397, 2197175160, 2460548119, 2722870694, 2987750089, 3280807620, 3553878443, 3811616794, 4084100981] : List Int).getD k.val 0 = ((Crc.tab.getD k.val 0 : Nat) : Int) := by decide
  rw [← this ⟨k, hk⟩]
end Go.Proofs.YtbfeejkdlhdioaaDoor
