/-
  Texts in one file: WmW. Conditions: the tables and the errors read as the program's text lays them.
-/
import Derived.Test.YthfhalbdfmahdaaDoorJW0
import Derived.Test.YthfhalbdfmahdaaDoorJW33
namespace Go.Proofs.YthfhalbdfmahdaaDoor
open Go.RowKit
open Wl (B8)
set_option linter.unusedVariables false
set_option linter.unusedSimpArgs false
set_option maxRecDepth 20000
theorem size_sl2 : (Tryd.prog.info? 33).map (·.size) = some 1 := by kernel_rfl
theorem wx_rem2 {a : Act} {o : Oper} {W : World} {x : Operand} {i : Int} (ho : o.op = .binOp .rem 3 x (.const (.int .i64 2)) 3) (hx : a.eval x = .int .i64 i) : (execOp a.eval o).run Tryd.prog W = .ok (.value (.int .i64 (i.tmod 2))) W := by
  unfold execOp
  simp only [ho, hx]
  go_simp
  all_goals first | rfl | (rw [IntKind.wrap_i64 (by omega) (by omega)]; rfl) | (simp [IntKind.wrap_i64]; omega)
set_option maxRecDepth 20000 in
set_option maxHeartbeats 4000000 in
theorem walNumbers_main (A0 : Option Addr) (n0 c0 : Nat) (vs : List LtV) (A1 : Option Addr) (n1 c1 : Nat) (zs : List Int) (w : World) (h0 : LtsAt w A0 n0 vs) (h1 : Ks w nowhere A1 n1 zs) (hz : ∀ z ∈ zs, -9223372036854775808 ≤ z ∧ z ≤ 9223372036854775807) (hn0 : n0 ≤ 140737488355328) (hn1 : n1 ≤ 140737488355328) (htab : Tab w) :
    Calls Tryd.prog 9 #[.slice A0 n0 c0, .slice A1 n1 c1] w fun r w' => r = .returned (.bool true) ∧ Turn nowhere w w' := by
  have HL := Lib.hid h0
  have HK := Lib.hid h1
  have HZ := Lib.hid hz
  have HTAB := Lib.hid htab
  have y0 := hn0
  have y1 := hn1
  clear h0 h1 hz htab hn0 hn1
  go_enter Tryd.func9, Tryd.ntmps9
  go_upto_region 0 with fail
  refine wp_region_lit ?_
  refine wpList_run (v := .bool false) (wanted_none rfl) (gx_assign rfl rfl) ?_
  simp only [zz]
  go_upto_region 1 with fail
  refine wp_region_lit ?_
  refine wpList_op rfl fun K9 HK9 => ?_
  go_wp2_with fail
  refine (shown_walk HTAB.out).mono ?_
  rintro e w1 ⟨rfl, ht⟩
  refine HK9.out _ _ ?_
  clear HK9
  try simp only [zz]
  have HT1 := Lib.hid ht
  have HTAB1 := Lib.hid (tab_still HTAB.out ht)
  clear ht
  refine wpList_run (v := .bool true) (wanted_none rfl) (gx_assign rfl rfl) ?_
  simp only [zz]
  go_upto_region 2 with fail
  refine wp_region_lit ?_
  refine wpList_op rfl fun K9 HK9 => ?_
  go_wp2_with fail
  refine (ground_calm 450 (by decide) (by decide) HTAB1.out).mono ?_
  rintro e w2 ⟨ht, p, xg, rfl, hc⟩
  refine HK9.out _ _ ?_
  clear HK9
  try simp only [zz]
  have HT2 := Lib.hid (HT1.out.trans ht fun _ _ e => e)
  have HC2 := Lib.hid (show Calm w w2 p 7 450 0 0 0 xg from hc.old HT1.out.size)
  clear ht hc HT1 HTAB1
  refine wpList_run (v := .tuple #[.pointer (some ⟨p, 0, none⟩), .pointer (some ⟨xg, 0, none⟩)]) (wanted_none rfl) (exec_move rfl rfl) ?_
  simp only [zz]
  refine wpList_run (v := .pointer (some ⟨p, 0, none⟩)) (wanted_none rfl) (ix_extract rfl rfl rfl) ?_
  simp only [zz]
  refine wpList_run (v := .pointer (some ⟨xg, 0, none⟩)) (wanted_none rfl) (ix_extract rfl rfl rfl) ?_
  simp only [zz]
  refine wpList_run (v := .pointer (some ⟨p, 0, none⟩)) (wanted_none rfl) (gx_assign rfl rfl) ?_
  simp only [zz]
  refine wpList_run (v := .pointer (some ⟨xg, 0, none⟩)) (wanted_none rfl) (gx_assign rfl rfl) ?_
  simp only [zz]
  go_upto_region 3 with fail
  refine wp_region_lit ?_
  refine wpList_run (v := .bool true) (wanted_none rfl) (exec_move rfl rfl) ?_
  simp only [zz]
  refine wpList_run (v := .bool false) (wanted_none rfl) (ix_not (b := true) rfl rfl) ?_
  simp only [zz]
  refine wpList_run (v := .bool false) (wanted_none rfl) (exec_move rfl rfl) ?_
  simp only [zz]
  refine wpList_run (v := .pointer (some ⟨xg, 0, none⟩)) rfl (exec_move rfl rfl) ?_
  simp only [zz]
  refine wpList_run (v := .bool false) rfl (ptr_nilW rfl rfl rfl rfl) ?_
  simp only [zz]
  refine wpList_run (v := .bool false) (wanted_none rfl) (ix_pickF rfl rfl rfl) ?_
  simp only [zz]
  go_upto_region 5 with fail
  refine wp_region_lit ?_
  refine wpList_run (v := .int .i64 0) (wanted_none rfl) (gx_assign rfl rfl) ?_
  simp only [zz]
  go_upto_region 6 with fail
  refine wp_region_lit ?_
  refine wpList_run (v := .int .i64 0) (wanted_none rfl) (gx_assign rfl rfl) ?_
  simp only [zz]
  obtain ⟨m, hm⟩ : ∃ m, m = min n0 40 := ⟨_, rfl⟩
  have ym : m ≤ 40 ∧ m ≤ n0 ∧ (m = n0 ∨ m = 40) := by omega
  clear hm
  go_wp2_with fail
  go_loopg [7, 8, 9] m (fun gk xv nv iv wr => ∃ j f N x : Nat, xv = .pointer (some ⟨x, 0, none⟩) ∧ nv = .int .i64 (N : Int) ∧ iv = .int .i64 (j : Int) ∧ j + gk = m ∧ Turn nowhere w wr ∧ Calm w wr p 7 450 (3 * j) f N x)
  case atStart => exact ⟨0, 0, 0, xg, rfl, rfl, rfl, by omega, HT2.out, HC2.out⟩
  clear HT2 HC2
  obtain ⟨j, f, N, x, rfl, rfl, rfl, hgk, htr, hcm⟩ := hrel
  have HGK := Lib.hid hgk
  have HTR := Lib.hid htr
  have HCM := Lib.hid hcm
  have yN := hcm.fN
  have yj : j ≤ m := by omega
  clear hgk htr hcm
  by_cases hlt : j < m
  · go_upto_region 7 with fail
    refine wp_region_lit ?_
    refine wpList_run (v := .int .i64 (j : Int)) (wanted_none rfl) (exec_move rfl rfl) ?_
    simp only [zz]
    refine wpList_run (v := .slice A0 n0 c0) (wanted_none rfl) (exec_move rfl rfl) ?_
    simp only [zz]
    refine wpList_run (v := .int .i64 (n0 : Int)) (wanted_none rfl) (gx_len rfl rfl Tryd.underlying30) ?_
    simp only [zz]
    refine wpList_run (v := .bool true) (wanted_none rfl) (ix_lss rfl rfl rfl (decide_eq_true (by omega))) ?_
    simp only [zz]
    refine wpList_run (v := .bool true) (wanted_none rfl) (exec_move rfl rfl) ?_
    simp only [zz]
    refine wpList_run (v := .int .i64 (j : Int)) rfl (exec_move rfl rfl) ?_
    simp only [zz]
    refine wpList_run (v := .bool true) rfl (ix_lss rfl rfl rfl (decide_eq_true (by omega))) ?_
    simp only [zz]
    refine wpList_run (v := .bool true) (wanted_none rfl) (ix_pickT rfl rfl rfl) ?_
    simp only [zz]
    obtain ⟨v, hv⟩ : ∃ v, vs[j]? = some v := ⟨_, List.getElem?_eq_getElem (by rw [HL.out.len]; omega)⟩
    obtain ⟨b0, o0, rfl, hcell⟩ := (HL.out.still HTR.out).at_ hv
    have HLS := Lib.hid ((HL.out.still HTR.out).ok v (List.mem_of_getElem? hv))
    clear hv
    go_upto_region 9 with fail
    refine wp_region_lit ?_
    refine wpList_run (v := .pointer (some ⟨x, 0, none⟩)) (wanted_none rfl) (exec_move rfl rfl) ?_
    simp only [zz]
    refine wpList_run (v := .slice (some ⟨b0, o0, none⟩) n0 c0) (wanted_none rfl) (exec_move rfl rfl) ?_
    simp only [zz]
    refine wpList_run (v := .int .i64 (j : Int)) (wanted_none rfl) (exec_move rfl rfl) ?_
    simp only [zz]
    refine wpList_run (v := .pointer (some ⟨b0, o0 + j * 1, none⟩)) (wanted_none rfl) (gx_iaddr (i := j) (sz := 1) rfl rfl rfl Tryd.underlying30 size_sl2 (by omega) rfl) ?_
    simp only [zz]
    refine wpList_run (v := .slice v.A v.n v.c) (wanted_none rfl) (exec_load1 rfl rfl (by kernel_rfl) hcell) ?_
    simp only [zz]
    clear hcell
    refine wpList_op rfl fun K9 HK9 => ?_
    go_wp2_with fail
    refine (HCM.out.append HTR.out (by omega) HLS.out).mono ?_
    rintro e w3 ⟨ht, hcase⟩
    have HT3 := Lib.hid ht
    clear ht HLS HCM HTR
    rcases hcase with ⟨rfl, hc⟩ | ⟨e9, he9, rfl, hc⟩
    · refine HK9.out _ _ ?_
      clear HK9
      try simp only [zz]
      have HC3 := Lib.hid hc
      clear hc
      refine wpList_run (v := .tuple #[.int .i64 (N : Int), .int .i64 0]) (wanted_none rfl) (exec_move rfl rfl) ?_
      simp only [zz]
      refine wpList_run (v := .int .i64 (N : Int)) (wanted_none rfl) (ix_extract rfl rfl rfl) ?_
      simp only [zz]
      refine wpList_run (v := .int .i64 0) (wanted_none rfl) (ix_extract rfl rfl rfl) ?_
      simp only [zz]
      refine wpList_run (v := .int .i64 (N : Int)) (wanted_none rfl) (gx_assign rfl rfl) ?_
      simp only [zz]
      refine wpList_run (v := .int .i64 0) (wanted_none rfl) (gx_assign rfl rfl) ?_
      simp only [zz]
      go_upto_region 10 with fail
      refine wp_region_lit ?_
      refine wpList_run (v := .int .i64 0) (wanted_none rfl) (exec_move rfl rfl) ?_
      simp only [zz]
      refine wpList_run (v := .bool true) (wanted_none rfl) (ix_eql rfl rfl rfl (by decide)) ?_
      simp only [zz]
      go_upto_region 11 with fail
      refine wp_region_lit ?_
      refine wpList_run (v := .int .i64 (N : Int)) (wanted_none rfl) (exec_move rfl rfl) ?_
      simp only [zz]
      refine wpList_run (v := .int .i64 (N : Int)) (wanted_none rfl) (exec_move rfl rfl) ?_
      simp only [zz]
      refine wpList_run (v := .bool false) (wanted_none rfl) (ix_neq rfl rfl rfl (decide_eq_false (by omega))) ?_
      simp only [zz]
      go_upto_region 13 with fail
      refine wp_region_lit ?_
      refine wpList_run (v := .int .i64 (N : Int)) (wanted_none rfl) (exec_move rfl rfl) ?_
      simp only [zz]
      refine wpList_run (v := .int .i64 ((N + 1 : Nat) : Int)) (wanted_none rfl) (ix_add rfl rfl rfl (by omega) (by omega)) ?_
      simp only [zz]
      refine wpList_run (v := .int .i64 ((N + 1 : Nat) : Int)) (wanted_none rfl) (gx_assign rfl rfl) ?_
      simp only [zz]
      have yf := HC3.out.fN
      by_cases hcu : j < n1
      · go_upto_region 14 with fail
        refine wp_region_lit ?_
        refine wpList_run (v := .int .i64 (j : Int)) (wanted_none rfl) (exec_move rfl rfl) ?_
        simp only [zz]
        refine wpList_run (v := .slice A1 n1 c1) (wanted_none rfl) (exec_move rfl rfl) ?_
        simp only [zz]
        refine wpList_run (v := .int .i64 (n1 : Int)) (wanted_none rfl) (gx_len rfl rfl Tryd.underlying34) ?_
        simp only [zz]
        refine wpList_run (v := .bool true) (wanted_none rfl) (ix_lss rfl rfl rfl (decide_eq_true (by omega))) ?_
        simp only [zz]
        obtain ⟨g1, o1, rfl, _, _, hcells⟩ := HK.out.2.2 (by omega)
        obtain ⟨c, hcz⟩ : ∃ c, c = zs.getD j 0 := ⟨_, rfl⟩
        have hcell := hcells j hcu
        rw [← hcz] at hcell
        have HCW := Lib.hid (show ∀ W : World, Turn nowhere w W → W.cell? ⟨g1, o1 + j * 1, none⟩ = some (.int .i64 c) from fun W h => by rw [Nat.mul_one, h.cell (World.block_lt_of_cell? _ _ hcell) (fun e => e)]; exact hcell)
        have HCE := Lib.hid (HCW.out w3 HT3.out)
        have yc : -9223372036854775808 ≤ c ∧ c ≤ 9223372036854775807 := by
          rw [hcz, List.getD_eq_getElem?_getD, List.getElem?_eq_getElem (by rw [HK.out.1]; exact hcu)]
          exact HZ.out _ (List.getElem_mem _)
        clear hcz hcell hcells
        have hai := among_in (c := c) (n := (((N + 1) : Nat) : Int) - (f : Int) + 1) (by omega)
        obtain ⟨g, hg⟩ : ∃ g : Nat, (f : Int) + amongI c ((((N + 1) : Nat) : Int) - (f : Int) + 1) = (g : Int) := ⟨(((f : Int) + amongI c ((((N + 1) : Nat) : Int) - (f : Int) + 1))).toNat, by omega⟩
        have yg : f ≤ g ∧ g ≤ (N + 1) := by omega
        have HG := Lib.hid hg
        clear hg hai
        go_upto_region 15 with fail
        refine wp_region_alw (fun W => Calm w W p 7 450 (3 * j + 1) f (N + 1) x ∧ W.cell? ⟨g1, o1 + j * 1, none⟩ = some (.int .i64 c)) (by kernel_rfl) ?_
        have HD := Lib.hid ((Turn.refl nowhere w3).drew)
        have hS0 : (fun W => Calm w W p 7 450 (3 * j + 1) f (N + 1) x ∧ W.cell? ⟨g1, o1 + j * 1, none⟩ = some (.int .i64 c)) w3.drew := ⟨HC3.out.still HD.out, by rw [HD.out.cell (World.block_lt_of_cell? _ _ HCE.out) (fun e => e)]; exact HCE.out⟩
        have HT4 := Lib.hid (HT3.out.trans HD.out fun _ _ e => e)
        clear HD HC3 HT3 HCE
        generalize w3.drew = w4 at *
        refine alw_take (i := 0) (v := .pointer (some ⟨x, 0, none⟩)) rfl (by kernel_rfl) (by kernel_rfl) (fun _ _ _ h => h) (.inl ⟨by rfl, fun W hW => exec_move rfl rfl⟩) hS0 ?_
        simp only [zz]
        refine alw_take (i := 2) (v := .slice (some ⟨g1, o1, none⟩) n1 c1) rfl (by kernel_rfl) (by kernel_rfl) (fun _ _ _ h => h) (.inl ⟨by rfl, fun W hW => exec_move rfl rfl⟩) hS0 ?_
        simp only [zz]
        refine alw_take (i := 3) (v := .int .i64 (j : Int)) rfl (by kernel_rfl) (by kernel_rfl) (fun _ _ _ h => h) (.inl ⟨by rfl, fun W hW => exec_move rfl rfl⟩) hS0 ?_
        simp only [zz]
        refine alw_take (i := 4) (v := .pointer (some ⟨g1, o1 + j * 1, none⟩)) rfl (by kernel_rfl) (by kernel_rfl) (fun _ _ _ h => h) (.inl ⟨by rfl, fun W hW => gx_iaddr (i := j) (sz := 1) rfl rfl rfl Tryd.underlying34 size_int (by omega) rfl⟩) hS0 ?_
        simp only [zz]
        refine alw_take (i := 5) (v := .int .i64 c) rfl (by kernel_rfl) (by kernel_rfl) (fun _ _ _ h => h) (.inl ⟨by rfl, fun W hW => exec_load1 rfl rfl (by kernel_rfl) hW.2⟩) hS0 ?_
        simp only [zz]
        refine alw_take (i := 6) (v := .int .i64 ((N + 1 : Nat) : Int)) rfl (by kernel_rfl) (by kernel_rfl) (fun _ _ _ h => h) (.inl ⟨by rfl, fun W hW => exec_move rfl rfl⟩) hS0 ?_
        simp only [zz]
        refine alw_take (i := 7) (v := .pointer (some ⟨x, 0, none⟩)) rfl (by kernel_rfl) (by kernel_rfl) (fun _ _ _ h => h) (.inl ⟨by rfl, fun W hW => exec_move rfl rfl⟩) hS0 ?_
        simp only [zz]
        refine alw_step (i := 1) (by kernel_rfl) rfl rfl ?_
        intro K1 HK1
        go_wp2_with fail
        refine (hS0.1.first).mono ?_
        rintro e w9 ⟨rfl, hw⟩
        obtain rfl := hw.symm
        refine HK1.out _ _ ⟨hS0, ?_⟩
        clear HK1
        try simp only [zz]
        refine alw_step (i := 8) (by kernel_rfl) rfl rfl ?_
        intro K1 HK1
        go_wp2_with fail
        refine (hS0.1.first).mono ?_
        rintro e w9 ⟨rfl, hw⟩
        obtain rfl := hw.symm
        refine HK1.out _ _ ⟨hS0, ?_⟩
        clear HK1
        try simp only [zz]
        refine alw_take (i := 9) (v := .int .i64 ((((N + 1) : Nat) : Int) - (f : Int))) rfl (by kernel_rfl) (by kernel_rfl) (fun _ _ _ h => h) (.inl ⟨by rfl, fun W hW => ix_sub rfl rfl rfl rfl (by omega)⟩) hS0 ?_
        simp only [zz]
        refine alw_take (i := 10) (v := .int .i64 ((((N + 1) : Nat) : Int) - (f : Int) + 1)) rfl (by kernel_rfl) (by kernel_rfl) (fun _ _ _ h => h) (.inl ⟨by rfl, fun W hW => ix_add rfl rfl rfl rfl (by omega)⟩) hS0 ?_
        simp only [zz]
        refine alw_step (i := 11) (by kernel_rfl) rfl rfl ?_
        intro K1 HK1
        go_wp2_with fail
        refine (among_walk c ((((N + 1) : Nat) : Int) - (f : Int) + 1) yc (by omega)).mono ?_
        rintro e w9 ⟨rfl, hw⟩
        obtain rfl := hw.symm
        refine HK1.out _ _ ⟨hS0, ?_⟩
        clear HK1
        try simp only [zz]
        refine alw_take (i := 12) (v := .int .i64 (g : Int)) rfl (by kernel_rfl) (by kernel_rfl) (fun _ _ _ h => h) (.inl ⟨by rfl, fun W hW => ix_add rfl rfl rfl HG.out (by omega)⟩) hS0 ?_
        simp only [zz]
        refine alw_take (i := 13) (v := .int .i64 (g : Int)) rfl (by kernel_rfl) (by kernel_rfl) (fun _ _ _ h => h) (.inl ⟨by rfl, fun W hW => gx_assign rfl rfl⟩) hS0 ?_
        simp only [zz]
        refine alw_done rfl ?_
        refine NoPanic.normal ?_
        have HC4 := Lib.hid hS0.1
        have HCE4 := Lib.hid hS0.2
        clear hS0
        try simp only [zz]
        go_upto_region 16 with fail
        refine wp_region_lit ?_
        refine wpList_run (v := .pointer (some ⟨x, 0, none⟩)) (wanted_none rfl) (exec_move rfl rfl) ?_
        simp only [zz]
        refine wpList_run (v := .int .i64 (g : Int)) (wanted_none rfl) (exec_move rfl rfl) ?_
        simp only [zz]
        refine wpList_op rfl fun K9 HK9 => ?_
        go_wp2_with fail
        refine (HC4.out.cut HT4.out (by omega) yg.1 yg.2).mono ?_
        rintro e w5 ⟨rfl, ht, hc⟩
        refine HK9.out _ _ ?_
        clear HK9
        try simp only [zz]
        have HT5 := Lib.hid ht
        have HC5 := Lib.hid hc
        clear ht hc
        refine wpList_run (v := .int .i64 0) (wanted_none rfl) (gx_assign rfl rfl) ?_
        simp only [zz]
        go_upto_region 17 with fail
        refine wp_region_lit ?_
        refine wpList_run (v := .int .i64 0) (wanted_none rfl) (exec_move rfl rfl) ?_
        simp only [zz]
        refine wpList_run (v := .bool false) (wanted_none rfl) (ix_neq rfl rfl rfl (by decide)) ?_
        simp only [zz]
        refine wpList_run (v := .bool false) (wanted_none rfl) (exec_move rfl rfl) ?_
        simp only [zz]
        refine wpList_run (v := .pointer (some ⟨x, 0, none⟩)) rfl (exec_move rfl rfl) ?_
        simp only [zz]
        refine wpList_op rfl fun K9 HK9 => ?_
        go_wp2_with fail
        refine (HC5.out.first).mono ?_
        rintro e w9 ⟨rfl, hw⟩
        refine HK9.out _ _ ?_
        clear HK9
        try simp only [zz]
        obtain rfl := hw.symm
        refine wpList_run (v := .int .i64 (g : Int)) rfl (exec_move rfl rfl) ?_
        simp only [zz]
        refine wpList_run (v := .bool false) rfl (ix_neq rfl rfl rfl (decide_eq_false (by omega))) ?_
        simp only [zz]
        refine wpList_run (v := .bool false) (wanted_none rfl) (ix_pickF rfl rfl rfl) ?_
        simp only [zz]
        have HCE5 := Lib.hid (show w5.cell? ⟨g1, o1 + j * 1, none⟩ = some (.int .i64 c) from HCW.out w5 HT5.out)
        clear HC4 HT4 HCE4
        by_cases hodd : c.tmod 2 = 0
        · go_upto_region 19 with fail
          refine wp_region_lit ?_
          refine wpList_run (v := .slice (some ⟨g1, o1, none⟩) n1 c1) (wanted_none rfl) (exec_move rfl rfl) ?_
          simp only [zz]
          refine wpList_run (v := .int .i64 (j : Int)) (wanted_none rfl) (exec_move rfl rfl) ?_
          simp only [zz]
          refine wpList_run (v := .pointer (some ⟨g1, o1 + j * 1, none⟩)) (wanted_none rfl) (gx_iaddr (i := j) (sz := 1) rfl rfl rfl Tryd.underlying34 size_int (by omega) rfl) ?_
          simp only [zz]
          refine wpList_run (v := .int .i64 c) (wanted_none rfl) (exec_load1 rfl rfl (by kernel_rfl) HCE5.out) ?_
          simp only [zz]
          refine wpList_run (v := .int .i64 (c.tmod 2)) (wanted_none rfl) (wx_rem2 rfl rfl) ?_
          simp only [zz]
          refine wpList_run (v := .bool false) (wanted_none rfl) (ix_neq rfl rfl rfl (decide_eq_false (fun h => h hodd))) ?_
          simp only [zz]
          go_upto_region 24 with fail
          refine wp_region_lit ?_
          refine wpList_run (v := .pointer (some ⟨x, 0, none⟩)) (wanted_none rfl) (exec_move rfl rfl) ?_
          simp only [zz]
          refine wpList_op rfl fun K9 HK9 => ?_
          go_wp2_with fail
          refine (HC5.out.next (by omega)).mono ?_
          rintro e w7 ⟨rfl, ht⟩
          refine HK9.out _ _ ?_
          clear HK9
          try simp only [zz]
          have HT7 := Lib.hid (HT5.out.trans ht fun _ _ e => e)
          have HC7 := Lib.hid ((HC5.out.still ht).mono (show 3 * j + 1 + 1 ≤ 3 * (j + 1) by omega))
          clear ht
          refine wpList_run (v := .int .i64 ((N + 1 : Nat) : Int)) (wanted_none rfl) (exec_move rfl rfl) ?_
          simp only [zz]
          refine wpList_run (v := .bool false) (wanted_none rfl) (ix_neq rfl rfl rfl (decide_eq_false (by omega))) ?_
          simp only [zz]
          go_upto_region 8 with fail
          refine wp_region_lit ?_
          refine wpList_run (v := .int .i64 (j : Int)) (wanted_none rfl) (exec_move rfl rfl) ?_
          simp only [zz]
          refine wpList_run (v := .int .i64 ((j + 1 : Nat) : Int)) (wanted_none rfl) (ix_add rfl rfl rfl (by omega) (by omega)) ?_
          simp only [zz]
          refine wpList_run (v := .int .i64 ((j + 1 : Nat) : Int)) (wanted_none rfl) (gx_assign rfl rfl) ?_
          simp only [zz]
          go_wp2_with fail
          go_roundg (gk - 1)
          case measure => have := HGK.out; omega
          case rel => exact ⟨j + 1, g, (N + 1), x, rfl, rfl, rfl, by have := HGK.out; omega, HT7.out, HC7.out⟩
        · go_upto_region 19 with fail
          refine wp_region_lit ?_
          refine wpList_run (v := .slice (some ⟨g1, o1, none⟩) n1 c1) (wanted_none rfl) (exec_move rfl rfl) ?_
          simp only [zz]
          refine wpList_run (v := .int .i64 (j : Int)) (wanted_none rfl) (exec_move rfl rfl) ?_
          simp only [zz]
          refine wpList_run (v := .pointer (some ⟨g1, o1 + j * 1, none⟩)) (wanted_none rfl) (gx_iaddr (i := j) (sz := 1) rfl rfl rfl Tryd.underlying34 size_int (by omega) rfl) ?_
          simp only [zz]
          refine wpList_run (v := .int .i64 c) (wanted_none rfl) (exec_load1 rfl rfl (by kernel_rfl) HCE5.out) ?_
          simp only [zz]
          refine wpList_run (v := .int .i64 (c.tmod 2)) (wanted_none rfl) (wx_rem2 rfl rfl) ?_
          simp only [zz]
          refine wpList_run (v := .bool true) (wanted_none rfl) (ix_neq rfl rfl rfl (decide_eq_true hodd)) ?_
          simp only [zz]
          go_upto_region 20 with fail
          refine wp_region_lit ?_
          refine wpList_run (v := .pointer (some ⟨p, 0, none⟩)) (wanted_none rfl) (exec_move rfl rfl) ?_
          simp only [zz]
          refine wpList_op rfl fun K9 HK9 => ?_
          go_wp2_with fail
          refine (HC5.out.open_ HT5.out (by omega) (by decide)).mono ?_
          rintro e w6 ⟨ht, x', rfl, hc⟩
          refine HK9.out _ _ ?_
          clear HK9
          try simp only [zz]
          have HT6 := Lib.hid ht
          have HC6 := Lib.hid hc
          clear ht hc
          refine wpList_run (v := .tuple #[.pointer (some ⟨x', 0, none⟩), .int .i64 0]) (wanted_none rfl) (exec_move rfl rfl) ?_
          simp only [zz]
          refine wpList_run (v := .pointer (some ⟨x', 0, none⟩)) (wanted_none rfl) (ix_extract rfl rfl rfl) ?_
          simp only [zz]
          refine wpList_run (v := .int .i64 0) (wanted_none rfl) (ix_extract rfl rfl rfl) ?_
          simp only [zz]
          refine wpList_run (v := .pointer (some ⟨x', 0, none⟩)) (wanted_none rfl) (gx_assign rfl rfl) ?_
          simp only [zz]
          refine wpList_run (v := .int .i64 0) (wanted_none rfl) (gx_assign rfl rfl) ?_
          simp only [zz]
          go_upto_region 21 with fail
          refine wp_region_lit ?_
          refine wpList_run (v := .pointer (some ⟨x', 0, none⟩)) (wanted_none rfl) (exec_move rfl rfl) ?_
          simp only [zz]
          refine wpList_run (v := .bool false) (wanted_none rfl) (ptr_nilW rfl rfl rfl rfl) ?_
          simp only [zz]
          refine wpList_run (v := .bool false) (wanted_none rfl) (exec_move rfl rfl) ?_
          simp only [zz]
          refine wpList_run (v := .int .i64 0) rfl (exec_move rfl rfl) ?_
          simp only [zz]
          refine wpList_run (v := .bool false) rfl (ix_neq rfl rfl rfl (by decide)) ?_
          simp only [zz]
          refine wpList_run (v := .bool false) (wanted_none rfl) (ix_pickF rfl rfl rfl) ?_
          simp only [zz]
          refine wpList_run (v := .bool false) (wanted_none rfl) (exec_move rfl rfl) ?_
          simp only [zz]
          refine wpList_run (v := .pointer (some ⟨x', 0, none⟩)) rfl (exec_move rfl rfl) ?_
          simp only [zz]
          refine wpList_op rfl fun K9 HK9 => ?_
          go_wp2_with fail
          refine (HC6.out.first).mono ?_
          rintro e w9 ⟨rfl, hw⟩
          refine HK9.out _ _ ?_
          clear HK9
          try simp only [zz]
          obtain rfl := hw.symm
          refine wpList_run (v := .int .i64 (g : Int)) rfl (exec_move rfl rfl) ?_
          simp only [zz]
          refine wpList_run (v := .bool false) rfl (ix_neq rfl rfl rfl (decide_eq_false (by omega))) ?_
          simp only [zz]
          refine wpList_run (v := .bool false) (wanted_none rfl) (ix_pickF rfl rfl rfl) ?_
          simp only [zz]
          go_upto_region 23 with fail
          refine wp_region_lit ?_
          refine wpList_run (v := .pointer (some ⟨x', 0, none⟩)) (wanted_none rfl) (exec_move rfl rfl) ?_
          simp only [zz]
          refine wpList_run (v := .pointer (some ⟨x', 0, none⟩)) (wanted_none rfl) (gx_assign rfl rfl) ?_
          simp only [zz]
          go_upto_region 24 with fail
          refine wp_region_lit ?_
          refine wpList_run (v := .pointer (some ⟨x', 0, none⟩)) (wanted_none rfl) (exec_move rfl rfl) ?_
          simp only [zz]
          refine wpList_op rfl fun K9 HK9 => ?_
          go_wp2_with fail
          refine (HC6.out.next (by omega)).mono ?_
          rintro e w7 ⟨rfl, ht⟩
          refine HK9.out _ _ ?_
          clear HK9
          try simp only [zz]
          have HT7 := Lib.hid (HT6.out.trans ht fun _ _ e => e)
          have HC7 := Lib.hid ((HC6.out.still ht).mono (show 3 * j + 1 + 1 + 1 ≤ 3 * (j + 1) by omega))
          clear ht
          refine wpList_run (v := .int .i64 ((N + 1 : Nat) : Int)) (wanted_none rfl) (exec_move rfl rfl) ?_
          simp only [zz]
          refine wpList_run (v := .bool false) (wanted_none rfl) (ix_neq rfl rfl rfl (decide_eq_false (by omega))) ?_
          simp only [zz]
          go_upto_region 8 with fail
          refine wp_region_lit ?_
          refine wpList_run (v := .int .i64 (j : Int)) (wanted_none rfl) (exec_move rfl rfl) ?_
          simp only [zz]
          refine wpList_run (v := .int .i64 ((j + 1 : Nat) : Int)) (wanted_none rfl) (ix_add rfl rfl rfl (by omega) (by omega)) ?_
          simp only [zz]
          refine wpList_run (v := .int .i64 ((j + 1 : Nat) : Int)) (wanted_none rfl) (gx_assign rfl rfl) ?_
          simp only [zz]
          go_wp2_with fail
          go_roundg (gk - 1)
          case measure => have := HGK.out; omega
          case rel => exact ⟨j + 1, g, (N + 1), x', rfl, rfl, rfl, by have := HGK.out; omega, HT7.out, HC7.out⟩
      · go_upto_region 14 with fail
        refine wp_region_lit ?_
        refine wpList_run (v := .int .i64 (j : Int)) (wanted_none rfl) (exec_move rfl rfl) ?_
        simp only [zz]
        refine wpList_run (v := .slice A1 n1 c1) (wanted_none rfl) (exec_move rfl rfl) ?_
        simp only [zz]
        refine wpList_run (v := .int .i64 (n1 : Int)) (wanted_none rfl) (gx_len rfl rfl Tryd.underlying34) ?_
        simp only [zz]
        refine wpList_run (v := .bool false) (wanted_none rfl) (ix_lss rfl rfl rfl (decide_eq_false (by omega))) ?_
        simp only [zz]
        go_upto_region 24 with fail
        refine wp_region_lit ?_
        refine wpList_run (v := .pointer (some ⟨x, 0, none⟩)) (wanted_none rfl) (exec_move rfl rfl) ?_
        simp only [zz]
        refine wpList_op rfl fun K9 HK9 => ?_
        go_wp2_with fail
        refine (HC3.out.next (by omega)).mono ?_
        rintro e w7 ⟨rfl, ht⟩
        refine HK9.out _ _ ?_
        clear HK9
        try simp only [zz]
        have HT7 := Lib.hid (HT3.out.trans ht fun _ _ e => e)
        have HC7 := Lib.hid ((HC3.out.still ht).mono (show 3 * j + 1 ≤ 3 * (j + 1) by omega))
        clear ht
        refine wpList_run (v := .int .i64 ((N + 1 : Nat) : Int)) (wanted_none rfl) (exec_move rfl rfl) ?_
        simp only [zz]
        refine wpList_run (v := .bool false) (wanted_none rfl) (ix_neq rfl rfl rfl (decide_eq_false (by omega))) ?_
        simp only [zz]
        go_upto_region 8 with fail
        refine wp_region_lit ?_
        refine wpList_run (v := .int .i64 (j : Int)) (wanted_none rfl) (exec_move rfl rfl) ?_
        simp only [zz]
        refine wpList_run (v := .int .i64 ((j + 1 : Nat) : Int)) (wanted_none rfl) (ix_add rfl rfl rfl (by omega) (by omega)) ?_
        simp only [zz]
        refine wpList_run (v := .int .i64 ((j + 1 : Nat) : Int)) (wanted_none rfl) (gx_assign rfl rfl) ?_
        simp only [zz]
        go_wp2_with fail
        go_roundg (gk - 1)
        case measure => have := HGK.out; omega
        case rel => exact ⟨j + 1, f, (N + 1), x, rfl, rfl, rfl, by have := HGK.out; omega, HT7.out, HC7.out⟩
    · refine HK9.out _ _ ?_
      clear HK9
      try simp only [zz]
      have HC3 := Lib.hid hc
      clear hc
      refine wpList_run (v := .tuple #[.int .i64 0, .int .i64 e9]) (wanted_none rfl) (exec_move rfl rfl) ?_
      simp only [zz]
      refine wpList_run (v := .int .i64 0) (wanted_none rfl) (ix_extract rfl rfl rfl) ?_
      simp only [zz]
      refine wpList_run (v := .int .i64 e9) (wanted_none rfl) (ix_extract rfl rfl rfl) ?_
      simp only [zz]
      refine wpList_run (v := .int .i64 0) (wanted_none rfl) (gx_assign rfl rfl) ?_
      simp only [zz]
      refine wpList_run (v := .int .i64 e9) (wanted_none rfl) (gx_assign rfl rfl) ?_
      simp only [zz]
      go_upto_region 10 with fail
      refine wp_region_lit ?_
      refine wpList_run (v := .int .i64 e9) (wanted_none rfl) (exec_move rfl rfl) ?_
      simp only [zz]
      refine wpList_run (v := .bool false) (wanted_none rfl) (ix_eql rfl rfl rfl (decide_eq_false he9)) ?_
      simp only [zz]
      have yf := HC3.out.fN
      by_cases hcu : j < n1
      · go_upto_region 14 with fail
        refine wp_region_lit ?_
        refine wpList_run (v := .int .i64 (j : Int)) (wanted_none rfl) (exec_move rfl rfl) ?_
        simp only [zz]
        refine wpList_run (v := .slice A1 n1 c1) (wanted_none rfl) (exec_move rfl rfl) ?_
        simp only [zz]
        refine wpList_run (v := .int .i64 (n1 : Int)) (wanted_none rfl) (gx_len rfl rfl Tryd.underlying34) ?_
        simp only [zz]
        refine wpList_run (v := .bool true) (wanted_none rfl) (ix_lss rfl rfl rfl (decide_eq_true (by omega))) ?_
        simp only [zz]
        obtain ⟨g1, o1, rfl, _, _, hcells⟩ := HK.out.2.2 (by omega)
        obtain ⟨c, hcz⟩ : ∃ c, c = zs.getD j 0 := ⟨_, rfl⟩
        have hcell := hcells j hcu
        rw [← hcz] at hcell
        have HCW := Lib.hid (show ∀ W : World, Turn nowhere w W → W.cell? ⟨g1, o1 + j * 1, none⟩ = some (.int .i64 c) from fun W h => by rw [Nat.mul_one, h.cell (World.block_lt_of_cell? _ _ hcell) (fun e => e)]; exact hcell)
        have HCE := Lib.hid (HCW.out w3 HT3.out)
        have yc : -9223372036854775808 ≤ c ∧ c ≤ 9223372036854775807 := by
          rw [hcz, List.getD_eq_getElem?_getD, List.getElem?_eq_getElem (by rw [HK.out.1]; exact hcu)]
          exact HZ.out _ (List.getElem_mem _)
        clear hcz hcell hcells
        have hai := among_in (c := c) (n := ((N : Nat) : Int) - (f : Int) + 1) (by omega)
        obtain ⟨g, hg⟩ : ∃ g : Nat, (f : Int) + amongI c (((N : Nat) : Int) - (f : Int) + 1) = (g : Int) := ⟨(((f : Int) + amongI c (((N : Nat) : Int) - (f : Int) + 1))).toNat, by omega⟩
        have yg : f ≤ g ∧ g ≤ N := by omega
        have HG := Lib.hid hg
        clear hg hai
        go_upto_region 15 with fail
        refine wp_region_alw (fun W => Calm w W p 7 450 (3 * j + 1) f N x ∧ W.cell? ⟨g1, o1 + j * 1, none⟩ = some (.int .i64 c)) (by kernel_rfl) ?_
        have HD := Lib.hid ((Turn.refl nowhere w3).drew)
        have hS0 : (fun W => Calm w W p 7 450 (3 * j + 1) f N x ∧ W.cell? ⟨g1, o1 + j * 1, none⟩ = some (.int .i64 c)) w3.drew := ⟨HC3.out.still HD.out, by rw [HD.out.cell (World.block_lt_of_cell? _ _ HCE.out) (fun e => e)]; exact HCE.out⟩
        have HT4 := Lib.hid (HT3.out.trans HD.out fun _ _ e => e)
        clear HD HC3 HT3 HCE
        generalize w3.drew = w4 at *
        refine alw_take (i := 0) (v := .pointer (some ⟨x, 0, none⟩)) rfl (by kernel_rfl) (by kernel_rfl) (fun _ _ _ h => h) (.inl ⟨by rfl, fun W hW => exec_move rfl rfl⟩) hS0 ?_
        simp only [zz]
        refine alw_take (i := 2) (v := .slice (some ⟨g1, o1, none⟩) n1 c1) rfl (by kernel_rfl) (by kernel_rfl) (fun _ _ _ h => h) (.inl ⟨by rfl, fun W hW => exec_move rfl rfl⟩) hS0 ?_
        simp only [zz]
        refine alw_take (i := 3) (v := .int .i64 (j : Int)) rfl (by kernel_rfl) (by kernel_rfl) (fun _ _ _ h => h) (.inl ⟨by rfl, fun W hW => exec_move rfl rfl⟩) hS0 ?_
        simp only [zz]
        refine alw_take (i := 4) (v := .pointer (some ⟨g1, o1 + j * 1, none⟩)) rfl (by kernel_rfl) (by kernel_rfl) (fun _ _ _ h => h) (.inl ⟨by rfl, fun W hW => gx_iaddr (i := j) (sz := 1) rfl rfl rfl Tryd.underlying34 size_int (by omega) rfl⟩) hS0 ?_
        simp only [zz]
        refine alw_take (i := 5) (v := .int .i64 c) rfl (by kernel_rfl) (by kernel_rfl) (fun _ _ _ h => h) (.inl ⟨by rfl, fun W hW => exec_load1 rfl rfl (by kernel_rfl) hW.2⟩) hS0 ?_
        simp only [zz]
        refine alw_take (i := 6) (v := .int .i64 (N : Int)) rfl (by kernel_rfl) (by kernel_rfl) (fun _ _ _ h => h) (.inl ⟨by rfl, fun W hW => exec_move rfl rfl⟩) hS0 ?_
        simp only [zz]
        refine alw_take (i := 7) (v := .pointer (some ⟨x, 0, none⟩)) rfl (by kernel_rfl) (by kernel_rfl) (fun _ _ _ h => h) (.inl ⟨by rfl, fun W hW => exec_move rfl rfl⟩) hS0 ?_
        simp only [zz]
        refine alw_step (i := 1) (by kernel_rfl) rfl rfl ?_
        intro K1 HK1
        go_wp2_with fail
        refine (hS0.1.first).mono ?_
        rintro e w9 ⟨rfl, hw⟩
        obtain rfl := hw.symm
        refine HK1.out _ _ ⟨hS0, ?_⟩
        clear HK1
        try simp only [zz]
        refine alw_step (i := 8) (by kernel_rfl) rfl rfl ?_
        intro K1 HK1
        go_wp2_with fail
        refine (hS0.1.first).mono ?_
        rintro e w9 ⟨rfl, hw⟩
        obtain rfl := hw.symm
        refine HK1.out _ _ ⟨hS0, ?_⟩
        clear HK1
        try simp only [zz]
        refine alw_take (i := 9) (v := .int .i64 (((N : Nat) : Int) - (f : Int))) rfl (by kernel_rfl) (by kernel_rfl) (fun _ _ _ h => h) (.inl ⟨by rfl, fun W hW => ix_sub rfl rfl rfl rfl (by omega)⟩) hS0 ?_
        simp only [zz]
        refine alw_take (i := 10) (v := .int .i64 (((N : Nat) : Int) - (f : Int) + 1)) rfl (by kernel_rfl) (by kernel_rfl) (fun _ _ _ h => h) (.inl ⟨by rfl, fun W hW => ix_add rfl rfl rfl rfl (by omega)⟩) hS0 ?_
        simp only [zz]
        refine alw_step (i := 11) (by kernel_rfl) rfl rfl ?_
        intro K1 HK1
        go_wp2_with fail
        refine (among_walk c (((N : Nat) : Int) - (f : Int) + 1) yc (by omega)).mono ?_
        rintro e w9 ⟨rfl, hw⟩
        obtain rfl := hw.symm
        refine HK1.out _ _ ⟨hS0, ?_⟩
        clear HK1
        try simp only [zz]
        refine alw_take (i := 12) (v := .int .i64 (g : Int)) rfl (by kernel_rfl) (by kernel_rfl) (fun _ _ _ h => h) (.inl ⟨by rfl, fun W hW => ix_add rfl rfl rfl HG.out (by omega)⟩) hS0 ?_
        simp only [zz]
        refine alw_take (i := 13) (v := .int .i64 (g : Int)) rfl (by kernel_rfl) (by kernel_rfl) (fun _ _ _ h => h) (.inl ⟨by rfl, fun W hW => gx_assign rfl rfl⟩) hS0 ?_
        simp only [zz]
        refine alw_done rfl ?_
        refine NoPanic.normal ?_
        have HC4 := Lib.hid hS0.1
        have HCE4 := Lib.hid hS0.2
        clear hS0
        try simp only [zz]
        go_upto_region 16 with fail
        refine wp_region_lit ?_
        refine wpList_run (v := .pointer (some ⟨x, 0, none⟩)) (wanted_none rfl) (exec_move rfl rfl) ?_
        simp only [zz]
        refine wpList_run (v := .int .i64 (g : Int)) (wanted_none rfl) (exec_move rfl rfl) ?_
        simp only [zz]
        refine wpList_op rfl fun K9 HK9 => ?_
        go_wp2_with fail
        refine (HC4.out.cut HT4.out (by omega) yg.1 yg.2).mono ?_
        rintro e w5 ⟨rfl, ht, hc⟩
        refine HK9.out _ _ ?_
        clear HK9
        try simp only [zz]
        have HT5 := Lib.hid ht
        have HC5 := Lib.hid hc
        clear ht hc
        refine wpList_run (v := .int .i64 0) (wanted_none rfl) (gx_assign rfl rfl) ?_
        simp only [zz]
        go_upto_region 17 with fail
        refine wp_region_lit ?_
        refine wpList_run (v := .int .i64 0) (wanted_none rfl) (exec_move rfl rfl) ?_
        simp only [zz]
        refine wpList_run (v := .bool false) (wanted_none rfl) (ix_neq rfl rfl rfl (by decide)) ?_
        simp only [zz]
        refine wpList_run (v := .bool false) (wanted_none rfl) (exec_move rfl rfl) ?_
        simp only [zz]
        refine wpList_run (v := .pointer (some ⟨x, 0, none⟩)) rfl (exec_move rfl rfl) ?_
        simp only [zz]
        refine wpList_op rfl fun K9 HK9 => ?_
        go_wp2_with fail
        refine (HC5.out.first).mono ?_
        rintro e w9 ⟨rfl, hw⟩
        refine HK9.out _ _ ?_
        clear HK9
        try simp only [zz]
        obtain rfl := hw.symm
        refine wpList_run (v := .int .i64 (g : Int)) rfl (exec_move rfl rfl) ?_
        simp only [zz]
        refine wpList_run (v := .bool false) rfl (ix_neq rfl rfl rfl (decide_eq_false (by omega))) ?_
        simp only [zz]
        refine wpList_run (v := .bool false) (wanted_none rfl) (ix_pickF rfl rfl rfl) ?_
        simp only [zz]
        have HCE5 := Lib.hid (show w5.cell? ⟨g1, o1 + j * 1, none⟩ = some (.int .i64 c) from HCW.out w5 HT5.out)
        clear HC4 HT4 HCE4
        by_cases hodd : c.tmod 2 = 0
        · go_upto_region 19 with fail
          refine wp_region_lit ?_
          refine wpList_run (v := .slice (some ⟨g1, o1, none⟩) n1 c1) (wanted_none rfl) (exec_move rfl rfl) ?_
          simp only [zz]
          refine wpList_run (v := .int .i64 (j : Int)) (wanted_none rfl) (exec_move rfl rfl) ?_
          simp only [zz]
          refine wpList_run (v := .pointer (some ⟨g1, o1 + j * 1, none⟩)) (wanted_none rfl) (gx_iaddr (i := j) (sz := 1) rfl rfl rfl Tryd.underlying34 size_int (by omega) rfl) ?_
          simp only [zz]
          refine wpList_run (v := .int .i64 c) (wanted_none rfl) (exec_load1 rfl rfl (by kernel_rfl) HCE5.out) ?_
          simp only [zz]
          refine wpList_run (v := .int .i64 (c.tmod 2)) (wanted_none rfl) (wx_rem2 rfl rfl) ?_
          simp only [zz]
          refine wpList_run (v := .bool false) (wanted_none rfl) (ix_neq rfl rfl rfl (decide_eq_false (fun h => h hodd))) ?_
          simp only [zz]
          go_upto_region 24 with fail
          refine wp_region_lit ?_
          refine wpList_run (v := .pointer (some ⟨x, 0, none⟩)) (wanted_none rfl) (exec_move rfl rfl) ?_
          simp only [zz]
          refine wpList_op rfl fun K9 HK9 => ?_
          go_wp2_with fail
          refine (HC5.out.next (by omega)).mono ?_
          rintro e w7 ⟨rfl, ht⟩
          refine HK9.out _ _ ?_
          clear HK9
          try simp only [zz]
          have HT7 := Lib.hid (HT5.out.trans ht fun _ _ e => e)
          have HC7 := Lib.hid ((HC5.out.still ht).mono (show 3 * j + 1 + 1 ≤ 3 * (j + 1) by omega))
          clear ht
          refine wpList_run (v := .int .i64 (N : Int)) (wanted_none rfl) (exec_move rfl rfl) ?_
          simp only [zz]
          refine wpList_run (v := .bool false) (wanted_none rfl) (ix_neq rfl rfl rfl (decide_eq_false (by omega))) ?_
          simp only [zz]
          go_upto_region 8 with fail
          refine wp_region_lit ?_
          refine wpList_run (v := .int .i64 (j : Int)) (wanted_none rfl) (exec_move rfl rfl) ?_
          simp only [zz]
          refine wpList_run (v := .int .i64 ((j + 1 : Nat) : Int)) (wanted_none rfl) (ix_add rfl rfl rfl (by omega) (by omega)) ?_
          simp only [zz]
          refine wpList_run (v := .int .i64 ((j + 1 : Nat) : Int)) (wanted_none rfl) (gx_assign rfl rfl) ?_
          simp only [zz]
          go_wp2_with fail
          go_roundg (gk - 1)
          case measure => have := HGK.out; omega
          case rel => exact ⟨j + 1, g, N, x, rfl, rfl, rfl, by have := HGK.out; omega, HT7.out, HC7.out⟩
        · go_upto_region 19 with fail
          refine wp_region_lit ?_
          refine wpList_run (v := .slice (some ⟨g1, o1, none⟩) n1 c1) (wanted_none rfl) (exec_move rfl rfl) ?_
          simp only [zz]
          refine wpList_run (v := .int .i64 (j : Int)) (wanted_none rfl) (exec_move rfl rfl) ?_
          simp only [zz]
          refine wpList_run (v := .pointer (some ⟨g1, o1 + j * 1, none⟩)) (wanted_none rfl) (gx_iaddr (i := j) (sz := 1) rfl rfl rfl Tryd.underlying34 size_int (by omega) rfl) ?_
          simp only [zz]
          refine wpList_run (v := .int .i64 c) (wanted_none rfl) (exec_load1 rfl rfl (by kernel_rfl) HCE5.out) ?_
          simp only [zz]
          refine wpList_run (v := .int .i64 (c.tmod 2)) (wanted_none rfl) (wx_rem2 rfl rfl) ?_
          simp only [zz]
          refine wpList_run (v := .bool true) (wanted_none rfl) (ix_neq rfl rfl rfl (decide_eq_true hodd)) ?_
          simp only [zz]
          go_upto_region 20 with fail
          refine wp_region_lit ?_
          refine wpList_run (v := .pointer (some ⟨p, 0, none⟩)) (wanted_none rfl) (exec_move rfl rfl) ?_
          simp only [zz]
          refine wpList_op rfl fun K9 HK9 => ?_
          go_wp2_with fail
          refine (HC5.out.open_ HT5.out (by omega) (by decide)).mono ?_
          rintro e w6 ⟨ht, x', rfl, hc⟩
          refine HK9.out _ _ ?_
          clear HK9
          try simp only [zz]
          have HT6 := Lib.hid ht
          have HC6 := Lib.hid hc
          clear ht hc
          refine wpList_run (v := .tuple #[.pointer (some ⟨x', 0, none⟩), .int .i64 0]) (wanted_none rfl) (exec_move rfl rfl) ?_
          simp only [zz]
          refine wpList_run (v := .pointer (some ⟨x', 0, none⟩)) (wanted_none rfl) (ix_extract rfl rfl rfl) ?_
          simp only [zz]
          refine wpList_run (v := .int .i64 0) (wanted_none rfl) (ix_extract rfl rfl rfl) ?_
          simp only [zz]
          refine wpList_run (v := .pointer (some ⟨x', 0, none⟩)) (wanted_none rfl) (gx_assign rfl rfl) ?_
          simp only [zz]
          refine wpList_run (v := .int .i64 0) (wanted_none rfl) (gx_assign rfl rfl) ?_
          simp only [zz]
          go_upto_region 21 with fail
          refine wp_region_lit ?_
          refine wpList_run (v := .pointer (some ⟨x', 0, none⟩)) (wanted_none rfl) (exec_move rfl rfl) ?_
          simp only [zz]
          refine wpList_run (v := .bool false) (wanted_none rfl) (ptr_nilW rfl rfl rfl rfl) ?_
          simp only [zz]
          refine wpList_run (v := .bool false) (wanted_none rfl) (exec_move rfl rfl) ?_
          simp only [zz]
          refine wpList_run (v := .int .i64 0) rfl (exec_move rfl rfl) ?_
          simp only [zz]
          refine wpList_run (v := .bool false) rfl (ix_neq rfl rfl rfl (by decide)) ?_
          simp only [zz]
          refine wpList_run (v := .bool false) (wanted_none rfl) (ix_pickF rfl rfl rfl) ?_
          simp only [zz]
          refine wpList_run (v := .bool false) (wanted_none rfl) (exec_move rfl rfl) ?_
          simp only [zz]
          refine wpList_run (v := .pointer (some ⟨x', 0, none⟩)) rfl (exec_move rfl rfl) ?_
          simp only [zz]
          refine wpList_op rfl fun K9 HK9 => ?_
          go_wp2_with fail
          refine (HC6.out.first).mono ?_
          rintro e w9 ⟨rfl, hw⟩
          refine HK9.out _ _ ?_
          clear HK9
          try simp only [zz]
          obtain rfl := hw.symm
          refine wpList_run (v := .int .i64 (g : Int)) rfl (exec_move rfl rfl) ?_
          simp only [zz]
          refine wpList_run (v := .bool false) rfl (ix_neq rfl rfl rfl (decide_eq_false (by omega))) ?_
          simp only [zz]
          refine wpList_run (v := .bool false) (wanted_none rfl) (ix_pickF rfl rfl rfl) ?_
          simp only [zz]
          go_upto_region 23 with fail
          refine wp_region_lit ?_
          refine wpList_run (v := .pointer (some ⟨x', 0, none⟩)) (wanted_none rfl) (exec_move rfl rfl) ?_
          simp only [zz]
          refine wpList_run (v := .pointer (some ⟨x', 0, none⟩)) (wanted_none rfl) (gx_assign rfl rfl) ?_
          simp only [zz]
          go_upto_region 24 with fail
          refine wp_region_lit ?_
          refine wpList_run (v := .pointer (some ⟨x', 0, none⟩)) (wanted_none rfl) (exec_move rfl rfl) ?_
          simp only [zz]
          refine wpList_op rfl fun K9 HK9 => ?_
          go_wp2_with fail
          refine (HC6.out.next (by omega)).mono ?_
          rintro e w7 ⟨rfl, ht⟩
          refine HK9.out _ _ ?_
          clear HK9
          try simp only [zz]
          have HT7 := Lib.hid (HT6.out.trans ht fun _ _ e => e)
          have HC7 := Lib.hid ((HC6.out.still ht).mono (show 3 * j + 1 + 1 + 1 ≤ 3 * (j + 1) by omega))
          clear ht
          refine wpList_run (v := .int .i64 (N : Int)) (wanted_none rfl) (exec_move rfl rfl) ?_
          simp only [zz]
          refine wpList_run (v := .bool false) (wanted_none rfl) (ix_neq rfl rfl rfl (decide_eq_false (by omega))) ?_
          simp only [zz]
          go_upto_region 8 with fail
          refine wp_region_lit ?_
          refine wpList_run (v := .int .i64 (j : Int)) (wanted_none rfl) (exec_move rfl rfl) ?_
          simp only [zz]
          refine wpList_run (v := .int .i64 ((j + 1 : Nat) : Int)) (wanted_none rfl) (ix_add rfl rfl rfl (by omega) (by omega)) ?_
          simp only [zz]
          refine wpList_run (v := .int .i64 ((j + 1 : Nat) : Int)) (wanted_none rfl) (gx_assign rfl rfl) ?_
          simp only [zz]
          go_wp2_with fail
          go_roundg (gk - 1)
          case measure => have := HGK.out; omega
          case rel => exact ⟨j + 1, g, N, x', rfl, rfl, rfl, by have := HGK.out; omega, HT7.out, HC7.out⟩
      · go_upto_region 14 with fail
        refine wp_region_lit ?_
        refine wpList_run (v := .int .i64 (j : Int)) (wanted_none rfl) (exec_move rfl rfl) ?_
        simp only [zz]
        refine wpList_run (v := .slice A1 n1 c1) (wanted_none rfl) (exec_move rfl rfl) ?_
        simp only [zz]
        refine wpList_run (v := .int .i64 (n1 : Int)) (wanted_none rfl) (gx_len rfl rfl Tryd.underlying34) ?_
        simp only [zz]
        refine wpList_run (v := .bool false) (wanted_none rfl) (ix_lss rfl rfl rfl (decide_eq_false (by omega))) ?_
        simp only [zz]
        go_upto_region 24 with fail
        refine wp_region_lit ?_
        refine wpList_run (v := .pointer (some ⟨x, 0, none⟩)) (wanted_none rfl) (exec_move rfl rfl) ?_
        simp only [zz]
        refine wpList_op rfl fun K9 HK9 => ?_
        go_wp2_with fail
        refine (HC3.out.next (by omega)).mono ?_
        rintro e w7 ⟨rfl, ht⟩
        refine HK9.out _ _ ?_
        clear HK9
        try simp only [zz]
        have HT7 := Lib.hid (HT3.out.trans ht fun _ _ e => e)
        have HC7 := Lib.hid ((HC3.out.still ht).mono (show 3 * j + 1 ≤ 3 * (j + 1) by omega))
        clear ht
        refine wpList_run (v := .int .i64 (N : Int)) (wanted_none rfl) (exec_move rfl rfl) ?_
        simp only [zz]
        refine wpList_run (v := .bool false) (wanted_none rfl) (ix_neq rfl rfl rfl (decide_eq_false (by omega))) ?_
        simp only [zz]
        go_upto_region 8 with fail
        refine wp_region_lit ?_
        refine wpList_run (v := .int .i64 (j : Int)) (wanted_none rfl) (exec_move rfl rfl) ?_
        simp only [zz]
        refine wpList_run (v := .int .i64 ((j + 1 : Nat) : Int)) (wanted_none rfl) (ix_add rfl rfl rfl (by omega) (by omega)) ?_
        simp only [zz]
        refine wpList_run (v := .int .i64 ((j + 1 : Nat) : Int)) (wanted_none rfl) (gx_assign rfl rfl) ?_
        simp only [zz]
        go_wp2_with fail
        go_roundg (gk - 1)
        case measure => have := HGK.out; omega
        case rel => exact ⟨j + 1, f, N, x, rfl, rfl, rfl, by have := HGK.out; omega, HT7.out, HC7.out⟩
  · by_cases hn : j < n0
    · go_upto_region 7 with fail
      refine wp_region_lit ?_
      refine wpList_run (v := .int .i64 (j : Int)) (wanted_none rfl) (exec_move rfl rfl) ?_
      simp only [zz]
      refine wpList_run (v := .slice A0 n0 c0) (wanted_none rfl) (exec_move rfl rfl) ?_
      simp only [zz]
      refine wpList_run (v := .int .i64 (n0 : Int)) (wanted_none rfl) (gx_len rfl rfl Tryd.underlying30) ?_
      simp only [zz]
      refine wpList_run (v := .bool true) (wanted_none rfl) (ix_lss rfl rfl rfl (decide_eq_true (by omega))) ?_
      simp only [zz]
      refine wpList_run (v := .bool true) (wanted_none rfl) (exec_move rfl rfl) ?_
      simp only [zz]
      refine wpList_run (v := .int .i64 (j : Int)) rfl (exec_move rfl rfl) ?_
      simp only [zz]
      refine wpList_run (v := .bool false) rfl (ix_lss rfl rfl rfl (decide_eq_false (by omega))) ?_
      simp only [zz]
      refine wpList_run (v := .bool false) (wanted_none rfl) (ix_pickT rfl rfl rfl) ?_
      simp only [zz]
      go_upto_region 26 with fail
      refine wp_region_lit ?_
      refine wpList_run (v := .bool true) (wanted_none rfl) (gx_assign rfl rfl) ?_
      simp only [zz]
      go_wp2_with fail
      go_ret
      exact ⟨rfl, HTR.out⟩
    · go_upto_region 7 with fail
      refine wp_region_lit ?_
      refine wpList_run (v := .int .i64 (j : Int)) (wanted_none rfl) (exec_move rfl rfl) ?_
      simp only [zz]
      refine wpList_run (v := .slice A0 n0 c0) (wanted_none rfl) (exec_move rfl rfl) ?_
      simp only [zz]
      refine wpList_run (v := .int .i64 (n0 : Int)) (wanted_none rfl) (gx_len rfl rfl Tryd.underlying30) ?_
      simp only [zz]
      refine wpList_run (v := .bool false) (wanted_none rfl) (ix_lss rfl rfl rfl (decide_eq_false (by omega))) ?_
      simp only [zz]
      refine wpList_run (v := .bool false) (wanted_none rfl) (exec_move rfl rfl) ?_
      simp only [zz]
      refine wpList_skip (by go_simp) ?_
      simp only [zz]
      refine wpList_skip (by go_simp) ?_
      simp only [zz]
      refine wpList_run (v := .bool false) (wanted_none rfl) (ix_pickF rfl rfl rfl) ?_
      simp only [zz]
      go_upto_region 26 with fail
      refine wp_region_lit ?_
      refine wpList_run (v := .bool true) (wanted_none rfl) (gx_assign rfl rfl) ?_
      simp only [zz]
      go_wp2_with fail
      go_ret
      exact ⟨rfl, HTR.out⟩
end Go.Proofs.YthfhalbdfmahdaaDoor
