/-
  Texts in one file: WmTw. Conditions: the tables and the errors read as the program's text lays them.
-/
import Derived.Test.YtbfeejkdlhdioaaDoorJT0
import Derived.Test.YtbfeejkdlhdioaaDoorJT36
namespace Go.Proofs.YtbfeejkdlhdioaaDoor
open Go.RowKit
open Wl (B8)
set_option linter.unusedVariables false
set_option linter.unusedSimpArgs false
set_option maxRecDepth 20000
theorem size_I1 : (Tryd.prog.info? 34).map (·.size) = some 1 := by kernel_rfl
theorem build_bk0 (W : World) : (Instr.build 32 #[]).run Tryd.prog W = .ok (.agg #[.int .i64 0, .slice none 0 0]) W := by kernel_rfl
set_option maxRecDepth 20000 in
set_option maxHeartbeats 4000000 in
theorem walTwice_main (A0 : Option Addr) (n0 c0 : Nat) (vs : List LtV) (A1 : Option Addr) (n1 c1 : Nat) (ks : List IrV) (fu : Int) (w : World) (h0 : LtsAt w A0 n0 vs) (h1 : IrsAt w A1 n1 ks) (hf : -9223372036854775808 ≤ fu ∧ fu ≤ 9223372036854775807) (htab : Tab w) :
    Calls Tryd.prog 8 #[.slice A0 n0 c0, .slice A1 n1 c1, .int .i64 fu] w fun r w' => r = .returned (.bool true) ∧ Turn nowhere w w' := by
  have HL := Lib.hid h0
  have HK := Lib.hid h1
  have HTAB := Lib.hid htab
  have y0 := h0.row.2.2.1
  have y1 := h1.row.2.2.1
  have yf := hf
  clear h0 h1 htab hf
  go_enter Tryd.func8, Tryd.ntmps8
  go_upto_region 0 with fail
  refine wp_region_lit ?_
  refine wpList_run (v := .bool false) (wanted_none rfl) (gx_assign rfl rfl) ?_
  simp only [zz]
  go_upto_region 1 with fail
  refine wp_region_lit ?_
  refine wpList_op rfl fun K9 HK9 => ?_
  go_wp2_with fail
  refine (shown_walk HTAB.out).mono ?_
  rintro e w1 ⟨rfl, ht⟩
  refine HK9.out _ _ ?_
  clear HK9
  try simp only [zz]
  have HT1 := Lib.hid ht
  have HTAB1 := Lib.hid (tab_still HTAB.out ht)
  clear ht
  refine wpList_run (v := .bool true) (wanted_none rfl) (gx_assign rfl rfl) ?_
  simp only [zz]
  go_upto_region 2 with fail
  refine wp_region_lit ?_
  refine wpList_op rfl fun K9 HK9 => ?_
  go_wp2_with fail
  refine (ground_st 450 (by decide) (by decide) HTAB1.out).mono ?_
  rintro e w2 ⟨ht, p, xg, rfl, hst⟩
  refine HK9.out _ _ ?_
  clear HK9
  try simp only [zz]
  have HT2 := Lib.hid (HT1.out.trans ht fun _ _ e => e)
  have HST := Lib.hid hst
  have HS12 := Lib.hid ht.size
  clear ht hst HTAB1
  refine wpList_run (v := .tuple #[.pointer (some ⟨p, 0, none⟩), .pointer (some ⟨xg, 0, none⟩)]) (wanted_none rfl) (exec_move rfl rfl) ?_
  simp only [zz]
  refine wpList_run (v := .pointer (some ⟨p, 0, none⟩)) (wanted_none rfl) (ix_extract rfl rfl rfl) ?_
  simp only [zz]
  refine wpList_run (v := .pointer (some ⟨xg, 0, none⟩)) (wanted_none rfl) (ix_extract rfl rfl rfl) ?_
  simp only [zz]
  refine wpList_run (v := .pointer (some ⟨p, 0, none⟩)) (wanted_none rfl) (gx_assign rfl rfl) ?_
  simp only [zz]
  refine wpList_run (v := .pointer (some ⟨xg, 0, none⟩)) (wanted_none rfl) (gx_assign rfl rfl) ?_
  simp only [zz]
  go_upto_region 3 with fail
  refine wp_region_lit ?_
  refine wpList_run (v := .bool true) (wanted_none rfl) (exec_move rfl rfl) ?_
  simp only [zz]
  refine wpList_run (v := .bool false) (wanted_none rfl) (ix_not (b := true) rfl rfl) ?_
  simp only [zz]
  refine wpList_run (v := .bool false) (wanted_none rfl) (exec_move rfl rfl) ?_
  simp only [zz]
  refine wpList_run (v := .pointer (some ⟨xg, 0, none⟩)) rfl (exec_move rfl rfl) ?_
  simp only [zz]
  refine wpList_run (v := .bool false) rfl (ptr_nilW rfl rfl rfl rfl) ?_
  simp only [zz]
  refine wpList_run (v := .bool false) (wanted_none rfl) (ix_pickF rfl rfl rfl) ?_
  simp only [zz]
  go_upto_region 5 with fail
  refine wp_region_lit ?_
  refine wpList_run (v := .agg #[.int .i64 0, .slice none 0 0]) (wanted_none rfl) (gx_build0 rfl (build_bk0 _)) ?_
  simp only [zz]
  refine wpList_run (v := .pointer (some ⟨w2.heap.size, 0, none⟩)) (w' := w2.alloc (.cells #[.int .i64 0, .slice none 0 0] 32)) (wanted_none rfl) (gx_box rfl rfl (box_bk 0 none 0 0 w2)) ?_
  simp only [zz]
  refine wpList_run (v := .pointer (some ⟨w2.heap.size, 0, none⟩)) (wanted_none rfl) (gx_assign rfl rfl) ?_
  simp only [zz]
  have hbn := Blk.new w2 32 #[.int .i64 0, .slice none 0 0]
  have htb := (Turn.refl nowhere w2).alloc (.cells #[.int .i64 0, .slice none 0 0] 32)
  obtain ⟨b0, hb0⟩ : ∃ z, z = w2.heap.size := ⟨_, rfl⟩
  have hst := HST.out (w2.alloc (.cells #[.int .i64 0, .slice none 0 0] 32)) b0 htb (by omega) (by rw [hb0]; exact hbn)
  rw [← hb0]
  generalize w2.alloc (.cells #[.int .i64 0, .slice none 0 0] 32) = w3 at *
  have HT3 := Lib.hid (HT2.out.trans htb fun _ _ e => e)
  have HS3 := Lib.hid (show St w w3 p xg b0 7 450 0 0 [] [] (fun z => z < 0) from by
    obtain ⟨F, s, K, d, v, vP, vH, gs, Z, g1, g2, g3, g4, g5, g6, g7, g8, g9, g10, g11⟩ := hst
    exact ⟨F, s, K, d, v, vP, vH, gs, Z, g1, g2, g3, g4, g5, g6, g7, g8, fun k hk => Nat.le_trans HT1.out.size (g9 k hk), g10, g11⟩)
  clear hbn htb hst hb0 HST HT2 HS12 HT1
  go_upto_region 6 with fail
  refine wp_region_lit ?_
  refine wpList_run (v := .int .i64 0) (wanted_none rfl) (gx_assign rfl rfl) ?_
  simp only [zz]
  obtain ⟨m, hm⟩ : ∃ m, m = min n0 8 := ⟨_, rfl⟩
  have ym : m ≤ 8 ∧ m ≤ n0 ∧ (m = n0 ∨ m = 8) := by omega
  clear hm
  go_wp2_with fail
  go_loopg [10, 11] m (fun gk bv iv wr => ∃ (j b : Nat) (G : List Wl.Rec), bv = .pointer (some ⟨b, 0, none⟩) ∧ iv = .int .i64 (j : Int) ∧ j + gk = m ∧ Turn nowhere w wr ∧ St w wr p xg b 7 450 0 (2 * j) G G (fun z => z < 0) ∧ G.length ≤ j)
  case atStart => exact ⟨0, b0, [], rfl, rfl, by omega, HT3.out, HS3.out, Nat.le_refl _⟩
  clear HT3 HS3
  obtain ⟨j, b, G, rfl, rfl, hgk, htr, hst, hgl⟩ := hrel
  have HGK := Lib.hid hgk
  have HTR := Lib.hid htr
  have HST := Lib.hid hst
  have HGL := Lib.hid hgl
  have yj : j ≤ m := by omega
  clear hgk htr hst hgl
  by_cases hlt : j < m
  · go_upto_region 7 with fail
    refine wp_region_lit ?_
    refine wpList_run (v := .int .i64 (j : Int)) (wanted_none rfl) (exec_move rfl rfl) ?_
    simp only [zz]
    refine wpList_run (v := .slice A0 n0 c0) (wanted_none rfl) (exec_move rfl rfl) ?_
    simp only [zz]
    refine wpList_run (v := .int .i64 (n0 : Int)) (wanted_none rfl) (gx_len rfl rfl Tryd.underlying30) ?_
    simp only [zz]
    refine wpList_run (v := .bool true) (wanted_none rfl) (ix_lss rfl rfl rfl (decide_eq_true (by omega))) ?_
    simp only [zz]
    refine wpList_run (v := .bool true) (wanted_none rfl) (exec_move rfl rfl) ?_
    simp only [zz]
    refine wpList_run (v := .int .i64 (j : Int)) rfl (exec_move rfl rfl) ?_
    simp only [zz]
    refine wpList_run (v := .bool true) rfl (ix_lss rfl rfl rfl (decide_eq_true (by omega))) ?_
    simp only [zz]
    refine wpList_run (v := .bool true) (wanted_none rfl) (ix_pickT rfl rfl rfl) ?_
    simp only [zz]
    obtain ⟨v, hv⟩ : ∃ v, vs[j]? = some v := ⟨_, List.getElem?_eq_getElem (by rw [HL.out.len]; omega)⟩
    obtain ⟨g0, o0, rfl, hcell⟩ := (HL.out.still HTR.out).at_ hv
    have HLS := Lib.hid ((HL.out.still HTR.out).ok v (List.mem_of_getElem? hv))
    have HLW := Lib.hid (HL.out.ok v (List.mem_of_getElem? hv))
    have HCW := Lib.hid (show ∀ W : World, Turn nowhere w W → W.cell? ⟨g0, o0 + j * 1, none⟩ = some (.slice v.A v.n v.c) from fun W h => by
      obtain ⟨g9, o9, e9, hc9⟩ := (HL.out.still h).at_ hv
      injection e9 with e9
      injection e9 with e1 e2
      rw [e1, e2]
      exact hc9)
    clear hv
    go_upto_region 9 with fail
    refine wp_region_lit ?_
    refine wpList_run (v := .pointer (some ⟨xg, 0, none⟩)) (wanted_none rfl) (exec_move rfl rfl) ?_
    simp only [zz]
    refine wpList_run (v := .slice (some ⟨g0, o0, none⟩) n0 c0) (wanted_none rfl) (exec_move rfl rfl) ?_
    simp only [zz]
    refine wpList_run (v := .int .i64 (j : Int)) (wanted_none rfl) (exec_move rfl rfl) ?_
    simp only [zz]
    refine wpList_run (v := .pointer (some ⟨g0, o0 + j * 1, none⟩)) (wanted_none rfl) (gx_iaddr (i := j) (sz := 1) rfl rfl rfl Tryd.underlying30 size_G8 (by omega) rfl) ?_
    simp only [zz]
    refine wpList_run (v := .slice v.A v.n v.c) (wanted_none rfl) (exec_load1 rfl rfl (by kernel_rfl) hcell) ?_
    simp only [zz]
    clear hcell
    refine wpList_op (wanted_none rfl) fun K9 HK9 => ?_
    go_wp2_with fail
    refine (HST.out.append (cap := v.c) HTR.out (by omega) HLS.out).mono ?_
    rintro e w3 ⟨ht, hcase⟩
    have HT3 := Lib.hid ht
    clear ht HLS
    rcases hcase with ⟨rfl, _, hs3⟩ | ⟨e9, he9, rfl, hs3⟩
    · have HS3 := Lib.hid hs3
      clear hs3
      refine HK9.out _ _ ?_
      clear HK9
      try simp only [zz]
      refine wpList_run (v := .tuple #[.int .i64 ((0 + G.length : Nat) : Int), .int .i64 0]) (wanted_none rfl) (exec_move rfl rfl) ?_
      simp only [zz]
      refine wpList_run (v := .int .i64 ((0 + G.length : Nat) : Int)) (wanted_none rfl) (ix_extract rfl rfl rfl) ?_
      simp only [zz]
      refine wpList_run (v := .int .i64 0) (wanted_none rfl) (ix_extract rfl rfl rfl) ?_
      simp only [zz]
      refine wpList_run (v := .int .i64 ((0 + G.length : Nat) : Int)) (wanted_none rfl) (gx_assign rfl rfl) ?_
      simp only [zz]
      refine wpList_run (v := .int .i64 0) (wanted_none rfl) (gx_assign rfl rfl) ?_
      simp only [zz]
      go_upto_region 10 with fail
      refine wp_region_lit ?_
      refine wpList_run (v := .int .i64 0) (wanted_none rfl) (exec_move rfl rfl) ?_
      simp only [zz]
      refine wpList_run (v := .bool true) (wanted_none rfl) (ix_eql rfl rfl rfl (by decide)) ?_
      simp only [zz]
      go_upto_region 11 with fail
      refine wp_region_lit ?_
      refine wpList_run (v := .pointer (some ⟨b, 0, none⟩)) (wanted_none rfl) (exec_move rfl rfl) ?_
      simp only [zz]
      refine wpList_run (v := .slice (some ⟨g0, o0, none⟩) n0 c0) (wanted_none rfl) (exec_move rfl rfl) ?_
      simp only [zz]
      refine wpList_run (v := .int .i64 (j : Int)) (wanted_none rfl) (exec_move rfl rfl) ?_
      simp only [zz]
      refine wpList_run (v := .pointer (some ⟨g0, o0 + j * 1, none⟩)) (wanted_none rfl) (gx_iaddr (i := j) (sz := 1) rfl rfl rfl Tryd.underlying30 size_G8 (by omega) rfl) ?_
      simp only [zz]
      refine wpList_run (v := .slice v.A v.n v.c) (wanted_none rfl) (exec_load1 rfl rfl (by kernel_rfl) (HCW.out _ HT3.out)) ?_
      simp only [zz]
      refine wpList_op rfl fun K9 HK9 => ?_
      go_wp2_with fail
      refine (HS3.out.with_ (cap := v.c) HT3.out (HLW.out.still HT3.out) (by have := HGL.out; omega)).mono ?_
      rintro e w4 ⟨ht, b4, rfl, hs4⟩
      refine HK9.out _ _ ?_
      clear HK9
      try simp only [zz]
      have HT4 := Lib.hid ht
      have HS4 := Lib.hid hs4
      clear ht hs4
      refine wpList_run (v := .pointer (some ⟨b4, 0, none⟩)) (wanted_none rfl) (gx_assign rfl rfl) ?_
      simp only [zz]
      go_upto_region 8 with fail
      refine wp_region_lit ?_
      refine wpList_run (v := .int .i64 (j : Int)) (wanted_none rfl) (exec_move rfl rfl) ?_
      simp only [zz]
      refine wpList_run (v := .int .i64 ((j + 1 : Nat) : Int)) (wanted_none rfl) (ix_add rfl rfl rfl (by omega) (by omega)) ?_
      simp only [zz]
      refine wpList_run (v := .int .i64 ((j + 1 : Nat) : Int)) (wanted_none rfl) (gx_assign rfl rfl) ?_
      simp only [zz]
      go_wp2_with fail
      go_roundg (gk - 1)
      case measure => have := HGK.out; omega
      case rel => exact ⟨j + 1, b4, G ++ [v.l], rfl, rfl, by have := HGK.out; omega, HT4.out, HS4.out.mono (by omega), by rw [List.length_append]; show G.length + 1 ≤ _; have := HGL.out; omega⟩
    · have HS3 := Lib.hid hs3
      have HE9 := Lib.hid (show e9 ≠ 0 from by omega)
      clear hs3 he9
      refine HK9.out _ _ ?_
      clear HK9
      try simp only [zz]
      refine wpList_run (v := .tuple #[.int .i64 0, .int .i64 e9]) (wanted_none rfl) (exec_move rfl rfl) ?_
      simp only [zz]
      refine wpList_run (v := .int .i64 0) (wanted_none rfl) (ix_extract rfl rfl rfl) ?_
      simp only [zz]
      refine wpList_run (v := .int .i64 e9) (wanted_none rfl) (ix_extract rfl rfl rfl) ?_
      simp only [zz]
      refine wpList_run (v := .int .i64 0) (wanted_none rfl) (gx_assign rfl rfl) ?_
      simp only [zz]
      refine wpList_run (v := .int .i64 e9) (wanted_none rfl) (gx_assign rfl rfl) ?_
      simp only [zz]
      go_upto_region 10 with fail
      refine wp_region_lit ?_
      refine wpList_run (v := .int .i64 e9) (wanted_none rfl) (exec_move rfl rfl) ?_
      simp only [zz]
      refine wpList_run (v := .bool false) (wanted_none rfl) (ix_eql rfl rfl rfl (decide_eq_false HE9.out)) ?_
      simp only [zz]
      go_upto_region 8 with fail
      refine wp_region_lit ?_
      refine wpList_run (v := .int .i64 (j : Int)) (wanted_none rfl) (exec_move rfl rfl) ?_
      simp only [zz]
      refine wpList_run (v := .int .i64 ((j + 1 : Nat) : Int)) (wanted_none rfl) (ix_add rfl rfl rfl (by omega) (by omega)) ?_
      simp only [zz]
      refine wpList_run (v := .int .i64 ((j + 1 : Nat) : Int)) (wanted_none rfl) (gx_assign rfl rfl) ?_
      simp only [zz]
      go_wp2_with fail
      go_roundg (gk - 1)
      case measure => have := HGK.out; omega
      case rel => exact ⟨j + 1, b, G, rfl, rfl, by have := HGK.out; omega, HT3.out, HS3.out.mono (by omega), by have := HGL.out; omega⟩
  · have HCL := Lib.hid ((HST.out.closed).mono (show 2 * j ≤ 20 + 3 * 0 by omega))
    have HG8 := Lib.hid (show G.length ≤ 8 from by have := HGL.out; omega)
    by_cases hn : j < n0
    · as_aux_lemma =>
        go_upto_region 7 with fail
        refine wp_region_lit ?_
        refine wpList_run (v := .int .i64 (j : Int)) (wanted_none rfl) (exec_move rfl rfl) ?_
        simp only [zz]
        refine wpList_run (v := .slice A0 n0 c0) (wanted_none rfl) (exec_move rfl rfl) ?_
        simp only [zz]
        refine wpList_run (v := .int .i64 (n0 : Int)) (wanted_none rfl) (gx_len rfl rfl Tryd.underlying30) ?_
        simp only [zz]
        refine wpList_run (v := .bool true) (wanted_none rfl) (ix_lss rfl rfl rfl (decide_eq_true (by omega))) ?_
        simp only [zz]
        refine wpList_run (v := .bool true) (wanted_none rfl) (exec_move rfl rfl) ?_
        simp only [zz]
        refine wpList_run (v := .int .i64 (j : Int)) rfl (exec_move rfl rfl) ?_
        simp only [zz]
        refine wpList_run (v := .bool false) rfl (ix_lss rfl rfl rfl (decide_eq_false (by omega))) ?_
        simp only [zz]
        refine wpList_run (v := .bool false) (wanted_none rfl) (ix_pickT rfl rfl rfl) ?_
        simp only [zz]
        clear hlt hn HST HGL HGK
        go_upto_region 12 with fail
        refine wp_region_lit ?_
        refine wpList_run (v := .int .i64 0) (wanted_none rfl) (gx_assign rfl rfl) ?_
        simp only [zz]
        obtain ⟨m2, hm⟩ : ∃ m, m = min n1 12 := ⟨_, rfl⟩
        have ym2 : m2 ≤ 12 ∧ m2 ≤ n1 ∧ (m2 = n1 ∨ m2 = 12) := by omega
        clear hm
        go_wp2_with fail
        go_loopg [14] m2 (fun gk iv wr => ∃ i : Nat, iv = .int .i64 (i : Int) ∧ i + gk = m2 ∧ Turn nowhere w wr ∧ Cl w wr p b 7 450 0 (20 + 3 * i) G G (fun z => z < 0))
        case atStart => exact ⟨0, rfl, by omega, HTR.out, HCL.out⟩
        clear HTR HCL
        obtain ⟨i, rfl, hgk2, htr, hcl⟩ := hrel
        have HGK2 := Lib.hid hgk2
        have HTR := Lib.hid htr
        have HCL := Lib.hid hcl
        have yi : i ≤ m2 := by omega
        clear hgk2 htr hcl
        by_cases hlt : i < m2
        · go_upto_region 13 with fail
          refine wp_region_lit ?_
          refine wpList_run (v := .int .i64 (i : Int)) (wanted_none rfl) (exec_move rfl rfl) ?_
          simp only [zz]
          refine wpList_run (v := .slice A1 n1 c1) (wanted_none rfl) (exec_move rfl rfl) ?_
          simp only [zz]
          refine wpList_run (v := .int .i64 (n1 : Int)) (wanted_none rfl) (gx_len rfl rfl Tryd.underlying66) ?_
          simp only [zz]
          refine wpList_run (v := .bool true) (wanted_none rfl) (ix_lss rfl rfl rfl (decide_eq_true (by omega))) ?_
          simp only [zz]
          refine wpList_run (v := .bool true) (wanted_none rfl) (exec_move rfl rfl) ?_
          simp only [zz]
          refine wpList_run (v := .int .i64 (i : Int)) rfl (exec_move rfl rfl) ?_
          simp only [zz]
          refine wpList_run (v := .bool true) rfl (ix_lss rfl rfl rfl (decide_eq_true (by omega))) ?_
          simp only [zz]
          refine wpList_run (v := .bool true) (wanted_none rfl) (ix_pickT rfl rfl rfl) ?_
          simp only [zz]
          obtain ⟨v2, hv⟩ : ∃ v, ks[i]? = some v := ⟨_, List.getElem?_eq_getElem (by rw [HK.out.len]; omega)⟩
          have HKS := Lib.hid (HK.out.ok v2 (List.mem_of_getElem? hv))
          obtain ⟨g2, o2, hA2, _⟩ := HK.out.at_ hv
          have HCK := Lib.hid (show ∀ W : World, Turn nowhere w W → W.cell? ⟨g2, o2 + i * 1, none⟩ = some (.slice v2.A v2.n v2.c) from fun W h => by
            obtain ⟨g9, o9, e9, hc9⟩ := (HK.out.still h).at_ hv
            rw [hA2] at e9
            injection e9 with e9
            injection e9 with e1 e2
            rw [e1, e2]
            exact hc9)
          subst hA2
          clear hv
          have hai := among_in (c := fu) (n := 4) (by omega)
          have HAI := Lib.hid hai
          clear hai
          obtain ⟨am, ham⟩ : ∃ z, z = amongI fu 4 := ⟨_, rfl⟩
          have HAM := Lib.hid ham
          rw [← ham] at HAI
          have yam := HAI.out
          clear ham
          go_upto_region 15 with fail
          refine wp_region_lit ?_
          refine wpList_run (v := .pointer (some ⟨p, 0, none⟩)) (wanted_none rfl) (exec_move rfl rfl) ?_
          simp only [zz]
          refine wpList_run (v := .int .i64 fu) (wanted_none rfl) (exec_move rfl rfl) ?_
          simp only [zz]
          refine wpList_op rfl fun K9 HK9 => ?_
          go_wp2_with fail
          refine (among_walk fu 4 yf (by omega)).mono ?_
          rintro e wr ⟨rfl, rfl⟩
          refine HK9.out _ _ ?_
          clear HK9
          try simp only [zz]
          rw [← HAM.out]
          refine wpList_run (v := .int .i64 (am - 1)) (wanted_none rfl) (ix_sub rfl rfl rfl rfl (by omega)) ?_
          simp only [zz]
          refine wpList_op rfl fun K9 HK9 => ?_
          go_wp2_with fail
          refine (HCL.out.fuse (ψ := fun _ => True) HTR.out (am - 1) (by omega) trivial).mono ?_
          rintro e w4 ⟨rfl, ht, hc⟩
          refine HK9.out _ _ ?_
          clear HK9
          try simp only [zz]
          have HT4 := Lib.hid ht
          have HC4 := Lib.hid hc
          clear ht hc
          go_upto_region 16 with fail
          refine wp_region_lit ?_
          refine wpList_run (v := .pointer (some ⟨p, 0, none⟩)) (wanted_none rfl) (exec_move rfl rfl) ?_
          simp only [zz]
          refine wpList_op rfl fun K9 HK9 => ?_
          go_wp2_with fail
          refine (HC4.out.open_any HT4.out (by omega) (by decide) (by decide)).mono ?_
          rintro e w5 ⟨⟨u5, rfl⟩, ht, hc⟩
          refine HK9.out _ _ ?_
          clear HK9
          try simp only [zz]
          have HT5 := Lib.hid ht
          have HC5 := Lib.hid hc
          clear ht hc
          go_upto_region 17 with fail
          refine wp_region_lit ?_
          refine wpList_run (v := .pointer (some ⟨p, 0, none⟩)) (wanted_none rfl) (exec_move rfl rfl) ?_
          simp only [zz]
          refine wpList_run (v := .slice (some ⟨g2, o2, none⟩) n1 c1) (wanted_none rfl) (exec_move rfl rfl) ?_
          simp only [zz]
          refine wpList_run (v := .int .i64 (i : Int)) (wanted_none rfl) (exec_move rfl rfl) ?_
          simp only [zz]
          refine wpList_run (v := .pointer (some ⟨g2, o2 + i * 1, none⟩)) (wanted_none rfl) (gx_iaddr (i := i) (sz := 1) rfl rfl rfl Tryd.underlying66 size_I1 (by omega) rfl) ?_
          simp only [zz]
          refine wpList_run (v := .slice v2.A v2.n v2.c) (wanted_none rfl) (exec_load1 rfl rfl (by kernel_rfl) (HCK.out _ HT5.out)) ?_
          simp only [zz]
          refine wpList_op rfl fun K9 HK9 => ?_
          go_wp2_with fail
          refine (HC5.out.boot (c := v2.c) HT5.out (by omega) HKS.out).mono ?_
          rintro e w6 ⟨rfl, ht, hc⟩
          refine HK9.out _ _ ?_
          clear HK9
          try simp only [zz]
          have HT6 := Lib.hid ht
          have HC6 := Lib.hid hc
          clear ht hc
          go_upto_region 18 with fail
          refine wp_region_lit ?_
          refine wpList_run (v := .pointer (some ⟨p, 0, none⟩)) (wanted_none rfl) (exec_move rfl rfl) ?_
          simp only [zz]
          refine wpList_op rfl fun K9 HK9 => ?_
          go_wp2_with fail
          refine (HC6.out.open_ HT6.out (by omega) (by decide) (by decide)).mono ?_
          rintro e w7 ⟨ht, x7, rfl, hs⟩
          refine HK9.out _ _ ?_
          clear HK9
          try simp only [zz]
          have HT7 := Lib.hid ht
          have HS7 := Lib.hid hs
          clear ht hs
          refine wpList_run (v := .tuple #[.pointer (some ⟨x7, 0, none⟩), .int .i64 0]) (wanted_none rfl) (exec_move rfl rfl) ?_
          simp only [zz]
          refine wpList_run (v := .pointer (some ⟨x7, 0, none⟩)) (wanted_none rfl) (ix_extract rfl rfl rfl) ?_
          simp only [zz]
          refine wpList_run (v := .int .i64 0) (wanted_none rfl) (ix_extract rfl rfl rfl) ?_
          simp only [zz]
          refine wpList_run (v := .pointer (some ⟨x7, 0, none⟩)) (wanted_none rfl) (gx_assign rfl rfl) ?_
          simp only [zz]
          refine wpList_run (v := .int .i64 0) (wanted_none rfl) (gx_assign rfl rfl) ?_
          simp only [zz]
          go_upto_region 19 with fail
          refine wp_region_lit ?_
          refine wpList_run (v := .pointer (some ⟨x7, 0, none⟩)) (wanted_none rfl) (exec_move rfl rfl) ?_
          simp only [zz]
          refine wpList_run (v := .bool false) (wanted_none rfl) (ptr_nilW rfl rfl rfl rfl) ?_
          simp only [zz]
          refine wpList_run (v := .bool false) (wanted_none rfl) (exec_move rfl rfl) ?_
          simp only [zz]
          refine wpList_run (v := .int .i64 0) rfl (exec_move rfl rfl) ?_
          simp only [zz]
          refine wpList_run (v := .bool false) rfl (ix_neq rfl rfl rfl (by decide)) ?_
          simp only [zz]
          refine wpList_run (v := .bool false) (wanted_none rfl) (ix_pickF rfl rfl rfl) ?_
          simp only [zz]
          go_upto_region 21 with fail
          refine wp_region_lit ?_
          refine wpList_run (v := .pointer (some ⟨b, 0, none⟩)) (wanted_none rfl) (exec_move rfl rfl) ?_
          simp only [zz]
          refine wpList_run (v := .pointer (some ⟨x7, 0, none⟩)) (wanted_none rfl) (exec_move rfl rfl) ?_
          simp only [zz]
          refine wpList_op rfl fun K9 HK9 => ?_
          go_wp2_with fail
          refine (HS7.out.like (by omega) (by have := HG8.out; omega)).mono ?_
          rintro e w8 ⟨rfl, ht⟩
          refine HK9.out _ _ ?_
          clear HK9
          try simp only [zz]
          try rw [decide_eq_true (rfl : G = G)]
          have HT8 := Lib.hid (HT7.out.trans ht fun _ _ e => e)
          have HC8 := Lib.hid (((HS7.out.still ht).closed).mono (show 20 + 3 * i + 1 + 1 ≤ 20 + 3 * (i + 1) by omega))
          clear ht
          refine wpList_run (v := .bool true) (wanted_none rfl) (gx_assign rfl rfl) ?_
          simp only [zz]
          go_upto_region 22 with fail
          refine wp_region_lit ?_
          refine wpList_run (v := .bool true) (wanted_none rfl) (exec_move rfl rfl) ?_
          simp only [zz]
          refine wpList_run (v := .bool false) (wanted_none rfl) (ix_not (b := true) rfl rfl) ?_
          simp only [zz]
          go_upto_region 14 with fail
          refine wp_region_lit ?_
          refine wpList_run (v := .int .i64 (i : Int)) (wanted_none rfl) (exec_move rfl rfl) ?_
          simp only [zz]
          refine wpList_run (v := .int .i64 ((i + 1 : Nat) : Int)) (wanted_none rfl) (ix_add rfl rfl rfl (by omega) (by omega)) ?_
          simp only [zz]
          refine wpList_run (v := .int .i64 ((i + 1 : Nat) : Int)) (wanted_none rfl) (gx_assign rfl rfl) ?_
          simp only [zz]
          go_wp2_with fail
          go_roundg (gk - 1)
          case measure => have := HGK2.out; omega
          case rel => exact ⟨i + 1, rfl, by have := HGK2.out; omega, HT8.out, HC8.out⟩
        · by_cases hn : i < n1
          · go_upto_region 13 with fail
            refine wp_region_lit ?_
            refine wpList_run (v := .int .i64 (i : Int)) (wanted_none rfl) (exec_move rfl rfl) ?_
            simp only [zz]
            refine wpList_run (v := .slice A1 n1 c1) (wanted_none rfl) (exec_move rfl rfl) ?_
            simp only [zz]
            refine wpList_run (v := .int .i64 (n1 : Int)) (wanted_none rfl) (gx_len rfl rfl Tryd.underlying66) ?_
            simp only [zz]
            refine wpList_run (v := .bool true) (wanted_none rfl) (ix_lss rfl rfl rfl (decide_eq_true (by omega))) ?_
            simp only [zz]
            refine wpList_run (v := .bool true) (wanted_none rfl) (exec_move rfl rfl) ?_
            simp only [zz]
            refine wpList_run (v := .int .i64 (i : Int)) rfl (exec_move rfl rfl) ?_
            simp only [zz]
            refine wpList_run (v := .bool false) rfl (ix_lss rfl rfl rfl (decide_eq_false (by omega))) ?_
            simp only [zz]
            refine wpList_run (v := .bool false) (wanted_none rfl) (ix_pickT rfl rfl rfl) ?_
            simp only [zz]
            go_upto_region 24 with fail
            refine wp_region_lit ?_
            refine wpList_run (v := .bool true) (wanted_none rfl) (gx_assign rfl rfl) ?_
            simp only [zz]
            go_wp2_with fail
            go_ret
            exact ⟨rfl, HTR.out⟩
          · go_upto_region 13 with fail
            refine wp_region_lit ?_
            refine wpList_run (v := .int .i64 (i : Int)) (wanted_none rfl) (exec_move rfl rfl) ?_
            simp only [zz]
            refine wpList_run (v := .slice A1 n1 c1) (wanted_none rfl) (exec_move rfl rfl) ?_
            simp only [zz]
            refine wpList_run (v := .int .i64 (n1 : Int)) (wanted_none rfl) (gx_len rfl rfl Tryd.underlying66) ?_
            simp only [zz]
            refine wpList_run (v := .bool false) (wanted_none rfl) (ix_lss rfl rfl rfl (decide_eq_false (by omega))) ?_
            simp only [zz]
            refine wpList_run (v := .bool false) (wanted_none rfl) (exec_move rfl rfl) ?_
            simp only [zz]
            refine wpList_skip (by go_simp) ?_
            simp only [zz]
            refine wpList_skip (by go_simp) ?_
            simp only [zz]
            refine wpList_run (v := .bool false) (wanted_none rfl) (ix_pickF rfl rfl rfl) ?_
            simp only [zz]
            go_upto_region 24 with fail
            refine wp_region_lit ?_
            refine wpList_run (v := .bool true) (wanted_none rfl) (gx_assign rfl rfl) ?_
            simp only [zz]
            go_wp2_with fail
            go_ret
            exact ⟨rfl, HTR.out⟩
    · as_aux_lemma =>
        go_upto_region 7 with fail
        refine wp_region_lit ?_
        refine wpList_run (v := .int .i64 (j : Int)) (wanted_none rfl) (exec_move rfl rfl) ?_
        simp only [zz]
        refine wpList_run (v := .slice A0 n0 c0) (wanted_none rfl) (exec_move rfl rfl) ?_
        simp only [zz]
        refine wpList_run (v := .int .i64 (n0 : Int)) (wanted_none rfl) (gx_len rfl rfl Tryd.underlying30) ?_
        simp only [zz]
        refine wpList_run (v := .bool false) (wanted_none rfl) (ix_lss rfl rfl rfl (decide_eq_false (by omega))) ?_
        simp only [zz]
        refine wpList_run (v := .bool false) (wanted_none rfl) (exec_move rfl rfl) ?_
        simp only [zz]
        refine wpList_skip (by go_simp) ?_
        simp only [zz]
        refine wpList_skip (by go_simp) ?_
        simp only [zz]
        refine wpList_run (v := .bool false) (wanted_none rfl) (ix_pickF rfl rfl rfl) ?_
        simp only [zz]
        clear hlt hn HST HGL HGK
        go_upto_region 12 with fail
        refine wp_region_lit ?_
        refine wpList_run (v := .int .i64 0) (wanted_none rfl) (gx_assign rfl rfl) ?_
        simp only [zz]
        obtain ⟨m2, hm⟩ : ∃ m, m = min n1 12 := ⟨_, rfl⟩
        have ym2 : m2 ≤ 12 ∧ m2 ≤ n1 ∧ (m2 = n1 ∨ m2 = 12) := by omega
        clear hm
        go_wp2_with fail
        go_loopg [14] m2 (fun gk iv wr => ∃ i : Nat, iv = .int .i64 (i : Int) ∧ i + gk = m2 ∧ Turn nowhere w wr ∧ Cl w wr p b 7 450 0 (20 + 3 * i) G G (fun z => z < 0))
        case atStart => exact ⟨0, rfl, by omega, HTR.out, HCL.out⟩
        clear HTR HCL
        obtain ⟨i, rfl, hgk2, htr, hcl⟩ := hrel
        have HGK2 := Lib.hid hgk2
        have HTR := Lib.hid htr
        have HCL := Lib.hid hcl
        have yi : i ≤ m2 := by omega
        clear hgk2 htr hcl
        by_cases hlt : i < m2
        · go_upto_region 13 with fail
          refine wp_region_lit ?_
          refine wpList_run (v := .int .i64 (i : Int)) (wanted_none rfl) (exec_move rfl rfl) ?_
          simp only [zz]
          refine wpList_run (v := .slice A1 n1 c1) (wanted_none rfl) (exec_move rfl rfl) ?_
          simp only [zz]
          refine wpList_run (v := .int .i64 (n1 : Int)) (wanted_none rfl) (gx_len rfl rfl Tryd.underlying66) ?_
          simp only [zz]
          refine wpList_run (v := .bool true) (wanted_none rfl) (ix_lss rfl rfl rfl (decide_eq_true (by omega))) ?_
          simp only [zz]
          refine wpList_run (v := .bool true) (wanted_none rfl) (exec_move rfl rfl) ?_
          simp only [zz]
          refine wpList_run (v := .int .i64 (i : Int)) rfl (exec_move rfl rfl) ?_
          simp only [zz]
          refine wpList_run (v := .bool true) rfl (ix_lss rfl rfl rfl (decide_eq_true (by omega))) ?_
          simp only [zz]
          refine wpList_run (v := .bool true) (wanted_none rfl) (ix_pickT rfl rfl rfl) ?_
          simp only [zz]
          obtain ⟨v2, hv⟩ : ∃ v, ks[i]? = some v := ⟨_, List.getElem?_eq_getElem (by rw [HK.out.len]; omega)⟩
          have HKS := Lib.hid (HK.out.ok v2 (List.mem_of_getElem? hv))
          obtain ⟨g2, o2, hA2, _⟩ := HK.out.at_ hv
          have HCK := Lib.hid (show ∀ W : World, Turn nowhere w W → W.cell? ⟨g2, o2 + i * 1, none⟩ = some (.slice v2.A v2.n v2.c) from fun W h => by
            obtain ⟨g9, o9, e9, hc9⟩ := (HK.out.still h).at_ hv
            rw [hA2] at e9
            injection e9 with e9
            injection e9 with e1 e2
            rw [e1, e2]
            exact hc9)
          subst hA2
          clear hv
          have hai := among_in (c := fu) (n := 4) (by omega)
          have HAI := Lib.hid hai
          clear hai
          obtain ⟨am, ham⟩ : ∃ z, z = amongI fu 4 := ⟨_, rfl⟩
          have HAM := Lib.hid ham
          rw [← ham] at HAI
          have yam := HAI.out
          clear ham
          go_upto_region 15 with fail
          refine wp_region_lit ?_
          refine wpList_run (v := .pointer (some ⟨p, 0, none⟩)) (wanted_none rfl) (exec_move rfl rfl) ?_
          simp only [zz]
          refine wpList_run (v := .int .i64 fu) (wanted_none rfl) (exec_move rfl rfl) ?_
          simp only [zz]
          refine wpList_op rfl fun K9 HK9 => ?_
          go_wp2_with fail
          refine (among_walk fu 4 yf (by omega)).mono ?_
          rintro e wr ⟨rfl, rfl⟩
          refine HK9.out _ _ ?_
          clear HK9
          try simp only [zz]
          rw [← HAM.out]
          refine wpList_run (v := .int .i64 (am - 1)) (wanted_none rfl) (ix_sub rfl rfl rfl rfl (by omega)) ?_
          simp only [zz]
          refine wpList_op rfl fun K9 HK9 => ?_
          go_wp2_with fail
          refine (HCL.out.fuse (ψ := fun _ => True) HTR.out (am - 1) (by omega) trivial).mono ?_
          rintro e w4 ⟨rfl, ht, hc⟩
          refine HK9.out _ _ ?_
          clear HK9
          try simp only [zz]
          have HT4 := Lib.hid ht
          have HC4 := Lib.hid hc
          clear ht hc
          go_upto_region 16 with fail
          refine wp_region_lit ?_
          refine wpList_run (v := .pointer (some ⟨p, 0, none⟩)) (wanted_none rfl) (exec_move rfl rfl) ?_
          simp only [zz]
          refine wpList_op rfl fun K9 HK9 => ?_
          go_wp2_with fail
          refine (HC4.out.open_any HT4.out (by omega) (by decide) (by decide)).mono ?_
          rintro e w5 ⟨⟨u5, rfl⟩, ht, hc⟩
          refine HK9.out _ _ ?_
          clear HK9
          try simp only [zz]
          have HT5 := Lib.hid ht
          have HC5 := Lib.hid hc
          clear ht hc
          go_upto_region 17 with fail
          refine wp_region_lit ?_
          refine wpList_run (v := .pointer (some ⟨p, 0, none⟩)) (wanted_none rfl) (exec_move rfl rfl) ?_
          simp only [zz]
          refine wpList_run (v := .slice (some ⟨g2, o2, none⟩) n1 c1) (wanted_none rfl) (exec_move rfl rfl) ?_
          simp only [zz]
          refine wpList_run (v := .int .i64 (i : Int)) (wanted_none rfl) (exec_move rfl rfl) ?_
          simp only [zz]
          refine wpList_run (v := .pointer (some ⟨g2, o2 + i * 1, none⟩)) (wanted_none rfl) (gx_iaddr (i := i) (sz := 1) rfl rfl rfl Tryd.underlying66 size_I1 (by omega) rfl) ?_
          simp only [zz]
          refine wpList_run (v := .slice v2.A v2.n v2.c) (wanted_none rfl) (exec_load1 rfl rfl (by kernel_rfl) (HCK.out _ HT5.out)) ?_
          simp only [zz]
          refine wpList_op rfl fun K9 HK9 => ?_
          go_wp2_with fail
          refine (HC5.out.boot (c := v2.c) HT5.out (by omega) HKS.out).mono ?_
          rintro e w6 ⟨rfl, ht, hc⟩
          refine HK9.out _ _ ?_
          clear HK9
          try simp only [zz]
          have HT6 := Lib.hid ht
          have HC6 := Lib.hid hc
          clear ht hc
          go_upto_region 18 with fail
          refine wp_region_lit ?_
          refine wpList_run (v := .pointer (some ⟨p, 0, none⟩)) (wanted_none rfl) (exec_move rfl rfl) ?_
          simp only [zz]
          refine wpList_op rfl fun K9 HK9 => ?_
          go_wp2_with fail
          refine (HC6.out.open_ HT6.out (by omega) (by decide) (by decide)).mono ?_
          rintro e w7 ⟨ht, x7, rfl, hs⟩
          refine HK9.out _ _ ?_
          clear HK9
          try simp only [zz]
          have HT7 := Lib.hid ht
          have HS7 := Lib.hid hs
          clear ht hs
          refine wpList_run (v := .tuple #[.pointer (some ⟨x7, 0, none⟩), .int .i64 0]) (wanted_none rfl) (exec_move rfl rfl) ?_
          simp only [zz]
          refine wpList_run (v := .pointer (some ⟨x7, 0, none⟩)) (wanted_none rfl) (ix_extract rfl rfl rfl) ?_
          simp only [zz]
          refine wpList_run (v := .int .i64 0) (wanted_none rfl) (ix_extract rfl rfl rfl) ?_
          simp only [zz]
          refine wpList_run (v := .pointer (some ⟨x7, 0, none⟩)) (wanted_none rfl) (gx_assign rfl rfl) ?_
          simp only [zz]
          refine wpList_run (v := .int .i64 0) (wanted_none rfl) (gx_assign rfl rfl) ?_
          simp only [zz]
          go_upto_region 19 with fail
          refine wp_region_lit ?_
          refine wpList_run (v := .pointer (some ⟨x7, 0, none⟩)) (wanted_none rfl) (exec_move rfl rfl) ?_
          simp only [zz]
          refine wpList_run (v := .bool false) (wanted_none rfl) (ptr_nilW rfl rfl rfl rfl) ?_
          simp only [zz]
          refine wpList_run (v := .bool false) (wanted_none rfl) (exec_move rfl rfl) ?_
          simp only [zz]
          refine wpList_run (v := .int .i64 0) rfl (exec_move rfl rfl) ?_
          simp only [zz]
          refine wpList_run (v := .bool false) rfl (ix_neq rfl rfl rfl (by decide)) ?_
          simp only [zz]
          refine wpList_run (v := .bool false) (wanted_none rfl) (ix_pickF rfl rfl rfl) ?_
          simp only [zz]
          go_upto_region 21 with fail
          refine wp_region_lit ?_
          refine wpList_run (v := .pointer (some ⟨b, 0, none⟩)) (wanted_none rfl) (exec_move rfl rfl) ?_
          simp only [zz]
          refine wpList_run (v := .pointer (some ⟨x7, 0, none⟩)) (wanted_none rfl) (exec_move rfl rfl) ?_
          simp only [zz]
          refine wpList_op rfl fun K9 HK9 => ?_
          go_wp2_with fail
          refine (HS7.out.like (by omega) (by have := HG8.out; omega)).mono ?_
          rintro e w8 ⟨rfl, ht⟩
          refine HK9.out _ _ ?_
          clear HK9
          try simp only [zz]
          try rw [decide_eq_true (rfl : G = G)]
          have HT8 := Lib.hid (HT7.out.trans ht fun _ _ e => e)
          have HC8 := Lib.hid (((HS7.out.still ht).closed).mono (show 20 + 3 * i + 1 + 1 ≤ 20 + 3 * (i + 1) by omega))
          clear ht
          refine wpList_run (v := .bool true) (wanted_none rfl) (gx_assign rfl rfl) ?_
          simp only [zz]
          go_upto_region 22 with fail
          refine wp_region_lit ?_
          refine wpList_run (v := .bool true) (wanted_none rfl) (exec_move rfl rfl) ?_
          simp only [zz]
          refine wpList_run (v := .bool false) (wanted_none rfl) (ix_not (b := true) rfl rfl) ?_
          simp only [zz]
          go_upto_region 14 with fail
          refine wp_region_lit ?_
          refine wpList_run (v := .int .i64 (i : Int)) (wanted_none rfl) (exec_move rfl rfl) ?_
          simp only [zz]
          refine wpList_run (v := .int .i64 ((i + 1 : Nat) : Int)) (wanted_none rfl) (ix_add rfl rfl rfl (by omega) (by omega)) ?_
          simp only [zz]
          refine wpList_run (v := .int .i64 ((i + 1 : Nat) : Int)) (wanted_none rfl) (gx_assign rfl rfl) ?_
          simp only [zz]
          go_wp2_with fail
          go_roundg (gk - 1)
          case measure => have := HGK2.out; omega
          case rel => exact ⟨i + 1, rfl, by have := HGK2.out; omega, HT8.out, HC8.out⟩
        · by_cases hn : i < n1
          · go_upto_region 13 with fail
            refine wp_region_lit ?_
            refine wpList_run (v := .int .i64 (i : Int)) (wanted_none rfl) (exec_move rfl rfl) ?_
            simp only [zz]
            refine wpList_run (v := .slice A1 n1 c1) (wanted_none rfl) (exec_move rfl rfl) ?_
            simp only [zz]
            refine wpList_run (v := .int .i64 (n1 : Int)) (wanted_none rfl) (gx_len rfl rfl Tryd.underlying66) ?_
            simp only [zz]
            refine wpList_run (v := .bool true) (wanted_none rfl) (ix_lss rfl rfl rfl (decide_eq_true (by omega))) ?_
            simp only [zz]
            refine wpList_run (v := .bool true) (wanted_none rfl) (exec_move rfl rfl) ?_
            simp only [zz]
            refine wpList_run (v := .int .i64 (i : Int)) rfl (exec_move rfl rfl) ?_
            simp only [zz]
            refine wpList_run (v := .bool false) rfl (ix_lss rfl rfl rfl (decide_eq_false (by omega))) ?_
            simp only [zz]
            refine wpList_run (v := .bool false) (wanted_none rfl) (ix_pickT rfl rfl rfl) ?_
            simp only [zz]
            go_upto_region 24 with fail
            refine wp_region_lit ?_
            refine wpList_run (v := .bool true) (wanted_none rfl) (gx_assign rfl rfl) ?_
            simp only [zz]
            go_wp2_with fail
            go_ret
            exact ⟨rfl, HTR.out⟩
          · go_upto_region 13 with fail
            refine wp_region_lit ?_
            refine wpList_run (v := .int .i64 (i : Int)) (wanted_none rfl) (exec_move rfl rfl) ?_
            simp only [zz]
            refine wpList_run (v := .slice A1 n1 c1) (wanted_none rfl) (exec_move rfl rfl) ?_
            simp only [zz]
            refine wpList_run (v := .int .i64 (n1 : Int)) (wanted_none rfl) (gx_len rfl rfl Tryd.underlying66) ?_
            simp only [zz]
            refine wpList_run (v := .bool false) (wanted_none rfl) (ix_lss rfl rfl rfl (decide_eq_false (by omega))) ?_
            simp only [zz]
            refine wpList_run (v := .bool false) (wanted_none rfl) (exec_move rfl rfl) ?_
            simp only [zz]
            refine wpList_skip (by go_simp) ?_
            simp only [zz]
            refine wpList_skip (by go_simp) ?_
            simp only [zz]
            refine wpList_run (v := .bool false) (wanted_none rfl) (ix_pickF rfl rfl rfl) ?_
            simp only [zz]
            go_upto_region 24 with fail
            refine wp_region_lit ?_
            refine wpList_run (v := .bool true) (wanted_none rfl) (gx_assign rfl rfl) ?_
            simp only [zz]
            go_wp2_with fail
            go_ret
            exact ⟨rfl, HTR.out⟩
theorem walTwice_walk (A0 : Option Addr) (n0 c0 : Nat) (vs : List LtV) (A1 : Option Addr) (n1 c1 : Nat) (ks : List IrV) (fu : Int) (w : World) (h0 : LtsAt w A0 n0 vs) (h1 : IrsAt w A1 n1 ks) (hf : -9223372036854775808 ≤ fu ∧ fu ≤ 9223372036854775807) (htab : Tab w) :
    Calls Tryd.prog 8 #[.slice A0 n0 c0, .slice A1 n1 c1, .int .i64 fu] w fun r w' => r = .returned (.bool true) ∧ Below w.heap.size w w' :=
  (walTwice_main A0 n0 c0 vs A1 n1 c1 ks fu w h0 h1 hf htab).mono fun r w' ⟨h1, h2⟩ => ⟨h1, h2.below (Nat.le_refl _) fun _ _ e => e⟩
end Go.Proofs.YtbfeejkdlhdioaaDoor
