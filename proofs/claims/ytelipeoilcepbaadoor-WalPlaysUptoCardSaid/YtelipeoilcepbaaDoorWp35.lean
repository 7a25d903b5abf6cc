/-
  Texts in one file: WmBD Rwo Rwn KsB IrOf WmTwA. Conditions: the tables and the errors read as the program's text lays them.
-/
import Derived.Test.YtelipeoilcepbaaDoorWp34
import Derived.Test.YtelipeoilcepbaaDoorWp32
import Derived.Test.YtelipeoilcepbaaDoorWp0
import Derived.Test.YtelipeoilcepbaaDoorWp12
import Derived.Test.YtelipeoilcepbaaDoorWp7
namespace Go.Proofs.YtelipeoilcepbaaDoor
open Go.RowKit
open Wl (B8)
set_option linter.unusedVariables false
set_option linter.unusedSimpArgs false
set_option maxRecDepth 20000
theorem take_ne {L G : List Wl.Rec} {i : Nat} {x y : Wl.Rec} (h1 : L[i]? = some x) (h2 : G[i]? = some y) (hne : x ≠ y) : L ≠ G := fun e => by
  rw [e, h2] at h1
  exact hne (Option.some.inj h1).symm
theorem take_snoc2 {L G : List Wl.Rec} {i : Nat} {x : Wl.Rec} (h : L.take i = G.take i) (h1 : L[i]? = some x) (h2 : G[i]? = some x) : L.take (i + 1) = G.take (i + 1) := by
  rw [List.take_add_one, List.take_add_one, h1, h2, h]
set_option maxRecDepth 20000 in
set_option maxHeartbeats 4000000 in
theorem like_walk {w : World} {x p i : Nat} {F : Nat → Prop} {s : AP} {K : Nat} {d : AD} {S : Nat} {v : WalV} {vP vH : Value} {L : List Wl.Rec} {gs : List Wl.Gp} {b f : Nat} {G : List Wl.Rec} {Z : Nat → Prop} (h : Lg w x p i F s K d S v vP vH L gs) (hb : Bk w b f G Z) (hn : v.first + L.length < 4294967296) (hg : f + G.length < 4294967296) :
    Calls Tryd.prog 19 #[.pointer (some ⟨b, 0, none⟩), .pointer (some ⟨x, 0, none⟩)] w fun r w' => r = .returned (.bool (decide (v.first = f ∧ L = G))) ∧ Turn nowhere w w' := by
  have HLG := Lib.hid h
  have HBK := Lib.hid hb
  have HN := Lib.hid hn
  have y1 := hn
  have y2 := hg
  obtain ⟨u, hbb, hgz, _⟩ := hb
  obtain ⟨A, c, rfl, _⟩ := hgz.len
  have HB := Lib.hid hbb
  have HG := Lib.hid hgz
  have HPN := Lib.hid h.lv.pn
  clear h hn hg hbb hgz
  obtain ⟨m, hm⟩ : ∃ m, m = G.length := ⟨_, rfl⟩
  rw [← hm] at HB HG y2
  have HM := Lib.hid hm
  clear hm
  go_enter Tryd.func19, Tryd.ntmps19
  go_upto_region 0 with fail
  refine wp_region_lit ?_
  refine nR (.bool false) (gx_assign rfl rfl) ?_;simp only [zz]
  go_upto_region 1 with fail
  refine wp_region_alw (fun W => Turn nowhere w W) (by kernel_rfl) ?_
  have hS0 := (Turn.refl nowhere w).drew
  generalize w.drew = wd at *
  refine alw_take (i := 0) (v := .pointer (some ⟨x, 0, none⟩)) rfl (by kernel_rfl) (by kernel_rfl) (fun _ _ _ h => h) (.inl ⟨by rfl, fun W hW => exec_move rfl rfl⟩) hS0 ?_
  simp only [zz]
  refine alw_take (i := 2) (v := .pointer (some ⟨b, 0, none⟩)) rfl (by kernel_rfl) (by kernel_rfl) (fun _ _ _ h => h) (.inl ⟨by rfl, fun W hW => exec_move rfl rfl⟩) hS0 ?_
  simp only [zz]
  refine alw_take (i := 3) (v := .pointer (some ⟨b, 0, none⟩)) rfl (by kernel_rfl) (by kernel_rfl) (fun _ _ _ h => h) (.inl ⟨by rfl, fun W hW => exec_nil rfl rfl⟩) hS0 ?_
  simp only [zz]
  refine alw_take (i := 4) (v := .pointer (some ⟨b, 0, none⟩)) rfl (by kernel_rfl) (by kernel_rfl) (fun _ _ _ h => h) (.inl ⟨by rfl, fun W hW => exec_field (off := 0) (d := 0) rfl rfl (by kernel_rfl)⟩) hS0 ?_
  simp only [zz]
  refine alw_take (i := 5) (v := .int .i64 (f : Int)) rfl (by kernel_rfl) (by kernel_rfl) (fun _ _ _ h => h) (.inl ⟨by rfl, fun W hW => exec_load1 rfl rfl (by kernel_rfl) ((HB.out.turn hW fun e => e).cell 0)⟩) hS0 ?_
  simp only [zz]
  refine alw_step (i := 1) (by kernel_rfl) rfl rfl ?_
  intro K1 HK1
  go_wp2_with fail
  refine (First_walk (HLG.out.still hS0).wb).mono ?_
  rintro e wd ⟨rfl, rfl⟩

  refine HK1.out _ _ ⟨hS0, ?_⟩
  clear HK1
  try simp only [zz]
  by_cases hf : v.first = f
  · have HF := Lib.hid hf
    have y3 : (v.first : Int) = (f : Int) := by omega
    clear hf
    refine alw_take (i := 6) (v := .bool false) rfl (by kernel_rfl) (by kernel_rfl) (fun _ _ _ h => h) (.inl ⟨by rfl, fun W hW => ix_neq rfl rfl rfl (decide_eq_false (by omega))⟩) hS0 ?_
    simp only [zz]
    refine alw_take (i := 7) (v := .bool false) rfl (by kernel_rfl) (by kernel_rfl) (fun _ _ _ h => h) (.inl ⟨by rfl, fun W hW => exec_move rfl rfl⟩) hS0 ?_
    simp only [zz]
    refine alw_take (i := 8) (v := .pointer (some ⟨x, 0, none⟩)) rfl (by kernel_rfl) (by kernel_rfl) (fun _ _ _ h => h) (.inl ⟨by rfl, fun W hW => exec_move rfl rfl⟩) hS0 ?_
    simp only [zz]
    refine alw_take (i := 10) (v := .pointer (some ⟨b, 0, none⟩)) rfl (by kernel_rfl) (by kernel_rfl) (fun _ _ _ h => h) (.inl ⟨by rfl, fun W hW => exec_move rfl rfl⟩) hS0 ?_
    simp only [zz]
    refine alw_step (i := 9) (by kernel_rfl) rfl rfl ?_
    intro K1 HK1
    go_wp2_with fail
    refine (Next_walk (HLG.out.still hS0).wb (by omega)).mono ?_
    rintro e we ⟨rfl, ht⟩
    have hS1 := hS0.trans ht fun _ _ e => e
    clear ht
    refine HK1.out _ _ ⟨hS1, ?_⟩
    clear HK1
    try simp only [zz]
    refine alw_step (i := 11) (by kernel_rfl) rfl rfl ?_
    intro K1 HK1
    go_wp2_with fail
    refine (bnext_walk (HBK.out.still hS1) (by rw [← HM.out]; omega)).mono ?_
    rintro e wf ⟨rfl, ht⟩
    have hS2 := hS1.trans ht fun _ _ e => e
    clear ht
    refine HK1.out _ _ ⟨hS2, ?_⟩
    clear HK1
    try simp only [zz]
    rw [HPN.out, ← HM.out]
    clear hS0 hS1
    have hS0 := hS2
    clear hS2
    by_cases hl : L.length = m
    · have HLL := Lib.hid hl
      have y4 : ((v.first + L.length : Nat) : Int) = ((f + m : Nat) : Int) := by omega
      clear hl
      refine alw_take (i := 12) (v := .bool false) rfl (by kernel_rfl) (by kernel_rfl) (fun _ _ _ h => h) (.inl ⟨by rfl, fun W hW => ix_neq rfl rfl rfl (decide_eq_false (by omega))⟩) hS0 ?_
      simp only [zz]
      refine alw_take (i := 13) (v := .bool false) rfl (by kernel_rfl) (by kernel_rfl) (fun _ _ _ h => h) (.inl ⟨by rfl, fun W hW => ix_pickF rfl rfl rfl⟩) hS0 ?_
      simp only [zz]
      have HT := Lib.hid hS0
      refine alw_done rfl ?_
      refine NoPanic.normal ?_
      clear hS0
      try simp only [zz]
      go_upto_region 3 with fail
      refine wp_region_lit ?_
      refine nR (.int .i64 0) (gx_assign rfl rfl) ?_;simp only [zz]
      obtain ⟨sa, hsa⟩ : ∃ z9, z9 = Value.int .i64 ((v.first + L.length : Nat) : Int) := ⟨_, rfl⟩
      obtain ⟨sb, hsb⟩ : ∃ z9, z9 = Value.int .i64 ((f + m : Nat) : Int) := ⟨_, rfl⟩
      rw [← hsa, ← hsb]
      clear hsa hsb
      go_wp2_with fail
      go_loopg [4, 5] m (fun gk rv iv wr => ∃ j : Nat, iv = .int .i64 (j : Int) ∧ j + gk = m ∧ L.take j = G.take j ∧ Turn nowhere w wr)
      case atStart => exact ⟨0, rfl, by omega, rfl, HT.out⟩
      clear HT
      obtain ⟨j, rfl, hgk, heq, htr⟩ := hrel
      have HGK := Lib.hid hgk
      have HEQ := Lib.hid heq
      have HTR := Lib.hid htr
      have HBR := Lib.hid (HB.out.turn htr fun e => e)
      have yj : (j : Int) ≤ (m : Int) := by omega
      clear hgk heq htr
      by_cases hlt : j < m
      · have HLT := Lib.hid hlt
        have y5 : (j : Int) < (m : Int) := by omega
        obtain ⟨X, hX⟩ : ∃ X, L[j]? = some X := ⟨L[j]'(by rw [HLL.out]; exact hlt), List.getElem?_eq_getElem (by rw [HLL.out]; exact hlt)⟩
        obtain ⟨Y, hY⟩ : ∃ Y, G[j]? = some Y := ⟨G[j]'(by rw [← HM.out]; exact hlt), List.getElem?_eq_getElem (by rw [← HM.out]; exact hlt)⟩
        have HX := Lib.hid hX
        have HY := Lib.hid hY
        clear hlt hX hY
        go_upto_region 4 with fail
        refine wp_region_lit ?_
        refine nR (.int .i64 (j : Int)) (exec_move rfl rfl) ?_;simp only [zz];refine nR (.pointer (some ⟨b, 0, none⟩)) (exec_move rfl rfl) ?_;simp only [zz];refine nR (.pointer (some ⟨b, 0, none⟩)) (exec_nil rfl rfl) ?_;simp only [zz];refine nR (.pointer (some ⟨b, 1, none⟩)) (exec_field (off := 0) (d := 1) rfl rfl (by kernel_rfl)) ?_;simp only [zz];refine nR (.slice A m c) (exec_load1 rfl rfl (by kernel_rfl) (HBR.out.cell 1)) ?_;simp only [zz];refine nR (.int .i64 (m : Int)) (gx_len rfl rfl Tryd.underlying30) ?_;simp only [zz];refine nR (.bool true) (ix_lss rfl rfl rfl (decide_eq_true y5)) ?_;simp only [zz]
        go_upto_region 6 with fail
        refine wp_region_lit ?_
        refine nR (.pointer (some ⟨x, 0, none⟩)) (exec_move rfl rfl) ?_;simp only [zz];refine nR (.pointer (some ⟨b, 0, none⟩)) (exec_move rfl rfl) ?_;simp only [zz];refine nR (.pointer (some ⟨b, 0, none⟩)) (exec_nil rfl rfl) ?_;simp only [zz];refine nR (.pointer (some ⟨b, 0, none⟩)) (exec_field (off := 0) (d := 0) rfl rfl (by kernel_rfl)) ?_;simp only [zz];refine nR (.int .i64 (f : Int)) (exec_load1 rfl rfl (by kernel_rfl) (HBR.out.cell 0)) ?_;simp only [zz];refine nR (.int .i64 (j : Int)) (exec_move rfl rfl) ?_;simp only [zz];refine nR (.int .i64 ((f : Int) + (j : Int))) (ix_add rfl rfl rfl rfl (by omega)) ?_;simp only [zz]
        refine wpList_op (wanted_none rfl) fun K9 HK9 => ?_
        go_wp2_with fail
        refine ((HLG.out.still HTR.out).read HN.out ((f : Int) + (j : Int)) (by omega)).mono ?_
        rintro r w2 ⟨ht, ⟨hbad, _⟩ | ⟨k9, l9, gr, hk9, hl9, rfl, hls, _, _, _, _⟩⟩
        · exact absurd ⟨by omega, by have := HLL.out; omega⟩ hbad
        obtain rfl : j = k9 := by omega
        rw [HX.out] at hl9
        obtain rfl := Option.some.inj hl9
        refine HK9.out _ _ ?_
        clear HK9
        try simp only [zz]
        have HT2 := Lib.hid (HTR.out.trans ht fun _ _ e => e)
        have HLS := Lib.hid hls
        have HB2 := Lib.hid (HBR.out.turn ht fun e => e)
        obtain ⟨g9, o9, u9, rfl, hcell, hlz⟩ := (HG.out.turn HT2.out fun _ _ _ e => e).at_ HY.out
        obtain ⟨A9, c9, rfl, hls2, _⟩ := hlz.ls
        have HC9 := Lib.hid hcell
        have HLS2 := Lib.hid hls2
        clear ht hls hk9 hl9 hcell hlz hls2
        refine nR (.tuple #[.slice (some ⟨gr, 0, none⟩) X.length X.length, .int .i64 0]) (exec_move rfl rfl) ?_;simp only [zz];refine nR (.slice (some ⟨gr, 0, none⟩) X.length X.length) (ix_extract rfl rfl rfl) ?_;simp only [zz];refine nR (.int .i64 0) (ix_extract rfl rfl rfl) ?_;simp only [zz];refine nR (.slice (some ⟨gr, 0, none⟩) X.length X.length) (gx_assign rfl rfl) ?_;simp only [zz];refine nR (.int .i64 0) (gx_assign rfl rfl) ?_;simp only [zz]
        go_upto_region 7 with fail
        refine wp_region_lit ?_
        refine nR (.slice (some ⟨gr, 0, none⟩) X.length X.length) (exec_move rfl rfl) ?_;simp only [zz];refine nR (.pointer (some ⟨b, 0, none⟩)) (exec_move rfl rfl) ?_;simp only [zz];refine nR (.pointer (some ⟨b, 0, none⟩)) (exec_nil rfl rfl) ?_;simp only [zz];refine nR (.pointer (some ⟨b, 1, none⟩)) (exec_field (off := 0) (d := 1) rfl rfl (by kernel_rfl)) ?_;simp only [zz];refine nR (.slice (some ⟨g9, o9, none⟩) m c) (exec_load1 rfl rfl (by kernel_rfl) (HB2.out.cell 1)) ?_;simp only [zz];refine nR (.int .i64 (j : Int)) (exec_move rfl rfl) ?_;simp only [zz];refine nR (.pointer (some ⟨g9, o9 + j * 1, none⟩)) (gx_iaddr (i := j) (sz := 1) rfl rfl rfl Tryd.underlying30 size_G8 HLT.out rfl) ?_;simp only [zz];refine nR (.slice A9 Y.length c9) (exec_load1 rfl rfl (by kernel_rfl) HC9.out) ?_;simp only [zz]
        refine wpList_op (wanted_none rfl) fun K9 HK9 => ?_
        go_wp2_with fail
        refine (same_walk (c := X.length) (e := c9) HLS.out HLS2.out).mono ?_
        rintro e w3 ⟨rfl, ht⟩
        refine HK9.out _ _ ?_
        clear HK9
        try simp only [zz]
        have HT3 := Lib.hid (HT2.out.trans ht fun _ _ e => e)
        clear ht
        by_cases hxy : X = Y
        · have HEQ2 := Lib.hid (take_snoc2 HEQ.out HX.out (by rw [hxy]; exact HY.out))
          rw [decide_eq_true hxy]
          clear hxy
          refine nR (.bool true) (gx_assign rfl rfl) ?_;simp only [zz]
          go_upto_region 8 with fail
          refine wp_region_lit ?_
          refine nR (.int .i64 0) (exec_move rfl rfl) ?_;simp only [zz];refine nR (.bool false) (ix_neq rfl rfl rfl (by decide)) ?_;simp only [zz];refine nR (.bool false) (exec_move rfl rfl) ?_;simp only [zz];refine wpList_run (v := .bool true) rfl (exec_move rfl rfl) ?_;simp only [zz];refine wpList_run (v := .bool false) rfl (ix_not (b := true) rfl rfl) ?_;simp only [zz];refine nR (.bool false) (ix_pickF rfl rfl rfl) ?_;simp only [zz]
          go_upto_region 5 with fail
          refine wp_region_lit ?_
          refine nR (.int .i64 (j : Int)) (exec_move rfl rfl) ?_;simp only [zz];refine nR (.int .i64 ((j + 1 : Nat) : Int)) (ix_add rfl rfl rfl (by omega) (by omega)) ?_;simp only [zz];refine nR (.int .i64 ((j + 1 : Nat) : Int)) (gx_assign rfl rfl) ?_;simp only [zz]
          go_wp2_with fail
          go_roundg (m - (j + 1))
          case measure => have := HGK.out; have := HLT.out; omega
          case rel => exact ⟨j + 1, rfl, by have := HLT.out; omega, HEQ2.out, HT3.out⟩
        · have HE := Lib.hid (show decide (v.first = f ∧ L = G) = false from decide_eq_false fun e => take_ne HX.out HY.out hxy e.2)
          rw [decide_eq_false hxy]
          clear hxy
          refine nR (.bool false) (gx_assign rfl rfl) ?_;simp only [zz]
          go_upto_region 8 with fail
          refine wp_region_lit ?_
          refine nR (.int .i64 0) (exec_move rfl rfl) ?_;simp only [zz];refine nR (.bool false) (ix_neq rfl rfl rfl (by decide)) ?_;simp only [zz];refine nR (.bool false) (exec_move rfl rfl) ?_;simp only [zz];refine wpList_run (v := .bool false) rfl (exec_move rfl rfl) ?_;simp only [zz];refine wpList_run (v := .bool true) rfl (ix_not (b := false) rfl rfl) ?_;simp only [zz];refine nR (.bool true) (ix_pickF rfl rfl rfl) ?_;simp only [zz]
          go_upto_region 9 with fail
          refine wp_region_lit ?_
          refine nR (.bool false) (gx_assign rfl rfl) ?_;simp only [zz]
          go_wp2_with fail
          go_ret
          rw [HE.out]
          exact ⟨rfl, HT3.out⟩
      · obtain rfl : j = m := by omega
        have y5 : ¬ (j : Int) < (j : Int) := by omega
        have HE := Lib.hid (show decide (v.first = f ∧ L = G) = true from decide_eq_true ⟨HF.out, by
          have h1 := HEQ.out
          rwa [List.take_of_length_le (by rw [HLL.out]; exact Nat.le_refl _), List.take_of_length_le (by rw [← HM.out]; exact Nat.le_refl _)] at h1⟩)
        clear hlt
        go_upto_region 4 with fail
        refine wp_region_lit ?_
        refine nR (.int .i64 (j : Int)) (exec_move rfl rfl) ?_;simp only [zz];refine nR (.pointer (some ⟨b, 0, none⟩)) (exec_move rfl rfl) ?_;simp only [zz];refine nR (.pointer (some ⟨b, 0, none⟩)) (exec_nil rfl rfl) ?_;simp only [zz];refine nR (.pointer (some ⟨b, 1, none⟩)) (exec_field (off := 0) (d := 1) rfl rfl (by kernel_rfl)) ?_;simp only [zz];refine nR (.slice A j c) (exec_load1 rfl rfl (by kernel_rfl) (HBR.out.cell 1)) ?_;simp only [zz];refine nR (.int .i64 (j : Int)) (gx_len rfl rfl Tryd.underlying30) ?_;simp only [zz];refine nR (.bool false) (ix_lss rfl rfl rfl (decide_eq_false y5)) ?_;simp only [zz]
        go_upto_region 10 with fail
        refine wp_region_lit ?_
        refine nR (.pointer (some ⟨x, 0, none⟩)) (exec_move rfl rfl) ?_;simp only [zz];refine nR (.pointer (some ⟨b, 0, none⟩)) (exec_move rfl rfl) ?_;simp only [zz];refine nR (.pointer (some ⟨b, 0, none⟩)) (exec_nil rfl rfl) ?_;simp only [zz];refine nR (.pointer (some ⟨b, 0, none⟩)) (exec_field (off := 0) (d := 0) rfl rfl (by kernel_rfl)) ?_;simp only [zz];refine nR (.int .i64 (f : Int)) (exec_load1 rfl rfl (by kernel_rfl) (HBR.out.cell 0)) ?_;simp only [zz];refine nR (.int .i64 ((f : Int) - 1)) (ix_sub rfl rfl rfl rfl (by omega)) ?_;simp only [zz]
        refine wpList_op (wanted_none rfl) fun K9 HK9 => ?_
        go_wp2_with fail
        refine ((HLG.out.still HTR.out).read HN.out ((f : Int) - 1) (by omega)).mono ?_
        rintro r w2 ⟨ht, ⟨_, rfl⟩ | ⟨k9, l9, gr9, hk9, hl9, _⟩⟩
        rotate_left
        · have h1 := (List.getElem?_eq_some_iff.1 hl9).1
          have h2 := HLL.out
          omega
        refine HK9.out _ _ ?_
        clear HK9
        try simp only [zz]
        have HT2 := Lib.hid (HTR.out.trans ht fun _ _ e => e)
        clear ht
        refine nR (.tuple #[.slice none 0 0, .int .i64 1]) (exec_move rfl rfl) ?_;simp only [zz];refine nR (.slice none 0 0) (ix_extract rfl rfl rfl) ?_;simp only [zz];refine nR (.int .i64 1) (ix_extract rfl rfl rfl) ?_;simp only [zz];refine nR (.slice none 0 0) (gx_assign rfl rfl) ?_;simp only [zz];refine nR (.int .i64 1) (gx_assign rfl rfl) ?_;simp only [zz]
        go_upto_region 11 with fail
        refine wp_region_lit ?_
        refine nR (.pointer (some ⟨x, 0, none⟩)) (exec_move rfl rfl) ?_;simp only [zz];refine nR (.pointer (some ⟨b, 0, none⟩)) (exec_move rfl rfl) ?_;simp only [zz]
        refine wpList_op (wanted_none rfl) fun K9 HK9 => ?_
        go_wp2_with fail
        refine (bnext_walk (HBK.out.still HT2.out) (by rw [← HM.out]; omega)).mono ?_
        rintro e w3 ⟨rfl, ht⟩
        refine HK9.out _ _ ?_
        clear HK9
        try simp only [zz]
        rw [← HM.out]
        have HT3 := Lib.hid (HT2.out.trans ht fun _ _ e => e)
        clear ht
        refine wpList_op (wanted_none rfl) fun K9 HK9 => ?_
        go_wp2_with fail
        refine ((HLG.out.still HT3.out).read HN.out (((f + j : Nat) : Int)) (by omega)).mono ?_
        rintro r w4 ⟨ht, ⟨_, rfl⟩ | ⟨k9, l9, gr9, hk9, hl9, _⟩⟩
        rotate_left
        · have h1 := (List.getElem?_eq_some_iff.1 hl9).1
          have h2 := HLL.out
          omega
        refine HK9.out _ _ ?_
        clear HK9
        try simp only [zz]
        have HT4 := Lib.hid (HT3.out.trans ht fun _ _ e => e)
        clear ht
        refine nR (.tuple #[.slice none 0 0, .int .i64 1]) (exec_move rfl rfl) ?_;simp only [zz];refine nR (.slice none 0 0) (ix_extract rfl rfl rfl) ?_;simp only [zz];refine nR (.int .i64 1) (ix_extract rfl rfl rfl) ?_;simp only [zz];refine nR (.slice none 0 0) (gx_assign rfl rfl) ?_;simp only [zz];refine nR (.int .i64 1) (gx_assign rfl rfl) ?_;simp only [zz]
        go_upto_region 12 with fail
        refine wp_region_lit ?_
        refine nR (.int .i64 1) (exec_move rfl rfl) ?_;simp only [zz];refine nR (.bool true) (ix_eql rfl rfl rfl (by decide)) ?_;simp only [zz];refine nR (.bool true) (exec_move rfl rfl) ?_;simp only [zz];refine wpList_run (v := .int .i64 1) rfl (exec_move rfl rfl) ?_;simp only [zz];refine wpList_run (v := .bool true) rfl (ix_eql rfl rfl rfl (by decide)) ?_;simp only [zz];refine nR (.bool true) (ix_pickT rfl rfl rfl) ?_;simp only [zz];refine nR (.bool true) (gx_assign rfl rfl) ?_;simp only [zz]
        go_wp2_with fail
        go_ret
        rw [HE.out]
        exact ⟨rfl, HT4.out⟩
    · have HE := Lib.hid (show decide (v.first = f ∧ L = G) = false from decide_eq_false fun e => hl (by rw [HM.out, e.2]))
      have y4 : ¬ ((v.first + L.length : Nat) : Int) = ((f + m : Nat) : Int) := by omega
      clear hl
      refine alw_take (i := 12) (v := .bool true) rfl (by kernel_rfl) (by kernel_rfl) (fun _ _ _ h => h) (.inl ⟨by rfl, fun W hW => ix_neq rfl rfl rfl (decide_eq_true y4)⟩) hS0 ?_
      simp only [zz]
      refine alw_take (i := 13) (v := .bool true) rfl (by kernel_rfl) (by kernel_rfl) (fun _ _ _ h => h) (.inl ⟨by rfl, fun W hW => ix_pickF rfl rfl rfl⟩) hS0 ?_
      simp only [zz]
      have HT := Lib.hid hS0
      refine alw_done rfl ?_
      refine NoPanic.normal ?_
      clear hS0
      try simp only [zz]
      go_upto_region 2 with fail
      refine wp_region_lit ?_
      refine nR (.bool false) (gx_assign rfl rfl) ?_;simp only [zz]
      go_wp2_with fail
      go_ret
      rw [HE.out]
      exact ⟨rfl, HT.out⟩
  · have HF := Lib.hid (show decide (v.first = f ∧ L = G) = false from decide_eq_false fun e => hf e.1)
    have y3 : ¬ (v.first : Int) = (f : Int) := by omega
    clear hf
    refine alw_take (i := 6) (v := .bool true) rfl (by kernel_rfl) (by kernel_rfl) (fun _ _ _ h => h) (.inl ⟨by rfl, fun W hW => ix_neq rfl rfl rfl (decide_eq_true y3)⟩) hS0 ?_
    simp only [zz]
    refine alw_take (i := 7) (v := .bool true) rfl (by kernel_rfl) (by kernel_rfl) (fun _ _ _ h => h) (.inl ⟨by rfl, fun W hW => exec_move rfl rfl⟩) hS0 ?_
    simp only [zz]
    refine alw_take (i := 8) (v := undef) rfl (by kernel_rfl) (by kernel_rfl) (fun _ _ _ h => h) (.inr ⟨by rfl, rfl⟩) hS0 ?_
    simp only [zz]
    refine alw_take (i := 9) (v := undef) rfl (by kernel_rfl) (by kernel_rfl) (fun _ _ _ h => h) (.inr ⟨by rfl, rfl⟩) hS0 ?_
    simp only [zz]
    refine alw_take (i := 10) (v := undef) rfl (by kernel_rfl) (by kernel_rfl) (fun _ _ _ h => h) (.inr ⟨by rfl, rfl⟩) hS0 ?_
    simp only [zz]
    refine alw_take (i := 11) (v := undef) rfl (by kernel_rfl) (by kernel_rfl) (fun _ _ _ h => h) (.inr ⟨by rfl, rfl⟩) hS0 ?_
    simp only [zz]
    refine alw_take (i := 12) (v := undef) rfl (by kernel_rfl) (by kernel_rfl) (fun _ _ _ h => h) (.inr ⟨by rfl, rfl⟩) hS0 ?_
    simp only [zz]
    refine alw_take (i := 13) (v := .bool true) rfl (by kernel_rfl) (by kernel_rfl) (fun _ _ _ h => h) (.inl ⟨by rfl, fun W hW => ix_pickT rfl rfl rfl⟩) hS0 ?_
    simp only [zz]
    have HT := Lib.hid hS0
    refine alw_done rfl ?_
    refine NoPanic.normal ?_
    clear hS0
    try simp only [zz]
    go_upto_region 2 with fail
    refine wp_region_lit ?_
    refine nR (.bool false) (gx_assign rfl rfl) ?_;simp only [zz]
    go_wp2_with fail
    go_ret
    rw [HF.out]
    exact ⟨rfl, HT.out⟩
end Go.Proofs.YtelipeoilcepbaaDoor
namespace Go.Proofs.YtelipeoilcepbaaDoor
open Go.RowKit Go.ChangeShapes Go.WideShapes Go.Deep
set_option linter.unusedVariables false
section
variable {H : Type} {enc : TypeId × Value → H} {P : Program} {w : World} {base : Nat} {spare : Nat → Bool} {held : Bool}
theorem weights_all {e : TypeId} {d : DataW H} {q : Nat} : ∀ {l : List (DataW H)}, d ∈ l → q ∈ d.weights P e → q ∈ DataW.weightsAll P e l
  | x :: l, h, hq => by
    unfold DataW.weightsAll
    rcases List.mem_cons.1 h with rfl | h
    · exact List.mem_append_left _ hq
    · exact List.mem_append_right _ (weights_all h hq)
theorem open_rwsW {α : Type} {t e : TypeId} {fuel k by_ : Nat} {v : Value} {x : DataW H × List MemPlace} (ht : P.underlying t = some (.slice e)) (hC : P.cellsOf e = k) (hk : 0 < k) (hby : P.bytesOf e = by_) (hb1 : 1 ≤ by_) (en : α → List Value) (Q : α → Prop) (d0 : α) (hen : ∀ x, (en x).length = k)
    (dec : ∀ n cs y, DataW.trod enc P w base spare held n e cs = some y → (∀ q ∈ y.1.weights P e, q ≤ reachBytes) → ∃ x : α, cs = en x ∧ Q x) (h : DataW.trod enc P w base spare held fuel t [v] = some x) (hw : ∀ q ∈ x.1.weights P t, q ≤ reachBytes) :
    ∃ (A : Option Addr) (n c : Nat) (xs : List α), v = .slice A n c ∧ Rws w k A n (xs.map en) ∧ n ≤ c ∧ (A = none → c = 0) ∧ n * by_ ≤ reachBytes ∧ (∀ x ∈ xs, Q x) ∧ (x.1 = .nil ∧ n = 0 ∨ ∃ D E, x.1 = .slice D E ∧ D.length = n) := by
  rcases open_slice ht h with ⟨h0, hx0⟩ | ⟨a, len, cap, m, n, D, Pl, hcs, hb, hl, hm, hmm, rfl, hi⟩
  · injection h0 with h0
    exact ⟨none, 0, 0, [], h0, rws_nil w k none, Nat.le_refl _, fun _ => rfl, by omega, fun x hx => (by cases hx), .inl ⟨by rw [hx0], rfl⟩⟩
  · injection hcs with hcs
    have hlm : len ≤ m := by rw [hmm]; split <;> omega
    have hb2 : len * by_ ≤ reachBytes := by
      have := hw ((((List.range len).map D).length + ((List.range (m - len)).map fun j => D (len + j)).length) * P.bytesOf e) (by
        unfold DataW.weights
        simp only [ht]
        exact List.mem_cons_self ..)
      rw [hby] at this
      simp only [List.length_map, List.length_range] at this
      have h3 : len * by_ ≤ (len + (m - len)) * by_ := Nat.mul_le_mul_right _ (by omega)
      omega
    have hwt : ∀ i, i < len → ∀ q ∈ (D i).weights P e, q ≤ reachBytes := by
      intro i hi' q hq
      refine hw q ?_
      unfold DataW.weights
      simp only [ht]
      exact List.mem_cons_of_mem _ (List.mem_append_left _ (weights_all (List.mem_map.2 ⟨i, List.mem_range.2 hi', rfl⟩) hq))
    have hn : len ≤ 140737488355328 := by
      have h1 := reachBytes_lt
      have h2 : len * 1 ≤ len * by_ := Nat.mul_le_mul_left _ hb1
      omega
    rw [hC] at hi
    have one : ∀ i, ∃ x : α, i < len → w.cells? base (a.add (i * k)) k = some (en x) ∧ Q x := by
      intro i
      by_cases him : i < len
      · obtain ⟨cs, hc, ht'⟩ := hi i (by omega)
        obtain ⟨x, rfl, hq⟩ := dec _ _ _ ht' (hwt i him)
        exact ⟨x, fun _ => ⟨hc, hq⟩⟩
      · exact ⟨d0, fun h => absurd h him⟩
    obtain ⟨F, hF⟩ := Classical.axiomOfChoice one
    refine ⟨some a, len, cap, (List.range len).map F, hcs, ⟨by simp, fun r hr => ?_, hn, fun hp => ?_⟩, hl, (fun h => by cases h), hb2, fun x hx => ?_, .inr ⟨_, _, rfl, by simp⟩⟩
    · obtain ⟨x, _, rfl⟩ := List.mem_map.1 hr
      exact hen x
    · have hall : ∀ i, i < len → ∀ j v, (en (F i))[j]? = some v → w.cell? (a.add (i * k + j)) = some v := by
        intro i him j v hv
        obtain ⟨_, hcl, hat⟩ := World.cells?_some (hF i him).1
        have hj : j < k := by
          have := (List.getElem?_eq_some_iff.1 hv).1
          rwa [hen] at this
        have := hat j hj
        rw [hv] at this
        rw [← this, Go.Deep.add_add]
      obtain ⟨b, off, spot⟩ := a
      have hv0 : (en (F 0))[0]? = some ((en (F 0))[0]'(by rw [hen]; exact hk)) := List.getElem?_eq_getElem _
      have hc0 := hall 0 (by omega) 0 _ hv0
      have hspot : spot = none := by simpa [Addr.add] using World.cell?_spot hc0
      subst hspot
      refine ⟨b, off, rfl, fun i r hr j v hv => ?_⟩
      have hil : i < len := by
        have := (List.getElem?_eq_some_iff.1 hr).1
        simpa using this
      have hre : r = en (F i) := by
        rw [List.getElem?_map, List.getElem?_map, List.getElem?_range hil] at hr
        exact (Option.some.inj hr).symm
      subst hre
      have := hall i (by omega) j v hv
      rw [add_nat] at this
      rw [Nat.add_assoc]
      exact this
    · obtain ⟨i, hi', rfl⟩ := List.mem_map.1 hx
      exact (hF i (List.mem_range.1 hi')).2
end
end Go.Proofs.YtelipeoilcepbaaDoor
namespace Go.Proofs.YtelipeoilcepbaaDoor
open Go.RowKit Go.ChangeShapes Go.WideShapes Go.Deep
set_option linter.unusedVariables false
section
variable {H : Type} {enc : TypeId × Value → H} {P : Program} {w : World} {base : Nat} {spare : Nat → Bool} {held : Bool}
end
end Go.Proofs.YtelipeoilcepbaaDoor
namespace Go.Proofs.YtelipeoilcepbaaDoor
open Go.RowKit Go.ChangeShapes Go.WideShapes Go.Deep
set_option linter.unusedVariables false
section
variable {H : Type} {enc : TypeId × Value → H} {w : World} {base : Nat} {spare : Nat → Bool} {held : Bool}
set_option maxRecDepth 20000 in
theorem ksB_of {fuel : Nat} {v : Value} {x : DataW H × List MemPlace} (h : DataW.trod enc Tryd.prog w base spare held fuel 34 [v] = some x) (hw : ∀ q ∈ x.1.weights Tryd.prog 34, q ≤ reachBytes) :
    ∃ (A : Option Addr) (n c : Nat) (zs : List Int), v = .slice A n c ∧ Ks w nowhere A n zs ∧ (∀ z ∈ zs, -9223372036854775808 ≤ z ∧ z ≤ 9223372036854775807) ∧ n ≤ 140737488355328 := by
  obtain ⟨A, n, c, zs, h1, h2, h3, h4, h5, h6, _⟩ := open_rwsW (by_ := 8) Tryd.underlying34 (k := 1) (by kernel_rfl) (by decide) (by kernel_rfl) (by decide) (fun z : Int => [Value.int .i64 z]) (fun z => -9223372036854775808 ≤ z ∧ z ≤ 9223372036854775807) 0 (fun _ => rfl) (fun n cs y hy _ => by
    obtain ⟨x0, g0, _, w0⟩ := DataW.trod_int Tryd.underlying3 hy
    exact ⟨x0, g0, i64_in w0⟩) h hw
  refine ⟨A, n, c, zs, h1, ?_, h6, h2.2.2.1⟩
  have hl : zs.length = n := by have := h2.1; rwa [List.length_map] at this
  have hn := h2.2.2.1
  refine ⟨hl, by omega, fun hp => ?_⟩
  obtain ⟨b, off, e, hc⟩ := h2.2.2.2 hp
  have hcell : ∀ i, i < n → w.cell? ⟨b, off + i, none⟩ = some (.int .i64 (zs.getD i 0)) := fun i hi => by
    have h7 := hc i [Value.int .i64 (zs.getD i 0)] (by rw [List.getElem?_map, List.getD_eq_getElem?_getD, List.getElem?_eq_getElem (by omega)]; rfl) 0 _ rfl
    rwa [Nat.mul_one, Nat.add_zero] at h7
  exact ⟨b, off, e, World.block_lt_of_cell? _ _ (hcell 0 hp), fun e => e, hcell⟩
end
end Go.Proofs.YtelipeoilcepbaaDoor
namespace Go.Proofs.YtelipeoilcepbaaDoor
open Go.RowKit Go.ChangeShapes Go.WideShapes Go.Deep
set_option linter.unusedVariables false
structure IrV where
  A : Option Addr
  n : Nat
  c : Nat
  zs : List Int
theorem ks_turn {w w' : World} {A : Option Addr} {n : Nat} {zs : List Int} (h : Ks w nowhere A n zs) (ht : Turn nowhere w w') : Ks w' nowhere A n zs := by
  obtain ⟨h1, h2, h3⟩ := h
  refine ⟨h1, h2, fun hp => ?_⟩
  obtain ⟨g, off, e, hg, hn, hc⟩ := h3 hp
  refine ⟨g, off, e, Nat.lt_of_lt_of_le hg ht.size, hn, fun i hi => ?_⟩
  rw [ht.cell (p := ⟨g, off + i, none⟩) hg (fun e => e)]
  exact hc i hi
section
variable {H : Type} {enc : TypeId × Value → H} {w : World} {base : Nat} {spare : Nat → Bool} {held : Bool}
end
end Go.Proofs.YtelipeoilcepbaaDoor
namespace Go.Proofs.YtelipeoilcepbaaDoor
open Go.RowKit
open Wl (B8 Gp)
set_option linter.unusedVariables false
set_option linter.unusedSimpArgs false
set_option maxRecDepth 20000
def capZ (Z : Nat → Prop) (N : Nat) : Nat → Prop := fun k => Z k ∧ k < N
section
variable {w : World} {Z : Nat → Prop} {v : Value} {x : B8} {l : Wl.Rec} {gs : List Wl.Rec} {b f : Nat}
theorem rws_lt {A : Option Addr} {n : Nat} {rs : List (List Value)} (h : Rws w 1 A n rs) : InZ (fun k => k < w.heap.size) A n := fun b off s e hp => by
  obtain ⟨h1, h2, _, h4⟩ := h
  obtain ⟨b', off', e', hc⟩ := h4 hp
  rw [e] at e'
  injection e' with e'
  injection e' with e1
  have hr : rs[0]? = some (rs[0]'(by omega)) := List.getElem?_eq_getElem (by omega)
  have hl := h2 _ (List.getElem_mem (l := rs) (n := 0) (by omega))
  have := hc 0 _ hr 0 _ (List.getElem?_eq_getElem (by omega))
  rw [e1]
  exact World.block_lt_of_cell? _ _ this
theorem InZ.both {Z Y : Nat → Prop} {A : Option Addr} {n : Nat} (h : InZ Z A n) (g : InZ Y A n) : InZ (fun k => Z k ∧ Y k) A n := fun b off s e hp => ⟨h b off s e hp, g b off s e hp⟩
theorem TxZ.cap (h : TxZ w Z v x) : TxZ w (capZ Z w.heap.size) v x := by
  obtain ⟨a, m, c, rfl, h1, h2, h3, h4⟩ := h
  refine ⟨a, m, c, rfl, h1, h2, h3, h4.both fun b off s e hp => ?_⟩
  obtain ⟨b', off', e', hc⟩ := h1.2.2 hp
  rw [e] at e'
  injection e' with e'
  injection e' with e1
  rw [e1]
  exact World.block_lt_of_cell? _ _ (hc 0 hp)
theorem LsZ.cap (h : LsZ w Z v l) : LsZ w (capZ Z w.heap.size) v l := by
  obtain ⟨A, n, c, vs, rfl, h1, h2, h3, h4, h5, h6⟩ := h
  exact ⟨A, n, c, vs, rfl, h1, h2, fun i u x hu hx => (h3 i u x hu hx).cap, h4, h5, h6.both (rws_lt h1)⟩
theorem GsZ.cap (h : GsZ w Z v gs) : GsZ w (capZ Z w.heap.size) v gs := by
  obtain ⟨A, n, c, vs, rfl, h1, h2, h3, h4, h5, h6⟩ := h
  exact ⟨A, n, c, vs, rfl, h1, h2, fun i u x hu hx => (h3 i u x hu hx).cap, h4, h5, h6.both (rws_lt h1)⟩
theorem Bk.cap (h : Bk w b f gs Z) : Bk w b f gs (capZ Z w.heap.size) := by
  obtain ⟨v, h1, h2, h3⟩ := h
  exact ⟨v, h1, h2.cap, h3, h1.lt⟩
end
section
variable {w wr w' : World} {p x b S f B : Nat} {n : Int} {L G : List Wl.Rec} {φ : Int → Prop}
end
end Go.Proofs.YtelipeoilcepbaaDoor
