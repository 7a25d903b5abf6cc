/-
  Texts in one file: WmCr. Conditions: the tables and the errors read as the program's text lays them.
-/
import Derived.Test.YtbfeejkdlhdioaaDoorJC0
import Derived.Test.YtbfeejkdlhdioaaDoorJC37
import Derived.Deep.Cut
namespace Go.Proofs.YtbfeejkdlhdioaaDoor
open Go.RowKit
open Wl (B8)
set_option linter.unusedVariables false
set_option linter.unusedSimpArgs false
set_option maxRecDepth 20000
theorem ptr_nilB {a : Act} {o : Oper} {W : World} {x y : Operand} {t u : TypeId} {p : Addr} (ho : o.op = .binOp .eql t x y u) (hx : a.eval x = .pointer (some p)) (hy : a.eval y = .pointer none) (ht : t = 29) : (execOp a.eval o).run Tryd.prog W = .ok (.value (.bool false)) W := by
  subst ht
  unfold execOp
  simp only [ho, hx, hy]
  go_simp
theorem ptr_nilZ {a : Act} {o : Oper} {W : World} {x y : Operand} {t u : TypeId} (ho : o.op = .binOp .eql t x y u) (hx : a.eval x = .pointer none) (hy : a.eval y = .pointer none) (ht : t = 26) : (execOp a.eval o).run Tryd.prog W = .ok (.value (.bool true)) W := by
  subst ht
  unfold execOp
  simp only [ho, hx, hy]
  go_simp
set_option maxRecDepth 20000 in
set_option maxHeartbeats 4000000 in
theorem walCrashes_main (a0 : Int) (A1 : Option Addr) (n1 c1 : Nat) (os : List OpV) (w : World) (h0 : -9223372036854775808 ≤ a0 ∧ a0 ≤ 9223372036854775807) (h1 : OwAt w A1 n1 os) (htab : Tab w) :
    Calls Tryd.prog 4 #[.int .i64 a0, .slice A1 n1 c1] w fun r w' => r = .returned (.bool true) ∧ Turn nowhere w w' := by
  have HI := Lib.hid h0
  have HOS := Lib.hid h1
  have HOL := Lib.hid h1.len
  have HTAB := Lib.hid htab
  clear h0 h1 htab
  go_enter Tryd.func4, Tryd.ntmps4
  go_upto_region 0 with fail
  refine wp_region_lit ?_
  refine nR (.bool false) (gx_assign rfl rfl) ?_;simp only [zz]
  go_upto_region 1 with fail
  refine wp_region_lit ?_
  refine wpList_op rfl fun K9 HK9 => ?_
  go_wp2_with fail
  refine (shown_walk HTAB.out).mono ?_
  rintro e w1 ⟨rfl, ht⟩
  refine HK9.out _ _ ?_
  clear HK9
  try simp only [zz]
  have HT1 := Lib.hid ht
  have HTAB1 := Lib.hid (tab_still HTAB.out ht)
  clear ht
  refine nR (.bool true) (gx_assign rfl rfl) ?_;simp only [zz]
  go_upto_region 2 with fail
  refine wp_region_lit ?_
  refine nR (.int .i64 a0) (exec_move rfl rfl) ?_;simp only [zz]
  have hai := among_in (c := a0) (n := 443) (by omega)
  obtain ⟨n9, hn9⟩ : ∃ n9 : Nat, amongI a0 443 = (n9 : Int) := ⟨(amongI a0 443).toNat, by omega⟩
  have HN9 := Lib.hid hn9
  have yn9 : n9 < 443 := by omega
  clear hai hn9
  refine wpList_op rfl fun K9 HK9 => ?_
  go_wp2_with fail
  refine (among_walk a0 443 HI.out (by omega)).mono ?_
  rintro e w1 ⟨rfl, rfl⟩
  refine HK9.out _ _ ?_
  clear HK9
  try simp only [zz]
  rw [HN9.out]
  clear HN9
  refine nR (.int .i64 ((258 + n9 : Nat) : Int)) (ix_add rfl rfl rfl (by omega) (by omega)) ?_;simp only [zz];refine nR (.int .i64 ((258 + n9 : Nat) : Int)) (gx_assign rfl rfl) ?_;simp only [zz]
  obtain ⟨n, hn⟩ : ∃ n, n = 258 + n9 := ⟨_, rfl⟩
  rw [← hn]
  have yn : 258 ≤ n ∧ n ≤ 700 := by omega
  clear hn yn9
  go_upto_region 3 with fail
  refine wp_region_lit ?_
  refine nR (.int .i64 (n : Int)) (exec_move rfl rfl) ?_;simp only [zz]
  refine wpList_op rfl fun K9 HK9 => ?_
  go_wp2_with fail
  refine (ground_cs n (by omega) (by omega) HTAB1.out).mono ?_
  rintro e w2 ⟨ht, p, xg, rfl, hst⟩
  refine HK9.out _ _ ?_
  clear HK9
  try simp only [zz]
  have HT2 := Lib.hid (HT1.out.trans ht fun _ _ e => e)
  obtain ⟨S, hS⟩ : ∃ S, S = (n - 2) / 64 := ⟨_, rfl⟩
  rw [← hS] at hst
  have HSG := Lib.hid (show segsN (n : Int) = S from by unfold segsN; split <;> omega)
  have HS0 := Lib.hid (show S ≠ 0 from by omega)
  have HST := Lib.hid hst
  clear ht hst hS HTAB1
  refine nR (.tuple #[.pointer (some ⟨p, 0, none⟩), .pointer (some ⟨xg, 0, none⟩)]) (exec_move rfl rfl) ?_;simp only [zz];refine nR (.pointer (some ⟨p, 0, none⟩)) (ix_extract rfl rfl rfl) ?_;simp only [zz];refine nR (.pointer (some ⟨xg, 0, none⟩)) (ix_extract rfl rfl rfl) ?_;simp only [zz];refine nR (.pointer (some ⟨p, 0, none⟩)) (gx_assign rfl rfl) ?_;simp only [zz];refine nR (.pointer (some ⟨xg, 0, none⟩)) (gx_assign rfl rfl) ?_;simp only [zz]
  go_upto_region 4 with fail
  refine wp_region_lit ?_
  refine nR (.bool true) (exec_move rfl rfl) ?_;simp only [zz];refine nR (.bool false) (ix_not (b := true) rfl rfl) ?_;simp only [zz];refine nR (.bool false) (exec_move rfl rfl) ?_;simp only [zz];refine wpList_run (v := .pointer (some ⟨xg, 0, none⟩)) rfl (exec_move rfl rfl) ?_;simp only [zz];refine wpList_run (v := .bool false) rfl (ptr_nilW rfl rfl rfl rfl) ?_;simp only [zz];refine nR (.bool false) (ix_pickF rfl rfl rfl) ?_;simp only [zz]
  go_upto_region 6 with fail
  refine wp_region_lit ?_
  refine nR (.agg #[.int .i64 0, .slice none 0 0]) (gx_build0 rfl (build_bk0' _)) ?_;simp only [zz];refine wpList_run (v := .pointer (some ⟨w2.heap.size, 0, none⟩)) (w' := w2.alloc (.cells #[.int .i64 0, .slice none 0 0] 32)) (wanted_none rfl) (gx_box rfl rfl (box_bk 0 none 0 0 w2)) ?_;simp only [zz];refine nR (.pointer (some ⟨w2.heap.size, 0, none⟩)) (gx_assign rfl rfl) ?_;simp only [zz]
  have hbn := Blk.new w2 32 #[.int .i64 0, .slice none 0 0]
  have htb := (Turn.refl nowhere w2).alloc (.cells #[.int .i64 0, .slice none 0 0] 32)
  obtain ⟨b0, hb0⟩ : ∃ z, z = w2.heap.size := ⟨_, rfl⟩
  rw [← hb0] at hbn ⊢
  have HST3 := Lib.hid (HST.out.new_ (by exact fun _ _ _ => Rn.still) htb (by omega : w2.heap.size ≤ b0) hbn)
  generalize w2.alloc (.cells #[.int .i64 0, .slice none 0 0] 32) = w3 at *
  have HT3 := Lib.hid (HT2.out.trans htb fun _ _ e => e)
  have HST4 := Lib.hid (show Cs w w3 0 [(b0, 0, [])] (Rn p xg S n 0 0 []) from by
    obtain ⟨G, Z, g1, g2, g3, g4⟩ := HST3.out
    exact ⟨G, Z, g1, fun k hk => ⟨Nat.le_trans HT1.out.size (g2 k hk).1, (g2 k hk).2⟩, g3, g4⟩)
  obtain ⟨m, hm⟩ : ∃ m, m = min n1 120 := ⟨_, rfl⟩
  have ym : m ≤ 120 ∧ m ≤ n1 ∧ (m = n1 ∨ m = 120) := by omega
  clear hm hbn htb hb0 HST HST3 HT2 HT1
  go_upto_region 7 with fail
  refine wp_region_lit ?_
  refine nR (.pointer none) (gx_assign rfl rfl) ?_;simp only [zz]
  go_upto_region 8 with fail
  refine wp_region_lit ?_
  refine nR (.bool false) (gx_assign rfl rfl) ?_;simp only [zz]
  go_upto_region 9 with fail
  refine wp_region_lit ?_
  refine nR (.int .i64 0) (gx_assign rfl rfl) ?_;simp only [zz]
  go_wp2_with fail
  go_loopg [7, 8, 9, 10, 11] m (fun gk xv bv mv nv iv wr => ∃ (i b f : Nat) (L : List Wl.Rec), bv = .pointer (some ⟨b, 0, none⟩) ∧ iv = .int .i64 (i : Int) ∧ i + gk = m ∧ Turn nowhere w wr ∧ f + L.length ≤ 2 * i ∧ ((∃ x, xv = .pointer (some ⟨x, 0, none⟩) ∧ mv = .pointer none ∧ nv = .bool false ∧ Cs w wr (2 * i) [(b, f, L)] (Rn p x S n f (2 * i) L)) ∨ Of9 w wr p S n (2 * i) b f L mv nv))
  case atStart => exact ⟨0, b0, 0, [], rfl, rfl, by omega, HT3.out, Nat.le_refl _, .inl ⟨xg, rfl, rfl, rfl, HST4.out⟩⟩
  clear HT3 HST4
  obtain ⟨i, b, f, L, rfl, rfl, hgk, htr, hfL, hcase⟩ := hrel
  have HGK := Lib.hid hgk
  have HTR := Lib.hid htr
  have HFL := Lib.hid hfL
  have HCASE := Lib.hid hcase
  have yi : i ≤ m := by omega
  clear hgk htr hfL hcase
  by_cases hlt : i < m
  · go_upto_region 10 with fail
    refine wp_region_lit ?_
    refine nR (.int .i64 (i : Int)) (exec_move rfl rfl) ?_;simp only [zz];refine nR (.slice A1 n1 c1) (exec_move rfl rfl) ?_;simp only [zz];refine nR (.int .i64 (n1 : Int)) (gx_len rfl rfl Tryd.underlying22) ?_;simp only [zz];refine nR (.bool true) (ix_lss rfl rfl rfl (decide_eq_true (by omega))) ?_;simp only [zz];refine nR (.bool true) (exec_move rfl rfl) ?_;simp only [zz];refine wpList_run (v := .int .i64 (i : Int)) rfl (exec_move rfl rfl) ?_;simp only [zz];refine wpList_run (v := .bool true) rfl (ix_lss rfl rfl rfl (decide_eq_true (by omega))) ?_;simp only [zz];refine nR (.bool true) (ix_pickT rfl rfl rfl) ?_;simp only [zz]
    have HLT := Lib.hid (show i < n1 from by omega)
    have HLM := Lib.hid hlt
    obtain ⟨o, ho⟩ : ∃ o, os[i]? = some o := ⟨os[i]'(by rw [HOL.out]; omega), List.getElem?_eq_getElem (by rw [HOL.out]; omega)⟩
    obtain ⟨bA, oA, rfl, hc⟩ := (HOS.out.still HTR.out).at_ ho
    have HC := Lib.hid hc
    have HOK := Lib.hid (HOS.out.ok o (List.mem_of_getElem? ho))
    clear hlt ho hc
    go_upto_region 12 with fail
    refine wp_region_lit ?_
    refine nR (.slice (some ⟨bA, oA, none⟩) n1 c1) (exec_move rfl rfl) ?_;simp only [zz];refine nR (.int .i64 (i : Int)) (exec_move rfl rfl) ?_;simp only [zz];refine nR (.pointer (some ⟨bA, oA + i * 4, none⟩)) (gx_iaddr (i := i) (sz := 4) rfl rfl rfl Tryd.underlying22 size_owop HLT.out rfl) ?_;simp only [zz];refine nR (.agg o.cells.toArray) (gx_loads rfl rfl HC.out Tryd.underlying36 rfl (by rw [size_owop]; rfl)) ?_;simp only [zz];refine wpList_run (v := .pointer (some ⟨wr.heap.size, 0, none⟩)) (w' := wr.alloc (.cells #[.int .i64 0, .int .i64 0, .slice none 0 0, .slice none 0 0] 36)) (wanted_none rfl) (gx_alloc rfl (zero_owop _)) ?_;simp only [zz]
    have hb_ := Blk.new wr 36 #[.int .i64 0, .int .i64 0, .slice none 0 0, .slice none 0 0]
    have ht_ := (Turn.refl nowhere wr).alloc (.cells #[.int .i64 0, .int .i64 0, .slice none 0 0, .slice none 0 0] 36)
    obtain ⟨v, hg_⟩ : ∃ g, g = wr.heap.size := ⟨_, rfl⟩
    rw [← hg_] at hb_ ⊢
    have HLv := Lib.hid (show wr.heap.size ≤ v from by omega)
    clear hg_
    generalize wr.alloc (.cells #[.int .i64 0, .int .i64 0, .slice none 0 0, .slice none 0 0] 36) = w3v at *
    have HBv := Lib.hid hb_
    have HT3v := Lib.hid ht_
    clear hb_ ht_
    refine wpList_store_row (wanted_none rfl) 36 (.tmp 12) (.tmp 57) rfl (o.cells.toArray) HBv.out rfl rfl (rfl) (by rw [size_owop] <;> rfl) (owop_one o) ?_
    intro w4 hb_ ht_
    have HBv4 := Lib.hid hb_
    have HT4v := Lib.hid ht_
    clear hb_ ht_
    simp only [zz]
    have HT34 := Lib.hid (newer9 HT3v.out HLv.out HT4v.out)
    have HT4 := Lib.hid (HTR.out.trans HT34.out fun _ _ e => e)
    obtain ⟨oB, hoB⟩ : ∃ z, z = oA + i * 4 := ⟨_, rfl⟩
    rw [← hoB]
    obtain ⟨kk, hkk⟩ : ∃ kk, kk = amongI o.kd 10 := ⟨_, rfl⟩
    have hki := among_in (c := o.kd) (n := 10) (by omega)
    rw [← hkk] at hki
    have yk := hki
    have HKK := Lib.hid hkk
    clear HBv HT3v HT4v HC hoB hkk hki
    rcases HCASE.out with ⟨x, rfl, rfl, rfl, hst⟩ | hof
    · as_aux_lemma =>
        have HC4 := Lib.hid (hst.still (by exact fun _ _ _ => Rn.still) HT34.out)
        have HV4 := Lib.hid (hst.var (by exact fun _ _ _ => Rn.still) HT34.out HLv.out HBv4.out)
        clear hst HCASE HTR
        go_upto_region 13 with fail
        refine wp_region_lit ?_
        refine nR (.pointer (some ⟨p, 0, none⟩)) (exec_move rfl rfl) ?_;simp only [zz]
        refine wpList_op rfl fun K9 HK9 => ?_
        go_wp2_with fail
        refine (HC4.out.isOn).mono ?_
        rintro e w4 ⟨rfl, rfl⟩
        refine HK9.out _ _ ?_
        clear HK9
        try simp only [zz]
        refine nR (.bool false) (ix_not (b := true) rfl rfl) ?_;simp only [zz];refine nR (.bool false) (exec_move rfl rfl) ?_;simp only [zz];refine wpList_skip (by go_simp) ?_;simp only [zz];refine wpList_skip (by go_simp) ?_;simp only [zz];refine wpList_skip (by go_simp) ?_;simp only [zz];refine wpList_skip (by go_simp) ?_;simp only [zz];refine nR (.bool false) (ix_pickF rfl rfl rfl) ?_;simp only [zz]
        go_upto_region 14 with fail
        refine wp_region_lit ?_
        refine nR (.pointer (some ⟨v, 0, none⟩)) (exec_field (off := 0) (d := 0) rfl rfl (by kernel_rfl)) ?_;simp only [zz];refine nR (.int .i64 o.kd) (exec_load1 rfl rfl (by kernel_rfl) (HBv4.out.cell 0)) ?_;simp only [zz]
        refine wpList_op rfl fun K9 HK9 => ?_
        go_wp2_with fail
        refine (kind_walk o.kd HOK.out.kd).mono ?_
        rintro e w4 ⟨rfl, rfl⟩
        refine HK9.out _ _ ?_
        clear HK9
        try simp only [zz]
        rw [← HKK.out]
        go_upto_region 15 with fail
        refine wp_region_lit ?_
        refine nR (.bool (decide (kk = 0))) (ix_eql rfl rfl rfl rfl) ?_;simp only [zz];refine nR (.bool (decide (kk = 0))) (gx_assign rfl rfl) ?_;simp only [zz]
        go_upto_if 70 with fail
        go_cut [70] from 71 to 75 (fun kv wx => kv = .bool (decide (kk ≤ 4)) ∧ w4 = wx)
        case first =>
          by_cases h0 : kk = 0
          · rw [decide_eq_true h0]
            go_wp2_with fail
            go_meet
            exact ⟨by rw [decide_eq_true (by omega)], rfl⟩
          · rw [decide_eq_false h0]
            go_upto_region 16 with fail
            refine wp_region_lit ?_
            refine nR (.bool (decide (kk = 1))) (ix_eql rfl rfl rfl rfl) ?_;simp only [zz];refine nR (.bool (decide (kk = 1))) (gx_assign rfl rfl) ?_;simp only [zz]
            by_cases h1 : kk = 1
            · rw [decide_eq_true h1]
              go_wp2_with fail
              go_meet
              exact ⟨by rw [decide_eq_true (by omega)], rfl⟩
            · rw [decide_eq_false h1]
              go_upto_region 17 with fail
              refine wp_region_lit ?_
              refine nR (.bool (decide (kk = 2))) (ix_eql rfl rfl rfl rfl) ?_;simp only [zz];refine nR (.bool (decide (kk = 2))) (gx_assign rfl rfl) ?_;simp only [zz]
              by_cases h2 : kk = 2
              · rw [decide_eq_true h2]
                go_wp2_with fail
                go_meet
                exact ⟨by rw [decide_eq_true (by omega)], rfl⟩
              · rw [decide_eq_false h2]
                go_upto_region 18 with fail
                refine wp_region_lit ?_
                refine nR (.bool (decide (kk = 3))) (ix_eql rfl rfl rfl rfl) ?_;simp only [zz];refine nR (.bool (decide (kk = 3))) (gx_assign rfl rfl) ?_;simp only [zz]
                by_cases h3 : kk = 3
                · rw [decide_eq_true h3]
                  go_wp2_with fail
                  go_meet
                  exact ⟨by rw [decide_eq_true (by omega)], rfl⟩
                · rw [decide_eq_false h3]
                  go_upto_region 19 with fail
                  refine wp_region_lit ?_
                  refine nR (.bool (decide (kk = 4))) (ix_eql rfl rfl rfl rfl) ?_;simp only [zz];refine nR (.bool (decide (kk = 4))) (gx_assign rfl rfl) ?_;simp only [zz]
                  by_cases h4 : kk = 4
                  · rw [decide_eq_true h4]
                    go_wp2_with fail
                    go_meet
                    exact ⟨by rw [decide_eq_true (by omega)], rfl⟩
                  · rw [decide_eq_false h4]
                    go_wp2_with fail
                    go_meet
                    exact ⟨by rw [decide_eq_false (by omega)], rfl⟩
        obtain ⟨rfl, hw⟩ := hcut
        subst hw
        by_cases h4 : kk ≤ 4
        · as_aux_lemma =>
            rw [decide_eq_true h4]
            clear h4
            go_upto_region 20 with fail
            refine wp_region_lit ?_
            refine nR (.pointer (some ⟨v, 2, none⟩)) (exec_field (off := 0) (d := 2) rfl rfl (by kernel_rfl)) ?_;simp only [zz];refine nR (.slice o.L.A o.L.n o.L.c) (exec_load1 rfl rfl (by kernel_rfl) (HBv4.out.cell 2)) ?_;simp only [zz]
            refine wpList_op rfl fun K9 HK9 => ?_
            go_wp2_with fail
            refine (long_walk (c := o.L.c) (HOK.out.L.still HT4.out)).mono ?_
            rintro e w4 ⟨rfl, rfl⟩
            refine HK9.out _ _ ?_
            clear HK9
            try simp only [zz]
            by_cases hlo : Wl.long o.L.l
            · rw [decide_eq_true hlo]
              go_upto_region 11 with fail
              refine wp_region_lit ?_
              refine nR (.int .i64 (i : Int)) (exec_move rfl rfl) ?_;simp only [zz];refine nR (.int .i64 ((i + 1 : Nat) : Int)) (ix_add rfl rfl rfl (by omega) (by omega)) ?_;simp only [zz];refine nR (.int .i64 ((i + 1 : Nat) : Int)) (gx_assign rfl rfl) ?_;simp only [zz]
              have HCR := Lib.hid (show Cs w _ (2 * (i + 1)) [(b, f, L)] (Rn p x S n f (2 * (i + 1)) L) from HC4.out.upN (by omega) (by omega))
              go_wp2_with fail
              go_roundg (m - (i + 1))
              case measure => have := HGK.out; have := HLM.out; omega
              case rel => exact ⟨i + 1, b, f, L, rfl, rfl, by have := HLM.out; omega, HT4.out, HCR.out.size, .inl ⟨x, rfl, rfl, rfl, HCR.out⟩⟩
            · rw [decide_eq_false hlo]
              have HLO := Lib.hid hlo
              clear hlo
              go_upto_region 21 with fail
              refine wp_region_lit ?_
              refine nR (.pointer (some ⟨x, 0, none⟩)) (exec_move rfl rfl) ?_;simp only [zz];refine nR (.pointer (some ⟨v, 2, none⟩)) (exec_field (off := 0) (d := 2) rfl rfl (by kernel_rfl)) ?_;simp only [zz];refine nR (.slice o.L.A o.L.n o.L.c) (exec_load1 rfl rfl (by kernel_rfl) (HBv4.out.cell 2)) ?_;simp only [zz]
              refine wpList_op (wanted_none rfl) fun K9 HK9 => ?_
              go_wp2_with fail
              refine (HV4.out.append (cap := o.L.c) HT4.out (by omega) (HOK.out.L.still HT4.out) HLO.out).mono ?_
              rintro e w5 ⟨ht, hcs⟩
              have HT5 := Lib.hid ht
              clear ht
              rcases hcs with ⟨rfl, hs⟩ | ⟨rfl, hs⟩ | ⟨rfl, hs⟩
              · as_aux_lemma =>
                  have HV5 := Lib.hid hs
                  have HBv5 := Lib.hid hs.blk
                  clear hs HC4 HV4
                  refine HK9.out _ _ ?_
                  clear HK9
                  try simp only [zz]
                  refine nR (.tuple #[.int .i64 ((f + L.length : Nat) : Int), .int .i64 0]) (exec_move rfl rfl) ?_;simp only [zz];refine nR (.int .i64 ((f + L.length : Nat) : Int)) (ix_extract rfl rfl rfl) ?_;simp only [zz];refine nR (.int .i64 0) (ix_extract rfl rfl rfl) ?_;simp only [zz];refine nR (.int .i64 ((f + L.length : Nat) : Int)) (gx_assign rfl rfl) ?_;simp only [zz];refine nR (.int .i64 0) (gx_assign rfl rfl) ?_;simp only [zz]
                  go_upto_region 22 with fail
                  refine wp_region_lit ?_
                  refine nR (.int .i64 0) (exec_move rfl rfl) ?_;simp only [zz];refine nR (.bool false) (ix_eql rfl rfl rfl (by decide)) ?_;simp only [zz]
                  go_upto_region 24 with fail
                  refine wp_region_lit ?_
                  refine nR (.int .i64 0) (exec_move rfl rfl) ?_;simp only [zz];refine nR (.bool true) (ix_eql rfl rfl rfl (by decide)) ?_;simp only [zz]
                  go_upto_region 25 with fail
                  refine wp_region_lit ?_
                  refine nR (.int .i64 ((f + L.length : Nat) : Int)) (exec_move rfl rfl) ?_;simp only [zz];refine nR (.pointer (some ⟨b, 0, none⟩)) (exec_move rfl rfl) ?_;simp only [zz]
                  refine wpList_op rfl fun K9 HK9 => ?_
                  go_wp2_with fail
                  refine (HV5.out.cs.bnext (by omega) (List.mem_singleton.2 rfl)).mono ?_
                  rintro e w6 ⟨rfl, ht⟩
                  refine HK9.out _ _ ?_
                  clear HK9
                  try simp only [zz]
                  have HT6 := Lib.hid (HT5.out.trans ht fun _ _ e => e)
                  have HV6 := Lib.hid (HV5.out.still (by exact fun _ _ _ => Rn.still) ht)
                  have HBv6 := Lib.hid HV6.out.blk
                  clear ht HV5 HT5
                  refine nR (.bool false) (ix_neq rfl rfl rfl (decide_eq_false (fun e => e rfl))) ?_;simp only [zz]
                  go_upto_region 27 with fail
                  refine wp_region_lit ?_
                  refine nR (.pointer (some ⟨b, 0, none⟩)) (exec_move rfl rfl) ?_;simp only [zz];refine nR (.pointer (some ⟨v, 2, none⟩)) (exec_field (off := 0) (d := 2) rfl rfl (by kernel_rfl)) ?_;simp only [zz];refine nR (.slice o.L.A o.L.n o.L.c) (exec_load1 rfl rfl (by kernel_rfl) (HBv6.out.cell 2)) ?_;simp only [zz]
                  refine wpList_op rfl fun K9 HK9 => ?_
                  go_wp2_with fail
                  refine (HV6.out.cs.with_ (cap := o.L.c) (by exact fun _ _ _ => Rn.still) HT6.out (List.mem_singleton.2 rfl) (by have := HFL.out; omega) (HOK.out.L.still HT6.out)).mono ?_
                  rintro e w7 ⟨ht, b7, rfl, hs⟩
                  refine HK9.out _ _ ?_
                  clear HK9
                  try simp only [zz]
                  have HT7 := Lib.hid ht
                  have HC7 := Lib.hid (hs.sub (cs := [(b7, f, L ++ [o.L.l])]) fun e he => by rw [List.mem_singleton.1 he]; exact List.mem_cons_self ..)
                  clear ht hs
                  refine nR (.pointer (some ⟨b7, 0, none⟩)) (gx_assign rfl rfl) ?_;simp only [zz]
                  go_upto_region 11 with fail
                  refine wp_region_lit ?_
                  refine nR (.int .i64 (i : Int)) (exec_move rfl rfl) ?_;simp only [zz];refine nR (.int .i64 ((i + 1 : Nat) : Int)) (ix_add rfl rfl rfl (by omega) (by omega)) ?_;simp only [zz];refine nR (.int .i64 ((i + 1 : Nat) : Int)) (gx_assign rfl rfl) ?_;simp only [zz]
                  have HCR := Lib.hid (show Cs w _ (2 * (i + 1)) [(b7, f, (L ++ [o.L.l]))] (Rn p x S n f (2 * (i + 1)) (L ++ [o.L.l])) from HC7.out.upN (by omega) (by omega))
                  go_wp2_with fail
                  go_roundg (m - (i + 1))
                  case measure => have := HGK.out; have := HLM.out; omega
                  case rel => exact ⟨i + 1, b7, f, (L ++ [o.L.l]), rfl, rfl, by have := HLM.out; omega, HT7.out, HCR.out.size, .inl ⟨x, rfl, rfl, rfl, HCR.out⟩⟩
              · as_aux_lemma =>
                  have HV5 := Lib.hid hs
                  have HBv5 := Lib.hid hs.blk
                  clear hs HC4 HV4
                  refine HK9.out _ _ ?_
                  clear HK9
                  try simp only [zz]
                  refine nR (.tuple #[.int .i64 0, .int .i64 3]) (exec_move rfl rfl) ?_;simp only [zz];refine nR (.int .i64 0) (ix_extract rfl rfl rfl) ?_;simp only [zz];refine nR (.int .i64 3) (ix_extract rfl rfl rfl) ?_;simp only [zz];refine nR (.int .i64 0) (gx_assign rfl rfl) ?_;simp only [zz];refine nR (.int .i64 3) (gx_assign rfl rfl) ?_;simp only [zz]
                  go_upto_region 22 with fail
                  refine wp_region_lit ?_
                  refine nR (.int .i64 3) (exec_move rfl rfl) ?_;simp only [zz];refine nR (.bool false) (ix_eql rfl rfl rfl (by decide)) ?_;simp only [zz]
                  go_upto_region 24 with fail
                  refine wp_region_lit ?_
                  refine nR (.int .i64 3) (exec_move rfl rfl) ?_;simp only [zz];refine nR (.bool false) (ix_eql rfl rfl rfl (by decide)) ?_;simp only [zz]
                  go_upto_region 11 with fail
                  refine wp_region_lit ?_
                  refine nR (.int .i64 (i : Int)) (exec_move rfl rfl) ?_;simp only [zz];refine nR (.int .i64 ((i + 1 : Nat) : Int)) (ix_add rfl rfl rfl (by omega) (by omega)) ?_;simp only [zz];refine nR (.int .i64 ((i + 1 : Nat) : Int)) (gx_assign rfl rfl) ?_;simp only [zz]
                  have HCR := Lib.hid (show Cs w _ (2 * (i + 1)) [(b, f, L)] (Rn p x S n f (2 * (i + 1)) L) from HV5.out.cs.upN (by omega) (by omega))
                  go_wp2_with fail
                  go_roundg (m - (i + 1))
                  case measure => have := HGK.out; have := HLM.out; omega
                  case rel => exact ⟨i + 1, b, f, L, rfl, rfl, by have := HLM.out; omega, HT5.out, HCR.out.size, .inl ⟨x, rfl, rfl, rfl, HCR.out⟩⟩
              · as_aux_lemma =>
                  have HV5 := Lib.hid hs
                  have HBv5 := Lib.hid hs.blk
                  clear hs HC4 HV4
                  refine HK9.out _ _ ?_
                  clear HK9
                  try simp only [zz]
                  refine nR (.tuple #[.int .i64 0, .int .i64 2]) (exec_move rfl rfl) ?_;simp only [zz];refine nR (.int .i64 0) (ix_extract rfl rfl rfl) ?_;simp only [zz];refine nR (.int .i64 2) (ix_extract rfl rfl rfl) ?_;simp only [zz];refine nR (.int .i64 0) (gx_assign rfl rfl) ?_;simp only [zz];refine nR (.int .i64 2) (gx_assign rfl rfl) ?_;simp only [zz]
                  go_upto_region 22 with fail
                  refine wp_region_lit ?_
                  refine nR (.int .i64 2) (exec_move rfl rfl) ?_;simp only [zz];refine nR (.bool true) (ix_eql rfl rfl rfl (by decide)) ?_;simp only [zz]
                  go_upto_region 23 with fail
                  refine wp_region_lit ?_
                  refine nR (.pointer (some ⟨b, 0, none⟩)) (exec_move rfl rfl) ?_;simp only [zz];refine nR (.pointer (some ⟨v, 2, none⟩)) (exec_field (off := 0) (d := 2) rfl rfl (by kernel_rfl)) ?_;simp only [zz];refine nR (.slice o.L.A o.L.n o.L.c) (exec_load1 rfl rfl (by kernel_rfl) (HBv5.out.cell 2)) ?_;simp only [zz]
                  refine wpList_op rfl fun K9 HK9 => ?_
                  go_wp2_with fail
                  refine (HV5.out.cs.with_ (cap := o.L.c) (by exact fun _ _ _ => Rf.still) HT5.out (List.mem_singleton.2 rfl) (by have := HFL.out; omega) (HOK.out.L.still HT5.out)).mono ?_
                  rintro e w7 ⟨ht, b7, rfl, hs⟩
                  refine HK9.out _ _ ?_
                  clear HK9
                  try simp only [zz]
                  have HT7 := Lib.hid ht
                  have HC7 := Lib.hid hs
                  clear ht hs
                  refine nR (.pointer (some ⟨b7, 0, none⟩)) (gx_assign rfl rfl) ?_;simp only [zz]
                  go_upto_region 11 with fail
                  refine wp_region_lit ?_
                  refine nR (.int .i64 (i : Int)) (exec_move rfl rfl) ?_;simp only [zz];refine nR (.int .i64 ((i + 1 : Nat) : Int)) (ix_add rfl rfl rfl (by omega) (by omega)) ?_;simp only [zz];refine nR (.int .i64 ((i + 1 : Nat) : Int)) (gx_assign rfl rfl) ?_;simp only [zz]
                  go_wp2_with fail
                  go_roundg (m - (i + 1))
                  case measure => have := HGK.out; have := HLM.out; omega
                  case rel => exact ⟨i + 1, b, f, L, rfl, rfl, by have := HLM.out; omega, HT7.out, by have := HFL.out; omega, .inr (of_two HC7.out (List.mem_cons_of_mem _ (List.mem_singleton.2 rfl)) (List.mem_cons_self ..) (by omega))⟩
        · as_aux_lemma =>
            rw [decide_eq_false h4]
            by_cases hk5 : kk = 5
            · as_aux_lemma =>
                go_upto_region 28 with fail
                refine wp_region_lit ?_
                refine nR (.bool true) (ix_eql rfl rfl rfl (decide_eq_true hk5)) ?_;simp only [zz];refine nR (.bool true) (gx_assign rfl rfl) ?_;simp only [zz]
                have HKF := Lib.hid hk5
                clear hk5
                obtain ⟨⟨Zb, hbk⟩, _⟩ := HC4.out.bk (List.mem_singleton.2 rfl)
                obtain ⟨ub, hbb, hgb, _⟩ := hbk
                obtain ⟨Ab, cb, rfl, _, _⟩ := hgb.len
                obtain ⟨kc, hkc⟩ : ∃ kc : Nat, amongI o.n ((L.length + 1 : Nat) : Int) = (kc : Int) := ⟨(amongI o.n ((L.length + 1 : Nat) : Int)).toNat, by have := (among_in (c := o.n) (n := ((L.length + 1 : Nat) : Int)) (by omega)).1; omega⟩
                have hkl : kc ≤ L.length := by have := (among_in (c := o.n) (n := ((L.length + 1 : Nat) : Int)) (by omega)).2; omega
                have HKC := Lib.hid hkc
                have HKL := Lib.hid hkl
                obtain ⟨ll, hll⟩ : ∃ ll, ll = L.length := ⟨_, rfl⟩
                have HLL := Lib.hid hll
                have yl : f + ll ≤ 2 * i := by rw [hll]; exact HFL.out
                rw [← hll] at hbb
                have HD0 := Lib.hid (Turn.refl nowhere w4).drew
                have HBBd := Lib.hid (show Blk w4.drew b 32 #[.int .i64 (f : Int), .slice Ab ll cb] from hbb)
                have HBvd := Lib.hid (show Blk w4.drew v 36 o.cells.toArray from HBv4.out)
                clear hbb hgb hkc hkl hll
                go_upto_region 29 with fail
                refine wp_region_alw (fun W => Blk W b 32 #[.int .i64 (f : Int), .slice Ab ll cb] ∧ Blk W v 36 o.cells.toArray) (by kernel_rfl) ?_
                have hS0 : Blk w4.drew b 32 #[.int .i64 (f : Int), .slice Ab ll cb] ∧ Blk w4.drew v 36 o.cells.toArray := ⟨HBBd.out, HBvd.out⟩
                refine alw_take (i := 0) (v := .pointer (some ⟨b, 0, none⟩)) rfl (by kernel_rfl) (by kernel_rfl) (fun _ _ _ h => h) (.inl ⟨by rfl, fun W hW => exec_move rfl rfl⟩) hS0 ?_
                simp only [zz]
                refine alw_take (i := 1) (v := .pointer (some ⟨b, 0, none⟩)) rfl (by kernel_rfl) (by kernel_rfl) (fun _ _ _ h => h) (.inl ⟨by rfl, fun W hW => exec_nil rfl rfl⟩) hS0 ?_
                simp only [zz]
                refine alw_take (i := 2) (v := .pointer (some ⟨b, 0, none⟩)) rfl (by kernel_rfl) (by kernel_rfl) (fun _ _ _ h => h) (.inl ⟨by rfl, fun W hW => exec_field (off := 0) (d := 0) rfl rfl (by kernel_rfl)⟩) hS0 ?_
                simp only [zz]
                refine alw_take (i := 3) (v := .int .i64 (f : Int)) rfl (by kernel_rfl) (by kernel_rfl) (fun _ _ _ h => h) (.inl ⟨by rfl, fun W hW => exec_load1 rfl rfl (by kernel_rfl) (hW.1.cell 0)⟩) hS0 ?_
                simp only [zz]
                refine alw_take (i := 4) (v := .pointer (some ⟨v, 1, none⟩)) rfl (by kernel_rfl) (by kernel_rfl) (fun _ _ _ h => h) (.inl ⟨by rfl, fun W hW => exec_field (off := 0) (d := 1) rfl rfl (by kernel_rfl)⟩) hS0 ?_
                simp only [zz]
                refine alw_take (i := 5) (v := .int .i64 o.n) rfl (by kernel_rfl) (by kernel_rfl) (fun _ _ _ h => h) (.inl ⟨by rfl, fun W hW => exec_load1 rfl rfl (by kernel_rfl) (hW.2.cell 1)⟩) hS0 ?_
                simp only [zz]
                refine alw_take (i := 6) (v := .pointer (some ⟨b, 0, none⟩)) rfl (by kernel_rfl) (by kernel_rfl) (fun _ _ _ h => h) (.inl ⟨by rfl, fun W hW => exec_move rfl rfl⟩) hS0 ?_
                simp only [zz]
                refine alw_take (i := 7) (v := .pointer (some ⟨b, 0, none⟩)) rfl (by kernel_rfl) (by kernel_rfl) (fun _ _ _ h => h) (.inl ⟨by rfl, fun W hW => exec_nil rfl rfl⟩) hS0 ?_
                simp only [zz]
                refine alw_take (i := 8) (v := .pointer (some ⟨b, 1, none⟩)) rfl (by kernel_rfl) (by kernel_rfl) (fun _ _ _ h => h) (.inl ⟨by rfl, fun W hW => exec_field (off := 0) (d := 1) rfl rfl (by kernel_rfl)⟩) hS0 ?_
                simp only [zz]
                refine alw_take (i := 9) (v := .slice Ab ll cb) rfl (by kernel_rfl) (by kernel_rfl) (fun _ _ _ h => h) (.inl ⟨by rfl, fun W hW => exec_load1 rfl rfl (by kernel_rfl) (hW.1.cell 1)⟩) hS0 ?_
                simp only [zz]
                refine alw_take (i := 10) (v := .int .i64 (ll : Int)) rfl (by kernel_rfl) (by kernel_rfl) (fun _ _ _ h => h) (.inl ⟨by rfl, fun W hW => gx_len rfl rfl Tryd.underlying30⟩) hS0 ?_
                simp only [zz]
                refine alw_take (i := 11) (v := .int .i64 ((ll + 1 : Nat) : Int)) rfl (by kernel_rfl) (by kernel_rfl) (fun _ _ _ h => h) (.inl ⟨by rfl, fun W hW => ix_add rfl rfl rfl (by omega) (by omega)⟩) hS0 ?_
                simp only [zz]
                refine alw_step (i := 12) (by kernel_rfl) rfl rfl ?_
                intro K1 HK1
                go_wp2_with fail
                refine (among_walk o.n ((ll + 1 : Nat) : Int) HOK.out.n (by omega)).mono ?_
                rintro e w5 ⟨rfl, rfl⟩

                refine HK1.out _ _ ⟨hS0, ?_⟩
                clear HK1
                try simp only [zz]
                rw [HLL.out, HKC.out, ← HLL.out]
                refine alw_take (i := 13) (v := .int .i64 ((f + kc : Nat) : Int)) rfl (by kernel_rfl) (by kernel_rfl) (fun _ _ _ h => h) (.inl ⟨by rfl, fun W hW => ix_add rfl rfl rfl (by omega) (by have := HKL.out; have := HLL.out; omega)⟩) hS0 ?_
                simp only [zz]
                refine alw_take (i := 14) (v := .int .i64 ((f + kc : Nat) : Int)) rfl (by kernel_rfl) (by kernel_rfl) (fun _ _ _ h => h) (.inl ⟨by rfl, fun W hW => gx_assign rfl rfl⟩) hS0 ?_
                simp only [zz]
                refine alw_done rfl ?_
                refine NoPanic.normal ?_
                clear hS0
                try simp only [zz]
                have HC4d := Lib.hid (HC4.out.still (by exact fun _ _ _ => Rn.still) HD0.out)
                have HT4d := Lib.hid (HT4.out.trans HD0.out fun _ _ e => e)
                generalize w4.drew = wd at *
                clear HBBd HBvd HD0 HC4 HV4
                go_upto_region 30 with fail
                refine wp_region_lit ?_
                refine nR (.pointer (some ⟨x, 0, none⟩)) (exec_move rfl rfl) ?_;simp only [zz];refine nR (.int .i64 ((f + kc : Nat) : Int)) (exec_move rfl rfl) ?_;simp only [zz]
                refine wpList_op (wanted_none rfl) fun K9 HK9 => ?_
                go_wp2_with fail
                refine (HC4d.out.cut HT4d.out (by omega) HKL.out).mono ?_
                rintro e w5 ⟨ht, hcs⟩
                have HT5 := Lib.hid ht
                clear ht
                rcases hcs with ⟨rfl, hs⟩ | ⟨rfl, hs⟩
                · as_aux_lemma =>
                    have HC5 := Lib.hid hs
                    clear hs HC4d
                    refine HK9.out _ _ ?_
                    clear HK9
                    try simp only [zz]
                    refine nR (.int .i64 0) (gx_assign rfl rfl) ?_;simp only [zz]
                    go_upto_region 31 with fail
                    refine wp_region_lit ?_
                    refine nR (.int .i64 0) (exec_move rfl rfl) ?_;simp only [zz];refine nR (.bool false) (ix_eql rfl rfl rfl (by decide)) ?_;simp only [zz]
                    go_upto_region 33 with fail
                    refine wp_region_lit ?_
                    refine nR (.int .i64 0) (exec_move rfl rfl) ?_;simp only [zz];refine nR (.bool false) (ix_neq rfl rfl rfl (by decide)) ?_;simp only [zz]
                    go_upto_region 35 with fail
                    refine wp_region_lit ?_
                    refine nR (.pointer (some ⟨b, 0, none⟩)) (exec_move rfl rfl) ?_;simp only [zz];refine nR (.int .i64 ((f + kc : Nat) : Int)) (exec_move rfl rfl) ?_;simp only [zz]
                    refine wpList_op rfl fun K9 HK9 => ?_
                    go_wp2_with fail
                    refine (HC5.out.cutBook (by exact fun _ _ _ => Rn.still) HT5.out (List.mem_singleton.2 rfl) (by omega) HKL.out).mono ?_
                    rintro e w7 ⟨ht, b7, rfl, hs⟩
                    refine HK9.out _ _ ?_
                    clear HK9
                    try simp only [zz]
                    have HT7 := Lib.hid ht
                    have HC7 := Lib.hid (hs.sub (cs := [(b7, f + kc, L.drop kc)]) fun e he => by rw [List.mem_singleton.1 he]; exact List.mem_cons_self ..)
                    clear ht hs
                    refine nR (.pointer (some ⟨b7, 0, none⟩)) (gx_assign rfl rfl) ?_;simp only [zz]
                    go_upto_region 11 with fail
                    refine wp_region_lit ?_
                    refine nR (.int .i64 (i : Int)) (exec_move rfl rfl) ?_;simp only [zz];refine nR (.int .i64 ((i + 1 : Nat) : Int)) (ix_add rfl rfl rfl (by omega) (by omega)) ?_;simp only [zz];refine nR (.int .i64 ((i + 1 : Nat) : Int)) (gx_assign rfl rfl) ?_;simp only [zz]
                    have HCR := Lib.hid (show Cs w _ (2 * (i + 1)) [(b7, (f + kc), (L.drop kc))] (Rn p x S n (f + kc) (2 * (i + 1)) (L.drop kc)) from HC7.out.upN (by omega) (by omega))
                    go_wp2_with fail
                    go_roundg (m - (i + 1))
                    case measure => have := HGK.out; have := HLM.out; omega
                    case rel => exact ⟨i + 1, b7, (f + kc), (L.drop kc), rfl, rfl, by have := HLM.out; omega, HT7.out, HCR.out.size, .inl ⟨x, rfl, rfl, rfl, HCR.out⟩⟩
                · as_aux_lemma =>
                    have HC5 := Lib.hid hs
                    clear hs HC4d
                    refine HK9.out _ _ ?_
                    clear HK9
                    try simp only [zz]
                    refine nR (.int .i64 2) (gx_assign rfl rfl) ?_;simp only [zz]
                    go_upto_region 31 with fail
                    refine wp_region_lit ?_
                    refine nR (.int .i64 2) (exec_move rfl rfl) ?_;simp only [zz];refine nR (.bool true) (ix_eql rfl rfl rfl (by decide)) ?_;simp only [zz]
                    go_upto_region 32 with fail
                    refine wp_region_lit ?_
                    refine nR (.pointer (some ⟨b, 0, none⟩)) (exec_move rfl rfl) ?_;simp only [zz];refine nR (.int .i64 ((f + kc : Nat) : Int)) (exec_move rfl rfl) ?_;simp only [zz]
                    refine wpList_op rfl fun K9 HK9 => ?_
                    go_wp2_with fail
                    refine (HC5.out.cutBook (by exact fun _ _ _ => Rf.still) HT5.out (List.mem_singleton.2 rfl) (by omega) HKL.out).mono ?_
                    rintro e w7 ⟨ht, b7, rfl, hs⟩
                    refine HK9.out _ _ ?_
                    clear HK9
                    try simp only [zz]
                    have HT7 := Lib.hid ht
                    have HC7 := Lib.hid hs
                    clear ht hs
                    refine nR (.pointer (some ⟨b7, 0, none⟩)) (gx_assign rfl rfl) ?_;simp only [zz]
                    go_upto_region 11 with fail
                    refine wp_region_lit ?_
                    refine nR (.int .i64 (i : Int)) (exec_move rfl rfl) ?_;simp only [zz];refine nR (.int .i64 ((i + 1 : Nat) : Int)) (ix_add rfl rfl rfl (by omega) (by omega)) ?_;simp only [zz];refine nR (.int .i64 ((i + 1 : Nat) : Int)) (gx_assign rfl rfl) ?_;simp only [zz]
                    go_wp2_with fail
                    go_roundg (m - (i + 1))
                    case measure => have := HGK.out; have := HLM.out; omega
                    case rel => exact ⟨i + 1, b, f, L, rfl, rfl, by have := HLM.out; omega, HT7.out, by have := HFL.out; omega, .inr (of_two HC7.out (List.mem_cons_of_mem _ (List.mem_singleton.2 rfl)) (List.mem_cons_self ..) (by omega))⟩
            · go_upto_region 28 with fail
              refine wp_region_lit ?_
              refine nR (.bool false) (ix_eql rfl rfl rfl (decide_eq_false hk5)) ?_;simp only [zz];refine nR (.bool false) (gx_assign rfl rfl) ?_;simp only [zz]
              by_cases hk6 : kk = 6
              · as_aux_lemma =>
                  go_upto_region 36 with fail
                  refine wp_region_lit ?_
                  refine nR (.bool true) (ix_eql rfl rfl rfl (decide_eq_true hk6)) ?_;simp only [zz];refine nR (.bool true) (gx_assign rfl rfl) ?_;simp only [zz]
                  have HKF := Lib.hid hk6
                  clear hk6
                  go_upto_region 37 with fail
                  refine wp_region_lit ?_
                  refine nR (.pointer (some ⟨p, 0, none⟩)) (exec_move rfl rfl) ?_;simp only [zz]
                  refine wpList_op (wanted_none rfl) fun K9 HK9 => ?_
                  go_wp2_with fail
                  refine (HC4.out.closed.openB HT4.out (by omega) (fun X h => h) HC4.out.size HSG.out HS0.out).mono ?_
                  rintro e w5 ⟨ht, hcs⟩
                  have HT5 := Lib.hid ht
                  clear ht
                  rcases hcs with ⟨x5, rfl, hs⟩ | ⟨_, rfl, hs⟩
                  · as_aux_lemma =>
                      have HC5 := Lib.hid hs
                      clear hs HC4 HV4
                      refine HK9.out _ _ ?_
                      clear HK9
                      try simp only [zz]
                      refine nR (.tuple #[.pointer (some ⟨x5, 0, none⟩), .int .i64 0]) (exec_move rfl rfl) ?_;simp only [zz];refine nR (.pointer (some ⟨x5, 0, none⟩)) (ix_extract rfl rfl rfl) ?_;simp only [zz];refine nR (.int .i64 0) (ix_extract rfl rfl rfl) ?_;simp only [zz];refine nR (.pointer (some ⟨x5, 0, none⟩)) (gx_assign rfl rfl) ?_;simp only [zz];refine nR (.int .i64 0) (gx_assign rfl rfl) ?_;simp only [zz]
                      go_upto_region 38 with fail
                      refine wp_region_lit ?_
                      refine nR (.int .i64 0) (exec_move rfl rfl) ?_;simp only [zz];refine nR (.bool false) (ix_eql rfl rfl rfl (by decide)) ?_;simp only [zz]
                      go_upto_region 39 with fail
                      refine wp_region_lit ?_
                      refine nR (.pointer (some ⟨x5, 0, none⟩)) (exec_move rfl rfl) ?_;simp only [zz];refine nR (.bool false) (ptr_nilW rfl rfl rfl rfl) ?_;simp only [zz];refine nR (.bool false) (exec_move rfl rfl) ?_;simp only [zz];refine wpList_run (v := .int .i64 0) rfl (exec_move rfl rfl) ?_;simp only [zz];refine wpList_run (v := .bool false) rfl (ix_neq rfl rfl rfl (by decide)) ?_;simp only [zz];refine nR (.bool false) (ix_pickF rfl rfl rfl) ?_;simp only [zz]
                      go_upto_region 41 with fail
                      refine wp_region_lit ?_
                      refine nR (.pointer (some ⟨x5, 0, none⟩)) (exec_move rfl rfl) ?_;simp only [zz];refine nR (.pointer (some ⟨x5, 0, none⟩)) (gx_assign rfl rfl) ?_;simp only [zz]
                      go_upto_region 11 with fail
                      refine wp_region_lit ?_
                      refine nR (.int .i64 (i : Int)) (exec_move rfl rfl) ?_;simp only [zz];refine nR (.int .i64 ((i + 1 : Nat) : Int)) (ix_add rfl rfl rfl (by omega) (by omega)) ?_;simp only [zz];refine nR (.int .i64 ((i + 1 : Nat) : Int)) (gx_assign rfl rfl) ?_;simp only [zz]
                      have HCR := Lib.hid (show Cs w _ (2 * (i + 1)) [(b, f, L)] (Rn p x5 S n f (2 * (i + 1)) L) from HC5.out.upN (by omega) (by omega))
                      go_wp2_with fail
                      go_roundg (m - (i + 1))
                      case measure => have := HGK.out; have := HLM.out; omega
                      case rel => exact ⟨i + 1, b, f, L, rfl, rfl, by have := HLM.out; omega, HT5.out, HCR.out.size, .inl ⟨x5, rfl, rfl, rfl, HCR.out⟩⟩
                  · as_aux_lemma =>
                      have HC5 := Lib.hid hs
                      clear hs HC4 HV4
                      refine HK9.out _ _ ?_
                      clear HK9
                      try simp only [zz]
                      refine nR (.tuple #[.pointer none, .int .i64 2]) (exec_move rfl rfl) ?_;simp only [zz];refine nR (.pointer none) (ix_extract rfl rfl rfl) ?_;simp only [zz];refine nR (.int .i64 2) (ix_extract rfl rfl rfl) ?_;simp only [zz];refine nR (.pointer none) (gx_assign rfl rfl) ?_;simp only [zz];refine nR (.int .i64 2) (gx_assign rfl rfl) ?_;simp only [zz]
                      go_upto_region 38 with fail
                      refine wp_region_lit ?_
                      refine nR (.int .i64 2) (exec_move rfl rfl) ?_;simp only [zz];refine nR (.bool true) (ix_eql rfl rfl rfl (by decide)) ?_;simp only [zz]
                      go_upto_region 11 with fail
                      refine wp_region_lit ?_
                      refine nR (.int .i64 (i : Int)) (exec_move rfl rfl) ?_;simp only [zz];refine nR (.int .i64 ((i + 1 : Nat) : Int)) (ix_add rfl rfl rfl (by omega) (by omega)) ?_;simp only [zz];refine nR (.int .i64 ((i + 1 : Nat) : Int)) (gx_assign rfl rfl) ?_;simp only [zz]
                      go_wp2_with fail
                      go_roundg (m - (i + 1))
                      case measure => have := HGK.out; have := HLM.out; omega
                      case rel => exact ⟨i + 1, b, f, L, rfl, rfl, by have := HLM.out; omega, HT5.out, by have := HFL.out; omega, .inr ((of_one HC5.out (List.mem_singleton.2 rfl) (Nat.le_refl _)).mono (by omega))⟩
              · go_upto_region 36 with fail
                refine wp_region_lit ?_
                refine nR (.bool false) (ix_eql rfl rfl rfl (decide_eq_false hk6)) ?_;simp only [zz];refine nR (.bool false) (gx_assign rfl rfl) ?_;simp only [zz]
                by_cases hk7 : kk = 7
                · as_aux_lemma =>
                    go_upto_region 42 with fail
                    refine wp_region_lit ?_
                    refine nR (.bool true) (ix_eql rfl rfl rfl (decide_eq_true hk7)) ?_;simp only [zz];refine nR (.bool true) (gx_assign rfl rfl) ?_;simp only [zz]
                    have HKF := Lib.hid hk7
                    clear hk7
                    go_upto_region 43 with fail
                    refine wp_region_lit ?_
                    refine nR (.pointer (some ⟨p, 0, none⟩)) (exec_move rfl rfl) ?_;simp only [zz];refine nR (.pointer (some ⟨v, 1, none⟩)) (exec_field (off := 0) (d := 1) rfl rfl (by kernel_rfl)) ?_;simp only [zz];refine nR (.int .i64 o.n) (exec_load1 rfl rfl (by kernel_rfl) (HBv4.out.cell 1)) ?_;simp only [zz]
                    refine wpList_op rfl fun K9 HK9 => ?_
                    go_wp2_with fail
                    refine (HC4.out.fuse HT4.out o.n HOK.out.n).mono ?_
                    rintro e w5 ⟨rfl, ht, hs⟩
                    refine HK9.out _ _ ?_
                    clear HK9
                    try simp only [zz]
                    have HT5 := Lib.hid ht
                    have HC5 := Lib.hid hs
                    clear ht hs HC4 HV4
                    go_upto_region 11 with fail
                    refine wp_region_lit ?_
                    refine nR (.int .i64 (i : Int)) (exec_move rfl rfl) ?_;simp only [zz];refine nR (.int .i64 ((i + 1 : Nat) : Int)) (ix_add rfl rfl rfl (by omega) (by omega)) ?_;simp only [zz];refine nR (.int .i64 ((i + 1 : Nat) : Int)) (gx_assign rfl rfl) ?_;simp only [zz]
                    have HCR := Lib.hid (show Cs w _ (2 * (i + 1)) [(b, f, L)] (Rn p x S n f (2 * (i + 1)) L) from HC5.out.upN (by omega) (by omega))
                    go_wp2_with fail
                    go_roundg (m - (i + 1))
                    case measure => have := HGK.out; have := HLM.out; omega
                    case rel => exact ⟨i + 1, b, f, L, rfl, rfl, by have := HLM.out; omega, HT5.out, HCR.out.size, .inl ⟨x, rfl, rfl, rfl, HCR.out⟩⟩
                · go_upto_region 42 with fail
                  refine wp_region_lit ?_
                  refine nR (.bool false) (ix_eql rfl rfl rfl (decide_eq_false hk7)) ?_;simp only [zz];refine nR (.bool false) (gx_assign rfl rfl) ?_;simp only [zz]
                  by_cases hk8 : kk = 8
                  · as_aux_lemma =>
                      go_upto_region 44 with fail
                      refine wp_region_lit ?_
                      refine nR (.bool true) (ix_eql rfl rfl rfl (decide_eq_true hk8)) ?_;simp only [zz];refine nR (.bool true) (gx_assign rfl rfl) ?_;simp only [zz]
                      have HKF := Lib.hid hk8
                      clear hk8
                      go_upto_region 45 with fail
                      refine wp_region_lit ?_
                      refine nR (.pointer (some ⟨p, 0, none⟩)) (exec_move rfl rfl) ?_;simp only [zz];refine nR (.pointer (some ⟨v, 3, none⟩)) (exec_field (off := 0) (d := 3) rfl rfl (by kernel_rfl)) ?_;simp only [zz];refine nR (.slice o.K.A o.K.n o.K.c) (exec_load1 rfl rfl (by kernel_rfl) (HBv4.out.cell 3)) ?_;simp only [zz]
                      have hcl := HC4.out.closed
                      have hbo := hcl.bootB (q := o.K.c) HT4.out (by omega) HOK.out.K
                      refine wpList_op rfl fun K9 HK9 => ?_
                      go_wp2_with fail
                      refine (hbo).mono ?_
                      rintro e w5 ⟨rfl, ht, hs⟩
                      refine HK9.out _ _ ?_
                      clear HK9
                      try simp only [zz]
                      have HT5 := Lib.hid ht
                      have HB5 := Lib.hid (show (b, f, L) ∈ [(b, f, L)] from List.mem_singleton.2 rfl)
                      clear ht hcl hbo HC4 HV4
                      have HC5 := Lib.hid hs
                      clear hs
                      go_upto_region 46 with fail
                      refine wp_region_lit ?_
                      refine nR (.pointer (some ⟨p, 0, none⟩)) (exec_move rfl rfl) ?_;simp only [zz]
                      refine wpList_op (wanted_none rfl) fun K9 HK9 => ?_
                      go_wp2_with fail
                      refine (HC5.out.openB HT5.out (by omega) (fun X h => h) (by have := HFL.out; omega) HSG.out HS0.out).mono ?_
                      rintro e w6 ⟨ht, ⟨x6, rfl, hs⟩ | ⟨hbad, _⟩⟩
                      rotate_left
                      · exact absurd trivial hbad
                      have HT6 := Lib.hid ht
                      have HC6 := Lib.hid hs
                      clear ht hs HC5
                      refine HK9.out _ _ ?_
                      clear HK9
                      try simp only [zz]
                      refine nR (.tuple #[.pointer (some ⟨x6, 0, none⟩), .int .i64 0]) (exec_move rfl rfl) ?_;simp only [zz];refine nR (.pointer (some ⟨x6, 0, none⟩)) (ix_extract rfl rfl rfl) ?_;simp only [zz];refine nR (.int .i64 0) (ix_extract rfl rfl rfl) ?_;simp only [zz];refine nR (.pointer (some ⟨x6, 0, none⟩)) (gx_assign rfl rfl) ?_;simp only [zz];refine nR (.int .i64 0) (gx_assign rfl rfl) ?_;simp only [zz]
                      go_upto_region 47 with fail
                      refine wp_region_lit ?_
                      refine nR (.pointer (some ⟨x6, 0, none⟩)) (exec_move rfl rfl) ?_;simp only [zz];refine nR (.bool false) (ptr_nilW rfl rfl rfl rfl) ?_;simp only [zz];refine nR (.bool false) (exec_move rfl rfl) ?_;simp only [zz];refine wpList_skip (by go_simp) ?_;simp only [zz];refine wpList_skip (by go_simp) ?_;simp only [zz];refine nR (.bool false) (ix_pickF rfl rfl rfl) ?_;simp only [zz];refine nR (.bool false) (exec_move rfl rfl) ?_;simp only [zz];refine wpList_skip (by go_simp) ?_;simp only [zz];refine nR (.bool false) (ix_pickF rfl rfl rfl) ?_;simp only [zz]
                      go_upto_region 54 with fail
                      refine wp_region_lit ?_
                      refine nR (.bool false) (gx_assign rfl rfl) ?_;simp only [zz]
                      go_upto_region 55 with fail
                      refine wp_region_lit ?_
                      refine nR (.pointer (some ⟨x6, 0, none⟩)) (exec_move rfl rfl) ?_;simp only [zz];refine nR (.bool false) (ptr_nilW rfl rfl rfl rfl) ?_;simp only [zz];refine nR (.bool false) (exec_move rfl rfl) ?_;simp only [zz];refine wpList_run (v := .int .i64 0) rfl (exec_move rfl rfl) ?_;simp only [zz];refine wpList_run (v := .bool false) rfl (ix_neq rfl rfl rfl (by decide)) ?_;simp only [zz];refine nR (.bool false) (ix_pickF rfl rfl rfl) ?_;simp only [zz]
                      go_upto_region 57 with fail
                      refine wp_region_lit ?_
                      refine nR (.pointer (some ⟨x6, 0, none⟩)) (exec_move rfl rfl) ?_;simp only [zz];refine nR (.pointer (some ⟨x6, 0, none⟩)) (gx_assign rfl rfl) ?_;simp only [zz]
                      go_upto_region 58 with fail
                      refine wp_region_lit ?_
                      refine nR (.pointer (some ⟨b, 0, none⟩)) (exec_move rfl rfl) ?_;simp only [zz];refine nR (.pointer (some ⟨x6, 0, none⟩)) (exec_move rfl rfl) ?_;simp only [zz]
                      refine wpList_op rfl fun K9 HK9 => ?_
                      go_wp2_with fail
                      refine (HC6.out.like (by omega) HB5.out).mono ?_
                      rintro e w7 ⟨rfl, ht⟩
                      refine HK9.out _ _ ?_
                      clear HK9
                      try simp only [zz]
                      try rw [decide_eq_true (⟨rfl, rfl⟩ : f = f ∧ L = L)]
                      have HT7 := Lib.hid (HT6.out.trans ht fun _ _ e => e)
                      have HC7 := Lib.hid ((HC6.out.still (by exact fun _ _ _ => Rn.still) ht).sub (cs := [(b, f, L)]) fun e he => by rw [List.mem_singleton.1 he]; exact HB5.out)
                      clear ht
                      refine nR (.bool true) (gx_assign rfl rfl) ?_;simp only [zz]
                      go_upto_region 59 with fail
                      refine wp_region_lit ?_
                      refine nR (.bool true) (exec_move rfl rfl) ?_;simp only [zz];refine nR (.bool false) (ix_not (b := true) rfl rfl) ?_;simp only [zz]
                      go_upto_region 66 with fail
                      refine wp_region_lit ?_
                      refine nR (.pointer none) (gx_assign rfl rfl) ?_;simp only [zz]
                      go_upto_region 11 with fail
                      refine wp_region_lit ?_
                      refine nR (.int .i64 (i : Int)) (exec_move rfl rfl) ?_;simp only [zz];refine nR (.int .i64 ((i + 1 : Nat) : Int)) (ix_add rfl rfl rfl (by omega) (by omega)) ?_;simp only [zz];refine nR (.int .i64 ((i + 1 : Nat) : Int)) (gx_assign rfl rfl) ?_;simp only [zz]
                      have HCR := Lib.hid (show Cs w _ (2 * (i + 1)) [(b, f, L)] (Rn p x6 S n f (2 * (i + 1)) L) from HC7.out.upN (by omega) (by omega))
                      go_wp2_with fail
                      go_roundg (m - (i + 1))
                      case measure => have := HGK.out; have := HLM.out; omega
                      case rel => exact ⟨i + 1, b, f, L, rfl, rfl, by have := HLM.out; omega, HT7.out, HCR.out.size, .inl ⟨x6, rfl, rfl, rfl, HCR.out⟩⟩
                  · go_upto_region 44 with fail
                    refine wp_region_lit ?_
                    refine nR (.bool false) (ix_eql rfl rfl rfl (decide_eq_false hk8)) ?_;simp only [zz];refine nR (.bool false) (gx_assign rfl rfl) ?_;simp only [zz]
                    by_cases hk9 : kk = 9
                    · as_aux_lemma =>
                        go_upto_region 67 with fail
                        refine wp_region_lit ?_
                        refine nR (.bool true) (ix_eql rfl rfl rfl (decide_eq_true hk9)) ?_;simp only [zz];refine nR (.bool true) (gx_assign rfl rfl) ?_;simp only [zz]
                        have HKF := Lib.hid hk9
                        clear hk9
                        by_cases h7 : o.n = 7
                        · go_upto_region 68 with fail
                          refine wp_region_lit ?_
                          refine nR (.pointer (some ⟨v, 1, none⟩)) (exec_field (off := 0) (d := 1) rfl rfl (by kernel_rfl)) ?_;simp only [zz];refine nR (.int .i64 o.n) (exec_load1 rfl rfl (by kernel_rfl) (HBv4.out.cell 1)) ?_;simp only [zz];refine nR (.bool false) (ix_neq rfl rfl rfl (decide_eq_false (fun e => e h7))) ?_;simp only [zz]
                          have HN7 := Lib.hid h7
                          clear h7
                          go_upto_region 69 with fail
                          refine wp_region_lit ?_
                          refine nR (.pointer (some ⟨p, 0, none⟩)) (exec_move rfl rfl) ?_;simp only [zz]
                          refine wpList_op (wanted_none rfl) fun K9 HK9 => ?_
                          go_wp2_with fail
                          refine (HC4.out.format HT4.out (by omega) HSG.out HS0.out).mono ?_
                          rintro e w5 ⟨ht, hcs⟩
                          have HT5 := Lib.hid ht
                          clear ht
                          rcases hcs with ⟨rfl, hs⟩ | ⟨rfl, hs⟩
                          · have HC5 := Lib.hid hs
                            clear hs HC4 HV4
                            refine HK9.out _ _ ?_
                            clear HK9
                            try simp only [zz]
                            refine nR (.int .i64 0) (gx_assign rfl rfl) ?_;simp only [zz]
                            go_upto_region 70 with fail
                            refine wp_region_lit ?_
                            refine nR (.int .i64 0) (exec_move rfl rfl) ?_;simp only [zz];refine nR (.bool false) (ix_eql rfl rfl rfl (by decide)) ?_;simp only [zz]
                            go_upto_region 73 with fail
                            refine wp_region_lit ?_
                            refine nR (.pointer (some ⟨p, 0, none⟩)) (exec_move rfl rfl) ?_;simp only [zz]
                            refine wpList_op (wanted_none rfl) fun K9 HK9 => ?_
                            go_wp2_with fail
                            refine (HC5.out.openB HT5.out (by omega) (fun X h => h) (Nat.zero_le _) HSG.out HS0.out).mono ?_
                            rintro e w6 ⟨ht, hcs⟩
                            have HT6 := Lib.hid ht
                            clear ht
                            rcases hcs with ⟨x6, rfl, hs⟩ | ⟨_, rfl, hs⟩
                            · as_aux_lemma =>
                                have HC6 := Lib.hid hs
                                clear hs HC5
                                refine HK9.out _ _ ?_
                                clear HK9
                                try simp only [zz]
                                refine nR (.tuple #[.pointer (some ⟨x6, 0, none⟩), .int .i64 0]) (exec_move rfl rfl) ?_;simp only [zz];refine nR (.pointer (some ⟨x6, 0, none⟩)) (ix_extract rfl rfl rfl) ?_;simp only [zz];refine nR (.int .i64 0) (ix_extract rfl rfl rfl) ?_;simp only [zz];refine nR (.pointer (some ⟨x6, 0, none⟩)) (gx_assign rfl rfl) ?_;simp only [zz];refine nR (.int .i64 0) (gx_assign rfl rfl) ?_;simp only [zz]
                                go_upto_region 74 with fail
                                refine wp_region_lit ?_
                                refine nR (.int .i64 0) (exec_move rfl rfl) ?_;simp only [zz];refine nR (.bool false) (ix_eql rfl rfl rfl (by decide)) ?_;simp only [zz]
                                go_upto_region 76 with fail
                                refine wp_region_lit ?_
                                refine nR (.int .i64 0) (exec_move rfl rfl) ?_;simp only [zz];refine nR (.bool false) (ix_neq rfl rfl rfl (by decide)) ?_;simp only [zz];refine nR (.bool false) (exec_move rfl rfl) ?_;simp only [zz];refine wpList_run (v := .pointer (some ⟨x6, 0, none⟩)) rfl (exec_move rfl rfl) ?_;simp only [zz];refine wpList_run (v := .bool false) rfl (ptr_nilW rfl rfl rfl rfl) ?_;simp only [zz];refine nR (.bool false) (ix_pickF rfl rfl rfl) ?_;simp only [zz];refine nR (.bool false) (exec_move rfl rfl) ?_;simp only [zz];refine wpList_run (v := .int .i64 0) rfl (exec_move rfl rfl) ?_;simp only [zz];refine wpList_run (v := .bool false) rfl (ix_neq rfl rfl rfl (by decide)) ?_;simp only [zz];refine nR (.bool false) (ix_pickF rfl rfl rfl) ?_;simp only [zz]
                                go_upto_region 78 with fail
                                refine wp_region_lit ?_
                                refine nR (.pointer (some ⟨x6, 0, none⟩)) (exec_move rfl rfl) ?_;simp only [zz];refine nR (.pointer (some ⟨x6, 0, none⟩)) (gx_assign rfl rfl) ?_;simp only [zz]
                                go_upto_region 79 with fail
                                refine wp_region_lit ?_
                                refine nR (.agg #[.int .i64 0, .slice none 0 0]) (gx_build0 rfl (build_bk0' _)) ?_;simp only [zz];refine wpList_run (v := .pointer (some ⟨w6.heap.size, 0, none⟩)) (w' := w6.alloc (.cells #[.int .i64 0, .slice none 0 0] 32)) (wanted_none rfl) (gx_box rfl rfl (box_bk 0 none 0 0 w6)) ?_;simp only [zz]
                                have hbn := Blk.new w6 32 #[.int .i64 0, .slice none 0 0]
                                have htb := (Turn.refl nowhere w6).alloc (.cells #[.int .i64 0, .slice none 0 0] 32)
                                obtain ⟨b7, hb0⟩ : ∃ z, z = w6.heap.size := ⟨_, rfl⟩
                                rw [← hb0] at hbn ⊢
                                have HC7 := Lib.hid (HC6.out.new_ (by exact fun _ _ _ => Rn.still) htb (by omega : w6.heap.size ≤ b7) hbn)
                                have HT7 := Lib.hid (HT6.out.trans htb fun _ _ e => e)
                                generalize w6.alloc (.cells #[.int .i64 0, .slice none 0 0] 32) = w7 at *
                                clear hbn htb hb0
                                refine nR (.pointer (some ⟨b7, 0, none⟩)) (gx_assign rfl rfl) ?_;simp only [zz]
                                have HC8 := Lib.hid (HC7.out.sub (cs := [(b7, 0, [])]) fun e he => by rw [List.mem_singleton.1 he]; exact List.mem_cons_self ..)
                                go_upto_region 11 with fail
                                refine wp_region_lit ?_
                                refine nR (.int .i64 (i : Int)) (exec_move rfl rfl) ?_;simp only [zz];refine nR (.int .i64 ((i + 1 : Nat) : Int)) (ix_add rfl rfl rfl (by omega) (by omega)) ?_;simp only [zz];refine nR (.int .i64 ((i + 1 : Nat) : Int)) (gx_assign rfl rfl) ?_;simp only [zz]
                                have HCR := Lib.hid (show Cs w _ (2 * (i + 1)) [(b7, 0, [])] (Rn p x6 S n 0 (2 * (i + 1)) []) from HC8.out.upN (by omega) (by omega))
                                go_wp2_with fail
                                go_roundg (m - (i + 1))
                                case measure => have := HGK.out; have := HLM.out; omega
                                case rel => exact ⟨i + 1, b7, 0, [], rfl, rfl, by have := HLM.out; omega, HT7.out, HCR.out.size, .inl ⟨x6, rfl, rfl, rfl, HCR.out⟩⟩
                            · as_aux_lemma =>
                                have HC6 := Lib.hid hs
                                clear hs HC5
                                refine HK9.out _ _ ?_
                                clear HK9
                                try simp only [zz]
                                refine nR (.tuple #[.pointer none, .int .i64 2]) (exec_move rfl rfl) ?_;simp only [zz];refine nR (.pointer none) (ix_extract rfl rfl rfl) ?_;simp only [zz];refine nR (.int .i64 2) (ix_extract rfl rfl rfl) ?_;simp only [zz];refine nR (.pointer none) (gx_assign rfl rfl) ?_;simp only [zz];refine nR (.int .i64 2) (gx_assign rfl rfl) ?_;simp only [zz]
                                go_upto_region 74 with fail
                                refine wp_region_lit ?_
                                refine nR (.int .i64 2) (exec_move rfl rfl) ?_;simp only [zz];refine nR (.bool true) (ix_eql rfl rfl rfl (by decide)) ?_;simp only [zz]
                                go_upto_region 75 with fail
                                refine wp_region_lit ?_
                                refine nR (.agg #[.int .i64 0, .slice none 0 0]) (gx_build0 rfl (build_bk0' _)) ?_;simp only [zz];refine wpList_run (v := .pointer (some ⟨w6.heap.size, 0, none⟩)) (w' := w6.alloc (.cells #[.int .i64 0, .slice none 0 0] 32)) (wanted_none rfl) (gx_box rfl rfl (box_bk 0 none 0 0 w6)) ?_;simp only [zz]
                                have hbn := Blk.new w6 32 #[.int .i64 0, .slice none 0 0]
                                have htb := (Turn.refl nowhere w6).alloc (.cells #[.int .i64 0, .slice none 0 0] 32)
                                obtain ⟨b7, hb0⟩ : ∃ z, z = w6.heap.size := ⟨_, rfl⟩
                                rw [← hb0] at hbn ⊢
                                have HC7 := Lib.hid (HC6.out.new_ (by exact fun _ _ _ => Rf.still) htb (by omega : w6.heap.size ≤ b7) hbn)
                                have HT7 := Lib.hid (HT6.out.trans htb fun _ _ e => e)
                                generalize w6.alloc (.cells #[.int .i64 0, .slice none 0 0] 32) = w7 at *
                                clear hbn htb hb0
                                refine nR (.pointer (some ⟨b7, 0, none⟩)) (gx_assign rfl rfl) ?_;simp only [zz]
                                go_upto_region 11 with fail
                                refine wp_region_lit ?_
                                refine nR (.int .i64 (i : Int)) (exec_move rfl rfl) ?_;simp only [zz];refine nR (.int .i64 ((i + 1 : Nat) : Int)) (ix_add rfl rfl rfl (by omega) (by omega)) ?_;simp only [zz];refine nR (.int .i64 ((i + 1 : Nat) : Int)) (gx_assign rfl rfl) ?_;simp only [zz]
                                go_wp2_with fail
                                go_roundg (m - (i + 1))
                                case measure => have := HGK.out; have := HLM.out; omega
                                case rel => exact ⟨i + 1, b7, 0, [], rfl, rfl, by have := HLM.out; omega, HT7.out, by simp, .inr ((of_one HC7.out (List.mem_cons_self ..) (by omega)).mono (by omega))⟩
                          · as_aux_lemma =>
                              have HC5 := Lib.hid hs
                              clear hs HC4 HV4
                              refine HK9.out _ _ ?_
                              clear HK9
                              try simp only [zz]
                              refine nR (.int .i64 2) (gx_assign rfl rfl) ?_;simp only [zz]
                              go_upto_region 70 with fail
                              refine wp_region_lit ?_
                              refine nR (.int .i64 2) (exec_move rfl rfl) ?_;simp only [zz];refine nR (.bool true) (ix_eql rfl rfl rfl (by decide)) ?_;simp only [zz]
                              go_upto_region 71 with fail
                              refine wp_region_lit ?_
                              refine nR (.bool true) (gx_assign rfl rfl) ?_;simp only [zz]
                              go_upto_region 72 with fail
                              refine wp_region_lit ?_
                              refine nR (.agg #[.int .i64 0, .slice none 0 0]) (gx_build0 rfl (build_bk0' _)) ?_;simp only [zz];refine wpList_run (v := .pointer (some ⟨w5.heap.size, 0, none⟩)) (w' := w5.alloc (.cells #[.int .i64 0, .slice none 0 0] 32)) (wanted_none rfl) (gx_box rfl rfl (box_bk 0 none 0 0 w5)) ?_;simp only [zz]
                              have hbn := Blk.new w5 32 #[.int .i64 0, .slice none 0 0]
                              have htb := (Turn.refl nowhere w5).alloc (.cells #[.int .i64 0, .slice none 0 0] 32)
                              obtain ⟨b7, hb0⟩ : ∃ z, z = w5.heap.size := ⟨_, rfl⟩
                              rw [← hb0] at hbn ⊢
                              have HC7 := Lib.hid (HC5.out.new_ (by exact fun _ _ _ => Rf.still) htb (by omega : w5.heap.size ≤ b7) hbn)
                              have HT7 := Lib.hid (HT5.out.trans htb fun _ _ e => e)
                              generalize w5.alloc (.cells #[.int .i64 0, .slice none 0 0] 32) = w7 at *
                              clear hbn htb hb0
                              refine nR (.pointer (some ⟨b7, 0, none⟩)) (gx_assign rfl rfl) ?_;simp only [zz]
                              go_upto_region 11 with fail
                              refine wp_region_lit ?_
                              refine nR (.int .i64 (i : Int)) (exec_move rfl rfl) ?_;simp only [zz];refine nR (.int .i64 ((i + 1 : Nat) : Int)) (ix_add rfl rfl rfl (by omega) (by omega)) ?_;simp only [zz];refine nR (.int .i64 ((i + 1 : Nat) : Int)) (gx_assign rfl rfl) ?_;simp only [zz]
                              go_wp2_with fail
                              go_roundg (m - (i + 1))
                              case measure => have := HGK.out; have := HLM.out; omega
                              case rel => exact ⟨i + 1, b, f, L, rfl, rfl, by have := HLM.out; omega, HT7.out, by have := HFL.out; omega, .inr ((of_fmt HC7.out (List.mem_cons_of_mem _ (List.mem_singleton.2 rfl)) (List.mem_cons_self ..) (Nat.le_refl _)).mono (by omega))⟩
                        · as_aux_lemma =>
                            go_upto_region 68 with fail
                            refine wp_region_lit ?_
                            refine nR (.pointer (some ⟨v, 1, none⟩)) (exec_field (off := 0) (d := 1) rfl rfl (by kernel_rfl)) ?_;simp only [zz];refine nR (.int .i64 o.n) (exec_load1 rfl rfl (by kernel_rfl) (HBv4.out.cell 1)) ?_;simp only [zz];refine nR (.bool true) (ix_neq rfl rfl rfl (decide_eq_true h7)) ?_;simp only [zz]
                            clear h7
                            go_upto_region 11 with fail
                            refine wp_region_lit ?_
                            refine nR (.int .i64 (i : Int)) (exec_move rfl rfl) ?_;simp only [zz];refine nR (.int .i64 ((i + 1 : Nat) : Int)) (ix_add rfl rfl rfl (by omega) (by omega)) ?_;simp only [zz];refine nR (.int .i64 ((i + 1 : Nat) : Int)) (gx_assign rfl rfl) ?_;simp only [zz]
                            have HCR := Lib.hid (show Cs w _ (2 * (i + 1)) [(b, f, L)] (Rn p x S n f (2 * (i + 1)) L) from HC4.out.upN (by omega) (by omega))
                            go_wp2_with fail
                            go_roundg (m - (i + 1))
                            case measure => have := HGK.out; have := HLM.out; omega
                            case rel => exact ⟨i + 1, b, f, L, rfl, rfl, by have := HLM.out; omega, HT4.out, HCR.out.size, .inl ⟨x, rfl, rfl, rfl, HCR.out⟩⟩
                    · omega
    · as_aux_lemma =>
        have HO4 := Lib.hid (hof.still HT34.out)
        clear hof HCASE HTR
        go_upto_region 13 with fail
        refine wp_region_lit ?_
        refine nR (.pointer (some ⟨p, 0, none⟩)) (exec_move rfl rfl) ?_;simp only [zz]
        refine wpList_op rfl fun K9 HK9 => ?_
        go_wp2_with fail
        refine (HO4.out.isOff).mono ?_
        rintro e w4 ⟨rfl, rfl⟩
        refine HK9.out _ _ ?_
        clear HK9
        try simp only [zz]
        refine nR (.bool true) (ix_not (b := false) rfl rfl) ?_;simp only [zz];refine nR (.bool true) (exec_move rfl rfl) ?_;simp only [zz];refine wpList_run (v := .pointer (some ⟨v, 0, none⟩)) rfl (exec_field (off := 0) (d := 0) rfl rfl (by kernel_rfl)) ?_;simp only [zz];refine wpList_run (v := .int .i64 o.kd) rfl (exec_load1 rfl rfl (by kernel_rfl) (HBv4.out.cell 0)) ?_;simp only [zz]
        refine wpList_op (by go_simp) fun K9 HK9 => ?_
        go_wp2_with fail
        refine (kind_walk o.kd HOK.out.kd).mono ?_
        rintro e w4 ⟨rfl, rfl⟩
        refine HK9.out _ _ ?_
        clear HK9
        try simp only [zz]
        rw [← HKK.out]
        by_cases hk8 : kk = 8
        · refine wpList_run (v := .bool false) rfl (ix_neq rfl rfl rfl (decide_eq_false (fun e => e hk8))) ?_
          simp only [zz];refine nR (.bool false) (ix_pickT rfl rfl rfl) ?_;simp only [zz]
          go_upto_region 14 with fail
          refine wp_region_lit ?_
          refine nR (.pointer (some ⟨v, 0, none⟩)) (exec_field (off := 0) (d := 0) rfl rfl (by kernel_rfl)) ?_;simp only [zz];refine nR (.int .i64 o.kd) (exec_load1 rfl rfl (by kernel_rfl) (HBv4.out.cell 0)) ?_;simp only [zz]
          refine wpList_op rfl fun K9 HK9 => ?_
          go_wp2_with fail
          refine (kind_walk o.kd HOK.out.kd).mono ?_
          rintro e w4 ⟨rfl, rfl⟩
          refine HK9.out _ _ ?_
          clear HK9
          try simp only [zz]
          rw [← HKK.out]
          clear HKK
          subst hk8
          go_upto_region 15 with fail
          refine wp_region_lit ?_
          refine nR (.bool false) (ix_eql rfl rfl rfl (by decide)) ?_;simp only [zz];refine nR (.bool false) (gx_assign rfl rfl) ?_;simp only [zz]
          go_upto_region 16 with fail
          refine wp_region_lit ?_
          refine nR (.bool false) (ix_eql rfl rfl rfl (by decide)) ?_;simp only [zz];refine nR (.bool false) (gx_assign rfl rfl) ?_;simp only [zz]
          go_upto_region 17 with fail
          refine wp_region_lit ?_
          refine nR (.bool false) (ix_eql rfl rfl rfl (by decide)) ?_;simp only [zz];refine nR (.bool false) (gx_assign rfl rfl) ?_;simp only [zz]
          go_upto_region 18 with fail
          refine wp_region_lit ?_
          refine nR (.bool false) (ix_eql rfl rfl rfl (by decide)) ?_;simp only [zz];refine nR (.bool false) (gx_assign rfl rfl) ?_;simp only [zz]
          go_upto_region 19 with fail
          refine wp_region_lit ?_
          refine nR (.bool false) (ix_eql rfl rfl rfl (by decide)) ?_;simp only [zz];refine nR (.bool false) (gx_assign rfl rfl) ?_;simp only [zz]
          go_upto_region 28 with fail
          refine wp_region_lit ?_
          refine nR (.bool false) (ix_eql rfl rfl rfl (by decide)) ?_;simp only [zz];refine nR (.bool false) (gx_assign rfl rfl) ?_;simp only [zz]
          go_upto_region 36 with fail
          refine wp_region_lit ?_
          refine nR (.bool false) (ix_eql rfl rfl rfl (by decide)) ?_;simp only [zz];refine nR (.bool false) (gx_assign rfl rfl) ?_;simp only [zz]
          go_upto_region 42 with fail
          refine wp_region_lit ?_
          refine nR (.bool false) (ix_eql rfl rfl rfl (by decide)) ?_;simp only [zz];refine nR (.bool false) (gx_assign rfl rfl) ?_;simp only [zz]
          go_upto_region 44 with fail
          refine wp_region_lit ?_
          refine nR (.bool true) (ix_eql rfl rfl rfl (by decide)) ?_;simp only [zz];refine nR (.bool true) (gx_assign rfl rfl) ?_;simp only [zz]
          go_upto_region 45 with fail
          refine wp_region_lit ?_
          refine nR (.pointer (some ⟨p, 0, none⟩)) (exec_move rfl rfl) ?_;simp only [zz];refine nR (.pointer (some ⟨v, 3, none⟩)) (exec_field (off := 0) (d := 3) rfl rfl (by kernel_rfl)) ?_;simp only [zz];refine nR (.slice o.K.A o.K.n o.K.c) (exec_load1 rfl rfl (by kernel_rfl) (HBv4.out.cell 3)) ?_;simp only [zz]
          refine wpList_op rfl fun K9 HK9 => ?_
          go_wp2_with fail
          refine (HO4.out.boot (q := o.K.c) HT4.out (by omega) HOK.out.K).mono ?_
          rintro e w5 ⟨rfl, ht, bs, hb, hs⟩
          refine HK9.out _ _ ?_
          clear HK9
          try simp only [zz]
          have HT5 := Lib.hid ht
          have HB5 := Lib.hid hb
          clear ht hb
          have hfo := hs.found
          clear hs
          rcases hfo with hs | ⟨m2, f2, L2, rfl, hm2, hs⟩ | ⟨rfl, hs⟩
          · as_aux_lemma =>
              have HC5 := Lib.hid hs
              clear hs
              go_upto_region 46 with fail
              refine wp_region_lit ?_
              refine nR (.pointer (some ⟨p, 0, none⟩)) (exec_move rfl rfl) ?_;simp only [zz]
              refine wpList_op (wanted_none rfl) fun K9 HK9 => ?_
              go_wp2_with fail
              refine (HC5.out.openB HT5.out (by omega) (fun X h => h) (by have := HFL.out; omega) HSG.out HS0.out).mono ?_
              rintro e w6 ⟨ht, ⟨x6, rfl, hs⟩ | ⟨hbad, _⟩⟩
              rotate_left
              · exact absurd trivial hbad
              have HT6 := Lib.hid ht
              have HC6 := Lib.hid hs
              clear ht hs HC5
              refine HK9.out _ _ ?_
              clear HK9
              try simp only [zz]
              refine nR (.tuple #[.pointer (some ⟨x6, 0, none⟩), .int .i64 0]) (exec_move rfl rfl) ?_;simp only [zz];refine nR (.pointer (some ⟨x6, 0, none⟩)) (ix_extract rfl rfl rfl) ?_;simp only [zz];refine nR (.int .i64 0) (ix_extract rfl rfl rfl) ?_;simp only [zz];refine nR (.pointer (some ⟨x6, 0, none⟩)) (gx_assign rfl rfl) ?_;simp only [zz];refine nR (.int .i64 0) (gx_assign rfl rfl) ?_;simp only [zz]
              go_upto_region 47 with fail
              refine wp_region_lit ?_
              refine nR (.pointer (some ⟨x6, 0, none⟩)) (exec_move rfl rfl) ?_;simp only [zz];refine nR (.bool false) (ptr_nilW rfl rfl rfl rfl) ?_;simp only [zz];refine nR (.bool false) (exec_move rfl rfl) ?_;simp only [zz];refine wpList_skip (by go_simp) ?_;simp only [zz];refine wpList_skip (by go_simp) ?_;simp only [zz];refine nR (.bool false) (ix_pickF rfl rfl rfl) ?_;simp only [zz];refine nR (.bool false) (exec_move rfl rfl) ?_;simp only [zz];refine wpList_skip (by go_simp) ?_;simp only [zz];refine nR (.bool false) (ix_pickF rfl rfl rfl) ?_;simp only [zz]
              go_upto_region 54 with fail
              refine wp_region_lit ?_
              refine nR (.bool false) (gx_assign rfl rfl) ?_;simp only [zz]
              go_upto_region 55 with fail
              refine wp_region_lit ?_
              refine nR (.pointer (some ⟨x6, 0, none⟩)) (exec_move rfl rfl) ?_;simp only [zz];refine nR (.bool false) (ptr_nilW rfl rfl rfl rfl) ?_;simp only [zz];refine nR (.bool false) (exec_move rfl rfl) ?_;simp only [zz];refine wpList_run (v := .int .i64 0) rfl (exec_move rfl rfl) ?_;simp only [zz];refine wpList_run (v := .bool false) rfl (ix_neq rfl rfl rfl (by decide)) ?_;simp only [zz];refine nR (.bool false) (ix_pickF rfl rfl rfl) ?_;simp only [zz]
              go_upto_region 57 with fail
              refine wp_region_lit ?_
              refine nR (.pointer (some ⟨x6, 0, none⟩)) (exec_move rfl rfl) ?_;simp only [zz];refine nR (.pointer (some ⟨x6, 0, none⟩)) (gx_assign rfl rfl) ?_;simp only [zz]
              go_upto_region 58 with fail
              refine wp_region_lit ?_
              refine nR (.pointer (some ⟨b, 0, none⟩)) (exec_move rfl rfl) ?_;simp only [zz];refine nR (.pointer (some ⟨x6, 0, none⟩)) (exec_move rfl rfl) ?_;simp only [zz]
              refine wpList_op rfl fun K9 HK9 => ?_
              go_wp2_with fail
              refine (HC6.out.like (by omega) HB5.out).mono ?_
              rintro e w7 ⟨rfl, ht⟩
              refine HK9.out _ _ ?_
              clear HK9
              try simp only [zz]
              try rw [decide_eq_true (⟨rfl, rfl⟩ : f = f ∧ L = L)]
              have HT7 := Lib.hid (HT6.out.trans ht fun _ _ e => e)
              have HC7 := Lib.hid ((HC6.out.still (by exact fun _ _ _ => Rn.still) ht).sub (cs := [(b, f, L)]) fun e he => by rw [List.mem_singleton.1 he]; exact HB5.out)
              clear ht
              refine nR (.bool true) (gx_assign rfl rfl) ?_;simp only [zz]
              go_upto_region 59 with fail
              refine wp_region_lit ?_
              refine nR (.bool true) (exec_move rfl rfl) ?_;simp only [zz];refine nR (.bool false) (ix_not (b := true) rfl rfl) ?_;simp only [zz]
              go_upto_region 66 with fail
              refine wp_region_lit ?_
              refine nR (.pointer none) (gx_assign rfl rfl) ?_;simp only [zz]
              go_upto_region 11 with fail
              refine wp_region_lit ?_
              refine nR (.int .i64 (i : Int)) (exec_move rfl rfl) ?_;simp only [zz];refine nR (.int .i64 ((i + 1 : Nat) : Int)) (ix_add rfl rfl rfl (by omega) (by omega)) ?_;simp only [zz];refine nR (.int .i64 ((i + 1 : Nat) : Int)) (gx_assign rfl rfl) ?_;simp only [zz]
              have HCR := Lib.hid (show Cs w _ (2 * (i + 1)) [(b, f, L)] (Rn p x6 S n f (2 * (i + 1)) L) from HC7.out.upN (by omega) (by omega))
              go_wp2_with fail
              go_roundg (m - (i + 1))
              case measure => have := HGK.out; have := HLM.out; omega
              case rel => exact ⟨i + 1, b, f, L, rfl, rfl, by have := HLM.out; omega, HT7.out, HCR.out.size, .inl ⟨x6, rfl, rfl, rfl, HCR.out⟩⟩
          · as_aux_lemma =>
              have HM2 := Lib.hid hm2
              have HF2 := Lib.hid (hs.bk hm2).2
              clear hm2
              have HC5 := Lib.hid hs
              clear hs
              go_upto_region 46 with fail
              refine wp_region_lit ?_
              refine nR (.pointer (some ⟨p, 0, none⟩)) (exec_move rfl rfl) ?_;simp only [zz]
              refine wpList_op (wanted_none rfl) fun K9 HK9 => ?_
              go_wp2_with fail
              refine (HC5.out.openB HT5.out (by omega) (fun X h => h) (HF2.out) HSG.out HS0.out).mono ?_
              rintro e w6 ⟨ht, ⟨x6, rfl, hs⟩ | ⟨hbad, _⟩⟩
              rotate_left
              · exact absurd trivial hbad
              have HT6 := Lib.hid ht
              have HC6 := Lib.hid hs
              clear ht hs HC5
              refine HK9.out _ _ ?_
              clear HK9
              try simp only [zz]
              refine nR (.tuple #[.pointer (some ⟨x6, 0, none⟩), .int .i64 0]) (exec_move rfl rfl) ?_;simp only [zz];refine nR (.pointer (some ⟨x6, 0, none⟩)) (ix_extract rfl rfl rfl) ?_;simp only [zz];refine nR (.int .i64 0) (ix_extract rfl rfl rfl) ?_;simp only [zz];refine nR (.pointer (some ⟨x6, 0, none⟩)) (gx_assign rfl rfl) ?_;simp only [zz];refine nR (.int .i64 0) (gx_assign rfl rfl) ?_;simp only [zz]
              go_upto_region 47 with fail
              refine wp_region_lit ?_
              refine nR (.pointer (some ⟨x6, 0, none⟩)) (exec_move rfl rfl) ?_;simp only [zz];refine nR (.bool false) (ptr_nilW rfl rfl rfl rfl) ?_;simp only [zz];refine nR (.bool false) (exec_move rfl rfl) ?_;simp only [zz];refine wpList_skip (by go_simp) ?_;simp only [zz];refine wpList_skip (by go_simp) ?_;simp only [zz];refine nR (.bool false) (ix_pickF rfl rfl rfl) ?_;simp only [zz];refine nR (.bool false) (exec_move rfl rfl) ?_;simp only [zz];refine wpList_skip (by go_simp) ?_;simp only [zz];refine nR (.bool false) (ix_pickF rfl rfl rfl) ?_;simp only [zz]
              go_upto_region 54 with fail
              refine wp_region_lit ?_
              refine nR (.bool false) (gx_assign rfl rfl) ?_;simp only [zz]
              go_upto_region 55 with fail
              refine wp_region_lit ?_
              refine nR (.pointer (some ⟨x6, 0, none⟩)) (exec_move rfl rfl) ?_;simp only [zz];refine nR (.bool false) (ptr_nilW rfl rfl rfl rfl) ?_;simp only [zz];refine nR (.bool false) (exec_move rfl rfl) ?_;simp only [zz];refine wpList_run (v := .int .i64 0) rfl (exec_move rfl rfl) ?_;simp only [zz];refine wpList_run (v := .bool false) rfl (ix_neq rfl rfl rfl (by decide)) ?_;simp only [zz];refine nR (.bool false) (ix_pickF rfl rfl rfl) ?_;simp only [zz]
              go_upto_region 57 with fail
              refine wp_region_lit ?_
              refine nR (.pointer (some ⟨x6, 0, none⟩)) (exec_move rfl rfl) ?_;simp only [zz];refine nR (.pointer (some ⟨x6, 0, none⟩)) (gx_assign rfl rfl) ?_;simp only [zz]
              go_upto_region 58 with fail
              refine wp_region_lit ?_
              refine nR (.pointer (some ⟨b, 0, none⟩)) (exec_move rfl rfl) ?_;simp only [zz];refine nR (.pointer (some ⟨x6, 0, none⟩)) (exec_move rfl rfl) ?_;simp only [zz]
              refine wpList_op rfl fun K9 HK9 => ?_
              go_wp2_with fail
              refine (HC6.out.like (by omega) HB5.out).mono ?_
              rintro e w7 ⟨rfl, ht⟩
              refine HK9.out _ _ ?_
              clear HK9
              try simp only [zz]
              have HT7 := Lib.hid (HT6.out.trans ht fun _ _ e => e)
              have HC7 := Lib.hid (HC6.out.still (by exact fun _ _ _ => Rn.still) ht)
              clear ht HC6
              by_cases he : f2 = f ∧ L2 = L
              · rw [decide_eq_true he]
                obtain ⟨rfl, rfl⟩ := he
                refine nR (.bool true) (gx_assign rfl rfl) ?_;simp only [zz]
                go_upto_region 59 with fail
                refine wp_region_lit ?_
                refine nR (.bool true) (exec_move rfl rfl) ?_;simp only [zz];refine nR (.bool false) (ix_not (b := true) rfl rfl) ?_;simp only [zz]
                go_upto_region 66 with fail
                refine wp_region_lit ?_
                refine nR (.pointer none) (gx_assign rfl rfl) ?_;simp only [zz]
                have HC8 := Lib.hid (HC7.out.sub (cs := [(b, f2, L2)]) fun e he => by rw [List.mem_singleton.1 he]; exact HB5.out)
                go_upto_region 11 with fail
                refine wp_region_lit ?_
                refine nR (.int .i64 (i : Int)) (exec_move rfl rfl) ?_;simp only [zz];refine nR (.int .i64 ((i + 1 : Nat) : Int)) (ix_add rfl rfl rfl (by omega) (by omega)) ?_;simp only [zz];refine nR (.int .i64 ((i + 1 : Nat) : Int)) (gx_assign rfl rfl) ?_;simp only [zz]
                have HCR := Lib.hid (show Cs w _ (2 * (i + 1)) [(b, f2, L2)] (Rn p x6 S n f2 (2 * (i + 1)) L2) from HC8.out.upN (by omega) (by omega))
                go_wp2_with fail
                go_roundg (m - (i + 1))
                case measure => have := HGK.out; have := HLM.out; omega
                case rel => exact ⟨i + 1, b, f2, L2, rfl, rfl, by have := HLM.out; omega, HT7.out, HCR.out.size, .inl ⟨x6, rfl, rfl, rfl, HCR.out⟩⟩
              · rw [decide_eq_false he]
                clear he
                refine nR (.bool false) (gx_assign rfl rfl) ?_;simp only [zz]
                go_upto_region 59 with fail
                refine wp_region_lit ?_
                refine nR (.bool false) (exec_move rfl rfl) ?_;simp only [zz];refine nR (.bool true) (ix_not (b := false) rfl rfl) ?_;simp only [zz]
                go_upto_region 60 with fail
                refine wp_region_lit ?_
                refine nR (.pointer (some ⟨m2, 0, none⟩)) (exec_move rfl rfl) ?_;simp only [zz];refine nR (.bool false) (ptr_nilB rfl rfl rfl rfl) ?_;simp only [zz]
                go_upto_region 62 with fail
                refine wp_region_lit ?_
                refine nR (.pointer (some ⟨m2, 0, none⟩)) (exec_move rfl rfl) ?_;simp only [zz];refine nR (.pointer (some ⟨m2, 0, none⟩)) (gx_assign rfl rfl) ?_;simp only [zz]
                go_upto_region 63 with fail
                refine wp_region_lit ?_
                refine nR (.pointer (some ⟨m2, 0, none⟩)) (exec_move rfl rfl) ?_;simp only [zz];refine nR (.pointer (some ⟨x6, 0, none⟩)) (exec_move rfl rfl) ?_;simp only [zz]
                refine wpList_op rfl fun K9 HK9 => ?_
                go_wp2_with fail
                refine (HC7.out.like (by omega) HM2.out).mono ?_
                rintro e w8 ⟨rfl, ht⟩
                refine HK9.out _ _ ?_
                clear HK9
                try simp only [zz]
                try rw [decide_eq_true (⟨rfl, rfl⟩ : f2 = f2 ∧ L2 = L2)]
                have HT8 := Lib.hid (HT7.out.trans ht fun _ _ e => e)
                have HC8 := Lib.hid ((HC7.out.still (by exact fun _ _ _ => Rn.still) ht).sub (cs := [(m2, f2, L2)]) fun e he => by rw [List.mem_singleton.1 he]; exact HM2.out)
                clear ht
                refine nR (.bool true) (gx_assign rfl rfl) ?_;simp only [zz]
                go_upto_region 64 with fail
                refine wp_region_lit ?_
                refine nR (.bool true) (exec_move rfl rfl) ?_;simp only [zz];refine nR (.bool false) (ix_not (b := true) rfl rfl) ?_;simp only [zz]
                go_upto_region 66 with fail
                refine wp_region_lit ?_
                refine nR (.pointer none) (gx_assign rfl rfl) ?_;simp only [zz]
                go_upto_region 11 with fail
                refine wp_region_lit ?_
                refine nR (.int .i64 (i : Int)) (exec_move rfl rfl) ?_;simp only [zz];refine nR (.int .i64 ((i + 1 : Nat) : Int)) (ix_add rfl rfl rfl (by omega) (by omega)) ?_;simp only [zz];refine nR (.int .i64 ((i + 1 : Nat) : Int)) (gx_assign rfl rfl) ?_;simp only [zz]
                have HCR := Lib.hid (show Cs w _ (2 * (i + 1)) [(m2, f2, L2)] (Rn p x6 S n f2 (2 * (i + 1)) L2) from HC8.out.upN (by omega) (by omega))
                go_wp2_with fail
                go_roundg (m - (i + 1))
                case measure => have := HGK.out; have := HLM.out; omega
                case rel => exact ⟨i + 1, m2, f2, L2, rfl, rfl, by have := HLM.out; omega, HT8.out, HCR.out.size, .inl ⟨x6, rfl, rfl, rfl, HCR.out⟩⟩
          · as_aux_lemma =>
              have HC5 := Lib.hid hs
              clear hs
              go_upto_region 46 with fail
              refine wp_region_lit ?_
              refine nR (.pointer (some ⟨p, 0, none⟩)) (exec_move rfl rfl) ?_;simp only [zz]
              refine wpList_op rfl fun K9 HK9 => ?_
              go_wp2_with fail
              refine (HC5.out.openN HT5.out (by omega) (fun X h => h) (by rw [HSG.out]; exact HS0.out)).mono ?_
              rintro e w6 ⟨rfl, ht, hs⟩
              refine HK9.out _ _ ?_
              clear HK9
              try simp only [zz]
              have HT6 := Lib.hid ht
              have HC6 := Lib.hid hs
              clear ht hs HC5
              refine nR (.tuple #[.pointer none, .int .i64 4]) (exec_move rfl rfl) ?_;simp only [zz];refine nR (.pointer none) (ix_extract rfl rfl rfl) ?_;simp only [zz];refine nR (.int .i64 4) (ix_extract rfl rfl rfl) ?_;simp only [zz];refine nR (.pointer none) (gx_assign rfl rfl) ?_;simp only [zz];refine nR (.int .i64 4) (gx_assign rfl rfl) ?_;simp only [zz]
              go_upto_region 47 with fail
              refine wp_region_lit ?_
              refine nR (.pointer none) (exec_move rfl rfl) ?_;simp only [zz];refine nR (.bool true) (ptr_nilZ rfl rfl rfl rfl) ?_;simp only [zz];refine nR (.bool true) (exec_move rfl rfl) ?_;simp only [zz];refine wpList_run (v := .int .i64 4) rfl (exec_move rfl rfl) ?_;simp only [zz];refine wpList_run (v := .bool true) rfl (ix_eql rfl rfl rfl (by decide)) ?_;simp only [zz];refine nR (.bool true) (ix_pickT rfl rfl rfl) ?_;simp only [zz];refine nR (.bool true) (exec_move rfl rfl) ?_;simp only [zz];refine wpList_run (v := .bool true) rfl (exec_move rfl rfl) ?_;simp only [zz];refine nR (.bool true) (ix_pickT rfl rfl rfl) ?_;simp only [zz]
              go_upto_region 48 with fail
              refine wp_region_lit ?_
              refine nR (.pointer (some ⟨p, 0, none⟩)) (exec_move rfl rfl) ?_;simp only [zz]
              refine wpList_op rfl fun K9 HK9 => ?_
              go_wp2_with fail
              refine (HC6.out.formatB HT6.out (by omega) HSG.out HS0.out).mono ?_
              rintro e w7 ⟨rfl, ht, hs⟩
              refine HK9.out _ _ ?_
              clear HK9
              try simp only [zz]
              have HT7 := Lib.hid ht
              have HC7 := Lib.hid hs
              clear ht hs HC6
              refine nR (.int .i64 0) (gx_assign rfl rfl) ?_;simp only [zz]
              go_upto_region 49 with fail
              refine wp_region_lit ?_
              refine nR (.pointer (some ⟨p, 0, none⟩)) (exec_move rfl rfl) ?_;simp only [zz]
              refine wpList_op (wanted_none rfl) fun K9 HK9 => ?_
              go_wp2_with fail
              refine (HC7.out.openB HT7.out (by omega) (fun X h => h) (Nat.zero_le _) HSG.out HS0.out).mono ?_
              rintro e w8 ⟨ht, ⟨x6, rfl, hs⟩ | ⟨hbad, _⟩⟩
              rotate_left
              · exact absurd trivial hbad
              have HT8 := Lib.hid ht
              have HC8 := Lib.hid hs
              clear ht hs HC7
              refine HK9.out _ _ ?_
              clear HK9
              try simp only [zz]
              refine nR (.tuple #[.pointer (some ⟨x6, 0, none⟩), .int .i64 0]) (exec_move rfl rfl) ?_;simp only [zz];refine nR (.pointer (some ⟨x6, 0, none⟩)) (ix_extract rfl rfl rfl) ?_;simp only [zz];refine nR (.int .i64 0) (ix_extract rfl rfl rfl) ?_;simp only [zz];refine nR (.pointer (some ⟨x6, 0, none⟩)) (gx_assign rfl rfl) ?_;simp only [zz];refine nR (.int .i64 0) (gx_assign rfl rfl) ?_;simp only [zz]
              go_upto_region 50 with fail
              refine wp_region_lit ?_
              refine nR (.int .i64 0) (exec_move rfl rfl) ?_;simp only [zz];refine nR (.bool false) (ix_neq rfl rfl rfl (by decide)) ?_;simp only [zz]
              go_upto_region 52 with fail
              refine wp_region_lit ?_
              refine nR (.agg #[.int .i64 0, .slice none 0 0]) (gx_build0 rfl (build_bk0' _)) ?_;simp only [zz];refine wpList_run (v := .pointer (some ⟨w8.heap.size, 0, none⟩)) (w' := w8.alloc (.cells #[.int .i64 0, .slice none 0 0] 32)) (wanted_none rfl) (gx_box rfl rfl (box_bk 0 none 0 0 w8)) ?_;simp only [zz]
              have hbn := Blk.new w8 32 #[.int .i64 0, .slice none 0 0]
              have htb := (Turn.refl nowhere w8).alloc (.cells #[.int .i64 0, .slice none 0 0] 32)
              obtain ⟨b9, hb0⟩ : ∃ z, z = w8.heap.size := ⟨_, rfl⟩
              rw [← hb0] at hbn ⊢
              have HC9 := Lib.hid (HC8.out.new_ (by exact fun _ _ _ => Rn.still) htb (by omega : w8.heap.size ≤ b9) hbn)
              have HT9 := Lib.hid (HT8.out.trans htb fun _ _ e => e)
              generalize w8.alloc (.cells #[.int .i64 0, .slice none 0 0] 32) = w9 at *
              clear hbn htb hb0
              refine nR (.pointer (some ⟨b9, 0, none⟩)) (gx_assign rfl rfl) ?_;simp only [zz]
              go_upto_region 53 with fail
              refine wp_region_lit ?_
              refine nR (.pointer none) (gx_assign rfl rfl) ?_;simp only [zz]
              go_upto_region 54 with fail
              refine wp_region_lit ?_
              refine nR (.bool false) (gx_assign rfl rfl) ?_;simp only [zz]
              go_upto_region 55 with fail
              refine wp_region_lit ?_
              refine nR (.pointer (some ⟨x6, 0, none⟩)) (exec_move rfl rfl) ?_;simp only [zz];refine nR (.bool false) (ptr_nilW rfl rfl rfl rfl) ?_;simp only [zz];refine nR (.bool false) (exec_move rfl rfl) ?_;simp only [zz];refine wpList_run (v := .int .i64 0) rfl (exec_move rfl rfl) ?_;simp only [zz];refine wpList_run (v := .bool false) rfl (ix_neq rfl rfl rfl (by decide)) ?_;simp only [zz];refine nR (.bool false) (ix_pickF rfl rfl rfl) ?_;simp only [zz]
              go_upto_region 57 with fail
              refine wp_region_lit ?_
              refine nR (.pointer (some ⟨x6, 0, none⟩)) (exec_move rfl rfl) ?_;simp only [zz];refine nR (.pointer (some ⟨x6, 0, none⟩)) (gx_assign rfl rfl) ?_;simp only [zz]
              go_upto_region 58 with fail
              refine wp_region_lit ?_
              refine nR (.pointer (some ⟨b9, 0, none⟩)) (exec_move rfl rfl) ?_;simp only [zz];refine nR (.pointer (some ⟨x6, 0, none⟩)) (exec_move rfl rfl) ?_;simp only [zz]
              refine wpList_op rfl fun K9 HK9 => ?_
              go_wp2_with fail
              refine (HC9.out.like (by omega) (List.mem_cons_self ..)).mono ?_
              rintro e w10 ⟨rfl, ht⟩
              refine HK9.out _ _ ?_
              clear HK9
              try simp only [zz]
              try rw [decide_eq_true (⟨rfl, rfl⟩ : (0 : Nat) = 0 ∧ ([] : List Wl.Rec) = [])]
              have HT10 := Lib.hid (HT9.out.trans ht fun _ _ e => e)
              have HC10 := Lib.hid ((HC9.out.still (by exact fun _ _ _ => Rn.still) ht).sub (cs := [(b9, 0, [])]) fun e he => by rw [List.mem_singleton.1 he]; exact List.mem_cons_self ..)
              clear ht
              refine nR (.bool true) (gx_assign rfl rfl) ?_;simp only [zz]
              go_upto_region 59 with fail
              refine wp_region_lit ?_
              refine nR (.bool true) (exec_move rfl rfl) ?_;simp only [zz];refine nR (.bool false) (ix_not (b := true) rfl rfl) ?_;simp only [zz]
              go_upto_region 66 with fail
              refine wp_region_lit ?_
              refine nR (.pointer none) (gx_assign rfl rfl) ?_;simp only [zz]
              go_upto_region 11 with fail
              refine wp_region_lit ?_
              refine nR (.int .i64 (i : Int)) (exec_move rfl rfl) ?_;simp only [zz];refine nR (.int .i64 ((i + 1 : Nat) : Int)) (ix_add rfl rfl rfl (by omega) (by omega)) ?_;simp only [zz];refine nR (.int .i64 ((i + 1 : Nat) : Int)) (gx_assign rfl rfl) ?_;simp only [zz]
              have HCR := Lib.hid (show Cs w _ (2 * (i + 1)) [(b9, 0, [])] (Rn p x6 S n 0 (2 * (i + 1)) []) from HC10.out.upN (by omega) (by omega))
              go_wp2_with fail
              go_roundg (m - (i + 1))
              case measure => have := HGK.out; have := HLM.out; omega
              case rel => exact ⟨i + 1, b9, 0, [], rfl, rfl, by have := HLM.out; omega, HT10.out, HCR.out.size, .inl ⟨x6, rfl, rfl, rfl, HCR.out⟩⟩
        · refine wpList_run (v := .bool true) rfl (ix_neq rfl rfl rfl (decide_eq_true hk8)) ?_
          simp only [zz];refine nR (.bool true) (ix_pickT rfl rfl rfl) ?_;simp only [zz]
          clear hk8
          go_upto_region 11 with fail
          refine wp_region_lit ?_
          refine nR (.int .i64 (i : Int)) (exec_move rfl rfl) ?_;simp only [zz];refine nR (.int .i64 ((i + 1 : Nat) : Int)) (ix_add rfl rfl rfl (by omega) (by omega)) ?_;simp only [zz];refine nR (.int .i64 ((i + 1 : Nat) : Int)) (gx_assign rfl rfl) ?_;simp only [zz]
          go_wp2_with fail
          go_roundg (m - (i + 1))
          case measure => have := HGK.out; have := HLM.out; omega
          case rel => exact ⟨i + 1, b, f, L, rfl, rfl, by have := HLM.out; omega, HT4.out, by have := HFL.out; omega, .inr (HO4.out.mono (by omega))⟩
  · by_cases hn : i < n1
    · go_upto_region 10 with fail
      refine wp_region_lit ?_
      refine nR (.int .i64 (i : Int)) (exec_move rfl rfl) ?_;simp only [zz];refine nR (.slice A1 n1 c1) (exec_move rfl rfl) ?_;simp only [zz];refine nR (.int .i64 (n1 : Int)) (gx_len rfl rfl Tryd.underlying22) ?_;simp only [zz];refine nR (.bool true) (ix_lss rfl rfl rfl (decide_eq_true (by omega))) ?_;simp only [zz];refine nR (.bool true) (exec_move rfl rfl) ?_;simp only [zz];refine wpList_run (v := .int .i64 (i : Int)) rfl (exec_move rfl rfl) ?_;simp only [zz];refine wpList_run (v := .bool false) rfl (ix_lss rfl rfl rfl (decide_eq_false (by omega))) ?_;simp only [zz];refine nR (.bool false) (ix_pickT rfl rfl rfl) ?_;simp only [zz]
      rcases HCASE.out with ⟨x, rfl, rfl, rfl, hst⟩ | hof
      · have HC4 := Lib.hid hst
        clear hst HCASE
        go_upto_region 80 with fail
        refine wp_region_lit ?_
        refine nR (.pointer (some ⟨p, 0, none⟩)) (exec_move rfl rfl) ?_;simp only [zz]
        refine wpList_op rfl fun K9 HK9 => ?_
        go_wp2_with fail
        refine (HC4.out.isOn).mono ?_
        rintro e wr ⟨rfl, rfl⟩
        refine HK9.out _ _ ?_
        clear HK9
        try simp only [zz]
        refine nR (.bool false) (ix_not (b := true) rfl rfl) ?_;simp only [zz]
        go_upto_region 82 with fail
        refine wp_region_lit ?_
        refine nR (.pointer (some ⟨b, 0, none⟩)) (exec_move rfl rfl) ?_;simp only [zz];refine nR (.pointer (some ⟨x, 0, none⟩)) (exec_move rfl rfl) ?_;simp only [zz]
        refine wpList_op rfl fun K9 HK9 => ?_
        go_wp2_with fail
        refine (HC4.out.like (by omega) (List.mem_singleton.2 rfl)).mono ?_
        rintro e w7 ⟨rfl, ht⟩
        refine HK9.out _ _ ?_
        clear HK9
        try simp only [zz]
        try rw [decide_eq_true (⟨rfl, rfl⟩ : f = f ∧ L = L)]
        have HT7 := Lib.hid (HTR.out.trans ht fun _ _ e => e)
        clear ht
        refine nR (.bool true) (gx_assign rfl rfl) ?_;simp only [zz]
        go_upto_region 83 with fail
        refine wp_region_lit ?_
        refine nR (.bool true) (exec_move rfl rfl) ?_;simp only [zz];refine nR (.bool true) (gx_assign rfl rfl) ?_;simp only [zz]
        go_wp2_with fail
        go_ret
        exact ⟨rfl, HT7.out⟩
      · have HO4 := Lib.hid hof
        clear hof HCASE
        go_upto_region 80 with fail
        refine wp_region_lit ?_
        refine nR (.pointer (some ⟨p, 0, none⟩)) (exec_move rfl rfl) ?_;simp only [zz]
        refine wpList_op rfl fun K9 HK9 => ?_
        go_wp2_with fail
        refine (HO4.out.isOff).mono ?_
        rintro e wr ⟨rfl, rfl⟩
        refine HK9.out _ _ ?_
        clear HK9
        try simp only [zz]
        refine nR (.bool true) (ix_not (b := false) rfl rfl) ?_;simp only [zz]
        go_upto_region 81 with fail
        refine wp_region_lit ?_
        refine nR (.bool true) (gx_assign rfl rfl) ?_;simp only [zz]
        go_wp2_with fail
        go_ret
        exact ⟨rfl, HTR.out⟩
    · go_upto_region 10 with fail
      refine wp_region_lit ?_
      refine nR (.int .i64 (i : Int)) (exec_move rfl rfl) ?_;simp only [zz];refine nR (.slice A1 n1 c1) (exec_move rfl rfl) ?_;simp only [zz];refine nR (.int .i64 (n1 : Int)) (gx_len rfl rfl Tryd.underlying22) ?_;simp only [zz];refine nR (.bool false) (ix_lss rfl rfl rfl (decide_eq_false (by omega))) ?_;simp only [zz];refine nR (.bool false) (exec_move rfl rfl) ?_;simp only [zz];refine wpList_skip (by go_simp) ?_;simp only [zz];refine wpList_skip (by go_simp) ?_;simp only [zz];refine nR (.bool false) (ix_pickF rfl rfl rfl) ?_;simp only [zz]
      rcases HCASE.out with ⟨x, rfl, rfl, rfl, hst⟩ | hof
      · have HC4 := Lib.hid hst
        clear hst HCASE
        go_upto_region 80 with fail
        refine wp_region_lit ?_
        refine nR (.pointer (some ⟨p, 0, none⟩)) (exec_move rfl rfl) ?_;simp only [zz]
        refine wpList_op rfl fun K9 HK9 => ?_
        go_wp2_with fail
        refine (HC4.out.isOn).mono ?_
        rintro e wr ⟨rfl, rfl⟩
        refine HK9.out _ _ ?_
        clear HK9
        try simp only [zz]
        refine nR (.bool false) (ix_not (b := true) rfl rfl) ?_;simp only [zz]
        go_upto_region 82 with fail
        refine wp_region_lit ?_
        refine nR (.pointer (some ⟨b, 0, none⟩)) (exec_move rfl rfl) ?_;simp only [zz];refine nR (.pointer (some ⟨x, 0, none⟩)) (exec_move rfl rfl) ?_;simp only [zz]
        refine wpList_op rfl fun K9 HK9 => ?_
        go_wp2_with fail
        refine (HC4.out.like (by omega) (List.mem_singleton.2 rfl)).mono ?_
        rintro e w7 ⟨rfl, ht⟩
        refine HK9.out _ _ ?_
        clear HK9
        try simp only [zz]
        try rw [decide_eq_true (⟨rfl, rfl⟩ : f = f ∧ L = L)]
        have HT7 := Lib.hid (HTR.out.trans ht fun _ _ e => e)
        clear ht
        refine nR (.bool true) (gx_assign rfl rfl) ?_;simp only [zz]
        go_upto_region 83 with fail
        refine wp_region_lit ?_
        refine nR (.bool true) (exec_move rfl rfl) ?_;simp only [zz];refine nR (.bool true) (gx_assign rfl rfl) ?_;simp only [zz]
        go_wp2_with fail
        go_ret
        exact ⟨rfl, HT7.out⟩
      · have HO4 := Lib.hid hof
        clear hof HCASE
        go_upto_region 80 with fail
        refine wp_region_lit ?_
        refine nR (.pointer (some ⟨p, 0, none⟩)) (exec_move rfl rfl) ?_;simp only [zz]
        refine wpList_op rfl fun K9 HK9 => ?_
        go_wp2_with fail
        refine (HO4.out.isOff).mono ?_
        rintro e wr ⟨rfl, rfl⟩
        refine HK9.out _ _ ?_
        clear HK9
        try simp only [zz]
        refine nR (.bool true) (ix_not (b := false) rfl rfl) ?_;simp only [zz]
        go_upto_region 81 with fail
        refine wp_region_lit ?_
        refine nR (.bool true) (gx_assign rfl rfl) ?_;simp only [zz]
        go_wp2_with fail
        go_ret
        exact ⟨rfl, HTR.out⟩
theorem walCrashes_walk (a0 : Int) (A1 : Option Addr) (n1 c1 : Nat) (os : List OpV) (w : World) (h0 : -9223372036854775808 ≤ a0 ∧ a0 ≤ 9223372036854775807) (h1 : OwAt w A1 n1 os) (htab : Tab w) :
    Calls Tryd.prog 4 #[.int .i64 a0, .slice A1 n1 c1] w fun r w' => r = .returned (.bool true) ∧ Below w.heap.size w w' :=
  (walCrashes_main a0 A1 n1 c1 os w h0 h1 htab).mono fun r w' ⟨h1, h2⟩ => ⟨h1, h2.below (Nat.le_refl _) fun _ _ e => e⟩
end Go.Proofs.YtbfeejkdlhdioaaDoor
