/-
  standin's Sums: the law's walk. No conditions.
-/
import Derived.Test.YtenflpbmjahbgaaSiF
import Derived.Shelf.SlMaps.Clone
import Derived.WalkSpells
import Derived.Lib.SliceRun
namespace Go.Proofs.Ytenflpbmjahbgaa
open Go.RowKit Go.Maps
open Si (Card Lims)
set_option linter.unusedVariables false
set_option linter.unusedSimpArgs false
set_option maxRecDepth 20000
def Ks (w : World) (F : Nat → Prop) (A : Option Addr) (n : Nat) (zs : List Int) : Prop := zs.length = n ∧ (0 < n → ∃ b off, A = some ⟨b, off, none⟩ ∧ ∀ i, i < n → w.cell? ⟨b, off + i, none⟩ = some (.int .i64 (zs.getD i 0)))
theorem ks_of_none (w : World) : Ks w nowhere none 0 [] := ⟨rfl, fun h => by omega⟩
theorem ks_of_ints {w : World} {x : Addr} {len cap : Nat} {zs : List Int} (hl : len ≤ cap) (hm : cap ≤ maxLen) (hz : zs.length = cap)
    (hcell : ∀ i, i < zs.length → w.cell? (x.add i) = some (.int .i64 (zs.getD i 0))) : Ks w nowhere (some x) len (zs.take len) := by
  refine ⟨by simp; omega, fun hp => ?_⟩
  obtain ⟨b, off, spot⟩ := x
  have hc := hcell 0 (by omega)
  have hspot : spot = none := by simpa [Addr.add] using World.cell?_spot hc
  subst hspot
  refine ⟨b, off, rfl, fun i hi => ?_⟩
  have h := hcell i (by omega)
  rw [add_nat] at h
  rw [h, List.getD_eq_getElem?_getD, List.getD_eq_getElem?_getD, List.getElem?_take, if_pos hi]
theorem Ks.still {w w' : World} {A : Option Addr} {n : Nat} {zs : List Int} (h : Ks w nowhere A n zs) (ht : Turn nowhere w w') : Ks w' nowhere A n zs := by
  obtain ⟨h1, h2⟩ := h
  refine ⟨h1, fun hp => ?_⟩
  obtain ⟨b, off, e, hc⟩ := h2 hp
  exact ⟨b, off, e, fun i hi => by rw [ht.cell (World.block_lt_of_cell? _ _ (hc i hi)) (fun e => e)]; exact hc i hi⟩
theorem size_intS : (Try.prog.info? 3).map (·.size) = some 1 := by kernel_rfl
theorem box_st (s : Int × Int) (w : World) : (Instr.box 30 (.agg #[.int .i64 s.1, .int .i64 s.2])).run Try.prog w = .ok (.pointer (some ⟨w.heap.size, 0, none⟩)) (w.alloc (.cells #[.int .i64 s.1, .int .i64 s.2] 30)) := by
  simp [Instr.box, newVar, newRow, Result.andThen, Value.cells]
/-- a fit amount, and no other one, is let -/
theorem sum_ok {s : Int × Int} {h : Card → Int} {z : Int} (hl : Si.okL [s]) (h0 : 0 ≤ z) (h1 : z ≤ s.1) (h2 : z ≤ s.2 - h c4) : Si.askE [s] h (0, [52]) z = 0 ∧ Si.askH [s] h (0, [52]) z = Si.put h c4 (h c4 + z) := by
  have h3 := (hl s (by simp)).1.2
  refine Si.ask_ok (c := ((0 : Int), [52])) (by simp) ⟨h0, by omega⟩ (s := s) (by simp) ?_
  show ¬ (s.1 < z ∨ s.2 < h c4 + z)
  omega
theorem sum_no {s : Int × Int} {h : Card → Int} {z : Int} (hb : ¬ (0 ≤ z ∧ z ≤ s.1 ∧ z ≤ s.2 - h c4)) : Si.askE [s] h (0, [52]) z ≠ 0 ∧ Si.askH [s] h (0, [52]) z = h := by
  by_cases h2 : Si.okA z
  · have hc : s.1 < z ∨ s.2 < h c4 + z := by have := h2.1; omega
    have := Si.ask_bad3 (l := [s]) (h := h) (c := ((0 : Int), [52])) (a := z) (by simp) h2 (s := s) (by simp) hc
    exact ⟨by rw [this.1]; decide, this.2⟩
  · have := Si.ask_bad2 (l := [s]) (h := h) (c := ((0 : Int), [52])) (a := z) (by simp) h2
    exact ⟨by rw [this.1]; decide, this.2⟩
set_option maxRecDepth 20000 in
set_option maxHeartbeats 4000000 in
theorem sums_walk {A : Option Addr} {n c : Nat} {zs : List Int} (s : Int × Int) (W : World) (hk : Ks W nowhere A n zs) (hb : n ≤ 140737488355328) :
    Calls Try.prog 5 #[.agg #[.int .i64 s.1, .int .i64 s.2], .slice A n c] W fun e w' => e = .returned (.bool true) ∧ Turn nowhere W w' := by
  have HK := Lib.hid hk
  have yn : (n : Int) ≤ 140737488355328 := by omega
  clear hk hb
  go_enter Try.func5, Try.ntmps5
  go_upto_region 0 with fail
  refine wp_region_lit ?_
  refine wpList_run (v := .pointer (some ⟨(W).heap.size, 0, none⟩)) (w' := (W).alloc (.cells #[.int .i64 s.1, .int .i64 s.2] 30)) (wanted_none rfl) (gx_box rfl rfl (box_st s _)) ?_
  simp only [Act.put, List.setIfInBounds_toArray, List.set_cons_zero, List.set_cons_succ]
  refine wpList_run (v := .bool false) (wanted_none rfl) (gx_assign rfl rfl) ?_
  simp only [Act.put, List.setIfInBounds_toArray, List.set_cons_zero, List.set_cons_succ]
  have hb_g := Blk.new (W) 30 #[.int .i64 s.1, .int .i64 s.2]
  have ht_ := (Turn.refl nowhere (W)).alloc (.cells #[.int .i64 s.1, .int .i64 s.2] 30)
  obtain ⟨n0_, hn0_⟩ : ∃ n, n = (W).heap.size := ⟨_, rfl⟩
  have hz_g : (W).heap.size = n0_ + 0 := by rw [hn0_]; simp
  obtain ⟨g, hg_⟩ : ∃ g, g = (W).heap.size := ⟨_, rfl⟩
  rw [← hg_] at hb_g hz_g ⊢
  clear hg_
  generalize (W).alloc (.cells #[.int .i64 s.1, .int .i64 s.2] 30) = w1 at *
  have HT1 := Lib.hid ht_
  clear ht_
  have HBg := Lib.hid hb_g
  have HLg := Lib.hid (show (W).heap.size ≤ g from by omega)
  clear hb_g
  clear hn0_ hz_g
  clear n0_
  go_upto_region 1 with fail
  refine wp_region_lit ?_
  refine wpList_op (wanted_none rfl) fun K9 HK9 => ?_
  go_wp2_with fail
  refine (shown_walk w1).mono ?_
  rintro e w2 ⟨rfl, ht⟩
  refine HK9.out _ _ ?_
  clear HK9
  try simp only [Act.put, List.setIfInBounds_toArray, List.set_cons_zero, List.set_cons_succ]
  have HBg2 := Lib.hid (HBg.out.turn ht fun e => e)
  have HT2 := Lib.hid (HT1.out.trans ht fun _ _ e => e)
  clear ht
  refine wpList_run (v := .bool true) (wanted_none rfl) (gx_assign rfl rfl) ?_
  simp only [Act.put, List.setIfInBounds_toArray, List.set_cons_zero, List.set_cons_succ]
  go_upto_region 2 with fail
  refine wp_region_lit ?_
  refine wpList_run (v := .agg #[.int .i64 s.1, .int .i64 s.2]) (wanted_none rfl) (gx_loads rfl rfl (blk_range HBg2.out) Try.underlying30 rfl (by rw [size_st]; rfl)) ?_
  simp only [Act.put, List.setIfInBounds_toArray, List.set_cons_zero, List.set_cons_succ]
  refine wpList_run (v := .slice (some ⟨w2.heap.size, 0, none⟩) 1 1) (w' := w2.alloc (.cells (limC s).toArray 30)) (wanted_none rfl) (exec_buildSlice1 rfl rfl (build_one elmS (limC s) rfl (by decide) _ rfl _)) ?_
  simp only [Act.put, List.setIfInBounds_toArray, List.set_cons_zero, List.set_cons_succ]
  have hr1 := one_row s w2
  have ht1 := (Turn.refl nowhere w2).alloc (.cells (limC s).toArray 30)
  generalize w2.alloc (.cells (limC s).toArray 30) = w3 at *
  have HR3 := Lib.hid hr1
  have HBg3 := Lib.hid (HBg2.out.turn ht1 fun e => e)
  have HT3 := Lib.hid (HT2.out.trans ht1 fun _ _ e => e)
  clear hr1 ht1
  by_cases hz : Si.newE [s] = 0
  · have HZ := Lib.hid hz
    clear hz
    refine wpList_op (wanted_none rfl) fun K9 HK9 => ?_
    go_wp2_with fail
    refine (New_ok (l := [s]) (c := 1) HR3.out (fun h => by cases h) (by decide) HZ.out).mono ?_
    rintro e w4 ⟨a, b, rfl, hd, hla, hlb, ht⟩
    refine HK9.out _ _ ?_
    clear HK9
    try simp only [Act.put, List.setIfInBounds_toArray, List.set_cons_zero, List.set_cons_succ]
    have HD4 := Lib.hid hd
    have HLB := Lib.hid (show W.heap.size ≤ b from Nat.le_trans HT3.out.size hlb)
    have HBg4 := Lib.hid (HBg3.out.turn ht fun e => e)
    have HT4 := Lib.hid (HT3.out.trans ht fun _ _ e => e)
    have HNG := Lib.hid (show g ≠ b from by have := HBg3.out.lt; omega)
    have HOKL := Lib.hid hd.okl
    clear hd hla hlb ht
    refine wpList_run (v := .tuple #[.pointer (some ⟨a, 0, none⟩), .int .i64 0]) (wanted_none rfl) (exec_move rfl rfl) ?_
    simp only [Act.put, List.setIfInBounds_toArray, List.set_cons_zero, List.set_cons_succ]
    refine wpList_run (v := .pointer (some ⟨a, 0, none⟩)) (wanted_none rfl) (ix_extract rfl rfl rfl) ?_
    simp only [Act.put, List.setIfInBounds_toArray, List.set_cons_zero, List.set_cons_succ]
    refine wpList_run (v := .int .i64 0) (wanted_none rfl) (ix_extract rfl rfl rfl) ?_
    simp only [Act.put, List.setIfInBounds_toArray, List.set_cons_zero, List.set_cons_succ]
    refine wpList_run (v := .pointer (some ⟨a, 0, none⟩)) (wanted_none rfl) (gx_assign rfl rfl) ?_
    simp only [Act.put, List.setIfInBounds_toArray, List.set_cons_zero, List.set_cons_succ]
    refine wpList_run (v := .int .i64 0) (wanted_none rfl) (gx_assign rfl rfl) ?_
    simp only [Act.put, List.setIfInBounds_toArray, List.set_cons_zero, List.set_cons_succ]
    go_upto_region 3 with fail
    refine wp_region_lit ?_
    refine wpList_run (v := .bool true) (wanted_none rfl) (exec_move rfl rfl) ?_
    simp only [Act.put, List.setIfInBounds_toArray, List.set_cons_zero, List.set_cons_succ]
    refine wpList_run (v := .bool false) (wanted_none rfl) (ix_not (b := true) rfl rfl) ?_
    simp only [Act.put, List.setIfInBounds_toArray, List.set_cons_zero, List.set_cons_succ]
    refine wpList_run (v := .bool false) (wanted_none rfl) (exec_move rfl rfl) ?_
    simp only [Act.put, List.setIfInBounds_toArray, List.set_cons_zero, List.set_cons_succ]
    refine wpList_run (v := .int .i64 0) rfl (exec_move rfl rfl) ?_
    simp only [Act.put, List.setIfInBounds_toArray, List.set_cons_zero, List.set_cons_succ]
    refine wpList_run (v := .bool false) rfl (ix_neq rfl rfl rfl (by decide)) ?_
    simp only [Act.put, List.setIfInBounds_toArray, List.set_cons_zero, List.set_cons_succ]
    refine wpList_run (v := .bool false) (wanted_none rfl) (ix_pickF rfl rfl rfl) ?_
    simp only [Act.put, List.setIfInBounds_toArray, List.set_cons_zero, List.set_cons_succ]
    go_upto_region 5 with fail
    refine wp_region_lit ?_
    refine wpList_run (v := .int .i64 0) (wanted_none rfl) (gx_assign rfl rfl) ?_
    simp only [Act.put, List.setIfInBounds_toArray, List.set_cons_zero, List.set_cons_succ]
    go_upto_region 6 with fail
    refine wp_region_lit ?_
    refine wpList_run (v := .int .i64 0) (wanted_none rfl) (gx_assign rfl rfl) ?_
    simp only [Act.put, List.setIfInBounds_toArray, List.set_cons_zero, List.set_cons_succ]
    have HKW := Lib.hid HK.out
    go_wp2_with fail
    go_loopg [8, 9] 100 (fun gk sv iv wr => ∃ (i : Nat) (h : Card → Int), iv = .int .i64 (i : Int) ∧ i + gk = 100 ∧ i ≤ n ∧ sv = .int .i64 (h c4) ∧ Desk wr a b [s] i h ∧ Blk wr g 30 #[.int .i64 s.1, .int .i64 s.2] ∧ Turn nowhere W wr)
    case atStart => exact ⟨0, _, rfl, rfl, Nat.zero_le _, rfl, HD4.out, HBg4.out, HT4.out⟩
    obtain ⟨i, h, rfl, hgk, hin, rfl, hd, hb, htr⟩ := hrel
    have HGK := Lib.hid hgk
    have HIN := Lib.hid hin
    have HD := Lib.hid hd
    have HBR := Lib.hid hb
    have HTR := Lib.hid htr
    have HKR := Lib.hid (HK.out.still htr)
    have yi : (i : Int) ≤ 100 := by omega
    have y5 : (i : Int) ≤ (n : Int) := by omega
    have hok := hd.okh c4
    have z0 : 0 ≤ h c4 := hok.1
    have z1 : h c4 ≤ 999999999999 := hok.2
    clear hgk hin hd hb htr hok
    obtain ⟨hc, hhc⟩ : ∃ x, x = h c4 := ⟨_, rfl⟩
    rw [← hhc] at z0 z1 ⊢
    have HHC := Lib.hid hhc
    clear hhc
    by_cases hlt : i < n
    · have HLT := Lib.hid hlt
      have y3 : (i : Int) < (n : Int) := by omega
      clear hlt
      by_cases h100 : i < 100
      · have H100 := Lib.hid h100
        have y4 : (i : Int) < 100 := by omega
        clear h100
        obtain ⟨bA, oA, rfl, hcell⟩ := HKR.out.2 (by have := HLT.out; omega)
        have HC := Lib.hid (hcell i HLT.out)
        clear hcell
        generalize zs.getD i 0 = z at *
        go_upto_region 7 with fail
        refine wp_region_lit ?_
        refine wpList_run (v := .int .i64 (i : Int)) (wanted_none rfl) (exec_move rfl rfl) ?_
        simp only [Act.put, List.setIfInBounds_toArray, List.set_cons_zero, List.set_cons_succ]
        refine wpList_run (v := .slice (some ⟨bA, oA, none⟩) n c) (wanted_none rfl) (exec_move rfl rfl) ?_
        simp only [Act.put, List.setIfInBounds_toArray, List.set_cons_zero, List.set_cons_succ]
        refine wpList_run (v := .int .i64 (n : Int)) (wanted_none rfl) (gx_len rfl rfl Try.underlying43) ?_
        simp only [Act.put, List.setIfInBounds_toArray, List.set_cons_zero, List.set_cons_succ]
        refine wpList_run (v := .bool true) (wanted_none rfl) (ix_lss rfl rfl rfl (decide_eq_true y3)) ?_
        simp only [Act.put, List.setIfInBounds_toArray, List.set_cons_zero, List.set_cons_succ]
        refine wpList_run (v := .bool true) (wanted_none rfl) (exec_move rfl rfl) ?_
        simp only [Act.put, List.setIfInBounds_toArray, List.set_cons_zero, List.set_cons_succ]
        refine wpList_run (v := .int .i64 (i : Int)) rfl (exec_move rfl rfl) ?_
        simp only [Act.put, List.setIfInBounds_toArray, List.set_cons_zero, List.set_cons_succ]
        refine wpList_run (v := .bool true) rfl (ix_lss rfl rfl rfl (decide_eq_true y4)) ?_
        simp only [Act.put, List.setIfInBounds_toArray, List.set_cons_zero, List.set_cons_succ]
        refine wpList_run (v := .bool true) (wanted_none rfl) (ix_pickT rfl rfl rfl) ?_
        simp only [Act.put, List.setIfInBounds_toArray, List.set_cons_zero, List.set_cons_succ]
        go_upto_region 9 with fail
        refine wp_region_lit ?_
        refine wpList_run (v := .slice (some ⟨bA, oA, none⟩) n c) (wanted_none rfl) (exec_move rfl rfl) ?_
        simp only [Act.put, List.setIfInBounds_toArray, List.set_cons_zero, List.set_cons_succ]
        refine wpList_run (v := .int .i64 (i : Int)) (wanted_none rfl) (exec_move rfl rfl) ?_
        simp only [Act.put, List.setIfInBounds_toArray, List.set_cons_zero, List.set_cons_succ]
        refine wpList_run (v := .pointer (some ⟨bA, oA + i, none⟩)) (wanted_none rfl) (gx_iaddr (i := i) (sz := 1) rfl rfl rfl Try.underlying43 size_intS HLT.out (by omega)) ?_
        simp only [Act.put, List.setIfInBounds_toArray, List.set_cons_zero, List.set_cons_succ]
        refine wpList_run (v := .int .i64 z) (wanted_none rfl) (exec_load1 rfl rfl (by kernel_rfl) HC.out) ?_
        simp only [Act.put, List.setIfInBounds_toArray, List.set_cons_zero, List.set_cons_succ]
        refine wpList_run (v := .int .i64 z) (wanted_none rfl) (gx_assign rfl rfl) ?_
        simp only [Act.put, List.setIfInBounds_toArray, List.set_cons_zero, List.set_cons_succ]
        by_cases hmay : 0 ≤ z ∧ z ≤ s.1 ∧ z ≤ s.2 - hc
        · as_aux_lemma =>
            obtain ⟨m0, m1, m2⟩ := hmay
            have HES := Lib.hid (sum_ok (h := h) HOKL.out m0 m1 (by rw [← HHC.out]; exact m2))
            have HE := Lib.hid HES.out.1
            have HH := Lib.hid HES.out.2
            have hks := HOKL.out s (by simp)
            have k0 : s.1 ≤ 999999999999 := hks.1.2
            have k1 : s.2 ≤ 999999999999 := hks.2.2
            have k2 : 0 ≤ s.2 := hks.2.1
            clear hks
            obtain ⟨sm, hsm⟩ : ∃ x, x = hc + z := ⟨_, rfl⟩
            have HSM := Lib.hid hsm
            have HPU := Lib.hid (show Si.put h c4 (h c4 + z) c4 = sm from by unfold Si.put; rw [if_pos rfl, ← HHC.out, HSM.out])
            clear hsm
            go_upto_region 10 with fail
            refine wp_region_lit ?_
            refine wpList_run (v := .pointer (some ⟨a, 0, none⟩)) (wanted_none rfl) (exec_move rfl rfl) ?_
            simp only [Act.put, List.setIfInBounds_toArray, List.set_cons_zero, List.set_cons_succ]
            refine wpList_run (v := .int .i64 z) (wanted_none rfl) (exec_move rfl rfl) ?_
            simp only [Act.put, List.setIfInBounds_toArray, List.set_cons_zero, List.set_cons_succ]
            refine wpList_op (wanted_none rfl) fun K9 HK9 => ?_
            go_wp2_with fail
            refine (Ask_at HD.out (by have := HGK.out; omega) wf0 HE.out HH.out).mono ?_
            rintro e w3 ⟨rfl, hd, ht⟩
            refine HK9.out _ _ ?_
            clear HK9
            try simp only [Act.put, List.setIfInBounds_toArray, List.set_cons_zero, List.set_cons_succ]
            have HD3 := Lib.hid hd
            have HB3 := Lib.hid (HBR.out.turn ht fun e => HNG.out e)
            have HT3x := Lib.hid (HTR.out.newer HLB.out ht)
            clear hd ht
            refine wpList_run (v := .int .i64 0) (wanted_none rfl) (gx_assign rfl rfl) ?_
            simp only [Act.put, List.setIfInBounds_toArray, List.set_cons_zero, List.set_cons_succ]
            go_upto_region 11 with fail
            refine wp_region_lit ?_
            refine wpList_run (v := .int .i64 z) (wanted_none rfl) (exec_move rfl rfl) ?_
            simp only [Act.put, List.setIfInBounds_toArray, List.set_cons_zero, List.set_cons_succ]
            refine wpList_run (v := .bool true) (wanted_none rfl) (ix_geq rfl rfl rfl (decide_eq_true m0)) ?_
            simp only [Act.put, List.setIfInBounds_toArray, List.set_cons_zero, List.set_cons_succ]
            refine wpList_run (v := .bool true) (wanted_none rfl) (exec_move rfl rfl) ?_
            simp only [Act.put, List.setIfInBounds_toArray, List.set_cons_zero, List.set_cons_succ]
            refine wpList_run (v := .int .i64 z) rfl (exec_move rfl rfl) ?_
            simp only [Act.put, List.setIfInBounds_toArray, List.set_cons_zero, List.set_cons_succ]
            refine wpList_run (v := .pointer (some ⟨g, 0, none⟩)) rfl (exec_field (off := 0) (d := 0) rfl rfl (by kernel_rfl)) ?_
            simp only [Act.put, List.setIfInBounds_toArray, List.set_cons_zero, List.set_cons_succ]
            refine wpList_run (v := .int .i64 s.1) rfl (exec_load1 rfl rfl (by kernel_rfl) (HB3.out.cell 0)) ?_
            simp only [Act.put, List.setIfInBounds_toArray, List.set_cons_zero, List.set_cons_succ]
            refine wpList_run (v := .bool true) rfl (ix_leq rfl rfl rfl (decide_eq_true m1)) ?_
            simp only [Act.put, List.setIfInBounds_toArray, List.set_cons_zero, List.set_cons_succ]
            refine wpList_run (v := .bool true) (wanted_none rfl) (ix_pickT rfl rfl rfl) ?_
            simp only [Act.put, List.setIfInBounds_toArray, List.set_cons_zero, List.set_cons_succ]
            refine wpList_run (v := .bool true) (wanted_none rfl) (exec_move rfl rfl) ?_
            simp only [Act.put, List.setIfInBounds_toArray, List.set_cons_zero, List.set_cons_succ]
            refine wpList_run (v := .int .i64 z) rfl (exec_move rfl rfl) ?_
            simp only [Act.put, List.setIfInBounds_toArray, List.set_cons_zero, List.set_cons_succ]
            refine wpList_run (v := .pointer (some ⟨g, 1, none⟩)) rfl (exec_field (off := 0) (d := 1) rfl rfl (by kernel_rfl)) ?_
            simp only [Act.put, List.setIfInBounds_toArray, List.set_cons_zero, List.set_cons_succ]
            refine wpList_run (v := .int .i64 s.2) rfl (exec_load1 rfl rfl (by kernel_rfl) (HB3.out.cell 1)) ?_
            simp only [Act.put, List.setIfInBounds_toArray, List.set_cons_zero, List.set_cons_succ]
            refine wpList_run (v := .int .i64 hc) rfl (exec_move rfl rfl) ?_
            simp only [Act.put, List.setIfInBounds_toArray, List.set_cons_zero, List.set_cons_succ]
            refine wpList_run (v := .int .i64 (s.2 - hc)) rfl (ix_sub rfl rfl rfl rfl ⟨by omega, by omega⟩) ?_
            simp only [Act.put, List.setIfInBounds_toArray, List.set_cons_zero, List.set_cons_succ]
            refine wpList_run (v := .bool true) rfl (ix_leq rfl rfl rfl (decide_eq_true m2)) ?_
            simp only [Act.put, List.setIfInBounds_toArray, List.set_cons_zero, List.set_cons_succ]
            refine wpList_run (v := .bool true) (wanted_none rfl) (ix_pickT rfl rfl rfl) ?_
            simp only [Act.put, List.setIfInBounds_toArray, List.set_cons_zero, List.set_cons_succ]
            refine wpList_run (v := .bool true) (wanted_none rfl) (gx_assign rfl rfl) ?_
            simp only [Act.put, List.setIfInBounds_toArray, List.set_cons_zero, List.set_cons_succ]
            go_upto_region 12 with fail
            refine wp_region_lit ?_
            refine wpList_run (v := .int .i64 0) (wanted_none rfl) (exec_move rfl rfl) ?_
            simp only [Act.put, List.setIfInBounds_toArray, List.set_cons_zero, List.set_cons_succ]
            refine wpList_run (v := .bool true) (wanted_none rfl) (ix_eql rfl rfl rfl (by decide)) ?_
            simp only [Act.put, List.setIfInBounds_toArray, List.set_cons_zero, List.set_cons_succ]
            refine wpList_run (v := .bool true) (wanted_none rfl) (exec_move rfl rfl) ?_
            simp only [Act.put, List.setIfInBounds_toArray, List.set_cons_zero, List.set_cons_succ]
            refine wpList_run (v := .bool false) (wanted_none rfl) (bx_neb (p := true) (q := true) rfl rfl rfl) ?_
            simp only [Act.put, List.setIfInBounds_toArray, List.set_cons_zero, List.set_cons_succ]
            go_upto_region 14 with fail
            refine wp_region_lit ?_
            refine wpList_run (v := .bool true) (wanted_none rfl) (exec_move rfl rfl) ?_
            simp only [Act.put, List.setIfInBounds_toArray, List.set_cons_zero, List.set_cons_succ]
            go_upto_region 15 with fail
            refine wp_region_lit ?_
            refine wpList_run (v := .int .i64 hc) (wanted_none rfl) (exec_move rfl rfl) ?_
            simp only [Act.put, List.setIfInBounds_toArray, List.set_cons_zero, List.set_cons_succ]
            refine wpList_run (v := .int .i64 z) (wanted_none rfl) (exec_move rfl rfl) ?_
            simp only [Act.put, List.setIfInBounds_toArray, List.set_cons_zero, List.set_cons_succ]
            refine wpList_run (v := .int .i64 sm) (wanted_none rfl) (ix_add rfl rfl rfl HSM.out.symm ⟨by have := HSM.out; omega, by have := HSM.out; omega⟩) ?_
            simp only [Act.put, List.setIfInBounds_toArray, List.set_cons_zero, List.set_cons_succ]
            refine wpList_run (v := .int .i64 sm) (wanted_none rfl) (gx_assign rfl rfl) ?_
            simp only [Act.put, List.setIfInBounds_toArray, List.set_cons_zero, List.set_cons_succ]
            go_upto_region 16 with fail
            refine wp_region_lit ?_
            refine wpList_run (v := .pointer (some ⟨a, 0, none⟩)) (wanted_none rfl) (exec_move rfl rfl) ?_
            simp only [Act.put, List.setIfInBounds_toArray, List.set_cons_zero, List.set_cons_succ]
            refine wpList_op (wanted_none rfl) fun K9 HK9 => ?_
            go_wp2_with fail
            refine (Had_at HD3.out wf0 HPU.out).mono ?_
            rintro e w3 ⟨rfl, rfl⟩
            refine HK9.out _ _ ?_
            clear HK9
            try simp only [Act.put, List.setIfInBounds_toArray, List.set_cons_zero, List.set_cons_succ]
            refine wpList_run (v := .int .i64 sm) (wanted_none rfl) (exec_move rfl rfl) ?_
            simp only [Act.put, List.setIfInBounds_toArray, List.set_cons_zero, List.set_cons_succ]
            refine wpList_run (v := .bool false) (wanted_none rfl) (ix_neq rfl rfl rfl (decide_eq_false (fun e => e rfl))) ?_
            simp only [Act.put, List.setIfInBounds_toArray, List.set_cons_zero, List.set_cons_succ]
            go_upto_region 8 with fail
            refine wp_region_lit ?_
            refine wpList_run (v := .int .i64 (i : Int)) (wanted_none rfl) (exec_move rfl rfl) ?_
            simp only [Act.put, List.setIfInBounds_toArray, List.set_cons_zero, List.set_cons_succ]
            refine wpList_run (v := .int .i64 ((i + 1 : Nat) : Int)) (wanted_none rfl) (ix_add rfl rfl rfl (by omega) (by omega)) ?_
            simp only [Act.put, List.setIfInBounds_toArray, List.set_cons_zero, List.set_cons_succ]
            refine wpList_run (v := .int .i64 ((i + 1 : Nat) : Int)) (wanted_none rfl) (gx_assign rfl rfl) ?_
            simp only [Act.put, List.setIfInBounds_toArray, List.set_cons_zero, List.set_cons_succ]
            go_wp2_with fail
            go_roundg (gk - 1)
            case measure => have := HGK.out; have := H100.out; omega
            case rel => exact ⟨i + 1, Si.put h c4 (h c4 + z), rfl, by have := HGK.out; have := H100.out; omega, by have := HLT.out; omega, by rw [HPU.out], HD3.out, HB3.out, HT3x.out⟩
        · as_aux_lemma =>
            have HES := Lib.hid (sum_no (s := s) (h := h) (z := z) (by rw [← HHC.out]; exact hmay))
            have HE0 := Lib.hid HES.out.1
            have HH := Lib.hid HES.out.2
            obtain ⟨E, hE⟩ : ∃ x, x = Si.askE [s] h (0, [52]) z := ⟨_, rfl⟩
            rw [← hE] at HE0
            have HE := Lib.hid hE.symm
            clear hE
            have hks := HOKL.out s (by simp)
            have k1 : s.2 ≤ 999999999999 := hks.2.2
            have k2 : 0 ≤ s.2 := hks.2.1
            clear hks
            go_upto_region 10 with fail
            refine wp_region_lit ?_
            refine wpList_run (v := .pointer (some ⟨a, 0, none⟩)) (wanted_none rfl) (exec_move rfl rfl) ?_
            simp only [Act.put, List.setIfInBounds_toArray, List.set_cons_zero, List.set_cons_succ]
            refine wpList_run (v := .int .i64 z) (wanted_none rfl) (exec_move rfl rfl) ?_
            simp only [Act.put, List.setIfInBounds_toArray, List.set_cons_zero, List.set_cons_succ]
            refine wpList_op (wanted_none rfl) fun K9 HK9 => ?_
            go_wp2_with fail
            refine (Ask_at HD.out (by have := HGK.out; omega) wf0 HE.out HH.out).mono ?_
            rintro e w3 ⟨rfl, hd, ht⟩
            refine HK9.out _ _ ?_
            clear HK9
            try simp only [Act.put, List.setIfInBounds_toArray, List.set_cons_zero, List.set_cons_succ]
            have HD3 := Lib.hid hd
            have HB3 := Lib.hid (HBR.out.turn ht fun e => HNG.out e)
            have HT3x := Lib.hid (HTR.out.newer HLB.out ht)
            clear hd ht
            refine wpList_run (v := .int .i64 E) (wanted_none rfl) (gx_assign rfl rfl) ?_
            simp only [Act.put, List.setIfInBounds_toArray, List.set_cons_zero, List.set_cons_succ]
            by_cases m0 : 0 ≤ z
            · by_cases m1 : z ≤ s.1
              · have m2 : ¬ z ≤ s.2 - hc := fun e => hmay ⟨m0, m1, e⟩
                clear hmay
                go_upto_region 11 with fail
                refine wp_region_lit ?_
                refine wpList_run (v := .int .i64 z) (wanted_none rfl) (exec_move rfl rfl) ?_
                simp only [Act.put, List.setIfInBounds_toArray, List.set_cons_zero, List.set_cons_succ]
                refine wpList_run (v := .bool true) (wanted_none rfl) (ix_geq rfl rfl rfl (decide_eq_true m0)) ?_
                simp only [Act.put, List.setIfInBounds_toArray, List.set_cons_zero, List.set_cons_succ]
                refine wpList_run (v := .bool true) (wanted_none rfl) (exec_move rfl rfl) ?_
                simp only [Act.put, List.setIfInBounds_toArray, List.set_cons_zero, List.set_cons_succ]
                refine wpList_run (v := .int .i64 z) rfl (exec_move rfl rfl) ?_
                simp only [Act.put, List.setIfInBounds_toArray, List.set_cons_zero, List.set_cons_succ]
                refine wpList_run (v := .pointer (some ⟨g, 0, none⟩)) rfl (exec_field (off := 0) (d := 0) rfl rfl (by kernel_rfl)) ?_
                simp only [Act.put, List.setIfInBounds_toArray, List.set_cons_zero, List.set_cons_succ]
                refine wpList_run (v := .int .i64 s.1) rfl (exec_load1 rfl rfl (by kernel_rfl) (HB3.out.cell 0)) ?_
                simp only [Act.put, List.setIfInBounds_toArray, List.set_cons_zero, List.set_cons_succ]
                refine wpList_run (v := .bool true) rfl (ix_leq rfl rfl rfl (decide_eq_true m1)) ?_
                simp only [Act.put, List.setIfInBounds_toArray, List.set_cons_zero, List.set_cons_succ]
                refine wpList_run (v := .bool true) (wanted_none rfl) (ix_pickT rfl rfl rfl) ?_
                simp only [Act.put, List.setIfInBounds_toArray, List.set_cons_zero, List.set_cons_succ]
                refine wpList_run (v := .bool true) (wanted_none rfl) (exec_move rfl rfl) ?_
                simp only [Act.put, List.setIfInBounds_toArray, List.set_cons_zero, List.set_cons_succ]
                refine wpList_run (v := .int .i64 z) rfl (exec_move rfl rfl) ?_
                simp only [Act.put, List.setIfInBounds_toArray, List.set_cons_zero, List.set_cons_succ]
                refine wpList_run (v := .pointer (some ⟨g, 1, none⟩)) rfl (exec_field (off := 0) (d := 1) rfl rfl (by kernel_rfl)) ?_
                simp only [Act.put, List.setIfInBounds_toArray, List.set_cons_zero, List.set_cons_succ]
                refine wpList_run (v := .int .i64 s.2) rfl (exec_load1 rfl rfl (by kernel_rfl) (HB3.out.cell 1)) ?_
                simp only [Act.put, List.setIfInBounds_toArray, List.set_cons_zero, List.set_cons_succ]
                refine wpList_run (v := .int .i64 hc) rfl (exec_move rfl rfl) ?_
                simp only [Act.put, List.setIfInBounds_toArray, List.set_cons_zero, List.set_cons_succ]
                refine wpList_run (v := .int .i64 (s.2 - hc)) rfl (ix_sub rfl rfl rfl rfl ⟨by omega, by omega⟩) ?_
                simp only [Act.put, List.setIfInBounds_toArray, List.set_cons_zero, List.set_cons_succ]
                refine wpList_run (v := .bool false) rfl (ix_leq rfl rfl rfl (decide_eq_false m2)) ?_
                simp only [Act.put, List.setIfInBounds_toArray, List.set_cons_zero, List.set_cons_succ]
                refine wpList_run (v := .bool false) (wanted_none rfl) (ix_pickT rfl rfl rfl) ?_
                simp only [Act.put, List.setIfInBounds_toArray, List.set_cons_zero, List.set_cons_succ]
                refine wpList_run (v := .bool false) (wanted_none rfl) (gx_assign rfl rfl) ?_
                simp only [Act.put, List.setIfInBounds_toArray, List.set_cons_zero, List.set_cons_succ]
                go_upto_region 12 with fail
                refine wp_region_lit ?_
                refine wpList_run (v := .int .i64 E) (wanted_none rfl) (exec_move rfl rfl) ?_
                simp only [Act.put, List.setIfInBounds_toArray, List.set_cons_zero, List.set_cons_succ]
                refine wpList_run (v := .bool false) (wanted_none rfl) (ix_eql rfl rfl rfl (decide_eq_false HE0.out)) ?_
                simp only [Act.put, List.setIfInBounds_toArray, List.set_cons_zero, List.set_cons_succ]
                refine wpList_run (v := .bool false) (wanted_none rfl) (exec_move rfl rfl) ?_
                simp only [Act.put, List.setIfInBounds_toArray, List.set_cons_zero, List.set_cons_succ]
                refine wpList_run (v := .bool false) (wanted_none rfl) (bx_neb (p := false) (q := false) rfl rfl rfl) ?_
                simp only [Act.put, List.setIfInBounds_toArray, List.set_cons_zero, List.set_cons_succ]
                go_upto_region 14 with fail
                refine wp_region_lit ?_
                refine wpList_run (v := .bool false) (wanted_none rfl) (exec_move rfl rfl) ?_
                simp only [Act.put, List.setIfInBounds_toArray, List.set_cons_zero, List.set_cons_succ]
                go_upto_region 16 with fail
                refine wp_region_lit ?_
                refine wpList_run (v := .pointer (some ⟨a, 0, none⟩)) (wanted_none rfl) (exec_move rfl rfl) ?_
                simp only [Act.put, List.setIfInBounds_toArray, List.set_cons_zero, List.set_cons_succ]
                refine wpList_op (wanted_none rfl) fun K9 HK9 => ?_
                go_wp2_with fail
                refine (Had_at HD3.out wf0 HHC.out.symm).mono ?_
                rintro e w3 ⟨rfl, rfl⟩
                refine HK9.out _ _ ?_
                clear HK9
                try simp only [Act.put, List.setIfInBounds_toArray, List.set_cons_zero, List.set_cons_succ]
                refine wpList_run (v := .int .i64 hc) (wanted_none rfl) (exec_move rfl rfl) ?_
                simp only [Act.put, List.setIfInBounds_toArray, List.set_cons_zero, List.set_cons_succ]
                refine wpList_run (v := .bool false) (wanted_none rfl) (ix_neq rfl rfl rfl (decide_eq_false (fun e => e rfl))) ?_
                simp only [Act.put, List.setIfInBounds_toArray, List.set_cons_zero, List.set_cons_succ]
                go_upto_region 8 with fail
                refine wp_region_lit ?_
                refine wpList_run (v := .int .i64 (i : Int)) (wanted_none rfl) (exec_move rfl rfl) ?_
                simp only [Act.put, List.setIfInBounds_toArray, List.set_cons_zero, List.set_cons_succ]
                refine wpList_run (v := .int .i64 ((i + 1 : Nat) : Int)) (wanted_none rfl) (ix_add rfl rfl rfl (by omega) (by omega)) ?_
                simp only [Act.put, List.setIfInBounds_toArray, List.set_cons_zero, List.set_cons_succ]
                refine wpList_run (v := .int .i64 ((i + 1 : Nat) : Int)) (wanted_none rfl) (gx_assign rfl rfl) ?_
                simp only [Act.put, List.setIfInBounds_toArray, List.set_cons_zero, List.set_cons_succ]
                go_wp2_with fail
                go_roundg (gk - 1)
                case measure => have := HGK.out; have := H100.out; omega
                case rel => exact ⟨i + 1, h, rfl, by have := HGK.out; have := H100.out; omega, by have := HLT.out; omega, by rw [HHC.out.symm], HD3.out, HB3.out, HT3x.out⟩
              · clear hmay
                go_upto_region 11 with fail
                first
                | (rename_i K9 hK9; have HKC := Lib.hid hK9; clear hK9)
                | (rename_i K9 hK9 K8; have HKC := Lib.hid hK9; clear hK9)
                refine wp_region_lit ?_
                refine wpList_run (v := .int .i64 z) (wanted_none rfl) (exec_move rfl rfl) ?_
                simp only [Act.put, List.setIfInBounds_toArray, List.set_cons_zero, List.set_cons_succ]
                refine wpList_run (v := .bool true) (wanted_none rfl) (ix_geq rfl rfl rfl (decide_eq_true m0)) ?_
                simp only [Act.put, List.setIfInBounds_toArray, List.set_cons_zero, List.set_cons_succ]
                refine wpList_run (v := .bool true) (wanted_none rfl) (exec_move rfl rfl) ?_
                simp only [Act.put, List.setIfInBounds_toArray, List.set_cons_zero, List.set_cons_succ]
                refine wpList_run (v := .int .i64 z) rfl (exec_move rfl rfl) ?_
                simp only [Act.put, List.setIfInBounds_toArray, List.set_cons_zero, List.set_cons_succ]
                refine wpList_run (v := .pointer (some ⟨g, 0, none⟩)) rfl (exec_field (off := 0) (d := 0) rfl rfl (by kernel_rfl)) ?_
                simp only [Act.put, List.setIfInBounds_toArray, List.set_cons_zero, List.set_cons_succ]
                refine wpList_run (v := .int .i64 s.1) rfl (exec_load1 rfl rfl (by kernel_rfl) (HB3.out.cell 0)) ?_
                simp only [Act.put, List.setIfInBounds_toArray, List.set_cons_zero, List.set_cons_succ]
                refine wpList_run (v := .bool false) rfl (ix_leq rfl rfl rfl (decide_eq_false m1)) ?_
                simp only [Act.put, List.setIfInBounds_toArray, List.set_cons_zero, List.set_cons_succ]
                refine wpList_run (v := .bool false) (wanted_none rfl) (ix_pickT rfl rfl rfl) ?_
                simp only [Act.put, List.setIfInBounds_toArray, List.set_cons_zero, List.set_cons_succ]
                refine wpList_run (v := .bool false) (wanted_none rfl) (exec_move rfl rfl) ?_
                simp only [Act.put, List.setIfInBounds_toArray, List.set_cons_zero, List.set_cons_succ]
                go_wp2_with fail
                refine HKC.out _ _ ?_
                clear HKC
                go_upto_region 12 with fail
                refine wp_region_lit ?_
                refine wpList_run (v := .int .i64 E) (wanted_none rfl) (exec_move rfl rfl) ?_
                simp only [Act.put, List.setIfInBounds_toArray, List.set_cons_zero, List.set_cons_succ]
                refine wpList_run (v := .bool false) (wanted_none rfl) (ix_eql rfl rfl rfl (decide_eq_false HE0.out)) ?_
                simp only [Act.put, List.setIfInBounds_toArray, List.set_cons_zero, List.set_cons_succ]
                refine wpList_run (v := .bool false) (wanted_none rfl) (exec_move rfl rfl) ?_
                simp only [Act.put, List.setIfInBounds_toArray, List.set_cons_zero, List.set_cons_succ]
                refine wpList_run (v := .bool false) (wanted_none rfl) (bx_neb (p := false) (q := false) rfl rfl rfl) ?_
                simp only [Act.put, List.setIfInBounds_toArray, List.set_cons_zero, List.set_cons_succ]
                go_upto_region 14 with fail
                refine wp_region_lit ?_
                refine wpList_run (v := .bool false) (wanted_none rfl) (exec_move rfl rfl) ?_
                simp only [Act.put, List.setIfInBounds_toArray, List.set_cons_zero, List.set_cons_succ]
                go_upto_region 16 with fail
                refine wp_region_lit ?_
                refine wpList_run (v := .pointer (some ⟨a, 0, none⟩)) (wanted_none rfl) (exec_move rfl rfl) ?_
                simp only [Act.put, List.setIfInBounds_toArray, List.set_cons_zero, List.set_cons_succ]
                refine wpList_op (wanted_none rfl) fun K9 HK9 => ?_
                go_wp2_with fail
                refine (Had_at HD3.out wf0 HHC.out.symm).mono ?_
                rintro e w3 ⟨rfl, rfl⟩
                refine HK9.out _ _ ?_
                clear HK9
                try simp only [Act.put, List.setIfInBounds_toArray, List.set_cons_zero, List.set_cons_succ]
                refine wpList_run (v := .int .i64 hc) (wanted_none rfl) (exec_move rfl rfl) ?_
                simp only [Act.put, List.setIfInBounds_toArray, List.set_cons_zero, List.set_cons_succ]
                refine wpList_run (v := .bool false) (wanted_none rfl) (ix_neq rfl rfl rfl (decide_eq_false (fun e => e rfl))) ?_
                simp only [Act.put, List.setIfInBounds_toArray, List.set_cons_zero, List.set_cons_succ]
                go_upto_region 8 with fail
                refine wp_region_lit ?_
                refine wpList_run (v := .int .i64 (i : Int)) (wanted_none rfl) (exec_move rfl rfl) ?_
                simp only [Act.put, List.setIfInBounds_toArray, List.set_cons_zero, List.set_cons_succ]
                refine wpList_run (v := .int .i64 ((i + 1 : Nat) : Int)) (wanted_none rfl) (ix_add rfl rfl rfl (by omega) (by omega)) ?_
                simp only [Act.put, List.setIfInBounds_toArray, List.set_cons_zero, List.set_cons_succ]
                refine wpList_run (v := .int .i64 ((i + 1 : Nat) : Int)) (wanted_none rfl) (gx_assign rfl rfl) ?_
                simp only [Act.put, List.setIfInBounds_toArray, List.set_cons_zero, List.set_cons_succ]
                go_wp2_with fail
                go_roundg (gk - 1)
                case measure => have := HGK.out; have := H100.out; omega
                case rel => exact ⟨i + 1, h, rfl, by have := HGK.out; have := H100.out; omega, by have := HLT.out; omega, by rw [HHC.out.symm], HD3.out, HB3.out, HT3x.out⟩
            · clear hmay
              go_upto_region 11 with fail
              first
              | (rename_i K9 hK9; have HKC := Lib.hid hK9; clear hK9)
              | (rename_i K9 hK9 K8; have HKC := Lib.hid hK9; clear hK9)
              refine wp_region_lit ?_
              refine wpList_run (v := .int .i64 z) (wanted_none rfl) (exec_move rfl rfl) ?_
              simp only [Act.put, List.setIfInBounds_toArray, List.set_cons_zero, List.set_cons_succ]
              refine wpList_run (v := .bool false) (wanted_none rfl) (ix_geq rfl rfl rfl (decide_eq_false m0)) ?_
              simp only [Act.put, List.setIfInBounds_toArray, List.set_cons_zero, List.set_cons_succ]
              refine wpList_run (v := .bool false) (wanted_none rfl) (exec_move rfl rfl) ?_
              simp only [Act.put, List.setIfInBounds_toArray, List.set_cons_zero, List.set_cons_succ]
              go_wp2_with fail
              refine HKC.out _ _ ?_
              clear HKC
              go_upto_region 12 with fail
              refine wp_region_lit ?_
              refine wpList_run (v := .int .i64 E) (wanted_none rfl) (exec_move rfl rfl) ?_
              simp only [Act.put, List.setIfInBounds_toArray, List.set_cons_zero, List.set_cons_succ]
              refine wpList_run (v := .bool false) (wanted_none rfl) (ix_eql rfl rfl rfl (decide_eq_false HE0.out)) ?_
              simp only [Act.put, List.setIfInBounds_toArray, List.set_cons_zero, List.set_cons_succ]
              refine wpList_run (v := .bool false) (wanted_none rfl) (exec_move rfl rfl) ?_
              simp only [Act.put, List.setIfInBounds_toArray, List.set_cons_zero, List.set_cons_succ]
              refine wpList_run (v := .bool false) (wanted_none rfl) (bx_neb (p := false) (q := false) rfl rfl rfl) ?_
              simp only [Act.put, List.setIfInBounds_toArray, List.set_cons_zero, List.set_cons_succ]
              go_upto_region 14 with fail
              refine wp_region_lit ?_
              refine wpList_run (v := .bool false) (wanted_none rfl) (exec_move rfl rfl) ?_
              simp only [Act.put, List.setIfInBounds_toArray, List.set_cons_zero, List.set_cons_succ]
              go_upto_region 16 with fail
              refine wp_region_lit ?_
              refine wpList_run (v := .pointer (some ⟨a, 0, none⟩)) (wanted_none rfl) (exec_move rfl rfl) ?_
              simp only [Act.put, List.setIfInBounds_toArray, List.set_cons_zero, List.set_cons_succ]
              refine wpList_op (wanted_none rfl) fun K9 HK9 => ?_
              go_wp2_with fail
              refine (Had_at HD3.out wf0 HHC.out.symm).mono ?_
              rintro e w3 ⟨rfl, rfl⟩
              refine HK9.out _ _ ?_
              clear HK9
              try simp only [Act.put, List.setIfInBounds_toArray, List.set_cons_zero, List.set_cons_succ]
              refine wpList_run (v := .int .i64 hc) (wanted_none rfl) (exec_move rfl rfl) ?_
              simp only [Act.put, List.setIfInBounds_toArray, List.set_cons_zero, List.set_cons_succ]
              refine wpList_run (v := .bool false) (wanted_none rfl) (ix_neq rfl rfl rfl (decide_eq_false (fun e => e rfl))) ?_
              simp only [Act.put, List.setIfInBounds_toArray, List.set_cons_zero, List.set_cons_succ]
              go_upto_region 8 with fail
              refine wp_region_lit ?_
              refine wpList_run (v := .int .i64 (i : Int)) (wanted_none rfl) (exec_move rfl rfl) ?_
              simp only [Act.put, List.setIfInBounds_toArray, List.set_cons_zero, List.set_cons_succ]
              refine wpList_run (v := .int .i64 ((i + 1 : Nat) : Int)) (wanted_none rfl) (ix_add rfl rfl rfl (by omega) (by omega)) ?_
              simp only [Act.put, List.setIfInBounds_toArray, List.set_cons_zero, List.set_cons_succ]
              refine wpList_run (v := .int .i64 ((i + 1 : Nat) : Int)) (wanted_none rfl) (gx_assign rfl rfl) ?_
              simp only [Act.put, List.setIfInBounds_toArray, List.set_cons_zero, List.set_cons_succ]
              go_wp2_with fail
              go_roundg (gk - 1)
              case measure => have := HGK.out; have := H100.out; omega
              case rel => exact ⟨i + 1, h, rfl, by have := HGK.out; have := H100.out; omega, by have := HLT.out; omega, by rw [HHC.out.symm], HD3.out, HB3.out, HT3x.out⟩
      · have y4 : ¬ (i : Int) < 100 := by omega
        clear h100
        go_upto_region 7 with fail
        refine wp_region_lit ?_
        refine wpList_run (v := .int .i64 (i : Int)) (wanted_none rfl) (exec_move rfl rfl) ?_
        simp only [Act.put, List.setIfInBounds_toArray, List.set_cons_zero, List.set_cons_succ]
        refine wpList_run (v := .slice A n c) (wanted_none rfl) (exec_move rfl rfl) ?_
        simp only [Act.put, List.setIfInBounds_toArray, List.set_cons_zero, List.set_cons_succ]
        refine wpList_run (v := .int .i64 (n : Int)) (wanted_none rfl) (gx_len rfl rfl Try.underlying43) ?_
        simp only [Act.put, List.setIfInBounds_toArray, List.set_cons_zero, List.set_cons_succ]
        refine wpList_run (v := .bool true) (wanted_none rfl) (ix_lss rfl rfl rfl (decide_eq_true y3)) ?_
        simp only [Act.put, List.setIfInBounds_toArray, List.set_cons_zero, List.set_cons_succ]
        refine wpList_run (v := .bool true) (wanted_none rfl) (exec_move rfl rfl) ?_
        simp only [Act.put, List.setIfInBounds_toArray, List.set_cons_zero, List.set_cons_succ]
        refine wpList_run (v := .int .i64 (i : Int)) rfl (exec_move rfl rfl) ?_
        simp only [Act.put, List.setIfInBounds_toArray, List.set_cons_zero, List.set_cons_succ]
        refine wpList_run (v := .bool false) rfl (ix_lss rfl rfl rfl (decide_eq_false y4)) ?_
        simp only [Act.put, List.setIfInBounds_toArray, List.set_cons_zero, List.set_cons_succ]
        refine wpList_run (v := .bool false) (wanted_none rfl) (ix_pickT rfl rfl rfl) ?_
        simp only [Act.put, List.setIfInBounds_toArray, List.set_cons_zero, List.set_cons_succ]
        go_upto_region 18 with fail
        refine wp_region_lit ?_
        refine wpList_run (v := .bool true) (wanted_none rfl) (gx_assign rfl rfl) ?_
        simp only [Act.put, List.setIfInBounds_toArray, List.set_cons_zero, List.set_cons_succ]
        go_wp2_with fail
        go_ret
        exact ⟨rfl, HTR.out⟩
    · have y3 : ¬ (i : Int) < (n : Int) := by omega
      clear hlt
      go_upto_region 7 with fail
      first
      | (rename_i K9 hK9; have HKC := Lib.hid hK9; clear hK9)
      | (rename_i K9 hK9 K8; have HKC := Lib.hid hK9; clear hK9)
      refine wp_region_lit ?_
      refine wpList_run (v := .int .i64 (i : Int)) (wanted_none rfl) (exec_move rfl rfl) ?_
      simp only [Act.put, List.setIfInBounds_toArray, List.set_cons_zero, List.set_cons_succ]
      refine wpList_run (v := .slice A n c) (wanted_none rfl) (exec_move rfl rfl) ?_
      simp only [Act.put, List.setIfInBounds_toArray, List.set_cons_zero, List.set_cons_succ]
      refine wpList_run (v := .int .i64 (n : Int)) (wanted_none rfl) (gx_len rfl rfl Try.underlying43) ?_
      simp only [Act.put, List.setIfInBounds_toArray, List.set_cons_zero, List.set_cons_succ]
      refine wpList_run (v := .bool false) (wanted_none rfl) (ix_lss rfl rfl rfl (decide_eq_false y3)) ?_
      simp only [Act.put, List.setIfInBounds_toArray, List.set_cons_zero, List.set_cons_succ]
      refine wpList_run (v := .bool false) (wanted_none rfl) (exec_move rfl rfl) ?_
      simp only [Act.put, List.setIfInBounds_toArray, List.set_cons_zero, List.set_cons_succ]
      go_wp2_with fail
      refine HKC.out _ _ ?_
      clear HKC
      go_upto_region 18 with fail
      refine wp_region_lit ?_
      refine wpList_run (v := .bool true) (wanted_none rfl) (gx_assign rfl rfl) ?_
      simp only [Act.put, List.setIfInBounds_toArray, List.set_cons_zero, List.set_cons_succ]
      go_wp2_with fail
      go_ret
      exact ⟨rfl, HTR.out⟩
  · have HZ := Lib.hid hz
    clear hz
    obtain ⟨E, hE⟩ : ∃ x, x = Si.newE [s] := ⟨_, rfl⟩
    have HNW := Lib.hid (New_no (l := [s]) (c := 1) HR3.out (fun h => by cases h) (by decide) HZ.out)
    rw [← hE] at HNW HZ
    clear hE
    refine wpList_op (wanted_none rfl) fun K9 HK9 => ?_
    go_wp2_with fail
    refine (HNW.out).mono ?_
    rintro e w4 ⟨rfl, ht⟩
    refine HK9.out _ _ ?_
    clear HK9
    try simp only [Act.put, List.setIfInBounds_toArray, List.set_cons_zero, List.set_cons_succ]
    have HT4 := Lib.hid (HT3.out.trans ht fun _ _ e => e)
    clear ht
    refine wpList_run (v := .tuple #[.pointer none, .int .i64 E]) (wanted_none rfl) (exec_move rfl rfl) ?_
    simp only [Act.put, List.setIfInBounds_toArray, List.set_cons_zero, List.set_cons_succ]
    refine wpList_run (v := .pointer none) (wanted_none rfl) (ix_extract rfl rfl rfl) ?_
    simp only [Act.put, List.setIfInBounds_toArray, List.set_cons_zero, List.set_cons_succ]
    refine wpList_run (v := .int .i64 E) (wanted_none rfl) (ix_extract rfl rfl rfl) ?_
    simp only [Act.put, List.setIfInBounds_toArray, List.set_cons_zero, List.set_cons_succ]
    refine wpList_run (v := .pointer none) (wanted_none rfl) (gx_assign rfl rfl) ?_
    simp only [Act.put, List.setIfInBounds_toArray, List.set_cons_zero, List.set_cons_succ]
    refine wpList_run (v := .int .i64 E) (wanted_none rfl) (gx_assign rfl rfl) ?_
    simp only [Act.put, List.setIfInBounds_toArray, List.set_cons_zero, List.set_cons_succ]
    go_upto_region 3 with fail
    refine wp_region_lit ?_
    refine wpList_run (v := .bool true) (wanted_none rfl) (exec_move rfl rfl) ?_
    simp only [Act.put, List.setIfInBounds_toArray, List.set_cons_zero, List.set_cons_succ]
    refine wpList_run (v := .bool false) (wanted_none rfl) (ix_not (b := true) rfl rfl) ?_
    simp only [Act.put, List.setIfInBounds_toArray, List.set_cons_zero, List.set_cons_succ]
    refine wpList_run (v := .bool false) (wanted_none rfl) (exec_move rfl rfl) ?_
    simp only [Act.put, List.setIfInBounds_toArray, List.set_cons_zero, List.set_cons_succ]
    refine wpList_run (v := .int .i64 E) rfl (exec_move rfl rfl) ?_
    simp only [Act.put, List.setIfInBounds_toArray, List.set_cons_zero, List.set_cons_succ]
    refine wpList_run (v := .bool true) rfl (ix_neq rfl rfl rfl (decide_eq_true HZ.out)) ?_
    simp only [Act.put, List.setIfInBounds_toArray, List.set_cons_zero, List.set_cons_succ]
    refine wpList_run (v := .bool true) (wanted_none rfl) (ix_pickF rfl rfl rfl) ?_
    simp only [Act.put, List.setIfInBounds_toArray, List.set_cons_zero, List.set_cons_succ]
    go_upto_region 4 with fail
    refine wp_region_lit ?_
    refine wpList_run (v := .bool true) (wanted_none rfl) (exec_move rfl rfl) ?_
    simp only [Act.put, List.setIfInBounds_toArray, List.set_cons_zero, List.set_cons_succ]
    refine wpList_run (v := .bool true) (wanted_none rfl) (exec_move rfl rfl) ?_
    simp only [Act.put, List.setIfInBounds_toArray, List.set_cons_zero, List.set_cons_succ]
    refine wpList_run (v := .pointer none) rfl (exec_move rfl rfl) ?_
    simp only [Act.put, List.setIfInBounds_toArray, List.set_cons_zero, List.set_cons_succ]
    refine wpList_run (v := .bool true) rfl (ptr_eqt (.inl rfl) rfl rfl rfl) ?_
    simp only [Act.put, List.setIfInBounds_toArray, List.set_cons_zero, List.set_cons_succ]
    refine wpList_run (v := .bool true) (wanted_none rfl) (ix_pickT rfl rfl rfl) ?_
    simp only [Act.put, List.setIfInBounds_toArray, List.set_cons_zero, List.set_cons_succ]
    refine wpList_run (v := .bool true) (wanted_none rfl) (gx_assign rfl rfl) ?_
    simp only [Act.put, List.setIfInBounds_toArray, List.set_cons_zero, List.set_cons_succ]
    go_wp2_with fail
    go_ret
    exact ⟨rfl, HT4.out⟩
theorem standinSums_walk (x y : Int) (A : Option Addr) (n c : Nat) (zs : List Int) (W : World) (hk : Ks W nowhere A n zs) (hb : n ≤ 140737488355328) :
    Calls Try.prog 5 #[.agg #[.int .i64 x, .int .i64 y], .slice A n c] W fun e w' => e = .returned (.bool true) ∧ Below W.heap.size W w' :=
  (sums_walk (x, y) W hk hb).mono fun e w' ⟨h1, h2⟩ => ⟨h1, h2.below (Nat.le_refl _) fun _ _ e => e⟩
end Go.Proofs.Ytenflpbmjahbgaa
