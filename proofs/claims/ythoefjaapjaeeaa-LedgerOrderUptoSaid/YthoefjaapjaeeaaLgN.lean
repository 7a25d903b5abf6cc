/-
  Ledgers: same and like; the reference's payment: the walks. No conditions.
-/
import Derived.Test.YthoefjaapjaeeaaLgL
namespace Go.Proofs.Ythoefjaapjaeeaa
open Go.RowKit
open Lg (Ent)
set_option linter.unusedVariables false
set_option linter.unusedSimpArgs false
theorem ent_neq {a : Act} {o : Oper} {W : World} {x y : Operand} {u : TypeId} {e f : Ent} {r : Bool} (ho : o.op = .binOp .neq 57 x y u) (hx : a.eval x = .agg (entA e)) (hy : a.eval y = .agg (entA f)) (hr : decide (e ≠ f) = r) : (execOp a.eval o).run Try.prog W = .ok (.value (.bool r)) W := by
  subst hr
  obtain ⟨a1, a2⟩ := e
  obtain ⟨b1, b2⟩ := f
  unfold execOp
  simp only [ho, hx, hy, entA]
  go_simp
  by_cases h : a1 = b1 <;> by_cases h2 : a2 = b2 <;> simp [h, h2]
theorem ent_eql {a : Act} {o : Oper} {W : World} {x y : Operand} {u : TypeId} {e f : Ent} {r : Bool} (ho : o.op = .binOp .eql 57 x y u) (hx : a.eval x = .agg (entA e)) (hy : a.eval y = .agg (entA f)) (hr : decide (e = f) = r) : (execOp a.eval o).run Try.prog W = .ok (.value (.bool r)) W := by
  subst hr
  obtain ⟨a1, a2⟩ := e
  obtain ⟨b1, b2⟩ := f
  unfold execOp
  simp only [ho, hx, hy, entA]
  go_simp
  by_cases h : a1 = b1 <;> by_cases h2 : a2 = b2 <;> simp [h, h2]
set_option maxRecDepth 20000 in
set_option maxHeartbeats 4000000 in
theorem same_walk {w : World} {A1 A2 : Option Addr} {n1 n2 c1 c2 : Nat} {es : List Ent} (h1 : EntAt w A1 n1 es) (h2 : EntAt w A2 n2 es) : Calls Try.prog 14 #[.slice A1 n1 c1, .slice A2 n2 c2] w fun e w' => e = .returned (.bool true) ∧ Turn nowhere w w' := by
  obtain rfl : n1 = n2 := h1.len.trans h2.len.symm
  have HE := Lib.hid h1
  have HF := Lib.hid h2
  have HLEN := Lib.hid h1.len
  have ym : (n1 : Int) ≤ 140737488355328 := by have := h1.row.2.2.1; omega
  clear h1 h2
  go_enter Try.func14, Try.ntmps14
  go_upto_region 0 with fail
  refine wp_region_lit ?_
  refine wpList_run (v := .bool false) (wanted_none rfl) (gx_assign rfl rfl) ?_
  simp only [Act.put, List.setIfInBounds_toArray, List.set_cons_zero, List.set_cons_succ]
  go_upto_region 1 with fail
  refine wp_region_lit ?_
  refine wpList_run (v := .slice A1 n1 c1) (wanted_none rfl) (exec_move rfl rfl) ?_
  simp only [Act.put, List.setIfInBounds_toArray, List.set_cons_zero, List.set_cons_succ]
  refine wpList_run (v := .int .i64 (n1 : Int)) (wanted_none rfl) (gx_len rfl rfl Try.underlying35) ?_
  simp only [Act.put, List.setIfInBounds_toArray, List.set_cons_zero, List.set_cons_succ]
  refine wpList_run (v := .slice A2 n1 c2) (wanted_none rfl) (exec_move rfl rfl) ?_
  simp only [Act.put, List.setIfInBounds_toArray, List.set_cons_zero, List.set_cons_succ]
  refine wpList_run (v := .int .i64 (n1 : Int)) (wanted_none rfl) (gx_len rfl rfl Try.underlying35) ?_
  simp only [Act.put, List.setIfInBounds_toArray, List.set_cons_zero, List.set_cons_succ]
  refine wpList_run (v := .bool false) (wanted_none rfl) (ix_neq rfl rfl rfl (by simp)) ?_
  simp only [Act.put, List.setIfInBounds_toArray, List.set_cons_zero, List.set_cons_succ]
  go_upto_region 3 with fail
  refine wp_region_lit ?_
  refine wpList_run (v := .int .i64 0) (wanted_none rfl) (gx_assign rfl rfl) ?_
  simp only [Act.put, List.setIfInBounds_toArray, List.set_cons_zero, List.set_cons_succ]
  go_wp2_with fail
  go_loopg [5] n1 (fun gk iv wr => ∃ i : Nat, iv = .int .i64 (i : Int) ∧ i + gk = n1 ∧ Turn nowhere w wr)
  case atStart => exact ⟨0, rfl, by omega, Turn.refl _ _⟩
  obtain ⟨i, rfl, hgk, htr⟩ := hrel
  have HGK := Lib.hid hgk
  have HTR := Lib.hid htr
  have yi : (i : Int) ≤ (n1 : Int) := by omega
  clear hgk htr
  by_cases hlt : i < n1
  · have HLT := Lib.hid hlt
    have y3 : (i : Int) < (n1 : Int) := by omega
    obtain ⟨e, hei⟩ := ent_some HLEN.out hlt
    have HEI := Lib.hid hei
    obtain ⟨b1, o1, e1, _⟩ := HE.out.rng hei
    obtain ⟨b2, o2, e2, _⟩ := HF.out.rng hei
    subst e1 e2
    have HR1 := Lib.hid ((HE.out.still HTR.out).rngw hei)
    have HR2 := Lib.hid ((HF.out.still HTR.out).rngw hei)
    clear hei hlt
    go_upto_region 4 with fail
    refine wp_region_lit ?_
    refine wpList_run (v := .int .i64 (i : Int)) (wanted_none rfl) (exec_move rfl rfl) ?_
    simp only [Act.put, List.setIfInBounds_toArray, List.set_cons_zero, List.set_cons_succ]
    refine wpList_run (v := .slice (some ⟨b1, o1, none⟩) n1 c1) (wanted_none rfl) (exec_move rfl rfl) ?_
    simp only [Act.put, List.setIfInBounds_toArray, List.set_cons_zero, List.set_cons_succ]
    refine wpList_run (v := .int .i64 (n1 : Int)) (wanted_none rfl) (gx_len rfl rfl Try.underlying35) ?_
    simp only [Act.put, List.setIfInBounds_toArray, List.set_cons_zero, List.set_cons_succ]
    refine wpList_run (v := .bool true) (wanted_none rfl) (ix_lss rfl rfl rfl (decide_eq_true y3)) ?_
    simp only [Act.put, List.setIfInBounds_toArray, List.set_cons_zero, List.set_cons_succ]
    go_upto_region 6 with fail
    refine wp_region_alw (fun W => W.rangeAt b1 (o1 + i * 2) (entC e) ∧ W.rangeAt b2 (o2 + i * 2) (entC e)) (by kernel_rfl) ?_
    have hS0 : (fun W => W.rangeAt b1 (o1 + i * 2) (entC e) ∧ W.rangeAt b2 (o2 + i * 2) (entC e)) wr.drew := ⟨HR1.out, HR2.out⟩
    have HD := Lib.hid ((Turn.refl nowhere wr).drew)
    generalize wr.drew = wd at *
    refine alw_take (i := 0) (v := .slice (some ⟨b1, o1, none⟩) n1 c1) rfl (by kernel_rfl) (by kernel_rfl) (fun _ _ _ h => h) (.inl ⟨by rfl, fun W hW => exec_move rfl rfl⟩) hS0 ?_
    simp only [Act.put, List.setIfInBounds_toArray, List.set_cons_zero, List.set_cons_succ]
    refine alw_take (i := 1) (v := .int .i64 (i : Int)) rfl (by kernel_rfl) (by kernel_rfl) (fun _ _ _ h => h) (.inl ⟨by rfl, fun W hW => exec_move rfl rfl⟩) hS0 ?_
    simp only [Act.put, List.setIfInBounds_toArray, List.set_cons_zero, List.set_cons_succ]
    refine alw_take (i := 2) (v := .pointer (some ⟨b1, o1 + i * 2, none⟩)) rfl (by kernel_rfl) (by kernel_rfl) (fun _ _ _ h => h) (.inl ⟨by rfl, fun W hW => gx_iaddr (i := i) (sz := 2) rfl rfl rfl Try.underlying35 size_ent HLT.out rfl⟩) hS0 ?_
    simp only [Act.put, List.setIfInBounds_toArray, List.set_cons_zero, List.set_cons_succ]
    refine alw_take (i := 3) (v := .agg (entA e)) rfl (by kernel_rfl) (by kernel_rfl) (fun _ _ _ h => h) (.inl ⟨by rfl, fun W hW => gx_loads rfl rfl hW.1 Try.underlying57 rfl (by rw [size_ent]; rfl)⟩) hS0 ?_
    simp only [Act.put, List.setIfInBounds_toArray, List.set_cons_zero, List.set_cons_succ]
    refine alw_take (i := 4) (v := .slice (some ⟨b2, o2, none⟩) n1 c2) rfl (by kernel_rfl) (by kernel_rfl) (fun _ _ _ h => h) (.inl ⟨by rfl, fun W hW => exec_move rfl rfl⟩) hS0 ?_
    simp only [Act.put, List.setIfInBounds_toArray, List.set_cons_zero, List.set_cons_succ]
    refine alw_take (i := 5) (v := .int .i64 (i : Int)) rfl (by kernel_rfl) (by kernel_rfl) (fun _ _ _ h => h) (.inl ⟨by rfl, fun W hW => exec_move rfl rfl⟩) hS0 ?_
    simp only [Act.put, List.setIfInBounds_toArray, List.set_cons_zero, List.set_cons_succ]
    refine alw_take (i := 6) (v := .pointer (some ⟨b2, o2 + i * 2, none⟩)) rfl (by kernel_rfl) (by kernel_rfl) (fun _ _ _ h => h) (.inl ⟨by rfl, fun W hW => gx_iaddr (i := i) (sz := 2) rfl rfl rfl Try.underlying35 size_ent HLT.out rfl⟩) hS0 ?_
    simp only [Act.put, List.setIfInBounds_toArray, List.set_cons_zero, List.set_cons_succ]
    refine alw_take (i := 7) (v := .agg (entA e)) rfl (by kernel_rfl) (by kernel_rfl) (fun _ _ _ h => h) (.inl ⟨by rfl, fun W hW => gx_loads rfl rfl hW.2 Try.underlying57 rfl (by rw [size_ent]; rfl)⟩) hS0 ?_
    simp only [Act.put, List.setIfInBounds_toArray, List.set_cons_zero, List.set_cons_succ]
    refine alw_take (i := 8) (v := .bool false) rfl (by kernel_rfl) (by kernel_rfl) (fun _ _ _ h => h) (.inl ⟨by rfl, fun W hW => ent_neq rfl rfl rfl (by simp)⟩) hS0 ?_
    simp only [Act.put, List.setIfInBounds_toArray, List.set_cons_zero, List.set_cons_succ]
    refine alw_done rfl ?_
    refine NoPanic.normal ?_
    clear hS0
    go_upto_region 5 with fail
    refine wp_region_lit ?_
    refine wpList_run (v := .int .i64 (i : Int)) (wanted_none rfl) (exec_move rfl rfl) ?_
    simp only [Act.put, List.setIfInBounds_toArray, List.set_cons_zero, List.set_cons_succ]
    refine wpList_run (v := .int .i64 ((i + 1 : Nat) : Int)) (wanted_none rfl) (ix_add rfl rfl rfl (by omega) (by omega)) ?_
    simp only [Act.put, List.setIfInBounds_toArray, List.set_cons_zero, List.set_cons_succ]
    refine wpList_run (v := .int .i64 ((i + 1 : Nat) : Int)) (wanted_none rfl) (gx_assign rfl rfl) ?_
    simp only [Act.put, List.setIfInBounds_toArray, List.set_cons_zero, List.set_cons_succ]
    go_wp2_with fail
    go_roundg (n1 - (i + 1))
    case measure => have := HGK.out; have := HLT.out; omega
    case rel => exact ⟨i + 1, rfl, by have := HLT.out; omega, HTR.out.trans HD.out fun _ _ e => e⟩
  · have y4 : ¬ (i : Int) < (n1 : Int) := by omega
    clear hlt
    go_upto_region 4 with fail
    refine wp_region_lit ?_
    refine wpList_run (v := .int .i64 (i : Int)) (wanted_none rfl) (exec_move rfl rfl) ?_
    simp only [Act.put, List.setIfInBounds_toArray, List.set_cons_zero, List.set_cons_succ]
    refine wpList_run (v := .slice A1 n1 c1) (wanted_none rfl) (exec_move rfl rfl) ?_
    simp only [Act.put, List.setIfInBounds_toArray, List.set_cons_zero, List.set_cons_succ]
    refine wpList_run (v := .int .i64 (n1 : Int)) (wanted_none rfl) (gx_len rfl rfl Try.underlying35) ?_
    simp only [Act.put, List.setIfInBounds_toArray, List.set_cons_zero, List.set_cons_succ]
    refine wpList_run (v := .bool false) (wanted_none rfl) (ix_lss rfl rfl rfl (decide_eq_false y4)) ?_
    simp only [Act.put, List.setIfInBounds_toArray, List.set_cons_zero, List.set_cons_succ]
    go_upto_region 8 with fail
    refine wp_region_lit ?_
    refine wpList_run (v := .bool true) (wanted_none rfl) (gx_assign rfl rfl) ?_
    simp only [Act.put, List.setIfInBounds_toArray, List.set_cons_zero, List.set_cons_succ]
    go_wp2_with fail
    go_ret
    exact ⟨rfl, HTR.out⟩
set_option maxRecDepth 20000 in
set_option maxHeartbeats 4000000 in
theorem like_walk {w : World} {p y n : Nat} {b : Nat → Int} {v : Value} (h : Led w p n b) (g : RLed w y n b v) : Calls Try.prog 15 #[.pointer (some ⟨p, 0, none⟩), .pointer (some ⟨y, 0, none⟩)] w fun e w' => e = .returned (.bool true) ∧ Turn nowhere w w' := by
  have H := Lib.hid h
  have G := Lib.hid g
  have hn7 := h.ac
  have y1 : 1 ≤ (n : Int) := by omega
  have y7 : (n : Int) ≤ 7 := by omega
  obtain ⟨gv, cv, hv, hnc, _⟩ := g.row.some_ (by rw [nums_len]; omega)
  rw [nums_len] at hv hnc
  subst hv
  clear h g hn7 hnc
  go_enter Try.func15, Try.ntmps15
  go_upto_region 0 with fail
  refine wp_region_lit ?_
  refine wpList_run (v := .bool false) (wanted_none rfl) (gx_assign rfl rfl) ?_
  simp only [Act.put, List.setIfInBounds_toArray, List.set_cons_zero, List.set_cons_succ]
  go_upto_region 1 with fail
  refine wp_region_lit ?_
  refine wpList_run (v := .int .i64 (-1)) (wanted_none rfl) (gx_assign rfl rfl) ?_
  simp only [Act.put, List.setIfInBounds_toArray, List.set_cons_zero, List.set_cons_succ]
  go_wp2_with fail
  go_loopg [5] (n + 2) (fun gk iv wr => ∃ (j : Nat) (x : Int), iv = .int .i64 x ∧ x = (j : Int) - 1 ∧ j + gk = n + 2 ∧ Turn nowhere w wr)
  case atStart => exact ⟨0, -1, rfl, rfl, by omega, Turn.refl _ _⟩
  obtain ⟨j, x, rfl, hx, hgk, htr⟩ := hrel
  have HX := Lib.hid hx
  have HGK := Lib.hid hgk
  have HTR := Lib.hid htr
  have HL := Lib.hid (H.out.still htr)
  have HG := Lib.hid (G.out.still htr)
  have yx1 : -1 ≤ x := by omega
  have yx2 : x ≤ (n : Int) + 1 := by omega
  clear hx hgk htr
  by_cases hlt : x ≤ (n : Int)
  · have HLT := Lib.hid hlt
    go_upto_region 2 with fail
    refine wp_region_lit ?_
    refine wpList_run (v := .int .i64 x) (wanted_none rfl) (exec_move rfl rfl) ?_
    simp only [Act.put, List.setIfInBounds_toArray, List.set_cons_zero, List.set_cons_succ]
    refine wpList_run (v := .pointer (some ⟨y, 0, none⟩)) (wanted_none rfl) (exec_move rfl rfl) ?_
    simp only [Act.put, List.setIfInBounds_toArray, List.set_cons_zero, List.set_cons_succ]
    refine wpList_run (v := .pointer (some ⟨y, 0, none⟩)) (wanted_none rfl) (exec_nil rfl rfl) ?_
    simp only [Act.put, List.setIfInBounds_toArray, List.set_cons_zero, List.set_cons_succ]
    refine wpList_run (v := .pointer (some ⟨y, 0, none⟩)) (wanted_none rfl) (exec_field (off := 0) (d := 0) rfl rfl (by kernel_rfl)) ?_
    simp only [Act.put, List.setIfInBounds_toArray, List.set_cons_zero, List.set_cons_succ]
    refine wpList_run (v := .slice (some ⟨gv, 0, none⟩) n cv) (wanted_none rfl) (exec_load1 rfl rfl (by kernel_rfl) (HG.out.blk.cell 0)) ?_
    simp only [Act.put, List.setIfInBounds_toArray, List.set_cons_zero, List.set_cons_succ]
    refine wpList_run (v := .int .i64 (n : Int)) (wanted_none rfl) (gx_len rfl rfl Try.underlying32) ?_
    simp only [Act.put, List.setIfInBounds_toArray, List.set_cons_zero, List.set_cons_succ]
    refine wpList_run (v := .bool true) (wanted_none rfl) (ix_leq rfl rfl rfl (decide_eq_true HLT.out)) ?_
    simp only [Act.put, List.setIfInBounds_toArray, List.set_cons_zero, List.set_cons_succ]
    rcases (by omega : x < 0 ∨ x = (n : Int) ∨ (0 ≤ x ∧ x < (n : Int))) with hin | hin | hin
    · have HV := Lib.hid (bal_no (n := n) (b := b) (a := x) (by omega))
      have HIN := Lib.hid hin
      clear hin
      go_upto_region 4 with fail
      refine wp_region_lit ?_
      refine wpList_run (v := .pointer (some ⟨p, 0, none⟩)) (wanted_none rfl) (exec_move rfl rfl) ?_
      simp only [Act.put, List.setIfInBounds_toArray, List.set_cons_zero, List.set_cons_succ]
      refine wpList_run (v := .int .i64 x) (wanted_none rfl) (exec_move rfl rfl) ?_
      simp only [Act.put, List.setIfInBounds_toArray, List.set_cons_zero, List.set_cons_succ]
      refine wpList_op rfl fun K9 HK9 => ?_
      go_wp2_with fail
      refine (Balance_walk HL.out).mono ?_
      rintro e w2 ⟨rfl, rfl⟩
      refine HK9.out _ _ ?_
      clear HK9
      try simp only [Act.put, List.setIfInBounds_toArray, List.set_cons_zero, List.set_cons_succ]
      rw [HV.out.1, HV.out.2]
      have HT2 := Lib.hid HTR.out
      refine wpList_run (v := .tuple #[.int .i64 0, .int .i64 121]) (wanted_none rfl) (exec_move rfl rfl) ?_
      simp only [Act.put, List.setIfInBounds_toArray, List.set_cons_zero, List.set_cons_succ]
      refine wpList_run (v := .int .i64 0) (wanted_none rfl) (ix_extract rfl rfl rfl) ?_
      simp only [Act.put, List.setIfInBounds_toArray, List.set_cons_zero, List.set_cons_succ]
      refine wpList_run (v := .int .i64 121) (wanted_none rfl) (ix_extract rfl rfl rfl) ?_
      simp only [Act.put, List.setIfInBounds_toArray, List.set_cons_zero, List.set_cons_succ]
      refine wpList_run (v := .int .i64 0) (wanted_none rfl) (gx_assign rfl rfl) ?_
      simp only [Act.put, List.setIfInBounds_toArray, List.set_cons_zero, List.set_cons_succ]
      refine wpList_run (v := .int .i64 121) (wanted_none rfl) (gx_assign rfl rfl) ?_
      simp only [Act.put, List.setIfInBounds_toArray, List.set_cons_zero, List.set_cons_succ]
      go_upto_region 5 with fail
      first
      | (rename_i K9 hK9; have HKC := Lib.hid hK9; clear hK9)
      | (rename_i K9 hK9 K8; have HKC := Lib.hid hK9; clear hK9)
      refine wp_region_lit ?_
      refine wpList_run (v := .int .i64 x) (wanted_none rfl) (exec_move rfl rfl) ?_
      simp only [Act.put, List.setIfInBounds_toArray, List.set_cons_zero, List.set_cons_succ]
      refine wpList_run (v := .bool true) (wanted_none rfl) (ix_lss rfl rfl rfl (decide_eq_true HIN.out)) ?_
      simp only [Act.put, List.setIfInBounds_toArray, List.set_cons_zero, List.set_cons_succ]
      refine wpList_run (v := .bool true) (wanted_none rfl) (exec_move rfl rfl) ?_
      simp only [Act.put, List.setIfInBounds_toArray, List.set_cons_zero, List.set_cons_succ]
      go_wp2_with fail
      refine HKC.out _ _ ?_
      clear HKC
      go_upto_region 6 with fail
      refine wp_region_lit ?_
      refine wpList_run (v := .int .i64 121) (wanted_none rfl) (exec_move rfl rfl) ?_
      simp only [Act.put, List.setIfInBounds_toArray, List.set_cons_zero, List.set_cons_succ]
      refine wpList_run (v := .bool false) (wanted_none rfl) (ix_neq rfl rfl rfl (by decide)) ?_
      simp only [Act.put, List.setIfInBounds_toArray, List.set_cons_zero, List.set_cons_succ]
      refine wpList_run (v := .bool false) (wanted_none rfl) (exec_move rfl rfl) ?_
      simp only [Act.put, List.setIfInBounds_toArray, List.set_cons_zero, List.set_cons_succ]
      refine wpList_run (v := .int .i64 0) rfl (exec_move rfl rfl) ?_
      simp only [Act.put, List.setIfInBounds_toArray, List.set_cons_zero, List.set_cons_succ]
      refine wpList_run (v := .bool false) rfl (ix_neq rfl rfl rfl (by decide)) ?_
      simp only [Act.put, List.setIfInBounds_toArray, List.set_cons_zero, List.set_cons_succ]
      refine wpList_run (v := .bool false) (wanted_none rfl) (ix_pickF rfl rfl rfl) ?_
      simp only [Act.put, List.setIfInBounds_toArray, List.set_cons_zero, List.set_cons_succ]
      go_upto_region 3 with fail
      refine wp_region_lit ?_
      refine wpList_run (v := .int .i64 x) (wanted_none rfl) (exec_move rfl rfl) ?_
      simp only [Act.put, List.setIfInBounds_toArray, List.set_cons_zero, List.set_cons_succ]
      refine wpList_run (v := .int .i64 (x + 1)) (wanted_none rfl) (ix_add rfl rfl rfl rfl (by omega)) ?_
      simp only [Act.put, List.setIfInBounds_toArray, List.set_cons_zero, List.set_cons_succ]
      refine wpList_run (v := .int .i64 (x + 1)) (wanted_none rfl) (gx_assign rfl rfl) ?_
      simp only [Act.put, List.setIfInBounds_toArray, List.set_cons_zero, List.set_cons_succ]
      go_wp2_with fail
      go_roundg (n + 2 - (j + 1))
      case measure => have := HGK.out; have := HX.out; have := HLT.out; omega
      case rel => exact ⟨j + 1, x + 1, rfl, by have := HX.out; omega, by have := HX.out; have := HLT.out; omega, HT2.out⟩
    · have HV := Lib.hid (bal_no (n := n) (b := b) (a := x) (by omega))
      have HIN := Lib.hid hin
      clear hin
      go_upto_region 4 with fail
      refine wp_region_lit ?_
      refine wpList_run (v := .pointer (some ⟨p, 0, none⟩)) (wanted_none rfl) (exec_move rfl rfl) ?_
      simp only [Act.put, List.setIfInBounds_toArray, List.set_cons_zero, List.set_cons_succ]
      refine wpList_run (v := .int .i64 x) (wanted_none rfl) (exec_move rfl rfl) ?_
      simp only [Act.put, List.setIfInBounds_toArray, List.set_cons_zero, List.set_cons_succ]
      refine wpList_op rfl fun K9 HK9 => ?_
      go_wp2_with fail
      refine (Balance_walk HL.out).mono ?_
      rintro e w2 ⟨rfl, rfl⟩
      refine HK9.out _ _ ?_
      clear HK9
      try simp only [Act.put, List.setIfInBounds_toArray, List.set_cons_zero, List.set_cons_succ]
      rw [HV.out.1, HV.out.2]
      have HT2 := Lib.hid HTR.out
      refine wpList_run (v := .tuple #[.int .i64 0, .int .i64 121]) (wanted_none rfl) (exec_move rfl rfl) ?_
      simp only [Act.put, List.setIfInBounds_toArray, List.set_cons_zero, List.set_cons_succ]
      refine wpList_run (v := .int .i64 0) (wanted_none rfl) (ix_extract rfl rfl rfl) ?_
      simp only [Act.put, List.setIfInBounds_toArray, List.set_cons_zero, List.set_cons_succ]
      refine wpList_run (v := .int .i64 121) (wanted_none rfl) (ix_extract rfl rfl rfl) ?_
      simp only [Act.put, List.setIfInBounds_toArray, List.set_cons_zero, List.set_cons_succ]
      refine wpList_run (v := .int .i64 0) (wanted_none rfl) (gx_assign rfl rfl) ?_
      simp only [Act.put, List.setIfInBounds_toArray, List.set_cons_zero, List.set_cons_succ]
      refine wpList_run (v := .int .i64 121) (wanted_none rfl) (gx_assign rfl rfl) ?_
      simp only [Act.put, List.setIfInBounds_toArray, List.set_cons_zero, List.set_cons_succ]
      go_upto_region 5 with fail
      refine wp_region_lit ?_
      refine wpList_run (v := .int .i64 x) (wanted_none rfl) (exec_move rfl rfl) ?_
      simp only [Act.put, List.setIfInBounds_toArray, List.set_cons_zero, List.set_cons_succ]
      refine wpList_run (v := .bool false) (wanted_none rfl) (ix_lss rfl rfl rfl (decide_eq_false (by have := HIN.out; omega))) ?_
      simp only [Act.put, List.setIfInBounds_toArray, List.set_cons_zero, List.set_cons_succ]
      refine wpList_run (v := .bool false) (wanted_none rfl) (exec_move rfl rfl) ?_
      simp only [Act.put, List.setIfInBounds_toArray, List.set_cons_zero, List.set_cons_succ]
      refine wpList_run (v := .int .i64 x) rfl (exec_move rfl rfl) ?_
      simp only [Act.put, List.setIfInBounds_toArray, List.set_cons_zero, List.set_cons_succ]
      refine wpList_run (v := .pointer (some ⟨y, 0, none⟩)) rfl (exec_move rfl rfl) ?_
      simp only [Act.put, List.setIfInBounds_toArray, List.set_cons_zero, List.set_cons_succ]
      refine wpList_run (v := .pointer (some ⟨y, 0, none⟩)) rfl (exec_nil rfl rfl) ?_
      simp only [Act.put, List.setIfInBounds_toArray, List.set_cons_zero, List.set_cons_succ]
      refine wpList_run (v := .pointer (some ⟨y, 0, none⟩)) rfl (exec_field (off := 0) (d := 0) rfl rfl (by kernel_rfl)) ?_
      simp only [Act.put, List.setIfInBounds_toArray, List.set_cons_zero, List.set_cons_succ]
      refine wpList_run (v := .slice (some ⟨gv, 0, none⟩) n cv) rfl (exec_load1 rfl rfl (by kernel_rfl) (HG.out.blk.cell 0)) ?_
      simp only [Act.put, List.setIfInBounds_toArray, List.set_cons_zero, List.set_cons_succ]
      refine wpList_run (v := .int .i64 (n : Int)) rfl (gx_len rfl rfl Try.underlying32) ?_
      simp only [Act.put, List.setIfInBounds_toArray, List.set_cons_zero, List.set_cons_succ]
      refine wpList_run (v := .bool true) rfl (ix_geq rfl rfl rfl (decide_eq_true (by have := HIN.out; omega))) ?_
      simp only [Act.put, List.setIfInBounds_toArray, List.set_cons_zero, List.set_cons_succ]
      refine wpList_run (v := .bool true) (wanted_none rfl) (ix_pickF rfl rfl rfl) ?_
      simp only [Act.put, List.setIfInBounds_toArray, List.set_cons_zero, List.set_cons_succ]
      go_upto_region 6 with fail
      refine wp_region_lit ?_
      refine wpList_run (v := .int .i64 121) (wanted_none rfl) (exec_move rfl rfl) ?_
      simp only [Act.put, List.setIfInBounds_toArray, List.set_cons_zero, List.set_cons_succ]
      refine wpList_run (v := .bool false) (wanted_none rfl) (ix_neq rfl rfl rfl (by decide)) ?_
      simp only [Act.put, List.setIfInBounds_toArray, List.set_cons_zero, List.set_cons_succ]
      refine wpList_run (v := .bool false) (wanted_none rfl) (exec_move rfl rfl) ?_
      simp only [Act.put, List.setIfInBounds_toArray, List.set_cons_zero, List.set_cons_succ]
      refine wpList_run (v := .int .i64 0) rfl (exec_move rfl rfl) ?_
      simp only [Act.put, List.setIfInBounds_toArray, List.set_cons_zero, List.set_cons_succ]
      refine wpList_run (v := .bool false) rfl (ix_neq rfl rfl rfl (by decide)) ?_
      simp only [Act.put, List.setIfInBounds_toArray, List.set_cons_zero, List.set_cons_succ]
      refine wpList_run (v := .bool false) (wanted_none rfl) (ix_pickF rfl rfl rfl) ?_
      simp only [Act.put, List.setIfInBounds_toArray, List.set_cons_zero, List.set_cons_succ]
      go_upto_region 3 with fail
      refine wp_region_lit ?_
      refine wpList_run (v := .int .i64 x) (wanted_none rfl) (exec_move rfl rfl) ?_
      simp only [Act.put, List.setIfInBounds_toArray, List.set_cons_zero, List.set_cons_succ]
      refine wpList_run (v := .int .i64 (x + 1)) (wanted_none rfl) (ix_add rfl rfl rfl rfl (by omega)) ?_
      simp only [Act.put, List.setIfInBounds_toArray, List.set_cons_zero, List.set_cons_succ]
      refine wpList_run (v := .int .i64 (x + 1)) (wanted_none rfl) (gx_assign rfl rfl) ?_
      simp only [Act.put, List.setIfInBounds_toArray, List.set_cons_zero, List.set_cons_succ]
      go_wp2_with fail
      go_roundg (n + 2 - (j + 1))
      case measure => have := HGK.out; have := HX.out; have := HLT.out; omega
      case rel => exact ⟨j + 1, x + 1, rfl, by have := HX.out; omega, by have := HX.out; have := HLT.out; omega, HT2.out⟩
    · obtain ⟨k, rfl⟩ := Int.eq_ofNat_of_zero_le hin.1
      have hk : k < n := by omega
      have HK := Lib.hid hk
      have HV := Lib.hid (bal_at n b hk)
      have HEL := Lib.hid (show wr.cell? ⟨gv, k, none⟩ = some (.int .i64 (b k)) from by have := HG.out.row.el0 (i := k) (nums_at b hk) 0 _ rfl; simpa using this)
      have yk0 : 0 ≤ (k : Int) := by omega
      have ykn : (k : Int) < (n : Int) := by omega
      clear hin hk
      go_upto_region 4 with fail
      refine wp_region_lit ?_
      refine wpList_run (v := .pointer (some ⟨p, 0, none⟩)) (wanted_none rfl) (exec_move rfl rfl) ?_
      simp only [Act.put, List.setIfInBounds_toArray, List.set_cons_zero, List.set_cons_succ]
      refine wpList_run (v := .int .i64 (k : Int)) (wanted_none rfl) (exec_move rfl rfl) ?_
      simp only [Act.put, List.setIfInBounds_toArray, List.set_cons_zero, List.set_cons_succ]
      refine wpList_op rfl fun K9 HK9 => ?_
      go_wp2_with fail
      refine (Balance_walk HL.out).mono ?_
      rintro e w2 ⟨rfl, rfl⟩
      refine HK9.out _ _ ?_
      clear HK9
      try simp only [Act.put, List.setIfInBounds_toArray, List.set_cons_zero, List.set_cons_succ]
      rw [HV.out.1, HV.out.2]
      have HT2 := Lib.hid HTR.out
      refine wpList_run (v := .tuple #[.int .i64 (b k), .int .i64 0]) (wanted_none rfl) (exec_move rfl rfl) ?_
      simp only [Act.put, List.setIfInBounds_toArray, List.set_cons_zero, List.set_cons_succ]
      refine wpList_run (v := .int .i64 (b k)) (wanted_none rfl) (ix_extract rfl rfl rfl) ?_
      simp only [Act.put, List.setIfInBounds_toArray, List.set_cons_zero, List.set_cons_succ]
      refine wpList_run (v := .int .i64 0) (wanted_none rfl) (ix_extract rfl rfl rfl) ?_
      simp only [Act.put, List.setIfInBounds_toArray, List.set_cons_zero, List.set_cons_succ]
      refine wpList_run (v := .int .i64 (b k)) (wanted_none rfl) (gx_assign rfl rfl) ?_
      simp only [Act.put, List.setIfInBounds_toArray, List.set_cons_zero, List.set_cons_succ]
      refine wpList_run (v := .int .i64 0) (wanted_none rfl) (gx_assign rfl rfl) ?_
      simp only [Act.put, List.setIfInBounds_toArray, List.set_cons_zero, List.set_cons_succ]
      go_upto_region 5 with fail
      refine wp_region_lit ?_
      refine wpList_run (v := .int .i64 (k : Int)) (wanted_none rfl) (exec_move rfl rfl) ?_
      simp only [Act.put, List.setIfInBounds_toArray, List.set_cons_zero, List.set_cons_succ]
      refine wpList_run (v := .bool false) (wanted_none rfl) (ix_lss rfl rfl rfl (decide_eq_false (by omega))) ?_
      simp only [Act.put, List.setIfInBounds_toArray, List.set_cons_zero, List.set_cons_succ]
      refine wpList_run (v := .bool false) (wanted_none rfl) (exec_move rfl rfl) ?_
      simp only [Act.put, List.setIfInBounds_toArray, List.set_cons_zero, List.set_cons_succ]
      refine wpList_run (v := .int .i64 (k : Int)) rfl (exec_move rfl rfl) ?_
      simp only [Act.put, List.setIfInBounds_toArray, List.set_cons_zero, List.set_cons_succ]
      refine wpList_run (v := .pointer (some ⟨y, 0, none⟩)) rfl (exec_move rfl rfl) ?_
      simp only [Act.put, List.setIfInBounds_toArray, List.set_cons_zero, List.set_cons_succ]
      refine wpList_run (v := .pointer (some ⟨y, 0, none⟩)) rfl (exec_nil rfl rfl) ?_
      simp only [Act.put, List.setIfInBounds_toArray, List.set_cons_zero, List.set_cons_succ]
      refine wpList_run (v := .pointer (some ⟨y, 0, none⟩)) rfl (exec_field (off := 0) (d := 0) rfl rfl (by kernel_rfl)) ?_
      simp only [Act.put, List.setIfInBounds_toArray, List.set_cons_zero, List.set_cons_succ]
      refine wpList_run (v := .slice (some ⟨gv, 0, none⟩) n cv) rfl (exec_load1 rfl rfl (by kernel_rfl) (HG.out.blk.cell 0)) ?_
      simp only [Act.put, List.setIfInBounds_toArray, List.set_cons_zero, List.set_cons_succ]
      refine wpList_run (v := .int .i64 (n : Int)) rfl (gx_len rfl rfl Try.underlying32) ?_
      simp only [Act.put, List.setIfInBounds_toArray, List.set_cons_zero, List.set_cons_succ]
      refine wpList_run (v := .bool false) rfl (ix_geq rfl rfl rfl (decide_eq_false (by omega))) ?_
      simp only [Act.put, List.setIfInBounds_toArray, List.set_cons_zero, List.set_cons_succ]
      refine wpList_run (v := .bool false) (wanted_none rfl) (ix_pickF rfl rfl rfl) ?_
      simp only [Act.put, List.setIfInBounds_toArray, List.set_cons_zero, List.set_cons_succ]
      go_upto_region 8 with fail
      refine wp_region_lit ?_
      refine wpList_run (v := .int .i64 0) (wanted_none rfl) (exec_move rfl rfl) ?_
      simp only [Act.put, List.setIfInBounds_toArray, List.set_cons_zero, List.set_cons_succ]
      refine wpList_run (v := .bool false) (wanted_none rfl) (ix_neq rfl rfl rfl (by decide)) ?_
      simp only [Act.put, List.setIfInBounds_toArray, List.set_cons_zero, List.set_cons_succ]
      refine wpList_run (v := .bool false) (wanted_none rfl) (exec_move rfl rfl) ?_
      simp only [Act.put, List.setIfInBounds_toArray, List.set_cons_zero, List.set_cons_succ]
      refine wpList_run (v := .int .i64 (b k)) rfl (exec_move rfl rfl) ?_
      simp only [Act.put, List.setIfInBounds_toArray, List.set_cons_zero, List.set_cons_succ]
      refine wpList_run (v := .pointer (some ⟨y, 0, none⟩)) rfl (exec_move rfl rfl) ?_
      simp only [Act.put, List.setIfInBounds_toArray, List.set_cons_zero, List.set_cons_succ]
      refine wpList_run (v := .pointer (some ⟨y, 0, none⟩)) rfl (exec_nil rfl rfl) ?_
      simp only [Act.put, List.setIfInBounds_toArray, List.set_cons_zero, List.set_cons_succ]
      refine wpList_run (v := .pointer (some ⟨y, 0, none⟩)) rfl (exec_field (off := 0) (d := 0) rfl rfl (by kernel_rfl)) ?_
      simp only [Act.put, List.setIfInBounds_toArray, List.set_cons_zero, List.set_cons_succ]
      refine wpList_run (v := .slice (some ⟨gv, 0, none⟩) n cv) rfl (exec_load1 rfl rfl (by kernel_rfl) (HG.out.blk.cell 0)) ?_
      simp only [Act.put, List.setIfInBounds_toArray, List.set_cons_zero, List.set_cons_succ]
      refine wpList_run (v := .int .i64 (k : Int)) rfl (exec_move rfl rfl) ?_
      simp only [Act.put, List.setIfInBounds_toArray, List.set_cons_zero, List.set_cons_succ]
      refine wpList_run (v := .pointer (some ⟨gv, k, none⟩)) rfl (gx_iaddr (i := k) (sz := 1) rfl rfl rfl Try.underlying32 size_n HK.out (by omega)) ?_
      simp only [Act.put, List.setIfInBounds_toArray, List.set_cons_zero, List.set_cons_succ]
      refine wpList_run (v := .int .i64 (b k)) rfl (exec_load1 rfl rfl (by kernel_rfl) HEL.out) ?_
      simp only [Act.put, List.setIfInBounds_toArray, List.set_cons_zero, List.set_cons_succ]
      refine wpList_run (v := .bool false) rfl (ix_neq rfl rfl rfl (by simp)) ?_
      simp only [Act.put, List.setIfInBounds_toArray, List.set_cons_zero, List.set_cons_succ]
      refine wpList_run (v := .bool false) (wanted_none rfl) (ix_pickF rfl rfl rfl) ?_
      simp only [Act.put, List.setIfInBounds_toArray, List.set_cons_zero, List.set_cons_succ]
      go_upto_region 3 with fail
      refine wp_region_lit ?_
      refine wpList_run (v := .int .i64 (k : Int)) (wanted_none rfl) (exec_move rfl rfl) ?_
      simp only [Act.put, List.setIfInBounds_toArray, List.set_cons_zero, List.set_cons_succ]
      refine wpList_run (v := .int .i64 ((k : Int) + 1)) (wanted_none rfl) (ix_add rfl rfl rfl rfl (by omega)) ?_
      simp only [Act.put, List.setIfInBounds_toArray, List.set_cons_zero, List.set_cons_succ]
      refine wpList_run (v := .int .i64 ((k : Int) + 1)) (wanted_none rfl) (gx_assign rfl rfl) ?_
      simp only [Act.put, List.setIfInBounds_toArray, List.set_cons_zero, List.set_cons_succ]
      go_wp2_with fail
      go_roundg (n + 2 - (j + 1))
      case measure => have := HGK.out; have := HX.out; have := HLT.out; omega
      case rel => exact ⟨j + 1, (k : Int) + 1, rfl, by have := HX.out; omega, by have := HX.out; have := HLT.out; omega, HT2.out⟩
  · have HLT := Lib.hid hlt
    clear hlt
    go_upto_region 2 with fail
    refine wp_region_lit ?_
    refine wpList_run (v := .int .i64 x) (wanted_none rfl) (exec_move rfl rfl) ?_
    simp only [Act.put, List.setIfInBounds_toArray, List.set_cons_zero, List.set_cons_succ]
    refine wpList_run (v := .pointer (some ⟨y, 0, none⟩)) (wanted_none rfl) (exec_move rfl rfl) ?_
    simp only [Act.put, List.setIfInBounds_toArray, List.set_cons_zero, List.set_cons_succ]
    refine wpList_run (v := .pointer (some ⟨y, 0, none⟩)) (wanted_none rfl) (exec_nil rfl rfl) ?_
    simp only [Act.put, List.setIfInBounds_toArray, List.set_cons_zero, List.set_cons_succ]
    refine wpList_run (v := .pointer (some ⟨y, 0, none⟩)) (wanted_none rfl) (exec_field (off := 0) (d := 0) rfl rfl (by kernel_rfl)) ?_
    simp only [Act.put, List.setIfInBounds_toArray, List.set_cons_zero, List.set_cons_succ]
    refine wpList_run (v := .slice (some ⟨gv, 0, none⟩) n cv) (wanted_none rfl) (exec_load1 rfl rfl (by kernel_rfl) (HG.out.blk.cell 0)) ?_
    simp only [Act.put, List.setIfInBounds_toArray, List.set_cons_zero, List.set_cons_succ]
    refine wpList_run (v := .int .i64 (n : Int)) (wanted_none rfl) (gx_len rfl rfl Try.underlying32) ?_
    simp only [Act.put, List.setIfInBounds_toArray, List.set_cons_zero, List.set_cons_succ]
    refine wpList_run (v := .bool false) (wanted_none rfl) (ix_leq rfl rfl rfl (decide_eq_false HLT.out)) ?_
    simp only [Act.put, List.setIfInBounds_toArray, List.set_cons_zero, List.set_cons_succ]
    go_upto_region 10 with fail
    refine wp_region_alw (fun W => Blk W y 34 #[.slice (some ⟨gv, 0, none⟩) n cv] ∧ Led W p n b) (by kernel_rfl) ?_
    have hS0 : (fun W => Blk W y 34 #[.slice (some ⟨gv, 0, none⟩) n cv] ∧ Led W p n b) wr.drew := ⟨HG.out.blk.drew, HL.out.still ((Turn.refl nowhere wr).drew)⟩
    have HD := Lib.hid ((Turn.refl nowhere wr).drew)
    generalize wr.drew = wd at *
    refine alw_take (i := 0) (v := .pointer (some ⟨p, 0, none⟩)) rfl (by kernel_rfl) (by kernel_rfl) (fun _ _ _ h => h) (.inl ⟨by rfl, fun W hW => exec_move rfl rfl⟩) hS0 ?_
    simp only [Act.put, List.setIfInBounds_toArray, List.set_cons_zero, List.set_cons_succ]
    refine alw_take (i := 2) (v := .pointer (some ⟨y, 0, none⟩)) rfl (by kernel_rfl) (by kernel_rfl) (fun _ _ _ h => h) (.inl ⟨by rfl, fun W hW => exec_move rfl rfl⟩) hS0 ?_
    simp only [Act.put, List.setIfInBounds_toArray, List.set_cons_zero, List.set_cons_succ]
    refine alw_take (i := 3) (v := .pointer (some ⟨y, 0, none⟩)) rfl (by kernel_rfl) (by kernel_rfl) (fun _ _ _ h => h) (.inl ⟨by rfl, fun W hW => exec_nil rfl rfl⟩) hS0 ?_
    simp only [Act.put, List.setIfInBounds_toArray, List.set_cons_zero, List.set_cons_succ]
    refine alw_take (i := 4) (v := .pointer (some ⟨y, 0, none⟩)) rfl (by kernel_rfl) (by kernel_rfl) (fun _ _ _ h => h) (.inl ⟨by rfl, fun W hW => exec_field (off := 0) (d := 0) rfl rfl (by kernel_rfl)⟩) hS0 ?_
    simp only [Act.put, List.setIfInBounds_toArray, List.set_cons_zero, List.set_cons_succ]
    refine alw_take (i := 5) (v := .slice (some ⟨gv, 0, none⟩) n cv) rfl (by kernel_rfl) (by kernel_rfl) (fun _ _ _ h => h) (.inl ⟨by rfl, fun W hW => exec_load1 rfl rfl (by kernel_rfl) (hW.1.cell 0)⟩) hS0 ?_
    simp only [Act.put, List.setIfInBounds_toArray, List.set_cons_zero, List.set_cons_succ]
    refine alw_take (i := 6) (v := .int .i64 (n : Int)) rfl (by kernel_rfl) (by kernel_rfl) (fun _ _ _ h => h) (.inl ⟨by rfl, fun W hW => gx_len rfl rfl Try.underlying32⟩) hS0 ?_
    simp only [Act.put, List.setIfInBounds_toArray, List.set_cons_zero, List.set_cons_succ]
    refine alw_step (i := 1) (by kernel_rfl) rfl rfl ?_
    intro K1 HK1
    go_wp2_with fail
    refine (Len_walk hS0.2).mono ?_
    rintro e wx ⟨rfl, rfl⟩

    refine HK1.out _ _ ⟨hS0, ?_⟩
    clear HK1
    try simp only [Act.put, List.setIfInBounds_toArray, List.set_cons_zero, List.set_cons_succ]
    refine alw_take (i := 7) (v := .bool true) rfl (by kernel_rfl) (by kernel_rfl) (fun _ _ _ h => h) (.inl ⟨by rfl, fun W hW => ix_eql rfl rfl rfl (by simp)⟩) hS0 ?_
    simp only [Act.put, List.setIfInBounds_toArray, List.set_cons_zero, List.set_cons_succ]
    refine alw_take (i := 8) (v := .bool true) rfl (by kernel_rfl) (by kernel_rfl) (fun _ _ _ h => h) (.inl ⟨by rfl, fun W hW => gx_assign rfl rfl⟩) hS0 ?_
    simp only [Act.put, List.setIfInBounds_toArray, List.set_cons_zero, List.set_cons_succ]
    refine alw_done rfl ?_
    refine NoPanic.normal ?_
    clear hS0
    go_wp2_with fail
    go_ret
    exact ⟨rfl, HTR.out.trans HD.out fun _ _ e => e⟩
theorem isIn_f1 {c : Cfg} {a : Int} (h : a < 0) : isIn c a = false := by unfold isIn; rw [decide_eq_false (by omega)]; rfl
theorem isIn_f2 {c : Cfg} {a : Int} (h : (c.n : Int) ≤ a) : isIn c a = false := by unfold isIn; rw [decide_eq_false (show ¬ a < (c.n : Int) from by omega)]; exact Bool.and_false _
theorem isIn_t {c : Cfg} {a : Int} (h : 0 ≤ a ∧ a < (c.n : Int)) : isIn c a = true := by unfold isIn; rw [decide_eq_true h.1, decide_eq_true h.2]; rfl
set_option maxRecDepth 20000 in
set_option maxHeartbeats 4000000 in
theorem rPayment_walk {w : World} {c : Cfg} {acq iss amt : Int} (hq : Mn.in64 acq ∧ Mn.in64 iss) (hn : c.n ≤ 140737488355328) : Calls Try.prog 17 #[.agg c.cells, .int .i64 acq, .int .i64 iss, .int .i64 amt] w fun e w' => PayP w c acq iss amt e w' := by
  have HQ := Lib.hid hq
  have HN := Lib.hid hn
  clear hq hn
  go_enter Try.func17, Try.ntmps17
  go_upto_region 0 with fail
  refine wp_region_lit ?_
  refine wpList_run (v := .pointer (some ⟨(w).heap.size, 0, none⟩)) (w' := (w).alloc (.cells c.cells 45)) (wanted_none rfl) (gx_box rfl rfl (box_cfg c _)) ?_
  simp only [Act.put, List.setIfInBounds_toArray, List.set_cons_zero, List.set_cons_succ]
  refine wpList_run (v := .slice none 0 0) (wanted_none rfl) (gx_assign rfl rfl) ?_
  simp only [Act.put, List.setIfInBounds_toArray, List.set_cons_zero, List.set_cons_succ]
  refine wpList_run (v := .int .i64 0) (wanted_none rfl) (gx_assign rfl rfl) ?_
  simp only [Act.put, List.setIfInBounds_toArray, List.set_cons_zero, List.set_cons_succ]
  have hb_k := Blk.new (w) 45 c.cells
  have ht_ := (Turn.refl nowhere (w)).alloc (.cells c.cells 45)
  obtain ⟨n0_, hn0_⟩ : ∃ n, n = (w).heap.size := ⟨_, rfl⟩
  have hz_k : (w).heap.size = n0_ + 0 := by rw [hn0_]; simp
  obtain ⟨k, hg_⟩ : ∃ g, g = (w).heap.size := ⟨_, rfl⟩
  rw [← hg_] at hb_k hz_k ⊢
  clear hg_
  generalize (w).alloc (.cells c.cells 45) = w1 at *
  have HT1 := Lib.hid ht_
  clear ht_
  have HBk := Lib.hid hb_k
  have HLk := Lib.hid (show (w).heap.size ≤ k from by omega)
  clear hb_k
  clear hn0_ hz_k
  clear n0_
  go_upto_region 1 with fail
  refine wp_region_lit ?_
  refine wpList_run (v := .pointer (some ⟨k, 0, none⟩)) (wanted_none rfl) (exec_field (off := 0) (d := 0) rfl rfl (by kernel_rfl)) ?_
  simp only [Act.put, List.setIfInBounds_toArray, List.set_cons_zero, List.set_cons_succ]
  refine wpList_run (v := .slice c.A c.n c.c) (wanted_none rfl) (exec_load1 rfl rfl (by kernel_rfl) (HBk.out.cell 0)) ?_
  simp only [Act.put, List.setIfInBounds_toArray, List.set_cons_zero, List.set_cons_succ]
  refine wpList_run (v := .int .i64 (c.n : Int)) (wanted_none rfl) (gx_len rfl rfl Try.underlying40) ?_
  simp only [Act.put, List.setIfInBounds_toArray, List.set_cons_zero, List.set_cons_succ]
  refine wpList_run (v := .int .i64 (c.n : Int)) (wanted_none rfl) (gx_assign rfl rfl) ?_
  simp only [Act.put, List.setIfInBounds_toArray, List.set_cons_zero, List.set_cons_succ]
  rcases (by omega : acq < 0 ∨ (0 ≤ acq ∧ (c.n : Int) ≤ acq) ∨ (0 ≤ acq ∧ acq < (c.n : Int) ∧ iss < 0) ∨ (0 ≤ acq ∧ acq < (c.n : Int) ∧ 0 ≤ iss ∧ (c.n : Int) ≤ iss) ∨ (0 ≤ acq ∧ acq < (c.n : Int) ∧ 0 ≤ iss ∧ iss < (c.n : Int))) with ha | ha | ha | ha | ha
  · have HPE := Lib.hid (payE_in (c := c) (acq := acq) (iss := iss) (amt := amt) (by rw [show isIn c acq = false from isIn_f1 ha]; rfl))
    have HA := Lib.hid ha
    clear ha
    go_upto_region 2 with fail
    first
    | (rename_i K9 hK9; have HKC := Lib.hid hK9; clear hK9)
    | (rename_i K9 hK9 K8; have HKC := Lib.hid hK9; clear hK9)
    refine wp_region_lit ?_
    refine wpList_run (v := .int .i64 acq) (wanted_none rfl) (exec_move rfl rfl) ?_
    simp only [Act.put, List.setIfInBounds_toArray, List.set_cons_zero, List.set_cons_succ]
    refine wpList_run (v := .bool true) (wanted_none rfl) (ix_lss rfl rfl rfl (decide_eq_true (HA.out))) ?_
    simp only [Act.put, List.setIfInBounds_toArray, List.set_cons_zero, List.set_cons_succ]
    refine wpList_run (v := .bool true) (wanted_none rfl) (exec_move rfl rfl) ?_
    simp only [Act.put, List.setIfInBounds_toArray, List.set_cons_zero, List.set_cons_succ]
    go_wp2_with fail
    refine HKC.out _ _ ?_
    clear HKC
    go_upto_region 3 with fail
    refine wp_region_lit ?_
    refine wpList_run (v := .slice none 0 0) (wanted_none rfl) (gx_assign rfl rfl) ?_
    simp only [Act.put, List.setIfInBounds_toArray, List.set_cons_zero, List.set_cons_succ]
    refine wpList_run (v := .int .i64 121) (wanted_none rfl) (gx_assign rfl rfl) ?_
    simp only [Act.put, List.setIfInBounds_toArray, List.set_cons_zero, List.set_cons_succ]
    go_wp2_with fail
    go_ret2
    exact PayP.bad HPE.out (by decide) HT1.out
  · have HPE := Lib.hid (payE_in (c := c) (acq := acq) (iss := iss) (amt := amt) (by rw [show isIn c acq = false from isIn_f2 ha.2]; rfl))
    have HA := Lib.hid ha
    clear ha
    go_upto_region 2 with fail
    first
    | (rename_i K9 hK9; have HKC := Lib.hid hK9; clear hK9)
    | (rename_i K9 hK9 K8; have HKC := Lib.hid hK9; clear hK9)
    refine wp_region_lit ?_
    refine wpList_run (v := .int .i64 acq) (wanted_none rfl) (exec_move rfl rfl) ?_
    simp only [Act.put, List.setIfInBounds_toArray, List.set_cons_zero, List.set_cons_succ]
    refine wpList_run (v := .bool false) (wanted_none rfl) (ix_lss rfl rfl rfl (decide_eq_false (by have := HA.out; omega))) ?_
    simp only [Act.put, List.setIfInBounds_toArray, List.set_cons_zero, List.set_cons_succ]
    refine wpList_run (v := .bool false) (wanted_none rfl) (exec_move rfl rfl) ?_
    simp only [Act.put, List.setIfInBounds_toArray, List.set_cons_zero, List.set_cons_succ]
    refine wpList_run (v := .int .i64 acq) rfl (exec_move rfl rfl) ?_
    simp only [Act.put, List.setIfInBounds_toArray, List.set_cons_zero, List.set_cons_succ]
    refine wpList_run (v := .int .i64 (c.n : Int)) rfl (exec_move rfl rfl) ?_
    simp only [Act.put, List.setIfInBounds_toArray, List.set_cons_zero, List.set_cons_succ]
    refine wpList_run (v := .bool true) rfl (ix_geq rfl rfl rfl (decide_eq_true (HA.out.2))) ?_
    simp only [Act.put, List.setIfInBounds_toArray, List.set_cons_zero, List.set_cons_succ]
    refine wpList_run (v := .bool true) (wanted_none rfl) (ix_pickF rfl rfl rfl) ?_
    simp only [Act.put, List.setIfInBounds_toArray, List.set_cons_zero, List.set_cons_succ]
    refine wpList_run (v := .bool true) (wanted_none rfl) (exec_move rfl rfl) ?_
    simp only [Act.put, List.setIfInBounds_toArray, List.set_cons_zero, List.set_cons_succ]
    go_wp2_with fail
    refine HKC.out _ _ ?_
    clear HKC
    go_upto_region 3 with fail
    refine wp_region_lit ?_
    refine wpList_run (v := .slice none 0 0) (wanted_none rfl) (gx_assign rfl rfl) ?_
    simp only [Act.put, List.setIfInBounds_toArray, List.set_cons_zero, List.set_cons_succ]
    refine wpList_run (v := .int .i64 121) (wanted_none rfl) (gx_assign rfl rfl) ?_
    simp only [Act.put, List.setIfInBounds_toArray, List.set_cons_zero, List.set_cons_succ]
    go_wp2_with fail
    go_ret2
    exact PayP.bad HPE.out (by decide) HT1.out
  · have HPE := Lib.hid (payE_in (c := c) (acq := acq) (iss := iss) (amt := amt) (by rw [show isIn c iss = false from isIn_f1 ha.2.2]; exact Bool.and_false _))
    have HA := Lib.hid ha
    clear ha
    go_upto_region 2 with fail
    first
    | (rename_i K9 hK9; have HKC := Lib.hid hK9; clear hK9)
    | (rename_i K9 hK9 K8; have HKC := Lib.hid hK9; clear hK9)
    refine wp_region_lit ?_
    refine wpList_run (v := .int .i64 acq) (wanted_none rfl) (exec_move rfl rfl) ?_
    simp only [Act.put, List.setIfInBounds_toArray, List.set_cons_zero, List.set_cons_succ]
    refine wpList_run (v := .bool false) (wanted_none rfl) (ix_lss rfl rfl rfl (decide_eq_false (by have := HA.out; omega))) ?_
    simp only [Act.put, List.setIfInBounds_toArray, List.set_cons_zero, List.set_cons_succ]
    refine wpList_run (v := .bool false) (wanted_none rfl) (exec_move rfl rfl) ?_
    simp only [Act.put, List.setIfInBounds_toArray, List.set_cons_zero, List.set_cons_succ]
    refine wpList_run (v := .int .i64 acq) rfl (exec_move rfl rfl) ?_
    simp only [Act.put, List.setIfInBounds_toArray, List.set_cons_zero, List.set_cons_succ]
    refine wpList_run (v := .int .i64 (c.n : Int)) rfl (exec_move rfl rfl) ?_
    simp only [Act.put, List.setIfInBounds_toArray, List.set_cons_zero, List.set_cons_succ]
    refine wpList_run (v := .bool false) rfl (ix_geq rfl rfl rfl (decide_eq_false (by have := HA.out; omega))) ?_
    simp only [Act.put, List.setIfInBounds_toArray, List.set_cons_zero, List.set_cons_succ]
    refine wpList_run (v := .bool false) (wanted_none rfl) (ix_pickF rfl rfl rfl) ?_
    simp only [Act.put, List.setIfInBounds_toArray, List.set_cons_zero, List.set_cons_succ]
    refine wpList_run (v := .bool false) (wanted_none rfl) (exec_move rfl rfl) ?_
    simp only [Act.put, List.setIfInBounds_toArray, List.set_cons_zero, List.set_cons_succ]
    refine wpList_run (v := .int .i64 iss) rfl (exec_move rfl rfl) ?_
    simp only [Act.put, List.setIfInBounds_toArray, List.set_cons_zero, List.set_cons_succ]
    refine wpList_run (v := .bool true) rfl (ix_lss rfl rfl rfl (decide_eq_true (HA.out.2.2))) ?_
    simp only [Act.put, List.setIfInBounds_toArray, List.set_cons_zero, List.set_cons_succ]
    refine wpList_run (v := .bool true) (wanted_none rfl) (ix_pickF rfl rfl rfl) ?_
    simp only [Act.put, List.setIfInBounds_toArray, List.set_cons_zero, List.set_cons_succ]
    refine wpList_run (v := .bool true) (wanted_none rfl) (exec_move rfl rfl) ?_
    simp only [Act.put, List.setIfInBounds_toArray, List.set_cons_zero, List.set_cons_succ]
    go_wp2_with fail
    refine HKC.out _ _ ?_
    clear HKC
    go_upto_region 3 with fail
    refine wp_region_lit ?_
    refine wpList_run (v := .slice none 0 0) (wanted_none rfl) (gx_assign rfl rfl) ?_
    simp only [Act.put, List.setIfInBounds_toArray, List.set_cons_zero, List.set_cons_succ]
    refine wpList_run (v := .int .i64 121) (wanted_none rfl) (gx_assign rfl rfl) ?_
    simp only [Act.put, List.setIfInBounds_toArray, List.set_cons_zero, List.set_cons_succ]
    go_wp2_with fail
    go_ret2
    exact PayP.bad HPE.out (by decide) HT1.out
  · have HPE := Lib.hid (payE_in (c := c) (acq := acq) (iss := iss) (amt := amt) (by rw [show isIn c iss = false from isIn_f2 ha.2.2.2]; exact Bool.and_false _))
    have HA := Lib.hid ha
    clear ha
    go_upto_region 2 with fail
    refine wp_region_lit ?_
    refine wpList_run (v := .int .i64 acq) (wanted_none rfl) (exec_move rfl rfl) ?_
    simp only [Act.put, List.setIfInBounds_toArray, List.set_cons_zero, List.set_cons_succ]
    refine wpList_run (v := .bool false) (wanted_none rfl) (ix_lss rfl rfl rfl (decide_eq_false (by have := HA.out; omega))) ?_
    simp only [Act.put, List.setIfInBounds_toArray, List.set_cons_zero, List.set_cons_succ]
    refine wpList_run (v := .bool false) (wanted_none rfl) (exec_move rfl rfl) ?_
    simp only [Act.put, List.setIfInBounds_toArray, List.set_cons_zero, List.set_cons_succ]
    refine wpList_run (v := .int .i64 acq) rfl (exec_move rfl rfl) ?_
    simp only [Act.put, List.setIfInBounds_toArray, List.set_cons_zero, List.set_cons_succ]
    refine wpList_run (v := .int .i64 (c.n : Int)) rfl (exec_move rfl rfl) ?_
    simp only [Act.put, List.setIfInBounds_toArray, List.set_cons_zero, List.set_cons_succ]
    refine wpList_run (v := .bool false) rfl (ix_geq rfl rfl rfl (decide_eq_false (by have := HA.out; omega))) ?_
    simp only [Act.put, List.setIfInBounds_toArray, List.set_cons_zero, List.set_cons_succ]
    refine wpList_run (v := .bool false) (wanted_none rfl) (ix_pickF rfl rfl rfl) ?_
    simp only [Act.put, List.setIfInBounds_toArray, List.set_cons_zero, List.set_cons_succ]
    refine wpList_run (v := .bool false) (wanted_none rfl) (exec_move rfl rfl) ?_
    simp only [Act.put, List.setIfInBounds_toArray, List.set_cons_zero, List.set_cons_succ]
    refine wpList_run (v := .int .i64 iss) rfl (exec_move rfl rfl) ?_
    simp only [Act.put, List.setIfInBounds_toArray, List.set_cons_zero, List.set_cons_succ]
    refine wpList_run (v := .bool false) rfl (ix_lss rfl rfl rfl (decide_eq_false (by have := HA.out; omega))) ?_
    simp only [Act.put, List.setIfInBounds_toArray, List.set_cons_zero, List.set_cons_succ]
    refine wpList_run (v := .bool false) (wanted_none rfl) (ix_pickF rfl rfl rfl) ?_
    simp only [Act.put, List.setIfInBounds_toArray, List.set_cons_zero, List.set_cons_succ]
    refine wpList_run (v := .bool false) (wanted_none rfl) (exec_move rfl rfl) ?_
    simp only [Act.put, List.setIfInBounds_toArray, List.set_cons_zero, List.set_cons_succ]
    refine wpList_run (v := .int .i64 iss) rfl (exec_move rfl rfl) ?_
    simp only [Act.put, List.setIfInBounds_toArray, List.set_cons_zero, List.set_cons_succ]
    refine wpList_run (v := .int .i64 (c.n : Int)) rfl (exec_move rfl rfl) ?_
    simp only [Act.put, List.setIfInBounds_toArray, List.set_cons_zero, List.set_cons_succ]
    refine wpList_run (v := .bool true) rfl (ix_geq rfl rfl rfl (decide_eq_true (HA.out.2.2.2))) ?_
    simp only [Act.put, List.setIfInBounds_toArray, List.set_cons_zero, List.set_cons_succ]
    refine wpList_run (v := .bool true) (wanted_none rfl) (ix_pickF rfl rfl rfl) ?_
    simp only [Act.put, List.setIfInBounds_toArray, List.set_cons_zero, List.set_cons_succ]
    go_upto_region 3 with fail
    refine wp_region_lit ?_
    refine wpList_run (v := .slice none 0 0) (wanted_none rfl) (gx_assign rfl rfl) ?_
    simp only [Act.put, List.setIfInBounds_toArray, List.set_cons_zero, List.set_cons_succ]
    refine wpList_run (v := .int .i64 121) (wanted_none rfl) (gx_assign rfl rfl) ?_
    simp only [Act.put, List.setIfInBounds_toArray, List.set_cons_zero, List.set_cons_succ]
    go_wp2_with fail
    go_ret2
    exact PayP.bad HPE.out (by decide) HT1.out
  · have HII := Lib.hid (show (isIn c acq && isIn c iss) = true from by rw [isIn_t ⟨ha.1, ha.2.1⟩, isIn_t ha.2.2]; rfl)
    have HA := Lib.hid ha
    clear ha
    go_upto_region 2 with fail
    refine wp_region_lit ?_
    refine wpList_run (v := .int .i64 acq) (wanted_none rfl) (exec_move rfl rfl) ?_
    simp only [Act.put, List.setIfInBounds_toArray, List.set_cons_zero, List.set_cons_succ]
    refine wpList_run (v := .bool false) (wanted_none rfl) (ix_lss rfl rfl rfl (decide_eq_false (by have := HA.out; omega))) ?_
    simp only [Act.put, List.setIfInBounds_toArray, List.set_cons_zero, List.set_cons_succ]
    refine wpList_run (v := .bool false) (wanted_none rfl) (exec_move rfl rfl) ?_
    simp only [Act.put, List.setIfInBounds_toArray, List.set_cons_zero, List.set_cons_succ]
    refine wpList_run (v := .int .i64 acq) rfl (exec_move rfl rfl) ?_
    simp only [Act.put, List.setIfInBounds_toArray, List.set_cons_zero, List.set_cons_succ]
    refine wpList_run (v := .int .i64 (c.n : Int)) rfl (exec_move rfl rfl) ?_
    simp only [Act.put, List.setIfInBounds_toArray, List.set_cons_zero, List.set_cons_succ]
    refine wpList_run (v := .bool false) rfl (ix_geq rfl rfl rfl (decide_eq_false (by have := HA.out; omega))) ?_
    simp only [Act.put, List.setIfInBounds_toArray, List.set_cons_zero, List.set_cons_succ]
    refine wpList_run (v := .bool false) (wanted_none rfl) (ix_pickF rfl rfl rfl) ?_
    simp only [Act.put, List.setIfInBounds_toArray, List.set_cons_zero, List.set_cons_succ]
    refine wpList_run (v := .bool false) (wanted_none rfl) (exec_move rfl rfl) ?_
    simp only [Act.put, List.setIfInBounds_toArray, List.set_cons_zero, List.set_cons_succ]
    refine wpList_run (v := .int .i64 iss) rfl (exec_move rfl rfl) ?_
    simp only [Act.put, List.setIfInBounds_toArray, List.set_cons_zero, List.set_cons_succ]
    refine wpList_run (v := .bool false) rfl (ix_lss rfl rfl rfl (decide_eq_false (by have := HA.out; omega))) ?_
    simp only [Act.put, List.setIfInBounds_toArray, List.set_cons_zero, List.set_cons_succ]
    refine wpList_run (v := .bool false) (wanted_none rfl) (ix_pickF rfl rfl rfl) ?_
    simp only [Act.put, List.setIfInBounds_toArray, List.set_cons_zero, List.set_cons_succ]
    refine wpList_run (v := .bool false) (wanted_none rfl) (exec_move rfl rfl) ?_
    simp only [Act.put, List.setIfInBounds_toArray, List.set_cons_zero, List.set_cons_succ]
    refine wpList_run (v := .int .i64 iss) rfl (exec_move rfl rfl) ?_
    simp only [Act.put, List.setIfInBounds_toArray, List.set_cons_zero, List.set_cons_succ]
    refine wpList_run (v := .int .i64 (c.n : Int)) rfl (exec_move rfl rfl) ?_
    simp only [Act.put, List.setIfInBounds_toArray, List.set_cons_zero, List.set_cons_succ]
    refine wpList_run (v := .bool false) rfl (ix_geq rfl rfl rfl (decide_eq_false (by have := HA.out; omega))) ?_
    simp only [Act.put, List.setIfInBounds_toArray, List.set_cons_zero, List.set_cons_succ]
    refine wpList_run (v := .bool false) (wanted_none rfl) (ix_pickF rfl rfl rfl) ?_
    simp only [Act.put, List.setIfInBounds_toArray, List.set_cons_zero, List.set_cons_succ]
    have HR1 := Lib.hid (show w1.rangeAt k 2 [.int .i64 c.ip, .int .i64 c.il, .int .i64 c.im] from fun j v hj => by
      rw [HBk.out.cell]
      match j, hj with
      | 0, hj | 1, hj | 2, hj => exact hj)
    go_upto_region 4 with fail
    refine wp_region_lit ?_
    refine wpList_run (v := .pointer (some ⟨k, 2, none⟩)) (wanted_none rfl) (exec_field (off := 0) (d := 2) rfl rfl (by kernel_rfl)) ?_
    simp only [Act.put, List.setIfInBounds_toArray, List.set_cons_zero, List.set_cons_succ]
    refine wpList_run (v := .agg #[.int .i64 c.ip, .int .i64 c.il, .int .i64 c.im]) (wanted_none rfl) (gx_loads rfl rfl HR1.out Try.underlying43 rfl (by rw [size_rate]; rfl)) ?_
    simp only [Act.put, List.setIfInBounds_toArray, List.set_cons_zero, List.set_cons_succ]
    refine wpList_run (v := .int .i64 amt) (wanted_none rfl) (exec_move rfl rfl) ?_
    simp only [Act.put, List.setIfInBounds_toArray, List.set_cons_zero, List.set_cons_succ]
    refine wpList_op rfl fun K9 HK9 => ?_
    go_wp2_with fail
    refine (rfee_walk c.ip c.il c.im amt w1).mono ?_
    rintro e w2 ⟨rfl, ht⟩
    refine HK9.out _ _ ?_
    clear HK9
    try simp only [Act.put, List.setIfInBounds_toArray, List.set_cons_zero, List.set_cons_succ]
    have HT2 := Lib.hid (HT1.out.trans ht fun _ _ e => e)
    have HBk2 := Lib.hid (HBk.out.turn ht fun e => e)
    clear ht HR1
    refine wpList_run (v := .tuple #[.int .i64 (Mn.feeV c.ip c.il c.im amt), .int .i64 (Mn.feeE c.ip c.il c.im amt)]) (wanted_none rfl) (exec_move rfl rfl) ?_
    simp only [Act.put, List.setIfInBounds_toArray, List.set_cons_zero, List.set_cons_succ]
    refine wpList_run (v := .int .i64 (Mn.feeV c.ip c.il c.im amt)) (wanted_none rfl) (ix_extract rfl rfl rfl) ?_
    simp only [Act.put, List.setIfInBounds_toArray, List.set_cons_zero, List.set_cons_succ]
    refine wpList_run (v := .int .i64 (Mn.feeE c.ip c.il c.im amt)) (wanted_none rfl) (ix_extract rfl rfl rfl) ?_
    simp only [Act.put, List.setIfInBounds_toArray, List.set_cons_zero, List.set_cons_succ]
    refine wpList_run (v := .int .i64 (Mn.feeV c.ip c.il c.im amt)) (wanted_none rfl) (gx_assign rfl rfl) ?_
    simp only [Act.put, List.setIfInBounds_toArray, List.set_cons_zero, List.set_cons_succ]
    refine wpList_run (v := .int .i64 (Mn.feeE c.ip c.il c.im amt)) (wanted_none rfl) (gx_assign rfl rfl) ?_
    simp only [Act.put, List.setIfInBounds_toArray, List.set_cons_zero, List.set_cons_succ]
    by_cases h1 : Mn.feeE c.ip c.il c.im amt = 0
    · have HP2 := Lib.hid (payE_2 HII.out h1)
      have H1 := Lib.hid h1
      have HF1 := Lib.hid (fee_range h1)
      clear h1
      go_upto_region 5 with fail
      refine wp_region_lit ?_
      refine wpList_run (v := .int .i64 (Mn.feeE c.ip c.il c.im amt)) (wanted_none rfl) (exec_move rfl rfl) ?_
      simp only [Act.put, List.setIfInBounds_toArray, List.set_cons_zero, List.set_cons_succ]
      refine wpList_run (v := .bool false) (wanted_none rfl) (ix_neq rfl rfl rfl (decide_eq_false (fun e => e H1.out))) ?_
      simp only [Act.put, List.setIfInBounds_toArray, List.set_cons_zero, List.set_cons_succ]
      have HR2 := Lib.hid (show w2.rangeAt k 5 [.int .i64 c.fp, .int .i64 c.fl, .int .i64 c.fm] from fun j v hj => by
        rw [HBk2.out.cell]
        match j, hj with
        | 0, hj | 1, hj | 2, hj => exact hj)
      go_upto_region 7 with fail
      refine wp_region_lit ?_
      refine wpList_run (v := .pointer (some ⟨k, 5, none⟩)) (wanted_none rfl) (exec_field (off := 0) (d := 5) rfl rfl (by kernel_rfl)) ?_
      simp only [Act.put, List.setIfInBounds_toArray, List.set_cons_zero, List.set_cons_succ]
      refine wpList_run (v := .agg #[.int .i64 c.fp, .int .i64 c.fl, .int .i64 c.fm]) (wanted_none rfl) (gx_loads rfl rfl HR2.out Try.underlying43 rfl (by rw [size_rate]; rfl)) ?_
      simp only [Act.put, List.setIfInBounds_toArray, List.set_cons_zero, List.set_cons_succ]
      refine wpList_run (v := .int .i64 amt) (wanted_none rfl) (exec_move rfl rfl) ?_
      simp only [Act.put, List.setIfInBounds_toArray, List.set_cons_zero, List.set_cons_succ]
      refine wpList_op rfl fun K9 HK9 => ?_
      go_wp2_with fail
      refine (rfee_walk c.fp c.fl c.fm amt w2).mono ?_
      rintro e w3 ⟨rfl, ht⟩
      refine HK9.out _ _ ?_
      clear HK9
      try simp only [Act.put, List.setIfInBounds_toArray, List.set_cons_zero, List.set_cons_succ]
      have HT3 := Lib.hid (HT2.out.trans ht fun _ _ e => e)
      clear ht HR2 HBk2
      refine wpList_run (v := .tuple #[.int .i64 (Mn.feeV c.fp c.fl c.fm amt), .int .i64 (Mn.feeE c.fp c.fl c.fm amt)]) (wanted_none rfl) (exec_move rfl rfl) ?_
      simp only [Act.put, List.setIfInBounds_toArray, List.set_cons_zero, List.set_cons_succ]
      refine wpList_run (v := .int .i64 (Mn.feeV c.fp c.fl c.fm amt)) (wanted_none rfl) (ix_extract rfl rfl rfl) ?_
      simp only [Act.put, List.setIfInBounds_toArray, List.set_cons_zero, List.set_cons_succ]
      refine wpList_run (v := .int .i64 (Mn.feeE c.fp c.fl c.fm amt)) (wanted_none rfl) (ix_extract rfl rfl rfl) ?_
      simp only [Act.put, List.setIfInBounds_toArray, List.set_cons_zero, List.set_cons_succ]
      refine wpList_run (v := .int .i64 (Mn.feeV c.fp c.fl c.fm amt)) (wanted_none rfl) (gx_assign rfl rfl) ?_
      simp only [Act.put, List.setIfInBounds_toArray, List.set_cons_zero, List.set_cons_succ]
      refine wpList_run (v := .int .i64 (Mn.feeE c.fp c.fl c.fm amt)) (wanted_none rfl) (gx_assign rfl rfl) ?_
      simp only [Act.put, List.setIfInBounds_toArray, List.set_cons_zero, List.set_cons_succ]
      by_cases h2 : Mn.feeE c.fp c.fl c.fm amt = 0
      · have HPE := Lib.hid (HP2.out.trans h2)
        have HF2 := Lib.hid (fee_range h2)
        have H2 := Lib.hid h2
        clear h2
        obtain ⟨iv, hiv⟩ : ∃ x, x = Mn.feeV c.ip c.il c.im amt := ⟨_, rfl⟩
        obtain ⟨fv, hfv⟩ : ∃ x, x = Mn.feeV c.fp c.fl c.fm amt := ⟨_, rfl⟩
        have HF1 := Lib.hid (show 0 ≤ amt ∧ amt ≤ 999999999999 ∧ 0 ≤ iv ∧ iv ≤ 999999999999 from by rw [hiv]; exact HF1.out)
        have HF2 := Lib.hid (show 0 ≤ amt ∧ amt ≤ 999999999999 ∧ 0 ≤ fv ∧ fv ≤ 999999999999 from by rw [hfv]; exact HF2.out)
        have HPW := Lib.hid (show payW c acq iss amt = [(iss, -amt), (acq, amt), (acq, -iv), (iss, iv), (acq, -fv), ((c.n : Int), fv)] from by rw [hiv, hfv]; rfl)
        rw [← hiv, ← hfv]
        clear hiv hfv
        go_upto_region 8 with fail
        refine wp_region_lit ?_
        refine wpList_run (v := .int .i64 (Mn.feeE c.fp c.fl c.fm amt)) (wanted_none rfl) (exec_move rfl rfl) ?_
        simp only [Act.put, List.setIfInBounds_toArray, List.set_cons_zero, List.set_cons_succ]
        refine wpList_run (v := .bool false) (wanted_none rfl) (ix_neq rfl rfl rfl (decide_eq_false (fun e => e H2.out))) ?_
        simp only [Act.put, List.setIfInBounds_toArray, List.set_cons_zero, List.set_cons_succ]
        go_upto_region 10 with fail
        refine wp_region_lit ?_
        refine wpList_run (v := .int .i64 iss) (wanted_none rfl) (exec_move rfl rfl) ?_
        simp only [Act.put, List.setIfInBounds_toArray, List.set_cons_zero, List.set_cons_succ]
        refine wpList_run (v := .int .i64 amt) (wanted_none rfl) (exec_move rfl rfl) ?_
        simp only [Act.put, List.setIfInBounds_toArray, List.set_cons_zero, List.set_cons_succ]
        refine wpList_run (v := .int .i64 (-amt)) (wanted_none rfl) (ix_neg rfl rfl rfl (by have := HF1.out; omega)) ?_
        simp only [Act.put, List.setIfInBounds_toArray, List.set_cons_zero, List.set_cons_succ]
        refine wpList_run (v := .agg (entA (iss, -amt))) (wanted_none rfl) (gx_build2 rfl rfl rfl (build_ent (iss) (-amt) _)) ?_
        simp only [Act.put, List.setIfInBounds_toArray, List.set_cons_zero, List.set_cons_succ]
        refine wpList_run (v := .int .i64 acq) (wanted_none rfl) (exec_move rfl rfl) ?_
        simp only [Act.put, List.setIfInBounds_toArray, List.set_cons_zero, List.set_cons_succ]
        refine wpList_run (v := .int .i64 amt) (wanted_none rfl) (exec_move rfl rfl) ?_
        simp only [Act.put, List.setIfInBounds_toArray, List.set_cons_zero, List.set_cons_succ]
        refine wpList_run (v := .agg (entA (acq, amt))) (wanted_none rfl) (gx_build2 rfl rfl rfl (build_ent (acq) (amt) _)) ?_
        simp only [Act.put, List.setIfInBounds_toArray, List.set_cons_zero, List.set_cons_succ]
        refine wpList_run (v := .int .i64 acq) (wanted_none rfl) (exec_move rfl rfl) ?_
        simp only [Act.put, List.setIfInBounds_toArray, List.set_cons_zero, List.set_cons_succ]
        refine wpList_run (v := .int .i64 iv) (wanted_none rfl) (exec_move rfl rfl) ?_
        simp only [Act.put, List.setIfInBounds_toArray, List.set_cons_zero, List.set_cons_succ]
        refine wpList_run (v := .int .i64 (-iv)) (wanted_none rfl) (ix_neg rfl rfl rfl (by have := HF1.out; omega)) ?_
        simp only [Act.put, List.setIfInBounds_toArray, List.set_cons_zero, List.set_cons_succ]
        refine wpList_run (v := .agg (entA (acq, -iv))) (wanted_none rfl) (gx_build2 rfl rfl rfl (build_ent (acq) (-iv) _)) ?_
        simp only [Act.put, List.setIfInBounds_toArray, List.set_cons_zero, List.set_cons_succ]
        refine wpList_run (v := .int .i64 iss) (wanted_none rfl) (exec_move rfl rfl) ?_
        simp only [Act.put, List.setIfInBounds_toArray, List.set_cons_zero, List.set_cons_succ]
        refine wpList_run (v := .int .i64 iv) (wanted_none rfl) (exec_move rfl rfl) ?_
        simp only [Act.put, List.setIfInBounds_toArray, List.set_cons_zero, List.set_cons_succ]
        refine wpList_run (v := .agg (entA (iss, iv))) (wanted_none rfl) (gx_build2 rfl rfl rfl (build_ent (iss) (iv) _)) ?_
        simp only [Act.put, List.setIfInBounds_toArray, List.set_cons_zero, List.set_cons_succ]
        refine wpList_run (v := .int .i64 acq) (wanted_none rfl) (exec_move rfl rfl) ?_
        simp only [Act.put, List.setIfInBounds_toArray, List.set_cons_zero, List.set_cons_succ]
        refine wpList_run (v := .int .i64 fv) (wanted_none rfl) (exec_move rfl rfl) ?_
        simp only [Act.put, List.setIfInBounds_toArray, List.set_cons_zero, List.set_cons_succ]
        refine wpList_run (v := .int .i64 (-fv)) (wanted_none rfl) (ix_neg rfl rfl rfl (by have := HF2.out; omega)) ?_
        simp only [Act.put, List.setIfInBounds_toArray, List.set_cons_zero, List.set_cons_succ]
        refine wpList_run (v := .agg (entA (acq, -fv))) (wanted_none rfl) (gx_build2 rfl rfl rfl (build_ent (acq) (-fv) _)) ?_
        simp only [Act.put, List.setIfInBounds_toArray, List.set_cons_zero, List.set_cons_succ]
        refine wpList_run (v := .int .i64 (c.n : Int)) (wanted_none rfl) (exec_move rfl rfl) ?_
        simp only [Act.put, List.setIfInBounds_toArray, List.set_cons_zero, List.set_cons_succ]
        refine wpList_run (v := .int .i64 fv) (wanted_none rfl) (exec_move rfl rfl) ?_
        simp only [Act.put, List.setIfInBounds_toArray, List.set_cons_zero, List.set_cons_succ]
        refine wpList_run (v := .agg (entA ((c.n : Int), fv))) (wanted_none rfl) (gx_build2 rfl rfl rfl (build_ent ((c.n : Int)) (fv) _)) ?_
        simp only [Act.put, List.setIfInBounds_toArray, List.set_cons_zero, List.set_cons_succ]
        have hb := Blk.new w3 57 (row6 (iss, -amt) (acq, amt) (acq, -iv) (iss, iv) (acq, -fv) ((c.n : Int), fv))
        have hta := (Turn.refl nowhere w3).alloc (.cells (row6 (iss, -amt) (acq, amt) (acq, -iv) (iss, iv) (acq, -fv) ((c.n : Int), fv)) 57)
        refine wpList_run (v := .slice (some ⟨w3.heap.size, 0, none⟩) 6 6) (w' := w3.alloc (.cells (row6 (iss, -amt) (acq, amt) (acq, -iv) (iss, iv) (acq, -fv) ((c.n : Int), fv)) 57)) (wanted_none rfl) (gx_bs6 rfl rfl rfl rfl rfl rfl rfl (run_bs6 _ _ _ _ _ _ _)) ?_
        simp only [Act.put, List.setIfInBounds_toArray, List.set_cons_zero, List.set_cons_succ]
        obtain ⟨g, hg⟩ : ∃ g, g = w3.heap.size := ⟨_, rfl⟩
        rw [← hg] at hb ⊢
        have HGL := Lib.hid (show w.heap.size ≤ g from by rw [hg]; exact HT3.out.size)
        clear hg
        generalize w3.alloc (.cells (row6 (iss, -amt) (acq, amt) (acq, -iv) (iss, iv) (acq, -fv) ((c.n : Int), fv)) 57) = w4 at *
        have HO := Lib.hid (show Orw w4 w.heap.size 57 2 (.slice (some ⟨g, 0, none⟩) 6 6) ((payW c acq iss amt).map entC) from by rw [HPW.out]; exact orw_blk hb HGL.out rfl (by decide) rfl)
        have HT4 := Lib.hid (HT3.out.trans hta fun _ _ e => e)
        have HWF := Lib.hid (show ∀ e ∈ payW c acq iss amt, Mn.in64 e.1 ∧ Mn.in64 e.2 from fun e he => by
          rw [HPW.out] at he
          have h1 := HF1.out
          have h2 := HF2.out
          have h3 := HQ.out
          have h4 := HN.out
          simp only [List.mem_cons, List.not_mem_nil, or_false] at he
          unfold Mn.in64 at *
          rcases he with rfl | rfl | rfl | rfl | rfl | rfl <;> (dsimp only; omega))
        have HLW := Lib.hid (show 6 = (payW c acq iss amt).length from by rw [HPW.out]; rfl)
        clear hb hta
        refine wpList_run (v := .slice (some ⟨g, 0, none⟩) 6 6) (wanted_none rfl) (gx_assign rfl rfl) ?_
        simp only [Act.put, List.setIfInBounds_toArray, List.set_cons_zero, List.set_cons_succ]
        obtain ⟨ps, hps⟩ : ∃ x, x = payW c acq iss amt := ⟨_, rfl⟩
        rw [← hps] at HO HWF HLW
        have HPS := Lib.hid hps
        have HEP := Lib.hid (show EntAt w4 (some ⟨g, 0, none⟩) 6 ps from ⟨HO.out.rws (by rw [List.length_map, ← HLW.out]; omega) (by decide), HWF.out⟩)
        clear hps HO
        go_upto_region 11 with fail
        refine wp_region_lit ?_
        refine wpList_run (v := .slice none 0 0) (wanted_none rfl) (gx_assign rfl rfl) ?_
        simp only [Act.put, List.setIfInBounds_toArray, List.set_cons_zero, List.set_cons_succ]
        go_upto_region 12 with fail
        refine wp_region_lit ?_
        refine wpList_run (v := .int .i64 0) (wanted_none rfl) (gx_assign rfl rfl) ?_
        simp only [Act.put, List.setIfInBounds_toArray, List.set_cons_zero, List.set_cons_succ]
        go_wp2_with fail
        go_loopg [15, 16] 6 (fun gk ov iv wr => ∃ i : Nat, iv = .int .i64 (i : Int) ∧ i + gk = 6 ∧ Orw wr w4.heap.size 57 2 ov ((kp (ps.take i)).map entC) ∧ Turn nowhere w4 wr)
        case atStart => exact ⟨0, rfl, by omega, Orw.nil _ _ _ _, Turn.refl _ _⟩
        obtain ⟨i, rfl, hgk, hor, ht4⟩ := hrel
        have HGK := Lib.hid hgk
        have HOR := Lib.hid hor
        have HTF := Lib.hid ht4
        have yi : (i : Int) ≤ 6 := by omega
        obtain ⟨A5, c5, rfl, _⟩ := hor.form
        clear hgk hor ht4
        obtain ⟨m5, hm5⟩ : ∃ x, x = ((kp (ps.take i)).map entC).length := ⟨_, rfl⟩
        rw [← hm5] at HOR ⊢
        have HM5 := Lib.hid (show m5 ≤ 6 from by rw [hm5, List.length_map]; have := List.length_filter_le (fun e : Ent => e.2 != 0) (ps.take i); have h2 := List.length_take_le i ps; unfold kp; omega)
        have HM6 := Lib.hid hm5
        clear hm5
        by_cases hlt : i < 6
        · have HLT := Lib.hid hlt
          have y3 : (i : Int) < 6 := by omega
          obtain ⟨e, hei⟩ := ent_some HLW.out hlt
          have HEI := Lib.hid hei
          have HRR := Lib.hid ((HEP.out.still HTF.out).rngw hei)
          have HC1 := Lib.hid (HRR.out 1 _ rfl)
          clear hei hlt
          go_upto_region 13 with fail
          refine wp_region_lit ?_
          refine wpList_run (v := .int .i64 (i : Int)) (wanted_none rfl) (exec_move rfl rfl) ?_
          simp only [Act.put, List.setIfInBounds_toArray, List.set_cons_zero, List.set_cons_succ]
          refine wpList_run (v := .slice (some ⟨g, 0, none⟩) 6 6) (wanted_none rfl) (exec_move rfl rfl) ?_
          simp only [Act.put, List.setIfInBounds_toArray, List.set_cons_zero, List.set_cons_succ]
          refine wpList_run (v := .int .i64 (6 : Int)) (wanted_none rfl) (gx_len rfl rfl Try.underlying35) ?_
          simp only [Act.put, List.setIfInBounds_toArray, List.set_cons_zero, List.set_cons_succ]
          refine wpList_run (v := .bool true) (wanted_none rfl) (ix_lss rfl rfl rfl (decide_eq_true y3)) ?_
          simp only [Act.put, List.setIfInBounds_toArray, List.set_cons_zero, List.set_cons_succ]
          by_cases hz : e.2 = 0
          · have HZ := Lib.hid hz
            have HKP := Lib.hid ((kp_snoc HEI.out).trans (if_pos hz))
            clear hz
            go_upto_region 15 with fail
            refine wp_region_lit ?_
            refine wpList_run (v := .slice (some ⟨g, 0, none⟩) 6 6) (wanted_none rfl) (exec_move rfl rfl) ?_
            simp only [Act.put, List.setIfInBounds_toArray, List.set_cons_zero, List.set_cons_succ]
            refine wpList_run (v := .int .i64 (i : Int)) (wanted_none rfl) (exec_move rfl rfl) ?_
            simp only [Act.put, List.setIfInBounds_toArray, List.set_cons_zero, List.set_cons_succ]
            refine wpList_run (v := .pointer (some ⟨g, 0 + i * 2, none⟩)) (wanted_none rfl) (gx_iaddr (i := i) (sz := 2) rfl rfl rfl Try.underlying35 size_ent HLT.out rfl) ?_
            simp only [Act.put, List.setIfInBounds_toArray, List.set_cons_zero, List.set_cons_succ]
            refine wpList_run (v := .pointer (some ⟨g, 0 + i * 2 + 1, none⟩)) (wanted_none rfl) (exec_field (off := 0 + i * 2) (d := 1) rfl rfl (by kernel_rfl)) ?_
            simp only [Act.put, List.setIfInBounds_toArray, List.set_cons_zero, List.set_cons_succ]
            refine wpList_run (v := .int .i64 e.2) (wanted_none rfl) (exec_load1 rfl rfl (by kernel_rfl) HC1.out) ?_
            simp only [Act.put, List.setIfInBounds_toArray, List.set_cons_zero, List.set_cons_succ]
            refine wpList_run (v := .bool false) (wanted_none rfl) (ix_neq rfl rfl rfl (by rw [HZ.out]; rfl)) ?_
            simp only [Act.put, List.setIfInBounds_toArray, List.set_cons_zero, List.set_cons_succ]
            go_upto_region 14 with fail
            refine wp_region_lit ?_
            refine wpList_run (v := .int .i64 (i : Int)) (wanted_none rfl) (exec_move rfl rfl) ?_
            simp only [Act.put, List.setIfInBounds_toArray, List.set_cons_zero, List.set_cons_succ]
            refine wpList_run (v := .int .i64 ((i + 1 : Nat) : Int)) (wanted_none rfl) (ix_add rfl rfl rfl (by omega) (by omega)) ?_
            simp only [Act.put, List.setIfInBounds_toArray, List.set_cons_zero, List.set_cons_succ]
            refine wpList_run (v := .int .i64 ((i + 1 : Nat) : Int)) (wanted_none rfl) (gx_assign rfl rfl) ?_
            simp only [Act.put, List.setIfInBounds_toArray, List.set_cons_zero, List.set_cons_succ]
            go_wp2_with fail
            go_roundg (6 - (i + 1))
            case measure => have := HGK.out; have := HLT.out; omega
            case rel => exact ⟨i + 1, rfl, by have := HLT.out; omega, by rw [HKP.out]; exact HOR.out, HTF.out⟩
          · have HZ := Lib.hid hz
            have HKP := Lib.hid ((kp_snoc HEI.out).trans (if_neg hz))
            clear hz
            obtain ⟨A6, c6, w6, hap, ho6, ht6⟩ := orw_add elmE (ty := 35) (W1 := w4) HOR.out HTF.out (entC e) rfl (entC_one e) (by rw [← HM6.out]; have := HM5.out; omega)
            rw [← HM6.out] at hap ho6
            rw [show ((kp (ps.take i)).map entC ++ [entC e]) = (kp (ps.take (i + 1))).map entC from by rw [HKP.out, List.map_append]; rfl] at ho6
            have HAP := Lib.hid hap
            have HO6 := Lib.hid ho6
            have HT6 := Lib.hid ht6
            clear hap ho6 ht6
            go_upto_region 15 with fail
            refine wp_region_lit ?_
            refine wpList_run (v := .slice (some ⟨g, 0, none⟩) 6 6) (wanted_none rfl) (exec_move rfl rfl) ?_
            simp only [Act.put, List.setIfInBounds_toArray, List.set_cons_zero, List.set_cons_succ]
            refine wpList_run (v := .int .i64 (i : Int)) (wanted_none rfl) (exec_move rfl rfl) ?_
            simp only [Act.put, List.setIfInBounds_toArray, List.set_cons_zero, List.set_cons_succ]
            refine wpList_run (v := .pointer (some ⟨g, 0 + i * 2, none⟩)) (wanted_none rfl) (gx_iaddr (i := i) (sz := 2) rfl rfl rfl Try.underlying35 size_ent HLT.out rfl) ?_
            simp only [Act.put, List.setIfInBounds_toArray, List.set_cons_zero, List.set_cons_succ]
            refine wpList_run (v := .pointer (some ⟨g, 0 + i * 2 + 1, none⟩)) (wanted_none rfl) (exec_field (off := 0 + i * 2) (d := 1) rfl rfl (by kernel_rfl)) ?_
            simp only [Act.put, List.setIfInBounds_toArray, List.set_cons_zero, List.set_cons_succ]
            refine wpList_run (v := .int .i64 e.2) (wanted_none rfl) (exec_load1 rfl rfl (by kernel_rfl) HC1.out) ?_
            simp only [Act.put, List.setIfInBounds_toArray, List.set_cons_zero, List.set_cons_succ]
            refine wpList_run (v := .bool true) (wanted_none rfl) (ix_neq rfl rfl rfl (decide_eq_true HZ.out)) ?_
            simp only [Act.put, List.setIfInBounds_toArray, List.set_cons_zero, List.set_cons_succ]
            go_upto_region 16 with fail
            refine wp_region_lit ?_
            refine wpList_run (v := .slice A5 m5 c5) (wanted_none rfl) (exec_move rfl rfl) ?_
            simp only [Act.put, List.setIfInBounds_toArray, List.set_cons_zero, List.set_cons_succ]
            refine wpList_run (v := .slice (some ⟨g, 0, none⟩) 6 6) (wanted_none rfl) (exec_move rfl rfl) ?_
            simp only [Act.put, List.setIfInBounds_toArray, List.set_cons_zero, List.set_cons_succ]
            refine wpList_run (v := .int .i64 (i : Int)) (wanted_none rfl) (exec_move rfl rfl) ?_
            simp only [Act.put, List.setIfInBounds_toArray, List.set_cons_zero, List.set_cons_succ]
            refine wpList_run (v := .pointer (some ⟨g, 0 + i * 2, none⟩)) (wanted_none rfl) (gx_iaddr (i := i) (sz := 2) rfl rfl rfl Try.underlying35 size_ent HLT.out rfl) ?_
            simp only [Act.put, List.setIfInBounds_toArray, List.set_cons_zero, List.set_cons_succ]
            refine wpList_run (v := .agg (entA e)) (wanted_none rfl) (gx_loads rfl rfl HRR.out Try.underlying57 rfl (by rw [size_ent]; rfl)) ?_
            simp only [Act.put, List.setIfInBounds_toArray, List.set_cons_zero, List.set_cons_succ]
            refine wpList_run (v := .slice (some ⟨wr.heap.size, 0, none⟩) 1 1) (w' := wr.alloc (.cells (entA e) 57)) (wanted_none rfl) (exec_buildSlice1 rfl rfl (run_bs1 e wr)) ?_
            simp only [Act.put, List.setIfInBounds_toArray, List.set_cons_zero, List.set_cons_succ]
            refine wpList_run (v := .slice A6 (m5 + 1) c6) (w' := w6) (wanted_none rfl) (exec_append rfl rfl rfl HAP.out) ?_
            simp only [Act.put, List.setIfInBounds_toArray, List.set_cons_zero, List.set_cons_succ]
            refine wpList_run (v := .slice A6 (m5 + 1) c6) (wanted_none rfl) (gx_assign rfl rfl) ?_
            simp only [Act.put, List.setIfInBounds_toArray, List.set_cons_zero, List.set_cons_succ]
            go_upto_region 14 with fail
            refine wp_region_lit ?_
            refine wpList_run (v := .int .i64 (i : Int)) (wanted_none rfl) (exec_move rfl rfl) ?_
            simp only [Act.put, List.setIfInBounds_toArray, List.set_cons_zero, List.set_cons_succ]
            refine wpList_run (v := .int .i64 ((i + 1 : Nat) : Int)) (wanted_none rfl) (ix_add rfl rfl rfl (by omega) (by omega)) ?_
            simp only [Act.put, List.setIfInBounds_toArray, List.set_cons_zero, List.set_cons_succ]
            refine wpList_run (v := .int .i64 ((i + 1 : Nat) : Int)) (wanted_none rfl) (gx_assign rfl rfl) ?_
            simp only [Act.put, List.setIfInBounds_toArray, List.set_cons_zero, List.set_cons_succ]
            go_wp2_with fail
            go_roundg (6 - (i + 1))
            case measure => have := HGK.out; have := HLT.out; omega
            case rel => exact ⟨i + 1, rfl, by have := HLT.out; omega, HO6.out, HT6.out⟩
        · obtain rfl : i = 6 := by omega
          clear hlt
          have htk : ps.take 6 = ps := List.take_of_length_le (by rw [← HLW.out]; exact Nat.le_refl _)
          have HOZ := Lib.hid (show Orw wr w4.heap.size 57 2 (.slice A5 m5 c5) ((kp ps).map entC) from by have := HOR.out; rwa [htk] at this)
          clear htk HOR
          go_upto_region 13 with fail
          refine wp_region_lit ?_
          refine wpList_run (v := .int .i64 ((6 : Nat) : Int)) (wanted_none rfl) (exec_move rfl rfl) ?_
          simp only [Act.put, List.setIfInBounds_toArray, List.set_cons_zero, List.set_cons_succ]
          refine wpList_run (v := .slice (some ⟨g, 0, none⟩) 6 6) (wanted_none rfl) (exec_move rfl rfl) ?_
          simp only [Act.put, List.setIfInBounds_toArray, List.set_cons_zero, List.set_cons_succ]
          refine wpList_run (v := .int .i64 (6 : Int)) (wanted_none rfl) (gx_len rfl rfl Try.underlying35) ?_
          simp only [Act.put, List.setIfInBounds_toArray, List.set_cons_zero, List.set_cons_succ]
          refine wpList_run (v := .bool false) (wanted_none rfl) (ix_lss rfl rfl rfl (by decide)) ?_
          simp only [Act.put, List.setIfInBounds_toArray, List.set_cons_zero, List.set_cons_succ]
          go_upto_region 17 with fail
          refine wp_region_lit ?_
          refine wpList_run (v := .slice A5 m5 c5) (wanted_none rfl) (exec_move rfl rfl) ?_
          simp only [Act.put, List.setIfInBounds_toArray, List.set_cons_zero, List.set_cons_succ]
          refine wpList_run (v := .slice A5 m5 c5) (wanted_none rfl) (gx_assign rfl rfl) ?_
          simp only [Act.put, List.setIfInBounds_toArray, List.set_cons_zero, List.set_cons_succ]
          refine wpList_run (v := .int .i64 0) (wanted_none rfl) (gx_assign rfl rfl) ?_
          simp only [Act.put, List.setIfInBounds_toArray, List.set_cons_zero, List.set_cons_succ]
          go_wp2_with fail
          go_ret2
          refine ⟨.slice A5 m5 c5, by rw [HPE.out]; rfl, ?_, HT4.out.trans HTF.out fun _ _ e => e⟩
          unfold payR
          rw [if_pos HPE.out, ← HPS.out]
          exact HOZ.out.less HT4.out.size
      · have HPE := Lib.hid HP2.out
        have H2 := Lib.hid h2
        clear h2
        go_upto_region 8 with fail
        refine wp_region_lit ?_
        refine wpList_run (v := .int .i64 (Mn.feeE c.fp c.fl c.fm amt)) (wanted_none rfl) (exec_move rfl rfl) ?_
        simp only [Act.put, List.setIfInBounds_toArray, List.set_cons_zero, List.set_cons_succ]
        refine wpList_run (v := .bool true) (wanted_none rfl) (ix_neq rfl rfl rfl (decide_eq_true H2.out)) ?_
        simp only [Act.put, List.setIfInBounds_toArray, List.set_cons_zero, List.set_cons_succ]
        go_upto_region 9 with fail
        refine wp_region_lit ?_
        refine wpList_run (v := .int .i64 (Mn.feeE c.fp c.fl c.fm amt)) (wanted_none rfl) (exec_move rfl rfl) ?_
        simp only [Act.put, List.setIfInBounds_toArray, List.set_cons_zero, List.set_cons_succ]
        refine wpList_run (v := .slice none 0 0) (wanted_none rfl) (gx_assign rfl rfl) ?_
        simp only [Act.put, List.setIfInBounds_toArray, List.set_cons_zero, List.set_cons_succ]
        refine wpList_run (v := .int .i64 (Mn.feeE c.fp c.fl c.fm amt)) (wanted_none rfl) (gx_assign rfl rfl) ?_
        simp only [Act.put, List.setIfInBounds_toArray, List.set_cons_zero, List.set_cons_succ]
        go_wp2_with fail
        go_ret2
        exact PayP.bad HPE.out (H2.out) HT3.out
    · have HPE := Lib.hid (payE_1 HII.out h1)
      have H1 := Lib.hid h1
      clear h1
      go_upto_region 5 with fail
      refine wp_region_lit ?_
      refine wpList_run (v := .int .i64 (Mn.feeE c.ip c.il c.im amt)) (wanted_none rfl) (exec_move rfl rfl) ?_
      simp only [Act.put, List.setIfInBounds_toArray, List.set_cons_zero, List.set_cons_succ]
      refine wpList_run (v := .bool true) (wanted_none rfl) (ix_neq rfl rfl rfl (decide_eq_true H1.out)) ?_
      simp only [Act.put, List.setIfInBounds_toArray, List.set_cons_zero, List.set_cons_succ]
      go_upto_region 6 with fail
      refine wp_region_lit ?_
      refine wpList_run (v := .int .i64 (Mn.feeE c.ip c.il c.im amt)) (wanted_none rfl) (exec_move rfl rfl) ?_
      simp only [Act.put, List.setIfInBounds_toArray, List.set_cons_zero, List.set_cons_succ]
      refine wpList_run (v := .slice none 0 0) (wanted_none rfl) (gx_assign rfl rfl) ?_
      simp only [Act.put, List.setIfInBounds_toArray, List.set_cons_zero, List.set_cons_succ]
      refine wpList_run (v := .int .i64 (Mn.feeE c.ip c.il c.im amt)) (wanted_none rfl) (gx_assign rfl rfl) ?_
      simp only [Act.put, List.setIfInBounds_toArray, List.set_cons_zero, List.set_cons_succ]
      go_wp2_with fail
      go_ret2
      exact PayP.bad HPE.out (H1.out) HT2.out
end Go.Proofs.Ythoefjaapjaeeaa
