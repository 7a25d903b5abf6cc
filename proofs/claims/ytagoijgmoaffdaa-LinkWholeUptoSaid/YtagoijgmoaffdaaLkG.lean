/-
  groatlaw06's same, walked. No conditions.
-/
import Derived.Test.YtagoijgmoaffdaaLkF
import Derived.Test.YtagoijgmoaffdaaStr
namespace Go.Proofs.Ytagoijgmoaffdaa
open Go.RowKit
open Lkk
set_option linter.unusedVariables false
set_option linter.unusedSimpArgs false
theorem frr_at {w : World} {G : Nat → Prop} {A : Option Addr} {n c : Nat} {fs : List (List UInt8)} (h : Frr w G (.slice A n c) fs) {k : Nat} (hk : k < n) :
    ∃ g b off m cc f, A = some ⟨g, 0, none⟩ ∧ w.cell? ⟨g, k, none⟩ = some (.slice (some ⟨b, off, none⟩) m cc) ∧ fs[k]? = some f ∧ Bs w (some ⟨b, off, none⟩) m f ∧ fs.length = n := by
  obtain ⟨vals, h1, h2, h3⟩ := h
  have hn : fs.length = n := by
    obtain ⟨A', c', e⟩ := own_form h1
    injection e with _ e2 _
    exact e2.symm
  have hvl : vals.length = fs.length := by rw [h1.1, Nat.mul_one]
  have hi : vals[k]? = some (vals[k]'(by omega)) := List.getElem?_eq_getElem _
  obtain ⟨f, hf, b, off, m, cc, e, p1, p2, _⟩ := h3 k _ hi
  rw [e] at hi
  rcases h1.2 with ⟨e1, h0⟩ | ⟨g, cap, cur, e1, _⟩
  · injection e1 with _ e2 _
    omega
  · injection e1 with e2 e3 e4
    subst e2
    have hc := h1.cells rfl k _ hi
    rw [add_nat, Nat.zero_add] at hc
    exact ⟨g, b, off, m, cc, f, rfl, hc, hf, p2, hn⟩
theorem same_step {fs gs : List (List UInt8)} {k : Nat} {f g : List UInt8} (h : fs.take k = gs.take k) (hf : fs[k]? = some f) (hg : gs[k]? = some g) (e : (f == g) = true) : fs.take (k + 1) = gs.take (k + 1) := by
  rw [List.take_add_one, List.take_add_one, h, hf, hg, eq_of_beq e]
theorem same_not {fs gs : List (List UInt8)} {k : Nat} {f g : List UInt8} (hf : fs[k]? = some f) (hg : gs[k]? = some g) (e : (f == g) = false) : decide (fs = gs) = false := by
  rw [decide_eq_false_iff_not]
  rintro rfl
  rw [hf] at hg
  injection hg with hg
  rw [hg] at e
  simp at e
set_option maxRecDepth 20000 in
set_option maxHeartbeats 2000000 in
theorem same_walk {w : World} {G G' : Nat → Prop} {v v' : Value} {fs gs : List (List UInt8)} (hv : Frr w G v fs) (hv' : Frr w G' v' gs) (hm : fs.length ≤ 9223372036854775807) :
    Calls Try.prog 16 #[v, v'] w fun e w' => e = .returned (.bool (decide (fs = gs))) ∧ Turn nowhere w w' := by
  obtain ⟨A, c, rfl⟩ := hv.form
  obtain ⟨A', c', rfl⟩ := hv'.form
  obtain ⟨n, hn⟩ : ∃ n, n = fs.length := ⟨_, rfl⟩
  obtain ⟨m, hm'⟩ : ∃ m, m = gs.length := ⟨_, rfl⟩
  rw [← hn] at hv ⊢
  rw [← hm'] at hv' ⊢
  rw [← hn] at hm
  have HV := Lib.hid hv
  have HV' := Lib.hid hv'
  have HM := Lib.hid hm
  have HN := Lib.hid hn
  have HN' := Lib.hid hm'
  clear hv hv' hm hn hm'
  by_cases hne : n = m
  · subst hne
    go_enter Try.func16, Try.ntmps16
    go_upto_region 2 with fail
    go_wp2_with fail
    go_loopg [5] n (fun gk i wr => ∃ k : Nat, k + gk = n ∧ i = .int .i64 (k : Int) ∧ Turn nowhere w wr ∧ fs.take k = gs.take k)
    case atStart => exact ⟨0, by omega, rfl, Turn.refl _ _, rfl⟩
    obtain ⟨k, hkl, rfl, htr, htk⟩ := hrel
    have HKL := Lib.hid hkl
    have HTR := Lib.hid htr
    have HTK := Lib.hid htk
    clear hkl htr htk
    by_cases hlt : k < n
    · obtain ⟨g1, b1, o1, m1, cc1, f1, rfl, hc1, hf1, hb1, hl1⟩ := frr_at (HV.out.still HTR.out) hlt
      obtain ⟨g2, b2, o2, m2, cc2, f2, rfl, hc2, hf2, hb2, hl2⟩ := frr_at (HV'.out.still HTR.out) hlt
      have y1 : (k : Int) < (n : Int) := by omega
      have y2 : (n : Int) ≤ 9223372036854775807 := by have := HM.out; omega
      have hS : wr.drew.cell? ⟨g1, k, none⟩ = some (.slice (some ⟨b1, o1, none⟩) m1 cc1) ∧ wr.drew.cell? ⟨g2, k, none⟩ = some (.slice (some ⟨b2, o2, none⟩) m2 cc2) ∧ Bs wr.drew (some ⟨b1, o1, none⟩) m1 f1 ∧ Bs wr.drew (some ⟨b2, o2, none⟩) m2 f2 := ⟨hc1, hc2, hb1, hb2⟩
      have HF1 := Lib.hid hf1
      have HF2 := Lib.hid hf2
      have HLT := Lib.hid hlt
      clear hc1 hc2 hb1 hb2 hf1 hf2 hlt hl1 hl2
      go_upto_region 6 with fail
      refine wp_region_alw (fun W => W.cell? ⟨g1, k, none⟩ = some (.slice (some ⟨b1, o1, none⟩) m1 cc1) ∧ W.cell? ⟨g2, k, none⟩ = some (.slice (some ⟨b2, o2, none⟩) m2 cc2) ∧ Bs W (some ⟨b1, o1, none⟩) m1 f1 ∧ Bs W (some ⟨b2, o2, none⟩) m2 f2) (by kernel_rfl) ?_
      refine alw_take (i := 0) (v := .slice (some ⟨g1, 0, none⟩) n c) rfl (by kernel_rfl) (by kernel_rfl) (fun _ _ _ h => h) (.inl ⟨by rfl, fun W hW => exec_move rfl rfl⟩) hS ?_
      simp only [Act.put, List.setIfInBounds_toArray, List.set_cons_zero, List.set_cons_succ]
      refine alw_take (i := 1) (v := .int .i64 (k : Int)) rfl (by kernel_rfl) (by kernel_rfl) (fun _ _ _ h => h) (.inl ⟨by rfl, fun W hW => exec_move rfl rfl⟩) hS ?_
      simp only [Act.put, List.setIfInBounds_toArray, List.set_cons_zero, List.set_cons_succ]
      refine alw_take (i := 2) (v := .pointer (some ⟨g1, k, none⟩)) rfl (by kernel_rfl) (by kernel_rfl) (fun _ _ _ h => h) (.inl ⟨by rfl, fun W hW => gx_iaddr (i := k) (sz := 1) rfl rfl rfl Try.underlying28 (by kernel_rfl) HLT.out (by omega)⟩) hS ?_
      simp only [Act.put, List.setIfInBounds_toArray, List.set_cons_zero, List.set_cons_succ]
      refine alw_take (i := 3) (v := .slice (some ⟨b1, o1, none⟩) m1 cc1) rfl (by kernel_rfl) (by kernel_rfl) (fun _ _ _ h => h) (.inl ⟨by rfl, fun W hW => lx_sl rfl rfl hW.1⟩) hS ?_
      simp only [Act.put, List.setIfInBounds_toArray, List.set_cons_zero, List.set_cons_succ]
      refine alw_take (i := 4) (v := strV f1) rfl (by kernel_rfl) (by kernel_rfl) (fun _ _ _ h => h) (.inl ⟨by rfl, fun W hW => exec_strBs rfl rfl hW.2.2.1⟩) hS ?_
      simp only [Act.put, List.setIfInBounds_toArray, List.set_cons_zero, List.set_cons_succ]
      refine alw_take (i := 5) (v := .slice (some ⟨g2, 0, none⟩) n c') rfl (by kernel_rfl) (by kernel_rfl) (fun _ _ _ h => h) (.inl ⟨by rfl, fun W hW => exec_move rfl rfl⟩) hS ?_
      simp only [Act.put, List.setIfInBounds_toArray, List.set_cons_zero, List.set_cons_succ]
      refine alw_take (i := 6) (v := .int .i64 (k : Int)) rfl (by kernel_rfl) (by kernel_rfl) (fun _ _ _ h => h) (.inl ⟨by rfl, fun W hW => exec_move rfl rfl⟩) hS ?_
      simp only [Act.put, List.setIfInBounds_toArray, List.set_cons_zero, List.set_cons_succ]
      refine alw_take (i := 7) (v := .pointer (some ⟨g2, k, none⟩)) rfl (by kernel_rfl) (by kernel_rfl) (fun _ _ _ h => h) (.inl ⟨by rfl, fun W hW => gx_iaddr (i := k) (sz := 1) rfl rfl rfl Try.underlying28 (by kernel_rfl) HLT.out (by omega)⟩) hS ?_
      simp only [Act.put, List.setIfInBounds_toArray, List.set_cons_zero, List.set_cons_succ]
      refine alw_take (i := 8) (v := .slice (some ⟨b2, o2, none⟩) m2 cc2) rfl (by kernel_rfl) (by kernel_rfl) (fun _ _ _ h => h) (.inl ⟨by rfl, fun W hW => lx_sl rfl rfl hW.2.1⟩) hS ?_
      simp only [Act.put, List.setIfInBounds_toArray, List.set_cons_zero, List.set_cons_succ]
      refine alw_take (i := 9) (v := strV f2) rfl (by kernel_rfl) (by kernel_rfl) (fun _ _ _ h => h) (.inl ⟨by rfl, fun W hW => exec_strBs rfl rfl hW.2.2.2⟩) hS ?_
      simp only [Act.put, List.setIfInBounds_toArray, List.set_cons_zero, List.set_cons_succ]
      refine alw_take (i := 10) (v := .bool (!(f1 == f2))) rfl (by kernel_rfl) (by kernel_rfl) (fun _ _ _ h => h) (.inl ⟨by rfl, fun W hW => exec_sneq rfl rfl rfl⟩) hS ?_
      simp only [Act.put, List.setIfInBounds_toArray, List.set_cons_zero, List.set_cons_succ]

      refine alw_done (by kernel_rfl) ?_
      refine NoPanic.normal ?_
      clear hS
      have HTR := Lib.hid (HTR.out.trans (Turn.drew (Turn.refl nowhere wr)) (fun _ _ e => e))
      cases heq : f1 == f2 with
      | true =>
        have HTK := Lib.hid (same_step HTK.out HF1.out HF2.out heq)
        clear heq
        go_wp2_with fail
        go_roundg (gk - 1)
        case measure => have := HKL.out; have := HLT.out; omega
        case rel => exact ⟨k + 1, by have := HKL.out; have := HLT.out; omega, by go_num, HTR.out, HTK.out⟩
      | false =>
        have HR := Lib.hid (same_not HF1.out HF2.out heq)
        clear heq
        go_wp2_with fail
        go_ret
        rw [HR.out]
        exact ⟨rfl, HTR.out⟩
    · have y1 : ¬ ((k : Int) < (n : Int)) := by omega
      have hke : k = n := by have := HKL.out; omega
      have HR := Lib.hid (show decide (fs = gs) = true from by
        have h1 := HTK.out
        rw [List.take_of_length_le (by rw [← HN.out]; omega), List.take_of_length_le (by rw [← HN'.out]; omega)] at h1
        exact decide_eq_true h1)
      clear hlt hke
      go_wp2_with fail
      go_ret
      rw [HR.out]
      exact ⟨rfl, HTR.out⟩
  · have y1 : ¬ ((n : Int) = (m : Int)) := by omega
    have HR := Lib.hid (show decide (fs = gs) = false from decide_eq_false (fun e => hne (by rw [HN.out, HN'.out, e])))
    clear hne
    go_enter Try.func16, Try.ntmps16
    go_wp2_with fail
    go_ret
    rw [HR.out]
    exact ⟨rfl, Turn.refl _ _⟩

end Go.Proofs.Ytagoijgmoaffdaa
