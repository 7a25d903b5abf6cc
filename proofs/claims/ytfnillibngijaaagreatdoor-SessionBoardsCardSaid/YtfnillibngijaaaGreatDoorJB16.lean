/-
  Texts in one file: FdK. Conditions: the tables and the errors read as the program's text lays them.
-/
import Derived.Test.YtfnillibngijaaaGreatDoorJB15
namespace Go.Proofs.YtfnillibngijaaaGreatDoor
open Go.RowKit
open Fdd
set_option linter.unusedVariables false
theorem ascii_of {l : List UInt8} (h : l.all (fun b => decide (b.toNat < 128)) = true) : ascii l := fun j b hj => by
  simpa using List.all_eq_true.1 h b (List.mem_of_getElem? hj)
theorem pts_good {k : Int} {c n : Nat} (hk : 1 ≤ k ∧ k ≤ 5) (hc : 1 ≤ c ∧ c ≤ 3) (hn : 1 ≤ n ∧ n ≤ 64) : ∀ p ∈ ptsOf k (c : Int) n, Gd p := by
  have hcc : c = 1 ∨ c = 2 ∨ c = 3 := by omega
  intro p hp
  unfold ptsOf at hp
  rw [Int.toNat_natCast] at hp
  have good : ∀ (n : Nat) (ch st : List UInt8), 1 ≤ n → n ≤ 200 → ((decide (st = []) && (decide (ch.length ≤ 16) && ch.contains 48)) || (!decide (st = []) && decide (st.length = ch.length))) = true → ch.length ≤ 99 → ch.all (fun b => decide (b.toNat < 128)) = true → Gd ⟨n, ch, st⟩ := by
    intro n ch st h1 h2 h3 h4 h5
    refine ⟨?_, h4, h1, h2, ascii_of h5⟩
    simp only [Bool.or_eq_true, Bool.and_eq_true, decide_eq_true_eq, Bool.not_eq_true', decide_eq_false_iff_not] at h3
    rcases h3 with ⟨h, h6, h7⟩ | ⟨h, h6⟩
    · exact .inl ⟨h, h6, by simpa using h7⟩
    · exact .inr ⟨h, h6⟩
  split at hp
  · simp only [List.mem_singleton] at hp
    subst hp
    rcases hcc with rfl | rfl | rfl <;> exact good _ _ _ (by omega) (by omega) (by decide) (by decide) (by decide)
  · split at hp
    · simp only [List.mem_singleton] at hp
      subst hp
      rcases hcc with rfl | rfl | rfl <;> exact good _ _ _ (by omega) (by omega) (by decide) (by decide) (by decide)
    · split at hp
      · simp only [List.mem_cons, List.not_mem_nil, or_false] at hp
        rcases hp with rfl | rfl
        · rcases hcc with rfl | rfl | rfl <;> exact good _ _ _ (by omega) (by omega) (by decide) (by decide) (by decide)
        · rcases hcc with rfl | rfl | rfl <;> exact good _ _ _ (by omega) (by omega) (by decide) (by decide) (by decide)
      · simp only [List.mem_singleton] at hp
        subst hp
        rcases hcc with rfl | rfl | rfl <;> exact good _ _ _ (by omega) (by omega) (by decide) (by decide) (by decide)
theorem pts_len (k : Int) (c n : Nat) : (ptsOf k (c : Int) n).length ≤ 2 := by
  unfold ptsOf
  split
  · simp
  · split
    · simp
    · split
      · simp
      · simp
theorem load_blkForm {w : World} {g : Nat} {k s c : Int} (h : Blk w g 104 #[.int .i64 k, .int .i64 s, .int .i64 c]) : (Instr.loadAt 104 (.pointer (some ⟨g, 0, none⟩))).run Tryz.prog w = .ok (fmV ⟨k, s, c⟩) w :=
  run_loadAt_mid w g 0 104 [.int .i64 k, .int .i64 s, .int .i64 c] _ (fun j v hv => by
    rw [Nat.zero_add, h.cell j]
    simpa using hv) Tryz.underlying104 rfl (by rw [size_form]; rfl)
set_option maxRecDepth 20000 in
set_option maxHeartbeats 2000000 in
theorem right_walk {w : World} {kk s c : Nat} {t : List UInt8} (hk : 1 ≤ kk ∧ kk ≤ 5) (hc : 1 ≤ c ∧ c ≤ 3) (hs : 1 ≤ s ∧ s ≤ 64) (hr : RowsT w) :
    Calls Tryz.prog 76 #[fmV ⟨(kk : Int), (s : Int), (c : Int)⟩, strV t] w fun e w' => e = .returned (.bool (Fm.right ⟨(kk : Int), (s : Int), (c : Int)⟩ t)) ∧ Turn nowhere w w' := by
  unfold fmV
  have HK := Lib.hid hk
  have HC := Lib.hid hc
  have HS := Lib.hid hs
  have HR := Lib.hid hr
  clear hr
  go_enter Tryz.func76, Tryz.ntmps76
  go_upto_region 1 with fail
  have hb0 := Blk.new w 104 #[.int .i64 (kk : Int), .int .i64 (s : Int), .int .i64 (c : Int)]
  have ht0 := (Turn.refl nowhere w).alloc (.cells #[.int .i64 (kk : Int), .int .i64 (s : Int), .int .i64 (c : Int)] 104)
  generalize (w.alloc (.cells #[.int .i64 (kk : Int), .int .i64 (s : Int), .int .i64 (c : Int)] 104)) = w0 at *
  generalize w.heap.size = b2 at *
  have HB0 := Lib.hid hb0
  have HT0 := Lib.hid ht0
  have hload := load_blkForm hb0
  have HLOAD := Lib.hid hload
  have c0 : w0.cell? ⟨b2, 0, none⟩ = some (.int .i64 (kk : Int)) := hb0.cell 0
  have c1 : w0.cell? ⟨b2, 1, none⟩ = some (.int .i64 (s : Int)) := hb0.cell 1
  have c2 : w0.cell? ⟨b2, 2, none⟩ = some (.int .i64 (c : Int)) := hb0.cell 2
  clear hb0 ht0 hload
  by_cases hk2 : kk = 2
  · have y0 : ((kk : Int) == 2) = true := by simp; omega
    have HK2 := Lib.hid hk2
    clear hk hk2
    go_upto_region 3 with fail
    refine wp_region_lit ?_
    refine wpList_run (v := strV t) rfl (exec_move rfl rfl) ?_
    simp only [Act.put, List.setIfInBounds_toArray, List.set_cons_zero, List.set_cons_succ]
    refine wpList_run (v := .int .i64 (t.length : Int)) (w' := w0) rfl (exec_slen rfl rfl) ?_
    simp only [Act.put, List.setIfInBounds_toArray, List.set_cons_zero, List.set_cons_succ]
    have hform : Fm.right ⟨(kk : Int), (s : Int), (c : Int)⟩ t = (decide (1 ≤ t.length ∧ (t.length : Int) ≤ (s : Int)) && rightAll (ptsOf (kk : Int) (c : Int) t.length) t) := by
      unfold Fm.right
      rw [HK2.out]
      rfl
    have HFORM := Lib.hid hform
    clear hform
    by_cases hb1 : t.length < 1
    · have HRT := Lib.hid (show Fm.right ⟨(kk : Int), (s : Int), (c : Int)⟩ t = false from by
        rw [HFORM.out, decide_eq_false (by omega)]
        rfl)
      have y1 : (t.length : Int) < 1 := by omega
      clear hb1
      go_wp2_with fail
      go_ret
      exact ⟨ret_bool HRT.out.symm, HT0.out⟩
    · by_cases hb2 : s < t.length
      · have HRT := Lib.hid (show Fm.right ⟨(kk : Int), (s : Int), (c : Int)⟩ t = false from by
          rw [HFORM.out, decide_eq_false (by omega)]
          rfl)
        have y1 : ¬ ((t.length : Int) < 1) := by omega
        have y2 : (s : Int) < (t.length : Int) := by omega
        clear hb1 hb2
        go_wp2_with fail
        go_ret
        exact ⟨ret_bool HRT.out.symm, HT0.out⟩
      · have HRT := Lib.hid (show Fm.right ⟨(kk : Int), (s : Int), (c : Int)⟩ t = rightAll (ptsOf (kk : Int) (c : Int) t.length) t from by
          rw [HFORM.out, decide_eq_true (by omega), Bool.true_and])
        have y1 : ¬ ((t.length : Int) < 1) := by omega
        have y2 : ¬ ((s : Int) < (t.length : Int)) := by omega
        obtain ⟨n, hn⟩ : ∃ n, n = t.length := ⟨_, rfl⟩
        have hn1 : 1 ≤ n ∧ n ≤ 64 := by omega
        rw [← hn] at y1 y2 ⊢
        rw [← hn] at HRT
        have HN1 := Lib.hid hn1
        have HQ := HK
        clear hb1 hb2 hn hn1
        go_upto_region 6 with fail
        clear y0 y1 y2 c1 c2 HK2 HFORM
        have hpts := parts_walk (kk : Int) (s : Int) c n w0 (by have := HQ.out; omega) (by have := HC.out; omega) (by have := HN1.out; omega) (HR.out.turn HT0.out)
        have HPTS := Lib.hid hpts
        have HGOOD := Lib.hid (pts_good (k := (kk : Int)) (by have := HQ.out; omega) HC.out HN1.out)
        have HPL := Lib.hid (pts_len (kk : Int) c n)
        clear hpts
        generalize ptsOf (kk : Int) (c : Int) n = ps at *
        obtain ⟨np, hnp⟩ : ∃ np, ps.length = np := ⟨_, rfl⟩
        have HNP := Lib.hid hnp
        rw [hnp] at HPTS HPL
        clear hnp
        refine wp_region_lit ?_
        refine wpList_run (v := fmV ⟨(kk : Int), (s : Int), (c : Int)⟩) rfl (exec_load rfl rfl HLOAD.out) ?_
        simp only [Act.put, List.setIfInBounds_toArray, List.set_cons_zero, List.set_cons_succ]
        refine wpList_run (v := .int .i64 (n : Int)) rfl (exec_move rfl rfl) ?_
        simp only [Act.put, List.setIfInBounds_toArray, List.set_cons_zero, List.set_cons_succ]
        unfold fmV
        go_wp2_with (go_at_call 84; refine HPTS.out.mono ?_; rintro e w1 ⟨g, cp, rfl, hp, ht1⟩)
        have HP := Lib.hid hp
        have HT1 := Lib.hid (HT0.out.trans ht1 (fun _ _ e => e))
        clear hp ht1 HLOAD
        go_loopg [1, 27] np (fun gk x i wr => ∃ (k : Nat) (t2 : List UInt8), k + gk = np ∧ i = .int .i64 (k : Int) ∧ x = strV t2 ∧ rightAll (ps.drop k) t2 = rightAll ps t ∧ Turn nowhere w1 wr)
        case atStart => exact ⟨0, t, by omega, rfl, rfl, by rw [List.drop_zero], Turn.refl _ _⟩
        case round =>
          obtain ⟨k, t2, hkl, rfl, rfl, hright, htr⟩ := hrel
          have HKL := Lib.hid hkl
          have HTR := Lib.hid htr
          have HRR := Lib.hid hright
          clear hkl hright htr
          by_cases hlt : k < np
          · have y1 : (k : Int) < (np : Int) := by omega
            have y2 : (0 : Int) ≤ (k : Int) := by omega
            have y3 : (np : Int) ≤ 2 := by have := HPL.out; omega
            obtain ⟨p, r, hd⟩ : ∃ p r, ps.drop k = p :: r := by
              cases h : ps.drop k with
              | nil =>
                have := congrArg List.length h
                rw [List.length_drop, HNP.out] at this
                simp at this
                omega
              | cons p r => exact ⟨p, r, rfl⟩
            have HD := Lib.hid (drop_cons hd)
            have hrr := HRR.out
            rw [hd] at hrr
            have HRC := Lib.hid hrr
            have HLT := Lib.hid hlt
            clear hlt hd hrr
            go_upto_region 8 with fail
            have hk0 : wr.rangeAt g (k * 3) (ptC p) := (HP.out.turn HTR.out (fun e => e)).range HD.out.1
            refine wp_region_lit ?_
            refine wpList_run (v := .pointer (some ⟨g, k * 3, none⟩)) (w' := wr) rfl (by go_simp) ?_
            simp only [Act.put, List.setIfInBounds_toArray, List.set_cons_zero, List.set_cons_succ]
            refine wpList_run (v := .agg (ptC p).toArray) rfl (exec_load rfl rfl (load_part hk0)) ?_
            simp only [Act.put, List.setIfInBounds_toArray, List.set_cons_zero, List.set_cons_succ]
            refine wpList_run (v := _) rfl (exec_alloc rfl (zero_part _)) ?_
            simp only [Act.put, List.setIfInBounds_toArray, List.set_cons_zero, List.set_cons_succ]
            have hbn := Blk.new wr 176 #[.int .i64 0, .string ByteArray.empty, .string ByteArray.empty]
            have htn := (Turn.refl nowhere wr).alloc (.cells #[.int .i64 0, .string ByteArray.empty, .string ByteArray.empty] 176)
            generalize (wr.alloc (.cells #[.int .i64 0, .string ByteArray.empty, .string ByteArray.empty] 176)) = w4 at *
            obtain ⟨b8, hb8⟩ : ∃ b8, b8 = wr.heap.size := ⟨_, rfl⟩
            rw [← hb8] at hbn ⊢
            refine wpList_store_part rfl (.tmp 7) (.tmp 30) rfl hbn rfl rfl rfl size_part ?_
            intro w5 hq5 ht5
            have HT5 := Lib.hid (show Turn nowhere wr w5 from htn.trans ht5 (fun j hj e => by have h2 : j = b8 := e; omega))
            have HB5 := Lib.hid hq5
            clear hk0 hbn htn hb8 hq5 ht5
            simp only [Act.put]
            have HGD := Lib.hid (HGOOD.out p (List.mem_of_getElem? HD.out.1))
            go_upto_region 9 with fail
            have hS0 : PtB b8 p w5.drew := HB5.out.drew
            by_cases hshort : t2.length < p.n
            · refine wp_region_till (PtB b8 p) 14 (by kernel_rfl) ?_
              refine till_pure (i := 0) (v := strV t2) rfl (by kernel_rfl) (by kernel_rfl) (fun _ _ _ h => h) (.inl ⟨by rfl, fun W hW => exec_move rfl rfl⟩) hS0 ?_
              simp only [Act.put, List.setIfInBounds_toArray, List.set_cons_zero, List.set_cons_succ]
              refine till_pure (i := 1) (v := .int .i64 (t2.length : Int)) rfl (by kernel_rfl) (by kernel_rfl) (fun _ _ _ h => h) (.inl ⟨by rfl, fun W hW => exec_slen rfl rfl⟩) hS0 ?_
              simp only [Act.put, List.setIfInBounds_toArray, List.set_cons_zero, List.set_cons_succ]
              refine till_pure (i := 2) (v := .pointer (some ⟨b8, 0, none⟩)) rfl (by kernel_rfl) (by kernel_rfl) (fun _ _ _ h => h) (.inl ⟨by rfl, fun W hW => exec_field (off := 0) (d := 0) rfl rfl (by kernel_rfl)⟩) hS0 ?_
              simp only [Act.put, List.setIfInBounds_toArray, List.set_cons_zero, List.set_cons_succ]
              refine till_only (i := 3) (by kernel_rfl) rfl rfl ?_
              refine wp_run (v := .int .i64 (p.n : Int)) (w' := w5.drew) (exec_load1 rfl rfl (by kernel_rfl) (Blk.cell hS0 0)) ?_
              refine ⟨fun _ => hS0, ?_⟩
              simp only [Act.put, List.setIfInBounds_toArray, List.set_cons_zero, List.set_cons_succ]
              refine till_only (i := 4) (by kernel_rfl) rfl rfl ?_
              refine wp_run (v := .bool true) (w' := w5.drew) (exec_lss rfl rfl rfl (by omega)) ?_
              refine ⟨fun _ => hS0, ?_⟩
              simp only [Act.put, List.setIfInBounds_toArray, List.set_cons_zero, List.set_cons_succ]
              refine till_only (i := 5) (by kernel_rfl) rfl rfl ?_
              refine wp_run (v := .bool true) (w' := w5.drew) (exec_move rfl rfl) ?_
              refine ⟨fun _ => hS0, ?_⟩
              simp only [Act.put, List.setIfInBounds_toArray, List.set_cons_zero, List.set_cons_succ]
              refine till_pure (i := 6) (v := undef) rfl (by kernel_rfl) (by kernel_rfl) (fun _ _ _ h => h) (.inr ⟨by rfl, rfl⟩) hS0 ?_
              simp only [Act.put, List.setIfInBounds_toArray, List.set_cons_zero, List.set_cons_succ]
              refine till_pure (i := 7) (v := undef) rfl (by kernel_rfl) (by kernel_rfl) (fun _ _ _ h => h) (.inr ⟨by rfl, rfl⟩) hS0 ?_
              simp only [Act.put, List.setIfInBounds_toArray, List.set_cons_zero, List.set_cons_succ]
              refine till_pure (i := 8) (v := undef) rfl (by kernel_rfl) (by kernel_rfl) (fun _ _ _ h => h) (.inr ⟨by rfl, rfl⟩) hS0 ?_
              simp only [Act.put, List.setIfInBounds_toArray, List.set_cons_zero, List.set_cons_succ]
              refine till_pure (i := 9) (v := undef) rfl (by kernel_rfl) (by kernel_rfl) (fun _ _ _ h => h) (.inr ⟨by rfl, rfl⟩) hS0 ?_
              simp only [Act.put, List.setIfInBounds_toArray, List.set_cons_zero, List.set_cons_succ]
              refine till_pure (i := 10) (v := undef) rfl (by kernel_rfl) (by kernel_rfl) (fun _ _ _ h => h) (.inr ⟨by rfl, rfl⟩) hS0 ?_
              simp only [Act.put, List.setIfInBounds_toArray, List.set_cons_zero, List.set_cons_succ]
              refine till_pure (i := 11) (v := undef) rfl (by kernel_rfl) (by kernel_rfl) (fun _ _ _ h => h) (.inr ⟨by rfl, rfl⟩) hS0 ?_
              simp only [Act.put, List.setIfInBounds_toArray, List.set_cons_zero, List.set_cons_succ]
              refine till_pure (i := 12) (v := undef) rfl (by kernel_rfl) (by kernel_rfl) (fun _ _ _ h => h) (.inr ⟨by rfl, rfl⟩) hS0 ?_
              simp only [Act.put, List.setIfInBounds_toArray, List.set_cons_zero, List.set_cons_succ]
              refine till_pure (i := 13) (v := undef) rfl (by kernel_rfl) (by kernel_rfl) (fun _ _ _ h => h) (.inr ⟨by rfl, rfl⟩) hS0 ?_
              simp only [Act.put, List.setIfInBounds_toArray, List.set_cons_zero, List.set_cons_succ]
              refine till_tail 14 rfl (by kernel_rfl) ?_
              have HNO := Lib.hid (show Fm.right ⟨(kk : Int), (s : Int), (c : Int)⟩ t = false from by
                rw [HRT.out, ← HRC.out]
                unfold rightAll
                rw [decide_eq_false (by omega)]
                rfl)
              clear hshort
              go_wp2_with fail
              refine NoPanic.normal ?_
              go_wp2_with fail
              go_ret
              exact ⟨ret_bool HNO.out.symm, (HT1.out.trans HTR.out (fun _ _ e => e)).trans HT5.out (fun _ _ e => e) |>.drew⟩
            · refine wp_region_till (PtB b8 p) 12 (by kernel_rfl) ?_
              refine till_pure (i := 0) (v := strV t2) rfl (by kernel_rfl) (by kernel_rfl) (fun _ _ _ h => h) (.inl ⟨by rfl, fun W hW => exec_move rfl rfl⟩) hS0 ?_
              simp only [Act.put, List.setIfInBounds_toArray, List.set_cons_zero, List.set_cons_succ]
              refine till_pure (i := 1) (v := .int .i64 (t2.length : Int)) rfl (by kernel_rfl) (by kernel_rfl) (fun _ _ _ h => h) (.inl ⟨by rfl, fun W hW => exec_slen rfl rfl⟩) hS0 ?_
              simp only [Act.put, List.setIfInBounds_toArray, List.set_cons_zero, List.set_cons_succ]
              refine till_pure (i := 2) (v := .pointer (some ⟨b8, 0, none⟩)) rfl (by kernel_rfl) (by kernel_rfl) (fun _ _ _ h => h) (.inl ⟨by rfl, fun W hW => exec_field (off := 0) (d := 0) rfl rfl (by kernel_rfl)⟩) hS0 ?_
              simp only [Act.put, List.setIfInBounds_toArray, List.set_cons_zero, List.set_cons_succ]
              refine till_only (i := 3) (by kernel_rfl) rfl rfl ?_
              refine wp_run (v := .int .i64 (p.n : Int)) (w' := w5.drew) (exec_load1 rfl rfl (by kernel_rfl) (Blk.cell hS0 0)) ?_
              refine ⟨fun _ => hS0, ?_⟩
              simp only [Act.put, List.setIfInBounds_toArray, List.set_cons_zero, List.set_cons_succ]
              refine till_only (i := 4) (by kernel_rfl) rfl rfl ?_
              refine wp_run (v := .bool false) (w' := w5.drew) (exec_nlss rfl rfl rfl (by omega)) ?_
              refine ⟨fun _ => hS0, ?_⟩
              simp only [Act.put, List.setIfInBounds_toArray, List.set_cons_zero, List.set_cons_succ]
              refine till_only (i := 5) (by kernel_rfl) rfl rfl ?_
              refine wp_run (v := .bool false) (w' := w5.drew) (exec_move rfl rfl) ?_
              refine ⟨fun _ => hS0, ?_⟩
              simp only [Act.put, List.setIfInBounds_toArray, List.set_cons_zero, List.set_cons_succ]
              refine till_pure (i := 6) (v := strV t2) rfl (by kernel_rfl) (by kernel_rfl) (fun _ _ _ h => h) (.inl ⟨by rfl, fun W hW => exec_move rfl rfl⟩) hS0 ?_
              simp only [Act.put, List.setIfInBounds_toArray, List.set_cons_zero, List.set_cons_succ]
              refine till_pure (i := 7) (v := .pointer (some ⟨b8, 0, none⟩)) rfl (by kernel_rfl) (by kernel_rfl) (fun _ _ _ h => h) (.inl ⟨by rfl, fun W hW => exec_field (off := 0) (d := 0) rfl rfl (by kernel_rfl)⟩) hS0 ?_
              simp only [Act.put, List.setIfInBounds_toArray, List.set_cons_zero, List.set_cons_succ]
              refine till_pure (i := 10) (v := .pointer (some ⟨b8, 1, none⟩)) rfl (by kernel_rfl) (by kernel_rfl) (fun _ _ _ h => h) (.inl ⟨by rfl, fun W hW => exec_field (off := 0) (d := 1) rfl rfl (by kernel_rfl)⟩) hS0 ?_
              simp only [Act.put, List.setIfInBounds_toArray, List.set_cons_zero, List.set_cons_succ]
              refine till_take2 9 (i := 8) (v := .int .i64 (p.n : Int)) rfl (by kernel_rfl) (by kernel_rfl) (fun _ _ _ h => h) (.inl ⟨by rfl, fun W hW => exec_load1 rfl rfl (by kernel_rfl) (Blk.cell hW 0)⟩) hS0 ?_
              simp only [Act.put, List.setIfInBounds_toArray, List.set_cons_zero, List.set_cons_succ]
              refine till_take (i := 11) (v := strV p.chars) rfl (by kernel_rfl) (by kernel_rfl) (fun _ _ _ h => h) (.inl ⟨by rfl, fun W hW => exec_load1 rfl rfl (by kernel_rfl) (Blk.cell hW 1)⟩) hS0 ?_
              simp only [Act.put, List.setIfInBounds_toArray, List.set_cons_zero, List.set_cons_succ]
              have hle : p.n ≤ t2.length := by omega
              have HLE := Lib.hid hle
              refine till_only (i := 9) (by kernel_rfl) rfl rfl ?_
              refine wp_run (v := strV (t2.take p.n)) (w' := w5.drew) (exec_sto rfl rfl rfl hle) ?_
              refine ⟨fun _ => hS0, ?_⟩
              simp only [Act.put, List.setIfInBounds_toArray, List.set_cons_zero, List.set_cons_succ]
              clear hshort hle
              refine till_step (i := 12) (by kernel_rfl) rfl rfl ?_
              intro K1 HK1
              go_wp2_with fail
              refine (only_walk (t2.take p.n) p.chars (by have := HGD.out.ch; omega) HGD.out.asc _).mono ?_
              rintro e w6 ⟨rfl, ht6⟩
              have hS1 : PtB b8 p w6 := hS0.turn ht6 (fun e => e)
              refine HK1.out _ _ ⟨fun _ => hS1, ?_⟩
              clear HK1
              have HB6 := Lib.hid hS1
              have HT6 := Lib.hid ht6
              clear hS0 hS1 ht6
              have hrc : rightAll ps t = (onlyOf (t2.take p.n) p.chars && rightAll r (t2.drop p.n)) := by
                rw [← HRC.out]
                unfold rightAll
                rw [decide_eq_true HLE.out, Bool.true_and]
                cases r <;> rfl
              have HRC2 := Lib.hid hrc
              clear hrc
              refine till_tail 13 rfl (by kernel_rfl) ?_
              cases hon : onlyOf (t2.take p.n) p.chars with
              | false =>
                have HNO := Lib.hid (show Fm.right ⟨(kk : Int), (s : Int), (c : Int)⟩ t = false from by rw [HRT.out, HRC2.out, hon]; rfl)
                clear hon
                go_wp2_with fail
                refine NoPanic.normal ?_
                go_wp2_with fail
                go_ret
                exact ⟨ret_bool HNO.out.symm, (((HT1.out.trans HTR.out (fun _ _ e => e)).trans HT5.out (fun _ _ e => e)).drew).trans HT6.out (fun _ _ e => e)⟩
              | true =>
                have HYES := Lib.hid (show rightAll r (t2.drop p.n) = rightAll ps t from by rw [HRC2.out, hon]; rfl)
                clear hon
                go_wp2_with fail
                refine NoPanic.normal ?_
                go_upto_region 11 with fail
                refine wp_region_lit ?_
                refine wpList_run (v := strV t2) rfl (exec_move rfl rfl) ?_
                simp only [Act.put, List.setIfInBounds_toArray, List.set_cons_zero, List.set_cons_succ]
                refine wpList_run (v := .pointer (some ⟨b8, 0, none⟩)) rfl (exec_field (off := 0) (d := 0) rfl rfl (by kernel_rfl)) ?_
                simp only [Act.put, List.setIfInBounds_toArray, List.set_cons_zero, List.set_cons_succ]
                refine wpList_run (v := .int .i64 (p.n : Int)) rfl (exec_load1 rfl rfl (by kernel_rfl) (Blk.cell HB6.out 0)) ?_
                simp only [Act.put, List.setIfInBounds_toArray, List.set_cons_zero, List.set_cons_succ]
                refine wpList_run (v := strV (t2.drop p.n)) (w' := w6) rfl (exec_sfrom rfl rfl rfl HLE.out) ?_
                simp only [Act.put, List.setIfInBounds_toArray, List.set_cons_zero, List.set_cons_succ]
                go_wp2_with fail
                go_roundg (gk - 1)
                case measure => have := HKL.out; have := HLT.out; omega
                case rel => exact ⟨k + 1, t2.drop p.n, by have := HKL.out; have := HLT.out; omega, by go_num, rfl, by rw [HD.out.2.1]; exact HYES.out, ((HTR.out.trans HT5.out (fun _ _ e => e)).drew).trans HT6.out (fun _ _ e => e)⟩
          · have hke : k = np := by have := HKL.out; omega
            have y1 : ¬ ((k : Int) < (np : Int)) := by omega
            clear hlt
            have hrr := HRR.out
            rw [List.drop_of_length_le (by rw [HNP.out, hke]; exact Nat.le_refl _)] at hrr
            have HEND := Lib.hid (show Fm.right ⟨(kk : Int), (s : Int), (c : Int)⟩ t = (t2 == []) from by rw [HRT.out, ← hrr]; rfl)
            clear hke hrr
            go_upto_region 13 with fail
            refine wp_region_lit ?_
            refine wpList_run (v := strV t2) rfl (exec_move rfl rfl) ?_
            simp only [Act.put, List.setIfInBounds_toArray, List.set_cons_zero, List.set_cons_succ]
            refine wpList_run (v := .bool (t2 == [])) (w' := wr) rfl (exec_seql (m := []) rfl rfl rfl) ?_
            simp only [Act.put, List.setIfInBounds_toArray, List.set_cons_zero, List.set_cons_succ]
            rw [← HEND.out]
            go_wp2_with fail
            go_ret
            exact ⟨rfl, HT1.out.trans HTR.out (fun _ _ e => e)⟩
  · obtain ⟨n, hn⟩ : ∃ n, n = s := ⟨_, rfl⟩
    have HRT := Lib.hid (show Fm.right ⟨(kk : Int), (s : Int), (c : Int)⟩ t = rightAll (ptsOf (kk : Int) (c : Int) n) t from by
      unfold Fm.right
      rw [if_neg (by simp; omega), hn]
      rfl)
    have y1 : ((kk : Int) == 2) = false := by simp; omega
    clear hk2 hk
    have HN1 := Lib.hid (show 1 ≤ n ∧ n ≤ 64 from by omega)
    have HQ := HK
    clear c2
    go_upto_region 6 with fail
    rw [← hn]
    clear hn c1 y1
    have hpts := parts_walk (kk : Int) (s : Int) c n w0 (by have := HQ.out; omega) (by have := HC.out; omega) (by have := HN1.out; omega) (HR.out.turn HT0.out)
    have HPTS := Lib.hid hpts
    have HGOOD := Lib.hid (pts_good (k := (kk : Int)) (by have := HQ.out; omega) HC.out HN1.out)
    have HPL := Lib.hid (pts_len (kk : Int) c n)
    clear hpts
    generalize ptsOf (kk : Int) (c : Int) n = ps at *
    obtain ⟨np, hnp⟩ : ∃ np, ps.length = np := ⟨_, rfl⟩
    have HNP := Lib.hid hnp
    rw [hnp] at HPTS HPL
    clear hnp
    refine wp_region_lit ?_
    refine wpList_run (v := fmV ⟨(kk : Int), (s : Int), (c : Int)⟩) rfl (exec_load rfl rfl HLOAD.out) ?_
    simp only [Act.put, List.setIfInBounds_toArray, List.set_cons_zero, List.set_cons_succ]
    refine wpList_run (v := .int .i64 (n : Int)) rfl (exec_move rfl rfl) ?_
    simp only [Act.put, List.setIfInBounds_toArray, List.set_cons_zero, List.set_cons_succ]
    unfold fmV
    go_wp2_with (go_at_call 84; refine HPTS.out.mono ?_; rintro e w1 ⟨g, cp, rfl, hp, ht1⟩)
    have HP := Lib.hid hp
    have HT1 := Lib.hid (HT0.out.trans ht1 (fun _ _ e => e))
    clear hp ht1 HLOAD
    go_loopg [1, 27] np (fun gk x i wr => ∃ (k : Nat) (t2 : List UInt8), k + gk = np ∧ i = .int .i64 (k : Int) ∧ x = strV t2 ∧ rightAll (ps.drop k) t2 = rightAll ps t ∧ Turn nowhere w1 wr)
    case atStart => exact ⟨0, t, by omega, rfl, rfl, by rw [List.drop_zero], Turn.refl _ _⟩
    case round =>
      obtain ⟨k, t2, hkl, rfl, rfl, hright, htr⟩ := hrel
      have HKL := Lib.hid hkl
      have HTR := Lib.hid htr
      have HRR := Lib.hid hright
      clear hkl hright htr
      by_cases hlt : k < np
      · have y1 : (k : Int) < (np : Int) := by omega
        have y2 : (0 : Int) ≤ (k : Int) := by omega
        have y3 : (np : Int) ≤ 2 := by have := HPL.out; omega
        obtain ⟨p, r, hd⟩ : ∃ p r, ps.drop k = p :: r := by
          cases h : ps.drop k with
          | nil =>
            have := congrArg List.length h
            rw [List.length_drop, HNP.out] at this
            simp at this
            omega
          | cons p r => exact ⟨p, r, rfl⟩
        have HD := Lib.hid (drop_cons hd)
        have hrr := HRR.out
        rw [hd] at hrr
        have HRC := Lib.hid hrr
        have HLT := Lib.hid hlt
        clear hlt hd hrr
        go_upto_region 8 with fail
        have hk0 : wr.rangeAt g (k * 3) (ptC p) := (HP.out.turn HTR.out (fun e => e)).range HD.out.1
        refine wp_region_lit ?_
        refine wpList_run (v := .pointer (some ⟨g, k * 3, none⟩)) (w' := wr) rfl (by go_simp) ?_
        simp only [Act.put, List.setIfInBounds_toArray, List.set_cons_zero, List.set_cons_succ]
        refine wpList_run (v := .agg (ptC p).toArray) rfl (exec_load rfl rfl (load_part hk0)) ?_
        simp only [Act.put, List.setIfInBounds_toArray, List.set_cons_zero, List.set_cons_succ]
        refine wpList_run (v := _) rfl (exec_alloc rfl (zero_part _)) ?_
        simp only [Act.put, List.setIfInBounds_toArray, List.set_cons_zero, List.set_cons_succ]
        have hbn := Blk.new wr 176 #[.int .i64 0, .string ByteArray.empty, .string ByteArray.empty]
        have htn := (Turn.refl nowhere wr).alloc (.cells #[.int .i64 0, .string ByteArray.empty, .string ByteArray.empty] 176)
        generalize (wr.alloc (.cells #[.int .i64 0, .string ByteArray.empty, .string ByteArray.empty] 176)) = w4 at *
        obtain ⟨b8, hb8⟩ : ∃ b8, b8 = wr.heap.size := ⟨_, rfl⟩
        rw [← hb8] at hbn ⊢
        refine wpList_store_part rfl (.tmp 7) (.tmp 30) rfl hbn rfl rfl rfl size_part ?_
        intro w5 hq5 ht5
        have HT5 := Lib.hid (show Turn nowhere wr w5 from htn.trans ht5 (fun j hj e => by have h2 : j = b8 := e; omega))
        have HB5 := Lib.hid hq5
        clear hk0 hbn htn hb8 hq5 ht5
        simp only [Act.put]
        have HGD := Lib.hid (HGOOD.out p (List.mem_of_getElem? HD.out.1))
        go_upto_region 9 with fail
        have hS0 : PtB b8 p w5.drew := HB5.out.drew
        by_cases hshort : t2.length < p.n
        · refine wp_region_till (PtB b8 p) 14 (by kernel_rfl) ?_
          refine till_pure (i := 0) (v := strV t2) rfl (by kernel_rfl) (by kernel_rfl) (fun _ _ _ h => h) (.inl ⟨by rfl, fun W hW => exec_move rfl rfl⟩) hS0 ?_
          simp only [Act.put, List.setIfInBounds_toArray, List.set_cons_zero, List.set_cons_succ]
          refine till_pure (i := 1) (v := .int .i64 (t2.length : Int)) rfl (by kernel_rfl) (by kernel_rfl) (fun _ _ _ h => h) (.inl ⟨by rfl, fun W hW => exec_slen rfl rfl⟩) hS0 ?_
          simp only [Act.put, List.setIfInBounds_toArray, List.set_cons_zero, List.set_cons_succ]
          refine till_pure (i := 2) (v := .pointer (some ⟨b8, 0, none⟩)) rfl (by kernel_rfl) (by kernel_rfl) (fun _ _ _ h => h) (.inl ⟨by rfl, fun W hW => exec_field (off := 0) (d := 0) rfl rfl (by kernel_rfl)⟩) hS0 ?_
          simp only [Act.put, List.setIfInBounds_toArray, List.set_cons_zero, List.set_cons_succ]
          refine till_only (i := 3) (by kernel_rfl) rfl rfl ?_
          refine wp_run (v := .int .i64 (p.n : Int)) (w' := w5.drew) (exec_load1 rfl rfl (by kernel_rfl) (Blk.cell hS0 0)) ?_
          refine ⟨fun _ => hS0, ?_⟩
          simp only [Act.put, List.setIfInBounds_toArray, List.set_cons_zero, List.set_cons_succ]
          refine till_only (i := 4) (by kernel_rfl) rfl rfl ?_
          refine wp_run (v := .bool true) (w' := w5.drew) (exec_lss rfl rfl rfl (by omega)) ?_
          refine ⟨fun _ => hS0, ?_⟩
          simp only [Act.put, List.setIfInBounds_toArray, List.set_cons_zero, List.set_cons_succ]
          refine till_only (i := 5) (by kernel_rfl) rfl rfl ?_
          refine wp_run (v := .bool true) (w' := w5.drew) (exec_move rfl rfl) ?_
          refine ⟨fun _ => hS0, ?_⟩
          simp only [Act.put, List.setIfInBounds_toArray, List.set_cons_zero, List.set_cons_succ]
          refine till_pure (i := 6) (v := undef) rfl (by kernel_rfl) (by kernel_rfl) (fun _ _ _ h => h) (.inr ⟨by rfl, rfl⟩) hS0 ?_
          simp only [Act.put, List.setIfInBounds_toArray, List.set_cons_zero, List.set_cons_succ]
          refine till_pure (i := 7) (v := undef) rfl (by kernel_rfl) (by kernel_rfl) (fun _ _ _ h => h) (.inr ⟨by rfl, rfl⟩) hS0 ?_
          simp only [Act.put, List.setIfInBounds_toArray, List.set_cons_zero, List.set_cons_succ]
          refine till_pure (i := 8) (v := undef) rfl (by kernel_rfl) (by kernel_rfl) (fun _ _ _ h => h) (.inr ⟨by rfl, rfl⟩) hS0 ?_
          simp only [Act.put, List.setIfInBounds_toArray, List.set_cons_zero, List.set_cons_succ]
          refine till_pure (i := 9) (v := undef) rfl (by kernel_rfl) (by kernel_rfl) (fun _ _ _ h => h) (.inr ⟨by rfl, rfl⟩) hS0 ?_
          simp only [Act.put, List.setIfInBounds_toArray, List.set_cons_zero, List.set_cons_succ]
          refine till_pure (i := 10) (v := undef) rfl (by kernel_rfl) (by kernel_rfl) (fun _ _ _ h => h) (.inr ⟨by rfl, rfl⟩) hS0 ?_
          simp only [Act.put, List.setIfInBounds_toArray, List.set_cons_zero, List.set_cons_succ]
          refine till_pure (i := 11) (v := undef) rfl (by kernel_rfl) (by kernel_rfl) (fun _ _ _ h => h) (.inr ⟨by rfl, rfl⟩) hS0 ?_
          simp only [Act.put, List.setIfInBounds_toArray, List.set_cons_zero, List.set_cons_succ]
          refine till_pure (i := 12) (v := undef) rfl (by kernel_rfl) (by kernel_rfl) (fun _ _ _ h => h) (.inr ⟨by rfl, rfl⟩) hS0 ?_
          simp only [Act.put, List.setIfInBounds_toArray, List.set_cons_zero, List.set_cons_succ]
          refine till_pure (i := 13) (v := undef) rfl (by kernel_rfl) (by kernel_rfl) (fun _ _ _ h => h) (.inr ⟨by rfl, rfl⟩) hS0 ?_
          simp only [Act.put, List.setIfInBounds_toArray, List.set_cons_zero, List.set_cons_succ]
          refine till_tail 14 rfl (by kernel_rfl) ?_
          have HNO := Lib.hid (show Fm.right ⟨(kk : Int), (s : Int), (c : Int)⟩ t = false from by
            rw [HRT.out, ← HRC.out]
            unfold rightAll
            rw [decide_eq_false (by omega)]
            rfl)
          clear hshort
          go_wp2_with fail
          refine NoPanic.normal ?_
          go_wp2_with fail
          go_ret
          exact ⟨ret_bool HNO.out.symm, (HT1.out.trans HTR.out (fun _ _ e => e)).trans HT5.out (fun _ _ e => e) |>.drew⟩
        · refine wp_region_till (PtB b8 p) 12 (by kernel_rfl) ?_
          refine till_pure (i := 0) (v := strV t2) rfl (by kernel_rfl) (by kernel_rfl) (fun _ _ _ h => h) (.inl ⟨by rfl, fun W hW => exec_move rfl rfl⟩) hS0 ?_
          simp only [Act.put, List.setIfInBounds_toArray, List.set_cons_zero, List.set_cons_succ]
          refine till_pure (i := 1) (v := .int .i64 (t2.length : Int)) rfl (by kernel_rfl) (by kernel_rfl) (fun _ _ _ h => h) (.inl ⟨by rfl, fun W hW => exec_slen rfl rfl⟩) hS0 ?_
          simp only [Act.put, List.setIfInBounds_toArray, List.set_cons_zero, List.set_cons_succ]
          refine till_pure (i := 2) (v := .pointer (some ⟨b8, 0, none⟩)) rfl (by kernel_rfl) (by kernel_rfl) (fun _ _ _ h => h) (.inl ⟨by rfl, fun W hW => exec_field (off := 0) (d := 0) rfl rfl (by kernel_rfl)⟩) hS0 ?_
          simp only [Act.put, List.setIfInBounds_toArray, List.set_cons_zero, List.set_cons_succ]
          refine till_only (i := 3) (by kernel_rfl) rfl rfl ?_
          refine wp_run (v := .int .i64 (p.n : Int)) (w' := w5.drew) (exec_load1 rfl rfl (by kernel_rfl) (Blk.cell hS0 0)) ?_
          refine ⟨fun _ => hS0, ?_⟩
          simp only [Act.put, List.setIfInBounds_toArray, List.set_cons_zero, List.set_cons_succ]
          refine till_only (i := 4) (by kernel_rfl) rfl rfl ?_
          refine wp_run (v := .bool false) (w' := w5.drew) (exec_nlss rfl rfl rfl (by omega)) ?_
          refine ⟨fun _ => hS0, ?_⟩
          simp only [Act.put, List.setIfInBounds_toArray, List.set_cons_zero, List.set_cons_succ]
          refine till_only (i := 5) (by kernel_rfl) rfl rfl ?_
          refine wp_run (v := .bool false) (w' := w5.drew) (exec_move rfl rfl) ?_
          refine ⟨fun _ => hS0, ?_⟩
          simp only [Act.put, List.setIfInBounds_toArray, List.set_cons_zero, List.set_cons_succ]
          refine till_pure (i := 6) (v := strV t2) rfl (by kernel_rfl) (by kernel_rfl) (fun _ _ _ h => h) (.inl ⟨by rfl, fun W hW => exec_move rfl rfl⟩) hS0 ?_
          simp only [Act.put, List.setIfInBounds_toArray, List.set_cons_zero, List.set_cons_succ]
          refine till_pure (i := 7) (v := .pointer (some ⟨b8, 0, none⟩)) rfl (by kernel_rfl) (by kernel_rfl) (fun _ _ _ h => h) (.inl ⟨by rfl, fun W hW => exec_field (off := 0) (d := 0) rfl rfl (by kernel_rfl)⟩) hS0 ?_
          simp only [Act.put, List.setIfInBounds_toArray, List.set_cons_zero, List.set_cons_succ]
          refine till_pure (i := 10) (v := .pointer (some ⟨b8, 1, none⟩)) rfl (by kernel_rfl) (by kernel_rfl) (fun _ _ _ h => h) (.inl ⟨by rfl, fun W hW => exec_field (off := 0) (d := 1) rfl rfl (by kernel_rfl)⟩) hS0 ?_
          simp only [Act.put, List.setIfInBounds_toArray, List.set_cons_zero, List.set_cons_succ]
          refine till_take2 9 (i := 8) (v := .int .i64 (p.n : Int)) rfl (by kernel_rfl) (by kernel_rfl) (fun _ _ _ h => h) (.inl ⟨by rfl, fun W hW => exec_load1 rfl rfl (by kernel_rfl) (Blk.cell hW 0)⟩) hS0 ?_
          simp only [Act.put, List.setIfInBounds_toArray, List.set_cons_zero, List.set_cons_succ]
          refine till_take (i := 11) (v := strV p.chars) rfl (by kernel_rfl) (by kernel_rfl) (fun _ _ _ h => h) (.inl ⟨by rfl, fun W hW => exec_load1 rfl rfl (by kernel_rfl) (Blk.cell hW 1)⟩) hS0 ?_
          simp only [Act.put, List.setIfInBounds_toArray, List.set_cons_zero, List.set_cons_succ]
          have hle : p.n ≤ t2.length := by omega
          have HLE := Lib.hid hle
          refine till_only (i := 9) (by kernel_rfl) rfl rfl ?_
          refine wp_run (v := strV (t2.take p.n)) (w' := w5.drew) (exec_sto rfl rfl rfl hle) ?_
          refine ⟨fun _ => hS0, ?_⟩
          simp only [Act.put, List.setIfInBounds_toArray, List.set_cons_zero, List.set_cons_succ]
          clear hshort hle
          refine till_step (i := 12) (by kernel_rfl) rfl rfl ?_
          intro K1 HK1
          go_wp2_with fail
          refine (only_walk (t2.take p.n) p.chars (by have := HGD.out.ch; omega) HGD.out.asc _).mono ?_
          rintro e w6 ⟨rfl, ht6⟩
          have hS1 : PtB b8 p w6 := hS0.turn ht6 (fun e => e)
          refine HK1.out _ _ ⟨fun _ => hS1, ?_⟩
          clear HK1
          have HB6 := Lib.hid hS1
          have HT6 := Lib.hid ht6
          clear hS0 hS1 ht6
          have hrc : rightAll ps t = (onlyOf (t2.take p.n) p.chars && rightAll r (t2.drop p.n)) := by
            rw [← HRC.out]
            unfold rightAll
            rw [decide_eq_true HLE.out, Bool.true_and]
            cases r <;> rfl
          have HRC2 := Lib.hid hrc
          clear hrc
          refine till_tail 13 rfl (by kernel_rfl) ?_
          cases hon : onlyOf (t2.take p.n) p.chars with
          | false =>
            have HNO := Lib.hid (show Fm.right ⟨(kk : Int), (s : Int), (c : Int)⟩ t = false from by rw [HRT.out, HRC2.out, hon]; rfl)
            clear hon
            go_wp2_with fail
            refine NoPanic.normal ?_
            go_wp2_with fail
            go_ret
            exact ⟨ret_bool HNO.out.symm, (((HT1.out.trans HTR.out (fun _ _ e => e)).trans HT5.out (fun _ _ e => e)).drew).trans HT6.out (fun _ _ e => e)⟩
          | true =>
            have HYES := Lib.hid (show rightAll r (t2.drop p.n) = rightAll ps t from by rw [HRC2.out, hon]; rfl)
            clear hon
            go_wp2_with fail
            refine NoPanic.normal ?_
            go_upto_region 11 with fail
            refine wp_region_lit ?_
            refine wpList_run (v := strV t2) rfl (exec_move rfl rfl) ?_
            simp only [Act.put, List.setIfInBounds_toArray, List.set_cons_zero, List.set_cons_succ]
            refine wpList_run (v := .pointer (some ⟨b8, 0, none⟩)) rfl (exec_field (off := 0) (d := 0) rfl rfl (by kernel_rfl)) ?_
            simp only [Act.put, List.setIfInBounds_toArray, List.set_cons_zero, List.set_cons_succ]
            refine wpList_run (v := .int .i64 (p.n : Int)) rfl (exec_load1 rfl rfl (by kernel_rfl) (Blk.cell HB6.out 0)) ?_
            simp only [Act.put, List.setIfInBounds_toArray, List.set_cons_zero, List.set_cons_succ]
            refine wpList_run (v := strV (t2.drop p.n)) (w' := w6) rfl (exec_sfrom rfl rfl rfl HLE.out) ?_
            simp only [Act.put, List.setIfInBounds_toArray, List.set_cons_zero, List.set_cons_succ]
            go_wp2_with fail
            go_roundg (gk - 1)
            case measure => have := HKL.out; have := HLT.out; omega
            case rel => exact ⟨k + 1, t2.drop p.n, by have := HKL.out; have := HLT.out; omega, by go_num, rfl, by rw [HD.out.2.1]; exact HYES.out, ((HTR.out.trans HT5.out (fun _ _ e => e)).drew).trans HT6.out (fun _ _ e => e)⟩
      · have hke : k = np := by have := HKL.out; omega
        have y1 : ¬ ((k : Int) < (np : Int)) := by omega
        clear hlt
        have hrr := HRR.out
        rw [List.drop_of_length_le (by rw [HNP.out, hke]; exact Nat.le_refl _)] at hrr
        have HEND := Lib.hid (show Fm.right ⟨(kk : Int), (s : Int), (c : Int)⟩ t = (t2 == []) from by rw [HRT.out, ← hrr]; rfl)
        clear hke hrr
        go_upto_region 13 with fail
        refine wp_region_lit ?_
        refine wpList_run (v := strV t2) rfl (exec_move rfl rfl) ?_
        simp only [Act.put, List.setIfInBounds_toArray, List.set_cons_zero, List.set_cons_succ]
        refine wpList_run (v := .bool (t2 == [])) (w' := wr) rfl (exec_seql (m := []) rfl rfl rfl) ?_
        simp only [Act.put, List.setIfInBounds_toArray, List.set_cons_zero, List.set_cons_succ]
        rw [← HEND.out]
        go_wp2_with fail
        go_ret
        exact ⟨rfl, HT1.out.trans HTR.out (fun _ _ e => e)⟩
theorem may_nat {f : Fm} (h : f.may = true) : ∃ k s c : Nat, f = ⟨(k : Int), (s : Int), (c : Int)⟩ ∧ (1 ≤ k ∧ k ≤ 5) ∧ (1 ≤ c ∧ c ≤ 3) ∧ (1 ≤ s ∧ s ≤ 64) := by
  obtain ⟨k, s, c⟩ := f
  simp only [Fm.may, Bool.and_eq_true, decide_eq_true_eq] at h
  obtain ⟨h1, h2, h3⟩ := h
  refine ⟨k.toNat, s.toNat, c.toNat, ?_, by omega, by omega, by omega⟩
  rw [Int.toNat_of_nonneg (by omega), Int.toNat_of_nonneg (by omega), Int.toNat_of_nonneg (by omega)]
theorem check_walk {w : World} {f : Fm} {t : List UInt8} (hr : RowsT w) :
    Calls Tryz.prog 59 #[fmV f, strV t] w fun e w' => e = .returned (.int .i64 (f.check t)) ∧ Turn nowhere w w' := by
  have HR := Lib.hid hr
  clear hr
  have HMW := Lib.hid (mayBe_walk f)
  have hrw : f.may = true → ∀ W, RowsT W → Calls Tryz.prog 76 #[fmV f, strV t] W fun e w' => e = .returned (.bool (f.right t)) ∧ Turn nowhere W w' := by
    intro h W hW
    obtain ⟨k, s, c, rfl, h1, h2, h3⟩ := may_nat h
    exact right_walk h1 h2 h3 hW
  have HRW := Lib.hid hrw
  have hch : f.check t = if f.may = true then if f.right t = true then 0 else 41 else 40 := rfl
  have HCH := Lib.hid hch
  clear hrw hch
  obtain ⟨fv, hfv⟩ : ∃ fv, fv = fmC f := ⟨_, rfl⟩
  have hv : fmV f = .agg fv := by rw [hfv]; rfl
  have hlf : ∀ W g, Blk W g 104 fv → (Instr.loadAt 104 (.pointer (some ⟨g, 0, none⟩))).run Tryz.prog W = .ok (.agg fv) W := by
    intro W g hb
    rw [← hv]
    rw [hfv] at hb
    exact load_blkForm hb
  have HLF := Lib.hid hlf
  have HV := Lib.hid hv
  rw [hv] at HMW HRW ⊢
  obtain ⟨x0, x1, x2, rfl⟩ : ∃ x0 x1 x2, fv = #[.int .i64 x0, .int .i64 x1, .int .i64 x2] := ⟨_, _, _, hfv⟩
  clear hlf hv hfv
  go_enter Tryz.func59, Tryz.ntmps59
  go_upto_region 1 with fail
  have hb0 := Blk.new w 104 #[.int .i64 x0, .int .i64 x1, .int .i64 x2]
  have ht0 := (Turn.refl nowhere w).alloc (.cells #[.int .i64 x0, .int .i64 x1, .int .i64 x2] 104)
  generalize (w.alloc (.cells #[.int .i64 x0, .int .i64 x1, .int .i64 x2] 104)) = w0 at *
  generalize w.heap.size = b2 at *
  refine wp_region_lit ?_
  refine wpList_run (v := .agg #[.int .i64 x0, .int .i64 x1, .int .i64 x2]) rfl (exec_load rfl rfl (HLF.out _ _ hb0)) ?_
  simp only [Act.put, List.setIfInBounds_toArray, List.set_cons_zero, List.set_cons_succ]
  have HB0 := Lib.hid hb0
  have HT0 := Lib.hid ht0
  clear hb0 ht0
  cases hmay : f.may with
  | false =>
    rw [hmay] at HMW
    have HC := Lib.hid (show f.check t = 40 from by rw [HCH.out, hmay]; rfl)
    clear hmay
    go_wp2_with (go_at_call 75; refine (HMW.out _).mono ?_; rintro e w1 ⟨rfl, ht1⟩)
    go_ret
    exact ⟨ret_int HC.out.symm, HT0.out.trans ht1 (fun _ _ e => e)⟩
  | true =>
    rw [hmay] at HMW
    have HC := Lib.hid (show f.check t = if f.right t = true then 0 else 41 from by rw [HCH.out, hmay]; rfl)
    have HMY := Lib.hid hmay
    clear hmay
    go_upto_region 3 with (go_at_call 75; refine (HMW.out _).mono ?_; rintro e w1 ⟨rfl, ht1⟩)
    have HT1 := Lib.hid (HT0.out.trans ht1 (fun _ _ e => e))
    have hb1 := HB0.out.turn ht1 (fun e => e)
    clear ht1
    refine wp_region_lit ?_
    refine wpList_run (v := .agg #[.int .i64 x0, .int .i64 x1, .int .i64 x2]) rfl (exec_load rfl rfl (HLF.out _ _ hb1)) ?_
    simp only [Act.put, List.setIfInBounds_toArray, List.set_cons_zero, List.set_cons_succ]
    clear hb1
    have hcall := HRW.out HMY.out w1 (HR.out.turn HT1.out)
    cases hrt : f.right t with
    | false =>
      rw [hrt] at hcall
      have HC2 := Lib.hid (show f.check t = 41 from by rw [HC.out, hrt]; rfl)
      clear hrt
      go_wp2_with (go_at_call 76; refine hcall.mono ?_; rintro e w2 ⟨rfl, ht2⟩)
      go_ret
      exact ⟨ret_int HC2.out.symm, HT1.out.trans ht2 (fun _ _ e => e)⟩
    | true =>
      rw [hrt] at hcall
      have HC2 := Lib.hid (show f.check t = 0 from by rw [HC.out, hrt]; rfl)
      clear hrt
      go_wp2_with (go_at_call 76; refine hcall.mono ?_; rintro e w2 ⟨rfl, ht2⟩)
      go_ret
      exact ⟨ret_int HC2.out.symm, HT1.out.trans ht2 (fun _ _ e => e)⟩
end Go.Proofs.YtfnillibngijaaaGreatDoor
