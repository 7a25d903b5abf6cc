/-
  Texts in one file. Conditions: the tables and the errors read as laid.
-/
import Derived.Test.YtkagijifkpoplaaGreatDoorJT12
import Derived.Test.YtkagijifkpoplaaGreatDoorJT9
import Derived.Deep.Upon
import Derived.Test.YtkagijifkpoplaaGreatDoorJT0
import Derived.Test.YtkagijifkpoplaaGreatDoorJT1
set_option linter.unusedVariables false
set_option linter.unusedSimpArgs false
set_option maxRecDepth 40000
set_option maxHeartbeats 20000000
namespace Go.Proofs.YtkagijifkpoplaaGreatDoor
open Go.RowKit
open Fdd
theorem ascii_of {l : List UInt8} (h : l.all (fun b => decide (b.toNat < 128)) = true) : ascii l := fun j b hj => by
 simpa using List.all_eq_true.1 h b (List.mem_of_getElem? hj)
theorem pts_good {k : Int} {c n : Nat} (hk : 1 ≤ k ∧ k ≤ 5) (hc : 1 ≤ c ∧ c ≤ 3) (hn : 1 ≤ n ∧ n ≤ 64) : ∀ p ∈ ptsOf k (c : Int) n, Gd p := by
 have hcc : c = 1 ∨ c = 2 ∨ c = 3 := by omega
 intro p hp
 unfold ptsOf at hp
 rw [Int.toNat_natCast] at hp
 have good : ∀ (n : Nat) (ch st : List UInt8), 1 ≤ n → n ≤ 200 → ((decide (st = []) && (decide (ch.length ≤ 16) && ch.contains 48)) || (!decide (st = []) && decide (st.length = ch.length))) = true → ch.length ≤ 99 → ch.all (fun b => decide (b.toNat < 128)) = true → Gd ⟨n, ch, st⟩ := by
  intro n ch st h1 h2 h3 h4 h5
  refine ⟨?_, h4, h1, h2, ascii_of h5⟩
  simp only [Bool.or_eq_true, Bool.and_eq_true, decide_eq_true_eq, Bool.not_eq_true', decide_eq_false_iff_not] at h3
  rcases h3 with ⟨h, h6, h7⟩ | ⟨h, h6⟩
  ·exact .inl ⟨h, h6, by simpa using h7⟩
  ·exact .inr ⟨h, h6⟩
 split at hp
 ·simp only [List.mem_singleton] at hp
  subst hp
  rcases hcc with rfl | rfl | rfl <;> exact good _ _ _ (by omega) (by omega) (by decide) (by decide) (by decide)
 ·split at hp
  ·simp only [List.mem_singleton] at hp
   subst hp
   rcases hcc with rfl | rfl | rfl <;> exact good _ _ _ (by omega) (by omega) (by decide) (by decide) (by decide)
  ·split at hp
   ·simp only [List.mem_cons, List.not_mem_nil, or_false] at hp
    rcases hp with rfl | rfl
    ·rcases hcc with rfl | rfl | rfl <;> exact good _ _ _ (by omega) (by omega) (by decide) (by decide) (by decide)
    ·rcases hcc with rfl | rfl | rfl <;> exact good _ _ _ (by omega) (by omega) (by decide) (by decide) (by decide)
   ·simp only [List.mem_singleton] at hp
    subst hp
    rcases hcc with rfl | rfl | rfl <;> exact good _ _ _ (by omega) (by omega) (by decide) (by decide) (by decide)
theorem pts_len (k : Int) (c n : Nat) : (ptsOf k (c : Int) n).length ≤ 2 := by
 unfold ptsOf
 split
 ·simp
 ·split
  ·simp
  ·split
   ·simp
   ·simp
theorem load_blkForm {w : World} {g : Nat} {k s c : Int} (h : Blk w g 105 #[.int .i64 k, .int .i64 s, .int .i64 c]) : (Instr.loadAt 105 (.pointer (some ⟨g, 0, none⟩))).run Tryz.prog w = .ok (fmV ⟨k, s, c⟩) w :=
 run_loadAt_mid w g 0 105 [.int .i64 k, .int .i64 s, .int .i64 c] _ (fun j v hv => by
  rw [Nat.zero_add, h.cell j]
  simpa using hv) Tryz.underlying105 rfl (by rw [size_form]; rfl)
theorem right_walk {w : World} {kk s c : Nat} {t : List UInt8} (hk : 1 ≤ kk ∧ kk ≤ 5) (hc : 1 ≤ c ∧ c ≤ 3) (hs : 1 ≤ s ∧ s ≤ 64) (hr : RowsT w) :
 Calls Tryz.prog 108 #[fmV ⟨(kk : Int), (s : Int), (c : Int)⟩, strV t] w fun e w' => e = .returned (.bool (Fm.right ⟨(kk : Int), (s : Int), (c : Int)⟩ t)) ∧ Turn nowhere w w' := by
 unfold fmV
 have HK := zH hk
 have HC := zH hc
 have HS := zH hs
 have HR := zH hr
 clear hr
 go_enter Tryz.func108, Tryz.ntmps108
 go_upto_region 1 with fail
 have hb0 := Blk.new w 105 #[.int .i64 (kk : Int), .int .i64 (s : Int), .int .i64 (c : Int)]
 have ht0 := (Turn.refl nowhere w).alloc (.cells #[.int .i64 (kk : Int), .int .i64 (s : Int), .int .i64 (c : Int)] 105)
 generalize (w.alloc (.cells #[.int .i64 (kk : Int), .int .i64 (s : Int), .int .i64 (c : Int)] 105)) = w0 at *
 generalize w.heap.size = b2 at *
 have HB0 := zH hb0
 have HT0 := zH ht0
 have hload := load_blkForm hb0
 have HLOAD := zH hload
 have c0 : w0.cell? ⟨b2, 0, none⟩ = some (.int .i64 (kk : Int)) := hb0.cell 0
 have c1 : w0.cell? ⟨b2, 1, none⟩ = some (.int .i64 (s : Int)) := hb0.cell 1
 have c2 : w0.cell? ⟨b2, 2, none⟩ = some (.int .i64 (c : Int)) := hb0.cell 2
 clear hb0 ht0 hload
 by_cases hk2 : kk = 2
 ·have y0 : ((kk : Int) == 2) = true := by simp; omega
  have HK2 := zH hk2
  clear hk hk2
  go_upto_region 3 with fail
  refine wp_region_lit ?_
  refine wM (strV t) ?_;simp only [zz]
  refine wR (v := .int .i64 (t.length : Int)) (w' := w0) rfl (exec_slen rfl rfl) ?_
  simp only [zz]
  have hform : Fm.right ⟨(kk : Int), (s : Int), (c : Int)⟩ t = (decide (1 ≤ t.length ∧ (t.length : Int) ≤ (s : Int)) && rightAll (ptsOf (kk : Int) (c : Int) t.length) t) := by
   unfold Fm.right
   rw [HK2.out]
   rfl
  have HFORM := zH hform
  clear hform
  by_cases hb1 : t.length < 1
  ·have HRT := zH (show Fm.right ⟨(kk : Int), (s : Int), (c : Int)⟩ t = false from by
    rw [HFORM.out, decide_eq_false (by omega)]
    rfl)
   have y1 : (t.length : Int) < 1 := by omega
   clear hb1
   go_wp2_with fail
   go_ret
   exact ⟨ret_bool HRT.out.symm, HT0.out⟩
  ·by_cases hb2 : s < t.length
   ·have HRT := zH (show Fm.right ⟨(kk : Int), (s : Int), (c : Int)⟩ t = false from by
     rw [HFORM.out, decide_eq_false (by omega)]
     rfl)
    have y1 : ¬ ((t.length : Int) < 1) := by omega
    have y2 : (s : Int) < (t.length : Int) := by omega
    clear hb1 hb2
    go_wp2_with fail
    go_ret
    exact ⟨ret_bool HRT.out.symm, HT0.out⟩
   ·have HRT := zH (show Fm.right ⟨(kk : Int), (s : Int), (c : Int)⟩ t = rightAll (ptsOf (kk : Int) (c : Int) t.length) t from by
     rw [HFORM.out, decide_eq_true (by omega), Bool.true_and])
    have y1 : ¬ ((t.length : Int) < 1) := by omega
    have y2 : ¬ ((s : Int) < (t.length : Int)) := by omega
    obtain ⟨n, hn⟩ : ∃ n, n = t.length := ⟨_, rfl⟩
    have hn1 : 1 ≤ n ∧ n ≤ 64 := by omega
    rw [← hn] at y1 y2 ⊢
    rw [← hn] at HRT
    have HN1 := zH hn1
    have HQ := HK
    clear hb1 hb2 hn hn1
    go_upto_region 6 with fail
    clear y0 y1 y2 c1 c2 HK2 HFORM
    have hpts := parts_walk (kk : Int) (s : Int) c n w0 (by have := HQ.out; omega) (by have := HC.out; omega) (by have := HN1.out; omega) (HR.out.turn HT0.out)
    have HPTS := zH hpts
    have HGOOD := zH (pts_good (k := (kk : Int)) (by have := HQ.out; omega) HC.out HN1.out)
    have HPL := zH (pts_len (kk : Int) c n)
    clear hpts
    generalize ptsOf (kk : Int) (c : Int) n = ps at *
    obtain ⟨np, hnp⟩ : ∃ np, ps.length = np := ⟨_, rfl⟩
    have HNP := zH hnp
    rw [hnp] at HPTS HPL
    clear hnp
    refine wp_region_lit ?_
    refine wS (fmV ⟨(kk : Int), (s : Int), (c : Int)⟩) (exec_load rfl rfl HLOAD.out) ?_;simp only [zz];refine wM (.int .i64 (n : Int)) ?_;simp only [zz]
    unfold fmV
    go_wp2_with (go_at_call 116; refine HPTS.out.mono ?_; rintro e w1 ⟨g, cp, rfl, hp, ht1⟩)
    have HP := zH hp
    have HT1 := zH (HT0.out.next ht1)
    clear hp ht1 HLOAD
    go_loopg [1, 27] np (fun gk x i wr => ∃ (k : Nat) (t2 : List UInt8), k + gk = np ∧ i = .int .i64 (k : Int) ∧ x = strV t2 ∧ rightAll (ps.drop k) t2 = rightAll ps t ∧ Turn nowhere w1 wr)
    case atStart => exact ⟨0, t, by omega, rfl, rfl, by rw [List.drop_zero], Turn.refl _ _⟩
    case round =>
     obtain ⟨k, t2, hkl, rfl, rfl, hright, htr⟩ := hrel
     have HKL := zH hkl
     have HTR := zH htr
     have HRR := zH hright
     clear hkl hright htr
     by_cases hlt : k < np
     ·have y1 : (k : Int) < (np : Int) := by omega
      have y2 : (0 : Int) ≤ (k : Int) := by omega
      have y3 : (np : Int) ≤ 2 := by have := HPL.out; omega
      obtain ⟨p, r, hd⟩ : ∃ p r, ps.drop k = p :: r := by
       cases h : ps.drop k with
       | nil =>
         have := congrArg List.length h
         rw [List.length_drop, HNP.out] at this
         simp at this
         omega
       | cons p r => exact ⟨p, r, rfl⟩
      have HD := zH (drop_cons hd)
      have hrr := HRR.out
      rw [hd] at hrr
      have HRC := zH hrr
      have HLT := zH hlt
      clear hlt hd hrr
      go_upto_region 8 with fail
      have hk0 : wr.rangeAt g (k * 3) (ptC p) := (HP.out.turn HTR.out (fun e => e)).range HD.out.1
      refine wp_region_lit ?_
      refine wR (v := .pointer (some ⟨g, k * 3, none⟩)) (w' := wr) rfl (by go_simp) ?_
      simp only [zz];refine wS (.agg (ptC p).toArray) (exec_load rfl rfl (load_part hk0)) ?_;simp only [zz];refine wS _ (exec_alloc rfl (zero_part _)) ?_;simp only [zz]
      have hbn := Blk.new wr 200 #[.int .i64 0, .string ByteArray.empty, .string ByteArray.empty]
      have htn := (Turn.refl nowhere wr).alloc (.cells #[.int .i64 0, .string ByteArray.empty, .string ByteArray.empty] 200)
      generalize (wr.alloc (.cells #[.int .i64 0, .string ByteArray.empty, .string ByteArray.empty] 200)) = w4 at *
      obtain ⟨b8, hb8⟩ : ∃ b8, b8 = wr.heap.size := ⟨_, rfl⟩
      rw [← hb8] at hbn ⊢
      refine wpList_store_part rfl (.tmp 7) (.tmp 30) rfl hbn rfl rfl rfl size_part ?_
      intro w5 hq5 ht5
      have HT5 := zH (show Turn nowhere wr w5 from htn.trans ht5 (fun j hj e => by have h2 : j = b8 := e; omega))
      have HB5 := zH hq5
      clear hk0 hbn htn hb8 hq5 ht5
      simp only [Act.put]
      have HGD := zH (HGOOD.out p (List.mem_of_getElem? HD.out.1))
      go_upto_region 9 with fail
      have hS0 : PtB b8 p w5.drew := HB5.out.drew
      by_cases hshort : t2.length < p.n
      ·refine wp_region_till (PtB b8 p) 14 (by kernel_rfl) ?_
       refine tP 0 (strV t2) rfl (fun W hW => exec_move rfl rfl) hS0 ?_;simp only [zz];refine tP 1 (.int .i64 (t2.length : Int)) rfl (fun W hW => exec_slen rfl rfl) hS0 ?_;simp only [zz];refine tP 2 (.pointer (some ⟨b8, 0, none⟩)) rfl (fun W hW => xF 0 0) hS0 ?_;simp only [zz]
       refine till_only (i := 3) (by kernel_rfl) rfl rfl ?_
       refine wp_run (v := .int .i64 (p.n : Int)) (w' := w5.drew) (xL (Blk.cell hS0 0)) ?_
       refine ⟨fun _ => hS0, ?_⟩
       simp only [zz]
       refine till_only (i := 4) (by kernel_rfl) rfl rfl ?_
       refine wp_run (v := .bool true) (w' := w5.drew) (exec_lss rfl rfl rfl (by omega)) ?_
       refine ⟨fun _ => hS0, ?_⟩
       simp only [zz]
       refine till_only (i := 5) (by kernel_rfl) rfl rfl ?_
       refine wp_run (v := .bool true) (w' := w5.drew) (exec_move rfl rfl) ?_
       refine ⟨fun _ => hS0, ?_⟩
       simp only [zz]
       refine till_pure (i := 6) (v := undef) rfl (by kernel_rfl) (by kernel_rfl) (fun _ _ _ h => h) (.inr ⟨by rfl, rfl⟩) hS0 ?_
       simp only [zz]
       refine till_pure (i := 7) (v := undef) rfl (by kernel_rfl) (by kernel_rfl) (fun _ _ _ h => h) (.inr ⟨by rfl, rfl⟩) hS0 ?_
       simp only [zz]
       refine till_pure (i := 8) (v := undef) rfl (by kernel_rfl) (by kernel_rfl) (fun _ _ _ h => h) (.inr ⟨by rfl, rfl⟩) hS0 ?_
       simp only [zz]
       refine till_pure (i := 9) (v := undef) rfl (by kernel_rfl) (by kernel_rfl) (fun _ _ _ h => h) (.inr ⟨by rfl, rfl⟩) hS0 ?_
       simp only [zz]
       refine till_pure (i := 10) (v := undef) rfl (by kernel_rfl) (by kernel_rfl) (fun _ _ _ h => h) (.inr ⟨by rfl, rfl⟩) hS0 ?_
       simp only [zz]
       refine till_pure (i := 11) (v := undef) rfl (by kernel_rfl) (by kernel_rfl) (fun _ _ _ h => h) (.inr ⟨by rfl, rfl⟩) hS0 ?_
       simp only [zz]
       refine till_pure (i := 12) (v := undef) rfl (by kernel_rfl) (by kernel_rfl) (fun _ _ _ h => h) (.inr ⟨by rfl, rfl⟩) hS0 ?_
       simp only [zz]
       refine till_pure (i := 13) (v := undef) rfl (by kernel_rfl) (by kernel_rfl) (fun _ _ _ h => h) (.inr ⟨by rfl, rfl⟩) hS0 ?_
       simp only [zz]
       refine till_tail 14 rfl (by kernel_rfl) ?_
       have HNO := zH (show Fm.right ⟨(kk : Int), (s : Int), (c : Int)⟩ t = false from by
        rw [HRT.out, ← HRC.out]
        unfold rightAll
        rw [decide_eq_false (by omega)]
        rfl)
       clear hshort
       go_wp2_with fail
       refine NoPanic.normal ?_
       go_wp2_with fail
       go_ret
       exact ⟨ret_bool HNO.out.symm, (HT1.out.next HTR.out).next HT5.out |>.drew⟩
      ·refine wp_region_till (PtB b8 p) 12 (by kernel_rfl) ?_
       refine tP 0 (strV t2) rfl (fun W hW => exec_move rfl rfl) hS0 ?_;simp only [zz];refine tP 1 (.int .i64 (t2.length : Int)) rfl (fun W hW => exec_slen rfl rfl) hS0 ?_;simp only [zz];refine tP 2 (.pointer (some ⟨b8, 0, none⟩)) rfl (fun W hW => xF 0 0) hS0 ?_;simp only [zz]
       refine till_only (i := 3) (by kernel_rfl) rfl rfl ?_
       refine wp_run (v := .int .i64 (p.n : Int)) (w' := w5.drew) (xL (Blk.cell hS0 0)) ?_
       refine ⟨fun _ => hS0, ?_⟩
       simp only [zz]
       refine till_only (i := 4) (by kernel_rfl) rfl rfl ?_
       refine wp_run (v := .bool false) (w' := w5.drew) (exec_nlss rfl rfl rfl (by omega)) ?_
       refine ⟨fun _ => hS0, ?_⟩
       simp only [zz]
       refine till_only (i := 5) (by kernel_rfl) rfl rfl ?_
       refine wp_run (v := .bool false) (w' := w5.drew) (exec_move rfl rfl) ?_
       refine ⟨fun _ => hS0, ?_⟩
       simp only [zz];refine tP 6 (strV t2) rfl (fun W hW => exec_move rfl rfl) hS0 ?_;simp only [zz];refine tP 7 (.pointer (some ⟨b8, 0, none⟩)) rfl (fun W hW => xF 0 0) hS0 ?_;simp only [zz];refine tP 10 (.pointer (some ⟨b8, 1, none⟩)) rfl (fun W hW => xF 0 1) hS0 ?_;simp only [zz]
       refine till_take2 9 (i := 8) (v := .int .i64 (p.n : Int)) rfl (by kernel_rfl) (by kernel_rfl) (fun _ _ _ h => h) (.inl ⟨by rfl, fun W hW => xL (Blk.cell hW 0)⟩) hS0 ?_
       simp only [zz];refine tU 11 (strV p.chars) rfl (fun W hW => xL (Blk.cell hW 1)) hS0 ?_;simp only [zz]
       have hle : p.n ≤ t2.length := by omega
       have HLE := zH hle
       refine till_only (i := 9) (by kernel_rfl) rfl rfl ?_
       refine wp_run (v := strV (t2.take p.n)) (w' := w5.drew) (exec_sto rfl rfl rfl hle) ?_
       refine ⟨fun _ => hS0, ?_⟩
       simp only [zz]
       clear hshort hle
       refine till_step (i := 12) (by kernel_rfl) rfl rfl ?_
       intro K1 HK1
       go_wp2_with fail
       refine (only_walk (t2.take p.n) p.chars (by have := HGD.out.ch; omega) HGD.out.asc _).mono ?_
       rintro e w6 ⟨rfl, ht6⟩
       have hS1 : PtB b8 p w6 := hS0.turn ht6 (fun e => e)
       refine HK1.out _ _ ⟨fun _ => hS1, ?_⟩
       clear HK1
       have HB6 := zH hS1
       have HT6 := zH ht6
       clear hS0 hS1 ht6
       have hrc : rightAll ps t = (onlyOf (t2.take p.n) p.chars && rightAll r (t2.drop p.n)) := by
        rw [← HRC.out]
        unfold rightAll
        rw [decide_eq_true HLE.out, Bool.true_and]
        cases r <;> rfl
       have HRC2 := zH hrc
       clear hrc
       refine till_tail 13 rfl (by kernel_rfl) ?_
       cases hon : onlyOf (t2.take p.n) p.chars with
       | false =>
         have HNO := zH (show Fm.right ⟨(kk : Int), (s : Int), (c : Int)⟩ t = false from by rw [HRT.out, HRC2.out, hon]; rfl)
         clear hon
         go_wp2_with fail
         refine NoPanic.normal ?_
         go_wp2_with fail
         go_ret
         exact ⟨ret_bool HNO.out.symm, (((HT1.out.next HTR.out).next HT5.out).drew).next HT6.out⟩
       | true =>
         have HYES := zH (show rightAll r (t2.drop p.n) = rightAll ps t from by rw [HRC2.out, hon]; rfl)
         clear hon
         go_wp2_with fail
         refine NoPanic.normal ?_
         go_upto_region 11 with fail
         refine wp_region_lit ?_
         refine wM (strV t2) ?_;simp only [zz];refine wS (.pointer (some ⟨b8, 0, none⟩)) (xF 0 0) ?_;simp only [zz];refine wS (.int .i64 (p.n : Int)) (xL (Blk.cell HB6.out 0)) ?_;simp only [zz]
         refine wR (v := strV (t2.drop p.n)) (w' := w6) rfl (exec_sfrom rfl rfl rfl HLE.out) ?_
         simp only [zz]
         go_wp2_with fail
         go_roundg (gk - 1)
         case measure => have := HKL.out; have := HLT.out; omega
         case rel => exact ⟨k + 1, t2.drop p.n, by have := HKL.out; have := HLT.out; omega, by go_num, rfl, by rw [HD.out.2.1]; exact HYES.out, ((HTR.out.next HT5.out).drew).next HT6.out⟩
     ·have hke : k = np := by have := HKL.out; omega
      have y1 : ¬ ((k : Int) < (np : Int)) := by omega
      clear hlt
      have hrr := HRR.out
      rw [List.drop_of_length_le (by rw [HNP.out, hke]; exact Nat.le_refl _)] at hrr
      have HEND := zH (show Fm.right ⟨(kk : Int), (s : Int), (c : Int)⟩ t = (t2 == []) from by rw [HRT.out, ← hrr]; rfl)
      clear hke hrr
      go_upto_region 13 with fail
      refine wp_region_lit ?_
      refine wM (strV t2) ?_;simp only [zz]
      refine wR (v := .bool (t2 == [])) (w' := wr) rfl (exec_seql (m := []) rfl rfl rfl) ?_
      simp only [zz]
      rw [← HEND.out]
      go_wp2_with fail
      go_ret
      exact ⟨rfl, HT1.out.next HTR.out⟩
 ·obtain ⟨n, hn⟩ : ∃ n, n = s := ⟨_, rfl⟩
  have HRT := zH (show Fm.right ⟨(kk : Int), (s : Int), (c : Int)⟩ t = rightAll (ptsOf (kk : Int) (c : Int) n) t from by
   unfold Fm.right
   rw [if_neg (by simp; omega), hn]
   rfl)
  have y1 : ((kk : Int) == 2) = false := by simp; omega
  clear hk2 hk
  have HN1 := zH (show 1 ≤ n ∧ n ≤ 64 from by omega)
  have HQ := HK
  clear c2
  go_upto_region 6 with fail
  rw [← hn]
  clear hn c1 y1
  have hpts := parts_walk (kk : Int) (s : Int) c n w0 (by have := HQ.out; omega) (by have := HC.out; omega) (by have := HN1.out; omega) (HR.out.turn HT0.out)
  have HPTS := zH hpts
  have HGOOD := zH (pts_good (k := (kk : Int)) (by have := HQ.out; omega) HC.out HN1.out)
  have HPL := zH (pts_len (kk : Int) c n)
  clear hpts
  generalize ptsOf (kk : Int) (c : Int) n = ps at *
  obtain ⟨np, hnp⟩ : ∃ np, ps.length = np := ⟨_, rfl⟩
  have HNP := zH hnp
  rw [hnp] at HPTS HPL
  clear hnp
  refine wp_region_lit ?_
  refine wS (fmV ⟨(kk : Int), (s : Int), (c : Int)⟩) (exec_load rfl rfl HLOAD.out) ?_;simp only [zz];refine wM (.int .i64 (n : Int)) ?_;simp only [zz]
  unfold fmV
  go_wp2_with (go_at_call 116; refine HPTS.out.mono ?_; rintro e w1 ⟨g, cp, rfl, hp, ht1⟩)
  have HP := zH hp
  have HT1 := zH (HT0.out.next ht1)
  clear hp ht1 HLOAD
  go_loopg [1, 27] np (fun gk x i wr => ∃ (k : Nat) (t2 : List UInt8), k + gk = np ∧ i = .int .i64 (k : Int) ∧ x = strV t2 ∧ rightAll (ps.drop k) t2 = rightAll ps t ∧ Turn nowhere w1 wr)
  case atStart => exact ⟨0, t, by omega, rfl, rfl, by rw [List.drop_zero], Turn.refl _ _⟩
  case round =>
   obtain ⟨k, t2, hkl, rfl, rfl, hright, htr⟩ := hrel
   have HKL := zH hkl
   have HTR := zH htr
   have HRR := zH hright
   clear hkl hright htr
   by_cases hlt : k < np
   ·have y1 : (k : Int) < (np : Int) := by omega
    have y2 : (0 : Int) ≤ (k : Int) := by omega
    have y3 : (np : Int) ≤ 2 := by have := HPL.out; omega
    obtain ⟨p, r, hd⟩ : ∃ p r, ps.drop k = p :: r := by
     cases h : ps.drop k with
     | nil =>
       have := congrArg List.length h
       rw [List.length_drop, HNP.out] at this
       simp at this
       omega
     | cons p r => exact ⟨p, r, rfl⟩
    have HD := zH (drop_cons hd)
    have hrr := HRR.out
    rw [hd] at hrr
    have HRC := zH hrr
    have HLT := zH hlt
    clear hlt hd hrr
    go_upto_region 8 with fail
    have hk0 : wr.rangeAt g (k * 3) (ptC p) := (HP.out.turn HTR.out (fun e => e)).range HD.out.1
    refine wp_region_lit ?_
    refine wR (v := .pointer (some ⟨g, k * 3, none⟩)) (w' := wr) rfl (by go_simp) ?_
    simp only [zz];refine wS (.agg (ptC p).toArray) (exec_load rfl rfl (load_part hk0)) ?_;simp only [zz];refine wS _ (exec_alloc rfl (zero_part _)) ?_;simp only [zz]
    have hbn := Blk.new wr 200 #[.int .i64 0, .string ByteArray.empty, .string ByteArray.empty]
    have htn := (Turn.refl nowhere wr).alloc (.cells #[.int .i64 0, .string ByteArray.empty, .string ByteArray.empty] 200)
    generalize (wr.alloc (.cells #[.int .i64 0, .string ByteArray.empty, .string ByteArray.empty] 200)) = w4 at *
    obtain ⟨b8, hb8⟩ : ∃ b8, b8 = wr.heap.size := ⟨_, rfl⟩
    rw [← hb8] at hbn ⊢
    refine wpList_store_part rfl (.tmp 7) (.tmp 30) rfl hbn rfl rfl rfl size_part ?_
    intro w5 hq5 ht5
    have HT5 := zH (show Turn nowhere wr w5 from htn.trans ht5 (fun j hj e => by have h2 : j = b8 := e; omega))
    have HB5 := zH hq5
    clear hk0 hbn htn hb8 hq5 ht5
    simp only [Act.put]
    have HGD := zH (HGOOD.out p (List.mem_of_getElem? HD.out.1))
    go_upto_region 9 with fail
    have hS0 : PtB b8 p w5.drew := HB5.out.drew
    by_cases hshort : t2.length < p.n
    ·refine wp_region_till (PtB b8 p) 14 (by kernel_rfl) ?_
     refine tP 0 (strV t2) rfl (fun W hW => exec_move rfl rfl) hS0 ?_;simp only [zz];refine tP 1 (.int .i64 (t2.length : Int)) rfl (fun W hW => exec_slen rfl rfl) hS0 ?_;simp only [zz];refine tP 2 (.pointer (some ⟨b8, 0, none⟩)) rfl (fun W hW => xF 0 0) hS0 ?_;simp only [zz]
     refine till_only (i := 3) (by kernel_rfl) rfl rfl ?_
     refine wp_run (v := .int .i64 (p.n : Int)) (w' := w5.drew) (xL (Blk.cell hS0 0)) ?_
     refine ⟨fun _ => hS0, ?_⟩
     simp only [zz]
     refine till_only (i := 4) (by kernel_rfl) rfl rfl ?_
     refine wp_run (v := .bool true) (w' := w5.drew) (exec_lss rfl rfl rfl (by omega)) ?_
     refine ⟨fun _ => hS0, ?_⟩
     simp only [zz]
     refine till_only (i := 5) (by kernel_rfl) rfl rfl ?_
     refine wp_run (v := .bool true) (w' := w5.drew) (exec_move rfl rfl) ?_
     refine ⟨fun _ => hS0, ?_⟩
     simp only [zz]
     refine till_pure (i := 6) (v := undef) rfl (by kernel_rfl) (by kernel_rfl) (fun _ _ _ h => h) (.inr ⟨by rfl, rfl⟩) hS0 ?_
     simp only [zz]
     refine till_pure (i := 7) (v := undef) rfl (by kernel_rfl) (by kernel_rfl) (fun _ _ _ h => h) (.inr ⟨by rfl, rfl⟩) hS0 ?_
     simp only [zz]
     refine till_pure (i := 8) (v := undef) rfl (by kernel_rfl) (by kernel_rfl) (fun _ _ _ h => h) (.inr ⟨by rfl, rfl⟩) hS0 ?_
     simp only [zz]
     refine till_pure (i := 9) (v := undef) rfl (by kernel_rfl) (by kernel_rfl) (fun _ _ _ h => h) (.inr ⟨by rfl, rfl⟩) hS0 ?_
     simp only [zz]
     refine till_pure (i := 10) (v := undef) rfl (by kernel_rfl) (by kernel_rfl) (fun _ _ _ h => h) (.inr ⟨by rfl, rfl⟩) hS0 ?_
     simp only [zz]
     refine till_pure (i := 11) (v := undef) rfl (by kernel_rfl) (by kernel_rfl) (fun _ _ _ h => h) (.inr ⟨by rfl, rfl⟩) hS0 ?_
     simp only [zz]
     refine till_pure (i := 12) (v := undef) rfl (by kernel_rfl) (by kernel_rfl) (fun _ _ _ h => h) (.inr ⟨by rfl, rfl⟩) hS0 ?_
     simp only [zz]
     refine till_pure (i := 13) (v := undef) rfl (by kernel_rfl) (by kernel_rfl) (fun _ _ _ h => h) (.inr ⟨by rfl, rfl⟩) hS0 ?_
     simp only [zz]
     refine till_tail 14 rfl (by kernel_rfl) ?_
     have HNO := zH (show Fm.right ⟨(kk : Int), (s : Int), (c : Int)⟩ t = false from by
      rw [HRT.out, ← HRC.out]
      unfold rightAll
      rw [decide_eq_false (by omega)]
      rfl)
     clear hshort
     go_wp2_with fail
     refine NoPanic.normal ?_
     go_wp2_with fail
     go_ret
     exact ⟨ret_bool HNO.out.symm, (HT1.out.next HTR.out).next HT5.out |>.drew⟩
    ·refine wp_region_till (PtB b8 p) 12 (by kernel_rfl) ?_
     refine tP 0 (strV t2) rfl (fun W hW => exec_move rfl rfl) hS0 ?_;simp only [zz];refine tP 1 (.int .i64 (t2.length : Int)) rfl (fun W hW => exec_slen rfl rfl) hS0 ?_;simp only [zz];refine tP 2 (.pointer (some ⟨b8, 0, none⟩)) rfl (fun W hW => xF 0 0) hS0 ?_;simp only [zz]
     refine till_only (i := 3) (by kernel_rfl) rfl rfl ?_
     refine wp_run (v := .int .i64 (p.n : Int)) (w' := w5.drew) (xL (Blk.cell hS0 0)) ?_
     refine ⟨fun _ => hS0, ?_⟩
     simp only [zz]
     refine till_only (i := 4) (by kernel_rfl) rfl rfl ?_
     refine wp_run (v := .bool false) (w' := w5.drew) (exec_nlss rfl rfl rfl (by omega)) ?_
     refine ⟨fun _ => hS0, ?_⟩
     simp only [zz]
     refine till_only (i := 5) (by kernel_rfl) rfl rfl ?_
     refine wp_run (v := .bool false) (w' := w5.drew) (exec_move rfl rfl) ?_
     refine ⟨fun _ => hS0, ?_⟩
     simp only [zz];refine tP 6 (strV t2) rfl (fun W hW => exec_move rfl rfl) hS0 ?_;simp only [zz];refine tP 7 (.pointer (some ⟨b8, 0, none⟩)) rfl (fun W hW => xF 0 0) hS0 ?_;simp only [zz];refine tP 10 (.pointer (some ⟨b8, 1, none⟩)) rfl (fun W hW => xF 0 1) hS0 ?_;simp only [zz]
     refine till_take2 9 (i := 8) (v := .int .i64 (p.n : Int)) rfl (by kernel_rfl) (by kernel_rfl) (fun _ _ _ h => h) (.inl ⟨by rfl, fun W hW => xL (Blk.cell hW 0)⟩) hS0 ?_
     simp only [zz];refine tU 11 (strV p.chars) rfl (fun W hW => xL (Blk.cell hW 1)) hS0 ?_;simp only [zz]
     have hle : p.n ≤ t2.length := by omega
     have HLE := zH hle
     refine till_only (i := 9) (by kernel_rfl) rfl rfl ?_
     refine wp_run (v := strV (t2.take p.n)) (w' := w5.drew) (exec_sto rfl rfl rfl hle) ?_
     refine ⟨fun _ => hS0, ?_⟩
     simp only [zz]
     clear hshort hle
     refine till_step (i := 12) (by kernel_rfl) rfl rfl ?_
     intro K1 HK1
     go_wp2_with fail
     refine (only_walk (t2.take p.n) p.chars (by have := HGD.out.ch; omega) HGD.out.asc _).mono ?_
     rintro e w6 ⟨rfl, ht6⟩
     have hS1 : PtB b8 p w6 := hS0.turn ht6 (fun e => e)
     refine HK1.out _ _ ⟨fun _ => hS1, ?_⟩
     clear HK1
     have HB6 := zH hS1
     have HT6 := zH ht6
     clear hS0 hS1 ht6
     have hrc : rightAll ps t = (onlyOf (t2.take p.n) p.chars && rightAll r (t2.drop p.n)) := by
      rw [← HRC.out]
      unfold rightAll
      rw [decide_eq_true HLE.out, Bool.true_and]
      cases r <;> rfl
     have HRC2 := zH hrc
     clear hrc
     refine till_tail 13 rfl (by kernel_rfl) ?_
     cases hon : onlyOf (t2.take p.n) p.chars with
     | false =>
       have HNO := zH (show Fm.right ⟨(kk : Int), (s : Int), (c : Int)⟩ t = false from by rw [HRT.out, HRC2.out, hon]; rfl)
       clear hon
       go_wp2_with fail
       refine NoPanic.normal ?_
       go_wp2_with fail
       go_ret
       exact ⟨ret_bool HNO.out.symm, (((HT1.out.next HTR.out).next HT5.out).drew).next HT6.out⟩
     | true =>
       have HYES := zH (show rightAll r (t2.drop p.n) = rightAll ps t from by rw [HRC2.out, hon]; rfl)
       clear hon
       go_wp2_with fail
       refine NoPanic.normal ?_
       go_upto_region 11 with fail
       refine wp_region_lit ?_
       refine wM (strV t2) ?_;simp only [zz];refine wS (.pointer (some ⟨b8, 0, none⟩)) (xF 0 0) ?_;simp only [zz];refine wS (.int .i64 (p.n : Int)) (xL (Blk.cell HB6.out 0)) ?_;simp only [zz]
       refine wR (v := strV (t2.drop p.n)) (w' := w6) rfl (exec_sfrom rfl rfl rfl HLE.out) ?_
       simp only [zz]
       go_wp2_with fail
       go_roundg (gk - 1)
       case measure => have := HKL.out; have := HLT.out; omega
       case rel => exact ⟨k + 1, t2.drop p.n, by have := HKL.out; have := HLT.out; omega, by go_num, rfl, by rw [HD.out.2.1]; exact HYES.out, ((HTR.out.next HT5.out).drew).next HT6.out⟩
   ·have hke : k = np := by have := HKL.out; omega
    have y1 : ¬ ((k : Int) < (np : Int)) := by omega
    clear hlt
    have hrr := HRR.out
    rw [List.drop_of_length_le (by rw [HNP.out, hke]; exact Nat.le_refl _)] at hrr
    have HEND := zH (show Fm.right ⟨(kk : Int), (s : Int), (c : Int)⟩ t = (t2 == []) from by rw [HRT.out, ← hrr]; rfl)
    clear hke hrr
    go_upto_region 13 with fail
    refine wp_region_lit ?_
    refine wM (strV t2) ?_;simp only [zz]
    refine wR (v := .bool (t2 == [])) (w' := wr) rfl (exec_seql (m := []) rfl rfl rfl) ?_
    simp only [zz]
    rw [← HEND.out]
    go_wp2_with fail
    go_ret
    exact ⟨rfl, HT1.out.next HTR.out⟩
theorem may_nat {f : Fm} (h : f.may = true) : ∃ k s c : Nat, f = ⟨(k : Int), (s : Int), (c : Int)⟩ ∧ (1 ≤ k ∧ k ≤ 5) ∧ (1 ≤ c ∧ c ≤ 3) ∧ (1 ≤ s ∧ s ≤ 64) := by
 obtain ⟨k, s, c⟩ := f
 simp only [Fm.may, Bool.and_eq_true, decide_eq_true_eq] at h
 obtain ⟨h1, h2, h3⟩ := h
 refine ⟨k.toNat, s.toNat, c.toNat, ?_, by omega, by omega, by omega⟩
 rw [Int.toNat_of_nonneg (by omega), Int.toNat_of_nonneg (by omega), Int.toNat_of_nonneg (by omega)]
theorem check_walk {w : World} {f : Fm} {t : List UInt8} (hr : RowsT w) :
 Calls Tryz.prog 82 #[fmV f, strV t] w fun e w' => e = .returned (.int .i64 (f.check t)) ∧ Turn nowhere w w' := by
 have HR := zH hr
 clear hr
 have HMW := zH (mayBe_walk f)
 have hrw : f.may = true → ∀ W, RowsT W → Calls Tryz.prog 108 #[fmV f, strV t] W fun e w' => e = .returned (.bool (f.right t)) ∧ Turn nowhere W w' := by
  intro h W hW
  obtain ⟨k, s, c, rfl, h1, h2, h3⟩ := may_nat h
  exact right_walk h1 h2 h3 hW
 have HRW := zH hrw
 have hch : f.check t = if f.may = true then if f.right t = true then 0 else 41 else 40 := rfl
 have HCH := zH hch
 clear hrw hch
 obtain ⟨fv, hfv⟩ : ∃ fv, fv = fmC f := ⟨_, rfl⟩
 have hv : fmV f = .agg fv := by rw [hfv]; rfl
 have hlf : ∀ W g, Blk W g 105 fv → (Instr.loadAt 105 (.pointer (some ⟨g, 0, none⟩))).run Tryz.prog W = .ok (.agg fv) W := by
  intro W g hb
  rw [← hv]
  rw [hfv] at hb
  exact load_blkForm hb
 have HLF := zH hlf
 have HV := zH hv
 rw [hv] at HMW HRW ⊢
 obtain ⟨x0, x1, x2, rfl⟩ : ∃ x0 x1 x2, fv = #[.int .i64 x0, .int .i64 x1, .int .i64 x2] := ⟨_, _, _, hfv⟩
 clear hlf hv hfv
 go_enter Tryz.func82, Tryz.ntmps82
 go_upto_region 1 with fail
 have hb0 := Blk.new w 105 #[.int .i64 x0, .int .i64 x1, .int .i64 x2]
 have ht0 := (Turn.refl nowhere w).alloc (.cells #[.int .i64 x0, .int .i64 x1, .int .i64 x2] 105)
 generalize (w.alloc (.cells #[.int .i64 x0, .int .i64 x1, .int .i64 x2] 105)) = w0 at *
 generalize w.heap.size = b2 at *
 refine wp_region_lit ?_
 refine wS (.agg #[.int .i64 x0, .int .i64 x1, .int .i64 x2]) (exec_load rfl rfl (HLF.out _ _ hb0)) ?_;simp only [zz]
 have HB0 := zH hb0
 have HT0 := zH ht0
 clear hb0 ht0
 cases hmay : f.may with
 | false =>
   rw [hmay] at HMW
   have HC := zH (show f.check t = 40 from by rw [HCH.out, hmay]; rfl)
   clear hmay
   go_wp2_with (go_at_call 107; refine (HMW.out _).mono ?_; rintro e w1 ⟨rfl, ht1⟩)
   go_ret
   exact ⟨ret_int HC.out.symm, HT0.out.next ht1⟩
 | true =>
   rw [hmay] at HMW
   have HC := zH (show f.check t = if f.right t = true then 0 else 41 from by rw [HCH.out, hmay]; rfl)
   have HMY := zH hmay
   clear hmay
   go_upto_region 3 with (go_at_call 107; refine (HMW.out _).mono ?_; rintro e w1 ⟨rfl, ht1⟩)
   have HT1 := zH (HT0.out.next ht1)
   have hb1 := HB0.out.turn ht1 (fun e => e)
   clear ht1
   refine wp_region_lit ?_
   refine wS (.agg #[.int .i64 x0, .int .i64 x1, .int .i64 x2]) (exec_load rfl rfl (HLF.out _ _ hb1)) ?_;simp only [zz]
   clear hb1
   have hcall := HRW.out HMY.out w1 (HR.out.turn HT1.out)
   cases hrt : f.right t with
   | false =>
     rw [hrt] at hcall
     have HC2 := zH (show f.check t = 41 from by rw [HC.out, hrt]; rfl)
     clear hrt
     go_wp2_with (go_at_call 108; refine hcall.mono ?_; rintro e w2 ⟨rfl, ht2⟩)
     go_ret
     exact ⟨ret_int HC2.out.symm, HT1.out.next ht2⟩
   | true =>
     rw [hrt] at hcall
     have HC2 := zH (show f.check t = 0 from by rw [HC.out, hrt]; rfl)
     clear hrt
     go_wp2_with (go_at_call 108; refine hcall.mono ?_; rintro e w2 ⟨rfl, ht2⟩)
     go_ret
     exact ⟨ret_int HC2.out.symm, HT1.out.next ht2⟩
theorem repeat_one (c : UInt8) : ∀ n, Lib.repeatL [c] n = List.replicate n c
 | 0 => rfl
 | n + 1 => by
   unfold Lib.repeatL
   rw [repeat_one c n]
   rfl
def digitsOf (n size : Int) : List UInt8 × Int :=
 if size < 1 ∨ 18 < size then ([], 40) else if n < 0 ∨ size < ((Lib.itoa n).length : Int) then ([], 41) else (List.replicate (size.toNat - (Lib.itoa n).length) 48 ++ Lib.itoa n, 0)
def ItoaAt (n : Int) (w : World) : Prop := Calls Tryz.prog 109 #[.int .i64 n] w fun e w' => e = .returned (strV (Lib.itoa n)) ∧ Turn nowhere w w'
theorem itoa_small (n : Nat) (h : n < 100) (w : World) : ItoaAt (n : Int) w := by
 refine (Any.strconv_Itoa_small Tryz.lays171 n h w).mono ?_
 rintro e w' ⟨rfl, rfl⟩
 refine ⟨?_, Turn.refl _ _⟩
 have : Lib.itoa (n : Int) = Lib.decDigits n := by
  unfold Lib.itoa
  rw [if_neg (by omega), Int.toNat_natCast]
 rw [this]
 rfl
theorem digits_walk (n size : Int) (w : World) (hi : ∀ W, Turn nowhere w W → ItoaAt n W) :
 Calls Tryz.prog 84 #[.int .i64 n, .int .i64 size] w fun e w' => e = .returned (.tuple #[strV (digitsOf n size).1, .int .i64 (digitsOf n size).2]) ∧ Turn nowhere w w' := by
 have HI := zH (hi w (Turn.refl _ _))
 clear hi
 have hdef : digitsOf n size = if size < 1 ∨ 18 < size then ([], 40) else if n < 0 ∨ size < ((Lib.itoa n).length : Int) then ([], 41) else (List.replicate (size.toNat - (Lib.itoa n).length) 48 ++ Lib.itoa n, 0) := rfl
 have HD := zH hdef
 clear hdef
 go_enter Tryz.func84, Tryz.ntmps84
 by_cases h1 : size < 1
 ·have HX := zH (show digitsOf n size = ([], 40) from by rw [HD.out, if_pos (.inl h1)])
  go_wp2_with fail
  go_ret2
  rw [HX.out]
  exact ⟨rfl, Turn.refl _ _⟩
 ·by_cases h2 : 18 < size
  ·have HX := zH (show digitsOf n size = ([], 40) from by rw [HD.out, if_pos (.inr h2)])
   go_wp2_with fail
   go_ret2
   rw [HX.out]
   exact ⟨rfl, Turn.refl _ _⟩
  ·have HX := zH (show digitsOf n size = if n < 0 ∨ size < ((Lib.itoa n).length : Int) then ([], 41) else (List.replicate (size.toNat - (Lib.itoa n).length) 48 ++ Lib.itoa n, 0) from by rw [HD.out, if_neg (by omega)])
   go_upto_region 4 with (go_at_call 109; refine HI.out.mono ?_; rintro e w1 ⟨rfl, ht⟩)
   have HT := zH ht
   clear ht HD
   generalize Lib.itoa n = dg at *
   unfold strV
   by_cases h3 : n < 0
   ·have HY := zH (show digitsOf n size = ([], 41) from by rw [HX.out, if_pos (.inl h3)])
    go_wp2_with fail
    go_ret2
    rw [HY.out]
    exact ⟨rfl, HT.out⟩
   ·by_cases h4 : size < (dg.length : Int)
    ·have HY := zH (show digitsOf n size = ([], 41) from by rw [HX.out, if_pos (.inr h4)])
     go_wp2_with fail
     go_ret2
     rw [HY.out]
     exact ⟨rfl, HT.out⟩
    ·have HY := zH (show digitsOf n size = (List.replicate (size.toNat - dg.length) 48 ++ dg, 0) from by rw [HX.out, if_neg (by omega)])
     go_upto_region 6 with fail
     refine wp_region_lit ?_
     refine wR (v := .int .i64 ((size.toNat : Nat) : Int)) (w' := w1) rfl (by rw [Int.toNat_of_nonneg (by omega)]; exact exec_move rfl rfl) ?_
     simp only [zz];refine wM (strV dg) ?_;simp only [zz]
     refine wR (v := .int .i64 (dg.length : Int)) (w' := w1) rfl (exec_slen rfl rfl) ?_
     simp only [zz]
     refine wR (v := .int .i64 ((size.toNat - dg.length : Nat) : Int)) (w' := w1) rfl (exec_sub rfl rfl rfl (by omega) (by omega)) ?_
     simp only [zz]
     have h5 : size.toNat - dg.length ≤ 18 := by omega
     have h6 : dg.length ≤ 18 := by omega
     have H6 := zH h6
     generalize size.toNat - dg.length = m at *
     have H5 := zH h5
     clear h3 h4 h5 h6
     have hrep : Calls Tryz.prog 110 #[.string ⟨#[48]⟩, .int .i64 (m : Int)] w1 fun e w' => e = .returned (strV (List.replicate m 48)) ∧ Below w1.heap.size w1 w' := by
      have h := Any.strings_Repeat Tryz.lays105 Tryz.Builder_Extra_105 ⟨#[48]⟩ m w1 (by have := H5.out; omega) (by have := H5.out; rw [show (ByteArray.mk #[48]).size = 1 from rfl]; omega)
      rw [show (ByteArray.mk #[48]).data.toList = [48] from rfl, repeat_one] at h
      exact h
     go_wp2_with (first
      | (go_at_call 110; refine hrep.mono ?_; rintro e w2 ⟨rfl, hb⟩)
      | (refine wR (v := strV (List.replicate m 48 ++ dg)) (w' := w2) rfl (exec_sadd (l := List.replicate m 48) (m := dg) rfl rfl rfl (by have := H5.out; have := H6.out; rw [List.length_replicate]; omega)) ?_))
     go_ret2
     rw [HY.out]
     exact ⟨rfl, HT.out.next (Turn.of_below hb (Nat.le_refl _))⟩
theorem byte_size : ∃ i, Tryz.prog.info? 5 = some i ∧ i.size = 1 := by
 have h := byteInfo
 cases hq : Tryz.prog.info? 5 with
 | none => rw [hq] at h; cases h
 | some i => exact ⟨i, rfl, by rw [hq] at h; simp at h; exact h.2.1⟩
theorem slice_to_any (A : Option Addr) (n c e : Nat) (h0 : e ≤ n) (hc : n ≤ c) (W : World) : (Instr.sliceAt 22 (.slice A n c) none (some (.int .i64 (e : Int))) none).run Tryz.prog W = .ok (.slice A e c) W := by
 obtain ⟨i, hi1, hi2⟩ := byte_size
 have b1 : (0 : Int) ≤ (e : Int) ∧ (e : Int) ≤ (c : Int) := ⟨by omega, by omega⟩
 have hu := Tryz.underlying22
 simp [Instr.sliceAt, Instr.slice, Instr.sliceBounds, Instr.sliceBound, asIntOf, run_underlying hu, sizeOf, typeInfo, hi1, b1]
 rw [if_pos (show e ≤ c by omega)]
 cases A <;> simp [Addr.add]
theorem build_form (z : Int) (W : World) : (Instr.build 105 #[(0, .int .i64 1), (1, .int .i64 2), (2, .int .i64 z)]).run Tryz.prog W = .ok (.agg #[.int .i64 1, .int .i64 2, .int .i64 z]) W := by kernel_rfl
theorem nums_walk (k s : Int) (c : Nat) (w : World) (hc : c < 4) (hr : RowsT w) :
 Calls Tryz.prog 115 #[fmV ⟨k, s, (c : Int)⟩] w fun e w' => ∃ g cap, e = .returned (.slice (some ⟨g, 0, none⟩) (ptsOf 1 (c : Int) 2).length cap) ∧ PtsAt w' g (ptsOf 1 (c : Int) 2) ∧ Turn nowhere w w' := by
 unfold fmV
 have HR := zH hr
 go_enter Tryz.func115, Tryz.ntmps115
 go_upto_region 1 with fail
 have hb0 := Blk.new w 105 #[.int .i64 k, .int .i64 s, .int .i64 (c : Int)]
 have ht0 := (Turn.refl nowhere w).alloc (.cells #[.int .i64 k, .int .i64 s, .int .i64 (c : Int)] 105)
 generalize (w.alloc (.cells #[.int .i64 k, .int .i64 s, .int .i64 (c : Int)] 105)) = w0 at *
 generalize w.heap.size = b2 at *
 refine wp_region_lit ?_
 refine wS (.pointer (some ⟨b2, 2, none⟩)) (xF 0 2) ?_;simp only [zz];refine wS (.int .i64 (c : Int)) (xL (hb0.cell 2)) ?_;simp only [zz];refine wS (.agg #[.int .i64 1, .int .i64 2, .int .i64 (c : Int)]) (exec_build3 rfl rfl rfl rfl (build_form _ _)) ?_;simp only [zz]
 have hpts := parts_walk 1 2 c 2 w0 (by decide) hc (by decide) (hr.turn ht0)
 generalize hps : ptsOf 1 (c : Int) 2 = ps at *
 have HPSE := zH hps
 have HT0 := zH ht0
 clear hb0 ht0 hr hps
 go_wp2_with (go_at_call 116; refine hpts.mono ?_; rintro e w1 ⟨g, cp, rfl, hp, ht1⟩)
 go_ret
 rw [HPSE.out]
 exact ⟨g, cp, rfl, hp, HT0.out.next ht1⟩
theorem clone_walk (A : Option Addr) (n c : Nat) (b : List UInt8) (w : World) (hb : Bs w A n b) (hn : n ≤ 140737488355328) :
 Calls Tryz.prog 113 #[.slice A n c] w fun e w' => ∃ A' n' c', e = .returned (.slice A' n' c') ∧ Own w' w.heap.size 5 (.slice A' n' c') b ∧ Turn nowhere w w' := by
 obtain ⟨h1, h2, h3⟩ := hb
 rcases A with _ | a
 ·have hn0 : n = 0 := by
   rcases Nat.eq_zero_or_pos n with h | h
   ·exact h
   ·obtain ⟨_, _, h4, _⟩ := h3 h
    cases h4
  have hbn : b = [] := List.eq_nil_of_length_eq_zero (by omega)
  subst hbn
  refine (Any.bytes_Clone_nil Tryz.laysSlK4 n c w).mono ?_
  rintro e w' ⟨rfl, rfl⟩
  exact ⟨none, 0, 0, rfl, World.ownsRow_nil w' _ _ _, Turn.refl _ _⟩
 ·refine (Any.bytes_Clone_at Tryz.laysSlK4 a n c (b.map fun x => (x.toNat : Int)) w (by rw [List.length_map, h1]) hn (fun i hi => ?_)).mono ?_
  ·obtain ⟨g, off, he, hc⟩ := h3 (by omega)
   injection he with he
   subst he
   rw [add_nat, hc i hi]
   rw [List.getD_eq_getElem?_getD, List.getD_eq_getElem?_getD, List.getElem?_map, List.getElem?_eq_getElem (by omega)]
   rfl
  ·rintro e w' ⟨v', rfl, hown, _, hbel⟩
   obtain ⟨A', c', rfl⟩ := own_form hown
   refine ⟨A', n, c', rfl, ?_, Turn.of_below hbel (Nat.le_refl _)⟩
   unfold Own bcs
   rw [h1]
   rw [List.map_map] at hown
   exact hown
theorem dig_one {n : Nat} (h : n < 10) : Lib.decDigits n = [UInt8.ofNat (48 + n)] := by rw [Lib.decDigits, dif_pos h]
theorem digits_two {n : Nat} (h : n ≤ 99) : digitsOf (n : Int) 2 = (two n, 0) := by
 have e : Lib.itoa (n : Int) = Lib.decDigits n := by
  unfold Lib.itoa
  rw [if_neg (by omega), Int.toNat_natCast]
 unfold digitsOf
 rw [if_neg (by omega), e]
 by_cases h1 : n < 10
 ·rw [dig_one h1, if_neg (by simp)]
  unfold two
  rw [show n / 10 = 0 from by omega, show n % 10 = n from by omega]
  rfl
 ·have e2 : Lib.decDigits n = [UInt8.ofNat (48 + n / 10), UInt8.ofNat (48 + n % 10)] := by
   rw [Lib.decDigits, dif_neg h1, dig_one (by omega)]
   rfl
  rw [e2, if_neg (by simp)]
  rfl
theorem num_size {c : Nat} (hc : 1 ≤ c ∧ c ≤ 3) : sizeAll (ptsOf 1 (c : Int) 2) ≤ 2 := by
 have hcc : c = 1 ∨ c = 2 ∨ c = 3 := by omega
 rcases hcc with rfl | rfl | rfl <;> decide
theorem pts_sum {k : Int} {c n : Nat} (hk : 1 ≤ k ∧ k ≤ 5) (hn : n ≤ 64) : ((ptsOf k (c : Int) n).map (·.n)).sum ≤ 130 := by
 unfold ptsOf
 split
 ·simp; omega
 ·split
  ·simp; omega
  ·split
   ·simp; omega
   ·simp; omega
theorem own_base {w : World} {B B' : Nat} {e : TypeId} {v : Value} {bs : List UInt8} (h : Own w B e v bs) (hB : B' ≤ B) : Own w B' e v bs := by
 refine ⟨h.1, ?_⟩
 rcases h.2 with h2 | ⟨g, cap, cur, rfl, h3, h4⟩
 ·exact .inl h2
 ·exact .inr ⟨g, cap, cur, rfl, Nat.le_trans hB h3, h4⟩
theorem Ext.fresh {w0 w w' : World} {B : Nat} {e : TypeId} {v v' : Value} {bs : List UInt8} (h : Ext w w' v v') (hown : Own w B e v bs) (ht : Turn nowhere w0 w) (hB : w0.heap.size ≤ B) : Turn nowhere w0 w' :=
 ht.trans h.tr fun k hk he => by
  have := (hown.lt k he.symm).1
  omega
theorem put_main {w : World} {kk s c n cap : Nat} {A : Option Addr} {b t : List UInt8} (hk : 1 ≤ kk ∧ kk ≤ 5) (hc : 1 ≤ c ∧ c ≤ 3) (hs : 1 ≤ s ∧ s ≤ 64) (hrt : (nf kk s c).right t = true) (hr : RowsT w) (hb : Bs w A n b) (hn : n ≤ 140737488351232) :
 Calls Tryz.prog 88 #[.slice A n cap, fmV (nf kk s c), strV t] w fun e w' => ∃ A' n' c', e = .returned (.tuple #[.slice A' n' c', .int .i64 0]) ∧ Own w' w.heap.size 5 (.slice A' n' c') (b ++ (nf kk s c).put t) ∧ Turn nowhere w w' := by
 have hck : (nf kk s c).check t = 0 := by
  unfold Fm.check
  rw [if_pos (may_nf hk hc hs), if_pos hrt]
 have hch : ∀ W, RowsT W → Calls Tryz.prog 82 #[fmV (nf kk s c), strV t] W fun e w' => e = .returned (.int .i64 0) ∧ Turn nowhere W w' := by
  intro W hW
  have h := check_walk (f := nf kk s c) (t := t) hW
  rw [hck] at h
  exact h
 have HCH := zH hch
 clear hch hck
 have HRT := zH hrt
 have HK := zH hk
 have HC := zH hc
 have HS := zH hs
 have HR := zH hr
 have HB := zH hb
 have HN := zH hn
 clear hr hrt hb hn
 unfold nf fmV at *
 go_enter Tryz.func88, Tryz.ntmps88
 go_upto_region 1 with fail
 have hb0 := Blk.new w 105 #[.int .i64 (kk : Int), .int .i64 (s : Int), .int .i64 (c : Int)]
 have ht0 := (Turn.refl nowhere w).alloc (.cells #[.int .i64 (kk : Int), .int .i64 (s : Int), .int .i64 (c : Int)] 105)
 generalize (w.alloc (.cells #[.int .i64 (kk : Int), .int .i64 (s : Int), .int .i64 (c : Int)] 105)) = w0 at *
 obtain ⟨b2, hb2⟩ : ∃ b2, b2 = w.heap.size := ⟨_, rfl⟩
 rw [← hb2] at hb0 ⊢
 have HB2 := zH hb2
 clear hb2
 refine wp_region_lit ?_
 refine wS (fmV ⟨(kk : Int), (s : Int), (c : Int)⟩) (exec_load rfl rfl (load_blkForm hb0)) ?_;simp only [zz]
 unfold fmV
 have HB0 := zH hb0
 have HT0 := zH ht0
 clear hb0 ht0
 go_upto_region 4 with (go_at_call 82; refine (HCH.out _ (HR.out.turn HT0.out)).mono ?_; rintro e w1 ⟨rfl, ht1⟩)
 have HT1 := zH (HT0.out.next ht1)
 have HB1 := zH (HB0.out.turn ht1 (fun e => e))
 clear ht1 HCH
 go_upto_region 5 with (go_at_call 113; refine (clone_walk A n cap b w1 (bs_turn HB.out HT1.out) (by have := HN.out; omega)).mono ?_; rintro e w3 ⟨A3, n3, c3, rfl, hown3, ht3⟩)
 have HO3 := zH hown3
 have HT3 := zH (HT1.out.next ht3)
 have hb3 := HB1.out.turn ht3 (fun e => e)
 have HB3 := zH hb3
 have HSZ := zH (show w.heap.size ≤ w1.heap.size from HT1.out.size)
 have HSZ3 := zH (show w1.heap.size ≤ w3.heap.size from ht3.size)
 have HBL := zH HB.out.1
 have c0 : w3.cell? ⟨b2, 0, none⟩ = some (.int .i64 (kk : Int)) := hb3.cell 0
 have c1 : w3.cell? ⟨b2, 1, none⟩ = some (.int .i64 (s : Int)) := hb3.cell 1
 clear hown3 ht3 hb3
 by_cases hk2 : kk = 2
 ·have y0 : ((kk : Int) == 2) = true := by simp; omega
  have HK2 := zH hk2
  have hrr := HRT.out
  have hpp : Fm.put ⟨(kk : Int), (s : Int), (c : Int)⟩ t = encAll (ptsOf 1 (c : Int) 2) (two t.length) ++ encAll (ptsOf (kk : Int) (c : Int) t.length) t := by
   rw [hk2]
   rfl
  have hrr2 : (1 ≤ t.length ∧ t.length ≤ s) ∧ rightAll (ptsOf (kk : Int) (c : Int) t.length) t = true := by
   rw [hk2] at hrr ⊢
   exact ll_right hrr
  have HPP := zH hpp
  have HRR := zH hrr2
  have HTW := zH (two_ok (n := t.length) (by have := hrr2.1; omega))
  clear hk2 hk hrr hpp hrr2 HRT
  go_upto_region 7 with fail
  refine wp_region_lit ?_
  refine wM (strV t) ?_;simp only [zz]
  refine wR (v := .int .i64 (t.length : Int)) (w' := w3) rfl (exec_slen rfl rfl) ?_
  simp only [zz]
  have hdw := digits_walk (t.length : Int) 2 w3 (fun W _ => itoa_small t.length (by have := HRR.out.1; omega) W)
  rw [digits_two (by have := HRR.out.1; omega)] at hdw
  have HTL := zH (show t.length ≤ 64 from by have := HRR.out.1; omega)
  obtain ⟨m, hm⟩ : ∃ m, m = t.length := ⟨_, rfl⟩
  rw [← hm] at hdw ⊢
  have HM := zH hm
  clear hm c0 c1
  go_upto_region 9 with (go_at_call 84; refine hdw.mono ?_; rintro e w4 ⟨rfl, ht4⟩)
  have HT4 := zH ht4
  have hb4 := HB3.out.turn ht4 (fun e => e)
  clear hdw ht4
  refine wp_region_lit ?_
  refine wM (.slice A3 n3 c3) ?_;simp only [zz];refine wS (fmV ⟨(kk : Int), (s : Int), (c : Int)⟩) (exec_load rfl rfl (load_blkForm hb4)) ?_;simp only [zz]
  have hnw := nums_walk (kk : Int) (s : Int) c w4 (by have := HC.out; omega) (HR.out.turn (HT3.out.next HT4.out))
  have HNW := zH hnw
  have HB4 := zH hb4
  unfold fmV at *
  clear hnw hb4
  have HPL := zH (pts_len 1 c 2)
  have HGD := zH (pts_good (k := 1) (n := 2) (by decide) HC.out (by decide))
  have HRN := zH ((num_right (c : Int) (two m)).2 ⟨rfl, by rw [HM.out]; exact HTW.out.2⟩)
  generalize hps : ptsOf 1 (c : Int) 2 = ps at *
  have HPSE := zH hps
  clear hps
  go_wp2_with (go_at_call 115; refine HNW.out.mono ?_; rintro e w5 ⟨g5, cp5, rfl, hp5, ht5⟩)
  have HT5 := zH ht5
  have hput := put_walk (cp := cp5) hp5 rfl HGD.out HRN.out (own_turn HO3.out (HT4.out.next ht5)) (Nat.le_trans HSZ3.out (HT4.out.next ht5).size) (by have h1 := HBL.out; have h2 := HN.out; rw [two_len]; omega) (by rw [two_len]; omega) (by have := HPL.out; omega)
  clear hp5 ht5
  have HPUT := zH hput
  clear hput
  go_upto_region 10 with (go_at_call 114; refine HPUT.out.mono ?_; rintro e w6 ⟨A6, n6, c6, rfl, hown6, hext6⟩)
  have HO6 := zH hown6
  have HT6 := zH (hext6.fresh (own_turn HO3.out (HT4.out.next HT5.out)) ((HT3.out.next HT4.out).next HT5.out) HSZ.out)
  have hb6 := Blk.ext (HB4.out.turn HT5.out (fun e => e)) hext6 (row_ne (own_turn HO3.out (HT4.out.next HT5.out)) (HB4.out.turn HT5.out (fun e => e)) (by decide))
  have HS6 := zH (show w1.heap.size ≤ w6.heap.size from Nat.le_trans HSZ3.out (Nat.le_trans (HT4.out.next HT5.out).size hext6.tr.size))
  clear hown6 hext6 HPUT HNW HPL HGD HRN
  rw [HPSE.out.symm] at HO6
  have hlenA := enc_all (ptsOf 1 (c : Int) 2) (two t.length) [] (pts_gm HC.out) ((num_right _ _).2 ⟨rfl, HTW.out.2⟩)
  have HLA := zH (show (encAll (ptsOf 1 (c : Int) 2) (two m)).length ≤ 2 from by rw [HM.out, hlenA.1]; exact num_size HC.out)
  clear hlenA
  refine wp_region_lit ?_
  refine wM (.slice A6 n6 c6) ?_;simp only [zz];refine wS (fmV ⟨(kk : Int), (s : Int), (c : Int)⟩) (exec_load rfl rfl (load_blkForm hb6)) ?_;simp only [zz];refine wM (.int .i64 (m : Int)) ?_;simp only [zz]
  have HPW := zH (parts_walk (kk : Int) (s : Int) c m w6 (by have := HK.out; omega) (by have := HC.out; omega) (by have := And.intro HRR.out.1 HM.out; omega) (HR.out.turn HT6.out))
  have HPL2 := zH (pts_len (kk : Int) c m)
  have HGD2 := zH (pts_good (k := (kk : Int)) (n := m) (by have := HK.out; omega) HC.out (by have := And.intro HRR.out.1 HM.out; omega))
  have HR2 := zH (show rightAll (ptsOf (kk : Int) (c : Int) m) t = true from by rw [HM.out]; exact HRR.out.2)
  have HTL2 := zH (show t.length ≤ 130 from by
   have h := right_len _ _ HR2.out
   rw [h]
   exact pts_sum (by have := HK.out; omega) (by have := And.intro HRR.out.1 HM.out; omega))
  unfold fmV
  generalize hps2 : ptsOf (kk : Int) (c : Int) m = ps2 at *
  have HPS2 := zH hps2
  clear hps2
  go_upto_region 99 with (first
   | (
    go_at_call 116
    refine HPW.out.mono ?_
    rintro e w7 ⟨g7, cp7, rfl, hp7, ht7⟩
    have HT7 := zH ht7
    have HP7 := zH hp7
    clear ht7 hp7)
   | (
    go_at_call 114
    refine (put_walk (cp := cp7) HP7.out rfl HGD2.out HR2.out (own_turn HO6.out HT7.out) (Nat.le_trans HS6.out HT7.out.size) (by have h1 := HTL2.out; have h2 := HBL.out; have h3 := HN.out; have h4 := HLA.out; rw [List.length_append]; omega) (by have := HTL2.out; omega) (by have := HPL2.out; omega)).mono ?_
    rintro e w8 ⟨A8, n8, c8, rfl, hown8, hext8⟩
    have HO9 := zH hown8
    have HT9 := zH (hext8.fresh (own_turn HO6.out HT7.out) (HT6.out.next HT7.out) HSZ.out)
    clear hown8 hext8))
  go_ret2
  refine ⟨A8, n8, c8, rfl, own_base ?_ HSZ.out, HT9.out⟩
  have h9 := HO9.out
  rw [← HPS2.out, List.append_assoc, HM.out, HPSE.out] at h9
  rw [HPP.out]
  exact h9
 ·have y0 : ((kk : Int) == 2) = false := by simp; omega
  have hrr := HRT.out
  have HPP := zH (show Fm.put ⟨(kk : Int), (s : Int), (c : Int)⟩ t = encAll (ptsOf (kk : Int) (c : Int) s) t from put_nl (k := kk) (s := s) (c := c) hk2)
  have HRR := zH (show rightAll (ptsOf (kk : Int) (c : Int) s) t = true from by rw [← right_nl (k := kk) (s := s) (c := c) (t := t) hk2]; exact hrr)
  clear hk2 hk hrr HRT
  go_upto_region 10 with fail
  refine wp_region_lit ?_
  refine wM (.slice A3 n3 c3) ?_;simp only [zz];refine wS (fmV ⟨(kk : Int), (s : Int), (c : Int)⟩) (exec_load rfl rfl (load_blkForm HB3.out)) ?_;simp only [zz];refine wM (.int .i64 (s : Int)) ?_;simp only [zz]
  have HPW := zH (parts_walk (kk : Int) (s : Int) c s w3 (by have := HK.out; omega) (by have := HC.out; omega) (by have := HS.out; omega) (HR.out.turn HT3.out))
  have HPL2 := zH (pts_len (kk : Int) c s)
  have HGD2 := zH (pts_good (k := (kk : Int)) (n := s) (by have := HK.out; omega) HC.out (by have := HS.out; omega))
  have HR2 := zH (show rightAll (ptsOf (kk : Int) (c : Int) s) t = true from HRR.out)
  have HTL2 := zH (show t.length ≤ 130 from by
   have h := right_len _ _ HR2.out
   rw [h]
   exact pts_sum (by have := HK.out; omega) (by have := HS.out; omega))
  unfold fmV
  generalize hps2 : ptsOf (kk : Int) (c : Int) s = ps2 at *
  have HPS2 := zH hps2
  clear hps2
  go_upto_region 99 with (first
   | (
    go_at_call 116
    refine HPW.out.mono ?_
    rintro e w7 ⟨g7, cp7, rfl, hp7, ht7⟩
    have HT7 := zH ht7
    have HP7 := zH hp7
    clear ht7 hp7)
   | (
    go_at_call 114
    refine (put_walk (cp := cp7) HP7.out rfl HGD2.out HR2.out (own_turn HO3.out HT7.out) (Nat.le_trans HSZ3.out HT7.out.size) (by have h1 := HTL2.out; have h2 := HBL.out; have h3 := HN.out; omega) (by have := HTL2.out; omega) (by have := HPL2.out; omega)).mono ?_
    rintro e w8 ⟨A8, n8, c8, rfl, hown8, hext8⟩
    have HO9 := zH hown8
    have HT9 := zH (hext8.fresh (own_turn HO3.out HT7.out) (HT3.out.next HT7.out) HSZ.out)
    clear hown8 hext8))
  go_ret2
  refine ⟨A8, n8, c8, rfl, own_base ?_ HSZ.out, HT9.out⟩
  have h9 := HO9.out
  rw [HPP.out]
  exact h9
theorem put_bad {w : World} {f : Fm} {n cap : Nat} {A : Option Addr} {t : List UInt8} (hck : f.check t ≠ 0) (hr : RowsT w) :
 Calls Tryz.prog 88 #[.slice A n cap, fmV f, strV t] w fun e w' => e = .returned (.tuple #[.slice none 0 0, .int .i64 (f.check t)]) ∧ Turn nowhere w w' := by
 have HR := zH hr
 have hcw : ∀ W, RowsT W → Calls Tryz.prog 82 #[fmV f, strV t] W fun e w' => e = .returned (.int .i64 (f.check t)) ∧ Turn nowhere W w' := fun W hW => check_walk hW
 have y0 : (f.check t == 0) = false := by simpa using hck
 generalize f.check t = ck at *
 have HCW := zH hcw
 clear hr hcw hck
 obtain ⟨k, s, c⟩ := f
 unfold fmV at *
 go_enter Tryz.func88, Tryz.ntmps88
 go_upto_region 1 with fail
 have hb0 := Blk.new w 105 #[.int .i64 k, .int .i64 s, .int .i64 c]
 have ht0 := (Turn.refl nowhere w).alloc (.cells #[.int .i64 k, .int .i64 s, .int .i64 c] 105)
 generalize (w.alloc (.cells #[.int .i64 k, .int .i64 s, .int .i64 c] 105)) = w0 at *
 generalize w.heap.size = b2 at *
 refine wp_region_lit ?_
 refine wS (fmV ⟨k, s, c⟩) (exec_load rfl rfl (load_blkForm hb0)) ?_;simp only [zz]
 unfold fmV
 have HT0 := zH ht0
 clear hb0 ht0
 go_wp2_with (go_at_call 82; refine (HCW.out _ (HR.out.turn HT0.out)).mono ?_; rintro e w1 ⟨rfl, ht1⟩)
 go_ret2
 exact ⟨rfl, HT0.out.next ht1⟩
theorem build_any (x y z : Int) (W : World) : (Instr.build 105 #[(0, .int .i64 x), (1, .int .i64 y), (2, .int .i64 z)]).run Tryz.prog W = .ok (.agg #[.int .i64 x, .int .i64 y, .int .i64 z]) W := by kernel_rfl
theorem own_bs {w : World} {B n c : Nat} {A : Option Addr} {bs : List UInt8} (h : Own w B 5 (.slice A n c) bs) : Bs w A n bs ∧ n ≤ c ∧ (A = none → c = 0) := by
 obtain ⟨A', n', c', hf, h1, h2, h3⟩ := h.form
 injection hf with e1 e2 e3
 subst e1 e2 e3
 exact ⟨h1, h2, h3⟩
theorem fm_exp {f : Fm} (h : f.may = true) : ∃ k s c : Nat, f = nf k s c ∧ (1 ≤ k ∧ k ≤ 5) ∧ (1 ≤ c ∧ c ≤ 3) ∧ (1 ≤ s ∧ s ≤ 64) := Fdd.may_form h
theorem check_cases {f : Fm} {t : List UInt8} (h : f.check t = 0) : f.may = true ∧ f.right t = true := by
 unfold Fm.check at h
 split at h
 ·rename_i hm
  split at h
  ·rename_i hr
   exact ⟨hm, hr⟩
  ·cases h
 ·cases h
theorem put_small {f : Fm} {a : List UInt8} (ha : f.check a = 0) : (f.put a).length ≤ 1000 := by
 obtain ⟨hm, hra⟩ := check_cases ha
 obtain ⟨k, s, c, rfl, h1, h2, h3⟩ := fm_exp hm
 rw [fm_len h2 h3 hra]
 have key : ∀ (kk : Int) (n : Nat), n ≤ 64 → sizeAll (ptsOf kk (c : Int) n) ≤ 400 := by
  intro kk n hn
  have hb : ∀ p : Pt, p.size ≤ p.n + 1 := by
   intro p
   unfold Pt.size
   split <;> omega
  unfold ptsOf
  split
  ·have := hb ⟨n, sgn, (rws (c : Int).toNat).s⟩
   simp only [sizeAll]
   dsimp only at this
   omega
  ·split
   ·have := hb ⟨2 * n, hexs, (rws (c : Int).toNat).h⟩
    simp only [sizeAll]
    dsimp only at this
    omega
   ·split
    ·have h4 := hb ⟨1, mk, (rws (c : Int).toNat).m⟩
     have h5 := hb ⟨n, dec, (rws (c : Int).toNat).d⟩
     simp only [sizeAll]
     dsimp only at h4 h5
     omega
    ·have := hb ⟨n, dec, (rws (c : Int).toNat).d⟩
     simp only [sizeAll]
     dsimp only at this
     omega
 by_cases hk : k = 2
 ·rw [if_pos hk]
  subst hk
  have hl := (ll_right hra).1
  have e1 := key 1 2 (by omega)
  have e2 := key 2 a.length (by omega)
  omega
 ·rw [if_neg hk]
  have := key (k : Int) s (by omega)
  omega
def putR (f : Fm) (t b : List UInt8) : List UInt8 := if f.check t = 0 then b ++ f.put t else []
def PutPost (w : World) (f : Fm) (t b : List UInt8) (e : Ending) (w' : World) : Prop := ∃ A n c, e = .returned (.tuple #[.slice A n c, .int .i64 (f.check t)]) ∧ Own w' w.heap.size 5 (.slice A n c) (putR f t b) ∧ Turn nowhere w w'
theorem put_all {w : World} {f : Fm} {n cap : Nat} {A : Option Addr} {b t : List UInt8} (hr : RowsT w) (hb : Bs w A n b) (hn : n ≤ 140737488351232) :
 Calls Tryz.prog 88 #[.slice A n cap, fmV f, strV t] w (PutPost w f t b) := by
 by_cases h : f.check t = 0
 ·obtain ⟨hm, hrt⟩ := check_cases h
  obtain ⟨k, s, c, rfl, h1, h2, h3⟩ := fm_exp hm
  refine (put_main (cap := cap) h1 h2 h3 hrt hr hb (by omega)).mono ?_
  rintro e w' ⟨A', n', c', rfl, ho, ht⟩
  refine ⟨A', n', c', by rw [h], ?_, ht⟩
  unfold putR
  rw [if_pos h]
  exact ho
 ·refine (put_bad (cap := cap) (n := n) (A := A) h hr).mono ?_
  rintro e w' ⟨rfl, ht⟩
  refine ⟨none, 0, 0, rfl, ?_, ht⟩
  unfold putR
  rw [if_neg h]
  exact World.ownsRow_nil w' _ _ _
end Go.Proofs.YtkagijifkpoplaaGreatDoor
