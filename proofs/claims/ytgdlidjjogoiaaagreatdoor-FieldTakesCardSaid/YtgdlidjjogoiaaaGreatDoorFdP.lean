/-
  field's Put and Take. Conditions: the rows read as the program's text lays them.
-/
import Derived.Test.YtgdlidjjogoiaaaGreatDoorFdO
import Derived.Test.YtgdlidjjogoiaaaGreatDoorFdR
namespace Go.Proofs.YtgdlidjjogoiaaaGreatDoor
open Go.RowKit
open Fdd
set_option linter.unusedVariables false
theorem build_form (z : Int) (W : World) : (Instr.build 24 #[(0, .int .i64 1), (1, .int .i64 2), (2, .int .i64 z)]).run Tryz.prog W = .ok (.agg #[.int .i64 1, .int .i64 2, .int .i64 z]) W := by kernel_rfl
theorem nums_walk (k s : Int) (c : Nat) (w : World) (hc : c < 4) (hr : RowsT w) :
    Calls Tryz.prog 17 #[fmV ⟨k, s, (c : Int)⟩] w fun e w' => ∃ g cap, e = .returned (.slice (some ⟨g, 0, none⟩) (ptsOf 1 (c : Int) 2).length cap) ∧ PtsAt w' g (ptsOf 1 (c : Int) 2) ∧ Turn nowhere w w' := by
  unfold fmV
  have HR := Lib.hid hr
  go_enter Tryz.func17, Tryz.ntmps17
  go_upto_region 1 with fail
  have hb0 := Blk.new w 24 #[.int .i64 k, .int .i64 s, .int .i64 (c : Int)]
  have ht0 := (Turn.refl nowhere w).alloc (.cells #[.int .i64 k, .int .i64 s, .int .i64 (c : Int)] 24)
  generalize (w.alloc (.cells #[.int .i64 k, .int .i64 s, .int .i64 (c : Int)] 24)) = w0 at *
  generalize w.heap.size = b2 at *
  refine wp_region_lit ?_
  refine wpList_run (v := .pointer (some ⟨b2, 2, none⟩)) rfl (exec_field (off := 0) (d := 2) rfl rfl (by kernel_rfl)) ?_
  simp only [Act.put, List.setIfInBounds_toArray, List.set_cons_zero, List.set_cons_succ]
  refine wpList_run (v := .int .i64 (c : Int)) rfl (exec_load1 rfl rfl (by kernel_rfl) (hb0.cell 2)) ?_
  simp only [Act.put, List.setIfInBounds_toArray, List.set_cons_zero, List.set_cons_succ]
  refine wpList_run (v := .agg #[.int .i64 1, .int .i64 2, .int .i64 (c : Int)]) rfl (exec_build3 rfl rfl rfl rfl (build_form _ _)) ?_
  simp only [Act.put, List.setIfInBounds_toArray, List.set_cons_zero, List.set_cons_succ]
  have hpts := parts_walk 1 2 c 2 w0 (by decide) hc (by decide) (hr.turn ht0)
  generalize hps : ptsOf 1 (c : Int) 2 = ps at *
  have HPSE := Lib.hid hps
  have HT0 := Lib.hid ht0
  clear hb0 ht0 hr hps
  go_wp2_with (go_at_call 18; refine hpts.mono ?_; rintro e w1 ⟨g, cp, rfl, hp, ht1⟩)
  go_ret
  rw [HPSE.out]
  exact ⟨g, cp, rfl, hp, HT0.out.trans ht1 (fun _ _ e => e)⟩
theorem clone_walk (A : Option Addr) (n c : Nat) (b : List UInt8) (w : World) (hb : Bs w A n b) (hn : n ≤ 140737488355328) :
    Calls Tryz.prog 15 #[.slice A n c] w fun e w' => ∃ A' n' c', e = .returned (.slice A' n' c') ∧ Own w' w.heap.size 5 (.slice A' n' c') b ∧ Turn nowhere w w' := by
  obtain ⟨h1, h2, h3⟩ := hb
  rcases A with _ | a
  · have hn0 : n = 0 := by
      rcases Nat.eq_zero_or_pos n with h | h
      · exact h
      · obtain ⟨_, _, h4, _⟩ := h3 h
        cases h4
    have hbn : b = [] := List.eq_nil_of_length_eq_zero (by omega)
    subst hbn
    refine (Any.bytes_Clone_nil Tryz.laysSlK4 n c w).mono ?_
    rintro e w' ⟨rfl, rfl⟩
    exact ⟨none, 0, 0, rfl, World.ownsRow_nil w' _ _ _, Turn.refl _ _⟩
  · refine (Any.bytes_Clone_at Tryz.laysSlK4 a n c (b.map fun x => (x.toNat : Int)) w (by rw [List.length_map, h1]) hn (fun i hi => ?_)).mono ?_
    · obtain ⟨g, off, he, hc⟩ := h3 (by omega)
      injection he with he
      subst he
      rw [add_nat, hc i hi]
      rw [List.getD_eq_getElem?_getD, List.getD_eq_getElem?_getD, List.getElem?_map, List.getElem?_eq_getElem (by omega)]
      rfl
    · rintro e w' ⟨v', rfl, hown, _, hbel⟩
      obtain ⟨A', c', rfl⟩ := own_form hown
      refine ⟨A', n, c', rfl, ?_, Turn.of_below hbel (Nat.le_refl _)⟩
      unfold Own bcs
      rw [h1]
      rw [List.map_map] at hown
      exact hown
theorem dig_one {n : Nat} (h : n < 10) : Lib.decDigits n = [UInt8.ofNat (48 + n)] := by rw [Lib.decDigits, dif_pos h]
theorem digits_two {n : Nat} (h : n ≤ 99) : digitsOf (n : Int) 2 = (two n, 0) := by
  have e : Lib.itoa (n : Int) = Lib.decDigits n := by
    unfold Lib.itoa
    rw [if_neg (by omega), Int.toNat_natCast]
  unfold digitsOf
  rw [if_neg (by omega), e]
  by_cases h1 : n < 10
  · rw [dig_one h1, if_neg (by simp)]
    unfold two
    rw [show n / 10 = 0 from by omega, show n % 10 = n from by omega]
    rfl
  · have e2 : Lib.decDigits n = [UInt8.ofNat (48 + n / 10), UInt8.ofNat (48 + n % 10)] := by
      rw [Lib.decDigits, dif_neg h1, dig_one (by omega)]
      rfl
    rw [e2, if_neg (by simp)]
    rfl
theorem num_size {c : Nat} (hc : 1 ≤ c ∧ c ≤ 3) : sizeAll (ptsOf 1 (c : Int) 2) ≤ 2 := by
  have hcc : c = 1 ∨ c = 2 ∨ c = 3 := by omega
  rcases hcc with rfl | rfl | rfl <;> decide
theorem pts_sum {k : Int} {c n : Nat} (hk : 1 ≤ k ∧ k ≤ 5) (hn : n ≤ 64) : ((ptsOf k (c : Int) n).map (·.n)).sum ≤ 130 := by
  unfold ptsOf
  split
  · simp; omega
  · split
    · simp; omega
    · split
      · simp; omega
      · simp; omega
theorem own_base {w : World} {B B' : Nat} {e : TypeId} {v : Value} {bs : List UInt8} (h : Own w B e v bs) (hB : B' ≤ B) : Own w B' e v bs := by
  refine ⟨h.1, ?_⟩
  rcases h.2 with h2 | ⟨g, cap, cur, rfl, h3, h4⟩
  · exact .inl h2
  · exact .inr ⟨g, cap, cur, rfl, Nat.le_trans hB h3, h4⟩
/-- what one owns turns, and it is new -/
theorem Ext.fresh {w0 w w' : World} {B : Nat} {e : TypeId} {v v' : Value} {bs : List UInt8} (h : Ext w w' v v') (hown : Own w B e v bs) (ht : Turn nowhere w0 w) (hB : w0.heap.size ≤ B) : Turn nowhere w0 w' :=
  ht.trans h.tr fun k hk he => by
    have := (hown.lt k he.symm).1
    omega
set_option maxRecDepth 20000 in
set_option maxHeartbeats 2000000 in
theorem put_main {w : World} {kk s c n cap : Nat} {A : Option Addr} {b t : List UInt8} (hk : 1 ≤ kk ∧ kk ≤ 5) (hc : 1 ≤ c ∧ c ≤ 3) (hs : 1 ≤ s ∧ s ≤ 64) (hrt : (nf kk s c).right t = true) (hr : RowsT w) (hb : Bs w A n b) (hn : n ≤ 140737488351232) :
    Calls Tryz.prog 6 #[.slice A n cap, fmV (nf kk s c), strV t] w fun e w' => ∃ A' n' c', e = .returned (.tuple #[.slice A' n' c', .int .i64 0]) ∧ Own w' w.heap.size 5 (.slice A' n' c') (b ++ (nf kk s c).put t) ∧ Turn nowhere w w' := by
  have hck : (nf kk s c).check t = 0 := by
    unfold Fm.check
    rw [if_pos (may_nf hk hc hs), if_pos hrt]
  have hch : ∀ W, RowsT W → Calls Tryz.prog 8 #[fmV (nf kk s c), strV t] W fun e w' => e = .returned (.int .i64 0) ∧ Turn nowhere W w' := by
    intro W hW
    have h := check_walk (f := nf kk s c) (t := t) hW
    rw [hck] at h
    exact h
  have HCH := Lib.hid hch
  clear hch hck
  have HRT := Lib.hid hrt
  have HK := Lib.hid hk
  have HC := Lib.hid hc
  have HS := Lib.hid hs
  have HR := Lib.hid hr
  have HB := Lib.hid hb
  have HN := Lib.hid hn
  clear hr hrt hb hn
  unfold nf fmV at *
  go_enter Tryz.func6, Tryz.ntmps6
  go_upto_region 1 with fail
  have hb0 := Blk.new w 24 #[.int .i64 (kk : Int), .int .i64 (s : Int), .int .i64 (c : Int)]
  have ht0 := (Turn.refl nowhere w).alloc (.cells #[.int .i64 (kk : Int), .int .i64 (s : Int), .int .i64 (c : Int)] 24)
  generalize (w.alloc (.cells #[.int .i64 (kk : Int), .int .i64 (s : Int), .int .i64 (c : Int)] 24)) = w0 at *
  obtain ⟨b2, hb2⟩ : ∃ b2, b2 = w.heap.size := ⟨_, rfl⟩
  rw [← hb2] at hb0 ⊢
  have HB2 := Lib.hid hb2
  clear hb2
  refine wp_region_lit ?_
  refine wpList_run (v := fmV ⟨(kk : Int), (s : Int), (c : Int)⟩) rfl (exec_load rfl rfl (load_blkForm hb0)) ?_
  simp only [Act.put, List.setIfInBounds_toArray, List.set_cons_zero, List.set_cons_succ]
  unfold fmV
  have HB0 := Lib.hid hb0
  have HT0 := Lib.hid ht0
  clear hb0 ht0
  go_upto_region 4 with (go_at_call 8; refine (HCH.out _ (HR.out.turn HT0.out)).mono ?_; rintro e w1 ⟨rfl, ht1⟩)
  have HT1 := Lib.hid (HT0.out.trans ht1 (fun _ _ e => e))
  have HB1 := Lib.hid (HB0.out.turn ht1 (fun e => e))
  clear ht1 HCH
  go_upto_region 5 with (go_at_call 15; refine (clone_walk A n cap b w1 (bs_turn HB.out HT1.out) (by have := HN.out; omega)).mono ?_; rintro e w3 ⟨A3, n3, c3, rfl, hown3, ht3⟩)
  have HO3 := Lib.hid hown3
  have HT3 := Lib.hid (HT1.out.trans ht3 (fun _ _ e => e))
  have hb3 := HB1.out.turn ht3 (fun e => e)
  have HB3 := Lib.hid hb3
  have HSZ := Lib.hid (show w.heap.size ≤ w1.heap.size from HT1.out.size)
  have HSZ3 := Lib.hid (show w1.heap.size ≤ w3.heap.size from ht3.size)
  have HBL := Lib.hid HB.out.1
  have c0 : w3.cell? ⟨b2, 0, none⟩ = some (.int .i64 (kk : Int)) := hb3.cell 0
  have c1 : w3.cell? ⟨b2, 1, none⟩ = some (.int .i64 (s : Int)) := hb3.cell 1
  clear hown3 ht3 hb3
  by_cases hk2 : kk = 2
  · have y0 : ((kk : Int) == 2) = true := by simp; omega
    have HK2 := Lib.hid hk2
    have hrr := HRT.out
    have hpp : Fm.put ⟨(kk : Int), (s : Int), (c : Int)⟩ t = encAll (ptsOf 1 (c : Int) 2) (two t.length) ++ encAll (ptsOf (kk : Int) (c : Int) t.length) t := by
      rw [hk2]
      rfl
    have hrr2 : (1 ≤ t.length ∧ t.length ≤ s) ∧ rightAll (ptsOf (kk : Int) (c : Int) t.length) t = true := by
      rw [hk2] at hrr ⊢
      exact ll_right hrr
    have HPP := Lib.hid hpp
    have HRR := Lib.hid hrr2
    have HTW := Lib.hid (two_ok (n := t.length) (by have := hrr2.1; omega))
    clear hk2 hk hrr hpp hrr2 HRT
    go_upto_region 7 with fail
    refine wp_region_lit ?_
    refine wpList_run (v := strV t) rfl (exec_move rfl rfl) ?_
    simp only [Act.put, List.setIfInBounds_toArray, List.set_cons_zero, List.set_cons_succ]
    refine wpList_run (v := .int .i64 (t.length : Int)) (w' := w3) rfl (exec_slen rfl rfl) ?_
    simp only [Act.put, List.setIfInBounds_toArray, List.set_cons_zero, List.set_cons_succ]
    have hdw := digits_walk (t.length : Int) 2 w3 (fun W _ => itoa_small t.length (by have := HRR.out.1; omega) W)
    rw [digits_two (by have := HRR.out.1; omega)] at hdw
    have HTL := Lib.hid (show t.length ≤ 64 from by have := HRR.out.1; omega)
    obtain ⟨m, hm⟩ : ∃ m, m = t.length := ⟨_, rfl⟩
    rw [← hm] at hdw ⊢
    have HM := Lib.hid hm
    clear hm c0 c1
    go_upto_region 9 with (go_at_call 13; refine hdw.mono ?_; rintro e w4 ⟨rfl, ht4⟩)
    have HT4 := Lib.hid ht4
    have hb4 := HB3.out.turn ht4 (fun e => e)
    clear hdw ht4
    refine wp_region_lit ?_
    refine wpList_run (v := .slice A3 n3 c3) rfl (exec_move rfl rfl) ?_
    simp only [Act.put, List.setIfInBounds_toArray, List.set_cons_zero, List.set_cons_succ]
    refine wpList_run (v := fmV ⟨(kk : Int), (s : Int), (c : Int)⟩) rfl (exec_load rfl rfl (load_blkForm hb4)) ?_
    simp only [Act.put, List.setIfInBounds_toArray, List.set_cons_zero, List.set_cons_succ]
    have hnw := nums_walk (kk : Int) (s : Int) c w4 (by have := HC.out; omega) (HR.out.turn (HT3.out.trans HT4.out (fun _ _ e => e)))
    have HNW := Lib.hid hnw
    have HB4 := Lib.hid hb4
    unfold fmV at *
    clear hnw hb4
    have HPL := Lib.hid (pts_len 1 c 2)
    have HGD := Lib.hid (pts_good (k := 1) (n := 2) (by decide) HC.out (by decide))
    have HRN := Lib.hid ((num_right (c : Int) (two m)).2 ⟨rfl, by rw [HM.out]; exact HTW.out.2⟩)
    generalize hps : ptsOf 1 (c : Int) 2 = ps at *
    have HPSE := Lib.hid hps
    clear hps
    go_wp2_with (go_at_call 17; refine HNW.out.mono ?_; rintro e w5 ⟨g5, cp5, rfl, hp5, ht5⟩)
    have HT5 := Lib.hid ht5
    have hput := put_walk (cp := cp5) hp5 rfl HGD.out HRN.out (own_turn HO3.out (HT4.out.trans ht5 (fun _ _ e => e))) (Nat.le_trans HSZ3.out (HT4.out.trans ht5 (fun _ _ e => e)).size) (by have h1 := HBL.out; have h2 := HN.out; rw [two_len]; omega) (by rw [two_len]; omega) (by have := HPL.out; omega)
    clear hp5 ht5
    have HPUT := Lib.hid hput
    clear hput
    go_upto_region 10 with (go_at_call 16; refine HPUT.out.mono ?_; rintro e w6 ⟨A6, n6, c6, rfl, hown6, hext6⟩)
    have HO6 := Lib.hid hown6
    have HT6 := Lib.hid (hext6.fresh (own_turn HO3.out (HT4.out.trans HT5.out (fun _ _ e => e))) ((HT3.out.trans HT4.out (fun _ _ e => e)).trans HT5.out (fun _ _ e => e)) HSZ.out)
    have hb6 := Blk.ext (HB4.out.turn HT5.out (fun e => e)) hext6 (row_ne (own_turn HO3.out (HT4.out.trans HT5.out (fun _ _ e => e))) (HB4.out.turn HT5.out (fun e => e)) (by decide))
    have HS6 := Lib.hid (show w1.heap.size ≤ w6.heap.size from Nat.le_trans HSZ3.out (Nat.le_trans (HT4.out.trans HT5.out (fun _ _ e => e)).size hext6.tr.size))
    clear hown6 hext6 HPUT HNW HPL HGD HRN
    rw [HPSE.out.symm] at HO6
    have hlenA := enc_all (ptsOf 1 (c : Int) 2) (two t.length) [] (pts_gm HC.out) ((num_right _ _).2 ⟨rfl, HTW.out.2⟩)
    have HLA := Lib.hid (show (encAll (ptsOf 1 (c : Int) 2) (two m)).length ≤ 2 from by rw [HM.out, hlenA.1]; exact num_size HC.out)
    clear hlenA
    refine wp_region_lit ?_
    refine wpList_run (v := .slice A6 n6 c6) rfl (exec_move rfl rfl) ?_
    simp only [Act.put, List.setIfInBounds_toArray, List.set_cons_zero, List.set_cons_succ]
    refine wpList_run (v := fmV ⟨(kk : Int), (s : Int), (c : Int)⟩) rfl (exec_load rfl rfl (load_blkForm hb6)) ?_
    simp only [Act.put, List.setIfInBounds_toArray, List.set_cons_zero, List.set_cons_succ]
    refine wpList_run (v := .int .i64 (m : Int)) rfl (exec_move rfl rfl) ?_
    simp only [Act.put, List.setIfInBounds_toArray, List.set_cons_zero, List.set_cons_succ]
    have HPW := Lib.hid (parts_walk (kk : Int) (s : Int) c m w6 (by have := HK.out; omega) (by have := HC.out; omega) (by have := And.intro HRR.out.1 HM.out; omega) (HR.out.turn HT6.out))
    have HPL2 := Lib.hid (pts_len (kk : Int) c m)
    have HGD2 := Lib.hid (pts_good (k := (kk : Int)) (n := m) (by have := HK.out; omega) HC.out (by have := And.intro HRR.out.1 HM.out; omega))
    have HR2 := Lib.hid (show rightAll (ptsOf (kk : Int) (c : Int) m) t = true from by rw [HM.out]; exact HRR.out.2)
    have HTL2 := Lib.hid (show t.length ≤ 130 from by
      have h := right_len _ _ HR2.out
      rw [h]
      exact pts_sum (by have := HK.out; omega) (by have := And.intro HRR.out.1 HM.out; omega))
    unfold fmV
    generalize hps2 : ptsOf (kk : Int) (c : Int) m = ps2 at *
    have HPS2 := Lib.hid hps2
    clear hps2
    go_upto_region 99 with (first
      | (go_at_call 18
         refine HPW.out.mono ?_
         rintro e w7 ⟨g7, cp7, rfl, hp7, ht7⟩
         have HT7 := Lib.hid ht7
         have HP7 := Lib.hid hp7
         clear ht7 hp7)
      | (go_at_call 16
         refine (put_walk (cp := cp7) HP7.out rfl HGD2.out HR2.out (own_turn HO6.out HT7.out) (Nat.le_trans HS6.out HT7.out.size) (by have h1 := HTL2.out; have h2 := HBL.out; have h3 := HN.out; have h4 := HLA.out; rw [List.length_append]; omega) (by have := HTL2.out; omega) (by have := HPL2.out; omega)).mono ?_
         rintro e w8 ⟨A8, n8, c8, rfl, hown8, hext8⟩
         have HO9 := Lib.hid hown8
         have HT9 := Lib.hid (hext8.fresh (own_turn HO6.out HT7.out) (HT6.out.trans HT7.out (fun _ _ e => e)) HSZ.out)
         clear hown8 hext8))
    go_ret2
    refine ⟨A8, n8, c8, rfl, own_base ?_ HSZ.out, HT9.out⟩
    have h9 := HO9.out
    rw [← HPS2.out, List.append_assoc, HM.out, HPSE.out] at h9
    rw [HPP.out]
    exact h9
  · have y0 : ((kk : Int) == 2) = false := by simp; omega
    have hrr := HRT.out
    have HPP := Lib.hid (show Fm.put ⟨(kk : Int), (s : Int), (c : Int)⟩ t = encAll (ptsOf (kk : Int) (c : Int) s) t from put_nl (k := kk) (s := s) (c := c) hk2)
    have HRR := Lib.hid (show rightAll (ptsOf (kk : Int) (c : Int) s) t = true from by rw [← right_nl (k := kk) (s := s) (c := c) (t := t) hk2]; exact hrr)
    clear hk2 hk hrr HRT
    go_upto_region 10 with fail
    refine wp_region_lit ?_
    refine wpList_run (v := .slice A3 n3 c3) rfl (exec_move rfl rfl) ?_
    simp only [Act.put, List.setIfInBounds_toArray, List.set_cons_zero, List.set_cons_succ]
    refine wpList_run (v := fmV ⟨(kk : Int), (s : Int), (c : Int)⟩) rfl (exec_load rfl rfl (load_blkForm HB3.out)) ?_
    simp only [Act.put, List.setIfInBounds_toArray, List.set_cons_zero, List.set_cons_succ]
    refine wpList_run (v := .int .i64 (s : Int)) rfl (exec_move rfl rfl) ?_
    simp only [Act.put, List.setIfInBounds_toArray, List.set_cons_zero, List.set_cons_succ]
    have HPW := Lib.hid (parts_walk (kk : Int) (s : Int) c s w3 (by have := HK.out; omega) (by have := HC.out; omega) (by have := HS.out; omega) (HR.out.turn HT3.out))
    have HPL2 := Lib.hid (pts_len (kk : Int) c s)
    have HGD2 := Lib.hid (pts_good (k := (kk : Int)) (n := s) (by have := HK.out; omega) HC.out (by have := HS.out; omega))
    have HR2 := Lib.hid (show rightAll (ptsOf (kk : Int) (c : Int) s) t = true from HRR.out)
    have HTL2 := Lib.hid (show t.length ≤ 130 from by
      have h := right_len _ _ HR2.out
      rw [h]
      exact pts_sum (by have := HK.out; omega) (by have := HS.out; omega))
    unfold fmV
    generalize hps2 : ptsOf (kk : Int) (c : Int) s = ps2 at *
    have HPS2 := Lib.hid hps2
    clear hps2
    go_upto_region 99 with (first
      | (go_at_call 18
         refine HPW.out.mono ?_
         rintro e w7 ⟨g7, cp7, rfl, hp7, ht7⟩
         have HT7 := Lib.hid ht7
         have HP7 := Lib.hid hp7
         clear ht7 hp7)
      | (go_at_call 16
         refine (put_walk (cp := cp7) HP7.out rfl HGD2.out HR2.out (own_turn HO3.out HT7.out) (Nat.le_trans HSZ3.out HT7.out.size) (by have h1 := HTL2.out; have h2 := HBL.out; have h3 := HN.out; omega) (by have := HTL2.out; omega) (by have := HPL2.out; omega)).mono ?_
         rintro e w8 ⟨A8, n8, c8, rfl, hown8, hext8⟩
         have HO9 := Lib.hid hown8
         have HT9 := Lib.hid (hext8.fresh (own_turn HO3.out HT7.out) (HT3.out.trans HT7.out (fun _ _ e => e)) HSZ.out)
         clear hown8 hext8))
    go_ret2
    refine ⟨A8, n8, c8, rfl, own_base ?_ HSZ.out, HT9.out⟩
    have h9 := HO9.out
    rw [HPP.out]
    exact h9
end Go.Proofs.YtgdlidjjogoiaaaGreatDoor
