/-
  Texts in one file: FdL FdM FdO FdP FdS FdT FdU FdVa FdW FdPc MsFld MsMa. Conditions: the tables and the errors read as the program's text lays them.
-/
import Derived.Test.YtfnillibngijaaaGreatDoorJB16
import Derived.Test.YtfnillibngijaaaGreatDoorJB10
import Derived.Deep.Upon
import Derived.Test.YtfnillibngijaaaGreatDoorJB1
namespace Go.Proofs.YtfnillibngijaaaGreatDoor
open Go.RowKit
open Fdd
set_option linter.unusedVariables false
theorem repeat_one (c : UInt8) : ∀ n, Lib.repeatL [c] n = List.replicate n c
  | 0 => rfl
  | n + 1 => by
    unfold Lib.repeatL
    rw [repeat_one c n]
    rfl
def digitsOf (n size : Int) : List UInt8 × Int :=
  if size < 1 ∨ 18 < size then ([], 40) else if n < 0 ∨ size < ((Lib.itoa n).length : Int) then ([], 41) else (List.replicate (size.toNat - (Lib.itoa n).length) 48 ++ Lib.itoa n, 0)
/-- strconv.Itoa answers so -/
def ItoaAt (n : Int) (w : World) : Prop := Calls Tryz.prog 77 #[.int .i64 n] w fun e w' => e = .returned (strV (Lib.itoa n)) ∧ Turn nowhere w w'
theorem itoa_small (n : Nat) (h : n < 100) (w : World) : ItoaAt (n : Int) w := by
  refine (Any.strconv_Itoa_small Tryz.lays171 n h w).mono ?_
  rintro e w' ⟨rfl, rfl⟩
  refine ⟨?_, Turn.refl _ _⟩
  have : Lib.itoa (n : Int) = Lib.decDigits n := by
    unfold Lib.itoa
    rw [if_neg (by omega), Int.toNat_natCast]
  rw [this]
  rfl
theorem digits_walk (n size : Int) (w : World) (hi : ∀ W, Turn nowhere w W → ItoaAt n W) :
    Calls Tryz.prog 61 #[.int .i64 n, .int .i64 size] w fun e w' => e = .returned (.tuple #[strV (digitsOf n size).1, .int .i64 (digitsOf n size).2]) ∧ Turn nowhere w w' := by
  have HI := Lib.hid (hi w (Turn.refl _ _))
  clear hi
  have hdef : digitsOf n size = if size < 1 ∨ 18 < size then ([], 40) else if n < 0 ∨ size < ((Lib.itoa n).length : Int) then ([], 41) else (List.replicate (size.toNat - (Lib.itoa n).length) 48 ++ Lib.itoa n, 0) := rfl
  have HD := Lib.hid hdef
  clear hdef
  go_enter Tryz.func61, Tryz.ntmps61
  by_cases h1 : size < 1
  · have HX := Lib.hid (show digitsOf n size = ([], 40) from by rw [HD.out, if_pos (.inl h1)])
    go_wp2_with fail
    go_ret2
    rw [HX.out]
    exact ⟨rfl, Turn.refl _ _⟩
  · by_cases h2 : 18 < size
    · have HX := Lib.hid (show digitsOf n size = ([], 40) from by rw [HD.out, if_pos (.inr h2)])
      go_wp2_with fail
      go_ret2
      rw [HX.out]
      exact ⟨rfl, Turn.refl _ _⟩
    · have HX := Lib.hid (show digitsOf n size = if n < 0 ∨ size < ((Lib.itoa n).length : Int) then ([], 41) else (List.replicate (size.toNat - (Lib.itoa n).length) 48 ++ Lib.itoa n, 0) from by rw [HD.out, if_neg (by omega)])
      go_upto_region 4 with (go_at_call 77; refine HI.out.mono ?_; rintro e w1 ⟨rfl, ht⟩)
      have HT := Lib.hid ht
      clear ht HD
      generalize Lib.itoa n = dg at *
      unfold strV
      by_cases h3 : n < 0
      · have HY := Lib.hid (show digitsOf n size = ([], 41) from by rw [HX.out, if_pos (.inl h3)])
        go_wp2_with fail
        go_ret2
        rw [HY.out]
        exact ⟨rfl, HT.out⟩
      · by_cases h4 : size < (dg.length : Int)
        · have HY := Lib.hid (show digitsOf n size = ([], 41) from by rw [HX.out, if_pos (.inr h4)])
          go_wp2_with fail
          go_ret2
          rw [HY.out]
          exact ⟨rfl, HT.out⟩
        · have HY := Lib.hid (show digitsOf n size = (List.replicate (size.toNat - dg.length) 48 ++ dg, 0) from by rw [HX.out, if_neg (by omega)])
          go_upto_region 6 with fail
          refine wp_region_lit ?_
          refine wpList_run (v := .int .i64 ((size.toNat : Nat) : Int)) (w' := w1) rfl (by rw [Int.toNat_of_nonneg (by omega)]; exact exec_move rfl rfl) ?_
          simp only [Act.put, List.setIfInBounds_toArray, List.set_cons_zero, List.set_cons_succ]
          refine wpList_run (v := strV dg) rfl (exec_move rfl rfl) ?_
          simp only [Act.put, List.setIfInBounds_toArray, List.set_cons_zero, List.set_cons_succ]
          refine wpList_run (v := .int .i64 (dg.length : Int)) (w' := w1) rfl (exec_slen rfl rfl) ?_
          simp only [Act.put, List.setIfInBounds_toArray, List.set_cons_zero, List.set_cons_succ]
          refine wpList_run (v := .int .i64 ((size.toNat - dg.length : Nat) : Int)) (w' := w1) rfl (exec_sub rfl rfl rfl (by omega) (by omega)) ?_
          simp only [Act.put, List.setIfInBounds_toArray, List.set_cons_zero, List.set_cons_succ]
          have h5 : size.toNat - dg.length ≤ 18 := by omega
          have h6 : dg.length ≤ 18 := by omega
          have H6 := Lib.hid h6
          generalize size.toNat - dg.length = m at *
          have H5 := Lib.hid h5
          clear h3 h4 h5 h6
          have hrep : Calls Tryz.prog 78 #[.string ⟨#[48]⟩, .int .i64 (m : Int)] w1 fun e w' => e = .returned (strV (List.replicate m 48)) ∧ Below w1.heap.size w1 w' := by
            have h := Any.strings_Repeat Tryz.lays105 Tryz.Builder_Extra_105 ⟨#[48]⟩ m w1 (by have := H5.out; omega) (by have := H5.out; rw [show (ByteArray.mk #[48]).size = 1 from rfl]; omega)
            rw [show (ByteArray.mk #[48]).data.toList = [48] from rfl, repeat_one] at h
            exact h
          go_wp2_with (first
            | (go_at_call 78; refine hrep.mono ?_; rintro e w2 ⟨rfl, hb⟩)
            | (refine wpList_run (v := strV (List.replicate m 48 ++ dg)) (w' := w2) rfl (exec_sadd (l := List.replicate m 48) (m := dg) rfl rfl rfl (by have := H5.out; have := H6.out; rw [List.length_replicate]; omega)) ?_))
          go_ret2
          rw [HY.out]
          exact ⟨rfl, HT.out.trans (Turn.of_below hb (Nat.le_refl _)) (fun _ _ e => e)⟩
end Go.Proofs.YtfnillibngijaaaGreatDoor
namespace Go.Proofs.YtfnillibngijaaaGreatDoor
open Go.RowKit
open Fdd
set_option linter.unusedVariables false
end Go.Proofs.YtfnillibngijaaaGreatDoor
namespace Go.Proofs.YtfnillibngijaaaGreatDoor
open Go.RowKit
open Fdd
set_option linter.unusedVariables false
end Go.Proofs.YtfnillibngijaaaGreatDoor
namespace Go.Proofs.YtfnillibngijaaaGreatDoor
open Go.RowKit
open Fdd
set_option linter.unusedVariables false
theorem build_form (z : Int) (W : World) : (Instr.build 104 #[(0, .int .i64 1), (1, .int .i64 2), (2, .int .i64 z)]).run Tryz.prog W = .ok (.agg #[.int .i64 1, .int .i64 2, .int .i64 z]) W := by kernel_rfl
theorem nums_walk (k s : Int) (c : Nat) (w : World) (hc : c < 4) (hr : RowsT w) :
    Calls Tryz.prog 83 #[fmV ⟨k, s, (c : Int)⟩] w fun e w' => ∃ g cap, e = .returned (.slice (some ⟨g, 0, none⟩) (ptsOf 1 (c : Int) 2).length cap) ∧ PtsAt w' g (ptsOf 1 (c : Int) 2) ∧ Turn nowhere w w' := by
  unfold fmV
  have HR := Lib.hid hr
  go_enter Tryz.func83, Tryz.ntmps83
  go_upto_region 1 with fail
  have hb0 := Blk.new w 104 #[.int .i64 k, .int .i64 s, .int .i64 (c : Int)]
  have ht0 := (Turn.refl nowhere w).alloc (.cells #[.int .i64 k, .int .i64 s, .int .i64 (c : Int)] 104)
  generalize (w.alloc (.cells #[.int .i64 k, .int .i64 s, .int .i64 (c : Int)] 104)) = w0 at *
  generalize w.heap.size = b2 at *
  refine wp_region_lit ?_
  refine wpList_run (v := .pointer (some ⟨b2, 2, none⟩)) rfl (exec_field (off := 0) (d := 2) rfl rfl (by kernel_rfl)) ?_
  simp only [Act.put, List.setIfInBounds_toArray, List.set_cons_zero, List.set_cons_succ]
  refine wpList_run (v := .int .i64 (c : Int)) rfl (exec_load1 rfl rfl (by kernel_rfl) (hb0.cell 2)) ?_
  simp only [Act.put, List.setIfInBounds_toArray, List.set_cons_zero, List.set_cons_succ]
  refine wpList_run (v := .agg #[.int .i64 1, .int .i64 2, .int .i64 (c : Int)]) rfl (exec_build3 rfl rfl rfl rfl (build_form _ _)) ?_
  simp only [Act.put, List.setIfInBounds_toArray, List.set_cons_zero, List.set_cons_succ]
  have hpts := parts_walk 1 2 c 2 w0 (by decide) hc (by decide) (hr.turn ht0)
  generalize hps : ptsOf 1 (c : Int) 2 = ps at *
  have HPSE := Lib.hid hps
  have HT0 := Lib.hid ht0
  clear hb0 ht0 hr hps
  go_wp2_with (go_at_call 84; refine hpts.mono ?_; rintro e w1 ⟨g, cp, rfl, hp, ht1⟩)
  go_ret
  rw [HPSE.out]
  exact ⟨g, cp, rfl, hp, HT0.out.trans ht1 (fun _ _ e => e)⟩
theorem clone_walk (A : Option Addr) (n c : Nat) (b : List UInt8) (w : World) (hb : Bs w A n b) (hn : n ≤ 140737488355328) :
    Calls Tryz.prog 81 #[.slice A n c] w fun e w' => ∃ A' n' c', e = .returned (.slice A' n' c') ∧ Own w' w.heap.size 5 (.slice A' n' c') b ∧ Turn nowhere w w' := by
  obtain ⟨h1, h2, h3⟩ := hb
  rcases A with _ | a
  · have hn0 : n = 0 := by
      rcases Nat.eq_zero_or_pos n with h | h
      · exact h
      · obtain ⟨_, _, h4, _⟩ := h3 h
        cases h4
    have hbn : b = [] := List.eq_nil_of_length_eq_zero (by omega)
    subst hbn
    refine (Any.bytes_Clone_nil Tryz.laysSlK4 n c w).mono ?_
    rintro e w' ⟨rfl, rfl⟩
    exact ⟨none, 0, 0, rfl, World.ownsRow_nil w' _ _ _, Turn.refl _ _⟩
  · refine (Any.bytes_Clone_at Tryz.laysSlK4 a n c (b.map fun x => (x.toNat : Int)) w (by rw [List.length_map, h1]) hn (fun i hi => ?_)).mono ?_
    · obtain ⟨g, off, he, hc⟩ := h3 (by omega)
      injection he with he
      subst he
      rw [add_nat, hc i hi]
      rw [List.getD_eq_getElem?_getD, List.getD_eq_getElem?_getD, List.getElem?_map, List.getElem?_eq_getElem (by omega)]
      rfl
    · rintro e w' ⟨v', rfl, hown, _, hbel⟩
      obtain ⟨A', c', rfl⟩ := own_form hown
      refine ⟨A', n, c', rfl, ?_, Turn.of_below hbel (Nat.le_refl _)⟩
      unfold Own bcs
      rw [h1]
      rw [List.map_map] at hown
      exact hown
theorem dig_one {n : Nat} (h : n < 10) : Lib.decDigits n = [UInt8.ofNat (48 + n)] := by rw [Lib.decDigits, dif_pos h]
theorem digits_two {n : Nat} (h : n ≤ 99) : digitsOf (n : Int) 2 = (two n, 0) := by
  have e : Lib.itoa (n : Int) = Lib.decDigits n := by
    unfold Lib.itoa
    rw [if_neg (by omega), Int.toNat_natCast]
  unfold digitsOf
  rw [if_neg (by omega), e]
  by_cases h1 : n < 10
  · rw [dig_one h1, if_neg (by simp)]
    unfold two
    rw [show n / 10 = 0 from by omega, show n % 10 = n from by omega]
    rfl
  · have e2 : Lib.decDigits n = [UInt8.ofNat (48 + n / 10), UInt8.ofNat (48 + n % 10)] := by
      rw [Lib.decDigits, dif_neg h1, dig_one (by omega)]
      rfl
    rw [e2, if_neg (by simp)]
    rfl
theorem num_size {c : Nat} (hc : 1 ≤ c ∧ c ≤ 3) : sizeAll (ptsOf 1 (c : Int) 2) ≤ 2 := by
  have hcc : c = 1 ∨ c = 2 ∨ c = 3 := by omega
  rcases hcc with rfl | rfl | rfl <;> decide
theorem pts_sum {k : Int} {c n : Nat} (hk : 1 ≤ k ∧ k ≤ 5) (hn : n ≤ 64) : ((ptsOf k (c : Int) n).map (·.n)).sum ≤ 130 := by
  unfold ptsOf
  split
  · simp; omega
  · split
    · simp; omega
    · split
      · simp; omega
      · simp; omega
theorem own_base {w : World} {B B' : Nat} {e : TypeId} {v : Value} {bs : List UInt8} (h : Own w B e v bs) (hB : B' ≤ B) : Own w B' e v bs := by
  refine ⟨h.1, ?_⟩
  rcases h.2 with h2 | ⟨g, cap, cur, rfl, h3, h4⟩
  · exact .inl h2
  · exact .inr ⟨g, cap, cur, rfl, Nat.le_trans hB h3, h4⟩
/-- what one owns turns, and it is new -/
theorem Ext.fresh {w0 w w' : World} {B : Nat} {e : TypeId} {v v' : Value} {bs : List UInt8} (h : Ext w w' v v') (hown : Own w B e v bs) (ht : Turn nowhere w0 w) (hB : w0.heap.size ≤ B) : Turn nowhere w0 w' :=
  ht.trans h.tr fun k hk he => by
    have := (hown.lt k he.symm).1
    omega
set_option maxRecDepth 20000 in
set_option maxHeartbeats 2000000 in
theorem put_main {w : World} {kk s c n cap : Nat} {A : Option Addr} {b t : List UInt8} (hk : 1 ≤ kk ∧ kk ≤ 5) (hc : 1 ≤ c ∧ c ≤ 3) (hs : 1 ≤ s ∧ s ≤ 64) (hrt : (nf kk s c).right t = true) (hr : RowsT w) (hb : Bs w A n b) (hn : n ≤ 140737488351232) :
    Calls Tryz.prog 65 #[.slice A n cap, fmV (nf kk s c), strV t] w fun e w' => ∃ A' n' c', e = .returned (.tuple #[.slice A' n' c', .int .i64 0]) ∧ Own w' w.heap.size 5 (.slice A' n' c') (b ++ (nf kk s c).put t) ∧ Turn nowhere w w' := by
  have hck : (nf kk s c).check t = 0 := by
    unfold Fm.check
    rw [if_pos (may_nf hk hc hs), if_pos hrt]
  have hch : ∀ W, RowsT W → Calls Tryz.prog 59 #[fmV (nf kk s c), strV t] W fun e w' => e = .returned (.int .i64 0) ∧ Turn nowhere W w' := by
    intro W hW
    have h := check_walk (f := nf kk s c) (t := t) hW
    rw [hck] at h
    exact h
  have HCH := Lib.hid hch
  clear hch hck
  have HRT := Lib.hid hrt
  have HK := Lib.hid hk
  have HC := Lib.hid hc
  have HS := Lib.hid hs
  have HR := Lib.hid hr
  have HB := Lib.hid hb
  have HN := Lib.hid hn
  clear hr hrt hb hn
  unfold nf fmV at *
  go_enter Tryz.func65, Tryz.ntmps65
  go_upto_region 1 with fail
  have hb0 := Blk.new w 104 #[.int .i64 (kk : Int), .int .i64 (s : Int), .int .i64 (c : Int)]
  have ht0 := (Turn.refl nowhere w).alloc (.cells #[.int .i64 (kk : Int), .int .i64 (s : Int), .int .i64 (c : Int)] 104)
  generalize (w.alloc (.cells #[.int .i64 (kk : Int), .int .i64 (s : Int), .int .i64 (c : Int)] 104)) = w0 at *
  obtain ⟨b2, hb2⟩ : ∃ b2, b2 = w.heap.size := ⟨_, rfl⟩
  rw [← hb2] at hb0 ⊢
  have HB2 := Lib.hid hb2
  clear hb2
  refine wp_region_lit ?_
  refine wpList_run (v := fmV ⟨(kk : Int), (s : Int), (c : Int)⟩) rfl (exec_load rfl rfl (load_blkForm hb0)) ?_
  simp only [Act.put, List.setIfInBounds_toArray, List.set_cons_zero, List.set_cons_succ]
  unfold fmV
  have HB0 := Lib.hid hb0
  have HT0 := Lib.hid ht0
  clear hb0 ht0
  go_upto_region 4 with (go_at_call 59; refine (HCH.out _ (HR.out.turn HT0.out)).mono ?_; rintro e w1 ⟨rfl, ht1⟩)
  have HT1 := Lib.hid (HT0.out.trans ht1 (fun _ _ e => e))
  have HB1 := Lib.hid (HB0.out.turn ht1 (fun e => e))
  clear ht1 HCH
  go_upto_region 5 with (go_at_call 81; refine (clone_walk A n cap b w1 (bs_turn HB.out HT1.out) (by have := HN.out; omega)).mono ?_; rintro e w3 ⟨A3, n3, c3, rfl, hown3, ht3⟩)
  have HO3 := Lib.hid hown3
  have HT3 := Lib.hid (HT1.out.trans ht3 (fun _ _ e => e))
  have hb3 := HB1.out.turn ht3 (fun e => e)
  have HB3 := Lib.hid hb3
  have HSZ := Lib.hid (show w.heap.size ≤ w1.heap.size from HT1.out.size)
  have HSZ3 := Lib.hid (show w1.heap.size ≤ w3.heap.size from ht3.size)
  have HBL := Lib.hid HB.out.1
  have c0 : w3.cell? ⟨b2, 0, none⟩ = some (.int .i64 (kk : Int)) := hb3.cell 0
  have c1 : w3.cell? ⟨b2, 1, none⟩ = some (.int .i64 (s : Int)) := hb3.cell 1
  clear hown3 ht3 hb3
  by_cases hk2 : kk = 2
  · have y0 : ((kk : Int) == 2) = true := by simp; omega
    have HK2 := Lib.hid hk2
    have hrr := HRT.out
    have hpp : Fm.put ⟨(kk : Int), (s : Int), (c : Int)⟩ t = encAll (ptsOf 1 (c : Int) 2) (two t.length) ++ encAll (ptsOf (kk : Int) (c : Int) t.length) t := by
      rw [hk2]
      rfl
    have hrr2 : (1 ≤ t.length ∧ t.length ≤ s) ∧ rightAll (ptsOf (kk : Int) (c : Int) t.length) t = true := by
      rw [hk2] at hrr ⊢
      exact ll_right hrr
    have HPP := Lib.hid hpp
    have HRR := Lib.hid hrr2
    have HTW := Lib.hid (two_ok (n := t.length) (by have := hrr2.1; omega))
    clear hk2 hk hrr hpp hrr2 HRT
    go_upto_region 7 with fail
    refine wp_region_lit ?_
    refine wpList_run (v := strV t) rfl (exec_move rfl rfl) ?_
    simp only [Act.put, List.setIfInBounds_toArray, List.set_cons_zero, List.set_cons_succ]
    refine wpList_run (v := .int .i64 (t.length : Int)) (w' := w3) rfl (exec_slen rfl rfl) ?_
    simp only [Act.put, List.setIfInBounds_toArray, List.set_cons_zero, List.set_cons_succ]
    have hdw := digits_walk (t.length : Int) 2 w3 (fun W _ => itoa_small t.length (by have := HRR.out.1; omega) W)
    rw [digits_two (by have := HRR.out.1; omega)] at hdw
    have HTL := Lib.hid (show t.length ≤ 64 from by have := HRR.out.1; omega)
    obtain ⟨m, hm⟩ : ∃ m, m = t.length := ⟨_, rfl⟩
    rw [← hm] at hdw ⊢
    have HM := Lib.hid hm
    clear hm c0 c1
    go_upto_region 9 with (go_at_call 61; refine hdw.mono ?_; rintro e w4 ⟨rfl, ht4⟩)
    have HT4 := Lib.hid ht4
    have hb4 := HB3.out.turn ht4 (fun e => e)
    clear hdw ht4
    refine wp_region_lit ?_
    refine wpList_run (v := .slice A3 n3 c3) rfl (exec_move rfl rfl) ?_
    simp only [Act.put, List.setIfInBounds_toArray, List.set_cons_zero, List.set_cons_succ]
    refine wpList_run (v := fmV ⟨(kk : Int), (s : Int), (c : Int)⟩) rfl (exec_load rfl rfl (load_blkForm hb4)) ?_
    simp only [Act.put, List.setIfInBounds_toArray, List.set_cons_zero, List.set_cons_succ]
    have hnw := nums_walk (kk : Int) (s : Int) c w4 (by have := HC.out; omega) (HR.out.turn (HT3.out.trans HT4.out (fun _ _ e => e)))
    have HNW := Lib.hid hnw
    have HB4 := Lib.hid hb4
    unfold fmV at *
    clear hnw hb4
    have HPL := Lib.hid (pts_len 1 c 2)
    have HGD := Lib.hid (pts_good (k := 1) (n := 2) (by decide) HC.out (by decide))
    have HRN := Lib.hid ((num_right (c : Int) (two m)).2 ⟨rfl, by rw [HM.out]; exact HTW.out.2⟩)
    generalize hps : ptsOf 1 (c : Int) 2 = ps at *
    have HPSE := Lib.hid hps
    clear hps
    go_wp2_with (go_at_call 83; refine HNW.out.mono ?_; rintro e w5 ⟨g5, cp5, rfl, hp5, ht5⟩)
    have HT5 := Lib.hid ht5
    have hput := put_walk (cp := cp5) hp5 rfl HGD.out HRN.out (own_turn HO3.out (HT4.out.trans ht5 (fun _ _ e => e))) (Nat.le_trans HSZ3.out (HT4.out.trans ht5 (fun _ _ e => e)).size) (by have h1 := HBL.out; have h2 := HN.out; rw [two_len]; omega) (by rw [two_len]; omega) (by have := HPL.out; omega)
    clear hp5 ht5
    have HPUT := Lib.hid hput
    clear hput
    go_upto_region 10 with (go_at_call 82; refine HPUT.out.mono ?_; rintro e w6 ⟨A6, n6, c6, rfl, hown6, hext6⟩)
    have HO6 := Lib.hid hown6
    have HT6 := Lib.hid (hext6.fresh (own_turn HO3.out (HT4.out.trans HT5.out (fun _ _ e => e))) ((HT3.out.trans HT4.out (fun _ _ e => e)).trans HT5.out (fun _ _ e => e)) HSZ.out)
    have hb6 := Blk.ext (HB4.out.turn HT5.out (fun e => e)) hext6 (row_ne (own_turn HO3.out (HT4.out.trans HT5.out (fun _ _ e => e))) (HB4.out.turn HT5.out (fun e => e)) (by decide))
    have HS6 := Lib.hid (show w1.heap.size ≤ w6.heap.size from Nat.le_trans HSZ3.out (Nat.le_trans (HT4.out.trans HT5.out (fun _ _ e => e)).size hext6.tr.size))
    clear hown6 hext6 HPUT HNW HPL HGD HRN
    rw [HPSE.out.symm] at HO6
    have hlenA := enc_all (ptsOf 1 (c : Int) 2) (two t.length) [] (pts_gm HC.out) ((num_right _ _).2 ⟨rfl, HTW.out.2⟩)
    have HLA := Lib.hid (show (encAll (ptsOf 1 (c : Int) 2) (two m)).length ≤ 2 from by rw [HM.out, hlenA.1]; exact num_size HC.out)
    clear hlenA
    refine wp_region_lit ?_
    refine wpList_run (v := .slice A6 n6 c6) rfl (exec_move rfl rfl) ?_
    simp only [Act.put, List.setIfInBounds_toArray, List.set_cons_zero, List.set_cons_succ]
    refine wpList_run (v := fmV ⟨(kk : Int), (s : Int), (c : Int)⟩) rfl (exec_load rfl rfl (load_blkForm hb6)) ?_
    simp only [Act.put, List.setIfInBounds_toArray, List.set_cons_zero, List.set_cons_succ]
    refine wpList_run (v := .int .i64 (m : Int)) rfl (exec_move rfl rfl) ?_
    simp only [Act.put, List.setIfInBounds_toArray, List.set_cons_zero, List.set_cons_succ]
    have HPW := Lib.hid (parts_walk (kk : Int) (s : Int) c m w6 (by have := HK.out; omega) (by have := HC.out; omega) (by have := And.intro HRR.out.1 HM.out; omega) (HR.out.turn HT6.out))
    have HPL2 := Lib.hid (pts_len (kk : Int) c m)
    have HGD2 := Lib.hid (pts_good (k := (kk : Int)) (n := m) (by have := HK.out; omega) HC.out (by have := And.intro HRR.out.1 HM.out; omega))
    have HR2 := Lib.hid (show rightAll (ptsOf (kk : Int) (c : Int) m) t = true from by rw [HM.out]; exact HRR.out.2)
    have HTL2 := Lib.hid (show t.length ≤ 130 from by
      have h := right_len _ _ HR2.out
      rw [h]
      exact pts_sum (by have := HK.out; omega) (by have := And.intro HRR.out.1 HM.out; omega))
    unfold fmV
    generalize hps2 : ptsOf (kk : Int) (c : Int) m = ps2 at *
    have HPS2 := Lib.hid hps2
    clear hps2
    go_upto_region 99 with (first
      | (go_at_call 84
         refine HPW.out.mono ?_
         rintro e w7 ⟨g7, cp7, rfl, hp7, ht7⟩
         have HT7 := Lib.hid ht7
         have HP7 := Lib.hid hp7
         clear ht7 hp7)
      | (go_at_call 82
         refine (put_walk (cp := cp7) HP7.out rfl HGD2.out HR2.out (own_turn HO6.out HT7.out) (Nat.le_trans HS6.out HT7.out.size) (by have h1 := HTL2.out; have h2 := HBL.out; have h3 := HN.out; have h4 := HLA.out; rw [List.length_append]; omega) (by have := HTL2.out; omega) (by have := HPL2.out; omega)).mono ?_
         rintro e w8 ⟨A8, n8, c8, rfl, hown8, hext8⟩
         have HO9 := Lib.hid hown8
         have HT9 := Lib.hid (hext8.fresh (own_turn HO6.out HT7.out) (HT6.out.trans HT7.out (fun _ _ e => e)) HSZ.out)
         clear hown8 hext8))
    go_ret2
    refine ⟨A8, n8, c8, rfl, own_base ?_ HSZ.out, HT9.out⟩
    have h9 := HO9.out
    rw [← HPS2.out, List.append_assoc, HM.out, HPSE.out] at h9
    rw [HPP.out]
    exact h9
  · have y0 : ((kk : Int) == 2) = false := by simp; omega
    have hrr := HRT.out
    have HPP := Lib.hid (show Fm.put ⟨(kk : Int), (s : Int), (c : Int)⟩ t = encAll (ptsOf (kk : Int) (c : Int) s) t from put_nl (k := kk) (s := s) (c := c) hk2)
    have HRR := Lib.hid (show rightAll (ptsOf (kk : Int) (c : Int) s) t = true from by rw [← right_nl (k := kk) (s := s) (c := c) (t := t) hk2]; exact hrr)
    clear hk2 hk hrr HRT
    go_upto_region 10 with fail
    refine wp_region_lit ?_
    refine wpList_run (v := .slice A3 n3 c3) rfl (exec_move rfl rfl) ?_
    simp only [Act.put, List.setIfInBounds_toArray, List.set_cons_zero, List.set_cons_succ]
    refine wpList_run (v := fmV ⟨(kk : Int), (s : Int), (c : Int)⟩) rfl (exec_load rfl rfl (load_blkForm HB3.out)) ?_
    simp only [Act.put, List.setIfInBounds_toArray, List.set_cons_zero, List.set_cons_succ]
    refine wpList_run (v := .int .i64 (s : Int)) rfl (exec_move rfl rfl) ?_
    simp only [Act.put, List.setIfInBounds_toArray, List.set_cons_zero, List.set_cons_succ]
    have HPW := Lib.hid (parts_walk (kk : Int) (s : Int) c s w3 (by have := HK.out; omega) (by have := HC.out; omega) (by have := HS.out; omega) (HR.out.turn HT3.out))
    have HPL2 := Lib.hid (pts_len (kk : Int) c s)
    have HGD2 := Lib.hid (pts_good (k := (kk : Int)) (n := s) (by have := HK.out; omega) HC.out (by have := HS.out; omega))
    have HR2 := Lib.hid (show rightAll (ptsOf (kk : Int) (c : Int) s) t = true from HRR.out)
    have HTL2 := Lib.hid (show t.length ≤ 130 from by
      have h := right_len _ _ HR2.out
      rw [h]
      exact pts_sum (by have := HK.out; omega) (by have := HS.out; omega))
    unfold fmV
    generalize hps2 : ptsOf (kk : Int) (c : Int) s = ps2 at *
    have HPS2 := Lib.hid hps2
    clear hps2
    go_upto_region 99 with (first
      | (go_at_call 84
         refine HPW.out.mono ?_
         rintro e w7 ⟨g7, cp7, rfl, hp7, ht7⟩
         have HT7 := Lib.hid ht7
         have HP7 := Lib.hid hp7
         clear ht7 hp7)
      | (go_at_call 82
         refine (put_walk (cp := cp7) HP7.out rfl HGD2.out HR2.out (own_turn HO3.out HT7.out) (Nat.le_trans HSZ3.out HT7.out.size) (by have h1 := HTL2.out; have h2 := HBL.out; have h3 := HN.out; omega) (by have := HTL2.out; omega) (by have := HPL2.out; omega)).mono ?_
         rintro e w8 ⟨A8, n8, c8, rfl, hown8, hext8⟩
         have HO9 := Lib.hid hown8
         have HT9 := Lib.hid (hext8.fresh (own_turn HO3.out HT7.out) (HT3.out.trans HT7.out (fun _ _ e => e)) HSZ.out)
         clear hown8 hext8))
    go_ret2
    refine ⟨A8, n8, c8, rfl, own_base ?_ HSZ.out, HT9.out⟩
    have h9 := HO9.out
    rw [HPP.out]
    exact h9
end Go.Proofs.YtfnillibngijaaaGreatDoor
namespace Go.Proofs.YtfnillibngijaaaGreatDoor
open Go.RowKit
open Fdd
set_option linter.unusedVariables false
set_option maxRecDepth 20000 in
theorem put_bad {w : World} {f : Fm} {n cap : Nat} {A : Option Addr} {t : List UInt8} (hck : f.check t ≠ 0) (hr : RowsT w) :
    Calls Tryz.prog 65 #[.slice A n cap, fmV f, strV t] w fun e w' => e = .returned (.tuple #[.slice none 0 0, .int .i64 (f.check t)]) ∧ Turn nowhere w w' := by
  have HR := Lib.hid hr
  have hcw : ∀ W, RowsT W → Calls Tryz.prog 59 #[fmV f, strV t] W fun e w' => e = .returned (.int .i64 (f.check t)) ∧ Turn nowhere W w' := fun W hW => check_walk hW
  have y0 : (f.check t == 0) = false := by simpa using hck
  generalize f.check t = ck at *
  have HCW := Lib.hid hcw
  clear hr hcw hck
  obtain ⟨k, s, c⟩ := f
  unfold fmV at *
  go_enter Tryz.func65, Tryz.ntmps65
  go_upto_region 1 with fail
  have hb0 := Blk.new w 104 #[.int .i64 k, .int .i64 s, .int .i64 c]
  have ht0 := (Turn.refl nowhere w).alloc (.cells #[.int .i64 k, .int .i64 s, .int .i64 c] 104)
  generalize (w.alloc (.cells #[.int .i64 k, .int .i64 s, .int .i64 c] 104)) = w0 at *
  generalize w.heap.size = b2 at *
  refine wp_region_lit ?_
  refine wpList_run (v := fmV ⟨k, s, c⟩) rfl (exec_load rfl rfl (load_blkForm hb0)) ?_
  simp only [Act.put, List.setIfInBounds_toArray, List.set_cons_zero, List.set_cons_succ]
  unfold fmV
  have HT0 := Lib.hid ht0
  clear hb0 ht0
  go_wp2_with (go_at_call 59; refine (HCW.out _ (HR.out.turn HT0.out)).mono ?_; rintro e w1 ⟨rfl, ht1⟩)
  go_ret2
  exact ⟨rfl, HT0.out.trans ht1 (fun _ _ e => e)⟩
end Go.Proofs.YtfnillibngijaaaGreatDoor
namespace Go.Proofs.YtfnillibngijaaaGreatDoor
open Go.RowKit
open Fdd
set_option linter.unusedVariables false
end Go.Proofs.YtfnillibngijaaaGreatDoor
namespace Go.Proofs.YtfnillibngijaaaGreatDoor
open Go.RowKit
open Fdd
set_option linter.unusedVariables false
end Go.Proofs.YtfnillibngijaaaGreatDoor
namespace Go.Proofs.YtfnillibngijaaaGreatDoor
open Go.RowKit
open Fdd
set_option linter.unusedVariables false
theorem build_any (x y z : Int) (W : World) : (Instr.build 104 #[(0, .int .i64 x), (1, .int .i64 y), (2, .int .i64 z)]).run Tryz.prog W = .ok (.agg #[.int .i64 x, .int .i64 y, .int .i64 z]) W := by kernel_rfl
end Go.Proofs.YtfnillibngijaaaGreatDoor
namespace Go.Proofs.YtfnillibngijaaaGreatDoor
open Go.RowKit
open Fdd
set_option linter.unusedVariables false
theorem own_bs {w : World} {B n c : Nat} {A : Option Addr} {bs : List UInt8} (h : Own w B 5 (.slice A n c) bs) : Bs w A n bs ∧ n ≤ c ∧ (A = none → c = 0) := by
  obtain ⟨A', n', c', hf, h1, h2, h3⟩ := h.form
  injection hf with e1 e2 e3
  subst e1 e2 e3
  exact ⟨h1, h2, h3⟩
theorem fm_exp {f : Fm} (h : f.may = true) : ∃ k s c : Nat, f = nf k s c ∧ (1 ≤ k ∧ k ≤ 5) ∧ (1 ≤ c ∧ c ≤ 3) ∧ (1 ≤ s ∧ s ≤ 64) := Fdd.may_form h
end Go.Proofs.YtfnillibngijaaaGreatDoor
namespace Go.Proofs.YtfnillibngijaaaGreatDoor
open Go.RowKit
open Fdd
set_option linter.unusedVariables false
theorem check_cases {f : Fm} {t : List UInt8} (h : f.check t = 0) : f.may = true ∧ f.right t = true := by
  unfold Fm.check at h
  split at h
  · rename_i hm
    split at h
    · rename_i hr
      exact ⟨hm, hr⟩
    · cases h
  · cases h
end Go.Proofs.YtfnillibngijaaaGreatDoor
namespace Go.Proofs.YtfnillibngijaaaGreatDoor
open Go.RowKit
open Fdd
set_option linter.unusedVariables false
set_option linter.unusedSimpArgs false
def putR (f : Fm) (t b : List UInt8) : List UInt8 := if f.check t = 0 then b ++ f.put t else []
def PutPost (w : World) (f : Fm) (t b : List UInt8) (e : Ending) (w' : World) : Prop := ∃ A n c, e = .returned (.tuple #[.slice A n c, .int .i64 (f.check t)]) ∧ Own w' w.heap.size 5 (.slice A n c) (putR f t b) ∧ Turn nowhere w w'
theorem put_all {w : World} {f : Fm} {n cap : Nat} {A : Option Addr} {b t : List UInt8} (hr : RowsT w) (hb : Bs w A n b) (hn : n ≤ 140737488351232) :
    Calls Tryz.prog 65 #[.slice A n cap, fmV f, strV t] w (PutPost w f t b) := by
  by_cases h : f.check t = 0
  · obtain ⟨hm, hrt⟩ := check_cases h
    obtain ⟨k, s, c, rfl, h1, h2, h3⟩ := fm_exp hm
    refine (put_main (cap := cap) h1 h2 h3 hrt hr hb (by omega)).mono ?_
    rintro e w' ⟨A', n', c', rfl, ho, ht⟩
    refine ⟨A', n', c', by rw [h], ?_, ht⟩
    unfold putR
    rw [if_pos h]
    exact ho
  · refine (put_bad (cap := cap) (n := n) (A := A) h hr).mono ?_
    rintro e w' ⟨rfl, ht⟩
    refine ⟨none, 0, 0, rfl, ?_, ht⟩
    unfold putR
    rw [if_neg h]
    exact World.ownsRow_nil w' _ _ _
end Go.Proofs.YtfnillibngijaaaGreatDoor
namespace Go.Proofs.YtfnillibngijaaaGreatDoor.Fdd
set_option linter.unusedVariables false
theorem hexk_len : ∀ (k n : Nat), (hexk k n).length = k
  | 0, _ => rfl
  | k + 1, n => by rw [hexk, List.length_append, hexk_len k]; rfl
theorem hexk_pad (m : Nat) : ∀ (k n : Nat), n < 16 ^ k → hexk (m + k) n = List.replicate m 48 ++ hexk k n
  | 0, n, h => by
    have h0 : n = 0 := by simpa using h
    subst h0
    have : ∀ m, hexk m 0 = List.replicate m 48 := fun m => by
      induction m with
      | zero => rfl
      | succ m ih => rw [hexk, Nat.zero_div, ih, List.replicate_succ']; rfl
    rw [Nat.add_zero, this]
    simp [hexk]
  | k + 1, n, h => by
    rw [show m + (k + 1) = (m + k) + 1 from rfl, hexk, hexk, hexk_pad m k (n / 16) (by rw [Nat.pow_succ] at h; omega), List.append_assoc]
theorem hex_idx {d : Nat} (h : d < 16) : hexs.idxOf (hexs.getD d 0) = d ∧ hexs.getD d 0 ∈ hexs := by
  have key : ∀ d : Fin 16, hexs.idxOf (hexs.getD d.val 0) = d.val ∧ hexs.getD d.val 0 ∈ hexs := by decide +kernel
  exact key ⟨d, h⟩
theorem hexk_only : ∀ (k n : Nat), onlyOf (hexk k n) hexs = true
  | 0, _ => rfl
  | k + 1, n => by
    have h1 := hexk_only k (n / 16)
    unfold onlyOf at h1 ⊢
    rw [hexk, List.all_append, h1]
    simp only [List.all_cons, List.all_nil, Bool.and_true, Bool.true_and]
    simpa using (hex_idx (Nat.mod_lt n (by decide : 0 < 16))).2
/-! ### rows of rising numbers -/
def Rise (l : List Int) : Prop := l.Pairwise (· < ·)
/-! ### the forms -/
theorem mfind_mem {no : Int} : ∀ {l : List (Int × Int × Int)} {r : Int × Int}, mfind no l = some r → (no, r) ∈ l
  | [], _, h => by cases h
  | x :: l, r, h => by
    unfold mfind at h
    split at h
    · rename_i e
      injection h with h
      subst h
      subst e
      exact List.mem_cons_self ..
    · exact List.mem_cons_of_mem _ (mfind_mem h)
theorem mrows_all : ∀ x ∈ mrows, (1 ≤ x.2.1 ∧ x.2.1 ≤ 5) ∧ (1 ≤ x.2.2 ∧ x.2.2 ≤ 64) ∧ (x.1 = 4 → x.2.2 = 12 ∧ x.2.1 = 1) ∧ (2 ≤ x.1 ∧ x.1 ≤ 97) ∧ x.1 ≠ 65 := by decide
theorem unsaid_len (d : Nat) (no : Int) : unsaid d no = [] ∨ (unsaid d no = [48, 48] ∧ d = 3 ∧ no = 4) := by
  unfold unsaid
  split
  · exact .inr ⟨rfl, by assumption⟩
  · exact .inl rfl
theorem form_nf {d : Nat} {no : Int} {m : Fm} (h : mform d no = some m) : ∃ k s : Nat, m = nf k s d ∧ (1 ≤ k ∧ k ≤ 5) ∧ (1 ≤ s ∧ s ≤ 64) ∧ (2 ≤ no ∧ no ≤ 97) ∧ no ≠ 65 ∧ mfind no mrows = some ((k : Int), ((s + (unsaid d no).length : Nat) : Int)) ∧ (no = 4 → k = 1 ∧ s + (unsaid d no).length = 12) := by
  unfold mform at h
  obtain ⟨r, hr, rfl⟩ := Option.map_eq_some_iff.1 h
  obtain ⟨⟨a1, a2⟩, ⟨b1, b2⟩, c, e, f⟩ := mrows_all _ (mfind_mem hr)
  simp only at a1 a2 b1 b2 c e f
  have hu : ((unsaid d no).length : Int) = 0 ∨ ((unsaid d no).length : Int) = 2 ∧ no = 4 := by
    rcases unsaid_len d no with h | ⟨h, _, h3⟩
    · left; rw [h]; rfl
    · right; rw [h]; exact ⟨rfl, h3⟩
  generalize hul : (unsaid d no).length = u at *
  refine ⟨r.1.toNat, (r.2 - u).toNat, ?_, by omega, ?_, e, f, ?_, fun e4 => ?_⟩
  · unfold nf
    have hge : 0 ≤ r.2 - (u : Int) := by
      rcases hu with h | ⟨h, h4⟩
      · omega
      · have := c h4
        omega
    rw [Int.toNat_of_nonneg (by omega), Int.toNat_of_nonneg hge]
  · rcases hu with h | ⟨h, h4⟩
    · omega
    · have := c h4
      omega
  · rw [hr]
    congr 1
    refine Prod.ext ?_ ?_
    · show r.1 = _
      omega
    · show r.2 = _
      rcases hu with h | ⟨h, h4⟩
      · omega
      · have := c h4
        omega
  · have := c e4
    rcases hu with h | ⟨h, h4⟩ <;> omega
theorem form_of {d d' : Nat} {no : Int} (h : (mform d no).isSome = true) : (mform d' no).isSome = true := by
  unfold mform at h ⊢
  rw [Option.isSome_map] at h ⊢
  exact h
theorem check_zero {k s c : Nat} {t : List UInt8} (hk : 1 ≤ k ∧ k ≤ 5) (hc : 1 ≤ c ∧ c ≤ 3) (hs : 1 ≤ s ∧ s ≤ 64) : (nf k s c).check t = 0 ↔ (nf k s c).right t = true := by
  unfold Fm.check
  rw [if_pos (may_nf hk hc hs)]
  constructor
  · intro h
    by_cases hr : (nf k s c).right t = true
    · exact hr
    · rw [if_neg hr] at h
      cases h
  · intro h
    rw [if_pos h]
/-- digits, just so many -/
theorem right_n {s c : Nat} {t : List UInt8} : (nf 1 s c).right t = true ↔ t.length = s ∧ onlyOf t dec = true := by
  rw [right_nl (by decide)]
  have e : ptsOf ((1 : Nat) : Int) (c : Int) s = [⟨s, dec, (rws (c : Int).toNat).d⟩] := rfl
  rw [e]
  unfold rightAll rightAll
  simp only [Bool.and_eq_true, decide_eq_true_eq, beq_iff_eq, List.drop_eq_nil_iff]
  constructor
  · rintro ⟨h1, h2, h3⟩
    rw [List.take_of_length_le h3] at h2
    exact ⟨by omega, h2⟩
  · rintro ⟨h1, h2⟩
    rw [List.take_of_length_le (by omega)]
    exact ⟨by omega, h2, by omega⟩
theorem right_b {s c : Nat} {t : List UInt8} : (nf 4 s c).right t = true ↔ t.length = 2 * s ∧ onlyOf t hexs = true := by
  rw [right_nl (by decide)]
  have e : ptsOf ((4 : Nat) : Int) (c : Int) s = [⟨2 * s, hexs, (rws (c : Int).toNat).h⟩] := rfl
  rw [e]
  unfold rightAll rightAll
  simp only [Bool.and_eq_true, decide_eq_true_eq, beq_iff_eq, List.drop_eq_nil_iff]
  constructor
  · rintro ⟨h1, h2, h3⟩
    rw [List.take_of_length_le h3] at h2
    exact ⟨by omega, h2⟩
  · rintro ⟨h1, h2⟩
    rw [List.take_of_length_le (by omega)]
    exact ⟨by omega, h2, by omega⟩
end Go.Proofs.YtfnillibngijaaaGreatDoor.Fdd
