/-
  field's Put where the text is refused; takeNumber; Take. Conditions: the rows read as the program's text lays them.
-/
import Derived.Test.YtgdlidjjogoiaaaGreatDoorFdP
namespace Go.Proofs.YtgdlidjjogoiaaaGreatDoor
open Go.RowKit
open Fdd
set_option linter.unusedVariables false
set_option maxRecDepth 20000 in
theorem put_bad {w : World} {f : Fm} {n cap : Nat} {A : Option Addr} {t : List UInt8} (hck : f.check t ≠ 0) (hr : RowsT w) :
    Calls Tryz.prog 6 #[.slice A n cap, fmV f, strV t] w fun e w' => e = .returned (.tuple #[.slice none 0 0, .int .i64 (f.check t)]) ∧ Turn nowhere w w' := by
  have HR := Lib.hid hr
  have hcw : ∀ W, RowsT W → Calls Tryz.prog 8 #[fmV f, strV t] W fun e w' => e = .returned (.int .i64 (f.check t)) ∧ Turn nowhere W w' := fun W hW => check_walk hW
  have y0 : (f.check t == 0) = false := by simpa using hck
  generalize f.check t = ck at *
  have HCW := Lib.hid hcw
  clear hr hcw hck
  obtain ⟨k, s, c⟩ := f
  unfold fmV at *
  go_enter Tryz.func6, Tryz.ntmps6
  go_upto_region 1 with fail
  have hb0 := Blk.new w 24 #[.int .i64 k, .int .i64 s, .int .i64 c]
  have ht0 := (Turn.refl nowhere w).alloc (.cells #[.int .i64 k, .int .i64 s, .int .i64 c] 24)
  generalize (w.alloc (.cells #[.int .i64 k, .int .i64 s, .int .i64 c] 24)) = w0 at *
  generalize w.heap.size = b2 at *
  refine wp_region_lit ?_
  refine wpList_run (v := fmV ⟨k, s, c⟩) rfl (exec_load rfl rfl (load_blkForm hb0)) ?_
  simp only [Act.put, List.setIfInBounds_toArray, List.set_cons_zero, List.set_cons_succ]
  unfold fmV
  have HT0 := Lib.hid ht0
  clear hb0 ht0
  go_wp2_with (go_at_call 8; refine (HCW.out _ (HR.out.turn HT0.out)).mono ?_; rintro e w1 ⟨rfl, ht1⟩)
  go_ret2
  exact ⟨rfl, HT0.out.trans ht1 (fun _ _ e => e)⟩
theorem takeAll_err {ps : List Pt} {b : List UInt8} {k : Int} (h : takeAll ps b = .error k) : k = 42 ∨ k = 43 := by
  unfold takeAll at h
  split at h
  · injection h with h
    exact .inr h.symm
  · split at h
    · injection h with h
      exact .inl h.symm
    · cases h
/-- what takeNumber answers -/
def NumR (s : Nat) (r : Except Int (List UInt8 × List UInt8)) (e : Ending) (w' : World) : Prop :=
  match r with
  | .error k => e = .returned (.tuple #[.int .i64 0, .slice none 0 0, .int .i64 k])
  | .ok (t, rest) => if 1 ≤ val t ∧ (val t : Int) ≤ (s : Int) then ∃ A n c, e = .returned (.tuple #[.int .i64 (val t : Int), .slice A n c, .int .i64 0]) ∧ Bs w' A n rest ∧ n ≤ c else e = .returned (.tuple #[.int .i64 0, .slice none 0 0, .int .i64 42])
set_option maxRecDepth 20000 in
set_option maxHeartbeats 1000000 in
theorem num_walk {w : World} {k s c n cap : Nat} {A : Option Addr} {b : List UInt8} (hc : 1 ≤ c ∧ c ≤ 3) (hs : s ≤ 64) (hr : RowsT w) (hb : Bs w A n b) (hcap : n ≤ cap) :
    Calls Tryz.prog 24 #[.slice A n cap, fmV ⟨(k : Int), (s : Int), (c : Int)⟩] w fun e w' => NumR s (takeAll (ptsOf 1 (c : Int) 2) b) e w' ∧ Turn nowhere w w' := by
  have HR := Lib.hid hr
  have HC := Lib.hid hc
  have HS := Lib.hid hs
  have HB := Lib.hid hb
  have HCAP := Lib.hid hcap
  clear hr hc hs hb hcap
  unfold fmV
  go_enter Tryz.func24, Tryz.ntmps24
  go_upto_region 1 with fail
  have hb0 := Blk.new w 24 #[.int .i64 (k : Int), .int .i64 (s : Int), .int .i64 (c : Int)]
  have ht0 := (Turn.refl nowhere w).alloc (.cells #[.int .i64 (k : Int), .int .i64 (s : Int), .int .i64 (c : Int)] 24)
  generalize (w.alloc (.cells #[.int .i64 (k : Int), .int .i64 (s : Int), .int .i64 (c : Int)] 24)) = w0 at *
  generalize w.heap.size = b2 at *
  refine wp_region_lit ?_
  refine wpList_run (v := .slice A n cap) rfl (exec_move rfl rfl) ?_
  simp only [Act.put, List.setIfInBounds_toArray, List.set_cons_zero, List.set_cons_succ]
  refine wpList_run (v := fmV ⟨(k : Int), (s : Int), (c : Int)⟩) rfl (exec_load rfl rfl (load_blkForm hb0)) ?_
  simp only [Act.put, List.setIfInBounds_toArray, List.set_cons_zero, List.set_cons_succ]
  unfold fmV
  have HB0 := Lib.hid hb0
  have HT0 := Lib.hid ht0
  clear hb0 ht0
  have HNW := Lib.hid (nums_walk (k : Int) (s : Int) c w0 (by have := HC.out; omega) (HR.out.turn HT0.out))
  have HPL := Lib.hid (pts_len 1 c 2)
  have HGD := Lib.hid (pts_good (k := 1) (n := 2) (by decide) HC.out (by decide))
  have HGM := Lib.hid (pts_gm (k := 1) (n := 2) HC.out)
  unfold fmV at HNW
  generalize hps : ptsOf 1 (c : Int) 2 = ps at *
  have HPSE := Lib.hid hps
  clear hps
  generalize hres : takeAll ps b = res at *
  have HRES := Lib.hid hres
  clear hres
  go_wp2_with (go_at_call 17; refine HNW.out.mono ?_; rintro e w1 ⟨g1, cp1, rfl, hp1, ht1⟩)
  have HT1 := Lib.hid (HT0.out.trans ht1 (fun _ _ e => e))
  have htw := take_walk (cp := cp1) hp1 rfl HGD.out HPL.out (bs_turn HB.out HT1.out) HCAP.out
  rw [HRES.out] at htw
  have HTW := Lib.hid htw
  have HB1 := Lib.hid (HB0.out.turn ht1 (fun e => e))
  clear htw hp1 ht1
  have hfin : NumR s (takeAll (ptsOf 1 (c : Int) 2) b) = NumR s res := by rw [HPSE.out, HRES.out]
  have HFIN := Lib.hid hfin
  clear hfin
  cases res with
  | error kk =>
    have hkk := takeAll_err HRES.out
    have y0 : (kk == 0) = false := by simp; omega
    have HY := Lib.hid y0
    clear hkk
    go_wp2_with (go_at_call 25; refine HTW.out.mono ?_; rintro e w2 ⟨(rfl : e = _), ht2⟩)
    go_ret3
    rw [HFIN.out]
    exact ⟨rfl, HT1.out.trans ht2 (fun _ _ e => e)⟩
  | ok tr =>
    obtain ⟨t1, r1⟩ := tr
    obtain ⟨hright, _⟩ := ok_take HGM.out HRES.out
    rw [← HPSE.out] at hright
    obtain ⟨hl, hon⟩ := (num_right _ _).1 hright
    have hv := (two_of hl hon).2
    have ham : amountOf t1 = ((val t1 : Int), 0) := by
      unfold amountOf
      rw [if_pos ⟨by omega, hon, by intro h; rw [h] at hl; simp at hl⟩]
    have haw : ∀ W, Calls Tryz.prog 12 #[strV t1] W fun e w' => e = .returned (.tuple #[.int .i64 (val t1 : Int), .int .i64 0]) ∧ Turn nowhere W w' := by
      intro W
      have h := amount_walk (t := t1) W (fun h => by rw [h] at hl; simp at hl)
      rw [ham] at h
      exact h
    have HAW := Lib.hid haw
    clear hright hl hon ham haw
    go_upto_region 4 with (go_at_call 25; refine HTW.out.mono ?_; rintro e w2 ⟨⟨A2, n2, c2, rfl, hbs2, hnc2⟩, ht2⟩)
    have HBS2 := Lib.hid hbs2
    have HNC2 := Lib.hid hnc2
    have HT2 := Lib.hid (HT1.out.trans ht2 (fun _ _ e => e))
    have HB2 := Lib.hid (HB1.out.turn ht2 (fun e => e))
    clear hbs2 hnc2 ht2 HTW
    obtain ⟨m, hm⟩ : ∃ m, m = val t1 := ⟨_, rfl⟩
    rw [← hm] at hv HAW
    have HM := Lib.hid hm
    clear hm
    go_upto_region 5 with (go_at_call 12; refine (HAW.out _).mono ?_; rintro e w3 ⟨rfl, ht3⟩)
    have c1 : w3.cell? ⟨b2, 1, none⟩ = some (.int .i64 (s : Int)) := (HB2.out.turn ht3 (fun e => e)).cell 1
    have HT3 := Lib.hid (HT2.out.trans ht3 (fun _ _ e => e))
    have HBS3 := Lib.hid (bs_turn HBS2.out ht3)
    clear ht3
    have hgoal : ∀ e W, NumR s (takeAll (ptsOf 1 (c : Int) 2) b) e W = (if 1 ≤ m ∧ (m : Int) ≤ (s : Int) then ∃ A n c, e = .returned (.tuple #[.int .i64 (m : Int), .slice A n c, .int .i64 0]) ∧ Bs W A n r1 ∧ n ≤ c else e = .returned (.tuple #[.int .i64 0, .slice none 0 0, .int .i64 42])) := fun e W => by
      rw [HFIN.out, HM.out]
      rfl
    have HGO := Lib.hid hgoal
    clear hgoal HFIN
    by_cases h1 : m < 1
    · have y1 : (m : Int) < 1 := by omega
      have HNO := Lib.hid (show ¬ (1 ≤ m ∧ (m : Int) ≤ (s : Int)) from by omega)
      clear h1
      go_wp2_with fail
      go_ret3
      rw [HGO.out, if_neg HNO.out]
      exact ⟨rfl, HT3.out⟩
    · by_cases h2 : s < m
      · have y1 : ¬ ((m : Int) < 1) := by omega
        have y2 : (s : Int) < (m : Int) := by omega
        have HNO := Lib.hid (show ¬ (1 ≤ m ∧ (m : Int) ≤ (s : Int)) from by omega)
        clear h1 h2
        go_wp2_with fail
        go_ret3
        rw [HGO.out, if_neg HNO.out]
        exact ⟨rfl, HT3.out⟩
      · have y1 : ¬ ((m : Int) < 1) := by omega
        have y2 : ¬ ((s : Int) < (m : Int)) := by omega
        have HYES := Lib.hid (show 1 ≤ m ∧ (m : Int) ≤ (s : Int) from by omega)
        clear h1 h2
        go_wp2_with fail
        go_ret3
        rw [HGO.out, if_pos HYES.out]
        exact ⟨⟨A2, n2, c2, rfl, HBS3.out, HNC2.out⟩, HT3.out⟩
end Go.Proofs.YtgdlidjjogoiaaaGreatDoor
