/-
  groatlaw06's LinkHolds, walked. Condition: each piece, and their number, is at most 2^20.
-/
import Derived.Test.YtagoijgmoaffdaaLkN
namespace Go.Proofs.Ytagoijgmoaffdaa
open Go.RowKit
open Lkk
set_option linter.unusedVariables false
set_option linter.unusedSimpArgs false
def ob (v : Value) : Nat → Prop := fun k => v.ownBlock = some k
theorem ext_apart {w w' : World} {v v' : Value} {F : Nat → Prop} (he : Ext w w' v v') (hF : ∀ k, F k → k < w.heap.size) (ha : apart F (ob v)) : apart F (ob v') := fun k hk e => ha k hk (he.sub k (Eq.symm e) (hF k hk)).symm
theorem ext_newb {w w' : World} {v v' : Value} {B : Nat} (he : Ext w w' v v') (hB : B ≤ w.heap.size) (hn : ∀ k, ob v k → B ≤ k) : ∀ k, ob v' k → B ≤ k := fun k hk => by
  by_cases hlt : k < w.heap.size
  · exact hn k (he.sub k (Eq.symm hk) hlt).symm
  · omega
theorem ext_turn {W w w' : World} {v v' : Value} (ht : Turn nowhere W w) (he : Ext w w' v v') (hn : ∀ k, ob v k → W.heap.size ≤ k) : Turn nowhere W w' := turn_new ht he.tr fun k hk => hn k (Eq.symm hk)
theorem ext_own {w w' : World} {v v' u : Value} {bs : List UInt8} (h : Own w 0 5 u bs) (he : Ext w w' v v') (ha : apart (ob u) (ob v)) : Own w' 0 5 u bs := h.turn he.tr fun k hk e => ha k hk (Eq.symm e)
theorem ext_lkn {B : Nat} {w w' : World} {v v' u : Value} {p : Nat} {h : List UInt8} (H : LkN B w p u h) (he : Ext w w' v v') (ha : apart (foot p u) (ob v)) : LkN B w' p u h := H.turn he.tr fun k hk e => ha k hk (Eq.symm e)
theorem ob_lt {w : World} {v : Value} {bs : List UInt8} (h : Own w 0 5 v bs) : ∀ k, ob v k → k < w.heap.size := fun k hk => own_lt h hk
theorem fed_apart {w : World} {p : Nat} {v v' : Value} {F : Nat → Prop} (hF : ∀ k, F k → k < w.heap.size) (ha : apart F (foot p v)) (hs : ∀ k, foot p v' k → foot p v k ∨ w.heap.size ≤ k) : apart F (foot p v') := fun k hk e => by
  rcases hs k e with h | h
  · exact ha k hk h
  · have := hF k hk
    omega
theorem apart_new {w : World} {v : Value} {F : Nat → Prop} (hF : ∀ k, F k → k < w.heap.size) (hn : ∀ k, ob v k → w.heap.size ≤ k) : apart F (ob v) := fun k hk e => by
  have := hF k hk
  have := hn k e
  omega
theorem cut_to {a : Act} {o : Oper} {x y : Operand} {W : World} {A : Option Addr} {n c k : Nat} (ho : o.op = .slice 22 x none (some y) none) (hx : a.eval x = .slice A n c) (hy : a.eval y = .int .i64 (k : Int)) (hk : k ≤ c) :
    (execOp a.eval o).run Try.prog W = .ok (.value (.slice A k c)) W := by
  have h := run_slice_h (P := Try.prog) (w := W) 22 A n c Try.underlying22 .i64 (k : Int) (by omega) (by omega)
  rw [Int.toNat_natCast, sizeB] at h
  unfold execOp
  simp only [ho, Option.map, hx, hy, run_sliceAt_slice (P := Try.prog) W 22 _ _ _ _ Try.underlying22, h, Sem.run_bind, Sem.run_pure, Result.andThen_ok]
  cases A <;> simp [sliced, Addr.add]
theorem own_emptyN (w : World) : ∀ k, ob (.slice (some ⟨w.heap.size, 0, none⟩) 0 0) k → w.heap.size ≤ k := fun k hk => by
  have : w.heap.size = k := Option.some.inj hk
  omega

set_option maxRecDepth 20000 in
set_option maxHeartbeats 4000000 in
theorem linkHolds_walk (A1 : Option Addr) (n1 c1 : Nat) (ls : List (List UInt8)) (W : World) (hls : Ls W A1 n1 ls) :
    Calls Try.prog 8 #[.slice A1 n1 c1] W fun e w' => e = .returned (.bool true) ∧ Below W.heap.size W w' := by
  have HLS := Lib.hid hls
  have HN1 := Lib.hid hls.2.1
  clear hls
  have HE0 := Lib.hid (show ec true = 0 from rfl)
  have HE1 := Lib.hid (show ec false = 60 from rfl)
  go_enter Try.func8, Try.ntmps8
  go_upto_region 2 with (go_at_call 9; refine (shown_walk _).mono ?_; rintro e w1 ⟨rfl, ht1⟩)
  have HT1 := Lib.hid ht1
  clear ht1
  go_upto_region 5 with (go_at_call 12; refine (newL_walk _).mono ?_; rintro e w2 ⟨p, rfl, hL2, ht2, hp⟩)
  have HX := Lib.hid (lkn_new (B := W.heap.size) hL2 (Nat.le_trans HT1.out.size hp))
  have HT2 := Lib.hid (HT1.out.trans ht2 (fun _ _ e => e))
  clear hL2 ht2 hp HT1
  refine wp_region_lit ?_
  refine wpList_run (v := .slice (some ⟨w2.heap.size, 0, none⟩) 0 0) (w' := w2.alloc (.cells #[] 5)) rfl (exec_buildNone rfl (build_noneB _)) ?_
  simp only [Act.put, List.setIfInBounds_toArray, List.set_cons_zero, List.set_cons_succ]

  have ht3 := (Turn.refl nowhere w2).alloc (.cells #[] 5)
  have HA := Lib.hid (Own.empty w2 0 5 (Nat.zero_le _))
  have HAN := Lib.hid (show ∀ k, ob (.slice (some ⟨w2.heap.size, 0, none⟩) 0 0) k → W.heap.size ≤ k from fun k hk => Nat.le_trans HT2.out.size (own_emptyN w2 k hk))
  have HXA := Lib.hid (apart_new (v := .slice (some ⟨w2.heap.size, 0, none⟩) 0 0) HX.out.lk.lt (own_emptyN w2))
  have HX := Lib.hid (HX.out.still ht3)
  have HT3 := Lib.hid (HT2.out.trans ht3 (fun _ _ e => e))
  clear ht3
  generalize hva : Value.slice (some ⟨w2.heap.size, 0, none⟩) 0 0 = va at *
  generalize World.alloc w2 (.cells #[] 5) = w3 at *
  clear hva HT2
  go_upto_region 6 with fail
  refine wp_region_lit ?_
  refine wpList_run (v := .slice (some ⟨w3.heap.size, 0, none⟩) 0 0) (w' := w3.alloc (.cells #[] 5)) rfl (exec_buildNone rfl (build_noneB _)) ?_
  simp only [Act.put, List.setIfInBounds_toArray, List.set_cons_zero, List.set_cons_succ]

  have ht4 := (Turn.refl nowhere w3).alloc (.cells #[] 5)
  have HD := Lib.hid (Own.empty w3 0 5 (Nat.zero_le _))
  have HDN := Lib.hid (show ∀ k, ob (.slice (some ⟨w3.heap.size, 0, none⟩) 0 0) k → W.heap.size ≤ k from fun k hk => Nat.le_trans HT3.out.size (own_emptyN w3 k hk))
  have HXD := Lib.hid (apart_new (v := .slice (some ⟨w3.heap.size, 0, none⟩) 0 0) HX.out.lk.lt (own_emptyN w3))
  have HAD := Lib.hid (apart_new (v := .slice (some ⟨w3.heap.size, 0, none⟩) 0 0) (ob_lt HA.out) (own_emptyN w3))
  have HX := Lib.hid (HX.out.still ht4)
  have HA := Lib.hid (HA.out.turn ht4 (fun _ _ e => e))
  have HT4 := Lib.hid (HT3.out.trans ht4 (fun _ _ e => e))
  clear ht4
  generalize hvd : Value.slice (some ⟨w3.heap.size, 0, none⟩) 0 0 = vd at *
  generalize World.alloc w3 (.cells #[] 5) = w4 at *
  clear hvd HT3
  go_wp2_with fail
  go_loopg [5, 6, 7, 8, 9, 10, 11, 12, 13] 60 (fun gk va vd iv x8 x9 x10 x11 x12 x13 wr => ∃ (k : Nat) (vx : Value) (h AL TL : List UInt8), k + gk = 60 ∧ iv = .int .i64 (k : Int) ∧ Own wr 0 5 va AL ∧ Own wr 0 5 vd TL ∧ LkN W.heap.size wr p vx h ∧ apart (ob va) (ob vd) ∧ apart (foot p vx) (ob va) ∧ apart (foot p vx) (ob vd) ∧
    (∀ k, ob va k → W.heap.size ≤ k) ∧ (∀ k, ob vd k → W.heap.size ≤ k) ∧ AL = TL ++ h ∧ h.length < 514 ∧ AL.length ≤ k * 1048576 ∧ Turn nowhere W wr)
  case atStart => exact ⟨0, _, [], [], [], by omega, rfl, HA.out, HD.out, HX.out, HAD.out, HXA.out, HXD.out, HAN.out, HDN.out, rfl, by decide, by simp, HT4.out⟩
  obtain ⟨k, vx, h, AL, TL, hkl, rfl, hA, hD, hX, hAD, hXA, hXD, hAN, hDN, hal, hh, hsz, htr⟩ := hrel
  clear HA HD HX HAD HXA HXD HAN HDN HT4
  have HKL := Lib.hid hkl
  have HA := Lib.hid hA
  have HD := Lib.hid hD
  have HX := Lib.hid hX
  have HAD := Lib.hid hAD
  have HXA := Lib.hid hXA
  have HXD := Lib.hid hXD
  have HAN := Lib.hid hAN
  have HDN := Lib.hid hDN
  have HAL := Lib.hid hal
  have HH := Lib.hid hh
  have HSZ := Lib.hid hsz
  have HTR := Lib.hid htr
  clear hkl hA hD hX hAD hXA hXD hAN hDN hal hh hsz htr
  by_cases hk1 : k < n1
  · by_cases hk2 : k < 60
    · have y1 : (k : Int) < (n1 : Int) := by omega
      have y2 : (k : Int) < 60 := by omega
      obtain ⟨lb, lo, la, lm, lc, lv, rfl, hlv, hcell, hlb, hlc, hlm⟩ := (HLS.out.still HTR.out).at_ hk1
      obtain ⟨A5, c5, w5, hrun5, hA5, hext5⟩ := append_src (ty := 22) HA.out hlb hlc (by have := HSZ.out; omega)
      obtain ⟨Aa, ca, rfl⟩ := own_form HA.out
      have HK1 := Lib.hid hk1
      have HK2 := Lib.hid hk2
      have HLM := Lib.hid hlm
      have HLL := Lib.hid hlv
      have HLN := Lib.hid hlb.1
      have HRUN := Lib.hid hrun5
      have HA5 := Lib.hid hA5
      have HD5 := Lib.hid (ext_own HD.out hext5 HAD.out.symm)
      have HX5 := Lib.hid (ext_lkn HX.out hext5 HXA.out)
      have HAD5 := Lib.hid (ext_apart hext5 (ob_lt HD.out) HAD.out.symm).symm
      have HXA5 := Lib.hid (ext_apart hext5 HX.out.lk.lt HXA.out)
      have HAN5 := Lib.hid (ext_newb hext5 HTR.out.size HAN.out)
      have HT5 := Lib.hid (ext_turn HTR.out hext5 HAN.out)
      clear hk1 hk2 hlb hlc hlm hlv hrun5 hA5 hext5
      go_upto_region 10 with fail
      refine wp_region_lit ?_
      refine wpList_run (v := .slice Aa AL.length ca) rfl (exec_move rfl rfl) ?_
      simp only [Act.put, List.setIfInBounds_toArray, List.set_cons_zero, List.set_cons_succ]
      refine wpList_run (v := .slice (some ⟨lb, lo, none⟩) n1 c1) rfl (exec_move rfl rfl) ?_
      simp only [Act.put, List.setIfInBounds_toArray, List.set_cons_zero, List.set_cons_succ]
      refine wpList_run (v := .int .i64 (k : Int)) rfl (exec_move rfl rfl) ?_
      simp only [Act.put, List.setIfInBounds_toArray, List.set_cons_zero, List.set_cons_succ]
      refine wpList_run (v := .pointer (some ⟨lb, lo + k, none⟩)) rfl (gx_iaddr (i := k) (sz := 1) rfl rfl rfl Try.underlying28 (by kernel_rfl) HK1.out (by omega)) ?_
      simp only [Act.put, List.setIfInBounds_toArray, List.set_cons_zero, List.set_cons_succ]
      refine wpList_run (v := .slice la lm lc) rfl (lx_sl rfl rfl hcell) ?_
      simp only [Act.put, List.setIfInBounds_toArray, List.set_cons_zero, List.set_cons_succ]
      refine wpList_run (v := .slice A5 (AL.length + lm) c5) (w' := w5) rfl (exec_append rfl rfl rfl HRUN.out) ?_
      simp only [Act.put, List.setIfInBounds_toArray, List.set_cons_zero, List.set_cons_succ]

      clear HRUN hcell HA HD HX HAD HXA HAN
      have hcell := ((HLS.out.still HT5.out).at_ HK1.out)
      obtain ⟨lb', lo', la', lm', lc', lv', elb, hlv', hcell, hlb', hlc', hlm'⟩ := hcell
      obtain ⟨rfl, rfl⟩ : lb = lb' ∧ lo = lo' := by injection elb with e; injection e with e1 e2; exact ⟨e1, e2⟩
      obtain rfl : lv = lv' := Option.some.inj (HLL.out.symm.trans hlv')
      have hw1 := feed_walk (c := lc') HX5.out.lk hlb' hlc' (by have := HH.out; omega)
      have HW1 := Lib.hid hw1
      clear hw1 hlb' hlc' hlm' hlv' elb
      go_upto_region 11 with fail
      refine wp_region_lit ?_
      refine wpList_run (v := .pointer (some ⟨p, 0, none⟩)) rfl (exec_move rfl rfl) ?_
      simp only [Act.put, List.setIfInBounds_toArray, List.set_cons_zero, List.set_cons_succ]
      refine wpList_run (v := .slice (some ⟨lb, lo, none⟩) n1 c1) rfl (exec_move rfl rfl) ?_
      simp only [Act.put, List.setIfInBounds_toArray, List.set_cons_zero, List.set_cons_succ]
      refine wpList_run (v := .int .i64 (k : Int)) rfl (exec_move rfl rfl) ?_
      simp only [Act.put, List.setIfInBounds_toArray, List.set_cons_zero, List.set_cons_succ]
      refine wpList_run (v := .pointer (some ⟨lb, lo + k, none⟩)) rfl (gx_iaddr (i := k) (sz := 1) rfl rfl rfl Try.underlying28 (by kernel_rfl) HK1.out (by omega)) ?_
      simp only [Act.put, List.setIfInBounds_toArray, List.set_cons_zero, List.set_cons_succ]
      refine wpList_run (v := .slice la' lm' lc') rfl (lx_sl rfl rfl hcell) ?_
      simp only [Act.put, List.setIfInBounds_toArray, List.set_cons_zero, List.set_cons_succ]

      clear hcell
      go_wp2_with fail
      refine HW1.out.mono ?_
      rintro e w6 ⟨fv6, v6, rfl, hL6, hf6, ht6, hs6⟩
      simp only [Act.put, List.setIfInBounds_toArray, List.set_cons_zero, List.set_cons_succ]
      rename_i K5 hK5
      refine hK5 _ _ ?_
      clear hK5 K5

      obtain ⟨fA6, fc6, rfl⟩ := hf6.form
      have HX6 := Lib.hid (fed_new HX5.out hL6 HT5.out.size hs6)
      have HA6 := Lib.hid (HA5.out.turn ht6 HXA5.out.symm)
      have HD6 := Lib.hid (HD5.out.turn ht6 HXD.out.symm)
      have HXA6 := Lib.hid (fed_apart (ob_lt HA5.out) HXA5.out.symm hs6).symm
      have HXD6 := Lib.hid (fed_apart (ob_lt HD5.out) HXD.out.symm hs6).symm
      have HT6 := Lib.hid (turn_new HT5.out ht6 HX5.out.new)
      have HGD := Lib.hid (show apart (fun k => (w5.heap.size ≤ k ∨ vx.ownBlock = some k) ∧ ¬ foot p v6 k) (ob u6) from fun k hk e => by
        rcases hk.1 with h | h
        · have := ob_lt HD5.out k e
          omega
        · exact HXD.out k (.inr h) e)
      have HF6 := Lib.hid hf6.frr
      have hrt := feed_right (h ++ lv)
      have hfa := feed_all (h ++ lv)
      have hcnt := fs_count (h ++ lv)
      have hll : (h ++ lv).length ≤ 1049090 := by rw [List.length_append]; have := HLN.out; have := HLM.out; have := HH.out; omega
      have HRT := Lib.hid hrt
      have HFA := Lib.hid hfa
      have HCN := Lib.hid (show (feed (h ++ lv)).fs.length ≤ 1049090 by omega)
      have HRL := Lib.hid (rest_len (h ++ lv))
      clear hL6 hf6 ht6 hs6 HW1 HX5 HA5 HD5 HXA5 HXD hrt hfa hcnt hll
      generalize hr : feed (h ++ lv) = r at *
      obtain ⟨fs, rest, ok⟩ := r
      cases ok with
      | false =>
        simp only [HE1.out]
        clear hr
        go_wp2_with fail
        go_ret
        exact ⟨rfl, HT6.out.below (Nat.le_refl _) (fun k hk e => e)⟩
      | true =>
        have HALL := Lib.hid (HFA.out rfl)
        simp only [HE0.out]
        simp only at HF6 HRT HCN HRL HX6 HALL
        obtain ⟨m, hm⟩ : ∃ m, m = fs.length := ⟨_, rfl⟩
        rw [← hm] at HF6 HCN ⊢
        have HM := Lib.hid hm
        have hm62 : AL.length + lm ≤ 63963136 := by have := HSZ.out; have := HLM.out; have := HK2.out; omega
        have HM62 := Lib.hid hm62
        have HALEN := Lib.hid (show (AL ++ lv).length = AL.length + lm from by rw [List.length_append, HLN.out])
        clear hr hm hm62
        generalize hN : AL.length + lm = N at *
        clear hN
        go_upto_region 14 with fail
        go_wp2_with fail
        go_loopg [6, 10, 11, 12] m (fun gk vd iv x11 x12 wr2 => ∃ (j : Nat), j + gk = m ∧ iv = .int .i64 (j : Int) ∧ Own wr2 0 5 vd (TL ++ pks (fs.take j)) ∧ Own wr2 0 5 (.slice A5 N c5) (AL ++ lv) ∧ LkN W.heap.size wr2 p v6 rest ∧ apart (ob (.slice A5 N c5)) (ob vd) ∧ apart (foot p v6) (ob vd) ∧ (∀ k, ob vd k → W.heap.size ≤ k) ∧
          Frr wr2 (fun k => (w5.heap.size ≤ k ∨ vx.ownBlock = some k) ∧ ¬ foot p v6 k ∧ k < w6.heap.size) (.slice fA6 m fc6) fs ∧ apart (fun k => (w5.heap.size ≤ k ∨ vx.ownBlock = some k) ∧ ¬ foot p v6 k ∧ k < w6.heap.size) (ob vd) ∧ w6.heap.size ≤ wr2.heap.size ∧ Turn nowhere W wr2)
        case atStart => exact ⟨0, by omega, rfl, by simpa [pks] using HD6.out, HA6.out, HX6.out, HAD5.out, HXD6.out, HDN.out, HF6.out.mono (fun k hk hlt => ⟨hk.1, hk.2, hlt⟩), fun k hk => HGD.out k ⟨hk.1, hk.2.1⟩, Nat.le_refl _, HT6.out⟩
        obtain ⟨j, hjl, rfl, hD7, hA7, hX7, hAD7, hXD7, hDN7, hF7, hGD7, hsz7, hT7⟩ := hrel
        have HJL := Lib.hid hjl
        have HD7 := Lib.hid hD7
        have HA7 := Lib.hid hA7
        have HX7 := Lib.hid hX7
        have HAD7 := Lib.hid hAD7
        have HXD7 := Lib.hid hXD7
        have HDN7 := Lib.hid hDN7
        have HF7 := Lib.hid hF7
        have HGD7 := Lib.hid hGD7
        have HSZ7 := Lib.hid hsz7
        have HT7 := Lib.hid hT7
        clear hjl hD7 hA7 hX7 hAD7 hXD7 hDN7 hF7 hGD7 hsz7 hT7
        by_cases hjm : j < m
        · obtain ⟨g, b, off, mm, cc, f, rfl, hcell, hff, hbf, _⟩ := frr_at HF7.out hjm
          have y3 : (j : Int) < (m : Int) := by omega
          have y4 : (m : Int) ≤ 1049090 := by have := HCN.out; omega
          have hfr := HRT.out f (List.mem_of_getElem? hff)
          have hmm : mm = f.length := hbf.1.symm
          have hok : okL f = true := decide_eq_true hfr
          have hpk : pkd f = pk f := by unfold pkd; rw [if_pos hok]
          have htk : pks (fs.take (j + 1)) = pks (fs.take j) ++ pk f := by
            rw [List.take_add_one, hff, pks_append]
            simp [pks]
          have hpl : (pks (fs.take (j + 1))).length ≤ 1049090 := by
            have h1 : pks fs = pks (fs.take (j + 1)) ++ pks (fs.drop (j + 1)) := by rw [← pks_append, List.take_append_drop]
            have h2 := congrArg List.length HALL.out
            have h3 := congrArg List.length h1
            rw [List.length_append, List.length_append] at h2
            rw [List.length_append] at h3
            have := HLN.out
            have := HLM.out
            have := HH.out
            omega
          have htl : TL.length ≤ 62914560 := by
            have h2 := congrArg List.length HAL.out
            rw [List.length_append] at h2
            have := HSZ.out
            have := HK2.out
            omega
          have hpw := pack_walk (c := cc) hbf (fun e => by cases e) (by omega)
          have HJM := Lib.hid hjm
          have HPW := Lib.hid hpw
          have HOK := Lib.hid hok
          have HPK := Lib.hid hpk
          have HTK := Lib.hid htk
          have HPL := Lib.hid hpl
          have HTL := Lib.hid htl
          clear hjm hff hbf hfr hmm hok hpk htk hpl htl hpw
          go_upto_region 17 with fail
          refine wp_region_lit ?_
          refine wpList_run (v := .slice (some ⟨g, 0, none⟩) m fc6) rfl (exec_move rfl rfl) ?_
          simp only [Act.put, List.setIfInBounds_toArray, List.set_cons_zero, List.set_cons_succ]
          refine wpList_run (v := .int .i64 (j : Int)) rfl (exec_move rfl rfl) ?_
          simp only [Act.put, List.setIfInBounds_toArray, List.set_cons_zero, List.set_cons_succ]
          refine wpList_run (v := .pointer (some ⟨g, j, none⟩)) rfl (gx_iaddr (i := j) (sz := 1) rfl rfl rfl Try.underlying28 (by kernel_rfl) HJM.out (by omega)) ?_
          simp only [Act.put, List.setIfInBounds_toArray, List.set_cons_zero, List.set_cons_succ]
          refine wpList_run (v := .slice (some ⟨b, off, none⟩) mm cc) rfl (lx_sl rfl rfl hcell) ?_
          simp only [Act.put, List.setIfInBounds_toArray, List.set_cons_zero, List.set_cons_succ]

          clear hcell
          go_wp2_with fail
          refine HPW.out.mono ?_
          rintro e w8 ⟨v8, rfl, ho8, ht8, hn8⟩
          simp only [Act.put, List.setIfInBounds_toArray, List.set_cons_zero, List.set_cons_succ]
          rename_i K7 hK7
          refine hK7 _ _ ?_
          clear hK7 K7

          rw [HOK.out, HE0.out]
          rw [HPK.out] at ho8
          obtain ⟨A8, c8, rfl⟩ := own_form ho8
          obtain ⟨A9, c9, w9, hrun9, hD9, hext9⟩ := append_src (ty := 22) (HD7.out.turn ht8 (fun _ _ e => e)) ho8.bs.1 ho8.bs.2.2 (by
            have h1 := HPL.out
            have h2 := HTL.out
            have h3 := congrArg List.length HTK.out
            rw [List.length_append] at h3
            rw [List.length_append]
            omega)
          obtain ⟨Ad, cd, rfl⟩ := own_form HD7.out
          have HRUN := Lib.hid hrun9
          have HD9 := Lib.hid (show Own w9 0 5 (.slice A9 ((TL ++ pks (fs.take j)).length + (pk f).length) c9) (TL ++ pks (fs.take (j + 1))) from by rw [HTK.out, ← List.append_assoc]; exact hD9)
          have HA9 := Lib.hid (ext_own (HA7.out.turn ht8 (fun _ _ e => e)) hext9 HAD7.out)
          have HX9 := Lib.hid (ext_lkn (HX7.out.still ht8) hext9 HXD7.out)
          have HAD9 := Lib.hid (ext_apart hext9 (ob_lt (HA7.out.turn ht8 (fun _ _ e => e))) HAD7.out)
          have HXD9 := Lib.hid (ext_apart hext9 (HX7.out.still ht8).lk.lt HXD7.out)
          have HDN9 := Lib.hid (ext_newb hext9 (HT7.out.trans ht8 (fun _ _ e => e)).size HDN7.out)
          have HF9 := Lib.hid ((HF7.out.still ht8).turn hext9.tr (fun k hk e => HGD7.out k hk (Eq.symm e)))
          have HGD9 := Lib.hid (ext_apart hext9 (fun k hk => by have := HSZ7.out; have := ht8.size; omega) HGD7.out)
          have HSZ9 := Lib.hid (show w6.heap.size ≤ w9.heap.size from Nat.le_trans HSZ7.out (Nat.le_trans ht8.size hext9.tr.size))
          have HT9 := Lib.hid (ext_turn (HT7.out.trans ht8 (fun _ _ e => e)) hext9 HDN7.out)
          clear ho8 ht8 hn8 hrun9 hD9 hext9 HPW
          generalize (TL ++ pks (fs.take j)).length = n7 at *
          generalize (pk f).length = n8 at *
          go_upto_region 20 with fail
          refine wp_region_lit ?_
          refine wpList_run (v := .slice Ad n7 cd) rfl (exec_move rfl rfl) ?_
          simp only [Act.put, List.setIfInBounds_toArray, List.set_cons_zero, List.set_cons_succ]
          refine wpList_run (v := .slice A8 n8 c8) rfl (exec_move rfl rfl) ?_
          simp only [Act.put, List.setIfInBounds_toArray, List.set_cons_zero, List.set_cons_succ]
          refine wpList_run (v := .slice A9 (n7 + n8) c9) (w' := w9) rfl (exec_append rfl rfl rfl HRUN.out) ?_
          simp only [Act.put, List.setIfInBounds_toArray, List.set_cons_zero, List.set_cons_succ]

          go_wp2_with fail
          go_roundg (gk - 1)
          case measure => have := HJL.out; have := HJM.out; omega
          case rel => exact ⟨j + 1, by have := HJL.out; have := HJM.out; omega, by go_num, HD9.out, HA9.out, HX9.out, HAD9.out, HXD9.out, HDN9.out, HF9.out, HGD9.out, HSZ9.out, HT9.out⟩
        · have y3 : ¬ ((j : Int) < (m : Int)) := by omega
          have hjm' : fs.take j = fs := List.take_of_length_le (by have := HM.out; omega)
          have hD8 := HD7.out
          rw [hjm'] at hD8
          have hsum := congrArg List.length (show AL ++ lv = (TL ++ pks fs) ++ rest from by rw [HAL.out, List.append_assoc, HALL.out, List.append_assoc])
          rw [HALEN.out, List.length_append] at hsum
          have hpre : (AL ++ lv).take (TL ++ pks fs).length = TL ++ pks fs := by
            rw [show AL ++ lv = (TL ++ pks fs) ++ rest from by rw [HAL.out, List.append_assoc, HALL.out, List.append_assoc], List.take_left]
          have hdec : AL ++ lv = (TL ++ pks fs) ++ rest := by rw [HAL.out, List.append_assoc, HALL.out, List.append_assoc]
          obtain ⟨A8, c8, rfl⟩ := own_form hD8
          have HPRE := Lib.hid hpre
          have HDEC := Lib.hid hdec
          have HSUM := Lib.hid hsum
          have HD8 := Lib.hid hD8
          have HNC := Lib.hid HA7.out.bs.2.1
          clear hjm hjm' hD8 hsum hpre hdec HD7
          generalize TL ++ pks fs = D at *
          generalize hnd : D.length = nd at *
          clear hnd
          go_upto_region 22 with (go_at_call 17; refine (held_walk HX7.out.lk).mono ?_; rintro e w10 ⟨rfl, rfl⟩)
          obtain ⟨rl, hrl⟩ : ∃ rl, rl = rest.length := ⟨_, rfl⟩
          rw [← hrl] at HSUM HRL ⊢
          have HRLE := Lib.hid hrl
          clear hrl
          have hS : Bs w10.drew A5 nd D ∧ Bs w10.drew A8 nd D := ⟨by
            have h1 := HA7.out.bs.1.take (k := nd) (by have := HSUM.out; omega)
            rw [HPRE.out] at h1
            exact h1, HD8.out.bs.1⟩
          refine wp_region_alw (fun W => Bs W A5 nd D ∧ Bs W A8 nd D) (by kernel_rfl) ?_
          refine alw_take (i := 0) (v := .int .i64 (rl : Int)) rfl (by kernel_rfl) (by kernel_rfl) (fun _ _ _ h => h) (.inl ⟨by rfl, fun W hW => exec_move rfl rfl⟩) hS ?_
          simp only [Act.put, List.setIfInBounds_toArray, List.set_cons_zero, List.set_cons_succ]
          refine alw_take (i := 1) (v := .bool false) rfl (by kernel_rfl) (by kernel_rfl) (fun _ _ _ h => h) (.inl ⟨by rfl, fun W hW => ix_lss rfl rfl rfl (decide_eq_false (by omega))⟩) hS ?_
          simp only [Act.put, List.setIfInBounds_toArray, List.set_cons_zero, List.set_cons_succ]
          refine alw_take (i := 2) (v := .bool false) rfl (by kernel_rfl) (by kernel_rfl) (fun _ _ _ h => h) (.inl ⟨by rfl, fun W hW => exec_move rfl rfl⟩) hS ?_
          simp only [Act.put, List.setIfInBounds_toArray, List.set_cons_zero, List.set_cons_succ]
          refine alw_take (i := 3) (v := .int .i64 (rl : Int)) rfl (by kernel_rfl) (by kernel_rfl) (fun _ _ _ h => h) (.inl ⟨by rfl, fun W hW => exec_move rfl rfl⟩) hS ?_
          simp only [Act.put, List.setIfInBounds_toArray, List.set_cons_zero, List.set_cons_succ]
          refine alw_take (i := 4) (v := .bool false) rfl (by kernel_rfl) (by kernel_rfl) (fun _ _ _ h => h) (.inl ⟨by rfl, fun W hW => ix_geq rfl rfl rfl (decide_eq_false (by have := HRL.out; omega))⟩) hS ?_
          simp only [Act.put, List.setIfInBounds_toArray, List.set_cons_zero, List.set_cons_succ]
          refine alw_take (i := 5) (v := .bool false) rfl (by kernel_rfl) (by kernel_rfl) (fun _ _ _ h => h) (.inl ⟨by rfl, fun W hW => ix_pickF rfl rfl rfl⟩) hS ?_
          simp only [Act.put, List.setIfInBounds_toArray, List.set_cons_zero, List.set_cons_succ]
          refine alw_take (i := 6) (v := .bool false) rfl (by kernel_rfl) (by kernel_rfl) (fun _ _ _ h => h) (.inl ⟨by rfl, fun W hW => exec_move rfl rfl⟩) hS ?_
          simp only [Act.put, List.setIfInBounds_toArray, List.set_cons_zero, List.set_cons_succ]
          refine alw_take (i := 7) (v := .slice A8 nd c8) rfl (by kernel_rfl) (by kernel_rfl) (fun _ _ _ h => h) (.inl ⟨by rfl, fun W hW => exec_move rfl rfl⟩) hS ?_
          simp only [Act.put, List.setIfInBounds_toArray, List.set_cons_zero, List.set_cons_succ]
          refine alw_take (i := 8) (v := .int .i64 (nd : Int)) rfl (by kernel_rfl) (by kernel_rfl) (fun _ _ _ h => h) (.inl ⟨by rfl, fun W hW => lx_blen rfl rfl⟩) hS ?_
          simp only [Act.put, List.setIfInBounds_toArray, List.set_cons_zero, List.set_cons_succ]
          refine alw_take (i := 9) (v := .int .i64 (rl : Int)) rfl (by kernel_rfl) (by kernel_rfl) (fun _ _ _ h => h) (.inl ⟨by rfl, fun W hW => exec_move rfl rfl⟩) hS ?_
          simp only [Act.put, List.setIfInBounds_toArray, List.set_cons_zero, List.set_cons_succ]
          refine alw_take (i := 10) (v := .int .i64 (N : Int)) rfl (by kernel_rfl) (by kernel_rfl) (fun _ _ _ h => h) (.inl ⟨by rfl, fun W hW => ix_add rfl rfl rfl (by have := HSUM.out; omega) (by have := HM62.out; omega)⟩) hS ?_
          simp only [Act.put, List.setIfInBounds_toArray, List.set_cons_zero, List.set_cons_succ]
          refine alw_take (i := 11) (v := .slice A5 N c5) rfl (by kernel_rfl) (by kernel_rfl) (fun _ _ _ h => h) (.inl ⟨by rfl, fun W hW => exec_move rfl rfl⟩) hS ?_
          simp only [Act.put, List.setIfInBounds_toArray, List.set_cons_zero, List.set_cons_succ]
          refine alw_take (i := 12) (v := .int .i64 (N : Int)) rfl (by kernel_rfl) (by kernel_rfl) (fun _ _ _ h => h) (.inl ⟨by rfl, fun W hW => lx_blen rfl rfl⟩) hS ?_
          simp only [Act.put, List.setIfInBounds_toArray, List.set_cons_zero, List.set_cons_succ]
          refine alw_take (i := 13) (v := .bool false) rfl (by kernel_rfl) (by kernel_rfl) (fun _ _ _ h => h) (.inl ⟨by rfl, fun W hW => ix_neq rfl rfl rfl (by simp)⟩) hS ?_
          simp only [Act.put, List.setIfInBounds_toArray, List.set_cons_zero, List.set_cons_succ]
          refine alw_take (i := 14) (v := .bool false) rfl (by kernel_rfl) (by kernel_rfl) (fun _ _ _ h => h) (.inl ⟨by rfl, fun W hW => ix_pickF rfl rfl rfl⟩) hS ?_
          simp only [Act.put, List.setIfInBounds_toArray, List.set_cons_zero, List.set_cons_succ]
          refine alw_take (i := 15) (v := .bool false) rfl (by kernel_rfl) (by kernel_rfl) (fun _ _ _ h => h) (.inl ⟨by rfl, fun W hW => exec_move rfl rfl⟩) hS ?_
          simp only [Act.put, List.setIfInBounds_toArray, List.set_cons_zero, List.set_cons_succ]
          refine alw_take (i := 16) (v := .slice A5 N c5) rfl (by kernel_rfl) (by kernel_rfl) (fun _ _ _ h => h) (.inl ⟨by rfl, fun W hW => exec_move rfl rfl⟩) hS ?_
          simp only [Act.put, List.setIfInBounds_toArray, List.set_cons_zero, List.set_cons_succ]
          refine alw_take (i := 17) (v := .slice A8 nd c8) rfl (by kernel_rfl) (by kernel_rfl) (fun _ _ _ h => h) (.inl ⟨by rfl, fun W hW => exec_move rfl rfl⟩) hS ?_
          simp only [Act.put, List.setIfInBounds_toArray, List.set_cons_zero, List.set_cons_succ]
          refine alw_take (i := 18) (v := .int .i64 (nd : Int)) rfl (by kernel_rfl) (by kernel_rfl) (fun _ _ _ h => h) (.inl ⟨by rfl, fun W hW => lx_blen rfl rfl⟩) hS ?_
          simp only [Act.put, List.setIfInBounds_toArray, List.set_cons_zero, List.set_cons_succ]
          refine alw_take (i := 19) (v := .slice A5 nd c5) rfl (by kernel_rfl) (by kernel_rfl) (fun _ _ _ h => h) (.inl ⟨by rfl, fun W hW => cut_to rfl rfl rfl (by have := HSUM.out; have := HNC.out; omega)⟩) hS ?_
          simp only [Act.put, List.setIfInBounds_toArray, List.set_cons_zero, List.set_cons_succ]
          refine alw_take (i := 20) (v := strV D) rfl (by kernel_rfl) (by kernel_rfl) (fun _ _ _ h => h) (.inl ⟨by rfl, fun W hW => exec_strBs rfl rfl hW.1⟩) hS ?_
          simp only [Act.put, List.setIfInBounds_toArray, List.set_cons_zero, List.set_cons_succ]
          refine alw_take (i := 21) (v := .slice A8 nd c8) rfl (by kernel_rfl) (by kernel_rfl) (fun _ _ _ h => h) (.inl ⟨by rfl, fun W hW => exec_move rfl rfl⟩) hS ?_
          simp only [Act.put, List.setIfInBounds_toArray, List.set_cons_zero, List.set_cons_succ]
          refine alw_take (i := 22) (v := strV D) rfl (by kernel_rfl) (by kernel_rfl) (fun _ _ _ h => h) (.inl ⟨by rfl, fun W hW => exec_strBs rfl rfl hW.2⟩) hS ?_
          simp only [Act.put, List.setIfInBounds_toArray, List.set_cons_zero, List.set_cons_succ]
          refine alw_take (i := 23) (v := .bool false) rfl (by kernel_rfl) (by kernel_rfl) (fun _ _ _ h => h) (.inl ⟨by rfl, fun W hW => exec_nself (l := D) rfl rfl rfl⟩) hS ?_
          simp only [Act.put, List.setIfInBounds_toArray, List.set_cons_zero, List.set_cons_succ]
          refine alw_take (i := 24) (v := .bool false) rfl (by kernel_rfl) (by kernel_rfl) (fun _ _ _ h => h) (.inl ⟨by rfl, fun W hW => ix_pickF rfl rfl rfl⟩) hS ?_
          simp only [Act.put, List.setIfInBounds_toArray, List.set_cons_zero, List.set_cons_succ]

          refine alw_done (by kernel_rfl) ?_
          refine NoPanic.normal ?_
          clear hS
          have hdr : Turn nowhere w10 w10.drew := Turn.drew (Turn.refl nowhere w10)
          have HD9 := Lib.hid (HD8.out.turn hdr (fun _ _ e => e))
          have HA9 := Lib.hid (HA7.out.turn hdr (fun _ _ e => e))
          have HX9 := Lib.hid (HX7.out.still hdr)
          have HT9 := Lib.hid (HT7.out.trans hdr (fun _ _ e => e))
          clear hdr
          generalize World.drew w10 = w11 at *
          go_wp2_with fail
          go_roundg (59 - k)
          case measure => have := HKL.out; have := HK2.out; omega
          case rel => exact ⟨k + 1, v6, rest, AL ++ lv, D, by have := HKL.out; have := HK2.out; omega, by go_num, HA9.out, HD9.out, HX9.out, HAD7.out, HXA6.out, HXD7.out, HAN5.out, HDN7.out, HDEC.out, by have := HRL.out; have := HRLE.out; omega, by rw [List.length_append, HLN.out]; have := HSZ.out; have := HLM.out; omega, HT9.out⟩
    · have y1 : (k : Int) < (n1 : Int) := by omega
      have y2 : ¬ ((k : Int) < 60) := by omega
      clear hk1 hk2
      go_wp2_with fail
      go_ret
      exact ⟨rfl, HTR.out.below (Nat.le_refl _) (fun k hk e => e)⟩
  · have y1 : ¬ ((k : Int) < (n1 : Int)) := by omega
    clear hk1
    go_wp2_with fail
    go_ret
    exact ⟨rfl, HTR.out.below (Nat.le_refl _) (fun k hk e => e)⟩

end Go.Proofs.Ytagoijgmoaffdaa
