/-
  field's Take. Conditions: the rows read as the program's text lays them.
-/
import Derived.Test.YtgdlidjjogoiaaaGreatDoorFdS
namespace Go.Proofs.YtgdlidjjogoiaaaGreatDoor
open Go.RowKit
open Fdd
set_option linter.unusedVariables false
/-- what Take answers -/
def TakeF (r : Except Int (List UInt8 × List UInt8)) (B : Nat) (e : Ending) (w' : World) : Prop :=
  match r with
  | .error k => e = .returned (.tuple #[strV [], .slice none 0 0, .int .i64 k])
  | .ok (t, rest) => ∃ A n c, e = .returned (.tuple #[strV t, .slice A n c, .int .i64 0]) ∧ Own w' B 5 (.slice A n c) rest
set_option maxRecDepth 20000 in
theorem take_bad {w : World} {f : Fm} {n cap : Nat} {A : Option Addr} (hm : f.may = false) :
    Calls Tryz.prog 10 #[.slice A n cap, fmV f] w fun e w' => e = .returned (.tuple #[strV [], .slice none 0 0, .int .i64 40]) ∧ Turn nowhere w w' := by
  have hmw := mayBe_walk f
  rw [hm] at hmw
  have HMW := Lib.hid hmw
  clear hmw hm
  obtain ⟨k, s, c⟩ := f
  unfold fmV at *
  go_enter Tryz.func10, Tryz.ntmps10
  go_upto_region 1 with fail
  have hb0 := Blk.new w 24 #[.int .i64 k, .int .i64 s, .int .i64 c]
  have ht0 := (Turn.refl nowhere w).alloc (.cells #[.int .i64 k, .int .i64 s, .int .i64 c] 24)
  generalize (w.alloc (.cells #[.int .i64 k, .int .i64 s, .int .i64 c] 24)) = w0 at *
  generalize w.heap.size = b2 at *
  refine wp_region_lit ?_
  refine wpList_run (v := fmV ⟨k, s, c⟩) rfl (exec_load rfl rfl (load_blkForm hb0)) ?_
  simp only [Act.put, List.setIfInBounds_toArray, List.set_cons_zero, List.set_cons_succ]
  unfold fmV
  have HT0 := Lib.hid ht0
  clear hb0 ht0
  go_wp2_with (go_at_call 20; refine (HMW.out _).mono ?_; rintro e w1 ⟨rfl, ht1⟩)
  go_ret3
  exact ⟨rfl, HT0.out.trans ht1 (fun _ _ e => e)⟩
set_option maxRecDepth 20000 in
set_option maxHeartbeats 2000000 in
theorem take_main {w : World} {kk s c n cap : Nat} {A : Option Addr} {b : List UInt8} (hk : 1 ≤ kk ∧ kk ≤ 5) (hc : 1 ≤ c ∧ c ≤ 3) (hs : 1 ≤ s ∧ s ≤ 64) (hr : RowsT w) (hb : Bs w A n b) (hcap : n ≤ cap) (hn : n ≤ 140737488355328) :
    Calls Tryz.prog 10 #[.slice A n cap, fmV (nf kk s c)] w fun e w' => TakeF ((nf kk s c).take b) w.heap.size e w' ∧ Turn nowhere w w' := by
  have hmw := mayBe_walk (nf kk s c)
  rw [may_nf hk hc hs] at hmw
  have HMW := Lib.hid hmw
  have HMAY := Lib.hid (may_nf hk hc hs)
  clear hmw
  have HK := Lib.hid hk
  have HC := Lib.hid hc
  have HS := Lib.hid hs
  have HR := Lib.hid hr
  have HB := Lib.hid hb
  have HN := Lib.hid hn
  have HCAP := Lib.hid hcap
  clear hr hb hn hcap
  obtain ⟨res, hres⟩ : ∃ res, res = (nf kk s c).take b := ⟨_, rfl⟩
  rw [← hres]
  have HRES := Lib.hid hres
  clear hres
  have hform : fmV (nf kk s c) = .agg #[.int .i64 (kk : Int), .int .i64 (s : Int), .int .i64 (c : Int)] := rfl
  rw [hform] at HMW ⊢
  clear hform
  go_enter Tryz.func10, Tryz.ntmps10
  go_upto_region 1 with fail
  have hb0 := Blk.new w 24 #[.int .i64 (kk : Int), .int .i64 (s : Int), .int .i64 (c : Int)]
  have ht0 := (Turn.refl nowhere w).alloc (.cells #[.int .i64 (kk : Int), .int .i64 (s : Int), .int .i64 (c : Int)] 24)
  generalize (w.alloc (.cells #[.int .i64 (kk : Int), .int .i64 (s : Int), .int .i64 (c : Int)] 24)) = w0 at *
  obtain ⟨b2, hb2⟩ : ∃ b2, b2 = w.heap.size := ⟨_, rfl⟩
  rw [← hb2] at hb0 ⊢
  clear hb2
  refine wp_region_lit ?_
  refine wpList_run (v := fmV ⟨(kk : Int), (s : Int), (c : Int)⟩) rfl (exec_load rfl rfl (load_blkForm hb0)) ?_
  simp only [Act.put, List.setIfInBounds_toArray, List.set_cons_zero, List.set_cons_succ]
  unfold fmV
  have HB0 := Lib.hid hb0
  have HT0 := Lib.hid ht0
  clear hb0 ht0
  go_upto_region 3 with (go_at_call 20; refine (HMW.out _).mono ?_; rintro e w1 ⟨rfl, ht1⟩)
  have HT1 := Lib.hid (HT0.out.trans ht1 (fun _ _ e => e))
  have hb1 := HB0.out.turn ht1 (fun e => e)
  have HB1 := Lib.hid hb1
  have HB1s := Lib.hid (bs_turn HB.out HT1.out)
  have c0 : w1.cell? ⟨b2, 0, none⟩ = some (.int .i64 (kk : Int)) := hb1.cell 0
  have c1 : w1.cell? ⟨b2, 1, none⟩ = some (.int .i64 (s : Int)) := hb1.cell 1
  clear ht1 hb1 HMW HB0
  have HBL := Lib.hid HB.out.1
  by_cases hk2 : kk = 2
  · have y0 : ((kk : Int) == 2) = true := by simp; omega
    have HK2 := Lib.hid hk2
    have htl := HRES.out
    rw [hk2, take_ll (by rw [← hk2]; exact HMAY.out)] at htl
    have HTL := Lib.hid htl
    clear hk2 hk htl HRES
    go_upto_region 5 with fail
    clear c0 c1 y0
    refine wp_region_lit ?_
    refine wpList_run (v := .slice A n cap) rfl (exec_move rfl rfl) ?_
    simp only [Act.put, List.setIfInBounds_toArray, List.set_cons_zero, List.set_cons_succ]
    refine wpList_run (v := fmV ⟨(kk : Int), (s : Int), (c : Int)⟩) rfl (exec_load rfl rfl (load_blkForm HB1.out)) ?_
    simp only [Act.put, List.setIfInBounds_toArray, List.set_cons_zero, List.set_cons_succ]
    have hnw := num_walk (k := kk) (s := s) (c := c) (cap := cap) HC.out (by have := HS.out; omega) (HR.out.turn HT1.out) HB1s.out HCAP.out
    unfold fmV at *
    cases hta : takeAll (ptsOf 1 (c : Int) 2) b with
    | error kk2 =>
      have hke := takeAll_err hta
      rw [hta] at hnw
      have y9 : (kk2 == 0) = false := by simp; omega
      have HRES := Lib.hid (show res = .error kk2 from by rw [HTL.out, hta])
      clear hta hke
      go_wp2_with (go_at_call 24; refine hnw.mono ?_; rintro e w2 ⟨(rfl : e = _), ht2⟩)
      go_ret3
      rw [HRES.out]
      exact ⟨rfl, HT1.out.trans ht2 (fun _ _ e => e)⟩
    | ok tr =>
      obtain ⟨t1, r1⟩ := tr
      rw [hta] at hnw
      have HR1L := Lib.hid (show r1.length ≤ b.length from by
        have h := (ok_take (pts_gm HC.out) hta).2
        rw [← h, List.length_append]
        omega)
      have HRES := Lib.hid (show res = if 1 ≤ val t1 ∧ (val t1 : Int) ≤ (s : Int) then takeAll (ptsOf 2 (c : Int) (val t1)) r1 else .error 42 from by rw [HTL.out, hta])
      clear hta
      by_cases hgood : 1 ≤ val t1 ∧ (val t1 : Int) ≤ (s : Int)
      · have hnw2 : Calls Tryz.prog 24 #[.slice A n cap, .agg #[.int .i64 (kk : Int), .int .i64 (s : Int), .int .i64 (c : Int)]] w1 fun e w' => (∃ A n c, e = .returned (.tuple #[.int .i64 (val t1 : Int), .slice A n c, .int .i64 0]) ∧ Bs w' A n r1 ∧ n ≤ c) ∧ Turn nowhere w1 w' := by
          refine hnw.mono ?_
          rintro e w' ⟨h1, h2⟩
          refine ⟨?_, h2⟩
          unfold NumR at h1
          simp only [if_pos hgood] at h1
          exact h1
        have HR2 := Lib.hid (show res = takeAll (ptsOf (kk : Int) (c : Int) (val t1)) r1 from by rw [HRES.out, if_pos hgood, HK2.out]; rfl)
        have HG := Lib.hid hgood
        generalize val t1 = m at *
        clear hnw hgood HRES
        go_upto_region 8 with (go_at_call 24; refine hnw2.mono ?_; rintro e w2 ⟨⟨A2, n2, c2, rfl, hbs2, hnc2⟩, ht2⟩)
        have HT2 := Lib.hid (HT1.out.trans ht2 (fun _ _ e => e))
        have HB2 := Lib.hid (HB1.out.turn ht2 (fun e => e))
        have HBS2 := Lib.hid hbs2
        have HNC2 := Lib.hid hnc2
        clear hbs2 hnc2 ht2 hnw2
        refine wp_region_lit ?_
        refine wpList_run (v := .slice A2 n2 c2) rfl (exec_move rfl rfl) ?_
        simp only [Act.put, List.setIfInBounds_toArray, List.set_cons_zero, List.set_cons_succ]
        refine wpList_run (v := fmV ⟨(kk : Int), (s : Int), (c : Int)⟩) rfl (exec_load rfl rfl (load_blkForm HB2.out)) ?_
        simp only [Act.put, List.setIfInBounds_toArray, List.set_cons_zero, List.set_cons_succ]
        refine wpList_run (v := .int .i64 (m : Int)) rfl (exec_move rfl rfl) ?_
        simp only [Act.put, List.setIfInBounds_toArray, List.set_cons_zero, List.set_cons_succ]
        have HPW := Lib.hid (parts_walk (kk : Int) (s : Int) c m w2 (by have := HK.out; omega) (by have := HC.out; omega) (by have := HG.out; have := HS.out; omega) (HR.out.turn HT2.out))
        have HPL2 := Lib.hid (pts_len (kk : Int) c m)
        have HGD2 := Lib.hid (pts_good (k := (kk : Int)) (n := m) (by have := HK.out; omega) HC.out (by have := HG.out; have := HS.out; omega))
        have HGM2 := Lib.hid (pts_gm (k := (kk : Int)) (n := m) HC.out)
        unfold fmV
        generalize ptsOf (kk : Int) (c : Int) m = ps2 at *
        cases hta2 : takeAll ps2 r1 with
        | error ke =>
          have hke := takeAll_err hta2
          have y9 : (ke == 0) = false := by simp; omega
          have HRX := Lib.hid (show res = .error ke from by rw [HR2.out, hta2])
          have HTA2 := Lib.hid hta2
          clear hta2 hke
          go_wp2_with (first
            | (go_at_call 18
               refine HPW.out.mono ?_
               rintro e w7 ⟨g7, cp7, rfl, hp7, ht7⟩
               have HT7 := Lib.hid (HT2.out.trans ht7 (fun _ _ e => e))
               have htw := take_walk (cp := cp7) hp7 rfl HGD2.out HPL2.out (bs_turn HBS2.out ht7) HNC2.out
               rw [HTA2.out] at htw
               have HTW := Lib.hid htw
               clear ht7 hp7 htw)
            | (go_at_call 25
               refine HTW.out.mono ?_
               rintro e w8 ⟨(rfl : e = _), ht8⟩
               have HT8 := Lib.hid (HT7.out.trans ht8 (fun _ _ e => e))
               clear ht8))
          go_ret3
          rw [HRX.out]
          exact ⟨rfl, HT8.out⟩
        | ok tr2 =>
          obtain ⟨t2, r2⟩ := tr2
          have HRX := Lib.hid (show res = .ok (t2, r2) from by rw [HR2.out, hta2])
          have HR2L := Lib.hid (show r2.length ≤ r1.length from by
            have h := (ok_take HGM2.out hta2).2
            rw [← h, List.length_append]
            omega)
          have HTA2 := Lib.hid hta2
          clear hta2
          go_wp2_with (first
            | (go_at_call 18
               refine HPW.out.mono ?_
               rintro e w7 ⟨g7, cp7, rfl, hp7, ht7⟩
               have HT7 := Lib.hid (HT2.out.trans ht7 (fun _ _ e => e))
               have htw := take_walk (cp := cp7) hp7 rfl HGD2.out HPL2.out (bs_turn HBS2.out ht7) HNC2.out
               rw [HTA2.out] at htw
               have HTW := Lib.hid htw
               clear ht7 hp7 htw)
            | (go_at_call 25
               refine HTW.out.mono ?_
               rintro e w8 ⟨⟨A8, n8, c8, rfl, hbs8, hnc8⟩, ht8⟩
               have HT8 := Lib.hid (HT7.out.trans ht8 (fun _ _ e => e))
               have HBS8 := Lib.hid hbs8
               clear ht8 hbs8 hnc8)
            | (go_at_call 15
               refine (clone_walk A8 n8 c8 r2 w8 HBS8.out (by have h1 := HBS8.out.1; have h2 := HR2L.out; have h3 := HBL.out; have h4 := HN.out; have h5 := HR1L.out; omega)).mono ?_
               rintro e w9 ⟨A9, n9, c9, rfl, hown9, ht9⟩
               have HO9 := Lib.hid (own_base hown9 HT8.out.size)
               have HT9 := Lib.hid (HT8.out.trans ht9 (fun _ _ e => e))
               clear hown9 ht9))
          go_ret3
          rw [HRX.out]
          exact ⟨⟨A9, n9, c9, rfl, HO9.out⟩, HT9.out⟩
      · have hnw2 : Calls Tryz.prog 24 #[.slice A n cap, .agg #[.int .i64 (kk : Int), .int .i64 (s : Int), .int .i64 (c : Int)]] w1 fun e w' => e = .returned (.tuple #[.int .i64 0, .slice none 0 0, .int .i64 42]) ∧ Turn nowhere w1 w' := by
          refine hnw.mono ?_
          rintro e w' ⟨h1, h2⟩
          refine ⟨?_, h2⟩
          unfold NumR at h1
          simp only [if_neg hgood] at h1
          exact h1
        have HR2 := Lib.hid (show res = .error 42 from by rw [HRES.out, if_neg hgood])
        clear hnw hgood HRES
        go_wp2_with (go_at_call 24; refine hnw2.mono ?_; rintro e w2 ⟨rfl, ht2⟩)
        go_ret3
        rw [HR2.out]
        exact ⟨rfl, HT1.out.trans ht2 (fun _ _ e => e)⟩
  · have y0 : ((kk : Int) == 2) = false := by simp; omega
    have HR2 := Lib.hid (show res = takeAll (ptsOf (kk : Int) (c : Int) s) b from by rw [HRES.out, take_nl hk2 HMAY.out])
    clear hk2 hk HRES
    go_upto_region 8 with fail
    clear c0 c1 y0
    refine wp_region_lit ?_
    refine wpList_run (v := .slice A n cap) rfl (exec_move rfl rfl) ?_
    simp only [Act.put, List.setIfInBounds_toArray, List.set_cons_zero, List.set_cons_succ]
    refine wpList_run (v := fmV ⟨(kk : Int), (s : Int), (c : Int)⟩) rfl (exec_load rfl rfl (load_blkForm HB1.out)) ?_
    simp only [Act.put, List.setIfInBounds_toArray, List.set_cons_zero, List.set_cons_succ]
    refine wpList_run (v := .int .i64 (s : Int)) rfl (exec_move rfl rfl) ?_
    simp only [Act.put, List.setIfInBounds_toArray, List.set_cons_zero, List.set_cons_succ]
    have HPW := Lib.hid (parts_walk (kk : Int) (s : Int) c s w1 (by have := HK.out; omega) (by have := HC.out; omega) (by have := HS.out; have := HS.out; omega) (HR.out.turn HT1.out))
    have HPL2 := Lib.hid (pts_len (kk : Int) c s)
    have HGD2 := Lib.hid (pts_good (k := (kk : Int)) (n := s) (by have := HK.out; omega) HC.out (by have := HS.out; have := HS.out; omega))
    have HGM2 := Lib.hid (pts_gm (k := (kk : Int)) (n := s) HC.out)
    unfold fmV
    generalize ptsOf (kk : Int) (c : Int) s = ps2 at *
    cases hta2 : takeAll ps2 b with
    | error ke =>
      have hke := takeAll_err hta2
      have y9 : (ke == 0) = false := by simp; omega
      have HRX := Lib.hid (show res = .error ke from by rw [HR2.out, hta2])
      have HTA2 := Lib.hid hta2
      clear hta2 hke
      go_wp2_with (first
        | (go_at_call 18
           refine HPW.out.mono ?_
           rintro e w7 ⟨g7, cp7, rfl, hp7, ht7⟩
           have HT7 := Lib.hid (HT1.out.trans ht7 (fun _ _ e => e))
           have htw := take_walk (cp := cp7) hp7 rfl HGD2.out HPL2.out (bs_turn HB1s.out ht7) HCAP.out
           rw [HTA2.out] at htw
           have HTW := Lib.hid htw
           clear ht7 hp7 htw)
        | (go_at_call 25
           refine HTW.out.mono ?_
           rintro e w8 ⟨(rfl : e = _), ht8⟩
           have HT8 := Lib.hid (HT7.out.trans ht8 (fun _ _ e => e))
           clear ht8))
      go_ret3
      rw [HRX.out]
      exact ⟨rfl, HT8.out⟩
    | ok tr2 =>
      obtain ⟨t2, r2⟩ := tr2
      have HRX := Lib.hid (show res = .ok (t2, r2) from by rw [HR2.out, hta2])
      have HR2L := Lib.hid (show r2.length ≤ b.length from by
        have h := (ok_take HGM2.out hta2).2
        rw [← h, List.length_append]
        omega)
      have HTA2 := Lib.hid hta2
      clear hta2
      go_wp2_with (first
        | (go_at_call 18
           refine HPW.out.mono ?_
           rintro e w7 ⟨g7, cp7, rfl, hp7, ht7⟩
           have HT7 := Lib.hid (HT1.out.trans ht7 (fun _ _ e => e))
           have htw := take_walk (cp := cp7) hp7 rfl HGD2.out HPL2.out (bs_turn HB1s.out ht7) HCAP.out
           rw [HTA2.out] at htw
           have HTW := Lib.hid htw
           clear ht7 hp7 htw)
        | (go_at_call 25
           refine HTW.out.mono ?_
           rintro e w8 ⟨⟨A8, n8, c8, rfl, hbs8, hnc8⟩, ht8⟩
           have HT8 := Lib.hid (HT7.out.trans ht8 (fun _ _ e => e))
           have HBS8 := Lib.hid hbs8
           clear ht8 hbs8 hnc8)
        | (go_at_call 15
           refine (clone_walk A8 n8 c8 r2 w8 HBS8.out (by have h1 := HBS8.out.1; have h2 := HR2L.out; have h3 := HBL.out; have h4 := HN.out; omega)).mono ?_
           rintro e w9 ⟨A9, n9, c9, rfl, hown9, ht9⟩
           have HO9 := Lib.hid (own_base hown9 HT8.out.size)
           have HT9 := Lib.hid (HT8.out.trans ht9 (fun _ _ e => e))
           clear hown9 ht9))
      go_ret3
      rw [HRX.out]
      exact ⟨⟨A9, n9, c9, rfl, HO9.out⟩, HT9.out⟩
end Go.Proofs.YtgdlidjjogoiaaaGreatDoor
