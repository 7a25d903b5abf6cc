/-
  Texts in one file: ShG. Conditions: the tables and the errors read as the program's text lays them.
-/
import Derived.Test.YtfnillibngijaaaGreatDoorJB7
namespace Go.Proofs.YtfnillibngijaaaGreatDoor
open Go.RowKit
open Sh (Wd B8 H8)
set_option linter.unusedVariables false
set_option linter.unusedSimpArgs false
set_option maxRecDepth 20000
theorem alw_pair {P : Program} {md : Region.Mode} {ops : Array Oper} {Q : Exit → Act → World → Prop} {S : World → Prop} {i j : Nat} {o1 o2 : Oper} {n : Nat} {l : Array Bool} {a : Act} {w : World} (hr : Region.ready md ops l = [i, j]) (h1o : ops.toList[i]? = some o1) (h2o : ops.toList[j]? = some o2)
    (hw1 : Region.wanted o1 (yielded ops a.tmps) = true) (hw2 : Region.wanted o2 (yielded ops a.tmps) = true)
    (h1 : ∀ K : Act → World → Prop, Shut (∀ a' w', (S w' ∧ Alw P md ops Q S n (l.setIfInBounds i true) a' w') → K a' w') → o1.wp P a w K Q)
    (h2 : ∀ K : Act → World → Prop, Shut (∀ a' w', (S w' ∧ Alw P md ops Q S n (l.setIfInBounds j true) a' w') → K a' w') → o2.wp P a w K Q) : Alw P md ops Q S (n + 1) l a w := by
  refine ⟨fun h0 => (by rw [h0] at hr; cases hr), fun k hk => ?_⟩
  rw [hr] at hk
  have e1 : ops[i]? = some o1 := by rw [← h1o, Array.getElem?_toList]
  have e2 : ops[j]? = some o2 := by rw [← h2o, Array.getElem?_toList]
  rcases List.mem_cons.1 hk with rfl | hk
  · unfold wpOp
    simp only [e1, hw1, if_true]
    exact .inl (h1 _ fun _ _ h' => h')
  · obtain rfl : k = j := by simpa using hk
    unfold wpOp
    simp only [e2, hw2, if_true]
    exact .inl (h2 _ fun _ _ h' => h')
theorem fit_lo {k : B8} (h : ¬ 64 < k.length) : Sh.fit k = k := if_neg h
theorem fit_hi {k : B8} (h : 64 < k.length) : Sh.fit k = Sh.sum k := if_pos h
set_option maxRecDepth 20000 in
set_option maxHeartbeats 4000000 in
theorem sum_walk (w : World) (A : Option Addr) (n c : Nat) (b : B8) (hb : Bs w A n b) (hc : n ≤ c) (hm : n ≤ 140737488355328) (hk : KT w) :
    Calls Tryz.prog 53 #[.slice A n c] w fun e w' => e = .returned (.agg (byteCells (Sh.sum b))) ∧ Turn nowhere w w' := by
  have HB := Lib.hid hb
  have HC := Lib.hid hc
  have HM := Lib.hid hm
  have HK := Lib.hid hk
  have HS := Lib.hid (Sh.sum_finish b)
  have HL := Lib.hid (Sh.sum_len b)
  obtain ⟨F, hF⟩ : ∃ F, Sh.sum b = F := ⟨_, rfl⟩
  rw [hF] at HS HL ⊢
  clear hb hc hm hk hF
  go_enter Tryz.func53, Tryz.ntmps53
  go_upto_region 0 with fail
  refine wp_region_lit ?_
  refine wpList_run (v := .pointer (some ⟨(w).heap.size, 0, none⟩)) (w' := (w).alloc (.cells (byteCells (Sh.zs 32)) 71)) (wanted_none rfl) (gx_alloc rfl (zero_hs _)) ?_
  simp only [Act.put, List.setIfInBounds_toArray, List.set_cons_zero, List.set_cons_succ]
  have hb_r := Blk.new (w) 71 (byteCells (Sh.zs 32))
  have ht_ := (Turn.refl nowhere (w)).alloc (.cells (byteCells (Sh.zs 32)) 71)
  obtain ⟨n0_, hn0_⟩ : ∃ n, n = (w).heap.size := ⟨_, rfl⟩
  have hz_r : (w).heap.size = n0_ + 0 := by rw [hn0_]; simp
  obtain ⟨r, hg_⟩ : ∃ g, g = (w).heap.size := ⟨_, rfl⟩
  rw [← hg_] at hb_r hz_r ⊢
  clear hg_
  generalize (w).alloc (.cells (byteCells (Sh.zs 32)) 71) = w1 at *
  have HT1 := Lib.hid ht_
  clear ht_
  have HBr := Lib.hid hb_r
  have HLr := Lib.hid (show (w).heap.size ≤ r from by omega)
  clear hb_r
  clear hn0_ hz_r
  clear n0_
  go_upto_region 1 with fail
  refine wp_region_lit ?_
  refine wpList_op_g rfl fun K9 HK9 => ?_
  go_wp2_with fail
  refine (start_walk w1).mono ?_
  rintro e w2 ⟨rfl, ht⟩
  refine HK9.out _ _ ?_
  clear HK9
  try simp only [Act.put, List.setIfInBounds_toArray, List.set_cons_zero, List.set_cons_succ]
  have HBr2 := Lib.hid (HBr.out.turn ht fun e => e)
  have HT2 := Lib.hid (HT1.out.trans ht fun _ _ e => e)
  clear ht
  refine wpList_run (v := .slice A n c) (wanted_none rfl) (exec_move rfl rfl) ?_
  simp only [Act.put, List.setIfInBounds_toArray, List.set_cons_zero, List.set_cons_succ]
  refine wpList_op_g rfl fun K9 HK9 => ?_
  go_wp2_with fail
  refine (finish_walk Sh.H0 0 w2 A n c b (sh_still HB.out HT2.out) HC.out HM.out (by decide) (HK.out.turn HT2.out)).mono ?_
  rintro e w3 ⟨rfl, ht⟩
  refine HK9.out _ _ ?_
  clear HK9
  try simp only [Act.put, List.setIfInBounds_toArray, List.set_cons_zero, List.set_cons_succ]
  rw [HS.out]
  have HBr3 := Lib.hid (HBr2.out.turn ht fun e => e)
  have HT3 := Lib.hid (HT2.out.trans ht fun _ _ e => e)
  clear ht
  refine wpList_store_row (wanted_none rfl) 71 (.tmp 2) (.tmp 5) rfl (byteCells F) HBr3.out rfl rfl (by rw [bc_size, bc_size, HL.out]; rfl) (by rw [size_hs, bc_size, HL.out]) (bc_one _) ?_
  intro w4 hb_ ht_
  have HBZ := Lib.hid hb_
  have HT4 := Lib.hid ht_
  clear hb_ ht_
  simp only [Act.put, List.setIfInBounds_toArray, List.set_cons_zero, List.set_cons_succ]
  have HTZ := Lib.hid (HT3.out.trans HT4.out fun k' hk e => by have := HLr.out; have e : k' = r := e; omega)
  go_wp2_with fail
  refine bodyPost_ret (v := .agg (byteCells F)) (ret_cell1_g rfl _ _ r _ _ _ rfl HBZ.out Tryz.underlying71 rfl (by rw [size_hs, bc_size, HL.out] <;> rfl)) rfl ?_
  exact ⟨rfl, HTZ.out⟩
set_option maxRecDepth 20000 in
set_option maxHeartbeats 4000000 in
theorem key_walk (w : World) (A : Option Addr) (n c : Nat) (b : B8) (hb : Bs w A n b) (hc : n ≤ c) (hm : n ≤ 140737488355328) (hk : KT w) :
    Calls Tryz.prog 36 #[.slice A n c] w fun e w' => e = .returned (.agg (byteCells (Sh.full b))) ∧ Turn nowhere w w' := by
  have HB := Lib.hid hb
  have HC := Lib.hid hc
  have HM := Lib.hid hm
  have HK := Lib.hid hk
  have HN := Lib.hid hb.1
  have yn : (n : Int) ≤ 140737488355328 := by omega
  have HF0 := Lib.hid (show Sh.full b = Sh.fit b ++ Sh.zs (64 - (Sh.fit b).length) from rfl)
  have HFL := Lib.hid (Sh.fit_le b)
  have HL := Lib.hid (Sh.full_len b)
  obtain ⟨F, hF⟩ : ∃ F, Sh.full b = F := ⟨_, rfl⟩
  rw [hF] at HF0 HL ⊢
  clear hb hc hm hk hF
  go_enter Tryz.func36, Tryz.ntmps36
  go_upto_region 0 with fail
  refine wp_region_lit ?_
  refine wpList_run (v := .pointer (some ⟨(w).heap.size, 0, none⟩)) (w' := (w).alloc (.cells (byteCells (Sh.zs 64)) 85)) (wanted_none rfl) (gx_alloc rfl (zero_pc _)) ?_
  simp only [Act.put, List.setIfInBounds_toArray, List.set_cons_zero, List.set_cons_succ]
  have hb_r := Blk.new (w) 85 (byteCells (Sh.zs 64))
  have ht_ := (Turn.refl nowhere (w)).alloc (.cells (byteCells (Sh.zs 64)) 85)
  obtain ⟨n0_, hn0_⟩ : ∃ n, n = (w).heap.size := ⟨_, rfl⟩
  have hz_r : (w).heap.size = n0_ + 0 := by rw [hn0_]; simp
  obtain ⟨r, hg_⟩ : ∃ g, g = (w).heap.size := ⟨_, rfl⟩
  rw [← hg_] at hb_r hz_r ⊢
  clear hg_
  generalize (w).alloc (.cells (byteCells (Sh.zs 64)) 85) = w1 at *
  have HT1 := Lib.hid ht_
  clear ht_
  have HBr := Lib.hid hb_r
  have HLr := Lib.hid (show (w).heap.size ≤ r from by omega)
  clear hb_r
  clear hn0_ hz_r
  clear n0_
  go_upto_region 1 with fail
  refine wp_region_lit ?_
  refine wpList_run (v := .pointer (some ⟨(w1).heap.size, 0, none⟩)) (w' := (w1).alloc (.cells (byteCells (Sh.zs 64)) 85)) (wanted_none rfl) (gx_alloc rfl (zero_pc _)) ?_
  simp only [Act.put, List.setIfInBounds_toArray, List.set_cons_zero, List.set_cons_succ]
  have hb_k := Blk.new (w1) 85 (byteCells (Sh.zs 64))
  have ht_ := (Turn.refl nowhere (w1)).alloc (.cells (byteCells (Sh.zs 64)) 85)
  obtain ⟨n0_, hn0_⟩ : ∃ n, n = (w1).heap.size := ⟨_, rfl⟩
  have hz_k : (w1).heap.size = n0_ + 0 := by rw [hn0_]; simp
  obtain ⟨k, hg_⟩ : ∃ g, g = (w1).heap.size := ⟨_, rfl⟩
  rw [← hg_] at hb_k hz_k ⊢
  clear hg_
  generalize (w1).alloc (.cells (byteCells (Sh.zs 64)) 85) = w2 at *
  have HT2 := Lib.hid ht_
  clear ht_
  have HBk := Lib.hid hb_k
  have HLk := Lib.hid (show (w1).heap.size ≤ k from by omega)
  clear hb_k
  clear hn0_ hz_k
  clear n0_
  have HBr2 := Lib.hid (HBr.out.turn HT2.out fun e => e)
  have HLk2 := Lib.hid (show w.heap.size ≤ k from Nat.le_trans HT1.out.size HLk.out)
  have HNrk := Lib.hid (show r ≠ k from by have := HBr.out.lt; have := HLk.out; omega)
  have HT12 := Lib.hid (HT1.out.trans HT2.out fun _ _ e => e)
  clear HBr HT1 HT2 HLk
  by_cases h64 : 64 < n
  · as_aux_lemma =>
      have y64 : 64 < (n : Int) := by omega
      have HFH := Lib.hid (fit_hi (k := b) (by rw [HN.out]; exact h64))
      clear h64
      go_upto_region 2 with fail
      refine wp_region_lit ?_
      refine wpList_run (v := .slice A n c) (wanted_none rfl) (exec_move rfl rfl) ?_
      simp only [Act.put, List.setIfInBounds_toArray, List.set_cons_zero, List.set_cons_succ]
      refine wpList_run (v := .int .i64 (n : Int)) (wanted_none rfl) (gx_len rfl rfl Tryz.underlying42) ?_
      simp only [Act.put, List.setIfInBounds_toArray, List.set_cons_zero, List.set_cons_succ]
      refine wpList_run (v := .bool true) (wanted_none rfl) (ix_gtr rfl rfl rfl (decide_eq_true y64)) ?_
      simp only [Act.put, List.setIfInBounds_toArray, List.set_cons_zero, List.set_cons_succ]
      go_upto_region 3 with fail
      refine wp_region_lit ?_
      refine wpList_run (v := .slice A n c) (wanted_none rfl) (exec_move rfl rfl) ?_
      simp only [Act.put, List.setIfInBounds_toArray, List.set_cons_zero, List.set_cons_succ]
      refine wpList_op_g rfl fun K9 HK9 => ?_
      go_wp2_with fail
      refine (sum_walk w2 A n c b (sh_still HB.out HT12.out) HC.out HM.out (HK.out.turn HT12.out)).mono ?_
      rintro e w3 ⟨rfl, ht⟩
      refine HK9.out _ _ ?_
      clear HK9
      try simp only [Act.put, List.setIfInBounds_toArray, List.set_cons_zero, List.set_cons_succ]
      have HBr3 := Lib.hid (HBr2.out.turn ht fun e => e)
      have HBk3 := Lib.hid (HBk.out.turn ht fun e => e)
      have HT3 := Lib.hid (HT12.out.trans ht fun _ _ e => e)
      have HSL := Lib.hid (Sh.sum_len b)
      rw [← HFH.out] at HSL ⊢
      obtain ⟨KK, hKK⟩ : ∃ KK, Sh.fit b = KK := ⟨_, rfl⟩
      rw [hKK] at HSL ⊢
      have HKK := Lib.hid hKK
      clear ht hKK HFH HBr2 HBk HT12
      refine wpList_run (v := .pointer (some ⟨w3.heap.size, 0, none⟩)) (w' := w3.alloc (.cells (byteCells (Sh.zs 32)) 71)) (wanted_none rfl) (gx_alloc rfl (zero_hs _)) ?_
      simp only [Act.put, List.setIfInBounds_toArray, List.set_cons_zero, List.set_cons_succ]
      have hb_ := Blk.new w3 71 (byteCells (Sh.zs 32))
      have ht_ := (Turn.refl nowhere w3).alloc (.cells (byteCells (Sh.zs 32)) 71)
      obtain ⟨g, hg_⟩ : ∃ g, g = w3.heap.size := ⟨_, rfl⟩
      rw [← hg_] at hb_ ⊢
      have HLg := Lib.hid (show w3.heap.size ≤ g from by omega)
      clear hg_
      generalize w3.alloc (.cells (byteCells (Sh.zs 32)) 71) = w4 at *
      have HBg := Lib.hid hb_
      have HT4 := Lib.hid ht_
      clear hb_ ht_
      refine wpList_store_row (wanted_none rfl) 71 (.tmp 4) (.tmp 9) rfl (byteCells KK) HBg.out rfl rfl (by rw [bc_size, bc_size, HSL.out]; rfl) (by rw [size_hs, bc_size, HSL.out]) (bc_one _) ?_
      intro w5 hb_ ht_
      have HBg5 := Lib.hid hb_
      have HT5 := Lib.hid ht_
      clear hb_ ht_
      simp only [Act.put, List.setIfInBounds_toArray, List.set_cons_zero, List.set_cons_succ]
      have HT35 := Lib.hid (HT4.out.trans HT5.out fun k' hk e => by have := HLg.out; have e : k' = g := e; omega)
      have HBr5 := Lib.hid (HBr3.out.turn HT35.out fun e => e)
      have HBk5 := Lib.hid (HBk3.out.turn HT35.out fun e => e)
      have HTw5 := Lib.hid (HT3.out.trans HT35.out fun _ _ e => e)
      clear HBr3 HBk3 HT3 HT35 HT4 HT5
      go_upto_region 4 with fail
      refine wp_region_lit ?_
      refine wpList_run (v := .slice (some ⟨g, 0, none⟩) 32 32) (wanted_none rfl) (exec_slice rfl rfl rfl rfl rfl (sl_hs g _)) ?_
      simp only [Act.put, List.setIfInBounds_toArray, List.set_cons_zero, List.set_cons_succ]
      refine wpList_run (v := .slice (some ⟨g, 0, none⟩) 32 32) (wanted_none rfl) (gx_assign rfl rfl) ?_
      simp only [Act.put, List.setIfInBounds_toArray, List.set_cons_zero, List.set_cons_succ]
      obtain ⟨K, hK⟩ : ∃ K, Sh.fit b = K := ⟨_, rfl⟩
      have HBS := Lib.hid (show Bs w5 (some ⟨g, 0, none⟩) 32 (Sh.fit b) from by rw [HKK.out]; exact bs_arr HBg5.out HSL.out (by decide))
      rw [hK] at HF0 HFL HBS
      have HKL := Lib.hid HBS.out.1
      clear hK
      have HRT := Lib.hid (show K.take 64 ++ (Sh.zs 64).drop (min 32 64) = F from by
        rw [HF0.out, List.take_of_length_le HFL.out, HKL.out, show min 32 64 = 32 from by have := HFL.out; have := HKL.out; omega]
        unfold Sh.zs
        rw [List.drop_replicate])
      obtain ⟨wc, hcp, hck, hct⟩ := run_copy_arr (ty := 3) (cap := 32) HBS.out HBk5.out (Sh.zs_len 64)
      rw [HRT.out] at hck
      have HCP := Lib.hid hcp
      have HBKc := Lib.hid hck
      have HBRc := Lib.hid (HBr5.out.turn (F := only k) hct fun e => HNrk.out e)
      have HTRc := Lib.hid (HTw5.out.trans hct fun k' hk e => by have := HLk2.out; have e : k' = k := e; omega)
      clear hcp hck hct
      go_upto_region 5 with fail
      refine wp_region_lit ?_
      refine wpList_run (v := .slice (some ⟨k, 0, none⟩) 64 64) (wanted_none rfl) (exec_slice rfl rfl rfl rfl rfl (sl_pc k _)) ?_
      simp only [Act.put, List.setIfInBounds_toArray, List.set_cons_zero, List.set_cons_succ]
      refine wpList_run (v := .slice (some ⟨g, 0, none⟩) 32 32) (wanted_none rfl) (exec_move rfl rfl) ?_
      simp only [Act.put, List.setIfInBounds_toArray, List.set_cons_zero, List.set_cons_succ]
      refine wpList_run (v := .int .i64 ((min 32 64 : Nat) : Int)) (w' := wc) (wanted_none rfl) (exec_copy_g rfl rfl rfl HCP.out) ?_
      simp only [Act.put, List.setIfInBounds_toArray, List.set_cons_zero, List.set_cons_succ]
      go_upto_region 6 with fail
      refine wp_region_lit ?_
      refine wpList_run (v := .agg (byteCells F)) (wanted_none rfl) (gx_loads_g rfl rfl (blk_range_g HBKc.out) Tryz.underlying85 rfl (size_pc.trans (congrArg some ((bc_size _).trans HL.out).symm))) ?_
      simp only [Act.put, List.setIfInBounds_toArray, List.set_cons_zero, List.set_cons_succ]
      refine wpList_store_row (wanted_none rfl) 85 (.tmp 2) (.tmp 14) rfl (byteCells F) HBRc.out rfl rfl (by rw [bc_size, bc_size, HL.out]; rfl) (by rw [size_pc, bc_size, HL.out]) (bc_one _) ?_
      intro wz hb_ ht_
      have HBZ := Lib.hid hb_
      have HTz := Lib.hid ht_
      clear hb_ ht_
      simp only [Act.put, List.setIfInBounds_toArray, List.set_cons_zero, List.set_cons_succ]
      have HTZ := Lib.hid (HTRc.out.trans HTz.out fun k' hk e => by have := HLr.out; have e : k' = r := e; omega)
      go_wp2_with fail
      refine bodyPost_ret (v := .agg (byteCells F)) (ret_cell1_g rfl _ _ r _ _ _ rfl HBZ.out Tryz.underlying85 rfl (by rw [size_pc, bc_size, HL.out] <;> rfl)) rfl ?_
      exact ⟨rfl, HTZ.out⟩
  · as_aux_lemma =>
      have y64 : (n : Int) ≤ 64 := by omega
      have HFH := Lib.hid (fit_lo (k := b) (by rw [HN.out]; exact h64))
      clear h64
      go_upto_region 2 with fail
      refine wp_region_lit ?_
      refine wpList_run (v := .slice A n c) (wanted_none rfl) (exec_move rfl rfl) ?_
      simp only [Act.put, List.setIfInBounds_toArray, List.set_cons_zero, List.set_cons_succ]
      refine wpList_run (v := .int .i64 (n : Int)) (wanted_none rfl) (gx_len rfl rfl Tryz.underlying42) ?_
      simp only [Act.put, List.setIfInBounds_toArray, List.set_cons_zero, List.set_cons_succ]
      refine wpList_run (v := .bool false) (wanted_none rfl) (ix_gtr rfl rfl rfl (decide_eq_false (by omega))) ?_
      simp only [Act.put, List.setIfInBounds_toArray, List.set_cons_zero, List.set_cons_succ]
      obtain ⟨K, hK⟩ : ∃ K, Sh.fit b = K := ⟨_, rfl⟩
      have HBS := Lib.hid (show Bs w2 A n (Sh.fit b) from by rw [HFH.out]; exact sh_still HB.out HT12.out)
      rw [hK] at HF0 HFL HBS
      have HKL := Lib.hid HBS.out.1
      clear hK
      have HRT := Lib.hid (show K.take 64 ++ (Sh.zs 64).drop (min n 64) = F from by
        rw [HF0.out, List.take_of_length_le HFL.out, HKL.out, show min n 64 = n from by have := HFL.out; have := HKL.out; omega]
        unfold Sh.zs
        rw [List.drop_replicate])
      obtain ⟨wc, hcp, hck, hct⟩ := run_copy_arr (ty := 3) (cap := c) HBS.out HBk.out (Sh.zs_len 64)
      rw [HRT.out] at hck
      have HCP := Lib.hid hcp
      have HBKc := Lib.hid hck
      have HBRc := Lib.hid (HBr2.out.turn (F := only k) hct fun e => HNrk.out e)
      have HTRc := Lib.hid (HT12.out.trans hct fun k' hk e => by have := HLk2.out; have e : k' = k := e; omega)
      clear hcp hck hct
      go_upto_region 5 with fail
      refine wp_region_lit ?_
      refine wpList_run (v := .slice (some ⟨k, 0, none⟩) 64 64) (wanted_none rfl) (exec_slice rfl rfl rfl rfl rfl (sl_pc k _)) ?_
      simp only [Act.put, List.setIfInBounds_toArray, List.set_cons_zero, List.set_cons_succ]
      refine wpList_run (v := .slice A n c) (wanted_none rfl) (exec_move rfl rfl) ?_
      simp only [Act.put, List.setIfInBounds_toArray, List.set_cons_zero, List.set_cons_succ]
      refine wpList_run (v := .int .i64 ((min n 64 : Nat) : Int)) (w' := wc) (wanted_none rfl) (exec_copy_g rfl rfl rfl HCP.out) ?_
      simp only [Act.put, List.setIfInBounds_toArray, List.set_cons_zero, List.set_cons_succ]
      go_upto_region 6 with fail
      refine wp_region_lit ?_
      refine wpList_run (v := .agg (byteCells F)) (wanted_none rfl) (gx_loads_g rfl rfl (blk_range_g HBKc.out) Tryz.underlying85 rfl (size_pc.trans (congrArg some ((bc_size _).trans HL.out).symm))) ?_
      simp only [Act.put, List.setIfInBounds_toArray, List.set_cons_zero, List.set_cons_succ]
      refine wpList_store_row (wanted_none rfl) 85 (.tmp 2) (.tmp 14) rfl (byteCells F) HBRc.out rfl rfl (by rw [bc_size, bc_size, HL.out]; rfl) (by rw [size_pc, bc_size, HL.out]) (bc_one _) ?_
      intro wz hb_ ht_
      have HBZ := Lib.hid hb_
      have HTz := Lib.hid ht_
      clear hb_ ht_
      simp only [Act.put, List.setIfInBounds_toArray, List.set_cons_zero, List.set_cons_succ]
      have HTZ := Lib.hid (HTRc.out.trans HTz.out fun k' hk e => by have := HLr.out; have e : k' = r := e; omega)
      go_wp2_with fail
      refine bodyPost_ret (v := .agg (byteCells F)) (ret_cell1_g rfl _ _ r _ _ _ rfl HBZ.out Tryz.underlying85 rfl (by rw [size_pc, bc_size, HL.out] <;> rfl)) rfl ?_
      exact ⟨rfl, HTZ.out⟩
end Go.Proofs.YtfnillibngijaaaGreatDoor
