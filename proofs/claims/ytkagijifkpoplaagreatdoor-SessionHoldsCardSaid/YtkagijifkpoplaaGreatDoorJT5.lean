/-
  Texts in one file. Conditions: the tables and the errors read as laid.
-/
import Derived.Test.YtkagijifkpoplaaGreatDoorJT4
import Derived.Test.YtkagijifkpoplaaGreatDoorJT0
import Derived.Test.YtkagijifkpoplaaGreatDoorJT1
set_option linter.unusedVariables false
set_option linter.unusedSimpArgs false
set_option maxRecDepth 40000
set_option maxHeartbeats 20000000
namespace Go.Proofs.YtkagijifkpoplaaGreatDoor
open Go.RowKit
open Sh (Wd B8 H8)
set_option maxRecDepth 20000
theorem alw_pair {P : Program} {md : Region.Mode} {ops : Array Oper} {Q : Exit → Act → World → Prop} {S : World → Prop} {i j : Nat} {o1 o2 : Oper} {n : Nat} {l : Array Bool} {a : Act} {w : World} (hr : Region.ready md ops l = [i, j]) (h1o : ops.toList[i]? = some o1) (h2o : ops.toList[j]? = some o2)
 (hw1 : Region.wanted o1 (yielded ops a.tmps) = true) (hw2 : Region.wanted o2 (yielded ops a.tmps) = true)
 (h1 : ∀ K : Act → World → Prop, Shut (∀ a' w', (S w' ∧ Alw P md ops Q S n (l.setIfInBounds i true) a' w') → K a' w') → o1.wp P a w K Q)
 (h2 : ∀ K : Act → World → Prop, Shut (∀ a' w', (S w' ∧ Alw P md ops Q S n (l.setIfInBounds j true) a' w') → K a' w') → o2.wp P a w K Q) : Alw P md ops Q S (n + 1) l a w := by
 refine ⟨fun h0 => (by rw [h0] at hr; cases hr), fun k hk => ?_⟩
 rw [hr] at hk
 have e1 : ops[i]? = some o1 := by rw [← h1o, Array.getElem?_toList]
 have e2 : ops[j]? = some o2 := by rw [← h2o, Array.getElem?_toList]
 rcases List.mem_cons.1 hk with rfl | hk
 ·unfold wpOp
  simp only [e1, hw1, if_true]
  exact .inl (h1 _ fun _ _ h' => h')
 ·obtain rfl : k = j := by simpa using hk
  unfold wpOp
  simp only [e2, hw2, if_true]
  exact .inl (h2 _ fun _ _ h' => h')
theorem fit_lo {k : B8} (h : ¬ 64 < k.length) : Sh.fit k = k := if_neg h
theorem fit_hi {k : B8} (h : 64 < k.length) : Sh.fit k = Sh.sum k := if_pos h
theorem sum_walk (w : World) (A : Option Addr) (n c : Nat) (b : B8) (hb : Bs w A n b) (hc : n ≤ c) (hm : n ≤ 140737488355328) (hk : KT w) :
 Calls Tryz.prog 71 #[.slice A n c] w fun e w' => e = .returned (.agg (byteCells (Sh.sum b))) ∧ Turn nowhere w w' := by
 have HB := zH hb
 have HC := zH hc
 have HM := zH hm
 have HK := zH hk
 have HS := zH (Sh.sum_finish b)
 have HL := zH (Sh.sum_len b)
 obtain ⟨F, hF⟩ : ∃ F, Sh.sum b = F := ⟨_, rfl⟩
 rw [hF] at HS HL ⊢
 clear hb hc hm hk hF
 go_enter Tryz.func71, Tryz.ntmps71
 go_upto_region 0 with fail
 refine wp_region_lit ?_
 refine wR (v := .pointer (some ⟨(w).heap.size, 0, none⟩)) (w' := (w).alloc (.cells (byteCells (Sh.zs 32)) 76)) wn (gx_alloc rfl (zero_hs _)) ?_
 simp only [zz]
 have hb_r := Blk.new (w) 76 (byteCells (Sh.zs 32))
 have ht_ := (Turn.refl nowhere (w)).alloc (.cells (byteCells (Sh.zs 32)) 76)
 obtain ⟨n0_, hn0_⟩ : ∃ n, n = (w).heap.size := ⟨_, rfl⟩
 have hz_r : (w).heap.size = n0_ + 0 := by rw [hn0_]; simp
 obtain ⟨r, hg_⟩ : ∃ g, g = (w).heap.size := ⟨_, rfl⟩
 rw [← hg_] at hb_r hz_r ⊢
 clear hg_
 generalize (w).alloc (.cells (byteCells (Sh.zs 32)) 76) = w1 at *
 have HT1 := zH ht_
 clear ht_
 have HBr := zH hb_r
 have HLr := zH (show (w).heap.size ≤ r from by omega)
 clear hb_r
 clear hn0_ hz_r
 clear n0_
 go_upto_region 1 with fail
 refine wp_region_lit ?_
 refine wpList_op_g rfl fun K9 HK9 => ?_
 go_wp2_with fail
 refine (start_walk w1).mono ?_
 rintro e w2 ⟨rfl, ht⟩
 refine HK9.out _ _ ?_
 clear HK9
 try simp only [zz]
 have HBr2 := zH (HBr.out.turn ht fun e => e)
 have HT2 := zH (HT1.out.trans ht fun _ _ e => e)
 clear ht
 refine nM (.slice A n c) ?_;simp only [zz]
 refine wpList_op_g rfl fun K9 HK9 => ?_
 go_wp2_with fail
 refine (finish_walk Sh.H0 0 w2 A n c b (sh_still HB.out HT2.out) HC.out HM.out (by decide) (HK.out.turn HT2.out)).mono ?_
 rintro e w3 ⟨rfl, ht⟩
 refine HK9.out _ _ ?_
 clear HK9
 try simp only [zz]
 rw [HS.out]
 have HBr3 := zH (HBr2.out.turn ht fun e => e)
 have HT3 := zH (HT2.out.trans ht fun _ _ e => e)
 clear ht
 refine wpList_store_row wn 76 (.tmp 2) (.tmp 5) rfl (byteCells F) HBr3.out rfl rfl (by rw [bc_size, bc_size, HL.out]; rfl) (by rw [size_hs, bc_size, HL.out]) (bc_one _) ?_
 intro w4 hb_ ht_
 have HBZ := zH hb_
 have HT4 := zH ht_
 clear hb_ ht_
 simp only [zz]
 have HTZ := zH (HT3.out.trans HT4.out fun k' hk e => by have := HLr.out; have e : k' = r := e; omega)
 go_wp2_with fail
 refine bodyPost_ret (v := .agg (byteCells F)) (ret_cell1_g rfl _ _ r _ _ _ rfl HBZ.out Tryz.underlying76 rfl (by rw [size_hs, bc_size, HL.out] <;> rfl)) rfl ?_
 exact ⟨rfl, HTZ.out⟩
theorem key_walk (w : World) (A : Option Addr) (n c : Nat) (b : B8) (hb : Bs w A n b) (hc : n ≤ c) (hm : n ≤ 140737488355328) (hk : KT w) :
 Calls Tryz.prog 48 #[.slice A n c] w fun e w' => e = .returned (.agg (byteCells (Sh.full b))) ∧ Turn nowhere w w' := by
 have HB := zH hb
 have HC := zH hc
 have HM := zH hm
 have HK := zH hk
 have HN := zH hb.1
 have yn : (n : Int) ≤ 140737488355328 := by omega
 have HF0 := zH (show Sh.full b = Sh.fit b ++ Sh.zs (64 - (Sh.fit b).length) from rfl)
 have HFL := zH (Sh.fit_le b)
 have HL := zH (Sh.full_len b)
 obtain ⟨F, hF⟩ : ∃ F, Sh.full b = F := ⟨_, rfl⟩
 rw [hF] at HF0 HL ⊢
 clear hb hc hm hk hF
 go_enter Tryz.func48, Tryz.ntmps48
 go_upto_region 0 with fail
 refine wp_region_lit ?_
 refine wR (v := .pointer (some ⟨(w).heap.size, 0, none⟩)) (w' := (w).alloc (.cells (byteCells (Sh.zs 64)) 90)) wn (gx_alloc rfl (zero_pc _)) ?_
 simp only [zz]
 have hb_r := Blk.new (w) 90 (byteCells (Sh.zs 64))
 have ht_ := (Turn.refl nowhere (w)).alloc (.cells (byteCells (Sh.zs 64)) 90)
 obtain ⟨n0_, hn0_⟩ : ∃ n, n = (w).heap.size := ⟨_, rfl⟩
 have hz_r : (w).heap.size = n0_ + 0 := by rw [hn0_]; simp
 obtain ⟨r, hg_⟩ : ∃ g, g = (w).heap.size := ⟨_, rfl⟩
 rw [← hg_] at hb_r hz_r ⊢
 clear hg_
 generalize (w).alloc (.cells (byteCells (Sh.zs 64)) 90) = w1 at *
 have HT1 := zH ht_
 clear ht_
 have HBr := zH hb_r
 have HLr := zH (show (w).heap.size ≤ r from by omega)
 clear hb_r
 clear hn0_ hz_r
 clear n0_
 go_upto_region 1 with fail
 refine wp_region_lit ?_
 refine wR (v := .pointer (some ⟨(w1).heap.size, 0, none⟩)) (w' := (w1).alloc (.cells (byteCells (Sh.zs 64)) 90)) wn (gx_alloc rfl (zero_pc _)) ?_
 simp only [zz]
 have hb_k := Blk.new (w1) 90 (byteCells (Sh.zs 64))
 have ht_ := (Turn.refl nowhere (w1)).alloc (.cells (byteCells (Sh.zs 64)) 90)
 obtain ⟨n0_, hn0_⟩ : ∃ n, n = (w1).heap.size := ⟨_, rfl⟩
 have hz_k : (w1).heap.size = n0_ + 0 := by rw [hn0_]; simp
 obtain ⟨k, hg_⟩ : ∃ g, g = (w1).heap.size := ⟨_, rfl⟩
 rw [← hg_] at hb_k hz_k ⊢
 clear hg_
 generalize (w1).alloc (.cells (byteCells (Sh.zs 64)) 90) = w2 at *
 have HT2 := zH ht_
 clear ht_
 have HBk := zH hb_k
 have HLk := zH (show (w1).heap.size ≤ k from by omega)
 clear hb_k
 clear hn0_ hz_k
 clear n0_
 have HBr2 := zH (HBr.out.turn HT2.out fun e => e)
 have HLk2 := zH (show w.heap.size ≤ k from Nat.le_trans HT1.out.size HLk.out)
 have HNrk := zH (show r ≠ k from by have := HBr.out.lt; have := HLk.out; omega)
 have HT12 := zH (HT1.out.trans HT2.out fun _ _ e => e)
 clear HBr HT1 HT2 HLk
 by_cases h64 : 64 < n
 ·as_aux_lemma =>
   have y64 : 64 < (n : Int) := by omega
   have HFH := zH (fit_hi (k := b) (by rw [HN.out]; exact h64))
   clear h64
   go_upto_region 2 with fail
   refine wp_region_lit ?_
   refine nM (.slice A n c) ?_;simp only [zz];refine nR (.int .i64 (n : Int)) (gx_len rfl rfl Tryz.underlying22) ?_;simp only [zz];refine nR (.bool true) (ix_gtr rfl rfl rfl (decide_eq_true y64)) ?_;simp only [zz]
   go_upto_region 3 with fail
   refine wp_region_lit ?_
   refine nM (.slice A n c) ?_;simp only [zz]
   refine wpList_op_g rfl fun K9 HK9 => ?_
   go_wp2_with fail
   refine (sum_walk w2 A n c b (sh_still HB.out HT12.out) HC.out HM.out (HK.out.turn HT12.out)).mono ?_
   rintro e w3 ⟨rfl, ht⟩
   refine HK9.out _ _ ?_
   clear HK9
   try simp only [zz]
   have HBr3 := zH (HBr2.out.turn ht fun e => e)
   have HBk3 := zH (HBk.out.turn ht fun e => e)
   have HT3 := zH (HT12.out.trans ht fun _ _ e => e)
   have HSL := zH (Sh.sum_len b)
   rw [← HFH.out] at HSL ⊢
   obtain ⟨KK, hKK⟩ : ∃ KK, Sh.fit b = KK := ⟨_, rfl⟩
   rw [hKK] at HSL ⊢
   have HKK := zH hKK
   clear ht hKK HFH HBr2 HBk HT12
   refine wR (v := .pointer (some ⟨w3.heap.size, 0, none⟩)) (w' := w3.alloc (.cells (byteCells (Sh.zs 32)) 76)) wn (gx_alloc rfl (zero_hs _)) ?_
   simp only [zz]
   have hb_ := Blk.new w3 76 (byteCells (Sh.zs 32))
   have ht_ := (Turn.refl nowhere w3).alloc (.cells (byteCells (Sh.zs 32)) 76)
   obtain ⟨g, hg_⟩ : ∃ g, g = w3.heap.size := ⟨_, rfl⟩
   rw [← hg_] at hb_ ⊢
   have HLg := zH (show w3.heap.size ≤ g from by omega)
   clear hg_
   generalize w3.alloc (.cells (byteCells (Sh.zs 32)) 76) = w4 at *
   have HBg := zH hb_
   have HT4 := zH ht_
   clear hb_ ht_
   refine wpList_store_row wn 76 (.tmp 4) (.tmp 9) rfl (byteCells KK) HBg.out rfl rfl (by rw [bc_size, bc_size, HSL.out]; rfl) (by rw [size_hs, bc_size, HSL.out]) (bc_one _) ?_
   intro w5 hb_ ht_
   have HBg5 := zH hb_
   have HT5 := zH ht_
   clear hb_ ht_
   simp only [zz]
   have HT35 := zH (HT4.out.trans HT5.out fun k' hk e => by have := HLg.out; have e : k' = g := e; omega)
   have HBr5 := zH (HBr3.out.turn HT35.out fun e => e)
   have HBk5 := zH (HBk3.out.turn HT35.out fun e => e)
   have HTw5 := zH (HT3.out.trans HT35.out fun _ _ e => e)
   clear HBr3 HBk3 HT3 HT35 HT4 HT5
   go_upto_region 4 with fail
   refine wp_region_lit ?_
   refine nR (.slice (some ⟨g, 0, none⟩) 32 32) (exec_slice rfl rfl rfl rfl rfl (sl_hs g _)) ?_;simp only [zz];refine nA (.slice (some ⟨g, 0, none⟩) 32 32) ?_;simp only [zz]
   obtain ⟨K, hK⟩ : ∃ K, Sh.fit b = K := ⟨_, rfl⟩
   have HBS := zH (show Bs w5 (some ⟨g, 0, none⟩) 32 (Sh.fit b) from by rw [HKK.out]; exact bs_arr HBg5.out HSL.out (by decide))
   rw [hK] at HF0 HFL HBS
   have HKL := zH HBS.out.1
   clear hK
   have HRT := zH (show K.take 64 ++ (Sh.zs 64).drop (min 32 64) = F from by
    rw [HF0.out, List.take_of_length_le HFL.out, HKL.out, show min 32 64 = 32 from by have := HFL.out; have := HKL.out; omega]
    unfold Sh.zs
    rw [List.drop_replicate])
   obtain ⟨wc, hcp, hck, hct⟩ := run_copy_arr (ty := 3) (cap := 32) HBS.out HBk5.out (Sh.zs_len 64)
   rw [HRT.out] at hck
   have HCP := zH hcp
   have HBKc := zH hck
   have HBRc := zH (HBr5.out.turn (F := only k) hct fun e => HNrk.out e)
   have HTRc := zH (HTw5.out.trans hct fun k' hk e => by have := HLk2.out; have e : k' = k := e; omega)
   clear hcp hck hct
   go_upto_region 5 with fail
   refine wp_region_lit ?_
   refine nR (.slice (some ⟨k, 0, none⟩) 64 64) (exec_slice rfl rfl rfl rfl rfl (sl_pc k _)) ?_;simp only [zz];refine nM (.slice (some ⟨g, 0, none⟩) 32 32) ?_;simp only [zz]
   refine wR (v := .int .i64 ((min 32 64 : Nat) : Int)) (w' := wc) wn (exec_copy_g rfl rfl rfl HCP.out) ?_
   simp only [zz]
   go_upto_region 6 with fail
   refine wp_region_lit ?_
   refine nR (.agg (byteCells F)) (gx_loads_g rfl rfl (blk_range_g HBKc.out) Tryz.underlying90 rfl (size_pc.trans (congrArg some ((bc_size _).trans HL.out).symm))) ?_;simp only [zz]
   refine wpList_store_row wn 90 (.tmp 2) (.tmp 14) rfl (byteCells F) HBRc.out rfl rfl (by rw [bc_size, bc_size, HL.out]; rfl) (by rw [size_pc, bc_size, HL.out]) (bc_one _) ?_
   intro wz hb_ ht_
   have HBZ := zH hb_
   have HTz := zH ht_
   clear hb_ ht_
   simp only [zz]
   have HTZ := zH (HTRc.out.trans HTz.out fun k' hk e => by have := HLr.out; have e : k' = r := e; omega)
   go_wp2_with fail
   refine bodyPost_ret (v := .agg (byteCells F)) (ret_cell1_g rfl _ _ r _ _ _ rfl HBZ.out Tryz.underlying90 rfl (by rw [size_pc, bc_size, HL.out] <;> rfl)) rfl ?_
   exact ⟨rfl, HTZ.out⟩
 ·as_aux_lemma =>
   have y64 : (n : Int) ≤ 64 := by omega
   have HFH := zH (fit_lo (k := b) (by rw [HN.out]; exact h64))
   clear h64
   go_upto_region 2 with fail
   refine wp_region_lit ?_
   refine nM (.slice A n c) ?_;simp only [zz];refine nR (.int .i64 (n : Int)) (gx_len rfl rfl Tryz.underlying22) ?_;simp only [zz];refine nR (.bool false) (ix_gtr rfl rfl rfl (decide_eq_false (by omega))) ?_;simp only [zz]
   obtain ⟨K, hK⟩ : ∃ K, Sh.fit b = K := ⟨_, rfl⟩
   have HBS := zH (show Bs w2 A n (Sh.fit b) from by rw [HFH.out]; exact sh_still HB.out HT12.out)
   rw [hK] at HF0 HFL HBS
   have HKL := zH HBS.out.1
   clear hK
   have HRT := zH (show K.take 64 ++ (Sh.zs 64).drop (min n 64) = F from by
    rw [HF0.out, List.take_of_length_le HFL.out, HKL.out, show min n 64 = n from by have := HFL.out; have := HKL.out; omega]
    unfold Sh.zs
    rw [List.drop_replicate])
   obtain ⟨wc, hcp, hck, hct⟩ := run_copy_arr (ty := 3) (cap := c) HBS.out HBk.out (Sh.zs_len 64)
   rw [HRT.out] at hck
   have HCP := zH hcp
   have HBKc := zH hck
   have HBRc := zH (HBr2.out.turn (F := only k) hct fun e => HNrk.out e)
   have HTRc := zH (HT12.out.trans hct fun k' hk e => by have := HLk2.out; have e : k' = k := e; omega)
   clear hcp hck hct
   go_upto_region 5 with fail
   refine wp_region_lit ?_
   refine nR (.slice (some ⟨k, 0, none⟩) 64 64) (exec_slice rfl rfl rfl rfl rfl (sl_pc k _)) ?_;simp only [zz];refine nM (.slice A n c) ?_;simp only [zz]
   refine wR (v := .int .i64 ((min n 64 : Nat) : Int)) (w' := wc) wn (exec_copy_g rfl rfl rfl HCP.out) ?_
   simp only [zz]
   go_upto_region 6 with fail
   refine wp_region_lit ?_
   refine nR (.agg (byteCells F)) (gx_loads_g rfl rfl (blk_range_g HBKc.out) Tryz.underlying90 rfl (size_pc.trans (congrArg some ((bc_size _).trans HL.out).symm))) ?_;simp only [zz]
   refine wpList_store_row wn 90 (.tmp 2) (.tmp 14) rfl (byteCells F) HBRc.out rfl rfl (by rw [bc_size, bc_size, HL.out]; rfl) (by rw [size_pc, bc_size, HL.out]) (bc_one _) ?_
   intro wz hb_ ht_
   have HBZ := zH hb_
   have HTz := zH ht_
   clear hb_ ht_
   simp only [zz]
   have HTZ := zH (HTRc.out.trans HTz.out fun k' hk e => by have := HLr.out; have e : k' = r := e; omega)
   go_wp2_with fail
   refine bodyPost_ret (v := .agg (byteCells F)) (ret_cell1_g rfl _ _ r _ _ _ rfl HBZ.out Tryz.underlying90 rfl (by rw [size_pc, bc_size, HL.out] <;> rfl)) rfl ?_
   exact ⟨rfl, HTZ.out⟩
set_option maxRecDepth 20000
theorem mac_walk (w : World) (A A2 : Option Addr) (n c n2 c2 : Nat) (key b : B8) (hkey : Bs w A n key) (hc : n ≤ c) (hm : n ≤ 140737488355328) (hb : Bs w A2 n2 b) (hc2 : n2 ≤ c2) (hm2 : n2 ≤ 140737488355328) (hk : KT w) :
 Calls Tryz.prog 35 #[.slice A n c, .slice A2 n2 c2] w fun e w' => e = .returned (.agg (byteCells (Sh.mac key b))) ∧ Turn nowhere w w' := by
 have HKEY := zH hkey
 have HC := zH hc
 have HM := zH hm
 have HB := zH hb
 have HC2 := zH hc2
 have HM2 := zH hm2
 have HK := zH hk
 have HMF := zH (Sh.mac_finish key b)
 have HL := zH (Sh.mac_len key b)
 have HFL := zH (Sh.full_len key)
 have HX1 := zH (show (Sh.mask (Sh.full key) 0x36).length = 64 from by rw [Sh.mask_len, HFL.out])
 have HX2 := zH (show (Sh.mask (Sh.full key) 0x5c).length = 64 from by rw [Sh.mask_len, HFL.out])
 obtain ⟨F, hF⟩ : ∃ F, Sh.mac key b = F := ⟨_, rfl⟩
 rw [hF] at HMF HL ⊢
 have HFK := zH (key_walk w A n c key hkey hc hm hk)
 obtain ⟨K, hK⟩ : ∃ K, Sh.full key = K := ⟨_, rfl⟩
 rw [hK] at HMF HFL HX1 HX2
 have HKK := zH hK
 have HME1 := zH (fun w0 => masked_walk K 0x36 w0 HFL.out)
 have HME2 := zH (fun w0 => masked_walk K 0x5c w0 HFL.out)
 obtain ⟨X1, hX1⟩ : ∃ X, Sh.mask K 0x36 = X := ⟨_, rfl⟩
 obtain ⟨X2, hX2⟩ : ∃ X, Sh.mask K 0x5c = X := ⟨_, rfl⟩
 rw [hX1] at HMF HX1 HME1
 rw [hX2] at HMF HX2 HME2
 have HTK1 := zH (fun w0 h => take_walk Sh.H0 X1 w0 HX1.out h)
 have HTK2 := zH (fun w0 h => take_walk Sh.H0 X2 w0 HX2.out h)
 have HST := zH start_walk
 obtain ⟨h0, hh0⟩ : ∃ h, Sh.H0 = h := ⟨_, rfl⟩
 rw [hh0] at HMF HTK1 HTK2 HST
 obtain ⟨h1, hh1⟩ : ∃ h, Sh.comp h0 X1 = h := ⟨_, rfl⟩
 obtain ⟨h2, hh2⟩ : ∃ h, Sh.comp h0 X2 = h := ⟨_, rfl⟩
 rw [hh1] at HMF HTK1
 rw [hh2] at HMF HTK2
 have HIL := zH (show (Sh.finish h1 64 b).length = 32 from rfl)
 have HFI := zH (fun w0 (ht : Turn nowhere w w0) => finish_walk h1 64 w0 A2 n2 c2 b (sh_still HB.out ht) HC2.out HM2.out (by decide) (HK.out.turn ht))
 obtain ⟨I, hI⟩ : ∃ I, Sh.finish h1 64 b = I := ⟨_, rfl⟩
 rw [hI] at HMF HIL HFI
 clear hkey hc hm hb hc2 hm2 hk hF hK hX1 hX2 hh0 hh1 hh2 hI
 go_enter Tryz.func35, Tryz.ntmps35
 go_upto_region 0 with fail
 refine wp_region_lit ?_
 refine wR (v := .pointer (some ⟨(w).heap.size, 0, none⟩)) (w' := (w).alloc (.cells (byteCells (Sh.zs 32)) 76)) wn (gx_alloc rfl (zero_hs _)) ?_
 simp only [zz]
 have hb_r := Blk.new (w) 76 (byteCells (Sh.zs 32))
 have ht_ := (Turn.refl nowhere (w)).alloc (.cells (byteCells (Sh.zs 32)) 76)
 obtain ⟨n0_, hn0_⟩ : ∃ n, n = (w).heap.size := ⟨_, rfl⟩
 have hz_r : (w).heap.size = n0_ + 0 := by rw [hn0_]; simp
 obtain ⟨r, hg_⟩ : ∃ g, g = (w).heap.size := ⟨_, rfl⟩
 rw [← hg_] at hb_r hz_r ⊢
 clear hg_
 generalize (w).alloc (.cells (byteCells (Sh.zs 32)) 76) = w1 at *
 have HT1 := zH ht_
 clear ht_
 have HBr := zH hb_r
 have HLr := zH (show (w).heap.size ≤ r from by omega)
 clear hb_r
 clear hn0_ hz_r
 clear n0_
 go_upto_region 1 with fail
 refine wp_region_lit ?_
 refine nM (.slice A n c) ?_;simp only [zz]
 refine wpList_op_g rfl fun K9 HK9 => ?_
 go_wp2_with fail
 refine ((key_walk w1 A n c key (sh_still HKEY.out HT1.out) HC.out HM.out (HK.out.turn HT1.out))).mono ?_
 rintro e w2 ⟨rfl, ht⟩
 refine HK9.out _ _ ?_
 clear HK9
 try simp only [zz]
 rw [HKK.out]
 have HBr2 := zH (HBr.out.turn ht fun e => e)
 have HT2 := zH (HT1.out.trans ht fun _ _ e => e)
 have HBr2lt := zH (show r < w2.heap.size from HBr2.out.lt)
 clear ht HBr HT1
 refine wR (v := .pointer (some ⟨w2.heap.size, 0, none⟩)) (w' := w2.alloc (.cells (byteCells (Sh.zs 64)) 90)) wn (gx_alloc rfl (zero_pc _)) ?_
 simp only [zz]
 have hb_ := Blk.new w2 90 (byteCells (Sh.zs 64))
 have ht_ := (Turn.refl nowhere w2).alloc (.cells (byteCells (Sh.zs 64)) 90)
 obtain ⟨k, hg_⟩ : ∃ g, g = w2.heap.size := ⟨_, rfl⟩
 rw [← hg_] at hb_ ⊢
 have HLk := zH (show w2.heap.size ≤ k from by omega)
 clear hg_
 generalize w2.alloc (.cells (byteCells (Sh.zs 64)) 90) = w3 at *
 have HBk := zH hb_
 have HT3 := zH ht_
 clear hb_ ht_
 refine wpList_store_row wn 90 (.tmp 5) (.tmp 8) rfl (byteCells K) HBk.out rfl rfl (by rw [bc_size, bc_size, HFL.out]; rfl) (by rw [size_pc, bc_size, HFL.out]) (bc_one _) ?_
 intro w4 hb_ ht_
 have HBk4 := zH hb_
 have HT4 := zH ht_
 clear hb_ ht_
 simp only [zz]
 have HT24 := zH (HT3.out.trans HT4.out fun k' hk e => by have := HLk.out; have e : k' = k := e; omega)
 have HBr4 := zH (HBr2.out.turn HT24.out fun e => e)
 have HTw4 := zH (HT2.out.trans HT24.out fun _ _ e => e)
 clear HBr2 HT2 HT24 HT3 HT4 HBk
 go_upto_region 2 with fail
 go_cut [6] from 9 to 14 (fun gv wx => ∃ g : Nat, gv = .pointer (some ⟨g, 0, none⟩) ∧ Blk wx g 76 (byteCells I) ∧ Blk wx k 90 (byteCells K) ∧ Blk wx r 76 (byteCells (Sh.zs 32)) ∧ Turn nowhere w wx)
 case first =>
  have HD := zH ((Turn.refl nowhere w4).drew)
  refine wp_region_alw (fun W => Blk W k 90 (byteCells K)) (by kernel_rfl) ?_
  have hS0 : (fun W => Blk W k 90 (byteCells K)) w4.drew := HBk4.out.drew
  have HTd := zH (HTw4.out.trans HD.out fun _ _ e => e)
  have HBrd := zH (HBr4.out.turn HD.out fun e => e)
  generalize w4.drew = wd at *
  clear HTw4 HBr4 HBk4 HD
  refine aU 1 (.agg (byteCells K)) rfl (fun W hW => gx_loads_g rfl rfl (blk_range_g hW) Tryz.underlying90 rfl (size_pc.trans (congrArg some ((bc_size _).trans HFL.out).symm))) hS0 ?_;simp only [zz];refine aM 4 (.slice A2 n2 c2) hS0 ?_;simp only [zz]
  refine alw_pair (i := 0) (j := 6) (by kernel_rfl) rfl rfl rfl rfl ?_ ?_
  ·as_aux_lemma =>
    intro K1 HK1
    go_wp2_with fail
    refine (HST.out wd).mono ?_
    rintro e c1 ⟨rfl, ht⟩
    have hS1 : (fun W => Blk W k 90 (byteCells K)) c1 := hS0.turn ht fun e => e
    have HTc1 := zH (HTd.out.trans ht fun _ _ e => e)
    have HBrc1 := zH (HBrd.out.turn ht fun e => e)
    refine HK1.out _ _ ⟨hS1, ?_⟩
    clear HK1 ht
    try simp only [zz]
    refine alw_pair (i := 2) (j := 6) (by kernel_rfl) rfl rfl rfl rfl ?_ ?_
    ·as_aux_lemma =>
      intro K1 HK1
      go_wp2_with fail
      refine (HME1.out c1).mono ?_
      rintro e c2 ⟨rfl, ht⟩
      have hS2 : (fun W => Blk W k 90 (byteCells K)) c2 := hS1.turn ht fun e => e
      have HTc2 := zH (HTc1.out.trans ht fun _ _ e => e)
      have HBrc2 := zH (HBrc1.out.turn ht fun e => e)
      refine HK1.out _ _ ⟨hS2, ?_⟩
      clear HK1 ht
      try simp only [zz]
      refine alw_pair (i := 3) (j := 6) (by kernel_rfl) rfl rfl rfl rfl ?_ ?_
      ·as_aux_lemma =>
        intro K1 HK1
        go_wp2_with fail
        refine (HTK1.out c2 (HK.out.turn HTc2.out)).mono ?_
        rintro e c3 ⟨rfl, ht⟩
        have hS3 : (fun W => Blk W k 90 (byteCells K)) c3 := hS2.turn ht fun e => e
        have HTc3 := zH (HTc2.out.trans ht fun _ _ e => e)
        have HBrc3 := zH (HBrc2.out.turn ht fun e => e)
        refine HK1.out _ _ ⟨hS3, ?_⟩
        clear HK1 ht
        try simp only [zz]
        refine alw_pair (i := 5) (j := 6) (by kernel_rfl) rfl rfl rfl rfl ?_ ?_
        ·as_aux_lemma =>
          intro K1 HK1
          go_wp2_with fail
          refine (HFI.out c3 HTc3.out).mono ?_
          rintro e c4 ⟨rfl, ht⟩
          have hS4 : (fun W => Blk W k 90 (byteCells K)) c4 := hS3.turn ht fun e => e
          have HTc4 := zH (HTc3.out.trans ht fun _ _ e => e)
          have HBrc4 := zH (HBrc3.out.turn ht fun e => e)
          refine HK1.out _ _ ⟨hS4, ?_⟩
          clear HK1 ht
          try simp only [zz]
          refine alw_step (i := 6) (by kernel_rfl) rfl rfl ?_
          intro K1 HK1
          refine wp_run (v := .pointer (some ⟨c4.heap.size, 0, none⟩)) (w' := c4.alloc (.cells (byteCells (Sh.zs 32)) 76)) (gx_alloc rfl (zero_hs _)) ?_
          have hb_ := Blk.new c4 76 (byteCells (Sh.zs 32))
          have ht := (Turn.refl nowhere c4).alloc (.cells (byteCells (Sh.zs 32)) 76)
          have HLg := zH (show w.heap.size ≤ c4.heap.size from HTc4.out.size)
          have HNrg := zH (show r ≠ c4.heap.size from by have := HBrc4.out.lt; omega)
          have HNkg := zH (show k ≠ c4.heap.size from by have := hS4.lt; omega)
          obtain ⟨g, hg_⟩ : ∃ g, g = c4.heap.size := ⟨_, rfl⟩
          rw [← hg_] at hb_ HLg HNrg HNkg ⊢
          clear hg_
          generalize c4.alloc (.cells (byteCells (Sh.zs 32)) 76) = c5 at *
          have hS5 : (fun W => Blk W k 90 (byteCells K)) c5 := hS4.turn ht fun e => e
          have HTc5 := zH (HTc4.out.trans ht fun _ _ e => e)
          have HBrc5 := zH (HBrc4.out.turn ht fun e => e)
          have HBgc5 := zH hb_
          refine HK1.out _ _ ⟨hS5, ?_⟩
          clear HK1 ht hb_
          try simp only [zz]
          refine alw_step (i := 7) (by kernel_rfl) rfl rfl ?_
          intro K1 HK1
          refine wp_store_rowU_g 76 (.tmp 6) (.tmp 14) rfl (byteCells I) HBgc5.out rfl rfl (by rw [bc_size, bc_size, HIL.out]; rfl) (by rw [size_hs, bc_size, HIL.out]) (bc_one _) ?_
          intro wz hbz htz
          refine HK1.out _ _ ⟨hS5.turn (F := only g) htz (fun e => HNkg.out e), ?_⟩
          clear HK1
          try simp only [zz]
          refine alw_done rfl ?_
          refine NoPanic.normal ?_
          go_wp2_with fail
          go_meet
          exact ⟨g, rfl, hbz, hS5.turn (F := only g) htz (fun e => HNkg.out e), HBrc5.out.turn (F := only g) htz (fun e => HNrg.out e), HTc5.out.trans htz fun k' hk e => by have := HLg.out; have e : k' = g := e; omega⟩
        ·as_aux_lemma =>
          intro K1 HK1
          refine wp_run (v := .pointer (some ⟨c3.heap.size, 0, none⟩)) (w' := c3.alloc (.cells (byteCells (Sh.zs 32)) 76)) (gx_alloc rfl (zero_hs _)) ?_
          have hb_ := Blk.new c3 76 (byteCells (Sh.zs 32))
          have ht := (Turn.refl nowhere c3).alloc (.cells (byteCells (Sh.zs 32)) 76)
          have HLg := zH (show w.heap.size ≤ c3.heap.size from HTc3.out.size)
          have HNrg := zH (show r ≠ c3.heap.size from by have := HBrc3.out.lt; omega)
          have HNkg := zH (show k ≠ c3.heap.size from by have := hS3.lt; omega)
          obtain ⟨g, hg_⟩ : ∃ g, g = c3.heap.size := ⟨_, rfl⟩
          rw [← hg_] at hb_ HLg HNrg HNkg ⊢
          clear hg_
          generalize c3.alloc (.cells (byteCells (Sh.zs 32)) 76) = c6 at *
          have hS6 : (fun W => Blk W k 90 (byteCells K)) c6 := hS3.turn ht fun e => e
          have HTc6 := zH (HTc3.out.trans ht fun _ _ e => e)
          have HBrc6 := zH (HBrc3.out.turn ht fun e => e)
          have HBgc6 := zH hb_
          refine HK1.out _ _ ⟨hS6, ?_⟩
          clear HK1 ht hb_
          try simp only [zz]
          refine alw_step (i := 5) (by kernel_rfl) rfl rfl ?_
          intro K1 HK1
          go_wp2_with fail
          refine (HFI.out c6 HTc6.out).mono ?_
          rintro e c7 ⟨rfl, ht⟩
          have hS7 : (fun W => Blk W k 90 (byteCells K)) c7 := hS6.turn ht fun e => e
          have HTc7 := zH (HTc6.out.trans ht fun _ _ e => e)
          have HBrc7 := zH (HBrc6.out.turn ht fun e => e)
          have HBgc7 := zH (HBgc6.out.turn ht fun e => e)
          refine HK1.out _ _ ⟨hS7, ?_⟩
          clear HK1 ht
          try simp only [zz]
          refine alw_step (i := 7) (by kernel_rfl) rfl rfl ?_
          intro K1 HK1
          refine wp_store_rowU_g 76 (.tmp 6) (.tmp 14) rfl (byteCells I) HBgc7.out rfl rfl (by rw [bc_size, bc_size, HIL.out]; rfl) (by rw [size_hs, bc_size, HIL.out]) (bc_one _) ?_
          intro wz hbz htz
          refine HK1.out _ _ ⟨hS7.turn (F := only g) htz (fun e => HNkg.out e), ?_⟩
          clear HK1
          try simp only [zz]
          refine alw_done rfl ?_
          refine NoPanic.normal ?_
          go_wp2_with fail
          go_meet
          exact ⟨g, rfl, hbz, hS7.turn (F := only g) htz (fun e => HNkg.out e), HBrc7.out.turn (F := only g) htz (fun e => HNrg.out e), HTc7.out.trans htz fun k' hk e => by have := HLg.out; have e : k' = g := e; omega⟩
      ·as_aux_lemma =>
        intro K1 HK1
        refine wp_run (v := .pointer (some ⟨c2.heap.size, 0, none⟩)) (w' := c2.alloc (.cells (byteCells (Sh.zs 32)) 76)) (gx_alloc rfl (zero_hs _)) ?_
        have hb_ := Blk.new c2 76 (byteCells (Sh.zs 32))
        have ht := (Turn.refl nowhere c2).alloc (.cells (byteCells (Sh.zs 32)) 76)
        have HLg := zH (show w.heap.size ≤ c2.heap.size from HTc2.out.size)
        have HNrg := zH (show r ≠ c2.heap.size from by have := HBrc2.out.lt; omega)
        have HNkg := zH (show k ≠ c2.heap.size from by have := hS2.lt; omega)
        obtain ⟨g, hg_⟩ : ∃ g, g = c2.heap.size := ⟨_, rfl⟩
        rw [← hg_] at hb_ HLg HNrg HNkg ⊢
        clear hg_
        generalize c2.alloc (.cells (byteCells (Sh.zs 32)) 76) = c8 at *
        have hS8 : (fun W => Blk W k 90 (byteCells K)) c8 := hS2.turn ht fun e => e
        have HTc8 := zH (HTc2.out.trans ht fun _ _ e => e)
        have HBrc8 := zH (HBrc2.out.turn ht fun e => e)
        have HBgc8 := zH hb_
        refine HK1.out _ _ ⟨hS8, ?_⟩
        clear HK1 ht hb_
        try simp only [zz]
        refine alw_step (i := 3) (by kernel_rfl) rfl rfl ?_
        intro K1 HK1
        go_wp2_with fail
        refine (HTK1.out c8 (HK.out.turn HTc8.out)).mono ?_
        rintro e c9 ⟨rfl, ht⟩
        have hS9 : (fun W => Blk W k 90 (byteCells K)) c9 := hS8.turn ht fun e => e
        have HTc9 := zH (HTc8.out.trans ht fun _ _ e => e)
        have HBrc9 := zH (HBrc8.out.turn ht fun e => e)
        have HBgc9 := zH (HBgc8.out.turn ht fun e => e)
        refine HK1.out _ _ ⟨hS9, ?_⟩
        clear HK1 ht
        try simp only [zz]
        refine alw_step (i := 5) (by kernel_rfl) rfl rfl ?_
        intro K1 HK1
        go_wp2_with fail
        refine (HFI.out c9 HTc9.out).mono ?_
        rintro e c10 ⟨rfl, ht⟩
        have hS10 : (fun W => Blk W k 90 (byteCells K)) c10 := hS9.turn ht fun e => e
        have HTc10 := zH (HTc9.out.trans ht fun _ _ e => e)
        have HBrc10 := zH (HBrc9.out.turn ht fun e => e)
        have HBgc10 := zH (HBgc9.out.turn ht fun e => e)
        refine HK1.out _ _ ⟨hS10, ?_⟩
        clear HK1 ht
        try simp only [zz]
        refine alw_step (i := 7) (by kernel_rfl) rfl rfl ?_
        intro K1 HK1
        refine wp_store_rowU_g 76 (.tmp 6) (.tmp 14) rfl (byteCells I) HBgc10.out rfl rfl (by rw [bc_size, bc_size, HIL.out]; rfl) (by rw [size_hs, bc_size, HIL.out]) (bc_one _) ?_
        intro wz hbz htz
        refine HK1.out _ _ ⟨hS10.turn (F := only g) htz (fun e => HNkg.out e), ?_⟩
        clear HK1
        try simp only [zz]
        refine alw_done rfl ?_
        refine NoPanic.normal ?_
        go_wp2_with fail
        go_meet
        exact ⟨g, rfl, hbz, hS10.turn (F := only g) htz (fun e => HNkg.out e), HBrc10.out.turn (F := only g) htz (fun e => HNrg.out e), HTc10.out.trans htz fun k' hk e => by have := HLg.out; have e : k' = g := e; omega⟩
    ·as_aux_lemma =>
      intro K1 HK1
      refine wp_run (v := .pointer (some ⟨c1.heap.size, 0, none⟩)) (w' := c1.alloc (.cells (byteCells (Sh.zs 32)) 76)) (gx_alloc rfl (zero_hs _)) ?_
      have hb_ := Blk.new c1 76 (byteCells (Sh.zs 32))
      have ht := (Turn.refl nowhere c1).alloc (.cells (byteCells (Sh.zs 32)) 76)
      have HLg := zH (show w.heap.size ≤ c1.heap.size from HTc1.out.size)
      have HNrg := zH (show r ≠ c1.heap.size from by have := HBrc1.out.lt; omega)
      have HNkg := zH (show k ≠ c1.heap.size from by have := hS1.lt; omega)
      obtain ⟨g, hg_⟩ : ∃ g, g = c1.heap.size := ⟨_, rfl⟩
      rw [← hg_] at hb_ HLg HNrg HNkg ⊢
      clear hg_
      generalize c1.alloc (.cells (byteCells (Sh.zs 32)) 76) = c11 at *
      have hS11 : (fun W => Blk W k 90 (byteCells K)) c11 := hS1.turn ht fun e => e
      have HTc11 := zH (HTc1.out.trans ht fun _ _ e => e)
      have HBrc11 := zH (HBrc1.out.turn ht fun e => e)
      have HBgc11 := zH hb_
      refine HK1.out _ _ ⟨hS11, ?_⟩
      clear HK1 ht hb_
      try simp only [zz]
      refine alw_step (i := 2) (by kernel_rfl) rfl rfl ?_
      intro K1 HK1
      go_wp2_with fail
      refine (HME1.out c11).mono ?_
      rintro e c12 ⟨rfl, ht⟩
      have hS12 : (fun W => Blk W k 90 (byteCells K)) c12 := hS11.turn ht fun e => e
      have HTc12 := zH (HTc11.out.trans ht fun _ _ e => e)
      have HBrc12 := zH (HBrc11.out.turn ht fun e => e)
      have HBgc12 := zH (HBgc11.out.turn ht fun e => e)
      refine HK1.out _ _ ⟨hS12, ?_⟩
      clear HK1 ht
      try simp only [zz]
      refine alw_step (i := 3) (by kernel_rfl) rfl rfl ?_
      intro K1 HK1
      go_wp2_with fail
      refine (HTK1.out c12 (HK.out.turn HTc12.out)).mono ?_
      rintro e c13 ⟨rfl, ht⟩
      have hS13 : (fun W => Blk W k 90 (byteCells K)) c13 := hS12.turn ht fun e => e
      have HTc13 := zH (HTc12.out.trans ht fun _ _ e => e)
      have HBrc13 := zH (HBrc12.out.turn ht fun e => e)
      have HBgc13 := zH (HBgc12.out.turn ht fun e => e)
      refine HK1.out _ _ ⟨hS13, ?_⟩
      clear HK1 ht
      try simp only [zz]
      refine alw_step (i := 5) (by kernel_rfl) rfl rfl ?_
      intro K1 HK1
      go_wp2_with fail
      refine (HFI.out c13 HTc13.out).mono ?_
      rintro e c14 ⟨rfl, ht⟩
      have hS14 : (fun W => Blk W k 90 (byteCells K)) c14 := hS13.turn ht fun e => e
      have HTc14 := zH (HTc13.out.trans ht fun _ _ e => e)
      have HBrc14 := zH (HBrc13.out.turn ht fun e => e)
      have HBgc14 := zH (HBgc13.out.turn ht fun e => e)
      refine HK1.out _ _ ⟨hS14, ?_⟩
      clear HK1 ht
      try simp only [zz]
      refine alw_step (i := 7) (by kernel_rfl) rfl rfl ?_
      intro K1 HK1
      refine wp_store_rowU_g 76 (.tmp 6) (.tmp 14) rfl (byteCells I) HBgc14.out rfl rfl (by rw [bc_size, bc_size, HIL.out]; rfl) (by rw [size_hs, bc_size, HIL.out]) (bc_one _) ?_
      intro wz hbz htz
      refine HK1.out _ _ ⟨hS14.turn (F := only g) htz (fun e => HNkg.out e), ?_⟩
      clear HK1
      try simp only [zz]
      refine alw_done rfl ?_
      refine NoPanic.normal ?_
      go_wp2_with fail
      go_meet
      exact ⟨g, rfl, hbz, hS14.turn (F := only g) htz (fun e => HNkg.out e), HBrc14.out.turn (F := only g) htz (fun e => HNrg.out e), HTc14.out.trans htz fun k' hk e => by have := HLg.out; have e : k' = g := e; omega⟩
  ·as_aux_lemma =>
    intro K1 HK1
    refine wp_run (v := .pointer (some ⟨wd.heap.size, 0, none⟩)) (w' := wd.alloc (.cells (byteCells (Sh.zs 32)) 76)) (gx_alloc rfl (zero_hs _)) ?_
    have hb_ := Blk.new wd 76 (byteCells (Sh.zs 32))
    have ht := (Turn.refl nowhere wd).alloc (.cells (byteCells (Sh.zs 32)) 76)
    have HLg := zH (show w.heap.size ≤ wd.heap.size from HTd.out.size)
    have HNrg := zH (show r ≠ wd.heap.size from by have := HBrd.out.lt; omega)
    have HNkg := zH (show k ≠ wd.heap.size from by have := hS0.lt; omega)
    obtain ⟨g, hg_⟩ : ∃ g, g = wd.heap.size := ⟨_, rfl⟩
    rw [← hg_] at hb_ HLg HNrg HNkg ⊢
    clear hg_
    generalize wd.alloc (.cells (byteCells (Sh.zs 32)) 76) = c15 at *
    have hS15 : (fun W => Blk W k 90 (byteCells K)) c15 := hS0.turn ht fun e => e
    have HTc15 := zH (HTd.out.trans ht fun _ _ e => e)
    have HBrc15 := zH (HBrd.out.turn ht fun e => e)
    have HBgc15 := zH hb_
    refine HK1.out _ _ ⟨hS15, ?_⟩
    clear HK1 ht hb_
    try simp only [zz]
    refine alw_step (i := 0) (by kernel_rfl) rfl rfl ?_
    intro K1 HK1
    go_wp2_with fail
    refine (HST.out c15).mono ?_
    rintro e c16 ⟨rfl, ht⟩
    have hS16 : (fun W => Blk W k 90 (byteCells K)) c16 := hS15.turn ht fun e => e
    have HTc16 := zH (HTc15.out.trans ht fun _ _ e => e)
    have HBrc16 := zH (HBrc15.out.turn ht fun e => e)
    have HBgc16 := zH (HBgc15.out.turn ht fun e => e)
    refine HK1.out _ _ ⟨hS16, ?_⟩
    clear HK1 ht
    try simp only [zz]
    refine alw_step (i := 2) (by kernel_rfl) rfl rfl ?_
    intro K1 HK1
    go_wp2_with fail
    refine (HME1.out c16).mono ?_
    rintro e c17 ⟨rfl, ht⟩
    have hS17 : (fun W => Blk W k 90 (byteCells K)) c17 := hS16.turn ht fun e => e
    have HTc17 := zH (HTc16.out.trans ht fun _ _ e => e)
    have HBrc17 := zH (HBrc16.out.turn ht fun e => e)
    have HBgc17 := zH (HBgc16.out.turn ht fun e => e)
    refine HK1.out _ _ ⟨hS17, ?_⟩
    clear HK1 ht
    try simp only [zz]
    refine alw_step (i := 3) (by kernel_rfl) rfl rfl ?_
    intro K1 HK1
    go_wp2_with fail
    refine (HTK1.out c17 (HK.out.turn HTc17.out)).mono ?_
    rintro e c18 ⟨rfl, ht⟩
    have hS18 : (fun W => Blk W k 90 (byteCells K)) c18 := hS17.turn ht fun e => e
    have HTc18 := zH (HTc17.out.trans ht fun _ _ e => e)
    have HBrc18 := zH (HBrc17.out.turn ht fun e => e)
    have HBgc18 := zH (HBgc17.out.turn ht fun e => e)
    refine HK1.out _ _ ⟨hS18, ?_⟩
    clear HK1 ht
    try simp only [zz]
    refine alw_step (i := 5) (by kernel_rfl) rfl rfl ?_
    intro K1 HK1
    go_wp2_with fail
    refine (HFI.out c18 HTc18.out).mono ?_
    rintro e c19 ⟨rfl, ht⟩
    have hS19 : (fun W => Blk W k 90 (byteCells K)) c19 := hS18.turn ht fun e => e
    have HTc19 := zH (HTc18.out.trans ht fun _ _ e => e)
    have HBrc19 := zH (HBrc18.out.turn ht fun e => e)
    have HBgc19 := zH (HBgc18.out.turn ht fun e => e)
    refine HK1.out _ _ ⟨hS19, ?_⟩
    clear HK1 ht
    try simp only [zz]
    refine alw_step (i := 7) (by kernel_rfl) rfl rfl ?_
    intro K1 HK1
    refine wp_store_rowU_g 76 (.tmp 6) (.tmp 14) rfl (byteCells I) HBgc19.out rfl rfl (by rw [bc_size, bc_size, HIL.out]; rfl) (by rw [size_hs, bc_size, HIL.out]) (bc_one _) ?_
    intro wz hbz htz
    refine HK1.out _ _ ⟨hS19.turn (F := only g) htz (fun e => HNkg.out e), ?_⟩
    clear HK1
    try simp only [zz]
    refine alw_done rfl ?_
    refine NoPanic.normal ?_
    go_wp2_with fail
    go_meet
    exact ⟨g, rfl, hbz, hS19.turn (F := only g) htz (fun e => HNkg.out e), HBrc19.out.turn (F := only g) htz (fun e => HNrg.out e), HTc19.out.trans htz fun k' hk e => by have := HLg.out; have e : k' = g := e; omega⟩
 obtain ⟨g, rfl, hbg, hbk, hbr, htr⟩ := hcut
 have HBG := zH hbg
 have HBK := zH hbk
 have HBR := zH hbr
 have HTR := zH htr
 clear hbg hbk hbr htr
 have HD := zH ((Turn.refl nowhere wc).drew)
 go_upto_region 3 with fail
 refine wp_region_alw (fun W => Blk W k 90 (byteCells K)) (by kernel_rfl) ?_
 have hS0 : (fun W => Blk W k 90 (byteCells K)) wc.drew := HBK.out.drew
 have HDE := zH ((Turn.refl nowhere wc).drew)
 generalize wc.drew = we at *
 have HTe := zH (HTR.out.trans HDE.out fun _ _ e => e)
 have HBGe := zH (HBG.out.turn HDE.out fun e => e)
 have HBRe := zH (HBR.out.turn HDE.out fun e => e)
 clear HD HDE HTR HBG HBR
 refine aU 1 (.agg (byteCells K)) rfl (fun W hW => gx_loads_g rfl rfl (blk_range_g hW) Tryz.underlying90 rfl (size_pc.trans (congrArg some ((bc_size _).trans HFL.out).symm))) hS0 ?_;simp only [zz];refine aU 4 (.slice (some ⟨g, 0, none⟩) 32 32) rfl (fun W hW => exec_slice rfl rfl rfl rfl rfl (sl_hs g _)) hS0 ?_;simp only [zz]
 refine alw_step (i := 0) (by kernel_rfl) rfl rfl ?_
 intro K1 HK1
 go_wp2_with fail
 refine (HST.out we).mono ?_
 rintro e c20 ⟨rfl, ht⟩
 have hS20 : (fun W => Blk W k 90 (byteCells K)) c20 := hS0.turn ht fun e => e
 have HTc20 := zH (HTe.out.trans ht fun _ _ e => e)
 have HBrc20 := zH (HBRe.out.turn ht fun e => e)
 have HBgc20 := zH (HBGe.out.turn ht fun e => e)
 refine HK1.out _ _ ⟨hS20, ?_⟩
 clear HK1 ht
 try simp only [zz]
 refine alw_step (i := 2) (by kernel_rfl) rfl rfl ?_
 intro K1 HK1
 go_wp2_with fail
 refine (HME2.out c20).mono ?_
 rintro e c21 ⟨rfl, ht⟩
 have hS21 : (fun W => Blk W k 90 (byteCells K)) c21 := hS20.turn ht fun e => e
 have HTc21 := zH (HTc20.out.trans ht fun _ _ e => e)
 have HBrc21 := zH (HBrc20.out.turn ht fun e => e)
 have HBgc21 := zH (HBgc20.out.turn ht fun e => e)
 refine HK1.out _ _ ⟨hS21, ?_⟩
 clear HK1 ht
 try simp only [zz]
 refine alw_step (i := 3) (by kernel_rfl) rfl rfl ?_
 intro K1 HK1
 go_wp2_with fail
 refine (HTK2.out c21 (HK.out.turn HTc21.out)).mono ?_
 rintro e c22 ⟨rfl, ht⟩
 have hS22 : (fun W => Blk W k 90 (byteCells K)) c22 := hS21.turn ht fun e => e
 have HTc22 := zH (HTc21.out.trans ht fun _ _ e => e)
 have HBrc22 := zH (HBrc21.out.turn ht fun e => e)
 have HBgc22 := zH (HBgc21.out.turn ht fun e => e)
 refine HK1.out _ _ ⟨hS22, ?_⟩
 clear HK1 ht
 try simp only [zz]
 refine alw_step (i := 5) (by kernel_rfl) rfl rfl ?_
 intro K1 HK1
 go_wp2_with fail
 refine (finish_walk h2 64 c22 (some ⟨g, 0, none⟩) 32 32 I (bs_arr HBgc22.out HIL.out (by decide)) (Nat.le_refl _) (by decide) (by decide) (HK.out.turn HTc22.out)).mono ?_
 rintro e c23 ⟨rfl, ht⟩
 rw [← HMF.out]
 have hS23 : (fun W => Blk W k 90 (byteCells K)) c23 := hS22.turn ht fun e => e
 have HTc23 := zH (HTc22.out.trans ht fun _ _ e => e)
 have HBrc23 := zH (HBrc22.out.turn ht fun e => e)
 have HBgc23 := zH (HBgc22.out.turn ht fun e => e)
 refine HK1.out _ _ ⟨hS23, ?_⟩
 clear HK1 ht
 try simp only [zz]
 refine alw_step (i := 6) (by kernel_rfl) rfl rfl ?_
 intro K1 HK1
 refine wp_store_rowU_g 76 (.tmp 4) (.tmp 20) rfl (byteCells F) HBrc23.out rfl rfl (by rw [bc_size, bc_size, HL.out]; rfl) (by rw [size_hs, bc_size, HL.out]) (bc_one _) ?_
 intro wz hbz htz
 have HNkr := zH (show k ≠ r from by have := HLk.out; have := HBr2lt.out; omega)
 refine HK1.out _ _ ⟨hS23.turn (F := only r) htz (fun e => HNkr.out e), ?_⟩
 clear HK1
 try simp only [zz]
 have HBZ := zH hbz
 have HTZ := zH (HTc23.out.trans htz fun k' hk e => by have := HLr.out; have e : k' = r := e; omega)
 clear hbz htz
 refine alw_done rfl ?_
 refine NoPanic.normal ?_
 go_wp2_with fail
 refine bodyPost_ret (v := .agg (byteCells F)) (ret_cell1_g rfl _ _ r _ _ _ rfl HBZ.out Tryz.underlying76 rfl (by rw [size_hs, bc_size, HL.out] <;> rfl)) rfl ?_
 exact ⟨rfl, HTZ.out⟩
set_option maxRecDepth 20000
theorem elmW : Elm Tryz.prog 137 93 1 4 (.int .u32 0) := ⟨Tryz.underlying137, by kernel_rfl, rfl, by decide, by decide⟩
theorem elmB : Elm Tryz.prog 22 5 1 1 (.int .u8 0) := ⟨Tryz.underlying22, by kernel_rfl, rfl, by decide, by decide⟩
def w1 (x : Wd) : List Value := [.int .u32 (x.toNat : Int)]
def b1 (x : UInt8) : List Value := [.int .u8 (x.toNat : Int)]
def rW (l : List Wd) : List (List Value) := l.map w1
def rB (l : B8) : List (List Value) := l.map b1
theorem rW_len (l : List Wd) : (rW l).length = l.length := List.length_map _
theorem rB_len (l : B8) : (rB l).length = l.length := List.length_map _
theorem rW_snoc (l : List Wd) (x : Wd) : rW (l ++ [x]) = rW l ++ [w1 x] := by simp [rW]
theorem rB_snoc (l : B8) (x : UInt8) : rB (l ++ [x]) = rB l ++ [b1 x] := by simp [rB]
theorem rB_app (l m : B8) : rB (l ++ m) = rB l ++ rB m := by simp [rB]
theorem w1_one (x : Wd) : ∀ u ∈ w1 x, u.oneCell' = true := fun u hu => by
 obtain rfl : u = _ := by simpa [w1] using hu
 rfl
theorem b1_one (x : UInt8) : ∀ u ∈ b1 x, u.oneCell' = true := fun u hu => by
 obtain rfl : u = _ := by simpa [b1] using hu
 rfl
theorem rB_fit (l : B8) : Fit 1 (rB l) := fun r hr => by
 obtain ⟨x, -, rfl⟩ := List.mem_map.1 hr
 exact ⟨rfl, b1_one x⟩
theorem rW_fit (l : List Wd) : Fit 1 (rW l) := fun r hr => by
 obtain ⟨x, -, rfl⟩ := List.mem_map.1 hr
 exact ⟨rfl, w1_one x⟩
theorem rB_flat (l : B8) : (rB l).flatten = bcs l := by
 induction l with
 | nil => rfl
 | cons x l ih => rw [rB, List.map_cons, List.flatten_cons, ← rB, ih]; rfl
theorem rW_at (l : List Wd) {i : Nat} (h : i < l.length) : (rW l)[i]? = some (w1 (l.getD i 0)) := by
 rw [rW, List.getElem?_map, List.getD_eq_getElem?_getD, List.getElem?_eq_getElem h]; rfl
theorem rB_at (l : B8) {i : Nat} (h : i < l.length) : (rB l)[i]? = some (b1 (l.getD i 0)) := by
 rw [rB, List.getElem?_map, List.getD_eq_getElem?_getD, List.getElem?_eq_getElem h]; rfl
theorem orw_at0 {w : World} {B k : Nat} {et : TypeId} {v : Value} {rs : List (List Value)} (h : Orw w B et k v rs) (hn : 0 < rs.length) : ∃ g c, v = .slice (some ⟨g, 0, none⟩) rs.length c ∧ rs.length ≤ c ∧ c ≤ maxLen ∧ B ≤ g ∧ g < w.heap.size := by
 have hf := h.form
 obtain ⟨A, c, rfl, h1, h2, h3, h4⟩ := hf
 obtain ⟨_, h5⟩ := id h.2
 rcases h5 with ⟨e, h0⟩ | ⟨g, cap, cur, e, hb⟩
 ·injection e with e1 e2 e3
  omega
 ·injection e with e1 e2 e3
  subst e1
  exact ⟨g, c, rfl, h1, h2, h4 _ rfl⟩
theorem orw_w {w : World} {B b n c : Nat} {l : List Wd} (h : Orw w B 93 1 (.slice (some ⟨b, 0, none⟩) n c) (rW l)) {i : Nat} (hi : i < l.length) : w.cell? ⟨b, i, none⟩ = some (.int .u32 ((l.getD i 0).toNat : Int)) := by
 have := h.el0 (rW_at l hi) 0 _ rfl
 simpa using this
theorem orw_b {w : World} {B b n c : Nat} {l : B8} (h : Orw w B 5 1 (.slice (some ⟨b, 0, none⟩) n c) (rB l)) {i : Nat} (hi : i < l.length) : w.cell? ⟨b, i, none⟩ = some (.int .u8 ((l.getD i 0).toNat : Int)) := by
 have := h.el0 (rB_at l hi) 0 _ rfl
 simpa using this
theorem orw_bs {w : World} {B : Nat} {v : Value} {l : B8} (h : Orw w B 5 1 v (rB l)) : ∃ A c, v = .slice A l.length c ∧ Bs w A l.length l ∧ l.length ≤ c ∧ (A = none → c = 0) := by
 have ho : Own w B 5 v l := by
  have := h.2
  rw [rB_len, rB_flat] at this
  exact this
 obtain ⟨A, n, c, rfl, hb, hc, hz⟩ := ho.form
 obtain rfl := hb.1
 exact ⟨A, c, rfl, hb, hc, hz⟩
theorem bs_rws {w : World} {A : Option Addr} {n : Nat} {l : B8} (h : Bs w A n l) (hn : n ≤ 140737488355328) : Rws w 1 A n (rB l) := by
 obtain ⟨h1, h2, h3⟩ := h
 refine ⟨by rw [rB_len, h1], fun r hr => (rB_fit l r hr).1, hn, fun hp => ?_⟩
 obtain ⟨b, off, rfl, hc⟩ := h3 hp
 refine ⟨b, off, rfl, fun i r hr j u hu => ?_⟩
 have hi : i < l.length := by
  have := (List.getElem?_eq_some_iff.1 hr).1
  rwa [rB_len] at this
 rw [rB_at l hi] at hr
 obtain rfl := Option.some.inj hr
 have hj : j = 0 := by
  have := (List.getElem?_eq_some_iff.1 hu).1
  simp [b1] at this
  exact this
 subst hj
 have hu' : u = .int .u8 ((l.getD i 0).toNat : Int) := by simpa [b1] using hu.symm
 rw [hu', Nat.mul_one, Nat.add_zero]
 exact hc i (by omega)
theorem bx_sliceN {P : Program} {a : Act} {o : Oper} {t : TypeId} {n : Nat} {xs : Array (Nat × Operand)} {ys : Array (Nat × Value)} {q : Value} {W W' : World} (ho : o.op = .buildSlice t n xs) (hx : xs.map (fun p => (p.1, a.eval p.2)) = ys)
 (h : (Instr.buildSlice t n ys).run P W = .ok q W') : (execOp a.eval o).run P W = .ok (.value q) W' := by
 subst hx
 unfold execOp
 simp only [ho, Sem.run_bind, h, Sem.run_pure, Result.andThen_ok]
def KL : List Wd := (List.range 64).map Sh.kt
theorem KL_get {t : Nat} (h : t < 64) : KL.getD t 0 = Sh.kt t := by
 rw [KL, List.getD_eq_getElem?_getD, List.getElem?_map, List.getElem?_range h]
 rfl
def KA : Array (Nat × Value) := ((List.range 64).map fun i => (i, Value.int .u32 (Sh.K.getD i 0 : Int))).toArray
theorem build_K (W : World) : (Instr.buildSlice 137 64 KA).run Tryz.prog W = .ok (.slice (some ⟨W.heap.size, 0, none⟩) 64 64) (W.alloc (.cells (wds KL) 93)) := by kernel_rfl
theorem const_walk (t : Nat) (w : World) (ht : t < 64) : Calls Tryz.prog 106 #[.int .i64 (t : Int)] w fun e w' => e = .returned (.int .u32 ((Sh.kt t).toNat : Int)) ∧ Turn nowhere w w' := by
 have HT := zH ht
 have HK := zH (KL_get ht)
 obtain ⟨k, hk⟩ : ∃ k, Sh.kt t = k := ⟨_, rfl⟩
 rw [hk] at HK ⊢
 clear ht hk
 go_enter Tryz.func106, Tryz.ntmps106
 go_upto_region 0 with fail
 refine wp_region_lit ?_
 refine nA (.int .u32 0) ?_;simp only [zz]
 have HB := zH (Blk.new w 93 (wds KL))
 have HTU := zH ((Turn.refl nowhere w).alloc (.cells (wds KL) 93))
 obtain ⟨g, hg⟩ : ∃ g, g = w.heap.size := ⟨_, rfl⟩
 have HBK := zH (build_K w)
 generalize hwx : w.alloc (.cells (wds KL) 93) = wx at HB HTU HBK
 rw [← hg] at HB HBK
 clear hg hwx
 have HKL := zH (show KL.length = 64 from rfl)
 generalize KL = L at HB HK HKL
 go_upto_region 1 with fail
 refine wp_region_lit ?_
 refine wR (v := .slice (some ⟨g, 0, none⟩) 64 64) (w' := wx) wn (bx_sliceN rfl (show _ = KA from by kernel_rfl) HBK.out) ?_
 simp only [zz];refine nA (.slice (some ⟨g, 0, none⟩) 64 64) ?_;simp only [zz]
 go_upto_region 2 with fail
 refine wp_region_lit ?_
 refine nM (.slice (some ⟨g, 0, none⟩) 64 64) ?_;simp only [zz];refine nM (.int .i64 (t : Int)) ?_;simp only [zz];refine nR (.pointer (some ⟨g, 0 + t * 1, none⟩)) (gx_iaddr (i := t) (sz := 1) rfl rfl rfl Tryz.underlying137 size_u32 HT.out rfl) ?_;simp only [zz];refine nR (.int .u32 ((k).toNat : Int)) (exec_load1 rfl rfl (by kernel_rfl) (by rw [ld_w HB.out (by rw [HKL.out]; exact HT.out), HK.out])) ?_;simp only [zz];refine nA (.int .u32 ((k).toNat : Int)) ?_;simp only [zz]
 go_wp2_with fail
 go_ret
 exact ⟨rfl, HTU.out⟩
theorem word_walk (w : World) (b off n c i : Nat) (p : B8) (hp : Bs w (some ⟨b, off, none⟩) n p) (hi : i + 3 < n) (hm : n ≤ 140737488355328) : Calls Tryz.prog 104 #[.slice (some ⟨b, off, none⟩) n c, .int .i64 (i : Int)] w fun e w' => e = .returned (.int .u32 ((Sh.wordAt p i).toNat : Int)) ∧ Turn nowhere w w' := by
 have HP := zH hp.1
 have HI := zH hi
 have HM := zH hm
 have yi : (i : Int) ≤ 140737488355328 := by omega
 obtain ⟨_, _, hcell⟩ := hp
 obtain ⟨b', off', e, hc⟩ := hcell (by omega)
 obtain ⟨rfl, rfl⟩ : b = b' ∧ off = off' := by simpa using e
 clear e hcell
 have HC := zH hc
 obtain ⟨z, hz⟩ : ∃ z, Sh.wordAt p i = z := ⟨_, rfl⟩
 rw [hz]
 have HZ := zH (show Sh.wide (p.getD i 0) <<< 24 ||| Sh.wide (p.getD (i + 1) 0) <<< 16 ||| Sh.wide (p.getD (i + 2) 0) <<< 8 ||| Sh.wide (p.getD (i + 3) 0) = z from hz)
 clear hc hi hm hz
 go_enter Tryz.func104, Tryz.ntmps104
 go_upto_region 0 with fail
 refine wp_region_lit ?_
 refine nA (.int .u32 0) ?_;simp only [zz]
 go_upto_region 1 with fail
 refine wp_region_alw (fun W => ∀ j, j < n → W.cell? ⟨b, off + j, none⟩ = some (.int .u8 ((p.getD j 0).toNat : Int))) (by kernel_rfl) ?_
 have hS0 : (fun W => ∀ j, j < n → W.cell? ⟨b, off + j, none⟩ = some (.int .u8 ((p.getD j 0).toNat : Int))) w.drew := HC.out
 have HD := zH ((Turn.refl nowhere w).drew)
 generalize w.drew = wd at *
 refine aM 0 (.slice (some ⟨b, off, none⟩) n c) hS0 ?_;simp only [zz];refine aM 1 (.int .i64 (i : Int)) hS0 ?_;simp only [zz];refine aU 2 (.pointer (some ⟨b, off + (i) * 1, none⟩)) rfl (fun W hW => gx_iaddr (i := i) (sz := 1) rfl rfl rfl Tryz.underlying22 size_u8 (by have := HI.out; omega) rfl) hS0 ?_;simp only [zz];refine aU 3 (.int .u8 ((p.getD (i) 0).toNat : Int)) rfl (fun W hW => exec_load1 rfl rfl (by kernel_rfl) (by rw [Nat.mul_one]; exact hW (i) (by have := HI.out; omega))) hS0 ?_;simp only [zz];refine aU 4 (.int .u32 ((Sh.wide (p.getD (i) 0)).toNat : Int)) rfl (fun W hW => wd_wide rfl rfl) hS0 ?_;simp only [zz];refine aU 5 (.int .u32 (((Sh.wide (p.getD (i) 0)) <<< 24).toNat : Int)) rfl (fun W hW => wd_shlc (s := 24) rfl rfl rfl (by decide)) hS0 ?_;simp only [zz];refine aM 6 (.slice (some ⟨b, off, none⟩) n c) hS0 ?_;simp only [zz];refine aM 7 (.int .i64 (i : Int)) hS0 ?_;simp only [zz];refine aU 8 (.int .i64 ((i + 1 : Nat) : Int)) rfl (fun W hW => ix_add rfl rfl rfl (by omega) ⟨by omega, by omega⟩) hS0 ?_;simp only [zz];refine aU 9 (.pointer (some ⟨b, off + (i + 1) * 1, none⟩)) rfl (fun W hW => gx_iaddr (i := i + 1) (sz := 1) rfl rfl rfl Tryz.underlying22 size_u8 (by have := HI.out; omega) rfl) hS0 ?_;simp only [zz];refine aU 10 (.int .u8 ((p.getD (i + 1) 0).toNat : Int)) rfl (fun W hW => exec_load1 rfl rfl (by kernel_rfl) (by rw [Nat.mul_one]; exact hW (i + 1) (by have := HI.out; omega))) hS0 ?_;simp only [zz];refine aU 11 (.int .u32 ((Sh.wide (p.getD (i + 1) 0)).toNat : Int)) rfl (fun W hW => wd_wide rfl rfl) hS0 ?_
 simp only [zz];refine aU 12 (.int .u32 (((Sh.wide (p.getD (i + 1) 0)) <<< 16).toNat : Int)) rfl (fun W hW => wd_shlc (s := 16) rfl rfl rfl (by decide)) hS0 ?_;simp only [zz];refine aU 13 (.int .u32 ((((Sh.wide (p.getD (i) 0)) <<< 24) ||| ((Sh.wide (p.getD (i + 1) 0)) <<< 16)).toNat : Int)) rfl (fun W hW => wd_or rfl rfl rfl) hS0 ?_;simp only [zz];refine aM 14 (.slice (some ⟨b, off, none⟩) n c) hS0 ?_;simp only [zz];refine aM 15 (.int .i64 (i : Int)) hS0 ?_;simp only [zz];refine aU 16 (.int .i64 ((i + 2 : Nat) : Int)) rfl (fun W hW => ix_add rfl rfl rfl (by omega) ⟨by omega, by omega⟩) hS0 ?_;simp only [zz];refine aU 17 (.pointer (some ⟨b, off + (i + 2) * 1, none⟩)) rfl (fun W hW => gx_iaddr (i := i + 2) (sz := 1) rfl rfl rfl Tryz.underlying22 size_u8 (by have := HI.out; omega) rfl) hS0 ?_;simp only [zz];refine aU 18 (.int .u8 ((p.getD (i + 2) 0).toNat : Int)) rfl (fun W hW => exec_load1 rfl rfl (by kernel_rfl) (by rw [Nat.mul_one]; exact hW (i + 2) (by have := HI.out; omega))) hS0 ?_;simp only [zz];refine aU 19 (.int .u32 ((Sh.wide (p.getD (i + 2) 0)).toNat : Int)) rfl (fun W hW => wd_wide rfl rfl) hS0 ?_;simp only [zz];refine aU 20 (.int .u32 (((Sh.wide (p.getD (i + 2) 0)) <<< 8).toNat : Int)) rfl (fun W hW => wd_shlc (s := 8) rfl rfl rfl (by decide)) hS0 ?_;simp only [zz];refine aU 21 (.int .u32 (((((Sh.wide (p.getD (i) 0)) <<< 24) ||| ((Sh.wide (p.getD (i + 1) 0)) <<< 16)) ||| ((Sh.wide (p.getD (i + 2) 0)) <<< 8)).toNat : Int)) rfl (fun W hW => wd_or rfl rfl rfl) hS0 ?_;simp only [zz]
 refine aM 22 (.slice (some ⟨b, off, none⟩) n c) hS0 ?_;simp only [zz];refine aM 23 (.int .i64 (i : Int)) hS0 ?_;simp only [zz];refine aU 24 (.int .i64 ((i + 3 : Nat) : Int)) rfl (fun W hW => ix_add rfl rfl rfl (by omega) ⟨by omega, by omega⟩) hS0 ?_;simp only [zz];refine aU 25 (.pointer (some ⟨b, off + (i + 3) * 1, none⟩)) rfl (fun W hW => gx_iaddr (i := i + 3) (sz := 1) rfl rfl rfl Tryz.underlying22 size_u8 (by have := HI.out; omega) rfl) hS0 ?_;simp only [zz];refine aU 26 (.int .u8 ((p.getD (i + 3) 0).toNat : Int)) rfl (fun W hW => exec_load1 rfl rfl (by kernel_rfl) (by rw [Nat.mul_one]; exact hW (i + 3) (by have := HI.out; omega))) hS0 ?_;simp only [zz];refine aU 27 (.int .u32 ((Sh.wide (p.getD (i + 3) 0)).toNat : Int)) rfl (fun W hW => wd_wide rfl rfl) hS0 ?_;simp only [zz];refine aU 28 (.int .u32 ((((((Sh.wide (p.getD (i) 0)) <<< 24) ||| ((Sh.wide (p.getD (i + 1) 0)) <<< 16)) ||| ((Sh.wide (p.getD (i + 2) 0)) <<< 8)) ||| (Sh.wide (p.getD (i + 3) 0))).toNat : Int)) rfl (fun W hW => wd_or rfl rfl rfl) hS0 ?_;simp only [zz];refine aU 29 (.int .u32 ((z).toNat : Int)) rfl (fun W hW => (by rw [← HZ.out]; exact gx_assign rfl rfl)) hS0 ?_;simp only [zz]
 refine alw_done rfl ?_
 refine NoPanic.normal ?_
 clear hS0
 try simp only [zz]
 go_wp2_with fail
 go_ret
 exact ⟨rfl, HD.out⟩
end Go.Proofs.YtkagijifkpoplaaGreatDoor
