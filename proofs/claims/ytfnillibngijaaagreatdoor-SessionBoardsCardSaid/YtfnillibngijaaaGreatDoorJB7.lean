/-
  Texts in one file: ShF. Conditions: the tables and the errors read as the program's text lays them.
-/
import Derived.Test.YtfnillibngijaaaGreatDoorJB6
namespace Go.Proofs.YtfnillibngijaaaGreatDoor
open Go.RowKit
open Sh (Wd B8 H8)
set_option linter.unusedVariables false
set_option linter.unusedSimpArgs false
set_option maxRecDepth 20000
theorem wd_cv64 {a : Act} {o : Oper} {W : World} {x : Operand} {n : Nat} (ho : o.op = .convert 3 117 x) (hx : a.eval x = .int .i64 (n : Int)) (hn : n ≤ 9223372036854775807) : (execOp a.eval o).run Tryz.prog W = .ok (.value (.int .u64 (n : Int))) W := by
  unfold execOp
  simp only [ho, hx]
  go_simp
  rw [IntKind.wrap_u64]
  omega
theorem wd_mul8 {a : Act} {o : Oper} {W : World} {x : Operand} {n : Nat} (ho : o.op = .binOp .mul 117 x (.const (.int .u64 8)) 117) (hx : a.eval x = .int .u64 (n : Int)) : (execOp a.eval o).run Tryz.prog W = .ok (.value (.int .u64 ((Sh.bits n : Nat) : Int))) W := by
  unfold execOp
  simp only [ho, hx]
  go_simp
  rw [IntKind.wrap_u64]
  unfold Sh.bits
  omega
theorem wd_shr64 {a : Act} {o : Oper} {W : World} {x y : Operand} {n s : Nat} (ho : o.op = .binOp .shr 117 x y 3) (hx : a.eval x = .int .u64 (n : Int)) (hy : a.eval y = .int .i64 (s : Int)) (hs : s < 64) : (execOp a.eval o).run Tryz.prog W = .ok (.value (.int .u64 ((n / 2 ^ s : Nat) : Int))) W := by
  obtain ⟨r, hr⟩ : ∃ r : Nat, n / 2 ^ s = r := ⟨_, rfl⟩
  rw [hr]
  unfold execOp
  simp only [ho, hx, hy]
  go_simp
  rw [← hr]
  push_cast
  rfl
theorem wd_low64 {a : Act} {o : Oper} {W : World} {x : Operand} {n : Nat} (ho : o.op = .convert 117 5 x) (hx : a.eval x = .int .u64 (n : Int)) : (execOp a.eval o).run Tryz.prog W = .ok (.value (.int .u8 (((UInt8.ofNat n).toNat : Nat) : Int))) W := by
  obtain ⟨r, hr⟩ : ∃ r : Nat, (UInt8.ofNat n).toNat = r := ⟨_, rfl⟩
  rw [hr]
  unfold execOp
  simp only [ho, hx]
  go_simp
  rw [← hr, UInt8.toNat_ofNat', IntKind.wrap_u8']
  omega
theorem be8_next (n : Nat) {i : Nat} (h : i < 8) : (Sh.be8 n).take (i + 1) = (Sh.be8 n).take i ++ [UInt8.ofNat (n / 2 ^ (56 - 8 * i))] := by
  rw [List.take_succ_eq_append_getElem (by rw [Sh.be8_len]; exact h)]
  congr 1
  simp [Sh.be8]
theorem blk_next (h : H8) (b : B8) {j : Nat} : Sh.blk (j + 1) h b = Sh.comp (Sh.blk j h b) ((b.drop (64 * j)).take 64) := Sh.blk_succ h b j
/-- what is left behind the whole pieces -/
theorem fin_lo (h : H8) (done n : Nat) (b r : B8) (hr : r = b.drop (64 * (b.length / 64))) (hn : done + b.length = n) (hl : r.length < 56) : Sh.finish h done b = Sh.out (Sh.comp (Sh.blk (b.length / 64) h b) ((r ++ [0x80] ++ Sh.zs (55 - r.length)) ++ Sh.be8 (Sh.bits n))) := by
  unfold Sh.finish Sh.fin
  rw [← hr, if_pos hl, hn]
theorem fin_hi (h : H8) (done n : Nat) (b r : B8) (hr : r = b.drop (64 * (b.length / 64))) (hn : done + b.length = n) (hl : ¬ r.length < 56) : Sh.finish h done b = Sh.out (Sh.comp (Sh.comp (Sh.blk (b.length / 64) h b) (r ++ [0x80] ++ Sh.zs (63 - r.length))) (Sh.zs 56 ++ Sh.be8 (Sh.bits n))) := by
  unfold Sh.finish Sh.fin
  rw [← hr, if_neg hl, hn]
theorem zs_add (a b : Nat) : Sh.zs (a + b) = Sh.zs a ++ Sh.zs b := by unfold Sh.zs; rw [List.replicate_append_replicate]
set_option maxRecDepth 20000 in
set_option maxHeartbeats 4000000 in
theorem finish_walk (h : H8) (done : Nat) (w : World) (A : Option Addr) (n c : Nat) (b : B8) (hb : Bs w A n b) (hc : n ≤ c) (hm : n ≤ 140737488355328) (hd : done ≤ 64) (hk : KT w) :
    Calls Tryz.prog 37 #[.agg (wds h.l), .int .i64 (done : Int), .slice A n c] w fun e w' => e = .returned (.agg (byteCells (Sh.finish h done b))) ∧ Turn nowhere w w' := by
  have HB := Lib.hid hb
  have HN := Lib.hid hb.1
  have HM := Lib.hid hm
  have HC := Lib.hid hc
  have HD0 := Lib.hid hd
  have HK := Lib.hid hk
  have yn : (n : Int) ≤ 140737488355328 := by have := HM.out; omega
  have yd : (done : Int) ≤ 64 := by omega
  obtain ⟨F, hF⟩ : ∃ F, Sh.finish h done b = F := ⟨_, rfl⟩
  rw [hF]
  have HF := Lib.hid hF
  clear hb hc hm hd hk hF
  go_enter Tryz.func37, Tryz.ntmps37
  go_upto_region 0 with fail
  refine wp_region_lit ?_
  refine wpList_run (v := .pointer (some ⟨(w).heap.size, 0, none⟩)) (w' := (w).alloc (.cells (wds h.l) 90)) (wanted_none rfl) (gx_box rfl rfl (box_wds h.l _)) ?_
  simp only [Act.put, List.setIfInBounds_toArray, List.set_cons_zero, List.set_cons_succ]
  refine wpList_run (v := .pointer (some ⟨((w).alloc (.cells (wds h.l) 90)).heap.size, 0, none⟩)) (w' := ((w).alloc (.cells (wds h.l) 90)).alloc (.cells (byteCells (Sh.zs 32)) 71)) (wanted_none rfl) (gx_alloc rfl (zero_hs _)) ?_
  simp only [Act.put, List.setIfInBounds_toArray, List.set_cons_zero, List.set_cons_succ]
  have hb_q := (Blk.new (w) 90 (wds h.l)).alloc (.cells (byteCells (Sh.zs 32)) 71)
  have hb_r := Blk.new ((w).alloc (.cells (wds h.l) 90)) 71 (byteCells (Sh.zs 32))
  have ht_ := ((Turn.refl nowhere (w)).alloc (.cells (wds h.l) 90)).alloc (.cells (byteCells (Sh.zs 32)) 71)
  obtain ⟨n0_, hn0_⟩ : ∃ n, n = (w).heap.size := ⟨_, rfl⟩
  have hz_q : (w).heap.size = n0_ + 0 := by rw [hn0_]; simp
  have hz_r : ((w).alloc (.cells (wds h.l) 90)).heap.size = n0_ + 1 := by rw [hn0_]; simp
  obtain ⟨r, hg_⟩ : ∃ g, g = ((w).alloc (.cells (wds h.l) 90)).heap.size := ⟨_, rfl⟩
  rw [← hg_] at hb_r hz_r ⊢
  clear hg_
  obtain ⟨q, hg_⟩ : ∃ g, g = (w).heap.size := ⟨_, rfl⟩
  rw [← hg_] at hb_q hz_q ⊢
  clear hg_
  generalize ((w).alloc (.cells (wds h.l) 90)).alloc (.cells (byteCells (Sh.zs 32)) 71) = w1 at *
  have HT1 := Lib.hid ht_
  clear ht_
  have HBq := Lib.hid hb_q
  have HLq := Lib.hid (show (w).heap.size ≤ q from by omega)
  clear hb_q
  have HBr := Lib.hid hb_r
  have HLr := Lib.hid (show (w).heap.size ≤ r from by omega)
  clear hb_r
  have HNqr := Lib.hid (show q ≠ r from by omega)
  clear hn0_ hz_q hz_r
  clear n0_
  go_upto_region 1 with fail
  refine wp_region_lit ?_
  refine wpList_run (v := .int .i64 (done : Int)) (wanted_none rfl) (exec_move rfl rfl) ?_
  simp only [Act.put, List.setIfInBounds_toArray, List.set_cons_zero, List.set_cons_succ]
  refine wpList_run (v := .slice A n c) (wanted_none rfl) (exec_move rfl rfl) ?_
  simp only [Act.put, List.setIfInBounds_toArray, List.set_cons_zero, List.set_cons_succ]
  refine wpList_run (v := .int .i64 (n : Int)) (wanted_none rfl) (gx_len rfl rfl Tryz.underlying42) ?_
  simp only [Act.put, List.setIfInBounds_toArray, List.set_cons_zero, List.set_cons_succ]
  refine wpList_run (v := .int .i64 ((done + n : Nat) : Int)) (wanted_none rfl) (ix_add rfl rfl rfl (by omega) ⟨by omega, by omega⟩) ?_
  simp only [Act.put, List.setIfInBounds_toArray, List.set_cons_zero, List.set_cons_succ]
  refine wpList_run (v := .int .u64 ((done + n : Nat) : Int)) (wanted_none rfl) (wd_cv64 rfl rfl (by have := HM.out; have := HD0.out; omega)) ?_
  simp only [Act.put, List.setIfInBounds_toArray, List.set_cons_zero, List.set_cons_succ]
  refine wpList_run (v := .int .u64 ((Sh.bits (done + n) : Nat) : Int)) (wanted_none rfl) (wd_mul8 rfl rfl) ?_
  simp only [Act.put, List.setIfInBounds_toArray, List.set_cons_zero, List.set_cons_succ]
  refine wpList_run (v := .int .u64 ((Sh.bits (done + n) : Nat) : Int)) (wanted_none rfl) (gx_assign rfl rfl) ?_
  simp only [Act.put, List.setIfInBounds_toArray, List.set_cons_zero, List.set_cons_succ]
  obtain ⟨NB, hNB⟩ : ∃ NB, Sh.bits (done + n) = NB := ⟨_, rfl⟩
  rw [hNB]
  have HNB := Lib.hid hNB
  clear hNB
  go_upto_region 2 with fail
  refine wp_region_lit ?_
  refine wpList_run (v := .pointer (some ⟨(w1).heap.size, 0, none⟩)) (w' := (w1).alloc (.cells (byteCells (Sh.zs 64)) 85)) (wanted_none rfl) (gx_alloc rfl (zero_pc _)) ?_
  simp only [Act.put, List.setIfInBounds_toArray, List.set_cons_zero, List.set_cons_succ]
  have hb_k := Blk.new (w1) 85 (byteCells (Sh.zs 64))
  have ht_ := (Turn.refl nowhere (w1)).alloc (.cells (byteCells (Sh.zs 64)) 85)
  obtain ⟨n0_, hn0_⟩ : ∃ n, n = (w1).heap.size := ⟨_, rfl⟩
  have hz_k : (w1).heap.size = n0_ + 0 := by rw [hn0_]; simp
  obtain ⟨k, hg_⟩ : ∃ g, g = (w1).heap.size := ⟨_, rfl⟩
  rw [← hg_] at hb_k hz_k ⊢
  clear hg_
  generalize (w1).alloc (.cells (byteCells (Sh.zs 64)) 85) = w2 at *
  have HT2 := Lib.hid ht_
  clear ht_
  have HBk := Lib.hid hb_k
  have HLk := Lib.hid (show (w1).heap.size ≤ k from by omega)
  clear hb_k
  clear hn0_ hz_k
  clear n0_
  have HBq2 := Lib.hid (HBq.out.turn HT2.out fun e => e)
  have HBr2 := Lib.hid (HBr.out.turn HT2.out fun e => e)
  have HLk2 := Lib.hid (show w.heap.size ≤ k from Nat.le_trans HT1.out.size HLk.out)
  have HNrk := Lib.hid (show r ≠ k from by have := HBr.out.lt; have := HLk.out; omega)
  have HNqk := Lib.hid (show q ≠ k from by have := HBq.out.lt; have := HLk.out; omega)
  have HNrq := Lib.hid (show r ≠ q from fun e => HNqr.out e.symm)
  have HT12 := Lib.hid (HT1.out.trans HT2.out fun _ _ e => e)
  clear HBq HBr HT1 HT2 HLk
  go_wp2_with fail
  go_loopg [2] (n / 64) (fun gk bv wr => ∃ (j n' c' : Nat) (A' : Option Addr) (P : B8), bv = .slice A' n' c' ∧ j + gk = n / 64 ∧ n' + 64 * j = n ∧ n' ≤ c' ∧ Bs w A' n' (b.drop (64 * j)) ∧ P.length = 64 ∧ Blk wr q 90 (wds (Sh.blk j h b).l) ∧ Blk wr k 85 (byteCells P) ∧ Blk wr r 71 (byteCells (Sh.zs 32)) ∧ Turn nowhere w wr)
  case atStart => exact ⟨0, n, c, A, Sh.zs 64, rfl, Nat.zero_add _, rfl, HC.out, HB.out, rfl, HBq2.out, HBk.out, HBr2.out, HT12.out⟩
  clear HBq2 HBk HBr2 HT12
  obtain ⟨j, n', c', A', P, rfl, hgk, hnj, hnc, hbs, hpl, hbq, hbk, hbr, htr⟩ := hrel
  have yj : (n' : Int) ≤ 140737488355328 := by omega
  have HGK := Lib.hid hgk
  have HNJ := Lib.hid hnj
  have HNC := Lib.hid hnc
  have HBS := Lib.hid hbs
  have HPL := Lib.hid hpl
  have HBQ := Lib.hid hbq
  have HBK := Lib.hid hbk
  have HBR := Lib.hid hbr
  have HTR := Lib.hid htr
  clear hgk hnj hnc hbs hpl hbq hbk hbr htr
  by_cases hlt : 64 ≤ n'
  · as_aux_lemma =>
      have HLT := Lib.hid hlt
      have y3 : 64 ≤ (n' : Int) := by omega
      clear hlt
      have HPC := Lib.hid (show (b.drop (64 * j)).take 64 ++ P.drop (min n' 64) = (b.drop (64 * j)).take 64 from by rw [show P.drop (min n' 64) = [] from List.drop_eq_nil_of_le (by rw [HPL.out]; have := HLT.out; omega), List.append_nil])
      have HPT := Lib.hid (show ((b.drop (64 * j)).take 64).length = 64 from by rw [List.length_take, HBS.out.1]; have := HLT.out; omega)
      obtain ⟨s1, hs1⟩ : ∃ s1, Sh.blk (j + 1) h b = s1 := ⟨_, rfl⟩
      have HS1 := Lib.hid hs1
      have HNXT := Lib.hid (show Sh.comp (Sh.blk j h b) ((b.drop (64 * j)).take 64) = s1 from by rw [← hs1, blk_next])
      obtain ⟨PJ, hPJ⟩ : ∃ PJ, (b.drop (64 * j)).take 64 = PJ := ⟨_, rfl⟩
      rw [hPJ] at HNXT HPC HPT
      obtain ⟨s0, hs0⟩ : ∃ s0, Sh.blk j h b = s0 := ⟨_, rfl⟩
      rw [hs0] at HNXT HBQ
      clear hs1 hs0
      go_upto_region 3 with fail
      refine wp_region_lit ?_
      refine wpList_run (v := .slice A' n' c') (wanted_none rfl) (exec_move rfl rfl) ?_
      simp only [Act.put, List.setIfInBounds_toArray, List.set_cons_zero, List.set_cons_succ]
      refine wpList_run (v := .int .i64 (n' : Int)) (wanted_none rfl) (gx_len rfl rfl Tryz.underlying42) ?_
      simp only [Act.put, List.setIfInBounds_toArray, List.set_cons_zero, List.set_cons_succ]
      refine wpList_run (v := .bool true) (wanted_none rfl) (ix_geq rfl rfl rfl (decide_eq_true y3)) ?_
      simp only [Act.put, List.setIfInBounds_toArray, List.set_cons_zero, List.set_cons_succ]
      obtain ⟨wc, hcp, hck, hct⟩ := run_copy_arr (ty := 3) (cap := c') (sh_still HBS.out HTR.out) HBK.out HPL.out
      rw [hPJ, HPC.out] at hck
      have HCP := Lib.hid hcp
      have HBKc := Lib.hid hck
      have HBQc := Lib.hid (HBQ.out.turn (F := only k) hct fun e => HNqk.out e)
      have HBRc := Lib.hid (HBR.out.turn (F := only k) hct fun e => HNrk.out e)
      have HTRc := Lib.hid (HTR.out.trans hct fun k' hk e => by have := HLk2.out; have e : k' = k := e; omega)
      clear hcp hck hct HBQ HBK HBR HTR
      go_upto_region 4 with fail
      refine wp_region_lit ?_
      refine wpList_run (v := .slice (some ⟨k, 0, none⟩) 64 64) (wanted_none rfl) (exec_slice rfl rfl rfl rfl rfl (sl_pc k _)) ?_
      simp only [Act.put, List.setIfInBounds_toArray, List.set_cons_zero, List.set_cons_succ]
      refine wpList_run (v := .slice A' n' c') (wanted_none rfl) (exec_move rfl rfl) ?_
      simp only [Act.put, List.setIfInBounds_toArray, List.set_cons_zero, List.set_cons_succ]
      refine wpList_run (v := .int .i64 ((min n' 64 : Nat) : Int)) (w' := wc) (wanted_none rfl) (exec_copy_g rfl rfl rfl HCP.out) ?_
      simp only [Act.put, List.setIfInBounds_toArray, List.set_cons_zero, List.set_cons_succ]
      go_upto_region 5 with fail
      refine wp_region_lit ?_
      refine wpList_run (v := .agg (wds s0.l)) (wanted_none rfl) (gx_loads_g rfl rfl (blk_range_g HBQc.out) Tryz.underlying90 rfl (size_wds.trans rfl)) ?_
      simp only [Act.put, List.setIfInBounds_toArray, List.set_cons_zero, List.set_cons_succ]
      refine wpList_run (v := .agg (byteCells PJ)) (wanted_none rfl) (gx_loads_g rfl rfl (blk_range_g HBKc.out) Tryz.underlying85 rfl (size_pc.trans (congrArg some ((bc_size _).trans HPT.out).symm))) ?_
      simp only [Act.put, List.setIfInBounds_toArray, List.set_cons_zero, List.set_cons_succ]
      refine wpList_op_g rfl fun K9 HK9 => ?_
      go_wp2_with fail
      refine (take_walk s0 PJ wc HPT.out (HK.out.turn HTRc.out)).mono ?_
      rintro e w4 ⟨rfl, ht⟩
      refine HK9.out _ _ ?_
      clear HK9
      try simp only [Act.put, List.setIfInBounds_toArray, List.set_cons_zero, List.set_cons_succ]
      rw [HNXT.out]
      have HBQ4 := Lib.hid (HBQc.out.turn ht fun e => e)
      have HBK4 := Lib.hid (HBKc.out.turn ht fun e => e)
      have HBR4 := Lib.hid (HBRc.out.turn ht fun e => e)
      have HTR4 := Lib.hid (HTRc.out.trans ht fun _ _ e => e)
      clear ht
      refine wpList_store_row (wanted_none rfl) 90 (.tmp 3) (.tmp 25) rfl (wds s1.l) HBQ4.out rfl rfl (rfl) (by rw [size_wds] <;> rfl) (wds_one _) ?_
      intro w5 hb_ ht_
      have HBQ5 := Lib.hid hb_
      have HT5 := Lib.hid ht_
      clear hb_ ht_
      simp only [Act.put, List.setIfInBounds_toArray, List.set_cons_zero, List.set_cons_succ]
      have HBK5 := Lib.hid (HBK4.out.turn (F := only q) HT5.out fun e => HNqk.out e.symm)
      have HBR5 := Lib.hid (HBR4.out.turn (F := only q) HT5.out fun e => HNrq.out e)
      have HTR5 := Lib.hid (HTR4.out.trans HT5.out fun k' hk e => by have := HLq.out; have e : k' = q := e; omega)
      go_upto_region 6 with fail
      refine wp_region_lit ?_
      refine wpList_run (v := .slice A' n' c') (wanted_none rfl) (exec_move rfl rfl) ?_
      simp only [Act.put, List.setIfInBounds_toArray, List.set_cons_zero, List.set_cons_succ]
      refine wpList_run (v := .slice (fromS A' c' 64) (n' - 64) (c' - 64)) (wanted_none rfl) (exec_slice rfl rfl rfl rfl rfl (sl_fromS A' n' c' 64 HLT.out HNC.out _)) ?_
      simp only [Act.put, List.setIfInBounds_toArray, List.set_cons_zero, List.set_cons_succ]
      refine wpList_run (v := .slice (fromS A' c' 64) (n' - 64) (c' - 64)) (wanted_none rfl) (gx_assign rfl rfl) ?_
      simp only [Act.put, List.setIfInBounds_toArray, List.set_cons_zero, List.set_cons_succ]
      go_wp2_with fail
      go_roundg (n / 64 - (j + 1))
      case measure => have := HGK.out; have := HNJ.out; have := HLT.out; omega
      case rel => exact ⟨j + 1, n' - 64, c' - 64, fromS A' c' 64, PJ, rfl, by have := HGK.out; have := HNJ.out; have := HLT.out; omega, by have := HNJ.out; have := HLT.out; omega, by have := HNC.out; omega, by rw [show 64 * (j + 1) = 64 * j + 64 from by omega, ← List.drop_drop]; exact bs_fromS HBS.out HLT.out HNC.out, HPT.out, by rw [HS1.out]; exact HBQ5.out, HBK5.out, HBR5.out, HTR5.out⟩
  · as_aux_lemma =>
      have HLT := Lib.hid hlt
      have y3 : (n' : Int) < 64 := by omega
      have HJ := Lib.hid (show b.length / 64 = j from by rw [HN.out]; have := HNJ.out; omega)
      clear hlt
      obtain ⟨R, hR⟩ : ∃ R, b.drop (64 * j) = R := ⟨_, rfl⟩
      rw [hR] at HBS
      have HR := Lib.hid (show R = b.drop (64 * (b.length / 64)) from by rw [HJ.out, hR])
      have HRL := Lib.hid HBS.out.1
      have HRT := Lib.hid (show R.take 64 ++ (Sh.zs 64).drop (min n' 64) = R ++ Sh.zs (64 - n') from by
        rw [List.take_of_length_le (by rw [HRL.out]; have := HLT.out; omega), show min n' 64 = n' from by have := HLT.out; omega]
        unfold Sh.zs
        rw [List.drop_replicate])
      have HBJ := Lib.hid (show Sh.blk (b.length / 64) h b = Sh.blk j h b from by rw [HJ.out])
      obtain ⟨hh, hhh⟩ : ∃ hh, Sh.blk j h b = hh := ⟨_, rfl⟩
      rw [hhh] at HBJ HBQ
      clear hR hhh HJ
      go_upto_region 3 with fail
      refine wp_region_lit ?_
      refine wpList_run (v := .slice A' n' c') (wanted_none rfl) (exec_move rfl rfl) ?_
      simp only [Act.put, List.setIfInBounds_toArray, List.set_cons_zero, List.set_cons_succ]
      refine wpList_run (v := .int .i64 (n' : Int)) (wanted_none rfl) (gx_len rfl rfl Tryz.underlying42) ?_
      simp only [Act.put, List.setIfInBounds_toArray, List.set_cons_zero, List.set_cons_succ]
      refine wpList_run (v := .bool false) (wanted_none rfl) (ix_geq rfl rfl rfl (decide_eq_false (by omega))) ?_
      simp only [Act.put, List.setIfInBounds_toArray, List.set_cons_zero, List.set_cons_succ]
      go_upto_region 7 with fail
      refine wp_region_lit ?_
      refine wpList_run (v := .agg (byteCells (Sh.zs 64))) (wanted_none rfl) (gx_build0 rfl (build_pc0 _)) ?_
      simp only [Act.put, List.setIfInBounds_toArray, List.set_cons_zero, List.set_cons_succ]
      refine wpList_store_row (wanted_none rfl) 85 (.tmp 8) (.tmp 28) rfl (byteCells (Sh.zs 64)) HBK.out rfl rfl (by rw [bc_size, bc_size, HPL.out]; rfl) (by rw [size_pc] <;> rfl) (bc_one _) ?_
      intro w4 hb_ ht_
      have HBK4 := Lib.hid hb_
      have HT4 := Lib.hid ht_
      clear hb_ ht_
      simp only [Act.put, List.setIfInBounds_toArray, List.set_cons_zero, List.set_cons_succ]
      have HBQ4 := Lib.hid (HBQ.out.turn (F := only k) HT4.out fun e => HNqk.out e)
      have HBR4 := Lib.hid (HBR.out.turn (F := only k) HT4.out fun e => HNrk.out e)
      have HTR4 := Lib.hid (HTR.out.trans HT4.out fun k' hk e => by have := HLk2.out; have e : k' = k := e; omega)
      clear HBQ HBR HTR HBK HT4
      obtain ⟨wc, hcp, hck, hct⟩ := run_copy_arr (ty := 3) (cap := c') (sh_still HBS.out HTR4.out) HBK4.out (Sh.zs_len 64)
      rw [HRT.out] at hck
      rw [show min n' 64 = n' from by have := HLT.out; omega] at hcp
      have HCP := Lib.hid hcp
      have HBKc := Lib.hid hck
      have HBQc := Lib.hid (HBQ4.out.turn (F := only k) hct fun e => HNqk.out e)
      have HBRc := Lib.hid (HBR4.out.turn (F := only k) hct fun e => HNrk.out e)
      have HTRc := Lib.hid (HTR4.out.trans hct fun k' hk e => by have := HLk2.out; have e : k' = k := e; omega)
      clear hcp hck hct HBQ4 HBK4 HBR4 HTR4
      go_upto_region 8 with fail
      refine wp_region_lit ?_
      refine wpList_run (v := .slice (some ⟨k, 0, none⟩) 64 64) (wanted_none rfl) (exec_slice rfl rfl rfl rfl rfl (sl_pc k _)) ?_
      simp only [Act.put, List.setIfInBounds_toArray, List.set_cons_zero, List.set_cons_succ]
      refine wpList_run (v := .slice A' n' c') (wanted_none rfl) (exec_move rfl rfl) ?_
      simp only [Act.put, List.setIfInBounds_toArray, List.set_cons_zero, List.set_cons_succ]
      refine wpList_run (v := .int .i64 (n' : Int)) (w' := wc) (wanted_none rfl) (exec_copy_g rfl rfl rfl HCP.out) ?_
      simp only [Act.put, List.setIfInBounds_toArray, List.set_cons_zero, List.set_cons_succ]
      refine wpList_run (v := .int .i64 (n' : Int)) (wanted_none rfl) (gx_assign rfl rfl) ?_
      simp only [Act.put, List.setIfInBounds_toArray, List.set_cons_zero, List.set_cons_succ]
      go_upto_region 9 with fail
      refine wp_region_lit ?_
      refine wpList_run (v := .int .i64 (n' : Int)) (wanted_none rfl) (exec_move rfl rfl) ?_
      simp only [Act.put, List.setIfInBounds_toArray, List.set_cons_zero, List.set_cons_succ]
      refine wpList_run (v := .pointer (some ⟨k, 0 + n' * 1, none⟩)) (wanted_none rfl) (gx_aaddr_g (i := n') (sz := 1) rfl rfl rfl Tryz.underlying85 size_u8 (by have := HLT.out; omega) rfl) ?_
      simp only [Act.put, List.setIfInBounds_toArray, List.set_cons_zero, List.set_cons_succ]
      refine wpList_put (wanted_none rfl) 5 (.tmp 33) (.const (.int .u8 128)) rfl (.int .u8 (((0x80 : UInt8).toNat : Nat) : Int)) (byteCells ((R ++ [0x80]) ++ Sh.zs (64 - n' - 1))) HBKc.out rfl rfl (by rw [bc_size, List.length_append, Sh.zs_len, HRL.out]; have := HLT.out; omega) rfl rfl size_u8 (by
        rw [Nat.zero_add, Nat.mul_one, bc_set, set_zs HRL.out (by have := HLT.out; omega)]) ?_
      intro w5 hb4 ht4
      have HBK5 := Lib.hid hb4
      have HBQ5 := Lib.hid (HBQc.out.turn (F := only k) ht4 fun e => HNqk.out e)
      have HBR5 := Lib.hid (HBRc.out.turn (F := only k) ht4 fun e => HNrk.out e)
      have HTR5 := Lib.hid (HTRc.out.trans ht4 fun k' hk e => by have := HLk2.out; have e : k' = k := e; omega)
      clear hb4 ht4 HBKc HBQc HBRc HTRc HCP
      simp only [Act.put, List.setIfInBounds_toArray, List.set_cons_zero, List.set_cons_succ]
      by_cases h56 : n' < 56
      · as_aux_lemma =>
          have y56 : (n' : Int) < 56 := by omega
          have HFZ := Lib.hid (fin_lo h done (done + n) b R HR.out (by rw [HN.out]) (by rw [HRL.out]; exact h56))
          rw [HBJ.out, HNB.out, HRL.out] at HFZ
          have HXL := Lib.hid (show (R ++ [0x80] ++ Sh.zs (55 - n')).length = 56 from by simp only [List.length_append, List.length_singleton, Sh.zs_len, HRL.out]; omega)
          have HBKX := Lib.hid (show Blk w5 k 85 (byteCells ((R ++ [0x80] ++ Sh.zs (55 - n')) ++ Sh.zs 8)) from by
            have h := HBK5.out
            rw [show 64 - n' - 1 = (55 - n') + 8 from by omega, zs_add, ← List.append_assoc] at h
            exact h)
          obtain ⟨X, hX⟩ : ∃ X, R ++ [0x80] ++ Sh.zs (55 - n') = X := ⟨_, rfl⟩
          rw [hX] at HXL HBKX HFZ
          clear hX h56 HBK5
          go_upto_region 10 with fail
          refine wp_region_lit ?_
          refine wpList_run (v := .int .i64 (n' : Int)) (wanted_none rfl) (exec_move rfl rfl) ?_
          simp only [Act.put, List.setIfInBounds_toArray, List.set_cons_zero, List.set_cons_succ]
          refine wpList_run (v := .bool false) (wanted_none rfl) (ix_geq rfl rfl rfl (decide_eq_false (by omega))) ?_
          simp only [Act.put, List.setIfInBounds_toArray, List.set_cons_zero, List.set_cons_succ]
          go_upto_region 13 with fail
          refine wp_region_lit ?_
          refine wpList_run (v := .int .i64 0) (wanted_none rfl) (exec_move rfl rfl) ?_
          simp only [Act.put, List.setIfInBounds_toArray, List.set_cons_zero, List.set_cons_succ]
          go_wp2_with fail
          go_loopg [40] 8 (fun gk iv wq => ∃ i : Nat, iv = .int .i64 (i : Int) ∧ i + gk = 8 ∧ Blk wq q 90 (wds hh.l) ∧ Blk wq k 85 (byteCells ((X ++ (Sh.be8 NB).take i) ++ Sh.zs (8 - i))) ∧ Blk wq r 71 (byteCells (Sh.zs 32)) ∧ Turn nowhere w wq)
          case atStart => exact ⟨0, rfl, rfl, HBQ5.out, by rw [List.take_zero, List.append_nil]; exact HBKX.out, HBR5.out, HTR5.out⟩
          clear HGK
          obtain ⟨i, rfl, hgk, hbq, hbk, hbr, htr⟩ := hrel
          have HGK := Lib.hid hgk
          have HBQ := Lib.hid hbq
          have HBK := Lib.hid hbk
          have HBR := Lib.hid hbr
          have HTR := Lib.hid htr
          have yi : (i : Int) ≤ 8 := by omega
          clear hgk hbq hbk hbr htr
          by_cases hlt : i < 8
          · as_aux_lemma =>
              have HL8 := Lib.hid hlt
              have y3 : (i : Int) < 8 := by omega
              have HNX := Lib.hid (be8_next NB hlt)
              have HAL := Lib.hid (show (X ++ (Sh.be8 NB).take i).length = 56 + i from by rw [List.length_append, HXL.out, List.length_take, Sh.be8_len]; omega)
              clear hlt
              go_upto_region 14 with fail
              refine wp_region_lit ?_
              refine wpList_run (v := .bool true) (wanted_none rfl) (ix_lss rfl rfl rfl (decide_eq_true y3)) ?_
              simp only [Act.put, List.setIfInBounds_toArray, List.set_cons_zero, List.set_cons_succ]
              go_upto_region 15 with fail
              refine wp_region_lit ?_
              refine wpList_run (v := .int .i64 (i : Int)) (wanted_none rfl) (exec_move rfl rfl) ?_
              simp only [Act.put, List.setIfInBounds_toArray, List.set_cons_zero, List.set_cons_succ]
              refine wpList_run (v := .int .i64 (i : Int)) (wanted_none rfl) (gx_assign rfl rfl) ?_
              simp only [Act.put, List.setIfInBounds_toArray, List.set_cons_zero, List.set_cons_succ]
              go_upto_region 16 with fail
              refine wp_region_lit ?_
              refine wpList_run (v := .int .i64 (i : Int)) (wanted_none rfl) (exec_move rfl rfl) ?_
              simp only [Act.put, List.setIfInBounds_toArray, List.set_cons_zero, List.set_cons_succ]
              refine wpList_run (v := .int .i64 ((56 + i : Nat) : Int)) (wanted_none rfl) (ix_add rfl rfl rfl (by omega) ⟨by omega, by omega⟩) ?_
              simp only [Act.put, List.setIfInBounds_toArray, List.set_cons_zero, List.set_cons_succ]
              refine wpList_run (v := .int .u64 (NB : Int)) (wanted_none rfl) (exec_move rfl rfl) ?_
              simp only [Act.put, List.setIfInBounds_toArray, List.set_cons_zero, List.set_cons_succ]
              refine wpList_run (v := .int .i64 (i : Int)) (wanted_none rfl) (exec_move rfl rfl) ?_
              simp only [Act.put, List.setIfInBounds_toArray, List.set_cons_zero, List.set_cons_succ]
              refine wpList_run (v := .int .i64 ((8 * i : Nat) : Int)) (wanted_none rfl) (ix_mul rfl rfl rfl (by omega) ⟨by omega, by omega⟩) ?_
              simp only [Act.put, List.setIfInBounds_toArray, List.set_cons_zero, List.set_cons_succ]
              refine wpList_run (v := .int .i64 ((56 - 8 * i : Nat) : Int)) (wanted_none rfl) (ix_sub rfl rfl rfl (by omega) ⟨by omega, by omega⟩) ?_
              simp only [Act.put, List.setIfInBounds_toArray, List.set_cons_zero, List.set_cons_succ]
              refine wpList_run (v := .int .u64 ((NB / 2 ^ (56 - 8 * i) : Nat) : Int)) (wanted_none rfl) (wd_shr64 rfl rfl rfl (by omega)) ?_
              simp only [Act.put, List.setIfInBounds_toArray, List.set_cons_zero, List.set_cons_succ]
              refine wpList_run (v := .int .u8 ((UInt8.ofNat (NB / 2 ^ (56 - 8 * i))).toNat : Int)) (wanted_none rfl) (wd_low64 rfl rfl) ?_
              simp only [Act.put, List.setIfInBounds_toArray, List.set_cons_zero, List.set_cons_succ]
              refine wpList_run (v := .pointer (some ⟨k, 0 + (56 + i) * 1, none⟩)) (wanted_none rfl) (gx_aaddr_g (i := 56 + i) (sz := 1) rfl rfl rfl Tryz.underlying85 size_u8 (by have := HL8.out; omega) rfl) ?_
              simp only [Act.put, List.setIfInBounds_toArray, List.set_cons_zero, List.set_cons_succ]
              refine wpList_put (wanted_none rfl) 5 (.tmp 51) (.tmp 50) rfl (.int .u8 ((UInt8.ofNat (NB / 2 ^ (56 - 8 * i))).toNat : Int)) (byteCells ((X ++ (Sh.be8 NB).take (i + 1)) ++ Sh.zs (8 - i - 1))) HBK.out rfl rfl (by rw [bc_size, List.length_append, HAL.out, Sh.zs_len]; have := HL8.out; omega) rfl rfl size_u8 (by
                rw [Nat.zero_add, Nat.mul_one, bc_set, set_zs HAL.out (by have := HL8.out; omega), HNX.out, List.append_assoc X]) ?_
              intro wz hb4 ht4
              have HBK5 := Lib.hid hb4
              have HBQ5 := Lib.hid (HBQ.out.turn (F := only k) ht4 fun e => HNqk.out e)
              have HBR5 := Lib.hid (HBR.out.turn (F := only k) ht4 fun e => HNrk.out e)
              have HTR5 := Lib.hid (HTR.out.trans ht4 fun k' hk e => by have := HLk2.out; have e : k' = k := e; omega)
              clear hb4 ht4 HBK HBQ HBR HTR
              simp only [Act.put, List.setIfInBounds_toArray, List.set_cons_zero, List.set_cons_succ]
              go_upto_region 17 with fail
              refine wp_region_lit ?_
              refine wpList_run (v := .int .i64 ((i + 1 : Nat) : Int)) (wanted_none rfl) (ix_add rfl rfl rfl (by omega) (by omega)) ?_
              simp only [Act.put, List.setIfInBounds_toArray, List.set_cons_zero, List.set_cons_succ]
              refine wpList_run (v := .int .i64 ((i + 1 : Nat) : Int)) (wanted_none rfl) (exec_move rfl rfl) ?_
              simp only [Act.put, List.setIfInBounds_toArray, List.set_cons_zero, List.set_cons_succ]
              go_wp2_with fail
              go_roundg (8 - (i + 1))
              case measure => have := HGK.out; have := HL8.out; omega
              case rel => exact ⟨i + 1, rfl, by have := HL8.out; omega, HBQ5.out, HBK5.out, HBR5.out, HTR5.out⟩
          · as_aux_lemma =>
              obtain rfl : i = 8 := by omega
              clear hlt
              have HBKZ := Lib.hid (show Blk wr k 85 (byteCells (X ++ Sh.be8 NB)) from by have h := HBK.out; rw [List.take_of_length_le (by rw [Sh.be8_len]; omega), Nat.sub_self] at h; simpa [Sh.zs] using h)
              have HZL := Lib.hid (show (X ++ Sh.be8 NB).length = 64 from by rw [List.length_append, HXL.out, Sh.be8_len])
              obtain ⟨PZ, hPZ⟩ : ∃ PZ, X ++ Sh.be8 NB = PZ := ⟨_, rfl⟩
              rw [hPZ] at HBKZ HZL HFZ
              clear hPZ HBK
              go_upto_region 14 with fail
              refine wp_region_lit ?_
              refine wpList_run (v := .bool false) (wanted_none rfl) (ix_lss rfl rfl rfl (by decide)) ?_
              simp only [Act.put, List.setIfInBounds_toArray, List.set_cons_zero, List.set_cons_succ]
              go_upto_region 18 with fail
              refine wp_region_lit ?_
              refine wpList_run (v := .agg (wds hh.l)) (wanted_none rfl) (gx_loads_g rfl rfl (blk_range_g HBQ.out) Tryz.underlying90 rfl (size_wds.trans rfl)) ?_
              simp only [Act.put, List.setIfInBounds_toArray, List.set_cons_zero, List.set_cons_succ]
              refine wpList_run (v := .agg (byteCells PZ)) (wanted_none rfl) (gx_loads_g rfl rfl (blk_range_g HBKZ.out) Tryz.underlying85 rfl (size_pc.trans (congrArg some ((bc_size _).trans HZL.out).symm))) ?_
              simp only [Act.put, List.setIfInBounds_toArray, List.set_cons_zero, List.set_cons_succ]
              refine wpList_op_g rfl fun K9 HK9 => ?_
              go_wp2_with fail
              refine (take_walk hh PZ _ HZL.out (HK.out.turn HTR.out)).mono ?_
              rintro e wx ⟨rfl, ht⟩
              refine HK9.out _ _ ?_
              clear HK9
              try simp only [Act.put, List.setIfInBounds_toArray, List.set_cons_zero, List.set_cons_succ]
              have HBRx := Lib.hid (HBR.out.turn ht fun e => e)
              have HTRx := Lib.hid (HTR.out.trans ht fun _ _ e => e)
              clear ht
              refine wpList_op_g rfl fun K9 HK9 => ?_
              go_wp2_with fail
              refine (value_walk (Sh.comp hh PZ) _).mono ?_
              rintro e wy ⟨rfl, ht⟩
              refine HK9.out _ _ ?_
              clear HK9
              try simp only [Act.put, List.setIfInBounds_toArray, List.set_cons_zero, List.set_cons_succ]
              have HBRy := Lib.hid (HBRx.out.turn ht fun e => e)
              have HTRy := Lib.hid (HTRx.out.trans ht fun _ _ e => e)
              have HFE := Lib.hid (HFZ.out.symm.trans HF.out)
              rw [HFE.out]
              have HFL := Lib.hid (show F.length = 32 from by rw [← HFE.out]; rfl)
              clear ht
              refine wpList_store_row (wanted_none rfl) 71 (.tmp 6) (.tmp 56) rfl (byteCells F) HBRy.out rfl rfl (by rw [bc_size, bc_size, HFL.out]; rfl) (by rw [size_hs, bc_size, HFL.out]) (bc_one _) ?_
              intro wz hb_ ht_
              have HBZ := Lib.hid hb_
              have HTz := Lib.hid ht_
              clear hb_ ht_
              simp only [Act.put, List.setIfInBounds_toArray, List.set_cons_zero, List.set_cons_succ]
              have HTZ := Lib.hid (HTRy.out.trans HTz.out fun k' hk e => by have := HLr.out; have e : k' = r := e; omega)
              go_wp2_with fail
              refine bodyPost_ret (v := .agg (byteCells F)) (ret_cell1_g rfl _ _ r _ _ _ rfl HBZ.out Tryz.underlying71 rfl (by rw [size_hs, bc_size, HFL.out] <;> rfl)) rfl ?_
              exact ⟨rfl, HTZ.out⟩
      · as_aux_lemma =>
          have y56 : 56 ≤ (n' : Int) := by omega
          have HFZ0 := Lib.hid (fin_hi h done (done + n) b R HR.out (by rw [HN.out]) (by rw [HRL.out]; exact h56))
          rw [HBJ.out, HNB.out, HRL.out] at HFZ0
          have HP2 := Lib.hid (show (R ++ [0x80] ++ Sh.zs (63 - n')).length = 64 from by simp only [List.length_append, List.length_singleton, Sh.zs_len, HRL.out]; have := HLT.out; omega)
          have HBKX := Lib.hid (show Blk w5 k 85 (byteCells (R ++ [0x80] ++ Sh.zs (63 - n'))) from by
            have h := HBK5.out
            rw [show 64 - n' - 1 = 63 - n' from by omega] at h
            exact h)
          obtain ⟨P2, hP2⟩ : ∃ P2, R ++ [0x80] ++ Sh.zs (63 - n') = P2 := ⟨_, rfl⟩
          rw [hP2] at HP2 HBKX HFZ0
          clear hP2 h56 HBK5
          go_upto_region 10 with fail
          refine wp_region_lit ?_
          refine wpList_run (v := .int .i64 (n' : Int)) (wanted_none rfl) (exec_move rfl rfl) ?_
          simp only [Act.put, List.setIfInBounds_toArray, List.set_cons_zero, List.set_cons_succ]
          refine wpList_run (v := .bool true) (wanted_none rfl) (ix_geq rfl rfl rfl (decide_eq_true y56)) ?_
          simp only [Act.put, List.setIfInBounds_toArray, List.set_cons_zero, List.set_cons_succ]
          go_upto_region 11 with fail
          refine wp_region_lit ?_
          refine wpList_run (v := .agg (wds hh.l)) (wanted_none rfl) (gx_loads_g rfl rfl (blk_range_g HBQ5.out) Tryz.underlying90 rfl (size_wds.trans rfl)) ?_
          simp only [Act.put, List.setIfInBounds_toArray, List.set_cons_zero, List.set_cons_succ]
          refine wpList_run (v := .agg (byteCells P2)) (wanted_none rfl) (gx_loads_g rfl rfl (blk_range_g HBKX.out) Tryz.underlying85 rfl (size_pc.trans (congrArg some ((bc_size _).trans HP2.out).symm))) ?_
          simp only [Act.put, List.setIfInBounds_toArray, List.set_cons_zero, List.set_cons_succ]
          refine wpList_op_g rfl fun K9 HK9 => ?_
          go_wp2_with fail
          refine (take_walk hh P2 w5 HP2.out (HK.out.turn HTR5.out)).mono ?_
          rintro e w6 ⟨rfl, ht⟩
          refine HK9.out _ _ ?_
          clear HK9
          try simp only [Act.put, List.setIfInBounds_toArray, List.set_cons_zero, List.set_cons_succ]
          obtain ⟨h2, hh2⟩ : ∃ h2, Sh.comp hh P2 = h2 := ⟨_, rfl⟩
          rw [hh2] at HFZ0 ⊢
          have HFZ := HFZ0
          have HBQ6 := Lib.hid (HBQ5.out.turn ht fun e => e)
          have HBK6 := Lib.hid (HBKX.out.turn ht fun e => e)
          have HBR6 := Lib.hid (HBR5.out.turn ht fun e => e)
          have HTR6 := Lib.hid (HTR5.out.trans ht fun _ _ e => e)
          clear ht hh2 HFZ0 HBQ5 HBKX HBR5 HTR5
          refine wpList_store_row (wanted_none rfl) 90 (.tmp 3) (.tmp 38) rfl (wds h2.l) HBQ6.out rfl rfl (rfl) (by rw [size_wds] <;> rfl) (wds_one _) ?_
          intro w7 hb_ ht_
          have HBQ7 := Lib.hid hb_
          have HT7 := Lib.hid ht_
          clear hb_ ht_
          simp only [Act.put, List.setIfInBounds_toArray, List.set_cons_zero, List.set_cons_succ]
          have HBK7 := Lib.hid (HBK6.out.turn (F := only q) HT7.out fun e => HNqk.out e.symm)
          have HBR7 := Lib.hid (HBR6.out.turn (F := only q) HT7.out fun e => HNrq.out e)
          have HTR7 := Lib.hid (HTR6.out.trans HT7.out fun k' hk e => by have := HLq.out; have e : k' = q := e; omega)
          clear HBQ6 HBK6 HBR6 HTR6 HT7
          go_upto_region 12 with fail
          refine wp_region_lit ?_
          refine wpList_run (v := .agg (byteCells (Sh.zs 64))) (wanted_none rfl) (gx_build0 rfl (build_pc0 _)) ?_
          simp only [Act.put, List.setIfInBounds_toArray, List.set_cons_zero, List.set_cons_succ]
          refine wpList_store_row (wanted_none rfl) 85 (.tmp 8) (.tmp 39) rfl (byteCells (Sh.zs 64)) HBK7.out rfl rfl (by rw [bc_size, bc_size, HP2.out]; rfl) (by rw [size_pc] <;> rfl) (bc_one _) ?_
          intro w8 hb_ ht_
          have HBK8 := Lib.hid hb_
          have HT8 := Lib.hid ht_
          clear hb_ ht_
          simp only [Act.put, List.setIfInBounds_toArray, List.set_cons_zero, List.set_cons_succ]
          have HBQ8 := Lib.hid (HBQ7.out.turn (F := only k) HT8.out fun e => HNqk.out e)
          have HBR8 := Lib.hid (HBR7.out.turn (F := only k) HT8.out fun e => HNrk.out e)
          have HTR8 := Lib.hid (HTR7.out.trans HT8.out fun k' hk e => by have := HLk2.out; have e : k' = k := e; omega)
          have HXL := Lib.hid (Sh.zs_len 56)
          have HBKX := Lib.hid (show Blk w8 k 85 (byteCells (Sh.zs 56 ++ Sh.zs 8)) from HBK8.out)
          obtain ⟨X, hX⟩ : ∃ X, Sh.zs 56 = X := ⟨_, rfl⟩
          rw [hX] at HXL HBKX HFZ
          obtain ⟨hh9, hhh⟩ : ∃ x, h2 = x := ⟨_, rfl⟩
          subst hhh
          clear hX HBQ7 HBK8 HBR7 HTR7 HT8
          go_upto_region 13 with fail
          refine wp_region_lit ?_
          refine wpList_run (v := .int .i64 0) (wanted_none rfl) (exec_move rfl rfl) ?_
          simp only [Act.put, List.setIfInBounds_toArray, List.set_cons_zero, List.set_cons_succ]
          go_wp2_with fail
          go_loopg [40] 8 (fun gk iv wq => ∃ i : Nat, iv = .int .i64 (i : Int) ∧ i + gk = 8 ∧ Blk wq q 90 (wds h2.l) ∧ Blk wq k 85 (byteCells ((X ++ (Sh.be8 NB).take i) ++ Sh.zs (8 - i))) ∧ Blk wq r 71 (byteCells (Sh.zs 32)) ∧ Turn nowhere w wq)
          case atStart => exact ⟨0, rfl, rfl, HBQ8.out, by rw [List.take_zero, List.append_nil]; exact HBKX.out, HBR8.out, HTR8.out⟩
          clear HGK
          obtain ⟨i, rfl, hgk, hbq, hbk, hbr, htr⟩ := hrel
          have HGK := Lib.hid hgk
          have HBQ := Lib.hid hbq
          have HBK := Lib.hid hbk
          have HBR := Lib.hid hbr
          have HTR := Lib.hid htr
          have yi : (i : Int) ≤ 8 := by omega
          clear hgk hbq hbk hbr htr
          by_cases hlt : i < 8
          · as_aux_lemma =>
              have HL8 := Lib.hid hlt
              have y3 : (i : Int) < 8 := by omega
              have HNX := Lib.hid (be8_next NB hlt)
              have HAL := Lib.hid (show (X ++ (Sh.be8 NB).take i).length = 56 + i from by rw [List.length_append, HXL.out, List.length_take, Sh.be8_len]; omega)
              clear hlt
              go_upto_region 14 with fail
              refine wp_region_lit ?_
              refine wpList_run (v := .bool true) (wanted_none rfl) (ix_lss rfl rfl rfl (decide_eq_true y3)) ?_
              simp only [Act.put, List.setIfInBounds_toArray, List.set_cons_zero, List.set_cons_succ]
              go_upto_region 15 with fail
              refine wp_region_lit ?_
              refine wpList_run (v := .int .i64 (i : Int)) (wanted_none rfl) (exec_move rfl rfl) ?_
              simp only [Act.put, List.setIfInBounds_toArray, List.set_cons_zero, List.set_cons_succ]
              refine wpList_run (v := .int .i64 (i : Int)) (wanted_none rfl) (gx_assign rfl rfl) ?_
              simp only [Act.put, List.setIfInBounds_toArray, List.set_cons_zero, List.set_cons_succ]
              go_upto_region 16 with fail
              refine wp_region_lit ?_
              refine wpList_run (v := .int .i64 (i : Int)) (wanted_none rfl) (exec_move rfl rfl) ?_
              simp only [Act.put, List.setIfInBounds_toArray, List.set_cons_zero, List.set_cons_succ]
              refine wpList_run (v := .int .i64 ((56 + i : Nat) : Int)) (wanted_none rfl) (ix_add rfl rfl rfl (by omega) ⟨by omega, by omega⟩) ?_
              simp only [Act.put, List.setIfInBounds_toArray, List.set_cons_zero, List.set_cons_succ]
              refine wpList_run (v := .int .u64 (NB : Int)) (wanted_none rfl) (exec_move rfl rfl) ?_
              simp only [Act.put, List.setIfInBounds_toArray, List.set_cons_zero, List.set_cons_succ]
              refine wpList_run (v := .int .i64 (i : Int)) (wanted_none rfl) (exec_move rfl rfl) ?_
              simp only [Act.put, List.setIfInBounds_toArray, List.set_cons_zero, List.set_cons_succ]
              refine wpList_run (v := .int .i64 ((8 * i : Nat) : Int)) (wanted_none rfl) (ix_mul rfl rfl rfl (by omega) ⟨by omega, by omega⟩) ?_
              simp only [Act.put, List.setIfInBounds_toArray, List.set_cons_zero, List.set_cons_succ]
              refine wpList_run (v := .int .i64 ((56 - 8 * i : Nat) : Int)) (wanted_none rfl) (ix_sub rfl rfl rfl (by omega) ⟨by omega, by omega⟩) ?_
              simp only [Act.put, List.setIfInBounds_toArray, List.set_cons_zero, List.set_cons_succ]
              refine wpList_run (v := .int .u64 ((NB / 2 ^ (56 - 8 * i) : Nat) : Int)) (wanted_none rfl) (wd_shr64 rfl rfl rfl (by omega)) ?_
              simp only [Act.put, List.setIfInBounds_toArray, List.set_cons_zero, List.set_cons_succ]
              refine wpList_run (v := .int .u8 ((UInt8.ofNat (NB / 2 ^ (56 - 8 * i))).toNat : Int)) (wanted_none rfl) (wd_low64 rfl rfl) ?_
              simp only [Act.put, List.setIfInBounds_toArray, List.set_cons_zero, List.set_cons_succ]
              refine wpList_run (v := .pointer (some ⟨k, 0 + (56 + i) * 1, none⟩)) (wanted_none rfl) (gx_aaddr_g (i := 56 + i) (sz := 1) rfl rfl rfl Tryz.underlying85 size_u8 (by have := HL8.out; omega) rfl) ?_
              simp only [Act.put, List.setIfInBounds_toArray, List.set_cons_zero, List.set_cons_succ]
              refine wpList_put (wanted_none rfl) 5 (.tmp 51) (.tmp 50) rfl (.int .u8 ((UInt8.ofNat (NB / 2 ^ (56 - 8 * i))).toNat : Int)) (byteCells ((X ++ (Sh.be8 NB).take (i + 1)) ++ Sh.zs (8 - i - 1))) HBK.out rfl rfl (by rw [bc_size, List.length_append, HAL.out, Sh.zs_len]; have := HL8.out; omega) rfl rfl size_u8 (by
                rw [Nat.zero_add, Nat.mul_one, bc_set, set_zs HAL.out (by have := HL8.out; omega), HNX.out, List.append_assoc X]) ?_
              intro wz hb4 ht4
              have HBK5 := Lib.hid hb4
              have HBQ5 := Lib.hid (HBQ.out.turn (F := only k) ht4 fun e => HNqk.out e)
              have HBR5 := Lib.hid (HBR.out.turn (F := only k) ht4 fun e => HNrk.out e)
              have HTR5 := Lib.hid (HTR.out.trans ht4 fun k' hk e => by have := HLk2.out; have e : k' = k := e; omega)
              clear hb4 ht4 HBK HBQ HBR HTR
              simp only [Act.put, List.setIfInBounds_toArray, List.set_cons_zero, List.set_cons_succ]
              go_upto_region 17 with fail
              refine wp_region_lit ?_
              refine wpList_run (v := .int .i64 ((i + 1 : Nat) : Int)) (wanted_none rfl) (ix_add rfl rfl rfl (by omega) (by omega)) ?_
              simp only [Act.put, List.setIfInBounds_toArray, List.set_cons_zero, List.set_cons_succ]
              refine wpList_run (v := .int .i64 ((i + 1 : Nat) : Int)) (wanted_none rfl) (exec_move rfl rfl) ?_
              simp only [Act.put, List.setIfInBounds_toArray, List.set_cons_zero, List.set_cons_succ]
              go_wp2_with fail
              go_roundg (8 - (i + 1))
              case measure => have := HGK.out; have := HL8.out; omega
              case rel => exact ⟨i + 1, rfl, by have := HL8.out; omega, HBQ5.out, HBK5.out, HBR5.out, HTR5.out⟩
          · as_aux_lemma =>
              obtain rfl : i = 8 := by omega
              clear hlt
              have HBKZ := Lib.hid (show Blk wr k 85 (byteCells (X ++ Sh.be8 NB)) from by have h := HBK.out; rw [List.take_of_length_le (by rw [Sh.be8_len]; omega), Nat.sub_self] at h; simpa [Sh.zs] using h)
              have HZL := Lib.hid (show (X ++ Sh.be8 NB).length = 64 from by rw [List.length_append, HXL.out, Sh.be8_len])
              obtain ⟨PZ, hPZ⟩ : ∃ PZ, X ++ Sh.be8 NB = PZ := ⟨_, rfl⟩
              rw [hPZ] at HBKZ HZL HFZ
              clear hPZ HBK
              go_upto_region 14 with fail
              refine wp_region_lit ?_
              refine wpList_run (v := .bool false) (wanted_none rfl) (ix_lss rfl rfl rfl (by decide)) ?_
              simp only [Act.put, List.setIfInBounds_toArray, List.set_cons_zero, List.set_cons_succ]
              go_upto_region 18 with fail
              refine wp_region_lit ?_
              refine wpList_run (v := .agg (wds h2.l)) (wanted_none rfl) (gx_loads_g rfl rfl (blk_range_g HBQ.out) Tryz.underlying90 rfl (size_wds.trans rfl)) ?_
              simp only [Act.put, List.setIfInBounds_toArray, List.set_cons_zero, List.set_cons_succ]
              refine wpList_run (v := .agg (byteCells PZ)) (wanted_none rfl) (gx_loads_g rfl rfl (blk_range_g HBKZ.out) Tryz.underlying85 rfl (size_pc.trans (congrArg some ((bc_size _).trans HZL.out).symm))) ?_
              simp only [Act.put, List.setIfInBounds_toArray, List.set_cons_zero, List.set_cons_succ]
              refine wpList_op_g rfl fun K9 HK9 => ?_
              go_wp2_with fail
              refine (take_walk h2 PZ _ HZL.out (HK.out.turn HTR.out)).mono ?_
              rintro e wx ⟨rfl, ht⟩
              refine HK9.out _ _ ?_
              clear HK9
              try simp only [Act.put, List.setIfInBounds_toArray, List.set_cons_zero, List.set_cons_succ]
              have HBRx := Lib.hid (HBR.out.turn ht fun e => e)
              have HTRx := Lib.hid (HTR.out.trans ht fun _ _ e => e)
              clear ht
              refine wpList_op_g rfl fun K9 HK9 => ?_
              go_wp2_with fail
              refine (value_walk (Sh.comp h2 PZ) _).mono ?_
              rintro e wy ⟨rfl, ht⟩
              refine HK9.out _ _ ?_
              clear HK9
              try simp only [Act.put, List.setIfInBounds_toArray, List.set_cons_zero, List.set_cons_succ]
              have HBRy := Lib.hid (HBRx.out.turn ht fun e => e)
              have HTRy := Lib.hid (HTRx.out.trans ht fun _ _ e => e)
              have HFE := Lib.hid (HFZ.out.symm.trans HF.out)
              rw [HFE.out]
              have HFL := Lib.hid (show F.length = 32 from by rw [← HFE.out]; rfl)
              clear ht
              refine wpList_store_row (wanted_none rfl) 71 (.tmp 6) (.tmp 56) rfl (byteCells F) HBRy.out rfl rfl (by rw [bc_size, bc_size, HFL.out]; rfl) (by rw [size_hs, bc_size, HFL.out]) (bc_one _) ?_
              intro wz hb_ ht_
              have HBZ := Lib.hid hb_
              have HTz := Lib.hid ht_
              clear hb_ ht_
              simp only [Act.put, List.setIfInBounds_toArray, List.set_cons_zero, List.set_cons_succ]
              have HTZ := Lib.hid (HTRy.out.trans HTz.out fun k' hk e => by have := HLr.out; have e : k' = r := e; omega)
              go_wp2_with fail
              refine bodyPost_ret (v := .agg (byteCells F)) (ret_cell1_g rfl _ _ r _ _ _ rfl HBZ.out Tryz.underlying71 rfl (by rw [size_hs, bc_size, HFL.out] <;> rfl)) rfl ?_
              exact ⟨rfl, HTZ.out⟩
end Go.Proofs.YtfnillibngijaaaGreatDoor
