/-
  Texts in one file. Conditions: the tables and the errors read as laid.
-/
import Derived.Test.YtkagijifkpoplaaGreatDoorJT6
import Derived.Test.YtkagijifkpoplaaGreatDoorJT0
import Derived.Test.YtkagijifkpoplaaGreatDoorJT1
set_option linter.unusedVariables false
set_option linter.unusedSimpArgs false
set_option maxRecDepth 40000
set_option maxHeartbeats 20000000
namespace Go.Proofs.YtkagijifkpoplaaGreatDoor
open Go.RowKit
open Sh (Wd B8 H8)
set_option maxRecDepth 20000
theorem sx_mid {a : Act} {o : Oper} {W : World} {x y z : Operand} {b off n c i j : Nat} (hij : i ≤ j) (hic : i < c) (hm : j ≤ c) (ho : o.op = .slice 22 x (some y) (some z) none) (hx : a.eval x = .slice (some ⟨b, off, none⟩) n c) (hy : a.eval y = .int .i64 (i : Int)) (hz : a.eval z = .int .i64 (j : Int)) :
 (execOp a.eval o).run Tryz.prog W = .ok (.value (.slice (some ⟨b, off + i, none⟩) (j - i) (c - i))) W := by
 obtain ⟨i0, hi1, hi2⟩ := Option.map_eq_some_iff.1 size_u8
 have hu8 := Tryz.underlying22
 refine exec_slice ho hx (congrArg some hy) (congrArg some hz) rfl ?_
 have b1 : (0 : Int) ≤ (i : Int) ∧ (i : Int) ≤ (j : Int) := ⟨by omega, by omega⟩
 have b2 : (0 : Int) ≤ (j : Int) ∧ (j : Int) ≤ (c : Int) := ⟨by omega, by omega⟩
 simp [Instr.sliceAt, Instr.slice, Instr.sliceBounds, Instr.sliceBound, asIntOf, run_underlying hu8, sizeOf, typeInfo, hi1, hi2, b1, b2, add_nat, Result.andThen]
 simp only [if_pos hm, if_pos hij]
 simp [show ¬ c = i by omega]
theorem bs_mid {w : World} {B g n c : Nat} {l : B8} (h : Orw w B 5 1 (.slice (some ⟨g, 0, none⟩) n c) (rB l)) {i : Nat} (hi : i + 64 ≤ l.length) : Bs w (some ⟨g, i, none⟩) 64 ((l.drop i).take 64) := by
 refine ⟨by rw [List.length_take, List.length_drop]; omega, by unfold maxLen; omega, fun _ => ⟨g, i, rfl, fun j hj => ?_⟩⟩
 rw [orw_b h (i := i + j) (by omega), List.getD_eq_getElem?_getD, List.getD_eq_getElem?_getD, List.getElem?_take_of_lt hj, List.getElem?_drop]
theorem sx_mid0 {a : Act} {o : Oper} {W : World} {x y z : Operand} {b n c i : Nat} (hm : i + 64 ≤ c) (ho : o.op = .slice 22 x (some y) (some z) none) (hx : a.eval x = .slice (some ⟨b, 0, none⟩) n c) (hy : a.eval y = .int .i64 (i : Int)) (hz : a.eval z = .int .i64 ((i + 64 : Nat) : Int)) :
 (execOp a.eval o).run Tryz.prog W = .ok (.value (.slice (some ⟨b, i, none⟩) 64 (c - i))) W := by
 have h := sx_mid (i := i) (j := i + 64) (by omega) (by omega) hm ho hx hy hz (W := W)
 rw [Nat.zero_add, show i + 64 - i = 64 from by omega] at h
 exact h
theorem wd_8mul {a : Act} {o : Oper} {W : World} {x : Operand} {n : Nat} (ho : o.op = .binOp .mul 128 (.const (.int .u64 8)) x 128) (hx : a.eval x = .int .u64 (n : Int)) : (execOp a.eval o).run Tryz.prog W = .ok (.value (.int .u64 ((Sh.bits n : Nat) : Int))) W := by
 unfold execOp
 simp only [ho, hx]
 go_simp
 rw [IntKind.wrap_u64]
 unfold Sh.bits
 omega
theorem build_b0 (W : World) : (Instr.buildSlice 22 0 #[]).run Tryz.prog W = .ok (.slice (some ⟨W.heap.size, 0, none⟩) 0 0) (W.alloc (.cells #[] 5)) := by kernel_rfl
theorem build_H0 (W : World) : (Instr.buildSlice 137 8 #[(0, .int .u32 1779033703), (1, .int .u32 3144134277), (2, .int .u32 1013904242), (3, .int .u32 2773480762), (4, .int .u32 1359893119), (5, .int .u32 2600822924), (6, .int .u32 528734635), (7, .int .u32 1541459225)]).run Tryz.prog W = .ok (.slice (some ⟨W.heap.size, 0, none⟩) 8 8) (W.alloc (.cells (wds Sh.H0.l) 93)) := by kernel_rfl
theorem build_hs0 (W : World) : (Instr.build 76 #[]).run Tryz.prog W = .ok (.agg (byteCells (Sh.zs 32))) W := by kernel_rfl
theorem low0 (x : Wd) : Sh.low (x >>> 0) = Sh.low x := by simp
theorem ow_get (s : H8) {i : Nat} (h : i < 32) : (ow s.l).getD i 0 = Sh.low (s.l.getD (i / 4) 0 >>> (24 - 8 * (i % 4))) := by
 match i, h with
 | 0, _ | 1, _ | 2, _ | 4, _ | 5, _ | 6, _ | 8, _ | 9, _ | 10, _ | 12, _ | 13, _ | 14, _ | 16, _ | 17, _ | 18, _ | 20, _ | 21, _ | 22, _ | 24, _ | 25, _ | 26, _ | 28, _ | 29, _ | 30, _ => rfl
 | 3, _ | 7, _ | 11, _ | 15, _ | 19, _ | 23, _ | 27, _ | 31, _ => exact (low0 _).symm
 | i + 32, h => omega
theorem take_nextB (l : B8) {i : Nat} (h : i < l.length) : l.take (i + 1) = l.take i ++ [l.getD i 0] := by
 rw [List.take_succ_eq_append_getElem h, List.getD_eq_getElem?_getD, List.getElem?_eq_getElem h]
 rfl
theorem rem64 (n k Z : Nat) (hZ : Z = (119 - n % 64) % 64) (hk : k ≤ Z) : (n + 1 + k) % 64 ≠ 56 ↔ k < Z := by omega
theorem zs_snoc (k : Nat) : Sh.zs (k + 1) = Sh.zs k ++ [0] := zs_add k 1
theorem rsum_walk (w : World) (A : Option Addr) (n c : Nat) (b : B8) (hb : Bs w A n b) (hz : A = none → c = 0) (hm : n ≤ 140737488351232) :
 Calls Tryz.prog 60 #[.slice A n c] w fun e w' => e = .returned (.agg (byteCells (Sh.sum b))) ∧ Turn nowhere w w' := by
 have HB := zH hb
 have HN := zH hb.1
 have HZN := zH hz
 have HM := zH hm
 have yn : (n : Int) ≤ 140737488351232 := by omega
 obtain ⟨Z, hZ⟩ : ∃ Z, Z = (119 - n % 64) % 64 := ⟨_, rfl⟩
 have HZ := zH hZ
 have HZL := zH (show Z < 64 from by omega)
 have HPAD := zH (show Sh.pad b = b ++ [0x80] ++ Sh.zs Z ++ Sh.be8 (Sh.bits n) from by rw [hZ, ← hb.1]; rfl)
 have HSUM := zH (show Sh.sum b = Sh.out (Sh.blk ((Sh.pad b).length / 64) Sh.H0 (Sh.pad b)) from rfl)
 have HPL := zH (Sh.pad_len b)
 have HSL := zH (Sh.sum_len b)
 obtain ⟨F, hF⟩ : ∃ F, Sh.sum b = F := ⟨_, rfl⟩
 rw [hF] at HSUM HSL ⊢
 clear hb hz hm hZ hF
 go_enter Tryz.func60, Tryz.ntmps60
 go_upto_region 0 with fail
 refine wp_region_lit ?_
 refine wR (v := .pointer (some ⟨(w).heap.size, 0, none⟩)) (w' := (w).alloc (.cells (byteCells (Sh.zs 32)) 76)) wn (gx_alloc rfl (zero_hs _)) ?_
 simp only [zz]
 have hb_r := Blk.new (w) 76 (byteCells (Sh.zs 32))
 have ht_ := (Turn.refl nowhere (w)).alloc (.cells (byteCells (Sh.zs 32)) 76)
 obtain ⟨n0_, hn0_⟩ : ∃ n, n = (w).heap.size := ⟨_, rfl⟩
 have hz_r : (w).heap.size = n0_ + 0 := by rw [hn0_]; simp
 obtain ⟨r, hg_⟩ : ∃ g, g = (w).heap.size := ⟨_, rfl⟩
 rw [← hg_] at hb_r hz_r ⊢
 clear hg_
 generalize (w).alloc (.cells (byteCells (Sh.zs 32)) 76) = w1 at *
 have HT1 := zH ht_
 clear ht_
 have HBr := zH hb_r
 have HLr := zH (show (w).heap.size ≤ r from by omega)
 clear hb_r
 clear hn0_ hz_r
 clear n0_
 obtain ⟨A3, c3, w3, hap, ho3, ht3⟩ := copy_rws elmB (w := w1) (c := c) (ty := 22) (bs_rws (sh_still HB.out HT1.out) (by have := HM.out; omega)) (rB_fit b) HZN.out (by have := HM.out; omega)
 have HAP := zH hap
 have HO3 := zH ho3
 have HT3 := zH (HT1.out.trans ht3 fun _ _ e => e)
 have HBr3 := zH (HBr.out.turn ht3 fun e => e)
 have HTa0 := zH ht3
 clear hap ho3 ht3
 go_upto_region 1 with fail
 refine wp_region_lit ?_
 refine wR (v := .slice (some ⟨w1.heap.size, 0, none⟩) 0 0) (w' := w1.alloc (.cells #[] 5)) wn (bx_slice0 rfl (build_b0 w1)) ?_
 simp only [zz];refine nM (.slice A n c) ?_;simp only [zz]
 refine wR (v := .slice A3 n c3) (w' := w3) wn (exec_append rfl rfl rfl HAP.out) ?_
 simp only [zz];refine nA (.slice A3 n c3) ?_;simp only [zz]
 have HTa := zH (show Turn nowhere w1 w3 from HTa0.out)
 obtain ⟨A6, c6, w7, hap, ho7, ht7⟩ := orw_add elmB (ty := 22) (W1 := w1) (HO3.out) HTa.out (b1 0x80) rfl (b1_one _) (by rw [rB_len, HN.out]; have := HM.out; have := HZL.out; omega)
 rw [rB_len, HN.out] at hap ho7
 rw [← rB_snoc] at ho7
 have HAP := zH hap
 have HO7 := zH ho7
 have HT7 := zH ht7
 clear hap ho7 ht7
 go_upto_region 2 with fail
 refine wp_region_lit ?_
 refine nM (.slice A3 n c3) ?_;simp only [zz]
 refine wR (v := .slice (some ⟨w3.heap.size, 0, none⟩) 1 1) (w' := w3.alloc (.cells (b1 0x80).toArray 5)) wn (exec_buildSlice1 rfl rfl (build_one elmB (b1 0x80) rfl (by decide) _ rfl w3)) ?_
 simp only [zz]
 refine wR (v := .slice A6 (n + 1) c6) (w' := w7) wn (exec_append rfl rfl rfl HAP.out) ?_
 simp only [zz];refine nA (.slice A6 (n + 1) c6) ?_;simp only [zz]
 have HOX := zH (show Orw w7 w1.heap.size 5 1 (.slice A6 (n + 1) c6) (rB (b ++ [0x80] ++ Sh.zs 0)) from by rw [show Sh.zs 0 = [] from rfl, List.append_nil]; exact HO7.out)
 clear HO7 HAP HTa HO3 HT3 HBr3
 go_wp2_with fail
 go_loopg [3] Z (fun gk v wr => ∃ k : Nat, k + gk = Z ∧ Orw wr w1.heap.size 5 1 v (rB (b ++ [0x80] ++ Sh.zs k)) ∧ Turn nowhere w1 wr)
 case atStart => exact ⟨0, by omega, HOX.out, HT7.out⟩
 clear HOX HT7
 obtain ⟨k, hgk, hor, htr⟩ := hrel
 have HGK := zH hgk
 have HOR := zH hor
 have HTR := zH htr
 obtain ⟨A5, c5, rfl, _⟩ := hor.form
 have HKL := zH (show (b ++ [0x80] ++ Sh.zs k).length = n + 1 + k from by rw [List.length_append, List.length_append, Sh.zs_len, HN.out]; rfl)
 have HKZ := zH (rem64 n k Z HZ.out (by omega))
 have yk : (k : Int) < 64 := by have := HZL.out; omega
 clear hgk hor htr
 rw [rB_len, HKL.out] at HOR ⊢
 by_cases hlt : k < Z
 ·as_aux_lemma =>
   have HLT := zH hlt
   have yne : ((n + 1 + k) % 64 : Nat) ≠ (56 : Int) := by have := HKZ.out.2 hlt; omega
   clear hlt
   obtain ⟨A6, c6, w7, hap, ho7, ht7⟩ := orw_add elmB (ty := 22) (W1 := w1) (HOR.out) HTR.out (b1 0) rfl (b1_one _) (by rw [rB_len, HKL.out]; have := HM.out; have := HZL.out; omega)
   rw [rB_len, HKL.out] at hap ho7
   rw [← rB_snoc] at ho7
   have HAP := zH hap
   have HO7 := zH ho7
   have HT7 := zH ht7
   clear hap ho7 ht7
   go_upto_region 3 with fail
   refine wp_region_lit ?_
   refine nM (.slice A5 (n + 1 + k) c5) ?_;simp only [zz];refine nR (.int .i64 (((n + 1 + k : Nat)) : Int)) (gx_len rfl rfl Tryz.underlying22) ?_;simp only [zz];refine nR (.int .i64 (((n + 1 + k) % 64 : Nat) : Int)) (ix_rem_g (n := n + 1 + k) (m := 64) rfl rfl rfl (by decide) (by have := HM.out; omega)) ?_;simp only [zz];refine nR (.bool true) (ix_neq rfl rfl rfl (decide_eq_true yne)) ?_;simp only [zz]
   go_upto_region 4 with fail
   refine wp_region_lit ?_
   refine nM (.slice A5 (n + 1 + k) c5) ?_;simp only [zz]
   refine wR (v := .slice (some ⟨wr.heap.size, 0, none⟩) 1 1) (w' := wr.alloc (.cells (b1 0).toArray 5)) wn (exec_buildSlice1 rfl rfl (build_one elmB (b1 0) rfl (by decide) _ rfl wr)) ?_
   simp only [zz]
   refine wR (v := .slice A6 (n + 1 + k + 1) c6) (w' := w7) wn (exec_append rfl rfl rfl HAP.out) ?_
   simp only [zz];refine nA (.slice A6 (n + 1 + k + 1) c6) ?_;simp only [zz]
   go_wp2_with fail
   go_roundg (Z - (k + 1))
   case measure => have := HGK.out; have := HLT.out; omega
   case rel => exact ⟨k + 1, by have := HLT.out; omega, by rw [zs_snoc, ← List.append_assoc]; exact HO7.out, HT7.out⟩
 ·as_aux_lemma =>
   obtain rfl : k = Z := by have := HGK.out; omega
   have yeq : ((n + 1 + k) % 64 : Nat) = (56 : Int) := by
    have h := HKZ.out
    have : ¬ ((n + 1 + k) % 64 ≠ 56) := fun e => absurd (h.1 e) (Nat.lt_irrefl _)
    omega
   have HYE := zH yeq
   clear hlt HGK HKZ yeq
   go_upto_region 3 with fail
   refine wp_region_lit ?_
   refine nM (.slice A5 (n + 1 + k) c5) ?_;simp only [zz];refine nR (.int .i64 (((n + 1 + k : Nat)) : Int)) (gx_len rfl rfl Tryz.underlying22) ?_;simp only [zz];refine nR (.int .i64 (((n + 1 + k) % 64 : Nat) : Int)) (ix_rem_g (n := n + 1 + k) (m := 64) rfl rfl rfl (by decide) (by have := HM.out; omega)) ?_;simp only [zz];refine nR (.bool false) (ix_neq rfl rfl rfl (decide_eq_false (fun e => e HYE.out))) ?_;simp only [zz]
   go_upto_region 5 with fail
   refine wp_region_lit ?_
   refine nM (.slice A n c) ?_;simp only [zz];refine nR (.int .i64 (n : Int)) (gx_len rfl rfl Tryz.underlying22) ?_;simp only [zz];refine nR (.int .u64 (n : Int)) (wd_cv64 rfl rfl (by have := HM.out; omega)) ?_;simp only [zz];refine nR (.int .u64 ((Sh.bits n : Nat) : Int)) (wd_8mul rfl rfl) ?_;simp only [zz];refine nA (.int .u64 ((Sh.bits n : Nat) : Int)) ?_;simp only [zz]
   obtain ⟨X, hX⟩ : ∃ X, b ++ [0x80] ++ Sh.zs k = X := ⟨_, rfl⟩
   rw [hX] at HOR HKL HPAD
   obtain ⟨NB, hNB⟩ : ∃ NB, Sh.bits n = NB := ⟨_, rfl⟩
   rw [hNB] at HPAD ⊢
   obtain ⟨m, hm0⟩ : ∃ m, n + 1 + k = m := ⟨_, rfl⟩
   have HM5 := zH (show m ≤ 140737488351300 from by have := HM.out; have := HZL.out; omega)
   rw [hm0] at HOR HKL ⊢
   have HX8 := zH (show Orw wr w1.heap.size 5 1 (.slice A5 m c5) (rB (X ++ (Sh.be8 NB).take 0)) from by rw [List.take_zero, List.append_nil]; exact HOR.out)
   clear hX hNB hm0 HOR HYE
   go_upto_region 6 with fail
   refine wp_region_lit ?_
   refine nA (.int .i64 7) ?_;simp only [zz]
   go_wp2_with fail
   go_loopg [3, 5] 8 (fun gk v iv wq => ∃ (i : Nat) (x : Int), iv = .int .i64 x ∧ x = 7 - (i : Int) ∧ i + gk = 8 ∧ Orw wq w1.heap.size 5 1 v (rB (X ++ (Sh.be8 NB).take i)) ∧ Turn nowhere w1 wq)
   case atStart => exact ⟨0, 7, rfl, rfl, rfl, HX8.out, HTR.out⟩
   clear HX8 HTR
   obtain ⟨i, x, rfl, hx, hgk, hor, htr⟩ := hrel
   have HGK := zH hgk
   have HOR := zH hor
   have HTR := zH htr
   obtain ⟨A5, c5, rfl, _⟩ := hor.form
   have HKI := zH (show (X ++ (Sh.be8 NB).take i).length = m + i from by rw [List.length_append, HKL.out, List.length_take, Sh.be8_len]; omega)
   have HXI := zH hx
   have yx : x ≤ 7 ∧ -1 ≤ x := by omega
   clear hgk hor htr hx
   rw [rB_len, HKI.out] at HOR ⊢
   by_cases hlt : i < 8
   ·as_aux_lemma =>
     have HLT := zH hlt
     have HNX := zH (be8_next NB hlt)
     have y0 : 0 ≤ x := by have := HXI.out; omega
     have HSV := zH (show 8 * x = ((56 - 8 * i : Nat) : Int) from by have := HXI.out; omega)
     have HMI := zH (show m + i ≤ 140737488352000 from by have := HM5.out; omega)
     clear hlt
     obtain ⟨y, hy⟩ : ∃ y, UInt8.ofNat (NB / 2 ^ (56 - 8 * i)) = y := ⟨_, rfl⟩
     rw [hy] at HNX
     obtain ⟨A6, c6, w7, hap, ho7, ht7⟩ := orw_add elmB (ty := 22) (W1 := w1) HOR.out HTR.out (b1 y) rfl (b1_one _) (by rw [rB_len, HKI.out]; have := HMI.out; omega)
     rw [rB_len, HKI.out, ← rB_snoc, List.append_assoc, ← HNX.out] at ho7
     rw [rB_len, HKI.out] at hap
     have HAP := zH hap
     have HO7 := zH ho7
     have HT7 := zH ht7
     have HY := zH hy
     clear hap ho7 ht7 hy
     go_upto_region 7 with fail
     refine wp_region_lit ?_
     refine nM (.int .i64 x) ?_;simp only [zz];refine nR (.bool true) (ix_geq rfl rfl rfl (decide_eq_true y0)) ?_;simp only [zz]
     go_upto_region 9 with fail
     refine wp_region_lit ?_
     refine nM (.slice A5 (m + i) c5) ?_;simp only [zz];refine nM (.int .u64 ((NB : Nat) : Int)) ?_;simp only [zz];refine nM (.int .i64 x) ?_;simp only [zz];refine nR (.int .i64 (((56 - 8 * i : Nat)) : Int)) (ix_mul rfl rfl rfl HSV.out ⟨by omega, by omega⟩) ?_;simp only [zz];refine nR (.int .u64 ((NB / 2 ^ (56 - 8 * i) : Nat) : Int)) (wd_shr64 rfl rfl rfl (by omega)) ?_;simp only [zz];refine nR (.int .u8 ((y).toNat : Int)) ((by rw [← HY.out]; exact wd_low64 rfl rfl)) ?_;simp only [zz]
     refine wR (v := .slice (some ⟨wr.heap.size, 0, none⟩) 1 1) (w' := wr.alloc (.cells (b1 y).toArray 5)) wn (exec_buildSlice1 rfl rfl (build_one elmB (b1 y) rfl (by decide) _ rfl wr)) ?_
     simp only [zz]
     refine wR (v := .slice A6 (m + i + 1) c6) (w' := w7) wn (exec_append rfl rfl rfl HAP.out) ?_
     simp only [zz];refine nA (.slice A6 (m + i + 1) c6) ?_;simp only [zz]
     go_upto_region 8 with fail
     refine wp_region_lit ?_
     refine nM (.int .i64 x) ?_;simp only [zz];refine nR (.int .i64 (x - 1)) (ix_sub rfl rfl rfl rfl ⟨by omega, by omega⟩) ?_;simp only [zz];refine nA (.int .i64 (x - 1)) ?_;simp only [zz]
     go_wp2_with fail
     go_roundg (8 - (i + 1))
     case measure => have := HGK.out; have := HLT.out; omega
     case rel => exact ⟨i + 1, x - 1, rfl, by have := HXI.out; omega, by have := HLT.out; omega, HO7.out, HT7.out⟩
   ·as_aux_lemma =>
     obtain rfl : i = 8 := by have := HGK.out; omega
     have yn0 : ¬ (0 ≤ x) := by have := HXI.out; omega
     clear hlt HGK
     rw [show (Sh.be8 NB).take 8 = Sh.be8 NB from List.take_of_length_le (by rw [Sh.be8_len]; omega), ← HPAD.out] at HOR HKI
     clear HPAD HKL HXI
     obtain ⟨T, hT⟩ : ∃ T, Sh.pad b = T := ⟨_, rfl⟩
     rw [hT] at HOR HSUM HPL HKI
     clear hT
     obtain ⟨nT, hnT⟩ : ∃ x, m + 8 = x := ⟨_, rfl⟩
     rw [hnT] at HOR HKI ⊢
     have HMT := zH (show nT ≤ 140737488352000 from by have := HM5.out; omega)
     have HN0 := zH (show 0 < nT from by omega)
     clear hnT
     obtain ⟨Q, hQ⟩ : ∃ Q, T.length / 64 = Q := ⟨_, rfl⟩
     have HQ := zH (show nT = 64 * Q from by rw [← HKI.out, ← hQ]; exact HPL.out.symm)
     rw [hQ] at HSUM
     clear hQ HPL
     have yq : (nT : Int) ≤ 140737488352000 := by have := HMT.out; omega
     obtain ⟨gT, cT, heT, _, _, _, _⟩ := orw_at0 HOR.out (by rw [rB_len, HKI.out]; exact HN0.out)
     rw [rB_len, HKI.out] at heT
     injection heT with e1 e2 e3
     subst e1
     clear e2 e3
     have HCT := zH (show nT ≤ c5 from by obtain ⟨A9, c9, he9, h9, _⟩ := HOR.out.form; rw [rB_len, HKI.out] at he9 h9; injection he9 with e1 e2 e3; omega)
     go_upto_region 7 with fail
     refine wp_region_lit ?_
     refine nM (.int .i64 x) ?_;simp only [zz];refine nR (.bool false) (ix_geq rfl rfl rfl (decide_eq_false yn0)) ?_;simp only [zz]
     have HON := zH ((orw_new wr Sh.H0.l 8 rfl (by decide)).less HTR.out.size)
     have HTA := zH ((Turn.refl nowhere wr).alloc (.cells (wds Sh.H0.l) 93))
     have HBH := zH (build_H0 wr)
     have HTB := zH (HTR.out.trans HTA.out fun _ _ e => e)
     have HORB := zH (HOR.out.still HTA.out)
     obtain ⟨h0, hh0⟩ : ∃ h, Sh.H0 = h := ⟨_, rfl⟩
     rw [hh0] at HON HBH HTA HTB HORB HSUM
     clear hh0 HOR HTR
     obtain ⟨gh, hgh⟩ : ∃ x, wr.heap.size = x := ⟨_, rfl⟩
     rw [hgh] at HON HBH
     clear hgh
     generalize wr.alloc (.cells (wds h0.l) 93) = w8 at HON HBH HTB HORB
     clear HTA
     go_upto_region 10 with fail
     refine wp_region_lit ?_
     refine wR (v := .slice (some ⟨gh, 0, none⟩) 8 8) (w' := w8) wn (bx_slice8 rfl rfl rfl rfl rfl rfl rfl rfl rfl HBH.out) ?_
     simp only [zz];refine nA (.slice (some ⟨gh, 0, none⟩) 8 8) ?_;simp only [zz]
     go_upto_region 11 with fail
     refine wp_region_lit ?_
     refine nA (.int .i64 0) ?_;simp only [zz]
     go_wp2_with fail
     go_loopg [6, 7] Q (fun gk v iv wq => ∃ j g c : Nat, iv = .int .i64 ((64 * j : Nat) : Int) ∧ v = .slice (some ⟨g, 0, none⟩) 8 c ∧ j + gk = Q ∧ Orw wq w1.heap.size 93 1 (.slice (some ⟨g, 0, none⟩) 8 c) (rW (Sh.blk j h0 T).l) ∧ Orw wq w1.heap.size 5 1 (.slice (some ⟨gT, 0, none⟩) nT c5) (rB T) ∧ Turn nowhere w1 wq)
     case atStart => exact ⟨0, gh, 8, rfl, rfl, by omega, HON.out, HORB.out, HTB.out⟩
     clear HON HORB HTB HBH
     obtain ⟨j, g, c, rfl, rfl, hgk, hor, hot, htr⟩ := hrel
     have yj : ((64 * j : Nat) : Int) ≤ (nT : Int) := by have := HQ.out; omega
     have HGK := zH hgk
     have HOR := zH hor
     have HOT := zH hot
     have HTR := zH htr
     clear hgk hor hot htr
     by_cases hlt : j < Q
     ·as_aux_lemma =>
       have HLT := zH hlt
       have HJ64 := zH (show 64 * j + 64 ≤ nT from by have := HQ.out; omega)
       have y3 : ((64 * j : Nat) : Int) < (nT : Int) := by have := HJ64.out; omega
       clear hlt
       have HBM := zH (bs_mid HOT.out (i := 64 * j) (by rw [HKI.out]; exact HJ64.out))
       have HS1 := zH (Sh.blk_succ h0 T j)
       obtain ⟨s1, hs1⟩ : ∃ x, Sh.blk (j + 1) h0 T = x := ⟨_, rfl⟩
       obtain ⟨s0, hs0⟩ : ∃ x, Sh.blk j h0 T = x := ⟨_, rfl⟩
       obtain ⟨PJ, hPJ⟩ : ∃ x, (T.drop (64 * j)).take 64 = x := ⟨_, rfl⟩
       rw [hs0] at HOR
       rw [hPJ] at HBM
       rw [hs1, hs0, hPJ] at HS1
       have HS1e := zH hs1
       have HV := zH (orw_v8 HOR.out)
       clear hs1 hs0 hPJ
       go_upto_region 12 with fail
       refine wp_region_lit ?_
       refine nM (.int .i64 ((64 * j : Nat) : Int)) ?_;simp only [zz];refine nM (.slice (some ⟨gT, 0, none⟩) (nT) c5) ?_;simp only [zz];refine nR (.int .i64 (nT : Int)) (gx_len rfl rfl Tryz.underlying22) ?_;simp only [zz];refine nR (.bool true) (ix_lss rfl rfl rfl (decide_eq_true y3)) ?_;simp only [zz]
       go_upto_region 14 with fail
       refine wp_region_lit ?_
       refine nM (.slice (some ⟨g, 0, none⟩) 8 c) ?_;simp only [zz];refine nM (.slice (some ⟨gT, 0, none⟩) (nT) c5) ?_;simp only [zz];refine nM (.int .i64 ((64 * j : Nat) : Int)) ?_;simp only [zz];refine nM (.int .i64 ((64 * j : Nat) : Int)) ?_;simp only [zz];refine nR (.int .i64 (((64 * j + 64 : Nat)) : Int)) (ix_add rfl rfl rfl (by omega) ⟨by omega, by omega⟩) ?_;simp only [zz];refine nR (.slice (some ⟨gT, 64 * j, none⟩) 64 (c5 - 64 * j)) (sx_mid0 (i := 64 * j) (by have := HJ64.out; have := HCT.out; omega) rfl rfl rfl rfl) ?_;simp only [zz]
       refine wpList_op_g rfl fun K9 HK9 => ?_
       go_wp2_with fail
       refine (piece_walk s0 PJ wr g c gT (64 * j) (c5 - 64 * j) HV.out HBM.out).mono ?_
       rintro e w9 ⟨g9, c9, rfl, ho9, ht9⟩
       refine HK9.out _ _ ?_
       clear HK9
       try simp only [zz]
       rw [← HS1.out] at ho9
       have HO9 := zH (ho9.less HTR.out.size)
       have HOT9 := zH (HOT.out.still ht9)
       have HT9 := zH (HTR.out.trans ht9 fun _ _ e => e)
       clear ho9 ht9
       refine nA (.slice (some ⟨g9, 0, none⟩) 8 c9) ?_;simp only [zz]
       go_upto_region 13 with fail
       refine wp_region_lit ?_
       refine nM (.int .i64 ((64 * j : Nat) : Int)) ?_;simp only [zz];refine nR (.int .i64 (((64 * (j + 1) : Nat)) : Int)) (ix_add rfl rfl rfl (by omega) ⟨by omega, by omega⟩) ?_;simp only [zz];refine nA (.int .i64 (((64 * (j + 1) : Nat)) : Int)) ?_;simp only [zz]
       go_wp2_with fail
       go_roundg (Q - (j + 1))
       case measure => have := HGK.out; have := HLT.out; omega
       case rel => exact ⟨j + 1, g9, c9, rfl, rfl, by have := HGK.out; have := HLT.out; omega, by rw [HS1e.out]; exact HO9.out, HOT9.out, HT9.out⟩
     ·as_aux_lemma =>
       obtain rfl : j = Q := by have := HGK.out; omega
       clear hlt HGK HOT
       have yeq : ¬ (((64 * j : Nat) : Int) < (nT : Int)) := by have := HQ.out; omega
       obtain ⟨hh, hhh⟩ : ∃ x, Sh.blk j h0 T = x := ⟨_, rfl⟩
       rw [hhh] at HOR HSUM
       have HV := zH (orw_v8 HOR.out)
       have HGL := zH (show g < wr.heap.size from (HOR.out.lt rfl).2)
       clear hhh
       obtain ⟨wz, hwz⟩ : ∃ x, x = wr := ⟨_, rfl⟩
       rw [← hwz] at HV HTR HGL ⊢
       clear hwz HOR
       have HBRz := zH (HBr.out.turn HTR.out fun e => e)
       go_upto_region 12 with fail
       refine wp_region_lit ?_
       refine nM (.int .i64 ((64 * j : Nat) : Int)) ?_;simp only [zz];refine nM (.slice (some ⟨gT, 0, none⟩) (nT) c5) ?_;simp only [zz];refine nR (.int .i64 (nT : Int)) (gx_len rfl rfl Tryz.underlying22) ?_;simp only [zz];refine nR (.bool false) (ix_lss rfl rfl rfl (decide_eq_false yeq)) ?_;simp only [zz]
       go_upto_region 15 with fail
       refine wp_region_lit ?_
       refine nR (.agg (byteCells (Sh.zs 32))) (gx_build0 rfl (build_hs0 _)) ?_;simp only [zz]
       refine wR (v := .pointer (some ⟨wz.heap.size, 0, none⟩)) (w' := wz.alloc (.cells (byteCells (Sh.zs 32)) 76)) wn (gx_alloc rfl (zero_hs _)) ?_
       simp only [zz]
       have hb_ := Blk.new wz 76 (byteCells (Sh.zs 32))
       have ht_ := (Turn.refl nowhere wz).alloc (.cells (byteCells (Sh.zs 32)) 76)
       obtain ⟨k8, hg_⟩ : ∃ g, g = wz.heap.size := ⟨_, rfl⟩
       rw [← hg_] at hb_ ⊢
       have HLk8 := zH (show wz.heap.size ≤ k8 from by omega)
       clear hg_
       generalize wz.alloc (.cells (byteCells (Sh.zs 32)) 76) = wa at *
       have HBk8 := zH hb_
       have HTa := zH ht_
       clear hb_ ht_
       refine wpList_store_row wn 76 (.tmp 8) (.tmp 53) rfl (byteCells (Sh.zs 32)) HBk8.out rfl rfl (rfl) (by rw [size_hs] <;> rfl) (bc_one _) ?_
       intro wb hb_ ht_
       have HBK := zH hb_
       have HTb := zH ht_
       clear hb_ ht_
       simp only [zz]
       have HTab := zH (HTa.out.trans HTb.out fun k' hk e => by have := HLk8.out; have e : k' = k8 := e; omega)
       have HVb := zH (HV.out.still HTab.out)
       have HBRb := zH (HBRz.out.turn HTab.out fun e => e)
       have HTzb := zH (HTR.out.trans HTab.out fun _ _ e => e)
       have HNg8 := zH (show g ≠ k8 from by have := HGL.out; have := HLk8.out; omega)
       have HNr8 := zH (show r ≠ k8 from by have := HBRz.out.lt; have := HLk8.out; omega)
       have HL18 := zH (show w1.heap.size ≤ k8 from Nat.le_trans HTR.out.size HLk8.out)
       clear HTa HTb HV HBRz HTR HTab HBk8
       go_upto_region 16 with fail
       refine wp_region_lit ?_
       refine nA (.int .i64 0) ?_;simp only [zz]
       have HOW := zH (ow_out hh)
       have HOL := zH (show (ow hh.l).length = 32 from rfl)
       have HOG := zH (fun (i : Nat) (hi : i < 32) => ow_get hh hi)
       obtain ⟨O, hO⟩ : ∃ x, ow hh.l = x := ⟨_, rfl⟩
       rw [hO] at HOW HOL HOG
       rw [HOW.out] at HSUM
       clear hO HOW
       go_wp2_with fail
       go_loopg [9] 32 (fun gk iv wq => ∃ i : Nat, iv = .int .i64 (i : Int) ∧ i + gk = 32 ∧ Blk wq k8 76 (byteCells (O.take i ++ Sh.zs (32 - i))) ∧ Blk wq r 76 (byteCells (Sh.zs 32)) ∧ V8 wq g hh ∧ Turn nowhere w1 wq)
       case atStart => exact ⟨0, rfl, rfl, HBK.out, HBRb.out, HVb.out, HTzb.out⟩
       clear HBK HBRb HVb HTzb
       obtain ⟨i, rfl, hgk, hbk, hbr, hv, htr⟩ := hrel
       have yi : (i : Int) ≤ 32 := by omega
       have HGK := zH hgk
       have HBK := zH hbk
       have HBR := zH hbr
       have HV := zH hv
       have HTR := zH htr
       clear hgk hbk hbr hv htr
       by_cases hlt : i < 32
       ·as_aux_lemma =>
         have HLT := zH hlt
         have y3 : (i : Int) < 32 := by omega
         have HNX := zH (take_nextB O (i := i) (by rw [HOL.out]; exact hlt))
         have HG := zH (HOG.out i hlt)
         have HCV := zH (HV.out (i / 4) (by omega))
         obtain ⟨x, hx⟩ : ∃ x, hh.l.getD (i / 4) 0 = x := ⟨_, rfl⟩
         rw [hx] at HG HCV
         rw [HG.out] at HNX
         have HTL := zH (show (O.take i).length = i from by rw [List.length_take, HOL.out]; omega)
         clear hlt hx HG
         go_upto_region 17 with fail
         refine wp_region_lit ?_
         refine nM (.int .i64 (i : Int)) ?_;simp only [zz];refine nR (.bool true) (ix_lss rfl rfl rfl (decide_eq_true y3)) ?_;simp only [zz]
         go_upto_region 19 with fail
         refine wp_region_lit ?_
         refine nM (.int .i64 (i : Int)) ?_;simp only [zz];refine nM (.slice (some ⟨g, 0, none⟩) 8 c) ?_;simp only [zz];refine nM (.int .i64 (i : Int)) ?_;simp only [zz];refine nR (.int .i64 (((i / 4 : Nat)) : Int)) (ix_quo_g (n := i) (m := 4) rfl rfl rfl (by decide) (by have := HLT.out; omega)) ?_;simp only [zz];refine nR (.pointer (some ⟨g, 0 + (i / 4) * 1, none⟩)) (gx_iaddr (i := i / 4) (sz := 1) rfl rfl rfl Tryz.underlying137 size_u32 (by have := HLT.out; omega) rfl) ?_;simp only [zz];refine nR (.int .u32 ((x).toNat : Int)) (exec_load1 rfl rfl (by kernel_rfl) (by rw [Nat.zero_add, Nat.mul_one]; exact HCV.out)) ?_;simp only [zz];refine nM (.int .i64 (i : Int)) ?_;simp only [zz];refine nR (.int .i64 (((i % 4 : Nat)) : Int)) (ix_rem_g (n := i) (m := 4) rfl rfl rfl (by decide) (by have := HLT.out; omega)) ?_;simp only [zz];refine nR (.int .i64 (((8 * (i % 4) : Nat)) : Int)) (ix_mul rfl rfl rfl (by omega) ⟨by omega, by omega⟩) ?_;simp only [zz];refine nR (.int .i64 (((24 - 8 * (i % 4) : Nat)) : Int)) (ix_sub rfl rfl rfl (by omega) ⟨by omega, by omega⟩) ?_;simp only [zz];refine nR (.int .u32 ((x >>> (24 - 8 * (i % 4))).toNat : Int)) (wd_shri rfl rfl rfl (by omega)) ?_;simp only [zz];refine nR (.int .u8 ((Sh.low (x >>> (24 - 8 * (i % 4)))).toNat : Int)) (wd_low rfl rfl) ?_;simp only [zz];refine nR (.pointer (some ⟨k8, 0 + i * 1, none⟩)) (gx_aaddr_g (i := i) (sz := 1) rfl rfl rfl Tryz.underlying76 size_u8 HLT.out rfl) ?_;simp only [zz]
         refine wpList_put wn 5 (.tmp 70) (.tmp 69) rfl (.int .u8 ((Sh.low (x >>> (24 - 8 * (i % 4)))).toNat : Int)) (byteCells (O.take (i + 1) ++ Sh.zs (32 - i - 1))) HBK.out rfl rfl (by rw [bc_size, List.length_append, Sh.zs_len, HTL.out]; have := HLT.out; omega) rfl rfl size_u8 (by
          rw [Nat.zero_add, Nat.mul_one, bc_set, set_zs HTL.out (by have := HLT.out; omega), HNX.out]) ?_
         intro w5 hb4 ht4
         have HBK5 := zH hb4
         have HBR5 := zH (HBR.out.turn (F := only k8) ht4 fun e => HNr8.out e)
         have HV5 := zH (show V8 w5 g hh from fun i hi => (ht4.cell (World.block_lt_of_cell? _ _ (HV.out i hi)) (fun e => HNg8.out e)).trans (HV.out i hi))
         have HTR5 := zH (HTR.out.trans ht4 fun k' hk e => by have := HL18.out; have e : k' = k8 := e; omega)
         clear hb4 ht4
         simp only [zz]
         go_upto_region 18 with fail
         refine wp_region_lit ?_
         refine nM (.int .i64 (i : Int)) ?_;simp only [zz];refine nR (.int .i64 ((i + 1 : Nat) : Int)) (ix_add rfl rfl rfl (by omega) (by omega)) ?_;simp only [zz];refine nA (.int .i64 ((i + 1 : Nat) : Int)) ?_;simp only [zz]
         go_wp2_with fail
         go_roundg (32 - (i + 1))
         case measure => have := HGK.out; have := HLT.out; omega
         case rel => exact ⟨i + 1, rfl, by have := HLT.out; omega, by rw [show 32 - (i + 1) = 32 - i - 1 from by omega]; exact HBK5.out, HBR5.out, HV5.out, HTR5.out⟩
       ·as_aux_lemma =>
         obtain rfl : i = 32 := by omega
         clear hlt HGK
         have HBKZ := zH (show Blk wr k8 76 (byteCells F) from by have h := HBK.out; rw [List.take_of_length_le (by rw [HOL.out]; omega), Nat.sub_self, ← HSUM.out] at h; simpa [Sh.zs] using h)
         clear HBK HSUM
         go_upto_region 17 with fail
         refine wp_region_lit ?_
         refine nM (.int .i64 ((32 : Nat) : Int)) ?_;simp only [zz];refine nR (.bool false) (ix_lss rfl rfl rfl (by decide)) ?_;simp only [zz]
         go_upto_region 20 with fail
         refine wp_region_lit ?_
         refine nR (.agg (byteCells F)) (gx_loads_g rfl rfl (blk_range_g HBKZ.out) Tryz.underlying76 rfl (size_hs.trans (congrArg some ((bc_size _).trans HSL.out).symm))) ?_;simp only [zz]
         refine wpList_store_row wn 76 (.tmp 2) (.tmp 71) rfl (byteCells F) HBR.out rfl rfl (by rw [bc_size, bc_size, HSL.out]; rfl) (by rw [size_hs, bc_size, HSL.out]) (bc_one _) ?_
         intro wy hb_ ht_
         have HBZ := zH hb_
         have HTy := zH ht_
         clear hb_ ht_
         simp only [zz]
         have HTZ := zH ((HT1.out.trans HTR.out fun _ _ e => e).trans HTy.out fun k' hk e => by have := HLr.out; have e : k' = r := e; omega)
         go_wp2_with fail
         refine bodyPost_ret (v := .agg (byteCells F)) (ret_cell1_g rfl _ _ r _ _ _ rfl HBZ.out Tryz.underlying76 rfl (by rw [size_hs, bc_size, HSL.out] <;> rfl)) rfl ?_
         exact ⟨rfl, HTZ.out⟩
end Go.Proofs.YtkagijifkpoplaaGreatDoor
