/-
  Texts in one file. Conditions: the tables and the errors read as laid.
-/
import Derived.Test.YtkagijifkpoplaaGreatDoorJT7
import Derived.Test.YtkagijifkpoplaaGreatDoorJT0
import Derived.Test.YtkagijifkpoplaaGreatDoorJT1
set_option linter.unusedVariables false
set_option linter.unusedSimpArgs false
set_option maxRecDepth 40000
set_option maxHeartbeats 20000000
namespace Go.Proofs.YtkagijifkpoplaaGreatDoor
open Go.RowKit
open Sh (Wd B8 H8)
set_option maxRecDepth 20000
def apartV (v v2 : Value) : Prop := ∀ b, v.ownBlock = some b → v2.ownBlock ≠ some b
theorem apart_ne {g g2 n c n2 c2 : Nat} (h : g ≠ g2) : apartV (.slice (some ⟨g, 0, none⟩) n c) (.slice (some ⟨g2, 0, none⟩) n2 c2) := fun b h1 h2 => h (Option.some.inj (h1.trans h2.symm))
theorem orw_growK {w W1 : World} {v : Value} {rs news : List (List Value)} {A : Option Addr} {m c : Nat} {ty : TypeId} (hown : Orw w W1.heap.size 5 1 v rs) (hT : Turn nowhere W1 w) (hb : Rws w 1 A m news) (hf : Fit 1 news) (hc : A = none → c = 0) (hlen : rs.length + m ≤ 140737488355328) :
 ∃ A' c' w', (Builtin.append_ #[22, 22] ty #[v, .slice A m c]).run Tryz.prog w = .ok (.slice A' (rs.length + m) c') w' ∧ Orw w' W1.heap.size 5 1 (.slice A' (rs.length + m) c') (rs ++ news) ∧ Turn nowhere W1 w' ∧
  ∀ (B2 k2 : Nat) (et2 : TypeId) (v2 : Value) (rs2 : List (List Value)), Orw w B2 et2 k2 v2 rs2 → apartV v v2 → Orw w' B2 et2 k2 v2 rs2 ∧ apartV (.slice A' (rs.length + m) c') v2 := by
 obtain ⟨A', c', w', h1, h2, h3, h4⟩ := orw_grow elmB (ty := ty) hown hT.size hb hf hc (by omega)
 refine ⟨A', c', w', h1, h2, hT.grown h3 (fun g e hg => by have := (hown.lt e).1; omega), fun B2 k2 et2 v2 rs2 ho ha => ?_⟩
 have ht : Turn (fun b => v.ownBlock = some b) w w' := (Turn.refl _ w).grown h3 fun g e _ => e
 refine ⟨ho.turn ht fun b hb hv => ha b hv hb, fun b hb hb2 => ?_⟩
 rcases h4 with h4 | h4
 ·rw [h4] at hb
  exact ha b hb hb2
 ·rw [h4] at hb
  have := (ho.lt hb2).2
  injection hb with hb
  omega
theorem orw_addK {w W1 : World} {v : Value} {rs : List (List Value)} {ty : TypeId} (hown : Orw w W1.heap.size 5 1 v rs) (hT : Turn nowhere W1 w) (x : UInt8) (hlen : rs.length + 1 ≤ 140737488355328) :
 ∃ A' c' w', (Builtin.append_ #[22, 22] ty #[v, .slice (some ⟨w.heap.size, 0, none⟩) 1 1]).run Tryz.prog (w.alloc (.cells (b1 x).toArray 5)) = .ok (.slice A' (rs.length + 1) c') w' ∧ Orw w' W1.heap.size 5 1 (.slice A' (rs.length + 1) c') (rs ++ [b1 x]) ∧ Turn nowhere W1 w' ∧
  ∀ (B2 k2 : Nat) (et2 : TypeId) (v2 : Value) (rs2 : List (List Value)), Orw w B2 et2 k2 v2 rs2 → apartV v v2 → Orw w' B2 et2 k2 v2 rs2 ∧ apartV (.slice A' (rs.length + 1) c') v2 := by
 have hta := (Turn.refl nowhere w).alloc (.cells (b1 x).toArray 5)
 obtain ⟨A', c', w', h1, h2, h3, h4⟩ := orw_growK (ty := ty) (c := 1) (hown.still hta) (hT.trans hta fun _ _ e => e) (rws_one (k := 1) rfl fun _ => trivial) (Fit.one rfl (b1_one x)) (fun h => by cases h) hlen
 exact ⟨A', c', w', h1, h2, h3, fun B2 k2 et2 v2 rs2 ho ha => h4 B2 k2 et2 v2 rs2 (ho.still hta) ha⟩
theorem orw_zeroB (w : World) {B : Nat} (hB : B ≤ w.heap.size) : Orw (w.alloc (.cells #[] 5)) B 5 1 (.slice (some ⟨w.heap.size, 0, none⟩) 0 0) (rB []) :=
 (show Orw (w.alloc (.cells #[] 5)) w.heap.size 5 1 (.slice (some ⟨w.heap.size, 0, none⟩) 0 0) [] from ⟨Fit.nil 1, World.ownsRow_made w #[] 0 (Nat.le_refl _) (by unfold maxLen; omega) (by simp)⟩).less hB
theorem mask_next (F : B8) (x : UInt8) {i : Nat} (h : i < F.length) : Sh.mask (F.take (i + 1)) x = Sh.mask (F.take i) x ++ [F.getD i 0 ^^^ x] := by
 rw [take_nextB F h, Sh.mask, Sh.mask, List.map_append]
 rfl
theorem rmac_walk (w : World) (A A2 : Option Addr) (n c n2 c2 : Nat) (key b : B8) (hkey : Bs w A n key) (hz : A = none → c = 0) (hm : n ≤ 140737488351232) (hb : Bs w A2 n2 b) (hz2 : A2 = none → c2 = 0) (hm2 : n2 ≤ 1000000) :
 Calls Tryz.prog 42 #[.slice A n c, .slice A2 n2 c2] w fun e w' => e = .returned (.agg (byteCells (Sh.mac key b))) ∧ Turn nowhere w w' := by
 have HKEY := zH hkey
 have HN := zH hkey.1
 have HZN := zH hz
 have HM := zH hm
 have HB := zH hb
 have HN2 := zH hb.1
 have HZ2 := zH hz2
 have HM2 := zH hm2
 have yn : (n : Int) ≤ 140737488351232 := by omega
 have HMAC := zH (show Sh.mac key b = Sh.sum (Sh.mask (Sh.full key) 0x5c ++ Sh.sum (Sh.mask (Sh.full key) 0x36 ++ b)) from rfl)
 have HML := zH (Sh.mac_len key b)
 have HF0 := zH (show Sh.full key = Sh.fit key ++ Sh.zs (64 - (Sh.fit key).length) from rfl)
 have HFE := zH (Sh.fit_le key)
 have HFL := zH (Sh.full_len key)
 obtain ⟨R, hR⟩ : ∃ R, Sh.mac key b = R := ⟨_, rfl⟩
 obtain ⟨F, hF⟩ : ∃ F, Sh.full key = F := ⟨_, rfl⟩
 rw [hR] at HMAC HML ⊢
 rw [hF] at HMAC HF0 HFL
 clear hkey hz hm hb hz2 hm2 hR hF
 go_enter Tryz.func42, Tryz.ntmps42
 go_upto_region 0 with fail
 refine wp_region_lit ?_
 refine wR (v := .pointer (some ⟨(w).heap.size, 0, none⟩)) (w' := (w).alloc (.cells (byteCells (Sh.zs 32)) 76)) wn (gx_alloc rfl (zero_hs _)) ?_
 simp only [zz]
 have hb_r := Blk.new (w) 76 (byteCells (Sh.zs 32))
 have ht_ := (Turn.refl nowhere (w)).alloc (.cells (byteCells (Sh.zs 32)) 76)
 obtain ⟨n0_, hn0_⟩ : ∃ n, n = (w).heap.size := ⟨_, rfl⟩
 have hz_r : (w).heap.size = n0_ + 0 := by rw [hn0_]; simp
 obtain ⟨r, hg_⟩ : ∃ g, g = (w).heap.size := ⟨_, rfl⟩
 rw [← hg_] at hb_r hz_r ⊢
 clear hg_
 generalize (w).alloc (.cells (byteCells (Sh.zs 32)) 76) = w1 at *
 have HT1 := zH ht_
 clear ht_
 have HBr := zH hb_r
 have HLr := zH (show (w).heap.size ≤ r from by omega)
 clear hb_r
 clear hn0_ hz_r
 clear n0_
 obtain ⟨A3, c3, w3, hap, ho3, ht3⟩ := copy_rws elmB (w := w1) (c := c) (ty := 22) (bs_rws (sh_still HKEY.out HT1.out) (by have := HM.out; omega)) (rB_fit key) HZN.out (by have := HM.out; omega)
 have HAP := zH hap
 have HO3 := zH ho3
 have HT3 := zH ht3
 clear hap ho3 ht3
 go_upto_region 1 with fail
 refine wp_region_lit ?_
 refine wR (v := .slice (some ⟨w1.heap.size, 0, none⟩) 0 0) (w' := w1.alloc (.cells #[] 5)) wn (bx_slice0 rfl (build_b0 w1)) ?_
 simp only [zz];refine nM (.slice A n c) ?_;simp only [zz]
 refine wR (v := .slice A3 n c3) (w' := w3) wn (exec_append rfl rfl rfl HAP.out) ?_
 simp only [zz];refine nA (.slice A3 n c3) ?_;simp only [zz]
 clear HAP
 by_cases h64 : 64 < n
 ·as_aux_lemma =>
   have y64 : 64 < (n : Int) := by omega
   have HFH := zH (fit_hi (k := key) (by rw [HN.out]; exact h64))
   clear h64
   obtain ⟨A4, c4, he4, hb4, hc4, hz4⟩ := orw_bs HO3.out
   injection he4 with e1 e2 e3
   subst e1 e3
   clear e2
   have HB4 := zH (show Bs w3 A3 n key from by have h := hb4; rw [HN.out] at h; exact h)
   have HZ4 := zH hz4
   clear hb4 hc4 hz4
   go_upto_region 2 with fail
   refine wp_region_lit ?_
   refine nM (.slice A3 n c3) ?_;simp only [zz];refine nR (.int .i64 (n : Int)) (gx_len rfl rfl Tryz.underlying22) ?_;simp only [zz];refine nR (.bool true) (ix_gtr rfl rfl rfl (decide_eq_true y64)) ?_;simp only [zz]
   go_upto_region 3 with fail
   refine wp_region_lit ?_
   refine nM (.slice A3 n c3) ?_;simp only [zz]
   refine wpList_op_g rfl fun K9 HK9 => ?_
   go_wp2_with fail
   refine (rsum_walk w3 A3 n c3 key HB4.out HZ4.out HM.out).mono ?_
   rintro e w4 ⟨rfl, ht⟩
   refine HK9.out _ _ ?_
   clear HK9
   try simp only [zz]
   have HSL := zH (Sh.sum_len key)
   rw [← HFH.out] at HSL ⊢
   obtain ⟨KK, hKK⟩ : ∃ x, Sh.fit key = x := ⟨_, rfl⟩
   rw [hKK] at HSL HF0 HFE ⊢
   have HT4 := zH (HT3.out.trans ht fun _ _ e => e)
   clear ht hKK HFH HT3 HO3 HB4 HZ4
   refine wR (v := .pointer (some ⟨w4.heap.size, 0, none⟩)) (w' := w4.alloc (.cells (byteCells (Sh.zs 32)) 76)) wn (gx_alloc rfl (zero_hs _)) ?_
   simp only [zz]
   have hb_ := Blk.new w4 76 (byteCells (Sh.zs 32))
   have ht_ := (Turn.refl nowhere w4).alloc (.cells (byteCells (Sh.zs 32)) 76)
   obtain ⟨g, hg_⟩ : ∃ g, g = w4.heap.size := ⟨_, rfl⟩
   rw [← hg_] at hb_ ⊢
   have HLg := zH (show w4.heap.size ≤ g from by omega)
   clear hg_
   generalize w4.alloc (.cells (byteCells (Sh.zs 32)) 76) = w5 at *
   have HBg := zH hb_
   have HT5 := zH ht_
   clear hb_ ht_
   refine wpList_store_row wn 76 (.tmp 6) (.tmp 18) rfl (byteCells KK) HBg.out rfl rfl (by rw [bc_size, bc_size, HSL.out]; rfl) (by rw [size_hs, bc_size, HSL.out]) (bc_one _) ?_
   intro w6 hb_ ht_
   have HBg6 := zH hb_
   have HT6 := zH ht_
   clear hb_ ht_
   simp only [zz]
   have HT46 := zH (HT5.out.trans HT6.out fun k' hk e => by have := HLg.out; have e : k' = g := e; omega)
   have HTw6 := zH (HT4.out.trans HT46.out fun _ _ e => e)
   have HBS6 := zH (bs_arr HBg6.out HSL.out (by decide))
   obtain ⟨A7, c7, w7, hap, ho7, ht7⟩ := copy_rws elmB (w := w6) (c := 32) (ty := 22) (bs_rws HBS6.out (by decide)) (rB_fit KK) (fun h => by cases h) (by decide)
   have HAP := zH hap
   have HOK := zH (ho7.less HTw6.out.size)
   have HTt := zH (HTw6.out.trans ht7 fun _ _ e => e)
   clear hap ho7 ht7 HT46 HTw6 HT4 HT5 HT6
   go_upto_region 4 with fail
   refine wp_region_lit ?_
   refine wR (v := .slice (some ⟨w6.heap.size, 0, none⟩) 0 0) (w' := w6.alloc (.cells #[] 5)) wn (bx_slice0 rfl (build_b0 w6)) ?_
   simp only [zz];refine nR (.slice (some ⟨g, 0, none⟩) 32 32) (exec_slice rfl rfl rfl rfl rfl (sl_hs g _)) ?_;simp only [zz]
   refine wR (v := .slice A7 32 c7) (w' := w7) wn (exec_append rfl rfl rfl HAP.out) ?_
   simp only [zz];refine nA (.slice A7 32 c7) ?_;simp only [zz]
   clear HAP HBS6 HBg6 HBg HLg
   obtain ⟨KZ, hKZ⟩ : ∃ x, x = KK := ⟨_, rfl⟩
   rw [← hKZ] at HOK HF0 HFE
   have HKL := zH (show KZ.length = 32 from by rw [hKZ]; exact HSL.out)
   clear hKZ
   rw [HKL.out] at HF0 HFE
   obtain ⟨m, hm0⟩ : ∃ x, x = 32 := ⟨_, rfl⟩
   rw [← hm0] at HKL HF0 HFE HOK ⊢
   have ym : (m : Int) ≤ 64 := by have := HFE.out; omega
   clear hm0
   have HOX := zH (show Orw w7 w1.heap.size 5 1 (.slice A7 m c7) (rB (KZ ++ Sh.zs 0)) from by rw [show Sh.zs 0 = [] from rfl, List.append_nil]; exact HOK.out)
   clear HOK
   go_wp2_with fail
   go_loopg [5] (64 - m) (fun gk v wr => ∃ k : Nat, k + gk = 64 - m ∧ Orw wr w1.heap.size 5 1 v (rB (KZ ++ Sh.zs k)) ∧ Turn nowhere w1 wr)
   case atStart => exact ⟨0, by omega, HOX.out, HTt.out⟩
   clear HOX HTt
   obtain ⟨k, hgk, hor, htr⟩ := hrel
   have HGK := zH hgk
   have HOR := zH hor
   have HTR := zH htr
   have HKK := zH (show (KZ ++ Sh.zs k).length = m + k from by rw [List.length_append, Sh.zs_len, HKL.out])
   have yk : (m : Int) + (k : Int) ≤ 64 := by have := HFE.out; omega
   obtain ⟨A5, c5, rfl, _⟩ := hor.form
   clear hgk hor htr
   rw [rB_len, HKK.out] at HOR ⊢
   by_cases hlt : m + k < 64
   ·as_aux_lemma =>
     have HLT := zH hlt
     have y3 : ((m + k : Nat) : Int) < 64 := by omega
     clear hlt
     obtain ⟨A6, c6, w7, hap, ho7, ht7⟩ := orw_add elmB (ty := 22) (W1 := w1) HOR.out HTR.out (b1 0) rfl (b1_one _) (by rw [rB_len, HKK.out]; have := HLT.out; omega)
     rw [rB_len, HKK.out] at hap ho7
     rw [← rB_snoc] at ho7
     have HAP := zH hap
     have HO7 := zH ho7
     have HT7 := zH ht7
     clear hap ho7 ht7
     go_upto_region 5 with fail
     refine wp_region_lit ?_
     refine nM (.slice A5 (m + k) c5) ?_;simp only [zz];refine nR (.int .i64 (((m + k : Nat)) : Int)) (gx_len rfl rfl Tryz.underlying22) ?_;simp only [zz];refine nR (.bool true) (ix_lss rfl rfl rfl (decide_eq_true y3)) ?_;simp only [zz]
     go_upto_region 6 with fail
     refine wp_region_lit ?_
     refine nM (.slice A5 (m + k) c5) ?_;simp only [zz]
     refine wR (v := .slice (some ⟨wr.heap.size, 0, none⟩) 1 1) (w' := wr.alloc (.cells (b1 0).toArray 5)) wn (exec_buildSlice1 rfl rfl (build_one elmB (b1 0) rfl (by decide) _ rfl wr)) ?_
     simp only [zz]
     refine wR (v := .slice A6 (m + k + 1) c6) (w' := w7) wn (exec_append rfl rfl rfl HAP.out) ?_
     simp only [zz];refine nA (.slice A6 (m + k + 1) c6) ?_;simp only [zz]
     go_wp2_with fail
     go_roundg (64 - m - (k + 1))
     case measure => have := HGK.out; have := HLT.out; omega
     case rel => exact ⟨k + 1, by have := HGK.out; have := HLT.out; omega, by rw [zs_snoc, ← List.append_assoc]; exact HO7.out, HT7.out⟩
   ·as_aux_lemma =>
     have HE64 := zH (show m + k = 64 from by omega)
     have yn3 : ¬ (((m + k : Nat) : Int) < 64) := by omega
     clear hlt HGK
     go_upto_region 5 with fail
     refine wp_region_lit ?_
     refine nM (.slice A5 (m + k) c5) ?_;simp only [zz];refine nR (.int .i64 (((m + k : Nat)) : Int)) (gx_len rfl rfl Tryz.underlying22) ?_;simp only [zz];refine nR (.bool false) (ix_lss rfl rfl rfl (decide_eq_false yn3)) ?_;simp only [zz]
     rw [HE64.out] at HOR ⊢
     have HKF := zH (show KZ ++ Sh.zs k = F from by rw [HF0.out, show 64 - m = k from by have := HE64.out; omega])
     rw [HKF.out] at HOR
     clear HKF HE64 HF0 HFE yk ym yn3 HKK HKL
     obtain ⟨gF, cF, heF, _, _, _, _⟩ := orw_at0 HOR.out (by rw [rB_len, HFL.out]; decide)
     rw [rB_len, HFL.out] at heF
     injection heF with e1 e2 e3
     subst e1
     clear e2 e3
     obtain ⟨wz, hwz⟩ : ∃ x, x = wr := ⟨_, rfl⟩
     rw [← hwz] at HOR HTR ⊢
     clear hwz
     have HOA := zH (orw_zeroB wz HTR.out.size)
     have HTA := zH ((Turn.refl nowhere wz).alloc (.cells #[] 5))
     have HORa := zH (HOR.out.still HTA.out)
     have HTRa := zH (HTR.out.trans HTA.out fun _ _ e => e)
     have HLF := zH (show gF < wz.heap.size from (HOR.out.lt rfl).2)
     have HBA := zH (build_b0 wz)
     obtain ⟨gx, hgx⟩ : ∃ x, wz.heap.size = x := ⟨_, rfl⟩
     have HXW := zH (show gx < (wz.alloc (.cells #[] 5)).heap.size from by rw [← hgx]; simp)
     rw [hgx] at HOA HBA HLF
     clear hgx HOR HTR
     generalize wz.alloc (.cells #[] 5) = wa at HOA HORa HTRa HBA HXW
     clear HTA
     go_upto_region 7 with fail
     refine wp_region_lit ?_
     refine wR (v := .slice (some ⟨gx, 0, none⟩) 0 0) (w' := wa) wn (bx_slice0 rfl HBA.out) ?_
     simp only [zz];refine nA (.slice (some ⟨gx, 0, none⟩) 0 0) ?_;simp only [zz]
     have HOB := zH (orw_zeroB wa HTRa.out.size)
     have HTA := zH ((Turn.refl nowhere wa).alloc (.cells #[] 5))
     have HORb := zH (HORa.out.still HTA.out)
     have HOAb := zH (HOA.out.still HTA.out)
     have HTRb := zH (HTRa.out.trans HTA.out fun _ _ e => e)
     have HBB := zH (build_b0 wa)
     obtain ⟨gy, hgy⟩ : ∃ x, wa.heap.size = x := ⟨_, rfl⟩
     rw [hgy] at HOB HBB HXW
     clear hgy HORa HTRa HOA HBA
     generalize wa.alloc (.cells #[] 5) = wb at HOB HORb HTRb HBB HOAb
     clear HTA
     go_upto_region 8 with fail
     refine wp_region_lit ?_
     refine wR (v := .slice (some ⟨gy, 0, none⟩) 0 0) (w' := wb) wn (bx_slice0 rfl HBB.out) ?_
     simp only [zz];refine nA (.slice (some ⟨gy, 0, none⟩) 0 0) ?_;simp only [zz]
     go_upto_region 9 with fail
     refine wp_region_lit ?_
     refine nA (.int .i64 0) ?_;simp only [zz]
     go_wp2_with fail
     go_loopg [7, 8, 9] 64 (fun gk xv yv iv wq => ∃ i : Nat, iv = .int .i64 (i : Int) ∧ i + gk = 64 ∧ Orw wq w1.heap.size 5 1 xv (rB (Sh.mask (F.take i) 0x36)) ∧ Orw wq w1.heap.size 5 1 yv (rB (Sh.mask (F.take i) 0x5c)) ∧ Orw wq w1.heap.size 5 1 (.slice (some ⟨gF, 0, none⟩) 64 c5) (rB F) ∧ apartV xv yv ∧ apartV xv (.slice (some ⟨gF, 0, none⟩) 64 c5) ∧ apartV yv (.slice (some ⟨gF, 0, none⟩) 64 c5) ∧ Turn nowhere w1 wq)
     case atStart => exact ⟨0, rfl, rfl, HOAb.out, HOB.out, HORb.out, apart_ne (by have := HXW.out; omega), apart_ne (by have := HLF.out; omega), apart_ne (by have := HLF.out; have := HXW.out; omega), HTRb.out⟩
     clear HOAb HOB HORb HTRb HXW HLF
     obtain ⟨i, rfl, hgk, hox, hoy, hof, hxy, hxf, hyf, htr⟩ := hrel
     have yi : (i : Int) ≤ 64 := by omega
     have HGK := zH hgk
     have HOX := zH hox
     have HOY := zH hoy
     have HOF := zH hof
     have HXY := zH hxy
     have HXF := zH hxf
     have HYF := zH hyf
     have HTR := zH htr
     have HTI := zH (show (F.take i).length = i from by rw [List.length_take, HFL.out]; omega)
     obtain ⟨Ax, cx, rfl, _⟩ := hox.form
     obtain ⟨Ay, cy, rfl, _⟩ := hoy.form
     clear hgk hox hoy hof hxy hxf hyf htr
     simp only [rB_len, Sh.mask_len, HTI.out] at HOX HOY HXY HXF HYF ⊢
     by_cases hlt : i < 64
     ·as_aux_lemma =>
       have HLT := zH hlt
       have y3 : (i : Int) < 64 := by omega
       have HC1 := zH (orw_b HOF.out (i := i) (by rw [HFL.out]; exact hlt))
       have HNX := zH (mask_next F 0x36 (i := i) (by rw [HFL.out]; exact hlt))
       have HNY := zH (mask_next F 0x5c (i := i) (by rw [HFL.out]; exact hlt))
       obtain ⟨f, hf⟩ : ∃ x, F.getD i 0 = x := ⟨_, rfl⟩
       rw [hf] at HC1 HNX HNY
       clear hlt hf
       obtain ⟨fx, hfx⟩ : ∃ x, f ^^^ 0x36 = x := ⟨_, rfl⟩
       obtain ⟨fy, hfy⟩ : ∃ x, f ^^^ 0x5c = x := ⟨_, rfl⟩
       rw [hfx] at HNX
       rw [hfy] at HNY
       have HFX := zH hfx
       have HFY := zH hfy
       clear hfx hfy
       obtain ⟨A6, c6, w6, hap, ho6, ht6, hkp⟩ := orw_addK (ty := 22) (W1 := w1) HOX.out HTR.out fx (by rw [rB_len, Sh.mask_len, HTI.out]; have := HLT.out; omega)
       rw [rB_len, Sh.mask_len, HTI.out] at hap ho6 hkp
       rw [← rB_snoc, ← HNX.out] at ho6
       have HAP := zH hap
       have HO6 := zH ho6
       have HT6 := zH ht6
       obtain ⟨h1, h2⟩ := hkp _ _ _ _ _ HOY.out HXY.out
       obtain ⟨h3, h4⟩ := hkp _ _ _ _ _ HOF.out HXF.out
       have HOY6 := zH h1
       have HXY6 := zH h2
       have HOF6 := zH h3
       have HXF6 := zH h4
       have HC2 := zH (show w6.cell? ⟨gF, i, none⟩ = some (.int .u8 (f.toNat : Int)) from by
        have h := orw_b h3 (i := i) (by rw [HFL.out]; exact HLT.out)
        have h5 := orw_b HOF.out (i := i) (by rw [HFL.out]; exact HLT.out)
        rw [HC1.out] at h5
        rw [h, ← Option.some.inj h5])
       clear hap ho6 ht6 hkp h1 h2 h3 h4
       obtain ⟨A7, c7, w7, hap, ho7, ht7, hkp⟩ := orw_addK (ty := 22) (W1 := w1) HOY6.out HT6.out fy (by rw [rB_len, Sh.mask_len, HTI.out]; have := HLT.out; omega)
       rw [rB_len, Sh.mask_len, HTI.out] at hap ho7 hkp
       rw [← rB_snoc, ← HNY.out] at ho7
       have HAP7 := zH hap
       have HO7 := zH ho7
       have HT7 := zH ht7
       obtain ⟨h1, h2⟩ := hkp _ _ _ _ _ HO6.out (fun b h1 h2 => HXY6.out b h2 h1)
       obtain ⟨h3, h4⟩ := hkp _ _ _ _ _ HOF6.out HYF.out
       have HOX7 := zH h1
       have HXY7 := zH (show apartV (.slice A6 (i + 1) c6) (.slice A7 (i + 1) c7) from fun b h5 h6 => h2 b h6 h5)
       have HOF7 := zH h3
       have HYF7 := zH h4
       clear hap ho7 ht7 hkp h1 h2 h3 h4
       go_upto_region 10 with fail
       refine wp_region_lit ?_
       refine nM (.int .i64 (i : Int)) ?_;simp only [zz];refine nR (.bool true) (ix_lss rfl rfl rfl (decide_eq_true y3)) ?_;simp only [zz]
       go_upto_region 12 with fail
       refine wp_region_lit ?_
       refine nM (.slice Ax i cx) ?_;simp only [zz];refine nM (.slice (some ⟨gF, 0, none⟩) 64 c5) ?_;simp only [zz];refine nM (.int .i64 (i : Int)) ?_;simp only [zz];refine nR (.pointer (some ⟨gF, 0 + i * 1, none⟩)) (gx_iaddr (i := i) (sz := 1) rfl rfl rfl Tryz.underlying22 size_u8 HLT.out rfl) ?_;simp only [zz];refine nR (.int .u8 (f.toNat : Int)) (exec_load1 rfl rfl (by kernel_rfl) (by rw [Nat.zero_add, Nat.mul_one]; exact HC1.out)) ?_;simp only [zz];refine nR (.int .u8 (fx.toNat : Int)) ((by rw [← HFX.out]; exact b8_xor (m := 0x36) rfl rfl rfl)) ?_;simp only [zz]
       refine wR (v := .slice (some ⟨wr.heap.size, 0, none⟩) 1 1) (w' := wr.alloc (.cells (b1 fx).toArray 5)) wn (exec_buildSlice1 rfl rfl (build_one elmB (b1 fx) rfl (by decide) _ rfl wr)) ?_
       simp only [zz]
       refine wR (v := .slice A6 (i + 1) c6) (w' := w6) wn (exec_append rfl rfl rfl HAP.out) ?_
       simp only [zz];refine nA (.slice A6 (i + 1) c6) ?_;simp only [zz]
       go_upto_region 13 with fail
       refine wp_region_lit ?_
       refine nM (.slice Ay i cy) ?_;simp only [zz];refine nM (.slice (some ⟨gF, 0, none⟩) 64 c5) ?_;simp only [zz];refine nM (.int .i64 (i : Int)) ?_;simp only [zz];refine nR (.pointer (some ⟨gF, 0 + i * 1, none⟩)) (gx_iaddr (i := i) (sz := 1) rfl rfl rfl Tryz.underlying22 size_u8 HLT.out rfl) ?_;simp only [zz];refine nR (.int .u8 (f.toNat : Int)) (exec_load1 rfl rfl (by kernel_rfl) (by rw [Nat.zero_add, Nat.mul_one]; exact HC2.out)) ?_;simp only [zz];refine nR (.int .u8 (fy.toNat : Int)) ((by rw [← HFY.out]; exact b8_xor (m := 0x5c) rfl rfl rfl)) ?_;simp only [zz]
       refine wR (v := .slice (some ⟨w6.heap.size, 0, none⟩) 1 1) (w' := w6.alloc (.cells (b1 fy).toArray 5)) wn (exec_buildSlice1 rfl rfl (build_one elmB (b1 fy) rfl (by decide) _ rfl w6)) ?_
       simp only [zz]
       refine wR (v := .slice A7 (i + 1) c7) (w' := w7) wn (exec_append rfl rfl rfl HAP7.out) ?_
       simp only [zz];refine nA (.slice A7 (i + 1) c7) ?_;simp only [zz]
       go_upto_region 11 with fail
       refine wp_region_lit ?_
       refine nM (.int .i64 (i : Int)) ?_;simp only [zz];refine nR (.int .i64 ((i + 1 : Nat) : Int)) (ix_add rfl rfl rfl (by omega) (by omega)) ?_;simp only [zz];refine nA (.int .i64 ((i + 1 : Nat) : Int)) ?_;simp only [zz]
       go_wp2_with fail
       go_roundg (64 - (i + 1))
       case measure => have := HGK.out; have := HLT.out; omega
       case rel => exact ⟨i + 1, rfl, by have := HLT.out; omega, HOX7.out, HO7.out, HOF7.out, HXY7.out, HXF6.out, HYF7.out, HT7.out⟩
     ·as_aux_lemma =>
       obtain rfl : i = 64 := by omega
       clear hlt HGK HOF HXF HYF
       rw [List.take_of_length_le (by rw [HFL.out]; omega)] at HOX HOY
       have HX1 := zH (show (Sh.mask F 0x36).length = 64 from by rw [Sh.mask_len, HFL.out])
       have HX2 := zH (show (Sh.mask F 0x5c).length = 64 from by rw [Sh.mask_len, HFL.out])
       obtain ⟨X1, hX1⟩ : ∃ X, Sh.mask F 0x36 = X := ⟨_, rfl⟩
       obtain ⟨X2, hX2⟩ : ∃ X, Sh.mask F 0x5c = X := ⟨_, rfl⟩
       rw [hX1] at HX1 HOX HMAC
       rw [hX2] at HX2 HOY HMAC
       clear hX1 hX2
       obtain ⟨wz, hwz⟩ : ∃ x, x = wr := ⟨_, rfl⟩
       rw [← hwz] at HOX HOY HTR ⊢
       clear hwz
       obtain ⟨A6, c6, w6, hap, ho6, ht6, hkp⟩ := orw_growK (ty := 22) (W1 := w1) (c := c2) HOX.out HTR.out (bs_rws (sh_still HB.out (HT1.out.trans HTR.out fun _ _ e => e)) (by have := HM2.out; omega)) (rB_fit b) HZ2.out (by rw [rB_len, HX1.out]; have := HM2.out; omega)
       rw [rB_len, HX1.out] at hap ho6 hkp
       rw [← rB_app] at ho6
       obtain ⟨h1, h2⟩ := hkp _ _ _ _ _ HOY.out HXY.out
       have HAP := zH hap
       have HT6 := zH ht6
       have HOY6 := zH h1
       obtain ⟨A8, c8, he8, hb8, hc8, hz8⟩ := orw_bs ho6
       have HL8 := zH (show (X1 ++ b).length = 64 + n2 from by rw [List.length_append, HX1.out, HN2.out])
       rw [HL8.out] at he8 hb8 hc8
       injection he8 with e1 e2 e3
       subst e1 e3
       clear e2
       have HB8 := zH hb8
       have HZ8 := zH hz8
       clear hap ho6 ht6 hkp h1 h2 hb8 hc8 hz8 HOX HXY HOY
       go_upto_region 10 with fail
       refine wp_region_lit ?_
       refine nM (.int .i64 ((64 : Nat) : Int)) ?_;simp only [zz];refine nR (.bool false) (ix_lss rfl rfl rfl (by decide)) ?_;simp only [zz]
       go_upto_region 14 with fail
       refine wp_region_lit ?_
       refine nM (.slice Ax 64 cx) ?_;simp only [zz];refine nM (.slice A2 n2 c2) ?_;simp only [zz]
       refine wR (v := .slice A6 (64 + n2) c6) (w' := w6) wn (exec_append rfl rfl rfl HAP.out) ?_
       simp only [zz]
       refine wpList_op_g rfl fun K9 HK9 => ?_
       go_wp2_with fail
       refine (rsum_walk w6 A6 (64 + n2) c6 (X1 ++ b) HB8.out HZ8.out (by have := HM2.out; omega)).mono ?_
       rintro e w9 ⟨rfl, ht⟩
       refine HK9.out _ _ ?_
       clear HK9
       try simp only [zz]
       have HIL := zH (Sh.sum_len (X1 ++ b))
       obtain ⟨I, hI⟩ : ∃ x, Sh.sum (X1 ++ b) = x := ⟨_, rfl⟩
       rw [hI] at HIL HMAC ⊢
       have HOY9 := zH (HOY6.out.still ht)
       have HT9 := zH (HT6.out.trans ht fun _ _ e => e)
       clear ht hI HOY6 HT6 HB8 HZ8 HAP
       refine wR (v := .pointer (some ⟨w9.heap.size, 0, none⟩)) (w' := w9.alloc (.cells (byteCells (Sh.zs 32)) 76)) wn (gx_alloc rfl (zero_hs _)) ?_
       simp only [zz]
       have hb_ := Blk.new w9 76 (byteCells (Sh.zs 32))
       have ht_ := (Turn.refl nowhere w9).alloc (.cells (byteCells (Sh.zs 32)) 76)
       obtain ⟨g, hg_⟩ : ∃ g, g = w9.heap.size := ⟨_, rfl⟩
       rw [← hg_] at hb_ ⊢
       have HLg := zH (show w9.heap.size ≤ g from by omega)
       clear hg_
       generalize w9.alloc (.cells (byteCells (Sh.zs 32)) 76) = wa at *
       have HBg := zH hb_
       have HTa := zH ht_
       clear hb_ ht_
       refine wpList_store_row wn 76 (.tmp 10) (.tmp 53) rfl (byteCells I) HBg.out rfl rfl (by rw [bc_size, bc_size, HIL.out]; rfl) (by rw [size_hs, bc_size, HIL.out]) (bc_one _) ?_
       intro wb hb_ ht_
       have HBgb := zH hb_
       have HTb := zH ht_
       clear hb_ ht_
       simp only [zz]
       have HTab := zH (HTa.out.trans HTb.out fun k' hk e => by have := HLg.out; have e : k' = g := e; omega)
       have HOYb := zH (HOY9.out.still HTab.out)
       have HTw := zH (HT9.out.trans HTab.out fun _ _ e => e)
       have HBSb := zH (bs_arr HBgb.out HIL.out (by decide))
       clear HTa HTb HTab HOY9 HT9 HBg HBgb
       obtain ⟨A6, c6, w7, hap, ho6, ht6, hkp⟩ := orw_growK (ty := 22) (W1 := w1) (c := 32) HOYb.out HTw.out (bs_rws HBSb.out (by decide)) (rB_fit I) (fun h => by cases h) (by rw [rB_len, HX2.out]; decide)
       rw [rB_len, HX2.out] at hap ho6
       rw [← rB_app] at ho6
       have HAP := zH hap
       have HT7 := zH ht6
       obtain ⟨A8, c8, he8, hb8, hc8, hz8⟩ := orw_bs ho6
       have HL9 := zH (show (X2 ++ I).length = 64 + 32 from by rw [List.length_append, HX2.out, HIL.out])
       rw [HL9.out] at he8 hb8 hc8
       injection he8 with e1 e2 e3
       subst e1 e3
       clear e2
       have HB8 := zH hb8
       have HZ8 := zH hz8
       clear hap ho6 ht6 hkp hb8 hc8 hz8 HOYb
       go_upto_region 15 with fail
       refine wp_region_lit ?_
       refine nM (.slice Ay 64 cy) ?_;simp only [zz];refine nR (.slice (some ⟨g, 0, none⟩) 32 32) (exec_slice rfl rfl rfl rfl rfl (sl_hs g _)) ?_;simp only [zz]
       refine wR (v := .slice A6 (64 + 32) c6) (w' := w7) wn (exec_append rfl rfl rfl HAP.out) ?_
       simp only [zz]
       refine wpList_op_g rfl fun K9 HK9 => ?_
       go_wp2_with fail
       refine (rsum_walk w7 A6 (64 + 32) c6 (X2 ++ I) HB8.out HZ8.out (by decide)).mono ?_
       rintro e wx ⟨rfl, ht⟩
       refine HK9.out _ _ ?_
       clear HK9
       try simp only [zz]
       rw [← HMAC.out]
       have HTx := zH (HT7.out.trans ht fun _ _ e => e)
       have HBRx := zH (HBr.out.turn HTx.out fun e => e)
       clear ht
       refine wpList_store_row wn 76 (.tmp 4) (.tmp 57) rfl (byteCells R) HBRx.out rfl rfl (by rw [bc_size, bc_size, HML.out]; rfl) (by rw [size_hs, bc_size, HML.out]) (bc_one _) ?_
       intro wy hb_ ht_
       have HBZ := zH hb_
       have HTy := zH ht_
       clear hb_ ht_
       simp only [zz]
       have HTZ := zH ((HT1.out.trans HTx.out fun _ _ e => e).trans HTy.out fun k' hk e => by have := HLr.out; have e : k' = r := e; omega)
       go_wp2_with fail
       refine bodyPost_ret (v := .agg (byteCells R)) (ret_cell1_g rfl _ _ r _ _ _ rfl HBZ.out Tryz.underlying76 rfl (by rw [size_hs, bc_size, HML.out] <;> rfl)) rfl ?_
       exact ⟨rfl, HTZ.out⟩
 ·as_aux_lemma =>
   have y64 : ¬ (64 < (n : Int)) := by omega
   have HFH := zH (fit_lo (k := key) (by rw [HN.out]; exact h64))
   have HOK := HO3
   have HTt := HT3
   clear h64 HO3 HT3
   rw [HFH.out] at HF0 HFE
   clear HFH
   go_upto_region 2 with fail
   refine wp_region_lit ?_
   refine nM (.slice A3 n c3) ?_;simp only [zz];refine nR (.int .i64 (n : Int)) (gx_len rfl rfl Tryz.underlying22) ?_;simp only [zz];refine nR (.bool false) (ix_gtr rfl rfl rfl (decide_eq_false y64)) ?_;simp only [zz]
   obtain ⟨KZ, hKZ⟩ : ∃ x, x = key := ⟨_, rfl⟩
   rw [← hKZ] at HOK HF0 HFE
   have HKL := zH (show KZ.length = n from by rw [hKZ]; exact HN.out)
   clear hKZ
   rw [HKL.out] at HF0 HFE
   obtain ⟨m, hm0⟩ : ∃ x, x = n := ⟨_, rfl⟩
   rw [← hm0] at HKL HF0 HFE HOK ⊢
   have ym : (m : Int) ≤ 64 := by have := HFE.out; omega
   clear hm0
   have HOX := zH (show Orw w3 w1.heap.size 5 1 (.slice A3 m c3) (rB (KZ ++ Sh.zs 0)) from by rw [show Sh.zs 0 = [] from rfl, List.append_nil]; exact HOK.out)
   clear HOK
   go_wp2_with fail
   go_loopg [5] (64 - m) (fun gk v wr => ∃ k : Nat, k + gk = 64 - m ∧ Orw wr w1.heap.size 5 1 v (rB (KZ ++ Sh.zs k)) ∧ Turn nowhere w1 wr)
   case atStart => exact ⟨0, by omega, HOX.out, HTt.out⟩
   clear HOX HTt
   obtain ⟨k, hgk, hor, htr⟩ := hrel
   have HGK := zH hgk
   have HOR := zH hor
   have HTR := zH htr
   have HKK := zH (show (KZ ++ Sh.zs k).length = m + k from by rw [List.length_append, Sh.zs_len, HKL.out])
   have yk : (m : Int) + (k : Int) ≤ 64 := by have := HFE.out; omega
   obtain ⟨A5, c5, rfl, _⟩ := hor.form
   clear hgk hor htr
   rw [rB_len, HKK.out] at HOR ⊢
   by_cases hlt : m + k < 64
   ·as_aux_lemma =>
     have HLT := zH hlt
     have y3 : ((m + k : Nat) : Int) < 64 := by omega
     clear hlt
     obtain ⟨A6, c6, w7, hap, ho7, ht7⟩ := orw_add elmB (ty := 22) (W1 := w1) HOR.out HTR.out (b1 0) rfl (b1_one _) (by rw [rB_len, HKK.out]; have := HLT.out; omega)
     rw [rB_len, HKK.out] at hap ho7
     rw [← rB_snoc] at ho7
     have HAP := zH hap
     have HO7 := zH ho7
     have HT7 := zH ht7
     clear hap ho7 ht7
     go_upto_region 5 with fail
     refine wp_region_lit ?_
     refine nM (.slice A5 (m + k) c5) ?_;simp only [zz];refine nR (.int .i64 (((m + k : Nat)) : Int)) (gx_len rfl rfl Tryz.underlying22) ?_;simp only [zz];refine nR (.bool true) (ix_lss rfl rfl rfl (decide_eq_true y3)) ?_;simp only [zz]
     go_upto_region 6 with fail
     refine wp_region_lit ?_
     refine nM (.slice A5 (m + k) c5) ?_;simp only [zz]
     refine wR (v := .slice (some ⟨wr.heap.size, 0, none⟩) 1 1) (w' := wr.alloc (.cells (b1 0).toArray 5)) wn (exec_buildSlice1 rfl rfl (build_one elmB (b1 0) rfl (by decide) _ rfl wr)) ?_
     simp only [zz]
     refine wR (v := .slice A6 (m + k + 1) c6) (w' := w7) wn (exec_append rfl rfl rfl HAP.out) ?_
     simp only [zz];refine nA (.slice A6 (m + k + 1) c6) ?_;simp only [zz]
     go_wp2_with fail
     go_roundg (64 - m - (k + 1))
     case measure => have := HGK.out; have := HLT.out; omega
     case rel => exact ⟨k + 1, by have := HGK.out; have := HLT.out; omega, by rw [zs_snoc, ← List.append_assoc]; exact HO7.out, HT7.out⟩
   ·as_aux_lemma =>
     have HE64 := zH (show m + k = 64 from by omega)
     have yn3 : ¬ (((m + k : Nat) : Int) < 64) := by omega
     clear hlt HGK
     go_upto_region 5 with fail
     refine wp_region_lit ?_
     refine nM (.slice A5 (m + k) c5) ?_;simp only [zz];refine nR (.int .i64 (((m + k : Nat)) : Int)) (gx_len rfl rfl Tryz.underlying22) ?_;simp only [zz];refine nR (.bool false) (ix_lss rfl rfl rfl (decide_eq_false yn3)) ?_;simp only [zz]
     rw [HE64.out] at HOR ⊢
     have HKF := zH (show KZ ++ Sh.zs k = F from by rw [HF0.out, show 64 - m = k from by have := HE64.out; omega])
     rw [HKF.out] at HOR
     clear HKF HE64 HF0 HFE yk ym yn3 HKK HKL
     obtain ⟨gF, cF, heF, _, _, _, _⟩ := orw_at0 HOR.out (by rw [rB_len, HFL.out]; decide)
     rw [rB_len, HFL.out] at heF
     injection heF with e1 e2 e3
     subst e1
     clear e2 e3
     obtain ⟨wz, hwz⟩ : ∃ x, x = wr := ⟨_, rfl⟩
     rw [← hwz] at HOR HTR ⊢
     clear hwz
     have HOA := zH (orw_zeroB wz HTR.out.size)
     have HTA := zH ((Turn.refl nowhere wz).alloc (.cells #[] 5))
     have HORa := zH (HOR.out.still HTA.out)
     have HTRa := zH (HTR.out.trans HTA.out fun _ _ e => e)
     have HLF := zH (show gF < wz.heap.size from (HOR.out.lt rfl).2)
     have HBA := zH (build_b0 wz)
     obtain ⟨gx, hgx⟩ : ∃ x, wz.heap.size = x := ⟨_, rfl⟩
     have HXW := zH (show gx < (wz.alloc (.cells #[] 5)).heap.size from by rw [← hgx]; simp)
     rw [hgx] at HOA HBA HLF
     clear hgx HOR HTR
     generalize wz.alloc (.cells #[] 5) = wa at HOA HORa HTRa HBA HXW
     clear HTA
     go_upto_region 7 with fail
     refine wp_region_lit ?_
     refine wR (v := .slice (some ⟨gx, 0, none⟩) 0 0) (w' := wa) wn (bx_slice0 rfl HBA.out) ?_
     simp only [zz];refine nA (.slice (some ⟨gx, 0, none⟩) 0 0) ?_;simp only [zz]
     have HOB := zH (orw_zeroB wa HTRa.out.size)
     have HTA := zH ((Turn.refl nowhere wa).alloc (.cells #[] 5))
     have HORb := zH (HORa.out.still HTA.out)
     have HOAb := zH (HOA.out.still HTA.out)
     have HTRb := zH (HTRa.out.trans HTA.out fun _ _ e => e)
     have HBB := zH (build_b0 wa)
     obtain ⟨gy, hgy⟩ : ∃ x, wa.heap.size = x := ⟨_, rfl⟩
     rw [hgy] at HOB HBB HXW
     clear hgy HORa HTRa HOA HBA
     generalize wa.alloc (.cells #[] 5) = wb at HOB HORb HTRb HBB HOAb
     clear HTA
     go_upto_region 8 with fail
     refine wp_region_lit ?_
     refine wR (v := .slice (some ⟨gy, 0, none⟩) 0 0) (w' := wb) wn (bx_slice0 rfl HBB.out) ?_
     simp only [zz];refine nA (.slice (some ⟨gy, 0, none⟩) 0 0) ?_;simp only [zz]
     go_upto_region 9 with fail
     refine wp_region_lit ?_
     refine nA (.int .i64 0) ?_;simp only [zz]
     go_wp2_with fail
     go_loopg [7, 8, 9] 64 (fun gk xv yv iv wq => ∃ i : Nat, iv = .int .i64 (i : Int) ∧ i + gk = 64 ∧ Orw wq w1.heap.size 5 1 xv (rB (Sh.mask (F.take i) 0x36)) ∧ Orw wq w1.heap.size 5 1 yv (rB (Sh.mask (F.take i) 0x5c)) ∧ Orw wq w1.heap.size 5 1 (.slice (some ⟨gF, 0, none⟩) 64 c5) (rB F) ∧ apartV xv yv ∧ apartV xv (.slice (some ⟨gF, 0, none⟩) 64 c5) ∧ apartV yv (.slice (some ⟨gF, 0, none⟩) 64 c5) ∧ Turn nowhere w1 wq)
     case atStart => exact ⟨0, rfl, rfl, HOAb.out, HOB.out, HORb.out, apart_ne (by have := HXW.out; omega), apart_ne (by have := HLF.out; omega), apart_ne (by have := HLF.out; have := HXW.out; omega), HTRb.out⟩
     clear HOAb HOB HORb HTRb HXW HLF
     obtain ⟨i, rfl, hgk, hox, hoy, hof, hxy, hxf, hyf, htr⟩ := hrel
     have yi : (i : Int) ≤ 64 := by omega
     have HGK := zH hgk
     have HOX := zH hox
     have HOY := zH hoy
     have HOF := zH hof
     have HXY := zH hxy
     have HXF := zH hxf
     have HYF := zH hyf
     have HTR := zH htr
     have HTI := zH (show (F.take i).length = i from by rw [List.length_take, HFL.out]; omega)
     obtain ⟨Ax, cx, rfl, _⟩ := hox.form
     obtain ⟨Ay, cy, rfl, _⟩ := hoy.form
     clear hgk hox hoy hof hxy hxf hyf htr
     simp only [rB_len, Sh.mask_len, HTI.out] at HOX HOY HXY HXF HYF ⊢
     by_cases hlt : i < 64
     ·as_aux_lemma =>
       have HLT := zH hlt
       have y3 : (i : Int) < 64 := by omega
       have HC1 := zH (orw_b HOF.out (i := i) (by rw [HFL.out]; exact hlt))
       have HNX := zH (mask_next F 0x36 (i := i) (by rw [HFL.out]; exact hlt))
       have HNY := zH (mask_next F 0x5c (i := i) (by rw [HFL.out]; exact hlt))
       obtain ⟨f, hf⟩ : ∃ x, F.getD i 0 = x := ⟨_, rfl⟩
       rw [hf] at HC1 HNX HNY
       clear hlt hf
       obtain ⟨fx, hfx⟩ : ∃ x, f ^^^ 0x36 = x := ⟨_, rfl⟩
       obtain ⟨fy, hfy⟩ : ∃ x, f ^^^ 0x5c = x := ⟨_, rfl⟩
       rw [hfx] at HNX
       rw [hfy] at HNY
       have HFX := zH hfx
       have HFY := zH hfy
       clear hfx hfy
       obtain ⟨A6, c6, w6, hap, ho6, ht6, hkp⟩ := orw_addK (ty := 22) (W1 := w1) HOX.out HTR.out fx (by rw [rB_len, Sh.mask_len, HTI.out]; have := HLT.out; omega)
       rw [rB_len, Sh.mask_len, HTI.out] at hap ho6 hkp
       rw [← rB_snoc, ← HNX.out] at ho6
       have HAP := zH hap
       have HO6 := zH ho6
       have HT6 := zH ht6
       obtain ⟨h1, h2⟩ := hkp _ _ _ _ _ HOY.out HXY.out
       obtain ⟨h3, h4⟩ := hkp _ _ _ _ _ HOF.out HXF.out
       have HOY6 := zH h1
       have HXY6 := zH h2
       have HOF6 := zH h3
       have HXF6 := zH h4
       have HC2 := zH (show w6.cell? ⟨gF, i, none⟩ = some (.int .u8 (f.toNat : Int)) from by
        have h := orw_b h3 (i := i) (by rw [HFL.out]; exact HLT.out)
        have h5 := orw_b HOF.out (i := i) (by rw [HFL.out]; exact HLT.out)
        rw [HC1.out] at h5
        rw [h, ← Option.some.inj h5])
       clear hap ho6 ht6 hkp h1 h2 h3 h4
       obtain ⟨A7, c7, w7, hap, ho7, ht7, hkp⟩ := orw_addK (ty := 22) (W1 := w1) HOY6.out HT6.out fy (by rw [rB_len, Sh.mask_len, HTI.out]; have := HLT.out; omega)
       rw [rB_len, Sh.mask_len, HTI.out] at hap ho7 hkp
       rw [← rB_snoc, ← HNY.out] at ho7
       have HAP7 := zH hap
       have HO7 := zH ho7
       have HT7 := zH ht7
       obtain ⟨h1, h2⟩ := hkp _ _ _ _ _ HO6.out (fun b h1 h2 => HXY6.out b h2 h1)
       obtain ⟨h3, h4⟩ := hkp _ _ _ _ _ HOF6.out HYF.out
       have HOX7 := zH h1
       have HXY7 := zH (show apartV (.slice A6 (i + 1) c6) (.slice A7 (i + 1) c7) from fun b h5 h6 => h2 b h6 h5)
       have HOF7 := zH h3
       have HYF7 := zH h4
       clear hap ho7 ht7 hkp h1 h2 h3 h4
       go_upto_region 10 with fail
       refine wp_region_lit ?_
       refine nM (.int .i64 (i : Int)) ?_;simp only [zz];refine nR (.bool true) (ix_lss rfl rfl rfl (decide_eq_true y3)) ?_;simp only [zz]
       go_upto_region 12 with fail
       refine wp_region_lit ?_
       refine nM (.slice Ax i cx) ?_;simp only [zz];refine nM (.slice (some ⟨gF, 0, none⟩) 64 c5) ?_;simp only [zz];refine nM (.int .i64 (i : Int)) ?_;simp only [zz];refine nR (.pointer (some ⟨gF, 0 + i * 1, none⟩)) (gx_iaddr (i := i) (sz := 1) rfl rfl rfl Tryz.underlying22 size_u8 HLT.out rfl) ?_;simp only [zz];refine nR (.int .u8 (f.toNat : Int)) (exec_load1 rfl rfl (by kernel_rfl) (by rw [Nat.zero_add, Nat.mul_one]; exact HC1.out)) ?_;simp only [zz];refine nR (.int .u8 (fx.toNat : Int)) ((by rw [← HFX.out]; exact b8_xor (m := 0x36) rfl rfl rfl)) ?_;simp only [zz]
       refine wR (v := .slice (some ⟨wr.heap.size, 0, none⟩) 1 1) (w' := wr.alloc (.cells (b1 fx).toArray 5)) wn (exec_buildSlice1 rfl rfl (build_one elmB (b1 fx) rfl (by decide) _ rfl wr)) ?_
       simp only [zz]
       refine wR (v := .slice A6 (i + 1) c6) (w' := w6) wn (exec_append rfl rfl rfl HAP.out) ?_
       simp only [zz];refine nA (.slice A6 (i + 1) c6) ?_;simp only [zz]
       go_upto_region 13 with fail
       refine wp_region_lit ?_
       refine nM (.slice Ay i cy) ?_;simp only [zz];refine nM (.slice (some ⟨gF, 0, none⟩) 64 c5) ?_;simp only [zz];refine nM (.int .i64 (i : Int)) ?_;simp only [zz];refine nR (.pointer (some ⟨gF, 0 + i * 1, none⟩)) (gx_iaddr (i := i) (sz := 1) rfl rfl rfl Tryz.underlying22 size_u8 HLT.out rfl) ?_;simp only [zz];refine nR (.int .u8 (f.toNat : Int)) (exec_load1 rfl rfl (by kernel_rfl) (by rw [Nat.zero_add, Nat.mul_one]; exact HC2.out)) ?_;simp only [zz];refine nR (.int .u8 (fy.toNat : Int)) ((by rw [← HFY.out]; exact b8_xor (m := 0x5c) rfl rfl rfl)) ?_;simp only [zz]
       refine wR (v := .slice (some ⟨w6.heap.size, 0, none⟩) 1 1) (w' := w6.alloc (.cells (b1 fy).toArray 5)) wn (exec_buildSlice1 rfl rfl (build_one elmB (b1 fy) rfl (by decide) _ rfl w6)) ?_
       simp only [zz]
       refine wR (v := .slice A7 (i + 1) c7) (w' := w7) wn (exec_append rfl rfl rfl HAP7.out) ?_
       simp only [zz];refine nA (.slice A7 (i + 1) c7) ?_;simp only [zz]
       go_upto_region 11 with fail
       refine wp_region_lit ?_
       refine nM (.int .i64 (i : Int)) ?_;simp only [zz];refine nR (.int .i64 ((i + 1 : Nat) : Int)) (ix_add rfl rfl rfl (by omega) (by omega)) ?_;simp only [zz];refine nA (.int .i64 ((i + 1 : Nat) : Int)) ?_;simp only [zz]
       go_wp2_with fail
       go_roundg (64 - (i + 1))
       case measure => have := HGK.out; have := HLT.out; omega
       case rel => exact ⟨i + 1, rfl, by have := HLT.out; omega, HOX7.out, HO7.out, HOF7.out, HXY7.out, HXF6.out, HYF7.out, HT7.out⟩
     ·as_aux_lemma =>
       obtain rfl : i = 64 := by omega
       clear hlt HGK HOF HXF HYF
       rw [List.take_of_length_le (by rw [HFL.out]; omega)] at HOX HOY
       have HX1 := zH (show (Sh.mask F 0x36).length = 64 from by rw [Sh.mask_len, HFL.out])
       have HX2 := zH (show (Sh.mask F 0x5c).length = 64 from by rw [Sh.mask_len, HFL.out])
       obtain ⟨X1, hX1⟩ : ∃ X, Sh.mask F 0x36 = X := ⟨_, rfl⟩
       obtain ⟨X2, hX2⟩ : ∃ X, Sh.mask F 0x5c = X := ⟨_, rfl⟩
       rw [hX1] at HX1 HOX HMAC
       rw [hX2] at HX2 HOY HMAC
       clear hX1 hX2
       obtain ⟨wz, hwz⟩ : ∃ x, x = wr := ⟨_, rfl⟩
       rw [← hwz] at HOX HOY HTR ⊢
       clear hwz
       obtain ⟨A6, c6, w6, hap, ho6, ht6, hkp⟩ := orw_growK (ty := 22) (W1 := w1) (c := c2) HOX.out HTR.out (bs_rws (sh_still HB.out (HT1.out.trans HTR.out fun _ _ e => e)) (by have := HM2.out; omega)) (rB_fit b) HZ2.out (by rw [rB_len, HX1.out]; have := HM2.out; omega)
       rw [rB_len, HX1.out] at hap ho6 hkp
       rw [← rB_app] at ho6
       obtain ⟨h1, h2⟩ := hkp _ _ _ _ _ HOY.out HXY.out
       have HAP := zH hap
       have HT6 := zH ht6
       have HOY6 := zH h1
       obtain ⟨A8, c8, he8, hb8, hc8, hz8⟩ := orw_bs ho6
       have HL8 := zH (show (X1 ++ b).length = 64 + n2 from by rw [List.length_append, HX1.out, HN2.out])
       rw [HL8.out] at he8 hb8 hc8
       injection he8 with e1 e2 e3
       subst e1 e3
       clear e2
       have HB8 := zH hb8
       have HZ8 := zH hz8
       clear hap ho6 ht6 hkp h1 h2 hb8 hc8 hz8 HOX HXY HOY
       go_upto_region 10 with fail
       refine wp_region_lit ?_
       refine nM (.int .i64 ((64 : Nat) : Int)) ?_;simp only [zz];refine nR (.bool false) (ix_lss rfl rfl rfl (by decide)) ?_;simp only [zz]
       go_upto_region 14 with fail
       refine wp_region_lit ?_
       refine nM (.slice Ax 64 cx) ?_;simp only [zz];refine nM (.slice A2 n2 c2) ?_;simp only [zz]
       refine wR (v := .slice A6 (64 + n2) c6) (w' := w6) wn (exec_append rfl rfl rfl HAP.out) ?_
       simp only [zz]
       refine wpList_op_g rfl fun K9 HK9 => ?_
       go_wp2_with fail
       refine (rsum_walk w6 A6 (64 + n2) c6 (X1 ++ b) HB8.out HZ8.out (by have := HM2.out; omega)).mono ?_
       rintro e w9 ⟨rfl, ht⟩
       refine HK9.out _ _ ?_
       clear HK9
       try simp only [zz]
       have HIL := zH (Sh.sum_len (X1 ++ b))
       obtain ⟨I, hI⟩ : ∃ x, Sh.sum (X1 ++ b) = x := ⟨_, rfl⟩
       rw [hI] at HIL HMAC ⊢
       have HOY9 := zH (HOY6.out.still ht)
       have HT9 := zH (HT6.out.trans ht fun _ _ e => e)
       clear ht hI HOY6 HT6 HB8 HZ8 HAP
       refine wR (v := .pointer (some ⟨w9.heap.size, 0, none⟩)) (w' := w9.alloc (.cells (byteCells (Sh.zs 32)) 76)) wn (gx_alloc rfl (zero_hs _)) ?_
       simp only [zz]
       have hb_ := Blk.new w9 76 (byteCells (Sh.zs 32))
       have ht_ := (Turn.refl nowhere w9).alloc (.cells (byteCells (Sh.zs 32)) 76)
       obtain ⟨g, hg_⟩ : ∃ g, g = w9.heap.size := ⟨_, rfl⟩
       rw [← hg_] at hb_ ⊢
       have HLg := zH (show w9.heap.size ≤ g from by omega)
       clear hg_
       generalize w9.alloc (.cells (byteCells (Sh.zs 32)) 76) = wa at *
       have HBg := zH hb_
       have HTa := zH ht_
       clear hb_ ht_
       refine wpList_store_row wn 76 (.tmp 10) (.tmp 53) rfl (byteCells I) HBg.out rfl rfl (by rw [bc_size, bc_size, HIL.out]; rfl) (by rw [size_hs, bc_size, HIL.out]) (bc_one _) ?_
       intro wb hb_ ht_
       have HBgb := zH hb_
       have HTb := zH ht_
       clear hb_ ht_
       simp only [zz]
       have HTab := zH (HTa.out.trans HTb.out fun k' hk e => by have := HLg.out; have e : k' = g := e; omega)
       have HOYb := zH (HOY9.out.still HTab.out)
       have HTw := zH (HT9.out.trans HTab.out fun _ _ e => e)
       have HBSb := zH (bs_arr HBgb.out HIL.out (by decide))
       clear HTa HTb HTab HOY9 HT9 HBg HBgb
       obtain ⟨A6, c6, w7, hap, ho6, ht6, hkp⟩ := orw_growK (ty := 22) (W1 := w1) (c := 32) HOYb.out HTw.out (bs_rws HBSb.out (by decide)) (rB_fit I) (fun h => by cases h) (by rw [rB_len, HX2.out]; decide)
       rw [rB_len, HX2.out] at hap ho6
       rw [← rB_app] at ho6
       have HAP := zH hap
       have HT7 := zH ht6
       obtain ⟨A8, c8, he8, hb8, hc8, hz8⟩ := orw_bs ho6
       have HL9 := zH (show (X2 ++ I).length = 64 + 32 from by rw [List.length_append, HX2.out, HIL.out])
       rw [HL9.out] at he8 hb8 hc8
       injection he8 with e1 e2 e3
       subst e1 e3
       clear e2
       have HB8 := zH hb8
       have HZ8 := zH hz8
       clear hap ho6 ht6 hkp hb8 hc8 hz8 HOYb
       go_upto_region 15 with fail
       refine wp_region_lit ?_
       refine nM (.slice Ay 64 cy) ?_;simp only [zz];refine nR (.slice (some ⟨g, 0, none⟩) 32 32) (exec_slice rfl rfl rfl rfl rfl (sl_hs g _)) ?_;simp only [zz]
       refine wR (v := .slice A6 (64 + 32) c6) (w' := w7) wn (exec_append rfl rfl rfl HAP.out) ?_
       simp only [zz]
       refine wpList_op_g rfl fun K9 HK9 => ?_
       go_wp2_with fail
       refine (rsum_walk w7 A6 (64 + 32) c6 (X2 ++ I) HB8.out HZ8.out (by decide)).mono ?_
       rintro e wx ⟨rfl, ht⟩
       refine HK9.out _ _ ?_
       clear HK9
       try simp only [zz]
       rw [← HMAC.out]
       have HTx := zH (HT7.out.trans ht fun _ _ e => e)
       have HBRx := zH (HBr.out.turn HTx.out fun e => e)
       clear ht
       refine wpList_store_row wn 76 (.tmp 4) (.tmp 57) rfl (byteCells R) HBRx.out rfl rfl (by rw [bc_size, bc_size, HML.out]; rfl) (by rw [size_hs, bc_size, HML.out]) (bc_one _) ?_
       intro wy hb_ ht_
       have HBZ := zH hb_
       have HTy := zH ht_
       clear hb_ ht_
       simp only [zz]
       have HTZ := zH ((HT1.out.trans HTx.out fun _ _ e => e).trans HTy.out fun k' hk e => by have := HLr.out; have e : k' = r := e; omega)
       go_wp2_with fail
       refine bodyPost_ret (v := .agg (byteCells R)) (ret_cell1_g rfl _ _ r _ _ _ rfl HBZ.out Tryz.underlying76 rfl (by rw [size_hs, bc_size, HML.out] <;> rfl)) rfl ?_
       exact ⟨rfl, HTZ.out⟩
end Go.Proofs.YtkagijifkpoplaaGreatDoor
