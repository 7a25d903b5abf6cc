/-
  Texts in one file. Conditions: the tables and the errors read as laid.
-/
import Derived.Test.YtkagijifkpoplaaGreatDoorJT25
import Derived.Test.YtkagijifkpoplaaGreatDoorJT22
import Derived.Test.YtkagijifkpoplaaGreatDoorJT23
import Derived.Test.YtkagijifkpoplaaGreatDoorJT0
import Derived.Test.YtkagijifkpoplaaGreatDoorJT1
set_option linter.unusedVariables false
set_option linter.unusedSimpArgs false
set_option maxRecDepth 40000
set_option maxHeartbeats 20000000
namespace Go.Proofs.YtkagijifkpoplaaGreatDoor
open Go.RowKit
open Sh (Wd B8 H8)
open Fdd
set_option maxRecDepth 20000
theorem frow_addG {F : Nat → Prop} {W1 w : World} {v : Value} {fs : List Fld} {ty : TypeId} (hown : FRow w W1.heap.size v fs) (hT : Turn F W1 w) (f : Fld) (hlen : (fs.length + 1) * 24 ≤ 140737488355328) :
 ∃ A' c' w', (Builtin.append_ #[27, 27] ty #[v, .slice (some ⟨w.heap.size, 0, none⟩) 1 1]).run Tryz.prog (w.alloc (.cells (fldA f) 38)) = .ok (.slice A' (fs.length + 1) c') w' ∧ FRow w' W1.heap.size (.slice A' (fs.length + 1) c') (fs ++ [f]) ∧ Turn F W1 w' ∧
  ∀ g t cs, Blk w g t cs → t ≠ 38 → Blk w' g t cs := by
 have hta := (Turn.refl nowhere w).alloc (.cells (fldA f) 38)
 have ho2 := hown.still hta
 obtain ⟨A', c', w', h1, h2, h3⟩ := frow_grow (ty := ty) (c := 1) ho2 (hT.alloc _).size (fl_one f w) (fun h => by cases h) hlen
 refine ⟨A', c', w', h1, h2, (hT.alloc _).grown h3 (fun g e hg => by have := (ho2.lt g e).1; omega), fun g t cs hb ht => ?_⟩
 have hb2 := hb.turn hta fun e => e
 exact hb2.grown h3 fun e => (ho2.ne hb2 ht g e.symm) rfl
theorem build_mgt (ty : Int) (W : World) : (Instr.build 29 #[(0, .int .i64 ty)]).run Tryz.prog W = .ok (.agg #[.int .i64 ty, .slice none 0 0]) W := by kernel_rfl
theorem mset1 (ty : Int) (v u : Value) : (#[.int .i64 ty, v] : Array Value).setIfInBounds 1 u = #[.int .i64 ty, u] := rfl
theorem size_fs : (Tryz.prog.info? 27).map (·.size) = some 1 := by kernel_rfl
theorem rbare_walk {w : World} {ty : Int} {A : Option Addr} {n c : Nat} {fs : List Fld} (hf : Fl w A n fs) (hn : n * 24 ≤ 140737488351232) : Calls Tryz.prog 41 #[msgV ty A n c] w fun e w' => ∃ A' c', e = .returned (msgV ty A' (bareM fs).length c') ∧ FRow w' w.heap.size (.slice A' (bareM fs).length c') (bareM fs) ∧ Turn nowhere w w' := by
 have HF := zH hf
 have HN := zH hn
 have HLEN := zH hf.1
 have yn : (n : Int) ≤ 5864062014800 := by omega
 clear hf hn
 go_enter Tryz.func41, Tryz.ntmps41
 go_upto_region 0 with fail
 refine wp_region_lit ?_
 refine wR (v := .pointer (some ⟨(w).heap.size, 0, none⟩)) (w' := (w).alloc (.cells #[.int .i64 ty, .slice A n c] 29)) wn (gx_box rfl rfl (box_mg _ _ _ _ _)) ?_
 simp only [zz]
 refine wR (v := .pointer (some ⟨((w).alloc (.cells #[.int .i64 ty, .slice A n c] 29)).heap.size, 0, none⟩)) (w' := ((w).alloc (.cells #[.int .i64 ty, .slice A n c] 29)).alloc (.cells #[.int .i64 0, .slice none 0 0] 29)) wn (gx_alloc rfl (zero_mg _)) ?_
 simp only [zz]
 have hb_b := (Blk.new (w) 29 #[.int .i64 ty, .slice A n c]).alloc (.cells #[.int .i64 0, .slice none 0 0] 29)
 have hb_r := Blk.new ((w).alloc (.cells #[.int .i64 ty, .slice A n c] 29)) 29 #[.int .i64 0, .slice none 0 0]
 have ht_ := ((Turn.refl nowhere (w)).alloc (.cells #[.int .i64 ty, .slice A n c] 29)).alloc (.cells #[.int .i64 0, .slice none 0 0] 29)
 obtain ⟨n0_, hn0_⟩ : ∃ n, n = (w).heap.size := ⟨_, rfl⟩
 have hz_b : (w).heap.size = n0_ + 0 := by rw [hn0_]; simp
 have hz_r : ((w).alloc (.cells #[.int .i64 ty, .slice A n c] 29)).heap.size = n0_ + 1 := by rw [hn0_]; simp
 obtain ⟨r, hg_⟩ : ∃ g, g = ((w).alloc (.cells #[.int .i64 ty, .slice A n c] 29)).heap.size := ⟨_, rfl⟩
 rw [← hg_] at hb_r hz_r ⊢
 clear hg_
 obtain ⟨b, hg_⟩ : ∃ g, g = (w).heap.size := ⟨_, rfl⟩
 rw [← hg_] at hb_b hz_b ⊢
 clear hg_
 generalize ((w).alloc (.cells #[.int .i64 ty, .slice A n c] 29)).alloc (.cells #[.int .i64 0, .slice none 0 0] 29) = w1 at *
 have HT1 := zH ht_
 clear ht_
 have HBb := zH hb_b
 have HLb := zH (show (w).heap.size ≤ b from by omega)
 clear hb_b
 have HBr := zH hb_r
 have HLr := zH (show (w).heap.size ≤ r from by omega)
 clear hb_r
 have HNbr := zH (show b ≠ r from by omega)
 clear hn0_ hz_b hz_r
 clear n0_
 go_upto_region 1 with fail
 refine wp_region_lit ?_
 refine nR (.pointer (some ⟨b, 0, none⟩)) (xF 0 0) ?_;simp only [zz];refine nR (.int .i64 ty) (xL (HBb.out.cell 0)) ?_;simp only [zz];refine nR (.agg #[.int .i64 ty, .slice none 0 0]) (gx_build1_g rfl rfl (build_mgt _ _)) ?_;simp only [zz]
 refine wR (v := .pointer (some ⟨w1.heap.size, 0, none⟩)) (w' := w1.alloc (.cells #[.int .i64 0, .slice none 0 0] 29)) wn (gx_alloc rfl (zero_mg _)) ?_
 simp only [zz]
 have hb_ := Blk.new w1 29 #[.int .i64 0, .slice none 0 0]
 have ht_ := (Turn.refl nowhere w1).alloc (.cells #[.int .i64 0, .slice none 0 0] 29)
 obtain ⟨o, hg_⟩ : ∃ g, g = w1.heap.size := ⟨_, rfl⟩
 rw [← hg_] at hb_ ⊢
 have HLo := zH (show w1.heap.size ≤ o from by omega)
 clear hg_
 generalize w1.alloc (.cells #[.int .i64 0, .slice none 0 0] 29) = w2 at *
 have HBo := zH hb_
 have HT2 := zH ht_
 clear hb_ ht_
 refine wpList_store_row wn 29 (.tmp 3) (.tmp 7) rfl (#[.int .i64 ty, .slice none 0 0]) HBo.out rfl rfl (rfl) (by rw [size_mg] <;> rfl) (mg_one _ _ _ _) ?_
 intro w3 hb_ ht_
 have HBo3 := zH hb_
 have HT3 := zH ht_
 clear hb_ ht_
 simp only [zz]
 have HT13 := zH (HT2.out.trans HT3.out fun k' hk e => by have := HLo.out; have e : k' = o := e; omega)
 have HBb3 := zH (HBb.out.turn HT13.out fun e => e)
 have HBr3 := zH (HBr.out.turn HT13.out fun e => e)
 have HTw3 := zH (HT1.out.trans HT13.out fun _ _ e => e)
 have HNbo := zH (show b ≠ o from by have := HBb.out.lt; have := HLo.out; omega)
 have HNro := zH (show r ≠ o from by have := HBr.out.lt; have := HLo.out; omega)
 have HLow := zH (show w.heap.size ≤ o from Nat.le_trans HT1.out.size HLo.out)
 clear HT13 HT2 HT3 HBb HBr HBo HT1 HLo
 go_upto_region 2 with fail
 refine wp_region_lit ?_
 refine nA (.int .i64 0) ?_;simp only [zz]
 go_wp2_with fail
 go_loopg [4] n (fun gk iv wr => ∃ (i : Nat) (v : Value), iv = .int .i64 (i : Int) ∧ i + gk = n ∧ Blk wr o 29 #[.int .i64 ty, v] ∧ FRow wr w3.heap.size v (bareM (fs.take i)) ∧ Turn (only o) w3 wr)
 case atStart => exact ⟨0, .slice none 0 0, rfl, by omega, HBo3.out, FRow.nil _ _, Turn.refl _ _⟩
 clear HBo3
 obtain ⟨i, v, rfl, hgk, hbo, hor, htr⟩ := hrel
 have yi : (i : Int) ≤ (n : Int) := by omega
 have HGK := zH hgk
 have HBO := zH hbo
 have HOR := zH hor
 have HT3 := zH htr
 have HTR := zH (HTw3.out.trans htr fun k' hk e => by have := HLow.out; have e : k' = o := e; omega)
 have HBB := zH (HBb3.out.turn (F := only o) htr fun e => HNbo.out e)
 have HBR := zH (HBr3.out.turn (F := only o) htr fun e => HNro.out e)
 obtain ⟨A5, c5, hv5, _⟩ := (frow_orw hor).form
 rw [List.length_map] at hv5
 obtain ⟨m, hm⟩ : ∃ m, (bareM (fs.take i)).length = m := ⟨_, rfl⟩
 have HMI := zH (show m ≤ i from by rw [← hm]; have := bare_len (fs.take i); rw [List.length_take] at this; omega)
 rw [hm] at hv5
 subst hv5
 have HML := zH hm
 clear hgk hbo hor htr hm
 by_cases hlt : i < n
 ·as_aux_lemma =>
   have HLT := zH hlt
   have y3 : (i : Int) < (n : Int) := by omega
   obtain ⟨e, hei⟩ := fl_some HLEN.out hlt
   have HEI := zH hei
   have HBS := zH (bare_snoc hei)
   obtain ⟨b1, o1, e1, h1⟩ := fl_rng (HF.out.still HTR.out) hei
   have HRR := zH h1
   subst e1
   clear h1 hei hlt
   go_upto_region 3 with fail
   refine wp_region_lit ?_
   refine nM (.int .i64 (i : Int)) ?_;simp only [zz];refine nR (.pointer (some ⟨b, 1, none⟩)) (xF 0 1) ?_;simp only [zz];refine nR (.slice (some ⟨b1, o1, none⟩) n c) (xL (HBB.out.cell 1)) ?_;simp only [zz];refine nR (.int .i64 (n : Int)) (gx_len rfl rfl Tryz.underlying27) ?_;simp only [zz];refine nR (.bool true) (ix_lss rfl rfl rfl (decide_eq_true y3)) ?_;simp only [zz]
   by_cases hz : e.1 = 64
   ·as_aux_lemma =>
     have HBE := zH (show bareM (fs.take (i + 1)) = bareM (fs.take i) from by rw [HBS.out, if_pos hz])
     have HZ := zH hz
     clear hz
     go_upto_region 5 with fail
     refine wp_region_lit ?_
     refine nR (.pointer (some ⟨b, 1, none⟩)) (xF 0 1) ?_;simp only [zz];refine nR (.slice (some ⟨b1, o1, none⟩) n c) (xL (HBB.out.cell 1)) ?_;simp only [zz];refine nM (.int .i64 (i : Int)) ?_;simp only [zz];refine nR (.pointer (some ⟨b1, o1 + i * 2, none⟩)) (gx_iaddr (i := i) (sz := 2) rfl rfl rfl Tryz.underlying27 size_fd HLT.out rfl) ?_;simp only [zz];refine nR (.pointer (some ⟨b1, o1 + i * 2, none⟩)) (xF (o1 + i * 2) 0) ?_;simp only [zz];refine nR (.int .i64 e.1) (xL (HRR.out 0 _ rfl)) ?_;simp only [zz];refine nR (.bool false) (ix_neq rfl rfl rfl (decide_eq_false (fun h => h HZ.out))) ?_;simp only [zz]
     go_upto_region 4 with fail
     refine wp_region_lit ?_
     refine nM (.int .i64 (i : Int)) ?_;simp only [zz];refine nR (.int .i64 ((i + 1 : Nat) : Int)) (ix_add rfl rfl rfl (by omega) (by omega)) ?_;simp only [zz];refine nA (.int .i64 ((i + 1 : Nat) : Int)) ?_;simp only [zz]
     go_wp2_with fail
     go_roundg (n - (i + 1))
     case measure => have := HGK.out; have := HLT.out; omega
     case rel => exact ⟨i + 1, .slice A5 m c5, rfl, by have := HLT.out; omega, HBO.out, by rw [HBE.out]; exact HOR.out, HT3.out⟩
   ·as_aux_lemma =>
     have HBE := zH (show bareM (fs.take (i + 1)) = bareM (fs.take i) ++ [e] from by rw [HBS.out, if_neg hz])
     have HZ := zH hz
     clear hz
     go_upto_region 5 with fail
     refine wp_region_lit ?_
     refine nR (.pointer (some ⟨b, 1, none⟩)) (xF 0 1) ?_;simp only [zz];refine nR (.slice (some ⟨b1, o1, none⟩) n c) (xL (HBB.out.cell 1)) ?_;simp only [zz];refine nM (.int .i64 (i : Int)) ?_;simp only [zz];refine nR (.pointer (some ⟨b1, o1 + i * 2, none⟩)) (gx_iaddr (i := i) (sz := 2) rfl rfl rfl Tryz.underlying27 size_fd HLT.out rfl) ?_;simp only [zz];refine nR (.pointer (some ⟨b1, o1 + i * 2, none⟩)) (xF (o1 + i * 2) 0) ?_;simp only [zz];refine nR (.int .i64 e.1) (xL (HRR.out 0 _ rfl)) ?_;simp only [zz];refine nR (.bool true) (ix_neq rfl rfl rfl (decide_eq_true HZ.out)) ?_;simp only [zz]
     go_upto_region 6 with fail
     refine wp_region_till (fun W => Blk W o 29 #[.int .i64 ty, .slice A5 m c5] ∧ Blk W b 29 #[.int .i64 ty, .slice (some ⟨b1, o1, none⟩) n c] ∧ W.rangeAt b1 (o1 + i * 2) (fldC e)) 9 (by kernel_rfl) ?_
     have hS0 : (fun W => Blk W o 29 #[.int .i64 ty, .slice A5 m c5] ∧ Blk W b 29 #[.int .i64 ty, .slice (some ⟨b1, o1, none⟩) n c] ∧ W.rangeAt b1 (o1 + i * 2) (fldC e)) wr.drew := ⟨HBO.out.drew, HBB.out.drew, HRR.out⟩
     have HDn := zH ((Turn.refl nowhere wr).drew)
     have HD := zH ((Turn.refl (only o) wr).drew)
     generalize wr.drew = wd at *
     refine tU 0 (.pointer (some ⟨o, 1, none⟩)) rfl (fun W hW => xF 0 1) hS0 ?_;simp only [zz];refine tU 1 (.slice A5 m c5) rfl (fun W hW => xL (hW.1.cell 1)) hS0 ?_;simp only [zz];refine tU 2 (.pointer (some ⟨b, 1, none⟩)) rfl (fun W hW => xF 0 1) hS0 ?_;simp only [zz];refine tU 3 (.slice (some ⟨b1, o1, none⟩) n c) rfl (fun W hW => xL (hW.2.1.cell 1)) hS0 ?_;simp only [zz];refine tM 4 (.int .i64 (i : Int)) hS0 ?_;simp only [zz];refine tU 5 (.pointer (some ⟨b1, o1 + i * 2, none⟩)) rfl (fun W hW => gx_iaddr (i := i) (sz := 2) rfl rfl rfl Tryz.underlying27 size_fd HLT.out rfl) hS0 ?_;simp only [zz];refine tU 6 (.agg (fldA e)) rfl (fun W hW => gx_loads_g rfl rfl hW.2.2 Tryz.underlying38 rfl (by rw [size_fd]; rfl)) hS0 ?_;simp only [zz]
     obtain ⟨A6, c6, w7, hap, ho7, ht7, hkp⟩ := frow_addG (ty := 27) (W1 := w3) (F := only o) (w := wd) (HOR.out.turn (F := nowhere) HDn.out fun _ _ e => e) (HT3.out.trans HD.out fun _ _ e => e) e (by rw [HML.out]; have := HMI.out; have := HLT.out; have := HN.out; omega)
     rw [HML.out] at hap ho7
     rw [← HBE.out] at ho7
     have HAP := zH hap
     have HO7 := zH ho7
     have HT7 := zH ht7
     have HBO7 := zH (hkp _ _ _ hS0.1 (by decide))
     have HBB7 := zH (hkp _ _ _ hS0.2.1 (by decide))
     have HRG7 := zH (show w7.rangeAt b1 (o1 + i * 2) (fldC e) from by
      obtain ⟨b2, o2, e2, h2⟩ := fl_rng (HF.out.still (HTw3.out.trans HT7.out fun k' hk e => by have := HLow.out; have e : k' = o := e; omega)) HEI.out
      obtain ⟨rfl, rfl⟩ : b1 = b2 ∧ o1 = o2 := by simpa using e2
      exact h2)
     clear hap ho7 ht7 hkp
     refine till_step (i := 7) (by kernel_rfl) rfl rfl ?_
     intro K1 HK1
     refine wp_run (v := .slice (some ⟨wd.heap.size, 0, none⟩) 1 1) (w' := wd.alloc (.cells (fldA e) 38)) (exec_buildSlice1 rfl rfl (build_f1 e wd)) ?_
     have hta := (Turn.refl nowhere wd).alloc (.cells (fldA e) 38)
     have hS1 : (fun W => Blk W o 29 #[.int .i64 ty, .slice A5 m c5] ∧ Blk W b 29 #[.int .i64 ty, .slice (some ⟨b1, o1, none⟩) n c] ∧ W.rangeAt b1 (o1 + i * 2) (fldC e)) (wd.alloc (.cells (fldA e) 38)) := ⟨hS0.1.turn hta fun e => e, hS0.2.1.turn hta fun e => e, fun j u hu => cell_still (hS0.2.2 j u hu) hta⟩
     refine HK1.out _ _ ⟨fun _ => hS1, ?_⟩
     clear HK1 hta hS0
     try simp only [zz]
     refine till_step (i := 8) (by kernel_rfl) rfl rfl ?_
     intro K1 HK1
     refine wp_run (v := .slice A6 (m + 1) c6) (w' := w7) (exec_append rfl rfl rfl HAP.out) ?_
     have hS2 : (fun W => Blk W o 29 #[.int .i64 ty, .slice A5 m c5] ∧ Blk W b 29 #[.int .i64 ty, .slice (some ⟨b1, o1, none⟩) n c] ∧ W.rangeAt b1 (o1 + i * 2) (fldC e)) w7 := ⟨HBO7.out, HBB7.out, HRG7.out⟩
     refine HK1.out _ _ ⟨fun _ => hS2, ?_⟩
     clear HK1 hS1
     try simp only [zz]
     refine till_tail 9 rfl (by kernel_rfl) ?_
     clear hS2
     refine nR (.pointer (some ⟨o, 1, none⟩)) (xF 0 1) ?_;simp only [zz]
     refine wpList_put wn 27 (.tmp 31) (.tmp 30) rfl (.slice A6 (m + 1) c6) #[.int .i64 ty, .slice A6 (m + 1) c6] HBO7.out rfl rfl (by show 1 < 2; decide) rfl rfl size_fs (mset1 _ _ _) ?_
     intro w8 hb8 ht8
     have HBO8 := zH hb8
     have HO8 := zH (HO7.out.turn (F := only o) ht8 fun k hk e => (HO7.out.ne HBO7.out (by decide) k hk) e)
     have HT8 := zH (HT7.out.trans ht8 fun _ _ e => e)
     clear hb8 ht8
     simp only [zz]
     refine wpList_nil ?_
     refine NoPanic.normal ?_
     try simp only [zz]
     go_upto_region 4 with fail
     refine wp_region_lit ?_
     refine nM (.int .i64 (i : Int)) ?_;simp only [zz];refine nR (.int .i64 ((i + 1 : Nat) : Int)) (ix_add rfl rfl rfl (by omega) (by omega)) ?_;simp only [zz];refine nA (.int .i64 ((i + 1 : Nat) : Int)) ?_;simp only [zz]
     go_wp2_with fail
     go_roundg (n - (i + 1))
     case measure => have := HGK.out; have := HLT.out; omega
     case rel => exact ⟨i + 1, .slice A6 (m + 1) c6, rfl, by have := HLT.out; omega, HBO8.out, HO8.out, HT8.out⟩
 ·as_aux_lemma =>
   obtain rfl : i = n := by omega
   clear hlt HGK
   have hfl : fs.take i = fs := List.take_of_length_le (by rw [HLEN.out]; omega)
   rw [hfl] at HOR HML
   clear hfl
   go_upto_region 3 with fail
   refine wp_region_lit ?_
   refine nM (.int .i64 (i : Int)) ?_;simp only [zz];refine nR (.pointer (some ⟨b, 1, none⟩)) (xF 0 1) ?_;simp only [zz];refine nR (.slice A i c) (xL (HBB.out.cell 1)) ?_;simp only [zz];refine nR (.int .i64 (i : Int)) (gx_len rfl rfl Tryz.underlying27) ?_;simp only [zz];refine nR (.bool false) (ix_lss rfl rfl rfl (by simp)) ?_;simp only [zz]
   go_upto_region 7 with fail
   refine wp_region_lit ?_
   refine nR (.agg #[.int .i64 ty, .slice A5 m c5]) (gx_loads_g rfl rfl (blk_range_g HBO.out) Tryz.underlying29 rfl (by rw [size_mg]; rfl)) ?_;simp only [zz]
   refine wpList_store_row wn 29 (.tmp 2) (.tmp 32) rfl (#[.int .i64 ty, .slice A5 m c5]) HBR.out rfl rfl (rfl) (by rw [size_mg] <;> rfl) (mg_one _ _ _ _) ?_
   intro w8 hb_ ht_
   have HBZ := zH hb_
   have HT8 := zH ht_
   clear hb_ ht_
   simp only [zz]
   have HOZ := zH (HOR.out.turn (F := only r) HT8.out fun k hk e => (HOR.out.ne HBR.out (by decide) k hk) e)
   have HTZ := zH (HTR.out.trans HT8.out fun k' hk e => by have := HLr.out; have e : k' = r := e; omega)
   have HLw := zH HTw3.out.size
   go_wp2_with fail
   refine bodyPost_ret (v := .agg #[.int .i64 ty, .slice A5 m c5]) (ret_cell1_g rfl _ _ r _ _ _ rfl HBZ.out Tryz.underlying29 rfl (by rw [size_mg] <;> rfl)) rfl ?_
   rw [HML.out]
   exact ⟨A5, c5, rfl, HOZ.out.less HLw.out, HTZ.out⟩
theorem rsmac_walk {w : World} {code key : B8} {d m1 m2 ty : Int} {Ak A : Option Addr} {nk ck n c : Nat} {fs : List Fld} (hkey : Key w Ak nk ck key) (hf : Mg w A n c fs) :
 Calls Tryz.prog 29 #[.agg (memC code d Ak nk ck m1 m2), msgV ty A n c] w fun e w' => e = .returned (.tuple #[strV (txR (macR d ty key fs)), .int .i64 (codeE (macR d ty key fs))]) ∧ Turn nowhere w w' := by
 have HKEY := zH hkey
 have HF := zH hf
 clear hkey hf
 go_enter Tryz.func29, Tryz.ntmps29
 go_upto_region 0 with fail
 refine wp_region_lit ?_
 refine wR (v := .pointer (some ⟨(w).heap.size, 0, none⟩)) (w' := (w).alloc (.cells (memC code d Ak nk ck m1 m2) 26)) wn (gx_box rfl rfl (box_mem _ _ _ _ _ _ _ _)) ?_
 simp only [zz]
 refine wR (v := .pointer (some ⟨((w).alloc (.cells (memC code d Ak nk ck m1 m2) 26)).heap.size, 0, none⟩)) (w' := ((w).alloc (.cells (memC code d Ak nk ck m1 m2) 26)).alloc (.cells #[.int .i64 ty, .slice A n c] 29)) wn (gx_box rfl rfl (box_mg _ _ _ _ _)) ?_
 simp only [zz];refine nA (strV []) ?_;simp only [zz];refine nA (.int .i64 0) ?_;simp only [zz]
 have hb_p := (Blk.new (w) 26 (memC code d Ak nk ck m1 m2)).alloc (.cells #[.int .i64 ty, .slice A n c] 29)
 have hb_b := Blk.new ((w).alloc (.cells (memC code d Ak nk ck m1 m2) 26)) 29 #[.int .i64 ty, .slice A n c]
 have ht_ := ((Turn.refl nowhere (w)).alloc (.cells (memC code d Ak nk ck m1 m2) 26)).alloc (.cells #[.int .i64 ty, .slice A n c] 29)
 obtain ⟨n0_, hn0_⟩ : ∃ n, n = (w).heap.size := ⟨_, rfl⟩
 have hz_p : (w).heap.size = n0_ + 0 := by rw [hn0_]; simp
 have hz_b : ((w).alloc (.cells (memC code d Ak nk ck m1 m2) 26)).heap.size = n0_ + 1 := by rw [hn0_]; simp
 obtain ⟨b, hg_⟩ : ∃ g, g = ((w).alloc (.cells (memC code d Ak nk ck m1 m2) 26)).heap.size := ⟨_, rfl⟩
 rw [← hg_] at hb_b hz_b ⊢
 clear hg_
 obtain ⟨p, hg_⟩ : ∃ g, g = (w).heap.size := ⟨_, rfl⟩
 rw [← hg_] at hb_p hz_p ⊢
 clear hg_
 generalize ((w).alloc (.cells (memC code d Ak nk ck m1 m2) 26)).alloc (.cells #[.int .i64 ty, .slice A n c] 29) = w1 at *
 have HT1 := zH ht_
 clear ht_
 have HBp := zH hb_p
 have HLp := zH (show (w).heap.size ≤ p from by omega)
 clear hb_p
 have HBb := zH hb_b
 have HLb := zH (show (w).heap.size ≤ b from by omega)
 clear hb_b
 have HNpb := zH (show p ≠ b from by omega)
 clear hn0_ hz_p hz_b
 clear n0_
 go_upto_region 1 with fail
 refine wp_region_alw (fun W => Blk W p 26 (memC code d Ak nk ck m1 m2) ∧ Blk W b 29 #[.int .i64 ty, .slice A n c]) (by kernel_rfl) ?_
 have hS0 : (fun W => Blk W p 26 (memC code d Ak nk ck m1 m2) ∧ Blk W b 29 #[.int .i64 ty, .slice A n c]) w1.drew := ⟨HBp.out.drew, HBb.out.drew⟩
 have HD := zH ((Turn.refl nowhere w1).drew)
 generalize w1.drew = wd at *
 have HTd := zH (HT1.out.trans HD.out fun _ _ e => e)
 clear HT1 HD HBb HBp
 refine aU 0 (.pointer (some ⟨p, 1, none⟩)) rfl (fun W hW => xF 0 1) hS0 ?_;simp only [zz];refine aU 1 (.int .i64 d) rfl (fun W hW => xL (hW.1.cell 1)) hS0 ?_;simp only [zz];refine aU 2 (msgV ty A n c) rfl (fun W hW => gx_loads_g rfl rfl (blk_range_g hW.2) Tryz.underlying29 rfl (by rw [size_mg]; rfl)) hS0 ?_;simp only [zz]
 refine alw_step (i := 3) (by kernel_rfl) rfl rfl ?_
 intro K1 HK1
 go_wp2_with fail
 refine (rbare_walk (HF.out.fl.still HTd.out) HF.out.lim).mono ?_
 rintro e c1 ⟨A5, c5, rfl, ho, ht⟩
 have hS1 : (fun W => Blk W p 26 (memC code d Ak nk ck m1 m2) ∧ Blk W b 29 #[.int .i64 ty, .slice A n c]) c1 := ⟨hS0.1.turn ht fun e => e, hS0.2.turn ht fun e => e⟩
 have HBA := zH (ho.fl (by have := bare_len fs; have := HF.out.fl.1; have := HF.out.lim; omega))
 have HT5 := zH (HTd.out.trans ht fun _ _ e => e)
 refine HK1.out _ _ ⟨hS1, ?_⟩
 clear HK1 ht ho hS0 HTd
 try simp only [zz]
 refine alw_step (i := 4) (by kernel_rfl) rfl rfl ?_
 intro K1 HK1
 go_wp2_with fail
 refine (rEncode_walk HBA.out.1 (bare_txts HF.out.tx)).mono ?_
 rintro e c2 ⟨A6, n6, c6, rfl, hox, ht⟩
 have hS2 : (fun W => Blk W p 26 (memC code d Ak nk ck m1 m2) ∧ Blk W b 29 #[.int .i64 ty, .slice A n c]) c2 := ⟨hS1.1.turn ht fun e => e, hS1.2.turn ht fun e => e⟩
 have HT6 := zH (HT5.out.trans ht fun _ _ e => e)
 have HOX := zH hox
 refine HK1.out _ _ ⟨hS2, ?_⟩
 clear HK1 ht hox hS1 HT5 HBA
 try simp only [zz]
 refine aM 5 (.tuple #[.slice A6 n6 c6, .int .i64 (codeE (mencode d ty (bareM fs)))]) hS2 ?_;simp only [zz];refine aU 6 (.slice A6 n6 c6) rfl (fun W hW => ix_extract rfl rfl rfl) hS2 ?_;simp only [zz];refine aU 7 (.int .i64 (codeE (mencode d ty (bareM fs)))) rfl (fun W hW => ix_extract rfl rfl rfl) hS2 ?_;simp only [zz];refine aU 8 (.slice A6 n6 c6) rfl (fun W hW => gx_assign rfl rfl) hS2 ?_;simp only [zz];refine aU 9 (.int .i64 (codeE (mencode d ty (bareM fs)))) rfl (fun W hW => gx_assign rfl rfl) hS2 ?_;simp only [zz]
 refine alw_done rfl ?_
 refine NoPanic.normal ?_
 try simp only [zz]
 have HBP := zH hS2.1
 clear hS2
 rcases hr : mencode d ty (bareM fs) with k | bz
 ·as_aux_lemma =>
   have HRE := zH (macR_err (key := key) hr)
   have HNZ := zH (mencode_err hr)
   clear hr
   go_upto_region 2 with fail
   refine wp_region_lit ?_
   refine nM (.int .i64 k) ?_;simp only [zz];refine nR (.bool true) (ix_neq rfl rfl rfl (decide_eq_true HNZ.out)) ?_;simp only [zz]
   go_upto_region 3 with fail
   refine wp_region_lit ?_
   refine nM (.int .i64 k) ?_;simp only [zz];refine nA (strV []) ?_;simp only [zz];refine nA (.int .i64 k) ?_;simp only [zz]
   go_wp2_with fail
   go_ret2
   rw [HRE.out]
   exact ⟨rfl, HT6.out⟩
 ·as_aux_lemma =>
   have HRE := zH (macR_ok (key := key) hr)
   have HLE := zH (menc_len hr)
   rw [hr] at HOX
   clear hr
   obtain ⟨A9, n9, c9, hf9, hb9, hnc9, hz9⟩ := HOX.out.form
   injection hf9 with g1 g2 g3
   subst g1 g2 g3
   have HB9 := zH (show Bs c2 A6 n6 bz from hb9)
   have HZ9 := zH hz9
   have HN6 := zH (show n6 ≤ 500 from by rw [← HB9.out.1]; exact HLE.out)
   clear hb9 hnc9 hz9 HOX HLE
   have HML := zH (show (Sh.mac key bz).length = 32 from rfl)
   have HTX := zH (show Sh.macT key bz = Sh.hex ((Sh.mac key bz).take 8) from rfl)
   have HMW := zH (fun (w0 : World) (h1 : Key w0 Ak nk ck key) (h2 : Bs w0 A6 n6 bz) => rmac_walk w0 Ak A6 nk ck n6 c6 key bz h1.bs h1.nil h1.lim h2 HZ9.out (by have := HN6.out; omega))
   obtain ⟨M, hM⟩ : ∃ M, Sh.mac key bz = M := ⟨_, rfl⟩
   rw [hM] at HML HTX HMW
   clear hM
   go_upto_region 2 with fail
   refine wp_region_lit ?_
   refine nM (.int .i64 0) ?_;simp only [zz];refine nR (.bool false) (ix_neq rfl rfl rfl (by decide)) ?_;simp only [zz]
   go_upto_region 4 with fail
   refine wp_region_lit ?_
   refine nR (.pointer (some ⟨p, 2, none⟩)) (xF 0 2) ?_;simp only [zz];refine nR (.slice Ak nk ck) (xL (HBP.out.cell 2)) ?_;simp only [zz];refine nM (.slice A6 n6 c6) ?_;simp only [zz]
   refine wpList_op_g rfl fun K9 HK9 => ?_
   go_wp2_with fail
   refine (HMW.out c2 (HKEY.out.still HT6.out) HB9.out).mono ?_
   rintro e w7 ⟨rfl, ht⟩
   refine HK9.out _ _ ?_
   clear HK9
   try simp only [zz]
   have HT7 := zH (HT6.out.trans ht fun _ _ e => e)
   clear ht
   refine wR (v := .pointer (some ⟨w7.heap.size, 0, none⟩)) (w' := w7.alloc (.cells (byteCells (Sh.zs 32)) 76)) wn (gx_alloc rfl (zero_hs _)) ?_
   simp only [zz]
   have hb_ := Blk.new w7 76 (byteCells (Sh.zs 32))
   have ht_ := (Turn.refl nowhere w7).alloc (.cells (byteCells (Sh.zs 32)) 76)
   obtain ⟨g, hg_⟩ : ∃ g, g = w7.heap.size := ⟨_, rfl⟩
   rw [← hg_] at hb_ ⊢
   have HLg := zH (show w7.heap.size ≤ g from by omega)
   clear hg_
   generalize w7.alloc (.cells (byteCells (Sh.zs 32)) 76) = w8 at *
   have HBg := zH hb_
   have HT8 := zH ht_
   clear hb_ ht_
   refine wpList_store_row wn 76 (.tmp 8) (.tmp 25) rfl (byteCells M) HBg.out rfl rfl (by rw [bc_size, bc_size, HML.out]; rfl) (by rw [size_hs, bc_size, HML.out]) (bc_one _) ?_
   intro w9 hb_ ht_
   have HBg9 := zH hb_
   have HT9 := zH ht_
   clear hb_ ht_
   simp only [zz]
   have HT79 := zH (HT8.out.trans HT9.out fun k' hk e => by have := HLg.out; have e : k' = g := e; omega)
   have HTw := zH (HT7.out.trans HT79.out fun _ _ e => e)
   have HOA := zH (orw_zeroB w9 (Nat.le_refl _))
   have HTA := zH ((Turn.refl nowhere w9).alloc (.cells #[] 5))
   have HBA := zH (build_b0 w9)
   have HLg9 := zH (show g < w9.heap.size from HBg9.out.lt)
   clear HT8 HT9 HT79 HT7 HBg
   go_upto_region 5 with fail
   refine wp_region_lit ?_
   refine wR (v := .slice (some ⟨w9.heap.size, 0, none⟩) 0 0) (w' := w9.alloc (.cells #[] 5)) wn (bx_slice0 rfl HBA.out) ?_
   simp only [zz];refine nA (.slice (some ⟨w9.heap.size, 0, none⟩) 0 0) ?_;simp only [zz]
   go_upto_region 6 with fail
   refine wp_region_lit ?_
   refine nA (.int .i64 0) ?_;simp only [zz]
   go_wp2_with fail
   go_loopg [9, 10] 8 (fun gk v iv wr => ∃ i : Nat, iv = .int .i64 (i : Int) ∧ i + gk = 8 ∧ Orw wr w9.heap.size 5 1 v (rB (Sh.hex (M.take i))) ∧ Turn nowhere w9 wr)
   case atStart => exact ⟨0, rfl, rfl, HOA.out, HTA.out⟩
   clear HOA HTA HBA
   obtain ⟨i, rfl, hgk, hor, htr⟩ := hrel
   have yi : (i : Int) ≤ 8 := by omega
   have HGK := zH hgk
   have HOR := zH hor
   have HTR := zH htr
   have HBGR := zH (HBg9.out.turn htr fun e => e)
   have HTL := zH (show (Sh.hex (M.take i)).length = 2 * i from by rw [hex_len, List.length_take, HML.out]; omega)
   obtain ⟨A5, c5, rfl, _⟩ := hor.form
   clear hgk hor htr
   rw [rB_len, HTL.out] at HOR ⊢
   by_cases hlt : i < 8
   ·as_aux_lemma =>
     have HLT := zH hlt
     have y3 : (i : Int) < 8 := by omega
     have HL32 := zH (show i < M.length from by rw [HML.out]; omega)
     have HNX := zH (hex_next M HL32.out)
     have HCI := zH (fun (W : World) (h : Blk W g 76 (byteCells M)) => ld_b h HL32.out)
     obtain ⟨x, hx⟩ : ∃ x, M.getD i 0 = x := ⟨_, rfl⟩
     rw [hx] at HNX HCI
     have HX := zH x.toNat_lt
     clear hlt hx
     obtain ⟨d1, hd1⟩ : ∃ d, Sh.dig (x.toNat / 16) = d := ⟨_, rfl⟩
     obtain ⟨d2, hd2⟩ : ∃ d, Sh.dig (x.toNat % 16) = d := ⟨_, rfl⟩
     rw [hd1, hd2] at HNX
     have HD1 := zH hd1
     have HD2 := zH hd2
     clear hd1 hd2
     go_upto_region 7 with fail
     refine wp_region_lit ?_
     refine nM (.int .i64 (i : Int)) ?_;simp only [zz];refine nR (.bool true) (ix_lss rfl rfl rfl (decide_eq_true y3)) ?_;simp only [zz]
     go_upto_region 9 with fail
     refine wp_region_alw (fun W => Blk W g 76 (byteCells M)) (by kernel_rfl) ?_
     have hS0 : (fun W => Blk W g 76 (byteCells M)) wr.drew := HBGR.out.drew
     have HD := zH ((Turn.refl nowhere wr).drew)
     generalize wr.drew = wd at *
     have HTd := zH (HTR.out.trans HD.out fun _ _ e => e)
     refine aM 0 (.slice A5 (2 * i) c5) hS0 ?_;simp only [zz];refine aM 1 (.int .i64 (i : Int)) hS0 ?_;simp only [zz];refine aU 2 (.pointer (some ⟨g, 0 + i * 1, none⟩)) rfl (fun W hW => gx_aaddr_g (i := i) (sz := 1) rfl rfl rfl Tryz.underlying76 size_u8 (by have := HLT.out; omega) rfl) hS0 ?_;simp only [zz];refine aU 3 (.int .u8 (x.toNat : Int)) rfl (fun W hW => xL (HCI.out W hW)) hS0 ?_;simp only [zz];refine aU 4 (.int .u8 ((x.toNat / 16 : Nat) : Int)) rfl (fun W hW => b_quo16 rfl rfl HX.out) hS0 ?_;simp only [zz];refine aU 5 (.int .u8 (d1.toNat : Int)) rfl (fun W hW => (by rw [← HD1.out]; exact sidx_dig rfl rfl rfl (by have := HX.out; omega))) hS0 ?_;simp only [zz];refine aM 6 (.int .i64 (i : Int)) hS0 ?_;simp only [zz];refine aU 7 (.pointer (some ⟨g, 0 + i * 1, none⟩)) rfl (fun W hW => gx_aaddr_g (i := i) (sz := 1) rfl rfl rfl Tryz.underlying76 size_u8 (by have := HLT.out; omega) rfl) hS0 ?_;simp only [zz];refine aU 8 (.int .u8 (x.toNat : Int)) rfl (fun W hW => xL (HCI.out W hW)) hS0 ?_;simp only [zz];refine aU 9 (.int .u8 ((x.toNat % 16 : Nat) : Int)) rfl (fun W hW => b_rem16 rfl rfl HX.out) hS0 ?_;simp only [zz];refine aU 10 (.int .u8 (d2.toNat : Int)) rfl (fun W hW => (by rw [← HD2.out]; exact sidx_dig rfl rfl rfl (by omega))) hS0 ?_;simp only [zz]
     obtain ⟨A6, c6, w7, hap, ho7, ht7⟩ := orw_add2 (ty := 22) (W1 := w9) (HOR.out.still HD.out) HTd.out d1 d2 (by rw [HTL.out]; have := HLT.out; omega)
     rw [HTL.out] at hap ho7
     rw [← HNX.out] at ho7
     have HAP := zH hap
     have HO7 := zH ho7
     have HT7 := zH ht7
     clear hap ho7 ht7
     refine alw_step (i := 11) (by kernel_rfl) rfl rfl ?_
     intro K1 HK1
     refine wp_run (v := .slice (some ⟨wd.heap.size, 0, none⟩) 2 2) (w' := wd.alloc (.cells (byteCells [d1, d2]) 5)) (bx_slice2 rfl rfl rfl (build_b2 d1 d2 wd)) ?_
     refine HK1.out _ _ ⟨hS0.turn ((Turn.refl nowhere wd).alloc _) fun e => e, ?_⟩
     clear HK1
     try simp only [zz]
     refine alw_step (i := 12) (by kernel_rfl) rfl rfl ?_
     intro K1 HK1
     refine wp_run (v := .slice A6 (2 * i + 2) c6) (w' := w7) (exec_append rfl rfl rfl HAP.out) ?_
     have hS2 : (fun W => Blk W g 76 (byteCells M)) w7 := HBg9.out.turn HT7.out fun e => e
     refine HK1.out _ _ ⟨hS2, ?_⟩
     clear HK1
     try simp only [zz]
     refine aU 13 (.slice A6 (2 * i + 2) c6) rfl (fun W hW => gx_assign rfl rfl) hS2 ?_;simp only [zz]
     refine alw_done rfl ?_
     refine NoPanic.normal ?_
     try simp only [zz]
     go_upto_region 8 with fail
     refine wp_region_lit ?_
     refine nM (.int .i64 (i : Int)) ?_;simp only [zz];refine nR (.int .i64 ((i + 1 : Nat) : Int)) (ix_add rfl rfl rfl (by omega) (by omega)) ?_;simp only [zz];refine nA (.int .i64 ((i + 1 : Nat) : Int)) ?_;simp only [zz]
     go_wp2_with fail
     go_roundg (8 - (i + 1))
     case measure => have := HGK.out; have := HLT.out; omega
     case rel => exact ⟨i + 1, rfl, by have := HLT.out; omega, HO7.out, HT7.out⟩
   ·as_aux_lemma =>
     obtain rfl : i = 8 := by omega
     clear hlt HGK
     obtain ⟨A8, c8, he8, hb8, hc8, hz8⟩ := orw_bs HOR.out
     rw [HTL.out] at he8 hb8
     injection he8 with e1 e2 e3
     subst e1
     have HB8 := zH hb8
     have HTZ := zH (HTw.out.trans HTR.out fun _ _ e => e)
     clear hb8 hc8 hz8 e2 e3
     rw [← HTX.out] at HB8
     go_upto_region 7 with fail
     refine wp_region_lit ?_
     refine nM (.int .i64 ((8 : Nat) : Int)) ?_;simp only [zz];refine nR (.bool false) (ix_lss rfl rfl rfl (by decide)) ?_;simp only [zz]
     go_upto_region 10 with fail
     refine wp_region_lit ?_
     refine nM (.slice A5 (2 * 8) c5) ?_;simp only [zz];refine nR (strV (Sh.macT key bz)) (exec_strBs rfl rfl HB8.out) ?_;simp only [zz];refine nA (strV (Sh.macT key bz)) ?_;simp only [zz];refine nA (.int .i64 0) ?_;simp only [zz]
     go_wp2_with fail
     go_ret2
     rw [HRE.out]
     exact ⟨rfl, HTZ.out⟩
theorem rSeal_walk {w : World} {code key : B8} {d m1 m2 ty : Int} {Ak A : Option Addr} {nk ck n c : Nat} {fs : List Fld}  (hkey : Key w Ak nk ck key) (hf : Mg w A n c fs) :
 Calls Tryz.prog 9 #[.agg (memC code d Ak nk ck m1 m2), msgV ty A n c] w (SealP (macR d ty key fs) ty fs w) := by
 have HKEY := zH hkey
 have HF := zH hf
 clear hkey hf
 go_enter Tryz.func9, Tryz.ntmps9
 go_upto_region 0 with fail
 refine wp_region_lit ?_
 refine wR (v := .pointer (some ⟨(w).heap.size, 0, none⟩)) (w' := (w).alloc (.cells (memC code d Ak nk ck m1 m2) 26)) wn (gx_box rfl rfl (box_mem _ _ _ _ _ _ _ _)) ?_
 simp only [zz]
 refine wR (v := .pointer (some ⟨((w).alloc (.cells (memC code d Ak nk ck m1 m2) 26)).heap.size, 0, none⟩)) (w' := ((w).alloc (.cells (memC code d Ak nk ck m1 m2) 26)).alloc (.cells #[.int .i64 ty, .slice A n c] 29)) wn (gx_box rfl rfl (box_mg _ _ _ _ _)) ?_
 simp only [zz]
 refine wR (v := .pointer (some ⟨(((w).alloc (.cells (memC code d Ak nk ck m1 m2) 26)).alloc (.cells #[.int .i64 ty, .slice A n c] 29)).heap.size, 0, none⟩)) (w' := (((w).alloc (.cells (memC code d Ak nk ck m1 m2) 26)).alloc (.cells #[.int .i64 ty, .slice A n c] 29)).alloc (.cells #[.int .i64 0, .slice none 0 0] 29)) wn (gx_alloc rfl (zero_mg _)) ?_
 simp only [zz];refine nA (.int .i64 0) ?_;simp only [zz]
 have hb_p := ((Blk.new (w) 26 (memC code d Ak nk ck m1 m2)).alloc (.cells #[.int .i64 ty, .slice A n c] 29)).alloc (.cells #[.int .i64 0, .slice none 0 0] 29)
 have hb_b := (Blk.new ((w).alloc (.cells (memC code d Ak nk ck m1 m2) 26)) 29 #[.int .i64 ty, .slice A n c]).alloc (.cells #[.int .i64 0, .slice none 0 0] 29)
 have hb_r := Blk.new (((w).alloc (.cells (memC code d Ak nk ck m1 m2) 26)).alloc (.cells #[.int .i64 ty, .slice A n c] 29)) 29 #[.int .i64 0, .slice none 0 0]
 have ht_ := (((Turn.refl nowhere (w)).alloc (.cells (memC code d Ak nk ck m1 m2) 26)).alloc (.cells #[.int .i64 ty, .slice A n c] 29)).alloc (.cells #[.int .i64 0, .slice none 0 0] 29)
 obtain ⟨n0_, hn0_⟩ : ∃ n, n = (w).heap.size := ⟨_, rfl⟩
 have hz_p : (w).heap.size = n0_ + 0 := by rw [hn0_]; simp
 have hz_b : ((w).alloc (.cells (memC code d Ak nk ck m1 m2) 26)).heap.size = n0_ + 1 := by rw [hn0_]; simp
 have hz_r : (((w).alloc (.cells (memC code d Ak nk ck m1 m2) 26)).alloc (.cells #[.int .i64 ty, .slice A n c] 29)).heap.size = n0_ + 2 := by rw [hn0_]; simp
 obtain ⟨r, hg_⟩ : ∃ g, g = (((w).alloc (.cells (memC code d Ak nk ck m1 m2) 26)).alloc (.cells #[.int .i64 ty, .slice A n c] 29)).heap.size := ⟨_, rfl⟩
 rw [← hg_] at hb_r hz_r ⊢
 clear hg_
 obtain ⟨b, hg_⟩ : ∃ g, g = ((w).alloc (.cells (memC code d Ak nk ck m1 m2) 26)).heap.size := ⟨_, rfl⟩
 rw [← hg_] at hb_b hz_b ⊢
 clear hg_
 obtain ⟨p, hg_⟩ : ∃ g, g = (w).heap.size := ⟨_, rfl⟩
 rw [← hg_] at hb_p hz_p ⊢
 clear hg_
 generalize (((w).alloc (.cells (memC code d Ak nk ck m1 m2) 26)).alloc (.cells #[.int .i64 ty, .slice A n c] 29)).alloc (.cells #[.int .i64 0, .slice none 0 0] 29) = w1 at *
 have HT1 := zH ht_
 clear ht_
 have HBp := zH hb_p
 have HLp := zH (show (w).heap.size ≤ p from by omega)
 clear hb_p
 have HBb := zH hb_b
 have HLb := zH (show (w).heap.size ≤ b from by omega)
 clear hb_b
 have HBr := zH hb_r
 have HLr := zH (show (w).heap.size ≤ r from by omega)
 clear hb_r
 have HNpb := zH (show p ≠ b from by omega)
 have HNpr := zH (show p ≠ r from by omega)
 have HNbr := zH (show b ≠ r from by omega)
 clear hn0_ hz_p hz_b hz_r
 clear n0_
 go_upto_region 1 with fail
 refine wp_region_lit ?_
 refine nR (.agg (memC code d Ak nk ck m1 m2)) (gx_loads_g rfl rfl (blk_range_g HBp.out) Tryz.underlying26 rfl (by rw [size_mem]; rfl)) ?_;simp only [zz];refine nR (msgV ty A n c) (gx_loads_g rfl rfl (blk_range_g HBb.out) Tryz.underlying29 rfl (by rw [size_mg]; rfl)) ?_;simp only [zz]
 refine wpList_op_g rfl fun K9 HK9 => ?_
 go_wp2_with fail
 refine (rsmac_walk (HKEY.out.still HT1.out) (HF.out.still HT1.out)).mono ?_
 rintro e w2 ⟨rfl, ht⟩
 refine HK9.out _ _ ?_
 clear HK9
 try simp only [zz]
 have HT2 := zH (HT1.out.trans ht fun _ _ e => e)
 have HBb2 := zH (HBb.out.turn ht fun e => e)
 have HBr2 := zH (HBr.out.turn ht fun e => e)
 clear ht HBb HBr HBp HT1
 have HNZ := zH (fun k h => macR_nz (d := d) (ty := ty) (k := k) (key := key) (fs := fs) h)
 obtain ⟨R, hR⟩ : ∃ R, macR d ty key fs = R := ⟨_, rfl⟩
 rw [hR] at HNZ ⊢
 have HRQ := zH hR
 clear hR
 refine nM (.tuple #[strV (txR R), .int .i64 (codeE R)]) ?_;simp only [zz];refine nE (strV (txR R)) ?_;simp only [zz];refine nE (.int .i64 (codeE R)) ?_;simp only [zz];refine nA (strV (txR R)) ?_;simp only [zz];refine nA (.int .i64 (codeE R)) ?_;simp only [zz]
 rcases hr : R with k | t
 ·have HR := zH hr
  have HN0 := zH (HNZ.out k hr)
  subst hr
  clear HNZ
  go_upto_region 2 with fail
  refine wp_region_lit ?_
  refine nM (.int .i64 k) ?_;simp only [zz];refine nR (.bool true) (ix_neq rfl rfl rfl (decide_eq_true HN0.out)) ?_;simp only [zz]
  go_upto_region 3 with fail
  refine wp_region_lit ?_
  refine nR (.agg #[.int .i64 0, .slice none 0 0]) (gx_build0 rfl (build_mg0 _)) ?_;simp only [zz];refine nM (.int .i64 k) ?_;simp only [zz]
  refine wpList_store_row wn 29 (.tmp 4) (.tmp 16) rfl (#[.int .i64 0, .slice none 0 0]) HBr2.out rfl rfl (rfl) (by rw [size_mg] <;> rfl) (mg_one _ _ _ _) ?_
  intro w3 hb_ ht_
  have HBZ := zH hb_
  have HT3 := zH ht_
  clear hb_ ht_
  simp only [zz];refine nA (.int .i64 k) ?_;simp only [zz]
  have HTZ := zH (HT2.out.trans HT3.out fun k' hk e => by have := HLr.out; have e : k' = r := e; omega)
  go_wp2_with fail
  refine bodyPost_ret (v := .tuple #[.agg #[.int .i64 0, .slice none 0 0], .int .i64 k]) (ret_cell2_g rfl _ _ r _ _ _ rfl rfl HBZ.out Tryz.underlying29 rfl (by rw [size_mg] <;> rfl)) rfl ?_
  exact SealP.bad HRQ.out HTZ.out
 ·subst hr
  clear HNZ
  go_upto_region 2 with fail
  refine wp_region_lit ?_
  refine nM (.int .i64 0) ?_;simp only [zz];refine nR (.bool false) (ix_neq rfl rfl rfl (by decide)) ?_;simp only [zz]
  go_upto_region 4 with fail
  refine wp_region_lit ?_
  refine nR (msgV ty A n c) (gx_loads_g rfl rfl (blk_range_g HBb2.out) Tryz.underlying29 rfl (by rw [size_mg]; rfl)) ?_;simp only [zz];refine nM (strV t) ?_;simp only [zz]
  refine wpList_op_g rfl fun K9 HK9 => ?_
  go_wp2_with fail
  refine (rSet_walk (ty := ty) (no := 64) (t := t) (c := c) (HF.out.fl.still HT2.out) HF.out.lim).mono ?_
  rintro e w3 ⟨A5, n5, c5, rfl, hl5, ho5, ht5⟩
  refine HK9.out _ _ ?_
  clear HK9
  try simp only [zz]
  have HO5 := zH (ho5.less HT2.out.size)
  have HL5 := zH hl5
  have HT3 := zH (HT2.out.trans ht5 fun _ _ e => e)
  have HBr3 := zH (HBr2.out.turn ht5 fun e => e)
  clear ho5 hl5 ht5
  refine wpList_store_row wn 29 (.tmp 4) (.tmp 20) rfl (#[.int .i64 ty, .slice A5 n5 c5]) HBr3.out rfl rfl (rfl) (by rw [size_mg] <;> rfl) (mg_one _ _ _ _) ?_
  intro w4 hb_ ht_
  have HBZ := zH hb_
  have HT4 := zH ht_
  clear hb_ ht_
  simp only [zz];refine nA (.int .i64 0) ?_;simp only [zz]
  have HTZ := zH (HT3.out.trans HT4.out fun k' hk e => by have := HLr.out; have e : k' = r := e; omega)
  have HOZ := zH (HO5.out.turn HT4.out fun k' hk e => ((frow_orw HO5.out).ne (g := r) HBr3.out (by decide) k' hk) e)
  go_wp2_with fail
  refine bodyPost_ret (v := .tuple #[.agg #[.int .i64 ty, .slice A5 n5 c5], .int .i64 0]) (ret_cell2_g rfl _ _ r _ _ _ rfl rfl HBZ.out Tryz.underlying29 rfl (by rw [size_mg] <;> rfl)) rfl ?_
  exact SealP.good HRQ.out HL5.out HOZ.out HTZ.out
theorem rSCheck_walk {w : World} {code key : B8} {d m1 m2 ty : Int} {Ak A : Option Addr} {nk ck n c : Nat} {fs : List Fld}  (hkey : Key w Ak nk ck key) (hf : Mg w A n c fs) :
 Calls Tryz.prog 12 #[.agg (memC code d Ak nk ck m1 m2), msgV ty A n c] w fun e w' => e = .returned (.int .i64 (chkR (macR d ty key fs) fs)) ∧ Turn nowhere w w' := by
 have HKEY := zH hkey
 have HF := zH hf
 clear hkey hf
 go_enter Tryz.func12, Tryz.ntmps12
 go_upto_region 0 with fail
 refine wp_region_lit ?_
 refine wR (v := .pointer (some ⟨(w).heap.size, 0, none⟩)) (w' := (w).alloc (.cells (memC code d Ak nk ck m1 m2) 26)) wn (gx_box rfl rfl (box_mem _ _ _ _ _ _ _ _)) ?_
 simp only [zz]
 refine wR (v := .pointer (some ⟨((w).alloc (.cells (memC code d Ak nk ck m1 m2) 26)).heap.size, 0, none⟩)) (w' := ((w).alloc (.cells (memC code d Ak nk ck m1 m2) 26)).alloc (.cells #[.int .i64 ty, .slice A n c] 29)) wn (gx_box rfl rfl (box_mg _ _ _ _ _)) ?_
 simp only [zz];refine nA (.int .i64 0) ?_;simp only [zz]
 have hb_p := (Blk.new (w) 26 (memC code d Ak nk ck m1 m2)).alloc (.cells #[.int .i64 ty, .slice A n c] 29)
 have hb_b := Blk.new ((w).alloc (.cells (memC code d Ak nk ck m1 m2) 26)) 29 #[.int .i64 ty, .slice A n c]
 have ht_ := ((Turn.refl nowhere (w)).alloc (.cells (memC code d Ak nk ck m1 m2) 26)).alloc (.cells #[.int .i64 ty, .slice A n c] 29)
 obtain ⟨n0_, hn0_⟩ : ∃ n, n = (w).heap.size := ⟨_, rfl⟩
 have hz_p : (w).heap.size = n0_ + 0 := by rw [hn0_]; simp
 have hz_b : ((w).alloc (.cells (memC code d Ak nk ck m1 m2) 26)).heap.size = n0_ + 1 := by rw [hn0_]; simp
 obtain ⟨b, hg_⟩ : ∃ g, g = ((w).alloc (.cells (memC code d Ak nk ck m1 m2) 26)).heap.size := ⟨_, rfl⟩
 rw [← hg_] at hb_b hz_b ⊢
 clear hg_
 obtain ⟨p, hg_⟩ : ∃ g, g = (w).heap.size := ⟨_, rfl⟩
 rw [← hg_] at hb_p hz_p ⊢
 clear hg_
 generalize ((w).alloc (.cells (memC code d Ak nk ck m1 m2) 26)).alloc (.cells #[.int .i64 ty, .slice A n c] 29) = w1 at *
 have HT1 := zH ht_
 clear ht_
 have HBp := zH hb_p
 have HLp := zH (show (w).heap.size ≤ p from by omega)
 clear hb_p
 have HBb := zH hb_b
 have HLb := zH (show (w).heap.size ≤ b from by omega)
 clear hb_b
 have HNpb := zH (show p ≠ b from by omega)
 clear hn0_ hz_p hz_b
 clear n0_
 go_upto_region 1 with fail
 refine wp_region_lit ?_
 refine nR (.agg (memC code d Ak nk ck m1 m2)) (gx_loads_g rfl rfl (blk_range_g HBp.out) Tryz.underlying26 rfl (by rw [size_mem]; rfl)) ?_;simp only [zz];refine nR (msgV ty A n c) (gx_loads_g rfl rfl (blk_range_g HBb.out) Tryz.underlying29 rfl (by rw [size_mg]; rfl)) ?_;simp only [zz]
 refine wpList_op_g rfl fun K9 HK9 => ?_
 go_wp2_with fail
 refine (rsmac_walk (HKEY.out.still HT1.out) (HF.out.still HT1.out)).mono ?_
 rintro e w2 ⟨rfl, ht⟩
 refine HK9.out _ _ ?_
 clear HK9
 try simp only [zz]
 have HT2 := zH (HT1.out.trans ht fun _ _ e => e)
 have HBb2 := zH (HBb.out.turn ht fun e => e)
 clear ht HBb HBp HT1
 have HNZ := zH (fun k h => macR_nz (d := d) (ty := ty) (k := k) (key := key) (fs := fs) h)
 obtain ⟨R, hR⟩ : ∃ R, macR d ty key fs = R := ⟨_, rfl⟩
 rw [hR] at HNZ ⊢
 have HRQ := zH hR
 clear hR
 refine nM (.tuple #[strV (txR R), .int .i64 (codeE R)]) ?_;simp only [zz];refine nE (strV (txR R)) ?_;simp only [zz];refine nE (.int .i64 (codeE R)) ?_;simp only [zz];refine nA (strV (txR R)) ?_;simp only [zz];refine nA (.int .i64 (codeE R)) ?_;simp only [zz]
 rcases hr : R with k | t
 ·have HN0 := zH (HNZ.out k hr)
  subst hr
  clear HNZ
  go_upto_region 2 with fail
  refine wp_region_lit ?_
  refine nM (.int .i64 k) ?_;simp only [zz];refine nR (.bool true) (ix_neq rfl rfl rfl (decide_eq_true HN0.out)) ?_;simp only [zz]
  go_upto_region 3 with fail
  refine wp_region_lit ?_
  refine nM (.int .i64 k) ?_;simp only [zz];refine nA (.int .i64 k) ?_;simp only [zz]
  go_wp2_with fail
  go_ret
  rw [chk_bad HRQ.out]
  exact ⟨rfl, HT2.out⟩
 ·subst hr
  clear HNZ
  go_upto_region 2 with fail
  refine wp_region_lit ?_
  refine nM (.int .i64 0) ?_;simp only [zz];refine nR (.bool false) (ix_neq rfl rfl rfl (by decide)) ?_;simp only [zz]
  go_upto_region 4 with fail
  refine wp_region_lit ?_
  refine nR (msgV ty A n c) (gx_loads_g rfl rfl (blk_range_g HBb2.out) Tryz.underlying29 rfl (by rw [size_mg]; rfl)) ?_;simp only [zz]
  refine wpList_op_g rfl fun K9 HK9 => ?_
  go_wp2_with fail
  refine (rGet_walk (ty := ty) (no := 64) (c := c) (HF.out.fl.still HT2.out)).mono ?_
  rintro e w3 ⟨rfl, ht⟩
  refine HK9.out _ _ ?_
  clear HK9
  try simp only [zz]
  have HT3 := zH (HT2.out.trans ht fun _ _ e => e)
  clear ht
  rcases hg : getM 64 fs with _ | t2
  ·have HC := zH (chk_no HRQ.out (show ¬ getM 64 fs = some t from by rw [hg]; exact fun h => by cases h))
   clear hg
   rw [show gotV none = .tuple #[strV [], .bool false] from rfl]
   refine nM (.tuple #[strV [], .bool false]) ?_;simp only [zz];refine nE (strV []) ?_;simp only [zz];refine nE (.bool false) ?_;simp only [zz];refine nA (strV []) ?_;simp only [zz];refine nA (.bool false) ?_;simp only [zz]
   go_upto_region 5 with fail
   refine wp_region_lit ?_
   refine nM (.bool false) ?_;simp only [zz];refine nR (.bool true) (ix_not (b := false) rfl rfl) ?_;simp only [zz];refine nM (.bool true) ?_;simp only [zz]
   refine wpList_skip (by go_simp) ?_
   simp only [zz]
   refine wpList_skip (by go_simp) ?_
   simp only [zz]
   refine wpList_skip (by go_simp) ?_
   simp only [zz];refine nR (.bool true) (ix_pickT rfl rfl rfl) ?_;simp only [zz]
   go_upto_region 6 with fail
   refine wp_region_lit ?_
   refine nA (.int .i64 131) ?_;simp only [zz]
   go_wp2_with fail
   go_ret
   rw [HC.out]
   exact ⟨rfl, HT3.out⟩
  ·rw [show gotV (some t2) = .tuple #[strV t2, .bool true] from rfl]
   by_cases hq : t2 = t
   ·have HC := zH (chk_ok HRQ.out (show getM 64 fs = some t from by rw [hg, hq]))
    have HQ := zH (show decide (t2 ≠ t) = false from by simp [hq])
    clear hg hq
    refine nM (.tuple #[strV t2, .bool true]) ?_;simp only [zz];refine nE (strV t2) ?_;simp only [zz];refine nE (.bool true) ?_;simp only [zz];refine nA (strV t2) ?_;simp only [zz];refine nA (.bool true) ?_;simp only [zz]
    go_upto_region 5 with fail
    refine wp_region_lit ?_
    refine nM (.bool true) ?_;simp only [zz];refine nR (.bool false) (ix_not (b := true) rfl rfl) ?_;simp only [zz];refine nM (.bool false) ?_;simp only [zz];refine wM (strV t2) ?_;simp only [zz];refine wM (strV t) ?_;simp only [zz];refine wS (.bool false) (sx_neqs rfl rfl rfl HQ.out) ?_;simp only [zz];refine nR (.bool false) (ix_pickF rfl rfl rfl) ?_;simp only [zz]
    go_upto_region 7 with fail
    refine wp_region_lit ?_
    refine nA (.int .i64 0) ?_;simp only [zz]
    go_wp2_with fail
    go_ret
    rw [HC.out]
    exact ⟨rfl, HT3.out⟩
   ·have HC := zH (chk_no HRQ.out (show ¬ getM 64 fs = some t from by rw [hg]; exact fun h => hq (Option.some.inj h)))
    have HQ := zH (show decide (t2 ≠ t) = true from by simp [hq])
    clear hg hq
    refine nM (.tuple #[strV t2, .bool true]) ?_;simp only [zz];refine nE (strV t2) ?_;simp only [zz];refine nE (.bool true) ?_;simp only [zz];refine nA (strV t2) ?_;simp only [zz];refine nA (.bool true) ?_;simp only [zz]
    go_upto_region 5 with fail
    refine wp_region_lit ?_
    refine nM (.bool true) ?_;simp only [zz];refine nR (.bool false) (ix_not (b := true) rfl rfl) ?_;simp only [zz];refine nM (.bool false) ?_;simp only [zz];refine wM (strV t2) ?_;simp only [zz];refine wM (strV t) ?_;simp only [zz];refine wS (.bool true) (sx_neqs rfl rfl rfl HQ.out) ?_;simp only [zz];refine nR (.bool true) (ix_pickF rfl rfl rfl) ?_;simp only [zz]
    go_upto_region 6 with fail
    refine wp_region_lit ?_
    refine nA (.int .i64 131) ?_;simp only [zz]
    go_wp2_with fail
    go_ret
    rw [HC.out]
    exact ⟨rfl, HT3.out⟩
end Go.Proofs.YtkagijifkpoplaaGreatDoor
