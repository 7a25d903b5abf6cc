/-
  Routes: what is shown at the head of the laws: the walk. No conditions.
-/
import Derived.Test.YtihmpbilbnajpaaRtJ
namespace Go.Proofs.Ytihmpbilbnajpaa
open Go.RowKit
open Ix
open Rt (R)
set_option linter.unusedVariables false
set_option linter.unusedSimpArgs false
theorem ptr_nnR {a : Act} {o : Oper} {W : World} {x y : Operand} {t u : TypeId} {p : Addr} (ho : o.op = .binOp .eql t x y u) (hx : a.eval x = .pointer (some p)) (hy : a.eval y = .pointer none) (ht : t = 26) : (execOp a.eval o).run Try.prog W = .ok (.value (.bool false)) W := by
  subst ht
  unfold execOp
  simp only [ho, hx, hy]
  go_simp
theorem ptr_zzR {a : Act} {o : Oper} {W : World} {x y : Operand} {t u : TypeId} (ho : o.op = .binOp .eql t x y u) (hx : a.eval x = .pointer none) (hy : a.eval y = .pointer none) (ht : t = 26) : (execOp a.eval o).run Try.prog W = .ok (.value (.bool true)) W := by
  subst ht
  unfold execOp
  simp only [ho, hx, hy]
  go_simp
theorem ptr_nnF {a : Act} {o : Oper} {W : World} {x y : Operand} {t u : TypeId} {p : Addr} (ho : o.op = .binOp .eql t x y u) (hx : a.eval x = .pointer (some p)) (hy : a.eval y = .pointer none) (ht : t = 31) : (execOp a.eval o).run Try.prog W = .ok (.value (.bool false)) W := by
  subst ht
  unfold execOp
  simp only [ho, hx, hy]
  go_simp
theorem ptr_zzF {a : Act} {o : Oper} {W : World} {x y : Operand} {t u : TypeId} (ho : o.op = .binOp .eql t x y u) (hx : a.eval x = .pointer none) (hy : a.eval y = .pointer none) (ht : t = 31) : (execOp a.eval o).run Try.prog W = .ok (.value (.bool true)) W := by
  subst ht
  unfold execOp
  simp only [ho, hx, hy]
  go_simp
set_option maxRecDepth 20000 in
set_option maxHeartbeats 4000000 in
theorem shown_walk {At : World → Nat → (Nat → Prop) → Int → List R → Prop} (H : Api At) {w : World} : Calls Try.prog 7 #[] w fun e w' => e = .returned (.bool true) ∧ Turn nowhere w w' := by
  have HA := Lib.hid H
  clear H
  go_enter Try.func7, Try.ntmps7
  go_upto_region 0 with fail
  refine wp_region_lit ?_
  refine wpList_run (v := .bool false) (wanted_none rfl) (gx_assign rfl rfl) ?_
  simp only [Act.put, List.setIfInBounds_toArray, List.set_cons_zero, List.set_cons_succ]
  have hr1 := build_one elmI [.int .i64 1] rfl (by decide) (.int .i64 1) rfl w
  have hb1 := Blk.new w 3 #[.int .i64 1]
  have ht1 := (Turn.refl nowhere w).alloc (.cells #[.int .i64 1] 3)
  obtain ⟨g1, hg1⟩ : ∃ g, g = w.heap.size := ⟨_, rfl⟩
  rw [← hg1] at hr1 hb1
  obtain ⟨w1, hw1⟩ : ∃ v, v = w.alloc (.cells #[.int .i64 1] 3) := ⟨_, rfl⟩
  rw [← hw1] at hr1 hb1 ht1
  have HR1 := Lib.hid hr1
  have HB1 := Lib.hid hb1
  have HT1 := Lib.hid ht1
  clear hr1 hb1 ht1 hg1 hw1
  have hr2 := build_two 2 1 w1
  have hb2 := Blk.new w1 3 #[.int .i64 2, .int .i64 1]
  have ht2 := (Turn.refl nowhere w1).alloc (.cells #[.int .i64 2, .int .i64 1] 3)
  obtain ⟨g2, hg2⟩ : ∃ g, g = w1.heap.size := ⟨_, rfl⟩
  rw [← hg2] at hr2 hb2
  obtain ⟨w2, hw2⟩ : ∃ v, v = w1.alloc (.cells #[.int .i64 2, .int .i64 1] 3) := ⟨_, rfl⟩
  rw [← hw2] at hr2 hb2 ht2
  have HR2 := Lib.hid hr2
  have HB2 := Lib.hid hb2
  have HT2 := Lib.hid ht2
  clear hr2 hb2 ht2 hg2 hw2
  have hr3 := build_twoR [52] [52, 53] (some ⟨g1, 0, none⟩) 1 1 (some ⟨g2, 0, none⟩) 2 2 w2
  have hb3 := Blk.new w2 38 #[strV [52], .slice (some ⟨g1, 0, none⟩) 1 1, strV [52, 53], .slice (some ⟨g2, 0, none⟩) 2 2]
  have ht3 := (Turn.refl nowhere w2).alloc (.cells #[strV [52], .slice (some ⟨g1, 0, none⟩) 1 1, strV [52, 53], .slice (some ⟨g2, 0, none⟩) 2 2] 38)
  obtain ⟨g3, hg3⟩ : ∃ g, g = w2.heap.size := ⟨_, rfl⟩
  rw [← hg3] at hr3 hb3
  obtain ⟨w3, hw3⟩ : ∃ v, v = w2.alloc (.cells #[strV [52], .slice (some ⟨g1, 0, none⟩) 1 1, strV [52, 53], .slice (some ⟨g2, 0, none⟩) 2 2] 38) := ⟨_, rfl⟩
  rw [← hw3] at hr3 hb3 ht3
  have HR3 := Lib.hid hr3
  have HB3 := Lib.hid hb3
  have HT3 := Lib.hid ht3
  clear hr3 hb3 ht3 hg3 hw3
  have hok1 : (RtV.mk [52] (some ⟨g1, 0, none⟩) 1 1 [1]).ok w3 := rt_ok ((HB1.out.turn HT2.out fun e => e).turn HT3.out fun e => e) ⟨by decide, by decide⟩ (by decide)
  have hok2 : (RtV.mk [52, 53] (some ⟨g2, 0, none⟩) 2 2 [2, 1]).ok w3 := rt_ok2 (HB2.out.turn HT3.out fun e => e) ⟨by decide, by decide⟩ ⟨by decide, by decide⟩ (by decide)
  have hrts := rts_two (a := RtV.mk [52] (some ⟨g1, 0, none⟩) 1 1 [1]) (b := RtV.mk [52, 53] (some ⟨g2, 0, none⟩) 2 2 [2, 1]) HB3.out hok1 hok2
  have HT03 := Lib.hid ((HT1.out.trans HT2.out fun _ _ e => e).trans HT3.out fun _ _ e => e)
  have HNW := Lib.hid (show Calls Try.prog 9 #[.slice (some ⟨g3, 0, none⟩) 2 2, .int .i64 3] w3 fun e w' => ∃ t F, e = .returned (.tuple #[.pointer (some ⟨t, 0, none⟩), .int .i64 0]) ∧ At w' t F 3 [([52], [1]), ([52, 53], [2, 1])] ∧ (∀ b, F b → w3.heap.size ≤ b) ∧ Turn nowhere w3 w' from
    (HA.out.new hrts (by omega)).mono fun e w' h => by
      have e1 : List.map RtV.plain [RtV.mk [52] (some ⟨g1, 0, none⟩) 1 1 [1], RtV.mk [52, 53] (some ⟨g2, 0, none⟩) 2 2 [2, 1]] = [([52], [1]), ([52, 53], [2, 1])] := rfl
      rw [e1, sh_new.1, sh_new.2] at h
      rcases h with ⟨h, _⟩ | ⟨_, h, _⟩ | ⟨_, _, h⟩
      · exact absurd ⟨by omega, by omega⟩ h
      · exact absurd rfl h
      · exact h)
  clear hok1 hok2 hrts
  go_upto_region 1 with fail
  refine wp_region_lit ?_
  refine wpList_run (v := .slice (some ⟨g1, 0, none⟩) 1 1) (w' := w1) (wanted_none rfl) (exec_buildSlice1 rfl rfl HR1.out) ?_
  simp only [Act.put, List.setIfInBounds_toArray, List.set_cons_zero, List.set_cons_succ]
  refine wpList_run (v := .agg #[strV [52], .slice (some ⟨g1, 0, none⟩) 1 1]) (wanted_none rfl) (gx_build2 rfl rfl rfl (buildRt [52] (some ⟨g1, 0, none⟩) 1 1 _)) ?_
  simp only [Act.put, List.setIfInBounds_toArray, List.set_cons_zero, List.set_cons_succ]
  refine wpList_run (v := .slice (some ⟨g2, 0, none⟩) 2 2) (w' := w2) (wanted_none rfl) (bx_slice2 rfl rfl rfl HR2.out) ?_
  simp only [Act.put, List.setIfInBounds_toArray, List.set_cons_zero, List.set_cons_succ]
  refine wpList_run (v := .agg #[strV [52, 53], .slice (some ⟨g2, 0, none⟩) 2 2]) (wanted_none rfl) (gx_build2 rfl rfl rfl (buildRt [52, 53] (some ⟨g2, 0, none⟩) 2 2 _)) ?_
  simp only [Act.put, List.setIfInBounds_toArray, List.set_cons_zero, List.set_cons_succ]
  refine wpList_run (v := .slice (some ⟨g3, 0, none⟩) 2 2) (w' := w3) (wanted_none rfl) (bx_slice2 rfl rfl rfl HR3.out) ?_
  simp only [Act.put, List.setIfInBounds_toArray, List.set_cons_zero, List.set_cons_succ]
  refine wpList_op rfl fun K9 HK9 => ?_
  go_wp2_with fail
  refine (HNW.out).mono ?_
  rintro e w4 ⟨t, F, rfl, hat, hF, ht⟩
  refine HK9.out _ _ ?_
  clear HK9
  try simp only [Act.put, List.setIfInBounds_toArray, List.set_cons_zero, List.set_cons_succ]
  have HAT4 := Lib.hid hat
  have HF := Lib.hid (show ∀ b, F b → w.heap.size ≤ b from fun b hb => Nat.le_trans HT03.out.size (hF b hb))
  have HT4 := Lib.hid (HT03.out.trans ht fun _ _ e => e)
  clear hat hF ht HNW
  refine wpList_run (v := .tuple #[.pointer (some ⟨t, 0, none⟩), .int .i64 0]) (wanted_none rfl) (exec_move rfl rfl) ?_
  simp only [Act.put, List.setIfInBounds_toArray, List.set_cons_zero, List.set_cons_succ]
  refine wpList_run (v := .pointer (some ⟨t, 0, none⟩)) (wanted_none rfl) (ix_extract rfl rfl rfl) ?_
  simp only [Act.put, List.setIfInBounds_toArray, List.set_cons_zero, List.set_cons_succ]
  refine wpList_run (v := .int .i64 0) (wanted_none rfl) (ix_extract rfl rfl rfl) ?_
  simp only [Act.put, List.setIfInBounds_toArray, List.set_cons_zero, List.set_cons_succ]
  refine wpList_run (v := .pointer (some ⟨t, 0, none⟩)) (wanted_none rfl) (gx_assign rfl rfl) ?_
  simp only [Act.put, List.setIfInBounds_toArray, List.set_cons_zero, List.set_cons_succ]
  refine wpList_run (v := .int .i64 0) (wanted_none rfl) (gx_assign rfl rfl) ?_
  simp only [Act.put, List.setIfInBounds_toArray, List.set_cons_zero, List.set_cons_succ]
  go_upto_region 2 with fail
  refine wp_region_lit ?_
  refine wpList_run (v := .pointer (some ⟨t, 0, none⟩)) (wanted_none rfl) (exec_move rfl rfl) ?_
  simp only [Act.put, List.setIfInBounds_toArray, List.set_cons_zero, List.set_cons_succ]
  refine wpList_run (v := .bool false) (wanted_none rfl) (ptr_nnR rfl rfl rfl rfl) ?_
  simp only [Act.put, List.setIfInBounds_toArray, List.set_cons_zero, List.set_cons_succ]
  refine wpList_run (v := .bool false) (wanted_none rfl) (exec_move rfl rfl) ?_
  simp only [Act.put, List.setIfInBounds_toArray, List.set_cons_zero, List.set_cons_succ]
  refine wpList_run (v := .int .i64 0) rfl (exec_move rfl rfl) ?_
  simp only [Act.put, List.setIfInBounds_toArray, List.set_cons_zero, List.set_cons_succ]
  refine wpList_run (v := .bool false) rfl (ix_neq rfl rfl rfl (by decide)) ?_
  simp only [Act.put, List.setIfInBounds_toArray, List.set_cons_zero, List.set_cons_succ]
  refine wpList_run (v := .bool false) (wanted_none rfl) (ix_pickF rfl rfl rfl) ?_
  simp only [Act.put, List.setIfInBounds_toArray, List.set_cons_zero, List.set_cons_succ]
  have HFD5 := Lib.hid (HA.out.f_some (p := [52, 53, 49, 50]) HAT4.out (by decide) sh_a (by decide))
  go_upto_region 4 with fail
  refine wp_region_lit ?_
  refine wpList_run (v := .pointer (some ⟨t, 0, none⟩)) (wanted_none rfl) (exec_move rfl rfl) ?_
  simp only [Act.put, List.setIfInBounds_toArray, List.set_cons_zero, List.set_cons_succ]
  refine wpList_op rfl fun K9 HK9 => ?_
  go_wp2_with fail
  refine (HFD5.out).mono ?_
  rintro e w5 ⟨b5, c5, rfl, ho, ht⟩
  refine HK9.out _ _ ?_
  clear HK9
  try simp only [Act.put, List.setIfInBounds_toArray, List.set_cons_zero, List.set_cons_succ]
  have HO5 := Lib.hid ho
  have HT5 := Lib.hid (HT4.out.trans ht fun _ _ e => e)
  have HAT5 := Lib.hid (HA.out.still HAT4.out ht)
  have HS5 := Lib.hid ht
  clear ho ht HFD5
  refine wpList_run (v := .tuple #[.slice (some ⟨b5, 0, none⟩) 2 c5, .bool true]) (wanted_none rfl) (exec_move rfl rfl) ?_
  simp only [Act.put, List.setIfInBounds_toArray, List.set_cons_zero, List.set_cons_succ]
  refine wpList_run (v := .slice (some ⟨b5, 0, none⟩) 2 c5) (wanted_none rfl) (ix_extract rfl rfl rfl) ?_
  simp only [Act.put, List.setIfInBounds_toArray, List.set_cons_zero, List.set_cons_succ]
  refine wpList_run (v := .bool true) (wanted_none rfl) (ix_extract rfl rfl rfl) ?_
  simp only [Act.put, List.setIfInBounds_toArray, List.set_cons_zero, List.set_cons_succ]
  refine wpList_run (v := .slice (some ⟨b5, 0, none⟩) 2 c5) (wanted_none rfl) (gx_assign rfl rfl) ?_
  simp only [Act.put, List.setIfInBounds_toArray, List.set_cons_zero, List.set_cons_succ]
  refine wpList_run (v := .bool true) (wanted_none rfl) (gx_assign rfl rfl) ?_
  simp only [Act.put, List.setIfInBounds_toArray, List.set_cons_zero, List.set_cons_succ]
  have HO5_5 := Lib.hid HO5.out
  have HFD6 := Lib.hid (HA.out.f_some (p := [52, 54, 49, 50]) HAT5.out (by decide) sh_b (by decide))
  go_upto_region 5 with fail
  refine wp_region_lit ?_
  refine wpList_run (v := .pointer (some ⟨t, 0, none⟩)) (wanted_none rfl) (exec_move rfl rfl) ?_
  simp only [Act.put, List.setIfInBounds_toArray, List.set_cons_zero, List.set_cons_succ]
  refine wpList_op rfl fun K9 HK9 => ?_
  go_wp2_with fail
  refine (HFD6.out).mono ?_
  rintro e w6 ⟨b6, c6, rfl, ho, ht⟩
  refine HK9.out _ _ ?_
  clear HK9
  try simp only [Act.put, List.setIfInBounds_toArray, List.set_cons_zero, List.set_cons_succ]
  have HO6 := Lib.hid ho
  have HT6 := Lib.hid (HT5.out.trans ht fun _ _ e => e)
  have HAT6 := Lib.hid (HA.out.still HAT5.out ht)
  have HS6 := Lib.hid ht
  clear ho ht HFD6
  refine wpList_run (v := .tuple #[.slice (some ⟨b6, 0, none⟩) 1 c6, .bool true]) (wanted_none rfl) (exec_move rfl rfl) ?_
  simp only [Act.put, List.setIfInBounds_toArray, List.set_cons_zero, List.set_cons_succ]
  refine wpList_run (v := .slice (some ⟨b6, 0, none⟩) 1 c6) (wanted_none rfl) (ix_extract rfl rfl rfl) ?_
  simp only [Act.put, List.setIfInBounds_toArray, List.set_cons_zero, List.set_cons_succ]
  refine wpList_run (v := .bool true) (wanted_none rfl) (ix_extract rfl rfl rfl) ?_
  simp only [Act.put, List.setIfInBounds_toArray, List.set_cons_zero, List.set_cons_succ]
  refine wpList_run (v := .slice (some ⟨b6, 0, none⟩) 1 c6) (wanted_none rfl) (gx_assign rfl rfl) ?_
  simp only [Act.put, List.setIfInBounds_toArray, List.set_cons_zero, List.set_cons_succ]
  refine wpList_run (v := .bool true) (wanted_none rfl) (gx_assign rfl rfl) ?_
  simp only [Act.put, List.setIfInBounds_toArray, List.set_cons_zero, List.set_cons_succ]
  have HO5_6 := Lib.hid (HO5.out.still HS6.out)
  have HO6_6 := Lib.hid HO6.out
  have HFD7 := Lib.hid (HA.out.f_none (p := [53]) HAT6.out (by decide) sh_c)
  go_upto_region 6 with fail
  refine wp_region_lit ?_
  refine wpList_run (v := .pointer (some ⟨t, 0, none⟩)) (wanted_none rfl) (exec_move rfl rfl) ?_
  simp only [Act.put, List.setIfInBounds_toArray, List.set_cons_zero, List.set_cons_succ]
  refine wpList_op rfl fun K9 HK9 => ?_
  go_wp2_with fail
  refine (HFD7.out).mono ?_
  rintro e w7 ⟨A7, c7, rfl, ht⟩
  refine HK9.out _ _ ?_
  clear HK9
  try simp only [Act.put, List.setIfInBounds_toArray, List.set_cons_zero, List.set_cons_succ]
  have HT7 := Lib.hid (HT6.out.trans ht fun _ _ e => e)
  have HAT7 := Lib.hid (HA.out.still HAT6.out ht)
  have HS7 := Lib.hid ht
  clear ht HFD7
  refine wpList_run (v := .tuple #[.slice A7 0 c7, .bool false]) (wanted_none rfl) (exec_move rfl rfl) ?_
  simp only [Act.put, List.setIfInBounds_toArray, List.set_cons_zero, List.set_cons_succ]
  refine wpList_run (v := .slice A7 0 c7) (wanted_none rfl) (ix_extract rfl rfl rfl) ?_
  simp only [Act.put, List.setIfInBounds_toArray, List.set_cons_zero, List.set_cons_succ]
  refine wpList_run (v := .bool false) (wanted_none rfl) (ix_extract rfl rfl rfl) ?_
  simp only [Act.put, List.setIfInBounds_toArray, List.set_cons_zero, List.set_cons_succ]
  refine wpList_run (v := .slice A7 0 c7) (wanted_none rfl) (gx_assign rfl rfl) ?_
  simp only [Act.put, List.setIfInBounds_toArray, List.set_cons_zero, List.set_cons_succ]
  refine wpList_run (v := .bool false) (wanted_none rfl) (gx_assign rfl rfl) ?_
  simp only [Act.put, List.setIfInBounds_toArray, List.set_cons_zero, List.set_cons_succ]
  have HO5_7 := Lib.hid (HO5_6.out.still HS7.out)
  have HO6_7 := Lib.hid (HO6_6.out.still HS7.out)
  have HN7 := Lib.hid (show ∀ b, F b → b ≠ b5 ∧ b ≠ b6 from fun b hb => by
    have h1 := HA.out.lt HAT4.out hb
    have h2 := (HO5.out.lt (b := b5) rfl).1
    have h3 := (HO6.out.lt (b := b6) rfl).1
    have h4 := HS5.out.size
    exact ⟨by omega, by omega⟩)
  go_upto_region 7 with fail
  refine wp_region_lit ?_
  refine wpList_run (v := .pointer (some ⟨t, 0, none⟩)) (wanted_none rfl) (exec_move rfl rfl) ?_
  simp only [Act.put, List.setIfInBounds_toArray, List.set_cons_zero, List.set_cons_succ]
  have hra8 := build_one elmI [.int .i64 0] rfl (by decide) (.int .i64 0) rfl w7
  have hba8 := Blk.new w7 3 #[.int .i64 0]
  have hta8 := (Turn.refl nowhere w7).alloc (.cells #[.int .i64 0] 3)
  obtain ⟨g8, hga8⟩ : ∃ g, g = w7.heap.size := ⟨_, rfl⟩
  rw [← hga8] at hra8 hba8
  obtain ⟨w8a, hwa8⟩ : ∃ v, v = w7.alloc (.cells #[.int .i64 0] 3) := ⟨_, rfl⟩
  rw [← hwa8] at hra8 hba8 hta8
  have HRa8 := Lib.hid hra8
  have HBa8 := Lib.hid hba8
  have HTa8 := Lib.hid hta8
  clear hra8 hba8 hta8 hga8 hwa8
  have hok : (RtV.mk [52, 53] (some ⟨g8, 0, none⟩) 1 1 [0]).ok w8a := rt_ok HBa8.out ⟨by decide, by decide⟩ (by decide)
  have HAD8 := Lib.hid (show Calls Try.prog 14 #[.pointer (some ⟨t, 0, none⟩), .agg #[strV [52, 53], .slice (some ⟨g8, 0, none⟩) 1 1]] w8a fun e w' => e = .returned (.int .i64 111) ∧ ∃ F', At w' t F' 3 [([52], [1]), ([52, 53], [2, 1])] ∧ (∀ b, F' b → F b ∨ w8a.heap.size ≤ b) ∧ Turn F w8a w' from by
    have h := HA.out.add (r := RtV.mk [52, 53] (some ⟨g8, 0, none⟩) 1 1 [0]) (HA.out.still HAT7.out HTa8.out) hok
    rw [show Rt.addE 3 [([52], [1]), ([52, 53], [2, 1])] (RtV.mk [52, 53] (some ⟨g8, 0, none⟩) 1 1 [0]).pre (RtV.mk [52, 53] (some ⟨g8, 0, none⟩) 1 1 [0]).to_ = 111 from sh_add.1, show Rt.addL 3 [([52], [1]), ([52, 53], [2, 1])] (RtV.mk [52, 53] (some ⟨g8, 0, none⟩) 1 1 [0]).pre (RtV.mk [52, 53] (some ⟨g8, 0, none⟩) 1 1 [0]).to_ = [([52], [1]), ([52, 53], [2, 1])] from sh_add.2] at h
    exact h)
  clear hok
  refine wpList_run (v := .slice (some ⟨g8, 0, none⟩) 1 1) (w' := w8a) (wanted_none rfl) (exec_buildSlice1 rfl rfl HRa8.out) ?_
  simp only [Act.put, List.setIfInBounds_toArray, List.set_cons_zero, List.set_cons_succ]
  refine wpList_run (v := .agg #[strV [52, 53], .slice (some ⟨g8, 0, none⟩) 1 1]) (wanted_none rfl) (gx_build2 rfl rfl rfl (buildRt [52, 53] (some ⟨g8, 0, none⟩) 1 1 _)) ?_
  simp only [Act.put, List.setIfInBounds_toArray, List.set_cons_zero, List.set_cons_succ]
  refine wpList_op rfl fun K9 HK9 => ?_
  go_wp2_with fail
  refine (HAD8.out).mono ?_
  rintro e w8 ⟨rfl, F8, hat, hF, ht⟩
  refine HK9.out _ _ ?_
  clear HK9
  try simp only [Act.put, List.setIfInBounds_toArray, List.set_cons_zero, List.set_cons_succ]
  have HO5_8 := Lib.hid ((HO5_7.out.still HTa8.out).turn ht fun b hb e => (HN7.out b e).1 (Option.some.inj hb).symm)
  have HO6_8 := Lib.hid ((HO6_7.out.still HTa8.out).turn ht fun b hb e => (HN7.out b e).2 (Option.some.inj hb).symm)
  have HN8 := Lib.hid (show ∀ b, F8 b → b ≠ b5 ∧ b ≠ b6 from fun b hb => (hF b hb).elim (HN7.out b) fun h => by
    have h2 := (HO5_7.out.lt (b := b5) rfl).2
    have h3 := (HO6_7.out.lt (b := b6) rfl).2
    have h4 := HTa8.out.size
    exact ⟨by omega, by omega⟩)
  have HAT8 := Lib.hid hat
  have HF8 := Lib.hid (show ∀ b, F8 b → w.heap.size ≤ b from fun b hb => (hF b hb).elim (HF.out b) fun h => Nat.le_trans (Nat.le_trans HT7.out.size HTa8.out.size) h)
  have HT8 := Lib.hid (Turn.own (HT7.out.trans HTa8.out fun _ _ e => e) HF.out ht)
  clear hat hF ht HAD8 HTa8 HRa8 HBa8
  refine wpList_run (v := .int .i64 111) (wanted_none rfl) (gx_assign rfl rfl) ?_
  simp only [Act.put, List.setIfInBounds_toArray, List.set_cons_zero, List.set_cons_succ]
  go_upto_region 8 with fail
  refine wp_region_lit ?_
  refine wpList_run (v := .pointer (some ⟨t, 0, none⟩)) (wanted_none rfl) (exec_move rfl rfl) ?_
  simp only [Act.put, List.setIfInBounds_toArray, List.set_cons_zero, List.set_cons_succ]
  have hra9 := build_one elmI [.int .i64 3] rfl (by decide) (.int .i64 3) rfl w8
  have hba9 := Blk.new w8 3 #[.int .i64 3]
  have hta9 := (Turn.refl nowhere w8).alloc (.cells #[.int .i64 3] 3)
  obtain ⟨g9, hga9⟩ : ∃ g, g = w8.heap.size := ⟨_, rfl⟩
  rw [← hga9] at hra9 hba9
  obtain ⟨w9a, hwa9⟩ : ∃ v, v = w8.alloc (.cells #[.int .i64 3] 3) := ⟨_, rfl⟩
  rw [← hwa9] at hra9 hba9 hta9
  have HRa9 := Lib.hid hra9
  have HBa9 := Lib.hid hba9
  have HTa9 := Lib.hid hta9
  clear hra9 hba9 hta9 hga9 hwa9
  have hok : (RtV.mk [53] (some ⟨g9, 0, none⟩) 1 1 [3]).ok w9a := rt_ok HBa9.out ⟨by decide, by decide⟩ (by decide)
  have HAD9 := Lib.hid (show Calls Try.prog 14 #[.pointer (some ⟨t, 0, none⟩), .agg #[strV [53], .slice (some ⟨g9, 0, none⟩) 1 1]] w9a fun e w' => e = .returned (.int .i64 112) ∧ ∃ F', At w' t F' 3 [([52], [1]), ([52, 53], [2, 1])] ∧ (∀ b, F' b → F8 b ∨ w9a.heap.size ≤ b) ∧ Turn F8 w9a w' from by
    have h := HA.out.add (r := RtV.mk [53] (some ⟨g9, 0, none⟩) 1 1 [3]) (HA.out.still HAT8.out HTa9.out) hok
    rw [show Rt.addE 3 [([52], [1]), ([52, 53], [2, 1])] (RtV.mk [53] (some ⟨g9, 0, none⟩) 1 1 [3]).pre (RtV.mk [53] (some ⟨g9, 0, none⟩) 1 1 [3]).to_ = 112 from sh_add2.1, show Rt.addL 3 [([52], [1]), ([52, 53], [2, 1])] (RtV.mk [53] (some ⟨g9, 0, none⟩) 1 1 [3]).pre (RtV.mk [53] (some ⟨g9, 0, none⟩) 1 1 [3]).to_ = [([52], [1]), ([52, 53], [2, 1])] from sh_add2.2] at h
    exact h)
  clear hok
  refine wpList_run (v := .slice (some ⟨g9, 0, none⟩) 1 1) (w' := w9a) (wanted_none rfl) (exec_buildSlice1 rfl rfl HRa9.out) ?_
  simp only [Act.put, List.setIfInBounds_toArray, List.set_cons_zero, List.set_cons_succ]
  refine wpList_run (v := .agg #[strV [53], .slice (some ⟨g9, 0, none⟩) 1 1]) (wanted_none rfl) (gx_build2 rfl rfl rfl (buildRt [53] (some ⟨g9, 0, none⟩) 1 1 _)) ?_
  simp only [Act.put, List.setIfInBounds_toArray, List.set_cons_zero, List.set_cons_succ]
  refine wpList_op rfl fun K9 HK9 => ?_
  go_wp2_with fail
  refine (HAD9.out).mono ?_
  rintro e w9 ⟨rfl, F9, hat, hF, ht⟩
  refine HK9.out _ _ ?_
  clear HK9
  try simp only [Act.put, List.setIfInBounds_toArray, List.set_cons_zero, List.set_cons_succ]
  have HO5_9 := Lib.hid ((HO5_8.out.still HTa9.out).turn ht fun b hb e => (HN8.out b e).1 (Option.some.inj hb).symm)
  have HO6_9 := Lib.hid ((HO6_8.out.still HTa9.out).turn ht fun b hb e => (HN8.out b e).2 (Option.some.inj hb).symm)
  have HN9 := Lib.hid (show ∀ b, F9 b → b ≠ b5 ∧ b ≠ b6 from fun b hb => (hF b hb).elim (HN8.out b) fun h => by
    have h2 := (HO5_8.out.lt (b := b5) rfl).2
    have h3 := (HO6_8.out.lt (b := b6) rfl).2
    have h4 := HTa9.out.size
    exact ⟨by omega, by omega⟩)
  have HAT9 := Lib.hid hat
  have HF9 := Lib.hid (show ∀ b, F9 b → w.heap.size ≤ b from fun b hb => (hF b hb).elim (HF8.out b) fun h => Nat.le_trans (Nat.le_trans HT8.out.size HTa9.out.size) h)
  have HT9 := Lib.hid (Turn.own (HT8.out.trans HTa9.out fun _ _ e => e) HF8.out ht)
  clear hat hF ht HAD9 HTa9 HRa9 HBa9
  refine wpList_run (v := .int .i64 112) (wanted_none rfl) (gx_assign rfl rfl) ?_
  simp only [Act.put, List.setIfInBounds_toArray, List.set_cons_zero, List.set_cons_succ]
  have HDR10 := Lib.hid (show Calls Try.prog 16 #[.pointer (some ⟨t, 0, none⟩), strV [52, 53]] w9 fun e w' => e = .returned (.int .i64 0) ∧ ∃ F', At w' t F' 3 ([([52], [1])]) ∧ (∀ b, F' b → F9 b ∨ w9.heap.size ≤ b) ∧ Turn F9 w9 w' from by
    have h := HA.out.drop (p := [52, 53]) HAT9.out (by decide)
    rw [sh_drop.1, sh_drop.2] at h
    exact h)
  go_upto_region 9 with fail
  refine wp_region_lit ?_
  refine wpList_run (v := .pointer (some ⟨t, 0, none⟩)) (wanted_none rfl) (exec_move rfl rfl) ?_
  simp only [Act.put, List.setIfInBounds_toArray, List.set_cons_zero, List.set_cons_succ]
  refine wpList_op rfl fun K9 HK9 => ?_
  go_wp2_with fail
  refine (HDR10.out).mono ?_
  rintro e w10 ⟨rfl, F10, hat, hF, ht⟩
  refine HK9.out _ _ ?_
  clear HK9
  try simp only [Act.put, List.setIfInBounds_toArray, List.set_cons_zero, List.set_cons_succ]
  have HO5_10 := Lib.hid ((HO5_9.out).turn ht fun b hb e => (HN9.out b e).1 (Option.some.inj hb).symm)
  have HO6_10 := Lib.hid ((HO6_9.out).turn ht fun b hb e => (HN9.out b e).2 (Option.some.inj hb).symm)
  have HN10 := Lib.hid (show ∀ b, F10 b → b ≠ b5 ∧ b ≠ b6 from fun b hb => (hF b hb).elim (HN9.out b) fun h => by
    have h2 := (HO5_9.out.lt (b := b5) rfl).2
    have h3 := (HO6_9.out.lt (b := b6) rfl).2
    skip
    exact ⟨by omega, by omega⟩)
  have HAT10 := Lib.hid hat
  have HF10 := Lib.hid (show ∀ b, F10 b → w.heap.size ≤ b from fun b hb => (hF b hb).elim (HF9.out b) fun h => Nat.le_trans HT9.out.size h)
  have HT10 := Lib.hid (Turn.own HT9.out HF9.out ht)
  clear hat hF ht HDR10
  refine wpList_run (v := .int .i64 0) (wanted_none rfl) (gx_assign rfl rfl) ?_
  simp only [Act.put, List.setIfInBounds_toArray, List.set_cons_zero, List.set_cons_succ]
  have HDR11 := Lib.hid (show Calls Try.prog 16 #[.pointer (some ⟨t, 0, none⟩), strV [52, 53]] w10 fun e w' => e = .returned (.int .i64 113) ∧ ∃ F', At w' t F' 3 (Rt.dropL [([52], [1])] [52, 53]) ∧ (∀ b, F' b → F10 b ∨ w10.heap.size ≤ b) ∧ Turn F10 w10 w' from by
    have h := HA.out.drop (p := [52, 53]) HAT10.out (by decide)
    rw [sh_drop2] at h
    exact h)
  go_upto_region 10 with fail
  refine wp_region_lit ?_
  refine wpList_run (v := .pointer (some ⟨t, 0, none⟩)) (wanted_none rfl) (exec_move rfl rfl) ?_
  simp only [Act.put, List.setIfInBounds_toArray, List.set_cons_zero, List.set_cons_succ]
  refine wpList_op rfl fun K9 HK9 => ?_
  go_wp2_with fail
  refine (HDR11.out).mono ?_
  rintro e w11 ⟨rfl, F11, hat, hF, ht⟩
  refine HK9.out _ _ ?_
  clear HK9
  try simp only [Act.put, List.setIfInBounds_toArray, List.set_cons_zero, List.set_cons_succ]
  have HO5_11 := Lib.hid ((HO5_10.out).turn ht fun b hb e => (HN10.out b e).1 (Option.some.inj hb).symm)
  have HO6_11 := Lib.hid ((HO6_10.out).turn ht fun b hb e => (HN10.out b e).2 (Option.some.inj hb).symm)
  have HN11 := Lib.hid (show ∀ b, F11 b → b ≠ b5 ∧ b ≠ b6 from fun b hb => (hF b hb).elim (HN10.out b) fun h => by
    have h2 := (HO5_10.out.lt (b := b5) rfl).2
    have h3 := (HO6_10.out.lt (b := b6) rfl).2
    skip
    exact ⟨by omega, by omega⟩)
  have HAT11 := Lib.hid hat
  have HF11 := Lib.hid (show ∀ b, F11 b → w.heap.size ≤ b from fun b hb => (hF b hb).elim (HF10.out b) fun h => Nat.le_trans HT10.out.size h)
  have HT11 := Lib.hid (Turn.own HT10.out HF10.out ht)
  clear hat hF ht HDR11
  refine wpList_run (v := .int .i64 113) (wanted_none rfl) (gx_assign rfl rfl) ?_
  simp only [Act.put, List.setIfInBounds_toArray, List.set_cons_zero, List.set_cons_succ]
  go_upto_region 11 with fail
  refine wp_region_lit ?_
  refine wpList_run (v := .bool true) (wanted_none rfl) (exec_move rfl rfl) ?_
  simp only [Act.put, List.setIfInBounds_toArray, List.set_cons_zero, List.set_cons_succ]
  refine wpList_run (v := .bool true) (wanted_none rfl) (exec_move rfl rfl) ?_
  simp only [Act.put, List.setIfInBounds_toArray, List.set_cons_zero, List.set_cons_succ]
  refine wpList_run (v := .slice (some ⟨b5, 0, none⟩) 2 c5) rfl (exec_move rfl rfl) ?_
  simp only [Act.put, List.setIfInBounds_toArray, List.set_cons_zero, List.set_cons_succ]
  refine wpList_run (v := .int .i64 2) rfl (gx_len rfl rfl Try.underlying36) ?_
  simp only [Act.put, List.setIfInBounds_toArray, List.set_cons_zero, List.set_cons_succ]
  refine wpList_run (v := .bool true) rfl (ix_eql rfl rfl rfl (by decide)) ?_
  simp only [Act.put, List.setIfInBounds_toArray, List.set_cons_zero, List.set_cons_succ]
  refine wpList_run (v := .bool true) (wanted_none rfl) (ix_pickT rfl rfl rfl) ?_
  simp only [Act.put, List.setIfInBounds_toArray, List.set_cons_zero, List.set_cons_succ]
  refine wpList_run (v := .bool true) (wanted_none rfl) (exec_move rfl rfl) ?_
  simp only [Act.put, List.setIfInBounds_toArray, List.set_cons_zero, List.set_cons_succ]
  refine wpList_run (v := .slice (some ⟨b5, 0, none⟩) 2 c5) rfl (exec_move rfl rfl) ?_
  simp only [Act.put, List.setIfInBounds_toArray, List.set_cons_zero, List.set_cons_succ]
  refine wpList_run (v := .pointer (some ⟨b5, 0 + 0 * 1, none⟩)) rfl (gx_iaddr (i := 0) (sz := 1) rfl rfl rfl Try.underlying36 size_int (by decide) rfl) ?_
  simp only [Act.put, List.setIfInBounds_toArray, List.set_cons_zero, List.set_cons_succ]
  refine wpList_run (v := .int .i64 2) rfl (exec_load1 rfl rfl (by kernel_rfl) (HO5_11.out.el0 (i := 0) (r := one1 2) rfl 0 _ rfl)) ?_
  simp only [Act.put, List.setIfInBounds_toArray, List.set_cons_zero, List.set_cons_succ]
  refine wpList_run (v := .bool true) rfl (ix_eql rfl rfl rfl (by decide)) ?_
  simp only [Act.put, List.setIfInBounds_toArray, List.set_cons_zero, List.set_cons_succ]
  refine wpList_run (v := .bool true) (wanted_none rfl) (ix_pickT rfl rfl rfl) ?_
  simp only [Act.put, List.setIfInBounds_toArray, List.set_cons_zero, List.set_cons_succ]
  refine wpList_run (v := .bool true) (wanted_none rfl) (exec_move rfl rfl) ?_
  simp only [Act.put, List.setIfInBounds_toArray, List.set_cons_zero, List.set_cons_succ]
  refine wpList_run (v := .slice (some ⟨b5, 0, none⟩) 2 c5) rfl (exec_move rfl rfl) ?_
  simp only [Act.put, List.setIfInBounds_toArray, List.set_cons_zero, List.set_cons_succ]
  refine wpList_run (v := .pointer (some ⟨b5, 0 + 1 * 1, none⟩)) rfl (gx_iaddr (i := 1) (sz := 1) rfl rfl rfl Try.underlying36 size_int (by decide) rfl) ?_
  simp only [Act.put, List.setIfInBounds_toArray, List.set_cons_zero, List.set_cons_succ]
  refine wpList_run (v := .int .i64 1) rfl (exec_load1 rfl rfl (by kernel_rfl) (HO5_11.out.el0 (i := 1) (r := one1 1) rfl 0 _ rfl)) ?_
  simp only [Act.put, List.setIfInBounds_toArray, List.set_cons_zero, List.set_cons_succ]
  refine wpList_run (v := .bool true) rfl (ix_eql rfl rfl rfl (by decide)) ?_
  simp only [Act.put, List.setIfInBounds_toArray, List.set_cons_zero, List.set_cons_succ]
  refine wpList_run (v := .bool true) (wanted_none rfl) (ix_pickT rfl rfl rfl) ?_
  simp only [Act.put, List.setIfInBounds_toArray, List.set_cons_zero, List.set_cons_succ]
  refine wpList_run (v := .bool true) (wanted_none rfl) (exec_move rfl rfl) ?_
  simp only [Act.put, List.setIfInBounds_toArray, List.set_cons_zero, List.set_cons_succ]
  refine wpList_run (v := .bool true) rfl (exec_move rfl rfl) ?_
  simp only [Act.put, List.setIfInBounds_toArray, List.set_cons_zero, List.set_cons_succ]
  refine wpList_run (v := .bool true) (wanted_none rfl) (ix_pickT rfl rfl rfl) ?_
  simp only [Act.put, List.setIfInBounds_toArray, List.set_cons_zero, List.set_cons_succ]
  refine wpList_run (v := .bool true) (wanted_none rfl) (exec_move rfl rfl) ?_
  simp only [Act.put, List.setIfInBounds_toArray, List.set_cons_zero, List.set_cons_succ]
  refine wpList_run (v := .slice (some ⟨b6, 0, none⟩) 1 c6) rfl (exec_move rfl rfl) ?_
  simp only [Act.put, List.setIfInBounds_toArray, List.set_cons_zero, List.set_cons_succ]
  refine wpList_run (v := .int .i64 1) rfl (gx_len rfl rfl Try.underlying36) ?_
  simp only [Act.put, List.setIfInBounds_toArray, List.set_cons_zero, List.set_cons_succ]
  refine wpList_run (v := .bool true) rfl (ix_eql rfl rfl rfl (by decide)) ?_
  simp only [Act.put, List.setIfInBounds_toArray, List.set_cons_zero, List.set_cons_succ]
  refine wpList_run (v := .bool true) (wanted_none rfl) (ix_pickT rfl rfl rfl) ?_
  simp only [Act.put, List.setIfInBounds_toArray, List.set_cons_zero, List.set_cons_succ]
  refine wpList_run (v := .bool true) (wanted_none rfl) (exec_move rfl rfl) ?_
  simp only [Act.put, List.setIfInBounds_toArray, List.set_cons_zero, List.set_cons_succ]
  refine wpList_run (v := .slice (some ⟨b6, 0, none⟩) 1 c6) rfl (exec_move rfl rfl) ?_
  simp only [Act.put, List.setIfInBounds_toArray, List.set_cons_zero, List.set_cons_succ]
  refine wpList_run (v := .pointer (some ⟨b6, 0 + 0 * 1, none⟩)) rfl (gx_iaddr (i := 0) (sz := 1) rfl rfl rfl Try.underlying36 size_int (by decide) rfl) ?_
  simp only [Act.put, List.setIfInBounds_toArray, List.set_cons_zero, List.set_cons_succ]
  refine wpList_run (v := .int .i64 1) rfl (exec_load1 rfl rfl (by kernel_rfl) (HO6_11.out.el0 (i := 0) (r := one1 1) rfl 0 _ rfl)) ?_
  simp only [Act.put, List.setIfInBounds_toArray, List.set_cons_zero, List.set_cons_succ]
  refine wpList_run (v := .bool true) rfl (ix_eql rfl rfl rfl (by decide)) ?_
  simp only [Act.put, List.setIfInBounds_toArray, List.set_cons_zero, List.set_cons_succ]
  refine wpList_run (v := .bool true) (wanted_none rfl) (ix_pickT rfl rfl rfl) ?_
  simp only [Act.put, List.setIfInBounds_toArray, List.set_cons_zero, List.set_cons_succ]
  refine wpList_run (v := .bool true) (wanted_none rfl) (exec_move rfl rfl) ?_
  simp only [Act.put, List.setIfInBounds_toArray, List.set_cons_zero, List.set_cons_succ]
  refine wpList_run (v := .bool false) rfl (exec_move rfl rfl) ?_
  simp only [Act.put, List.setIfInBounds_toArray, List.set_cons_zero, List.set_cons_succ]
  refine wpList_run (v := .bool true) rfl (ix_not (b := false) rfl rfl) ?_
  simp only [Act.put, List.setIfInBounds_toArray, List.set_cons_zero, List.set_cons_succ]
  refine wpList_run (v := .bool true) (wanted_none rfl) (ix_pickT rfl rfl rfl) ?_
  simp only [Act.put, List.setIfInBounds_toArray, List.set_cons_zero, List.set_cons_succ]
  refine wpList_run (v := .bool true) (wanted_none rfl) (exec_move rfl rfl) ?_
  simp only [Act.put, List.setIfInBounds_toArray, List.set_cons_zero, List.set_cons_succ]
  refine wpList_run (v := .int .i64 111) rfl (exec_move rfl rfl) ?_
  simp only [Act.put, List.setIfInBounds_toArray, List.set_cons_zero, List.set_cons_succ]
  refine wpList_run (v := .bool true) rfl (ix_eql rfl rfl rfl (by decide)) ?_
  simp only [Act.put, List.setIfInBounds_toArray, List.set_cons_zero, List.set_cons_succ]
  refine wpList_run (v := .bool true) (wanted_none rfl) (ix_pickT rfl rfl rfl) ?_
  simp only [Act.put, List.setIfInBounds_toArray, List.set_cons_zero, List.set_cons_succ]
  refine wpList_run (v := .bool true) (wanted_none rfl) (exec_move rfl rfl) ?_
  simp only [Act.put, List.setIfInBounds_toArray, List.set_cons_zero, List.set_cons_succ]
  refine wpList_run (v := .int .i64 112) rfl (exec_move rfl rfl) ?_
  simp only [Act.put, List.setIfInBounds_toArray, List.set_cons_zero, List.set_cons_succ]
  refine wpList_run (v := .bool true) rfl (ix_eql rfl rfl rfl (by decide)) ?_
  simp only [Act.put, List.setIfInBounds_toArray, List.set_cons_zero, List.set_cons_succ]
  refine wpList_run (v := .bool true) (wanted_none rfl) (ix_pickT rfl rfl rfl) ?_
  simp only [Act.put, List.setIfInBounds_toArray, List.set_cons_zero, List.set_cons_succ]
  refine wpList_run (v := .bool true) (wanted_none rfl) (exec_move rfl rfl) ?_
  simp only [Act.put, List.setIfInBounds_toArray, List.set_cons_zero, List.set_cons_succ]
  refine wpList_run (v := .int .i64 0) rfl (exec_move rfl rfl) ?_
  simp only [Act.put, List.setIfInBounds_toArray, List.set_cons_zero, List.set_cons_succ]
  refine wpList_run (v := .bool true) rfl (ix_eql rfl rfl rfl (by decide)) ?_
  simp only [Act.put, List.setIfInBounds_toArray, List.set_cons_zero, List.set_cons_succ]
  refine wpList_run (v := .bool true) (wanted_none rfl) (ix_pickT rfl rfl rfl) ?_
  simp only [Act.put, List.setIfInBounds_toArray, List.set_cons_zero, List.set_cons_succ]
  refine wpList_run (v := .bool true) (wanted_none rfl) (exec_move rfl rfl) ?_
  simp only [Act.put, List.setIfInBounds_toArray, List.set_cons_zero, List.set_cons_succ]
  refine wpList_run (v := .int .i64 113) rfl (exec_move rfl rfl) ?_
  simp only [Act.put, List.setIfInBounds_toArray, List.set_cons_zero, List.set_cons_succ]
  refine wpList_run (v := .bool true) rfl (ix_eql rfl rfl rfl (by decide)) ?_
  simp only [Act.put, List.setIfInBounds_toArray, List.set_cons_zero, List.set_cons_succ]
  refine wpList_run (v := .bool true) (wanted_none rfl) (ix_pickT rfl rfl rfl) ?_
  simp only [Act.put, List.setIfInBounds_toArray, List.set_cons_zero, List.set_cons_succ]
  refine wpList_run (v := .bool true) (wanted_none rfl) (gx_assign rfl rfl) ?_
  simp only [Act.put, List.setIfInBounds_toArray, List.set_cons_zero, List.set_cons_succ]
  go_wp2_with fail
  go_ret
  exact ⟨rfl, HT11.out⟩
end Go.Proofs.Ytihmpbilbnajpaa
