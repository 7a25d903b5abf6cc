/-
  Texts in one file: SsT. Conditions: the tables and the errors read as the program's text lays them.
-/
import Derived.Test.YtfnillibngijaaaGreatDoorJB31
namespace Go.Proofs.YtfnillibngijaaaGreatDoor
open Go.RowKit
open Sh (Wd B8 H8)
set_option linter.unusedVariables false
set_option linter.unusedSimpArgs false
set_option maxRecDepth 20000
theorem build_l0 (W : World) : (Instr.buildSlice 37 0 #[]).run Tryz.prog W = .ok (.slice (some ⟨W.heap.size, 0, none⟩) 0 0) (W.alloc (.cells #[] 4)) := by kernel_rfl
theorem zero_rowL {B : Nat} {w0 w : World} (hB : B = w0.heap.size) (hT : Turn nowhere w0 w) : Orw (w.alloc (.cells #[] 4)) B 4 1 (.slice (some ⟨w.heap.size, 0, none⟩) 0 0) [] :=
  (show Orw (w.alloc (.cells #[] 4)) w.heap.size 4 1 (.slice (some ⟨w.heap.size, 0, none⟩) 0 0) [] from ⟨Fit.nil 1, World.ownsRow_made w #[] 0 (Nat.le_refl _) (by unfold maxLen; omega) (by simp)⟩).less (hB ▸ hT.size)
theorem grow_row {ty : TypeId} {B : Nat} {w0 w : World} {e s cs n k : Nat} {l : List Bool} (hB : B = w0.heap.size) (hT : Turn nowhere w0 w) (he : Orw w B 4 1 (.slice (some ⟨e, 0, none⟩) 0 0) []) (hs : Orw w 0 4 1 (.slice (some ⟨s, 0, none⟩) n cs) (bR k n l)) (h1 : 1 ≤ n) (h6 : n ≤ 6) :
    ∃ a c' w', (Builtin.append_ #[37, 37] ty #[.slice (some ⟨e, 0, none⟩) 0 0, .slice (some ⟨s, 0, none⟩) n cs]).run Tryz.prog w = .ok (.slice (some ⟨a, 0, none⟩) n c') w' ∧ Orw w' B 4 1 (.slice (some ⟨a, 0, none⟩) n c') (bR k n l) ∧ Turn nowhere w0 w' ∧ Turn (only e) w w' ∧ (a = e ∨ a = w.heap.size) := by
  obtain ⟨A', c', w', hr, ho, hg, hb⟩ := orw_grow elmL (ty := ty) (c := cs) he (hB ▸ hT.size) (hs.rws (by rw [bR_len]; omega) (by decide)) (bR_fit k n l) (fun h => by cases h) (by simp only [List.length_nil]; omega)
  have hl : ([] : List (List Value)).length + n = n := by simp
  rw [hl] at hr ho hb
  rw [List.nil_append] at ho
  obtain ⟨a, c2, hv, -, -⟩ := ho.some_ (by rw [bR_len]; omega)
  injection hv with e1 e2 e3
  subst e1
  refine ⟨a, c', w', hr, ho, hT.grown hg fun g e5 hg2 => ?_, (Turn.refl (only e) w).grown hg fun g e5 _ => (own_blk e5).symm, ?_⟩
  · have := own_blk e5
    have := (he.lt (b := e) rfl).1
    omega
  · rcases hb with hb | hb
    · exact .inl (own_blk hb)
    · exact .inr (own_blk hb)
set_option maxRecDepth 20000 in
set_option maxHeartbeats 4000000 in
theorem rClone_walk {w : World} {y s b n : Nat} {l : List Bool} (h : RBd w y s b n l) : Calls Tryz.prog 8 #[.pointer (some ⟨y, 0, none⟩)] w fun e w' => ∃ y' s' b', e = .returned (.pointer (some ⟨y', 0, none⟩)) ∧ RBd w' y' s' b' n l ∧ w.heap.size ≤ y' ∧ w.heap.size ≤ s' ∧ w.heap.size ≤ b' ∧ Turn nowhere w w' := by
  have HLO := Lib.hid h.lo
  have HHI := Lib.hid h.hi
  obtain ⟨cs, cb, hb1, ho1, ho2⟩ := h.row
  have H := Lib.hid hb1
  have HS := Lib.hid ho1
  have HB := Lib.hid ho2
  clear h hb1 ho1 ho2
  go_enter Tryz.func8, Tryz.ntmps8
  go_upto_region 0 with fail
  refine wp_region_lit ?_
  refine wpList_run (v := .pointer none) (wanted_none rfl) (gx_assign rfl rfl) ?_
  simp only [Act.put, List.setIfInBounds_toArray, List.set_cons_zero, List.set_cons_succ]
  go_upto_region 1 with fail
  refine wp_region_alw (fun W => Blk W y 39 #[.slice (some ⟨s, 0, none⟩) n cs, .slice (some ⟨b, 0, none⟩) n cb]) (by kernel_rfl) ?_
  have hS0 : (fun W => Blk W y 39 #[.slice (some ⟨s, 0, none⟩) n cs, .slice (some ⟨b, 0, none⟩) n cb]) w.drew := H.out.drew
  have HD := Lib.hid ((Turn.refl nowhere w).drew)
  generalize w.drew = wd at *
  obtain ⟨B0, hB0⟩ : ∃ x, x = wd.heap.size := ⟨_, rfl⟩
  have HB0 := Lib.hid hB0
  clear hB0
  have HT0 := Lib.hid (Turn.refl nowhere wd)
  have HSd := Lib.hid (HS.out.still HD.out)
  have HBd := Lib.hid (HB.out.still HD.out)
  refine alw_take (i := 1) (v := .pointer (some ⟨y, 0, none⟩)) rfl (by kernel_rfl) (by kernel_rfl) (fun _ _ _ h => h) (.inl ⟨by rfl, fun W hW => exec_move rfl rfl⟩) hS0 ?_
  simp only [Act.put, List.setIfInBounds_toArray, List.set_cons_zero, List.set_cons_succ]
  refine alw_take (i := 2) (v := .pointer (some ⟨y, 0, none⟩)) rfl (by kernel_rfl) (by kernel_rfl) (fun _ _ _ h => h) (.inl ⟨by rfl, fun W hW => exec_nil rfl rfl⟩) hS0 ?_
  simp only [Act.put, List.setIfInBounds_toArray, List.set_cons_zero, List.set_cons_succ]
  refine alw_take (i := 3) (v := .pointer (some ⟨y, 0, none⟩)) rfl (by kernel_rfl) (by kernel_rfl) (fun _ _ _ h => h) (.inl ⟨by rfl, fun W hW => exec_field (off := 0) (d := 0) rfl rfl (by kernel_rfl)⟩) hS0 ?_
  simp only [Act.put, List.setIfInBounds_toArray, List.set_cons_zero, List.set_cons_succ]
  refine alw_take (i := 4) (v := .slice (some ⟨s, 0, none⟩) n cs) rfl (by kernel_rfl) (by kernel_rfl) (fun _ _ _ h => h) (.inl ⟨by rfl, fun W hW => exec_load1 rfl rfl (by kernel_rfl) (hW.cell 0)⟩) hS0 ?_
  simp only [Act.put, List.setIfInBounds_toArray, List.set_cons_zero, List.set_cons_succ]
  refine alw_take (i := 7) (v := .pointer (some ⟨y, 0, none⟩)) rfl (by kernel_rfl) (by kernel_rfl) (fun _ _ _ h => h) (.inl ⟨by rfl, fun W hW => exec_move rfl rfl⟩) hS0 ?_
  simp only [Act.put, List.setIfInBounds_toArray, List.set_cons_zero, List.set_cons_succ]
  refine alw_take (i := 8) (v := .pointer (some ⟨y, 0, none⟩)) rfl (by kernel_rfl) (by kernel_rfl) (fun _ _ _ h => h) (.inl ⟨by rfl, fun W hW => exec_nil rfl rfl⟩) hS0 ?_
  simp only [Act.put, List.setIfInBounds_toArray, List.set_cons_zero, List.set_cons_succ]
  refine alw_take (i := 9) (v := .pointer (some ⟨y, 1, none⟩)) rfl (by kernel_rfl) (by kernel_rfl) (fun _ _ _ h => h) (.inl ⟨by rfl, fun W hW => exec_field (off := 0) (d := 1) rfl rfl (by kernel_rfl)⟩) hS0 ?_
  simp only [Act.put, List.setIfInBounds_toArray, List.set_cons_zero, List.set_cons_succ]
  refine alw_take (i := 10) (v := .slice (some ⟨b, 0, none⟩) n cb) rfl (by kernel_rfl) (by kernel_rfl) (fun _ _ _ h => h) (.inl ⟨by rfl, fun W hW => exec_load1 rfl rfl (by kernel_rfl) (hW.cell 1)⟩) hS0 ?_
  simp only [Act.put, List.setIfInBounds_toArray, List.set_cons_zero, List.set_cons_succ]
  refine alw_pair (i := 0) (j := 6) (by kernel_rfl) rfl rfl rfl rfl ?_ ?_
  · as_aux_lemma =>
      have ho := zero_rowL HB0.out HT0.out
      have ht := (Turn.refl nowhere wd).alloc (.cells #[] 4)
      intro K1 HK1
      refine wp_run (v := .slice (some ⟨wd.heap.size, 0, none⟩) 0 0) (w' := wd.alloc (.cells #[] 4)) (bx_slice0 rfl (build_l0 wd)) ?_
      obtain ⟨e1, he⟩ : ∃ x, x = wd.heap.size := ⟨_, rfl⟩
      rw [← he] at ho ⊢
      have HQ1 := Lib.hid he
      clear he
      generalize wd.alloc (.cells #[] 4) = u1 at *
      have HR1 := Lib.hid ho
      have HT1 := Lib.hid (HT0.out.trans ht fun _ _ e => e)
      have hS1 : (fun W => Blk W y 39 #[.slice (some ⟨s, 0, none⟩) n cs, .slice (some ⟨b, 0, none⟩) n cb]) u1 := hS0.turn ht fun e => e
      refine HK1.out _ _ ⟨hS1, ?_⟩
      clear HK1 ho ht
      try simp only [Act.put, List.setIfInBounds_toArray, List.set_cons_zero, List.set_cons_succ]
      refine alw_pair (i := 5) (j := 6) (by kernel_rfl) rfl rfl rfl rfl ?_ ?_
      · as_aux_lemma =>
          obtain ⟨a2, c2, u2, hr, ho, ht0, ht, hbk⟩ := grow_row (ty := 37) HB0.out HT1.out HR1.out (HSd.out.still HT1.out) HLO.out HHI.out
          have HRU2 := Lib.hid hr
          have HR2 := Lib.hid ho
          have HT2 := Lib.hid ht0
          have hS2 : (fun W => Blk W y 39 #[.slice (some ⟨s, 0, none⟩) n cs, .slice (some ⟨b, 0, none⟩) n cb]) u2 := (show Blk wd y 39 #[.slice (some ⟨s, 0, none⟩) n cs, .slice (some ⟨b, 0, none⟩) n cb] from hS0).turn ht0 fun e => e
          intro K1 HK1
          refine wp_run (v := .slice (some ⟨a2, 0, none⟩) n c2) (w' := u2) (exec_append rfl rfl rfl HRU2.out) ?_
          clear hr ht0 hbk
          refine HK1.out _ _ ⟨hS2, ?_⟩
          clear HK1 ho ht
          try simp only [Act.put, List.setIfInBounds_toArray, List.set_cons_zero, List.set_cons_succ]
          refine alw_step (i := 6) (by kernel_rfl) rfl rfl ?_
          have ho := zero_rowL HB0.out HT2.out
          have ht := (Turn.refl nowhere u2).alloc (.cells #[] 4)
          intro K1 HK1
          refine wp_run (v := .slice (some ⟨u2.heap.size, 0, none⟩) 0 0) (w' := u2.alloc (.cells #[] 4)) (bx_slice0 rfl (build_l0 u2)) ?_
          have HE3 := Lib.hid (show a2 < u2.heap.size from (HR2.out.lt (b := a2) rfl).2)
          obtain ⟨e3, he⟩ : ∃ x, x = u2.heap.size := ⟨_, rfl⟩
          rw [← he] at ho ⊢
          have HQ3 := Lib.hid he
          clear he
          generalize u2.alloc (.cells #[] 4) = u3 at *
          have HR3 := Lib.hid ho
          have HT3 := Lib.hid (HT2.out.trans ht fun _ _ e => e)
          have hS3 : (fun W => Blk W y 39 #[.slice (some ⟨s, 0, none⟩) n cs, .slice (some ⟨b, 0, none⟩) n cb]) u3 := hS2.turn ht fun e => e
          have HO3 := Lib.hid (HR2.out.still ht)
          have HN3 := Lib.hid (show e3 ≠ a2 from by have := HE3.out; have := HQ3.out; omega)
          refine HK1.out _ _ ⟨hS3, ?_⟩
          clear HK1 ho ht
          try simp only [Act.put, List.setIfInBounds_toArray, List.set_cons_zero, List.set_cons_succ]
          refine alw_step (i := 11) (by kernel_rfl) rfl rfl ?_
          obtain ⟨a4, c4, u4, hr, ho, ht0, ht, hbk⟩ := grow_row (ty := 37) HB0.out HT3.out HR3.out (HBd.out.still HT3.out) HLO.out HHI.out
          have HRU4 := Lib.hid hr
          have HR4 := Lib.hid ho
          have HT4 := Lib.hid ht0
          have hS4 : (fun W => Blk W y 39 #[.slice (some ⟨s, 0, none⟩) n cs, .slice (some ⟨b, 0, none⟩) n cb]) u4 := (show Blk wd y 39 #[.slice (some ⟨s, 0, none⟩) n cs, .slice (some ⟨b, 0, none⟩) n cb] from hS0).turn ht0 fun e => e
          intro K1 HK1
          refine wp_run (v := .slice (some ⟨a4, 0, none⟩) n c4) (w' := u4) (exec_append rfl rfl rfl HRU4.out) ?_
          have hne := HN3.out
          have hob := (HO3.out.lt (b := a2) rfl).2
          have HO4 := Lib.hid (HO3.out.turn ht fun g e => own_blk e ▸ fun h2 => hne (by first | exact h2 | exact h2.symm))
          have HN4 := Lib.hid (show a4 ≠ a2 from by rcases hbk with h2 | h2 <;> omega)
          clear hne hob
          clear hr ht0 hbk
          refine HK1.out _ _ ⟨hS4, ?_⟩
          clear HK1 ho ht
          try simp only [Act.put, List.setIfInBounds_toArray, List.set_cons_zero, List.set_cons_succ]
          refine alw_take (i := 12) (v := .agg #[.slice (some ⟨a2, 0, none⟩) n c2, .slice (some ⟨a4, 0, none⟩) n c4]) rfl (by kernel_rfl) (by kernel_rfl) (fun _ _ _ h => h) (.inl ⟨by rfl, fun W hW => gx_build2 rfl rfl rfl (build_rb _ _ _ _ _ _ _)⟩) hS4 ?_
          simp only [Act.put, List.setIfInBounds_toArray, List.set_cons_zero, List.set_cons_succ]
          have hb := Blk.new u4 39 #[.slice (some ⟨a2, 0, none⟩) n c2, .slice (some ⟨a4, 0, none⟩) n c4]
          have ht2 := (Turn.refl nowhere u4).alloc (.cells #[.slice (some ⟨a2, 0, none⟩) n c2, .slice (some ⟨a4, 0, none⟩) n c4] 39)
          refine alw_step (i := 13) (by kernel_rfl) rfl rfl ?_
          intro K1 HK1
          refine wp_run (v := .pointer (some ⟨u4.heap.size, 0, none⟩)) (w' := u4.alloc (.cells #[.slice (some ⟨a2, 0, none⟩) n c2, .slice (some ⟨a4, 0, none⟩) n c4] 39)) (gx_box rfl rfl (box_rb _ _ _ _ _ _ _)) ?_
          refine HK1.out _ _ ⟨hS4.turn ht2 fun e => e, ?_⟩
          clear HK1
          try simp only [Act.put, List.setIfInBounds_toArray, List.set_cons_zero, List.set_cons_succ]
          obtain ⟨y2, hy⟩ : ∃ x, x = u4.heap.size := ⟨_, rfl⟩
          rw [← hy] at hb ⊢
          have HY := Lib.hid (show u4.heap.size ≤ y2 from by rw [hy]; exact Nat.le_refl _)
          clear hy
          have hS9 := hS4.turn ht2 fun e => e
          generalize u4.alloc (.cells #[.slice (some ⟨a2, 0, none⟩) n c2, .slice (some ⟨a4, 0, none⟩) n c4] 39) = wc at *
          have HBy := Lib.hid hb
          have HT9 := Lib.hid (HT4.out.trans ht2 fun _ _ e => e)
          have HRA := Lib.hid (HO4.out.still ht2)
          have HRB := Lib.hid (HR4.out.still ht2)
          clear hb ht2
          refine alw_take (i := 14) (v := .pointer (some ⟨y2, 0, none⟩)) rfl (by kernel_rfl) (by kernel_rfl) (fun _ _ _ h => h) (.inl ⟨by rfl, fun W hW => gx_assign rfl rfl⟩) hS9 ?_
          simp only [Act.put, List.setIfInBounds_toArray, List.set_cons_zero, List.set_cons_succ]
          refine alw_done rfl ?_
          refine NoPanic.normal ?_
          have hd := HD.out.size
          have hB0 := HB0.out
          have h1 := HT9.out.size
          have hu := HT4.out.size
          have hyy := HY.out
          have h2 := (HRA.out.lt (b := a2) rfl).1
          have h3 := (HRB.out.lt (b := a4) rfl).1
          have HLL := Lib.hid (show w.heap.size ≤ y2 ∧ w.heap.size ≤ a2 ∧ w.heap.size ≤ a4 from by omega)
          clear hd hB0 h1 hu hyy h2 h3 hS9
          go_wp2_with fail
          go_ret
          exact ⟨y2, rfl, a2, a4, ⟨⟨c2, c4, HBy.out, HRA.out.less (Nat.zero_le _), HRB.out.less (Nat.zero_le _)⟩, HN4.out.symm, HLO.out, HHI.out⟩, HLL.out.1, HLL.out.2.1, HLL.out.2.2, HD.out.trans HT9.out fun _ _ e => e⟩
      · as_aux_lemma =>
          have ho := zero_rowL HB0.out HT1.out
          have ht := (Turn.refl nowhere u1).alloc (.cells #[] 4)
          intro K1 HK1
          refine wp_run (v := .slice (some ⟨u1.heap.size, 0, none⟩) 0 0) (w' := u1.alloc (.cells #[] 4)) (bx_slice0 rfl (build_l0 u1)) ?_
          have HE5 := Lib.hid (show e1 < u1.heap.size from (HR1.out.lt (b := e1) rfl).2)
          obtain ⟨e5, he⟩ : ∃ x, x = u1.heap.size := ⟨_, rfl⟩
          rw [← he] at ho ⊢
          have HQ5 := Lib.hid he
          clear he
          generalize u1.alloc (.cells #[] 4) = u5 at *
          have HR5 := Lib.hid ho
          have HT5 := Lib.hid (HT1.out.trans ht fun _ _ e => e)
          have hS5 : (fun W => Blk W y 39 #[.slice (some ⟨s, 0, none⟩) n cs, .slice (some ⟨b, 0, none⟩) n cb]) u5 := hS1.turn ht fun e => e
          have HO5 := Lib.hid (HR1.out.still ht)
          have HN5 := Lib.hid (show e5 ≠ e1 from by have := HE5.out; have := HQ5.out; omega)
          refine HK1.out _ _ ⟨hS5, ?_⟩
          clear HK1 ho ht
          try simp only [Act.put, List.setIfInBounds_toArray, List.set_cons_zero, List.set_cons_succ]
          refine alw_step (i := 5) (by kernel_rfl) rfl rfl ?_
          obtain ⟨a6, c6, u6, hr, ho, ht0, ht, hbk⟩ := grow_row (ty := 37) HB0.out HT5.out HO5.out (HSd.out.still HT5.out) HLO.out HHI.out
          have HRU6 := Lib.hid hr
          have HR6 := Lib.hid ho
          have HT6 := Lib.hid ht0
          have hS6 : (fun W => Blk W y 39 #[.slice (some ⟨s, 0, none⟩) n cs, .slice (some ⟨b, 0, none⟩) n cb]) u6 := (show Blk wd y 39 #[.slice (some ⟨s, 0, none⟩) n cs, .slice (some ⟨b, 0, none⟩) n cb] from hS0).turn ht0 fun e => e
          intro K1 HK1
          refine wp_run (v := .slice (some ⟨a6, 0, none⟩) n c6) (w' := u6) (exec_append rfl rfl rfl HRU6.out) ?_
          have hne := HN5.out
          have hob := (HR5.out.lt (b := e5) rfl).2
          have HO6 := Lib.hid (HR5.out.turn ht fun g e => own_blk e ▸ fun h2 => hne (by first | exact h2 | exact h2.symm))
          have HN6 := Lib.hid (show a6 ≠ e5 from by rcases hbk with h2 | h2 <;> omega)
          clear hne hob
          clear hr ht0 hbk
          refine HK1.out _ _ ⟨hS6, ?_⟩
          clear HK1 ho ht
          try simp only [Act.put, List.setIfInBounds_toArray, List.set_cons_zero, List.set_cons_succ]
          refine alw_step (i := 11) (by kernel_rfl) rfl rfl ?_
          obtain ⟨a7, c7, u7, hr, ho, ht0, ht, hbk⟩ := grow_row (ty := 37) HB0.out HT6.out HO6.out (HBd.out.still HT6.out) HLO.out HHI.out
          have HRU7 := Lib.hid hr
          have HR7 := Lib.hid ho
          have HT7 := Lib.hid ht0
          have hS7 : (fun W => Blk W y 39 #[.slice (some ⟨s, 0, none⟩) n cs, .slice (some ⟨b, 0, none⟩) n cb]) u7 := (show Blk wd y 39 #[.slice (some ⟨s, 0, none⟩) n cs, .slice (some ⟨b, 0, none⟩) n cb] from hS0).turn ht0 fun e => e
          intro K1 HK1
          refine wp_run (v := .slice (some ⟨a7, 0, none⟩) n c7) (w' := u7) (exec_append rfl rfl rfl HRU7.out) ?_
          have hne := HN6.out
          have hob := (HR6.out.lt (b := a6) rfl).2
          have HO7 := Lib.hid (HR6.out.turn ht fun g e => own_blk e ▸ fun h2 => hne (by first | exact h2 | exact h2.symm))
          have HN7 := Lib.hid (show a7 ≠ a6 from by rcases hbk with h2 | h2 <;> omega)
          clear hne hob
          clear hr ht0 hbk
          refine HK1.out _ _ ⟨hS7, ?_⟩
          clear HK1 ho ht
          try simp only [Act.put, List.setIfInBounds_toArray, List.set_cons_zero, List.set_cons_succ]
          refine alw_take (i := 12) (v := .agg #[.slice (some ⟨a6, 0, none⟩) n c6, .slice (some ⟨a7, 0, none⟩) n c7]) rfl (by kernel_rfl) (by kernel_rfl) (fun _ _ _ h => h) (.inl ⟨by rfl, fun W hW => gx_build2 rfl rfl rfl (build_rb _ _ _ _ _ _ _)⟩) hS7 ?_
          simp only [Act.put, List.setIfInBounds_toArray, List.set_cons_zero, List.set_cons_succ]
          have hb := Blk.new u7 39 #[.slice (some ⟨a6, 0, none⟩) n c6, .slice (some ⟨a7, 0, none⟩) n c7]
          have ht2 := (Turn.refl nowhere u7).alloc (.cells #[.slice (some ⟨a6, 0, none⟩) n c6, .slice (some ⟨a7, 0, none⟩) n c7] 39)
          refine alw_step (i := 13) (by kernel_rfl) rfl rfl ?_
          intro K1 HK1
          refine wp_run (v := .pointer (some ⟨u7.heap.size, 0, none⟩)) (w' := u7.alloc (.cells #[.slice (some ⟨a6, 0, none⟩) n c6, .slice (some ⟨a7, 0, none⟩) n c7] 39)) (gx_box rfl rfl (box_rb _ _ _ _ _ _ _)) ?_
          refine HK1.out _ _ ⟨hS7.turn ht2 fun e => e, ?_⟩
          clear HK1
          try simp only [Act.put, List.setIfInBounds_toArray, List.set_cons_zero, List.set_cons_succ]
          obtain ⟨y2, hy⟩ : ∃ x, x = u7.heap.size := ⟨_, rfl⟩
          rw [← hy] at hb ⊢
          have HY := Lib.hid (show u7.heap.size ≤ y2 from by rw [hy]; exact Nat.le_refl _)
          clear hy
          have hS9 := hS7.turn ht2 fun e => e
          generalize u7.alloc (.cells #[.slice (some ⟨a6, 0, none⟩) n c6, .slice (some ⟨a7, 0, none⟩) n c7] 39) = wc at *
          have HBy := Lib.hid hb
          have HT9 := Lib.hid (HT7.out.trans ht2 fun _ _ e => e)
          have HRA := Lib.hid (HO7.out.still ht2)
          have HRB := Lib.hid (HR7.out.still ht2)
          clear hb ht2
          refine alw_take (i := 14) (v := .pointer (some ⟨y2, 0, none⟩)) rfl (by kernel_rfl) (by kernel_rfl) (fun _ _ _ h => h) (.inl ⟨by rfl, fun W hW => gx_assign rfl rfl⟩) hS9 ?_
          simp only [Act.put, List.setIfInBounds_toArray, List.set_cons_zero, List.set_cons_succ]
          refine alw_done rfl ?_
          refine NoPanic.normal ?_
          have hd := HD.out.size
          have hB0 := HB0.out
          have h1 := HT9.out.size
          have hu := HT7.out.size
          have hyy := HY.out
          have h2 := (HRA.out.lt (b := a6) rfl).1
          have h3 := (HRB.out.lt (b := a7) rfl).1
          have HLL := Lib.hid (show w.heap.size ≤ y2 ∧ w.heap.size ≤ a6 ∧ w.heap.size ≤ a7 from by omega)
          clear hd hB0 h1 hu hyy h2 h3 hS9
          go_wp2_with fail
          go_ret
          exact ⟨y2, rfl, a6, a7, ⟨⟨c6, c7, HBy.out, HRA.out.less (Nat.zero_le _), HRB.out.less (Nat.zero_le _)⟩, HN7.out.symm, HLO.out, HHI.out⟩, HLL.out.1, HLL.out.2.1, HLL.out.2.2, HD.out.trans HT9.out fun _ _ e => e⟩
  · as_aux_lemma =>
      have ho := zero_rowL HB0.out HT0.out
      have ht := (Turn.refl nowhere wd).alloc (.cells #[] 4)
      intro K1 HK1
      refine wp_run (v := .slice (some ⟨wd.heap.size, 0, none⟩) 0 0) (w' := wd.alloc (.cells #[] 4)) (bx_slice0 rfl (build_l0 wd)) ?_
      obtain ⟨e8, he⟩ : ∃ x, x = wd.heap.size := ⟨_, rfl⟩
      rw [← he] at ho ⊢
      have HQ8 := Lib.hid he
      clear he
      generalize wd.alloc (.cells #[] 4) = u8 at *
      have HR8 := Lib.hid ho
      have HT8 := Lib.hid (HT0.out.trans ht fun _ _ e => e)
      have hS8 : (fun W => Blk W y 39 #[.slice (some ⟨s, 0, none⟩) n cs, .slice (some ⟨b, 0, none⟩) n cb]) u8 := hS0.turn ht fun e => e
      refine HK1.out _ _ ⟨hS8, ?_⟩
      clear HK1 ho ht
      try simp only [Act.put, List.setIfInBounds_toArray, List.set_cons_zero, List.set_cons_succ]
      refine alw_step (i := 0) (by kernel_rfl) rfl rfl ?_
      have ho := zero_rowL HB0.out HT8.out
      have ht := (Turn.refl nowhere u8).alloc (.cells #[] 4)
      intro K1 HK1
      refine wp_run (v := .slice (some ⟨u8.heap.size, 0, none⟩) 0 0) (w' := u8.alloc (.cells #[] 4)) (bx_slice0 rfl (build_l0 u8)) ?_
      have HE9 := Lib.hid (show e8 < u8.heap.size from (HR8.out.lt (b := e8) rfl).2)
      obtain ⟨e9, he⟩ : ∃ x, x = u8.heap.size := ⟨_, rfl⟩
      rw [← he] at ho ⊢
      have HQ9 := Lib.hid he
      clear he
      generalize u8.alloc (.cells #[] 4) = u9 at *
      have HR9 := Lib.hid ho
      have HT9 := Lib.hid (HT8.out.trans ht fun _ _ e => e)
      have hS9 : (fun W => Blk W y 39 #[.slice (some ⟨s, 0, none⟩) n cs, .slice (some ⟨b, 0, none⟩) n cb]) u9 := hS8.turn ht fun e => e
      have HO9 := Lib.hid (HR8.out.still ht)
      have HN9 := Lib.hid (show e9 ≠ e8 from by have := HE9.out; have := HQ9.out; omega)
      refine HK1.out _ _ ⟨hS9, ?_⟩
      clear HK1 ho ht
      try simp only [Act.put, List.setIfInBounds_toArray, List.set_cons_zero, List.set_cons_succ]
      refine alw_step (i := 5) (by kernel_rfl) rfl rfl ?_
      obtain ⟨a10, c10, u10, hr, ho, ht0, ht, hbk⟩ := grow_row (ty := 37) HB0.out HT9.out HR9.out (HSd.out.still HT9.out) HLO.out HHI.out
      have HRU10 := Lib.hid hr
      have HR10 := Lib.hid ho
      have HT10 := Lib.hid ht0
      have hS10 : (fun W => Blk W y 39 #[.slice (some ⟨s, 0, none⟩) n cs, .slice (some ⟨b, 0, none⟩) n cb]) u10 := (show Blk wd y 39 #[.slice (some ⟨s, 0, none⟩) n cs, .slice (some ⟨b, 0, none⟩) n cb] from hS0).turn ht0 fun e => e
      intro K1 HK1
      refine wp_run (v := .slice (some ⟨a10, 0, none⟩) n c10) (w' := u10) (exec_append rfl rfl rfl HRU10.out) ?_
      have hne := HN9.out
      have hob := (HO9.out.lt (b := e8) rfl).2
      have HO10 := Lib.hid (HO9.out.turn ht fun g e => own_blk e ▸ fun h2 => hne (by first | exact h2 | exact h2.symm))
      have HN10 := Lib.hid (show a10 ≠ e8 from by rcases hbk with h2 | h2 <;> omega)
      clear hne hob
      clear hr ht0 hbk
      refine HK1.out _ _ ⟨hS10, ?_⟩
      clear HK1 ho ht
      try simp only [Act.put, List.setIfInBounds_toArray, List.set_cons_zero, List.set_cons_succ]
      refine alw_step (i := 11) (by kernel_rfl) rfl rfl ?_
      obtain ⟨a11, c11, u11, hr, ho, ht0, ht, hbk⟩ := grow_row (ty := 37) HB0.out HT10.out HO10.out (HBd.out.still HT10.out) HLO.out HHI.out
      have HRU11 := Lib.hid hr
      have HR11 := Lib.hid ho
      have HT11 := Lib.hid ht0
      have hS11 : (fun W => Blk W y 39 #[.slice (some ⟨s, 0, none⟩) n cs, .slice (some ⟨b, 0, none⟩) n cb]) u11 := (show Blk wd y 39 #[.slice (some ⟨s, 0, none⟩) n cs, .slice (some ⟨b, 0, none⟩) n cb] from hS0).turn ht0 fun e => e
      intro K1 HK1
      refine wp_run (v := .slice (some ⟨a11, 0, none⟩) n c11) (w' := u11) (exec_append rfl rfl rfl HRU11.out) ?_
      have hne := HN10.out
      have hob := (HR10.out.lt (b := a10) rfl).2
      have HO11 := Lib.hid (HR10.out.turn ht fun g e => own_blk e ▸ fun h2 => hne (by first | exact h2 | exact h2.symm))
      have HN11 := Lib.hid (show a11 ≠ a10 from by rcases hbk with h2 | h2 <;> omega)
      clear hne hob
      clear hr ht0 hbk
      refine HK1.out _ _ ⟨hS11, ?_⟩
      clear HK1 ho ht
      try simp only [Act.put, List.setIfInBounds_toArray, List.set_cons_zero, List.set_cons_succ]
      refine alw_take (i := 12) (v := .agg #[.slice (some ⟨a10, 0, none⟩) n c10, .slice (some ⟨a11, 0, none⟩) n c11]) rfl (by kernel_rfl) (by kernel_rfl) (fun _ _ _ h => h) (.inl ⟨by rfl, fun W hW => gx_build2 rfl rfl rfl (build_rb _ _ _ _ _ _ _)⟩) hS11 ?_
      simp only [Act.put, List.setIfInBounds_toArray, List.set_cons_zero, List.set_cons_succ]
      have hb := Blk.new u11 39 #[.slice (some ⟨a10, 0, none⟩) n c10, .slice (some ⟨a11, 0, none⟩) n c11]
      have ht2 := (Turn.refl nowhere u11).alloc (.cells #[.slice (some ⟨a10, 0, none⟩) n c10, .slice (some ⟨a11, 0, none⟩) n c11] 39)
      refine alw_step (i := 13) (by kernel_rfl) rfl rfl ?_
      intro K1 HK1
      refine wp_run (v := .pointer (some ⟨u11.heap.size, 0, none⟩)) (w' := u11.alloc (.cells #[.slice (some ⟨a10, 0, none⟩) n c10, .slice (some ⟨a11, 0, none⟩) n c11] 39)) (gx_box rfl rfl (box_rb _ _ _ _ _ _ _)) ?_
      refine HK1.out _ _ ⟨hS11.turn ht2 fun e => e, ?_⟩
      clear HK1
      try simp only [Act.put, List.setIfInBounds_toArray, List.set_cons_zero, List.set_cons_succ]
      obtain ⟨y2, hy⟩ : ∃ x, x = u11.heap.size := ⟨_, rfl⟩
      rw [← hy] at hb ⊢
      have HY := Lib.hid (show u11.heap.size ≤ y2 from by rw [hy]; exact Nat.le_refl _)
      clear hy
      have hS9 := hS11.turn ht2 fun e => e
      generalize u11.alloc (.cells #[.slice (some ⟨a10, 0, none⟩) n c10, .slice (some ⟨a11, 0, none⟩) n c11] 39) = wc at *
      have HBy := Lib.hid hb
      have HT9 := Lib.hid (HT11.out.trans ht2 fun _ _ e => e)
      have HRA := Lib.hid (HO11.out.still ht2)
      have HRB := Lib.hid (HR11.out.still ht2)
      clear hb ht2
      refine alw_take (i := 14) (v := .pointer (some ⟨y2, 0, none⟩)) rfl (by kernel_rfl) (by kernel_rfl) (fun _ _ _ h => h) (.inl ⟨by rfl, fun W hW => gx_assign rfl rfl⟩) hS9 ?_
      simp only [Act.put, List.setIfInBounds_toArray, List.set_cons_zero, List.set_cons_succ]
      refine alw_done rfl ?_
      refine NoPanic.normal ?_
      have hd := HD.out.size
      have hB0 := HB0.out
      have h1 := HT9.out.size
      have hu := HT11.out.size
      have hyy := HY.out
      have h2 := (HRA.out.lt (b := a10) rfl).1
      have h3 := (HRB.out.lt (b := a11) rfl).1
      have HLL := Lib.hid (show w.heap.size ≤ y2 ∧ w.heap.size ≤ a10 ∧ w.heap.size ≤ a11 from by omega)
      clear hd hB0 h1 hu hyy h2 h3 hS9
      go_wp2_with fail
      go_ret
      exact ⟨y2, rfl, a10, a11, ⟨⟨c10, c11, HBy.out, HRA.out.less (Nat.zero_le _), HRB.out.less (Nat.zero_le _)⟩, HN11.out.symm, HLO.out, HHI.out⟩, HLL.out.1, HLL.out.2.1, HLL.out.2.2, HD.out.trans HT9.out fun _ _ e => e⟩
end Go.Proofs.YtfnillibngijaaaGreatDoor
