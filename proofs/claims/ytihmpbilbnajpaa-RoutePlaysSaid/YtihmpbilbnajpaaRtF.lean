/-
  Routes: the reference's Drop, Find, Clone, New: the walks. No conditions.
-/
import Derived.Test.YtihmpbilbnajpaaRtE
namespace Go.Proofs.Ytihmpbilbnajpaa
open Go.RowKit
open Ix
open Rt (R)
set_option linter.unusedVariables false
set_option linter.unusedSimpArgs false
theorem dropL_at {l : List R} {p : Key} {i : Nat} {x : R} (hs : Rt.Srt l) (hx : l[i]? = some x) (e : x.1 = p) : Rt.dropL l p = l.take i ++ l.drop (i + 1) := by
  have hi := (List.getElem?_eq_some_iff.1 hx).1
  have hl : l = l.take i ++ x :: l.drop (i + 1) := by
    conv => lhs; rw [← List.take_append_drop i l]
    rw [List.drop_eq_getElem_cons hi]
    have := (List.getElem?_eq_some_iff.1 hx).2
    rw [this]
  have key : ∀ y ∈ l, y.1 = p → y = x := fun y hy h => Rt.srt_one hs hy (List.mem_of_getElem? hx) (h.trans e.symm)
  have hd : x ∉ l.take i ∧ x ∉ l.drop (i + 1) := by
    have hs2 := hs
    rw [hl] at hs2
    obtain ⟨_, h2, h3⟩ := List.pairwise_append.1 hs2
    obtain ⟨h4, _⟩ := List.pairwise_cons.1 h2
    refine ⟨fun h => ?_, fun h => ?_⟩
    · have := h3 x h x (List.mem_cons_self ..)
      rw [klt_irr] at this
      cases this
    · have := h4 x h
      rw [klt_irr] at this
      cases this
  unfold Rt.dropL
  conv => lhs; rw [hl]
  rw [List.filter_append, List.filter_cons_of_neg (by simp [e])]
  congr 1
  · rw [List.filter_eq_self]
    intro y hy
    simp only [bne_iff_ne, ne_eq]
    exact fun h => hd.1 (by rw [← key y (List.mem_of_mem_take hy) h]; exact hy)
  · rw [List.filter_eq_self]
    intro y hy
    simp only [bne_iff_ne, ne_eq]
    exact fun h => hd.2 (by rw [← key y (List.mem_of_mem_drop hy) h]; exact hy)
theorem dropL_no {l : List R} {p : Key} (h : ¬ Rt.has p l) : Rt.dropL l p = l := by
  unfold Rt.dropL
  rw [List.filter_eq_self]
  intro y hy
  simp only [bne_iff_ne, ne_eq]
  exact fun e => h ⟨y, hy, e⟩
set_option maxRecDepth 20000 in
set_option maxHeartbeats 4000000 in
theorem rDrop_walk {w : World} {B y : Nat} {m : Int} {v : Value} {vs : List RtV} {p : Key} (h : RefT w B y m v vs) (hB : B ≤ w.heap.size) (hs : Rt.Srt (vs.map RtV.plain)) (hl : vs.length ≤ 32) :
    Calls Try.prog 17 #[.pointer (some ⟨y, 0, none⟩), strV p] w fun e w' => e = .returned (.int .i64 (Rt.dropE (vs.map RtV.plain) p)) ∧ RefTo w B y m v vs (Rt.dropL (vs.map RtV.plain) p) w' := by
  obtain ⟨A, c, rfl, hlc, _, hcz, _⟩ := h.own.row.form
  rw [List.length_map] at *
  obtain ⟨n, hn⟩ : ∃ n, n = vs.length := ⟨_, rfl⟩
  rw [← hn] at h hlc hl
  try rw [← hn]
  obtain ⟨l, hpl⟩ : ∃ l, l = vs.map RtV.plain := ⟨_, rfl⟩
  rw [← hpl] at hs ⊢
  have HR := Lib.hid h
  have HB := Lib.hid hB
  have HN := Lib.hid hn
  have HS := Lib.hid hs
  have HLC := Lib.hid hlc
  have HCZ := Lib.hid hcz
  have HPL := Lib.hid hpl
  have yn : (n : Int) ≤ 32 := by omega
  clear h hB hn hs hl hlc hcz hpl
  go_enter Try.func17, Try.ntmps17
  go_upto_region 0 with fail
  refine wp_region_lit ?_
  refine wpList_run (v := .int .i64 0) (wanted_none rfl) (gx_assign rfl rfl) ?_
  simp only [Act.put, List.setIfInBounds_toArray, List.set_cons_zero, List.set_cons_succ]
  go_upto_region 1 with fail
  refine wp_region_lit ?_
  refine wpList_run (v := .int .i64 0) (wanted_none rfl) (gx_assign rfl rfl) ?_
  simp only [Act.put, List.setIfInBounds_toArray, List.set_cons_zero, List.set_cons_succ]
  go_wp2_with fail
  go_loopg [5] n (fun gk iv wr => ∃ i : Nat, iv = .int .i64 (i : Int) ∧ i + gk = n ∧ (∀ j x, j < i → vs[j]? = some x → x.pre ≠ p) ∧ Turn nowhere w wr)
  case atStart => exact ⟨0, rfl, by omega, fun j x hj => absurd hj (by omega), Turn.refl _ _⟩
  obtain ⟨i, rfl, hgk, hne, htr⟩ := hrel
  have HGK := Lib.hid hgk
  have HNE := Lib.hid hne
  have HTR := Lib.hid htr
  have HRW := Lib.hid (HR.out.still htr)
  have yi : (i : Int) ≤ (n : Int) := by omega
  clear hgk hne htr
  by_cases hlt : i < n
  · have HLT := Lib.hid hlt
    have y3 : (i : Int) < (n : Int) := by omega
    obtain ⟨z, hz⟩ := getQ (l := vs) (i := i) (by have := HN.out; omega)
    have HZ := Lib.hid hz
    obtain ⟨b1, c1, e1, _, _⟩ := HRW.out.own.row.some_ (by rw [List.length_map, ← HN.out]; omega)
    injection e1 with e2 e3 e4
    subst e2
    have hel := HRW.out.own.row.el0 (i := i) (r := z.cells) (by rw [List.getElem?_map, hz]; rfl)
    have HC := Lib.hid (show wr.cell? ⟨b1, 0 + i * 2 + 0, none⟩ = some (strV z.pre) from hel 0 _ rfl)
    clear e3 e4 hz hlt hel
    go_upto_region 2 with fail
    refine wp_region_lit ?_
    refine wpList_run (v := .int .i64 (i : Int)) (wanted_none rfl) (exec_move rfl rfl) ?_
    simp only [Act.put, List.setIfInBounds_toArray, List.set_cons_zero, List.set_cons_succ]
    refine wpList_run (v := .pointer (some ⟨y, 0, none⟩)) (wanted_none rfl) (exec_move rfl rfl) ?_
    simp only [Act.put, List.setIfInBounds_toArray, List.set_cons_zero, List.set_cons_succ]
    refine wpList_run (v := .pointer (some ⟨y, 0, none⟩)) (wanted_none rfl) (exec_nil rfl rfl) ?_
    simp only [Act.put, List.setIfInBounds_toArray, List.set_cons_zero, List.set_cons_succ]
    refine wpList_run (v := .pointer (some ⟨y, 1, none⟩)) (wanted_none rfl) (exec_field (off := 0) (d := 1) rfl rfl (by kernel_rfl)) ?_
    simp only [Act.put, List.setIfInBounds_toArray, List.set_cons_zero, List.set_cons_succ]
    refine wpList_run (v := .slice (some ⟨b1, 0, none⟩) n c) (wanted_none rfl) (exec_load1 rfl rfl (by kernel_rfl) (HRW.out.blk.cell 1)) ?_
    simp only [Act.put, List.setIfInBounds_toArray, List.set_cons_zero, List.set_cons_succ]
    refine wpList_run (v := .int .i64 (n : Int)) (wanted_none rfl) (gx_len rfl rfl Try.underlying22) ?_
    simp only [Act.put, List.setIfInBounds_toArray, List.set_cons_zero, List.set_cons_succ]
    refine wpList_run (v := .bool true) (wanted_none rfl) (ix_lss rfl rfl rfl (decide_eq_true y3)) ?_
    simp only [Act.put, List.setIfInBounds_toArray, List.set_cons_zero, List.set_cons_succ]
    by_cases hzp : z.pre = p
    · have HZP := Lib.hid hzp
      have HE := Lib.hid (show Rt.dropE l p = 0 from by unfold Rt.dropE; rw [if_pos (by rw [HPL.out]; exact has_of HZ.out hzp)])
      have HDL := Lib.hid (show Rt.dropL l p = l.take i ++ l.drop (i + 1) from dropL_at HS.out (by rw [HPL.out]; exact plain_at HZ.out) hzp)
      clear hzp
      obtain ⟨A7, c7, w7, hrun, hrow, ht7⟩ := copy_rws elmRt (ty := 22) (c := c) (rws_to (e := i) (HRW.out.own.row.rws (by rw [List.length_map, ← HN.out]; omega) (by decide)) (Nat.le_of_lt HLT.out)) (Fit.sub HRW.out.own.row.1 fun r hr => List.mem_of_mem_take hr) HCZ.out (by have := HLT.out; omega)
      have HRUN7 := Lib.hid hrun
      have HT7 := Lib.hid ht7
      have HOW7 := Lib.hid (show OwnR w7 wr.heap.size B (.slice A7 i c7) (vs.take i) from ⟨by rw [List.map_take]; exact hrow, fun x hx => Its.turn (HRW.out.own.its x (List.mem_of_mem_take hx)) ht7 fun _ _ e => e⟩)
      have HR10 := Lib.hid (HRW.out.still ht7)
      clear hrun hrow ht7
      obtain ⟨A11, c11, w11, hrun, how11, ht11⟩ := OwnR.more (w := wr) (ys := vs.drop (i + 1)) (c2 := c - (i + 1)) HOW7.out HT7.out (show (vs.take i).length = i from by rw [List.length_take]; have := HLT.out; have := HN.out; omega) (by rw [List.map_drop]; exact rws_from (d := i + 1) (HR10.out.own.row.rws (by rw [List.length_map, ← HN.out]; omega) (by decide)) HLT.out HLC.out) (fromK_nil HCZ.out) (fun x hx => HR10.out.own.its x (List.mem_of_mem_drop hx)) (by have := HLT.out; omega)
      obtain ⟨n11, hn11⟩ : ∃ x, x = i + (n - (i + 1)) := ⟨_, rfl⟩
      rw [← hn11] at hrun how11
      have HRUN11 := Lib.hid hrun
      have HO11 := Lib.hid how11
      have HT11 := Lib.hid ht11
      have HBY := Lib.hid (HRW.out.blk.turn ht11 fun e => e)
      clear hrun how11 ht11 hn11
      go_upto_region 4 with fail
      refine wp_region_lit ?_
      refine wpList_run (v := .pointer (some ⟨y, 0, none⟩)) (wanted_none rfl) (exec_move rfl rfl) ?_
      simp only [Act.put, List.setIfInBounds_toArray, List.set_cons_zero, List.set_cons_succ]
      refine wpList_run (v := .pointer (some ⟨y, 0, none⟩)) (wanted_none rfl) (exec_nil rfl rfl) ?_
      simp only [Act.put, List.setIfInBounds_toArray, List.set_cons_zero, List.set_cons_succ]
      refine wpList_run (v := .pointer (some ⟨y, 1, none⟩)) (wanted_none rfl) (exec_field (off := 0) (d := 1) rfl rfl (by kernel_rfl)) ?_
      simp only [Act.put, List.setIfInBounds_toArray, List.set_cons_zero, List.set_cons_succ]
      refine wpList_run (v := .slice (some ⟨b1, 0, none⟩) n c) (wanted_none rfl) (exec_load1 rfl rfl (by kernel_rfl) (HRW.out.blk.cell 1)) ?_
      simp only [Act.put, List.setIfInBounds_toArray, List.set_cons_zero, List.set_cons_succ]
      refine wpList_run (v := .int .i64 (i : Int)) (wanted_none rfl) (exec_move rfl rfl) ?_
      simp only [Act.put, List.setIfInBounds_toArray, List.set_cons_zero, List.set_cons_succ]
      refine wpList_run (v := .pointer (some ⟨b1, 0 + i * 2, none⟩)) (wanted_none rfl) (gx_iaddr (i := i) (sz := 2) rfl rfl rfl Try.underlying22 size_rt HLT.out rfl) ?_
      simp only [Act.put, List.setIfInBounds_toArray, List.set_cons_zero, List.set_cons_succ]
      refine wpList_run (v := .pointer (some ⟨b1, 0 + i * 2 + 0, none⟩)) (wanted_none rfl) (exec_field (off := 0 + i * 2) (d := 0) rfl rfl (by kernel_rfl)) ?_
      simp only [Act.put, List.setIfInBounds_toArray, List.set_cons_zero, List.set_cons_succ]
      refine wpList_run (v := strV z.pre) (wanted_none rfl) (exec_load1 rfl rfl (by kernel_rfl) HC.out) ?_
      simp only [Act.put, List.setIfInBounds_toArray, List.set_cons_zero, List.set_cons_succ]
      refine wpList_run (v := strV p) (wanted_none rfl) (exec_move rfl rfl) ?_
      simp only [Act.put, List.setIfInBounds_toArray, List.set_cons_zero, List.set_cons_succ]
      refine wpList_run (v := .bool true) (wanted_none rfl) (exec_seqlr rfl rfl rfl (by rw [HZP.out]; simp)) ?_
      simp only [Act.put, List.setIfInBounds_toArray, List.set_cons_zero, List.set_cons_succ]
      go_upto_region 5 with fail
      refine wp_region_lit ?_
      refine wpList_run (v := .slice (some ⟨wr.heap.size, 0, none⟩) 0 0) (w' := wr.alloc (.cells #[] 38)) (wanted_none rfl) (bx_slice0 rfl (build0T _)) ?_
      simp only [Act.put, List.setIfInBounds_toArray, List.set_cons_zero, List.set_cons_succ]
      refine wpList_run (v := .pointer (some ⟨y, 0, none⟩)) (wanted_none rfl) (exec_move rfl rfl) ?_
      simp only [Act.put, List.setIfInBounds_toArray, List.set_cons_zero, List.set_cons_succ]
      refine wpList_run (v := .pointer (some ⟨y, 0, none⟩)) (wanted_none rfl) (exec_nil rfl rfl) ?_
      simp only [Act.put, List.setIfInBounds_toArray, List.set_cons_zero, List.set_cons_succ]
      refine wpList_run (v := .pointer (some ⟨y, 1, none⟩)) (wanted_none rfl) (exec_field (off := 0) (d := 1) rfl rfl (by kernel_rfl)) ?_
      simp only [Act.put, List.setIfInBounds_toArray, List.set_cons_zero, List.set_cons_succ]
      refine wpList_run (v := .slice (some ⟨b1, 0, none⟩) n c) (wanted_none rfl) (exec_load1 rfl rfl (by kernel_rfl) ((HRW.out.blk.alloc _).cell 1)) ?_
      simp only [Act.put, List.setIfInBounds_toArray, List.set_cons_zero, List.set_cons_succ]
      refine wpList_run (v := .int .i64 (i : Int)) (wanted_none rfl) (exec_move rfl rfl) ?_
      simp only [Act.put, List.setIfInBounds_toArray, List.set_cons_zero, List.set_cons_succ]
      refine wpList_run (v := .slice (some ⟨b1, 0, none⟩) i c) (wanted_none rfl) (exec_slice rfl rfl rfl rfl rfl (sl_to elmRt (some ⟨b1, 0, none⟩) n c i (by have := HLT.out; have := HLC.out; omega) _)) ?_
      simp only [Act.put, List.setIfInBounds_toArray, List.set_cons_zero, List.set_cons_succ]
      refine wpList_run (v := .slice A7 i c7) (w' := w7) (wanted_none rfl) (exec_append rfl rfl rfl HRUN7.out) ?_
      simp only [Act.put, List.setIfInBounds_toArray, List.set_cons_zero, List.set_cons_succ]
      refine wpList_run (v := .slice A7 i c7) (wanted_none rfl) (gx_assign rfl rfl) ?_
      simp only [Act.put, List.setIfInBounds_toArray, List.set_cons_zero, List.set_cons_succ]
      go_upto_region 6 with fail
      refine wp_region_lit ?_
      refine wpList_run (v := .pointer (some ⟨y, 0, none⟩)) (wanted_none rfl) (exec_move rfl rfl) ?_
      simp only [Act.put, List.setIfInBounds_toArray, List.set_cons_zero, List.set_cons_succ]
      refine wpList_run (v := .slice A7 i c7) (wanted_none rfl) (exec_move rfl rfl) ?_
      simp only [Act.put, List.setIfInBounds_toArray, List.set_cons_zero, List.set_cons_succ]
      refine wpList_run (v := .pointer (some ⟨y, 0, none⟩)) (wanted_none rfl) (exec_move rfl rfl) ?_
      simp only [Act.put, List.setIfInBounds_toArray, List.set_cons_zero, List.set_cons_succ]
      refine wpList_run (v := .pointer (some ⟨y, 0, none⟩)) (wanted_none rfl) (exec_nil rfl rfl) ?_
      simp only [Act.put, List.setIfInBounds_toArray, List.set_cons_zero, List.set_cons_succ]
      refine wpList_run (v := .pointer (some ⟨y, 1, none⟩)) (wanted_none rfl) (exec_field (off := 0) (d := 1) rfl rfl (by kernel_rfl)) ?_
      simp only [Act.put, List.setIfInBounds_toArray, List.set_cons_zero, List.set_cons_succ]
      refine wpList_run (v := .slice (some ⟨b1, 0, none⟩) n c) (wanted_none rfl) (exec_load1 rfl rfl (by kernel_rfl) (HR10.out.blk.cell 1)) ?_
      simp only [Act.put, List.setIfInBounds_toArray, List.set_cons_zero, List.set_cons_succ]
      refine wpList_run (v := .int .i64 (i : Int)) (wanted_none rfl) (exec_move rfl rfl) ?_
      simp only [Act.put, List.setIfInBounds_toArray, List.set_cons_zero, List.set_cons_succ]
      refine wpList_run (v := .int .i64 ((i + 1 : Nat) : Int)) (wanted_none rfl) (ix_add rfl rfl rfl (by omega) (by omega)) ?_
      simp only [Act.put, List.setIfInBounds_toArray, List.set_cons_zero, List.set_cons_succ]
      refine wpList_run (v := .slice (fromK 2 (some ⟨b1, 0, none⟩) c (i + 1)) (n - (i + 1)) (c - (i + 1))) (wanted_none rfl) (exec_slice rfl rfl rfl rfl rfl (sl_from elmRt (some ⟨b1, 0, none⟩) n c (i + 1) HLT.out HLC.out _)) ?_
      simp only [Act.put, List.setIfInBounds_toArray, List.set_cons_zero, List.set_cons_succ]
      refine wpList_run (v := .slice A11 n11 c11) (w' := w11) (wanted_none rfl) (exec_append rfl rfl rfl HRUN11.out) ?_
      simp only [Act.put, List.setIfInBounds_toArray, List.set_cons_zero, List.set_cons_succ]
      refine wpList_run (v := .pointer (some ⟨y, 0, none⟩)) (wanted_none rfl) (exec_nil rfl rfl) ?_
      simp only [Act.put, List.setIfInBounds_toArray, List.set_cons_zero, List.set_cons_succ]
      refine wpList_run (v := .pointer (some ⟨y, 1, none⟩)) (wanted_none rfl) (exec_field (off := 0) (d := 1) rfl rfl (by kernel_rfl)) ?_
      simp only [Act.put, List.setIfInBounds_toArray, List.set_cons_zero, List.set_cons_succ]
      refine wpList_storeU 1 (.slice A11 n11 c11) (wanted_none rfl) 22 _ _ rfl HBY.out rfl rfl (by show 1 < 2; omega) (slice_one HO11.out.row) size_sT ?_
      intro w12 hb12 ht12
      simp only [Act.put, List.setIfInBounds_toArray, List.set_cons_zero, List.set_cons_succ]
      have hBw : B ≤ wr.heap.size := Nat.le_trans HB.out HTR.out.size
      have how12 := HO11.out.only HBY.out (by decide) (by decide) ht12
      have HGN := Lib.hid (show ∀ b, RefG y (.slice A11 n11 c11) (vs.take i ++ vs.drop (i + 1)) b → RefG y (.slice (some ⟨b1, 0, none⟩) n c) vs b ∨ w.heap.size ≤ b from fun b hb => by
        rcases hb with hb | hb | ⟨x, hx, hb⟩
        · exact .inl (.inl hb)
        · exact .inr (Nat.le_trans HTR.out.size (how12.row.lt hb).1)
        · rcases List.mem_append.1 hx with hx | hx
          · exact .inl (.inr (.inr ⟨x, List.mem_of_mem_take hx, hb⟩))
          · exact .inl (.inr (.inr ⟨x, List.mem_of_mem_drop hx, hb⟩)))
      have HX := Lib.hid (show RefTo w B y m (.slice (some ⟨b1, 0, none⟩) n c) vs (Rt.dropL l p) w12 from ⟨_, _, ⟨hb12, ⟨how12.row.less hBw, how12.its⟩⟩, by
        rw [HDL.out, HPL.out]
        simp [List.map_append, List.map_take, List.map_drop], ((HTR.out.trans HT11.out fun _ _ e => e).mono fun _ _ e => e.elim).trans ht12 fun _ _ e => e, HGN.out⟩)
      clear hb12 ht12 hBw how12
      go_upto_region 7 with fail
      refine wp_region_lit ?_
      refine wpList_run (v := .int .i64 0) (wanted_none rfl) (gx_assign rfl rfl) ?_
      simp only [Act.put, List.setIfInBounds_toArray, List.set_cons_zero, List.set_cons_succ]
      go_wp2_with fail
      go_ret
      exact ⟨by rw [HE.out]; rfl, HX.out⟩
    · have HZP := Lib.hid hzp
      clear hzp
      go_upto_region 4 with fail
      refine wp_region_lit ?_
      refine wpList_run (v := .pointer (some ⟨y, 0, none⟩)) (wanted_none rfl) (exec_move rfl rfl) ?_
      simp only [Act.put, List.setIfInBounds_toArray, List.set_cons_zero, List.set_cons_succ]
      refine wpList_run (v := .pointer (some ⟨y, 0, none⟩)) (wanted_none rfl) (exec_nil rfl rfl) ?_
      simp only [Act.put, List.setIfInBounds_toArray, List.set_cons_zero, List.set_cons_succ]
      refine wpList_run (v := .pointer (some ⟨y, 1, none⟩)) (wanted_none rfl) (exec_field (off := 0) (d := 1) rfl rfl (by kernel_rfl)) ?_
      simp only [Act.put, List.setIfInBounds_toArray, List.set_cons_zero, List.set_cons_succ]
      refine wpList_run (v := .slice (some ⟨b1, 0, none⟩) n c) (wanted_none rfl) (exec_load1 rfl rfl (by kernel_rfl) (HRW.out.blk.cell 1)) ?_
      simp only [Act.put, List.setIfInBounds_toArray, List.set_cons_zero, List.set_cons_succ]
      refine wpList_run (v := .int .i64 (i : Int)) (wanted_none rfl) (exec_move rfl rfl) ?_
      simp only [Act.put, List.setIfInBounds_toArray, List.set_cons_zero, List.set_cons_succ]
      refine wpList_run (v := .pointer (some ⟨b1, 0 + i * 2, none⟩)) (wanted_none rfl) (gx_iaddr (i := i) (sz := 2) rfl rfl rfl Try.underlying22 size_rt HLT.out rfl) ?_
      simp only [Act.put, List.setIfInBounds_toArray, List.set_cons_zero, List.set_cons_succ]
      refine wpList_run (v := .pointer (some ⟨b1, 0 + i * 2 + 0, none⟩)) (wanted_none rfl) (exec_field (off := 0 + i * 2) (d := 0) rfl rfl (by kernel_rfl)) ?_
      simp only [Act.put, List.setIfInBounds_toArray, List.set_cons_zero, List.set_cons_succ]
      refine wpList_run (v := strV z.pre) (wanted_none rfl) (exec_load1 rfl rfl (by kernel_rfl) HC.out) ?_
      simp only [Act.put, List.setIfInBounds_toArray, List.set_cons_zero, List.set_cons_succ]
      refine wpList_run (v := strV p) (wanted_none rfl) (exec_move rfl rfl) ?_
      simp only [Act.put, List.setIfInBounds_toArray, List.set_cons_zero, List.set_cons_succ]
      refine wpList_run (v := .bool false) (wanted_none rfl) (exec_seqlr rfl rfl rfl (by simpa using HZP.out)) ?_
      simp only [Act.put, List.setIfInBounds_toArray, List.set_cons_zero, List.set_cons_succ]
      go_upto_region 3 with fail
      refine wp_region_lit ?_
      refine wpList_run (v := .int .i64 (i : Int)) (wanted_none rfl) (exec_move rfl rfl) ?_
      simp only [Act.put, List.setIfInBounds_toArray, List.set_cons_zero, List.set_cons_succ]
      refine wpList_run (v := .int .i64 ((i + 1 : Nat) : Int)) (wanted_none rfl) (ix_add rfl rfl rfl (by omega) (by omega)) ?_
      simp only [Act.put, List.setIfInBounds_toArray, List.set_cons_zero, List.set_cons_succ]
      refine wpList_run (v := .int .i64 ((i + 1 : Nat) : Int)) (wanted_none rfl) (gx_assign rfl rfl) ?_
      simp only [Act.put, List.setIfInBounds_toArray, List.set_cons_zero, List.set_cons_succ]
      go_wp2_with fail
      go_roundg (n - (i + 1))
      case measure => have := HGK.out; have := HLT.out; omega
      case rel => exact ⟨i + 1, rfl, by have := HLT.out; omega, fun j x hj hx => by
        rcases Nat.lt_or_ge j i with h | h
        · exact HNE.out j x h hx
        · obtain rfl : j = i := by omega
          have e := HZ.out
          rw [hx] at e
          rw [Option.some.inj e]
          exact HZP.out, HTR.out⟩
  · obtain rfl : n = i := by have := HGK.out; omega
    have HNH := Lib.hid (show ¬ Rt.has p l from by rw [HPL.out]; exact not_has fun i x hi hx => HNE.out i x (by have := HN.out; omega) hx)
    clear hlt
    go_upto_region 2 with fail
    refine wp_region_lit ?_
    refine wpList_run (v := .int .i64 (n : Int)) (wanted_none rfl) (exec_move rfl rfl) ?_
    simp only [Act.put, List.setIfInBounds_toArray, List.set_cons_zero, List.set_cons_succ]
    refine wpList_run (v := .pointer (some ⟨y, 0, none⟩)) (wanted_none rfl) (exec_move rfl rfl) ?_
    simp only [Act.put, List.setIfInBounds_toArray, List.set_cons_zero, List.set_cons_succ]
    refine wpList_run (v := .pointer (some ⟨y, 0, none⟩)) (wanted_none rfl) (exec_nil rfl rfl) ?_
    simp only [Act.put, List.setIfInBounds_toArray, List.set_cons_zero, List.set_cons_succ]
    refine wpList_run (v := .pointer (some ⟨y, 1, none⟩)) (wanted_none rfl) (exec_field (off := 0) (d := 1) rfl rfl (by kernel_rfl)) ?_
    simp only [Act.put, List.setIfInBounds_toArray, List.set_cons_zero, List.set_cons_succ]
    refine wpList_run (v := .slice A n c) (wanted_none rfl) (exec_load1 rfl rfl (by kernel_rfl) (HRW.out.blk.cell 1)) ?_
    simp only [Act.put, List.setIfInBounds_toArray, List.set_cons_zero, List.set_cons_succ]
    refine wpList_run (v := .int .i64 (n : Int)) (wanted_none rfl) (gx_len rfl rfl Try.underlying22) ?_
    simp only [Act.put, List.setIfInBounds_toArray, List.set_cons_zero, List.set_cons_succ]
    refine wpList_run (v := .bool false) (wanted_none rfl) (ix_lss rfl rfl rfl (decide_eq_false (by omega))) ?_
    simp only [Act.put, List.setIfInBounds_toArray, List.set_cons_zero, List.set_cons_succ]
    go_upto_region 8 with fail
    refine wp_region_lit ?_
    refine wpList_run (v := .int .i64 113) (wanted_none rfl) (gx_assign rfl rfl) ?_
    simp only [Act.put, List.setIfInBounds_toArray, List.set_cons_zero, List.set_cons_succ]
    go_wp2_with fail
    go_ret
    exact ⟨by unfold Rt.dropE; rw [if_neg HNH.out]; rfl, by rw [dropL_no HNH.out]; exact ⟨_, _, HRW.out, HPL.out.symm, HTR.out.mono fun _ _ e => e.elim, fun b hb => .inl hb⟩⟩
/-- what Find tells -/
def FindP (w : World) (l : List R) (pan : Key) (e : Ending) (w' : World) : Prop := ∃ o, Rt.Best l pan o ∧ Turn nowhere w w' ∧ match o with
  | none => e = .returned (.tuple #[.slice none 0 0, .bool false])
  | some t => ∃ A c, e = .returned (.tuple #[.slice A t.length c, .bool true]) ∧ Orw w' w.heap.size 3 1 (.slice A t.length c) (t.map one1)
/-- the best of the first i: which one, or none -/
def BestTo (vs : List RtV) (pan : Key) (i : Nat) (b : Int) : Prop :=
  (b = -1 ∧ ∀ j x, j < i → vs[j]? = some x → ¬ x.pre <+: pan) ∨ ∃ (k : Nat) (x : RtV), b = (k : Int) ∧ k < i ∧ vs[k]? = some x ∧ x.pre <+: pan ∧ ∀ j y, j < i → vs[j]? = some y → y.pre <+: pan → y.pre.length ≤ x.pre.length
theorem pre_iff {p pan : Key} (h : p.length ≤ pan.length) : (pan.take p.length == p) = decide (p <+: pan) := by
  rw [Bool.eq_iff_iff, beq_iff_eq, decide_eq_true_iff]
  constructor
  · intro e
    rw [← e]
    exact List.take_prefix _ _
  · intro e
    exact (List.prefix_iff_eq_take.1 e).symm
theorem best_out {vs : List RtV} {pan : Key} {i : Nat} {b : Int} {z : RtV} (h : BestTo vs pan i b) (hz : vs[i]? = some z) (hn : ¬ z.pre <+: pan) : BestTo vs pan (i + 1) b := by
  rcases h with ⟨e, h⟩ | ⟨k, x, e, h1, h2, h3, h4⟩
  · refine .inl ⟨e, fun j x hj hx => ?_⟩
    rcases Nat.lt_or_ge j i with g | g
    · exact h j x g hx
    · obtain rfl : j = i := by omega
      rw [hz] at hx
      cases hx
      exact hn
  · refine .inr ⟨k, x, e, by omega, h2, h3, fun j y hj hy hp => ?_⟩
    rcases Nat.lt_or_ge j i with g | g
    · exact h4 j y g hy hp
    · obtain rfl : j = i := by omega
      rw [hz] at hy
      cases hy
      exact absurd hp hn
theorem best_keep {vs : List RtV} {pan : Key} {i k : Nat} {z x : RtV} (h : BestTo vs pan i (k : Int)) (hx : vs[k]? = some x) (hz : vs[i]? = some z) (hl : z.pre.length ≤ x.pre.length) : BestTo vs pan (i + 1) (k : Int) := by
  rcases h with ⟨e, _⟩ | ⟨k', x', e, h1, h2, h3, h4⟩
  · omega
  · obtain rfl : k = k' := by omega
    rw [hx] at h2
    cases h2
    refine .inr ⟨k, x, rfl, by omega, hx, h3, fun j y hj hy hp => ?_⟩
    rcases Nat.lt_or_ge j i with g | g
    · exact h4 j y g hy hp
    · obtain rfl : j = i := by omega
      rw [hz] at hy
      cases hy
      exact hl
theorem best_first {vs : List RtV} {pan : Key} {i : Nat} {z : RtV} (h : BestTo vs pan i (-1)) (hz : vs[i]? = some z) (hp : z.pre <+: pan) : BestTo vs pan (i + 1) (i : Int) := by
  rcases h with ⟨_, h⟩ | ⟨k, x, e, _⟩
  · refine .inr ⟨i, z, rfl, by omega, hz, hp, fun j y hj hy hpy => ?_⟩
    rcases Nat.lt_or_ge j i with g | g
    · exact absurd hpy (h j y g hy)
    · obtain rfl : j = i := by omega
      rw [hz] at hy
      cases hy
      exact Nat.le_refl _
  · omega
theorem best_more {vs : List RtV} {pan : Key} {i k : Nat} {z x : RtV} (h : BestTo vs pan i (k : Int)) (hx : vs[k]? = some x) (hz : vs[i]? = some z) (hp : z.pre <+: pan) (hl : x.pre.length < z.pre.length) : BestTo vs pan (i + 1) (i : Int) := by
  rcases h with ⟨e, _⟩ | ⟨k', x', e, h1, h2, h3, h4⟩
  · omega
  · obtain rfl : k = k' := by omega
    rw [hx] at h2
    cases h2
    refine .inr ⟨i, z, rfl, by omega, hz, hp, fun j y hj hy hpy => ?_⟩
    rcases Nat.lt_or_ge j i with g | g
    · have := h4 j y g hy hpy
      omega
    · obtain rfl : j = i := by omega
      rw [hz] at hy
      cases hy
      exact Nat.le_refl _
theorem best_is {vs : List RtV} {pan : Key} {i : Nat} {b : Int} (h : BestTo vs pan i b) : (b = -1) ∨ ∃ (k : Nat) (x : RtV), b = (k : Int) ∧ k < i ∧ vs[k]? = some x := by
  rcases h with ⟨e, _⟩ | ⟨k, x, e, h1, h2, _⟩
  · exact .inl e
  · exact .inr ⟨k, x, e, h1, h2⟩
theorem best_end0 {vs : List RtV} {pan : Key} {n : Nat} (hn : n = vs.length) (h : BestTo vs pan n (-1)) : Rt.Best (vs.map RtV.plain) pan none := by
  rcases h with ⟨_, h⟩ | ⟨k, x, e, _⟩
  · intro y hy
    obtain ⟨r, hr, rfl⟩ := List.mem_map.1 hy
    obtain ⟨j, hj⟩ := List.mem_iff_getElem?.1 hr
    exact h j r (by have := (List.getElem?_eq_some_iff.1 hj).1; omega) hj
  · omega
theorem best_end1 {vs : List RtV} {pan : Key} {n k : Nat} {x : RtV} (hn : n = vs.length) (h : BestTo vs pan n (k : Int)) (hx : vs[k]? = some x) : Rt.Best (vs.map RtV.plain) pan (some x.to_) := by
  rcases h with ⟨e, _⟩ | ⟨k', x', e, h1, h2, h3, h4⟩
  · omega
  · obtain rfl : k = k' := by omega
    rw [hx] at h2
    cases h2
    refine ⟨x.pre, List.mem_map.2 ⟨x, List.mem_of_getElem? hx, rfl⟩, h3, fun y hy hp => ?_⟩
    obtain ⟨r, hr, rfl⟩ := List.mem_map.1 hy
    obtain ⟨j, hj⟩ := List.mem_iff_getElem?.1 hr
    exact h4 j r (by have := (List.getElem?_eq_some_iff.1 hj).1; omega) hj hp
set_option maxRecDepth 20000 in
set_option maxHeartbeats 4000000 in
theorem rFind_walk {w : World} {B y : Nat} {m : Int} {v : Value} {vs : List RtV} {p : Key} (h : RefT w B y m v vs) (hB : B ≤ w.heap.size) (hs : Rt.Srt (vs.map RtV.plain)) (hl : vs.length ≤ 32) (hpl9 : p.length ≤ 9223372036854775807) :
    Calls Try.prog 19 #[.pointer (some ⟨y, 0, none⟩), strV p] w fun e w' => FindP w (vs.map RtV.plain) p e w' := by
  obtain ⟨A, c, rfl, hlc, _, hcz, _⟩ := h.own.row.form
  rw [List.length_map] at *
  obtain ⟨n, hn⟩ : ∃ n, n = vs.length := ⟨_, rfl⟩
  rw [← hn] at h hlc hl
  try rw [← hn]
  obtain ⟨l, hpl⟩ : ∃ l, l = vs.map RtV.plain := ⟨_, rfl⟩
  rw [← hpl] at hs ⊢
  have HR := Lib.hid h
  have HB := Lib.hid hB
  have HN := Lib.hid hn
  have HS := Lib.hid hs
  have HLC := Lib.hid hlc
  have HCZ := Lib.hid hcz
  have HPL := Lib.hid hpl
  have yn : (n : Int) ≤ 32 := by omega
  clear h hB hn hs hl hlc hcz hpl
  obtain ⟨pn, hpn⟩ : ∃ x, x = p.length := ⟨_, rfl⟩
  have HPN := Lib.hid hpn
  have ypn : (pn : Int) ≤ 9223372036854775807 := by omega
  clear hpl9 hpn
  go_enter Try.func19, Try.ntmps19
  go_upto_region 0 with fail
  refine wp_region_lit ?_
  refine wpList_run (v := .slice none 0 0) (wanted_none rfl) (gx_assign rfl rfl) ?_
  simp only [Act.put, List.setIfInBounds_toArray, List.set_cons_zero, List.set_cons_succ]
  refine wpList_run (v := .bool false) (wanted_none rfl) (gx_assign rfl rfl) ?_
  simp only [Act.put, List.setIfInBounds_toArray, List.set_cons_zero, List.set_cons_succ]
  go_upto_region 1 with fail
  refine wp_region_lit ?_
  refine wpList_run (v := .int .i64 (-1)) (wanted_none rfl) (gx_assign rfl rfl) ?_
  simp only [Act.put, List.setIfInBounds_toArray, List.set_cons_zero, List.set_cons_succ]
  go_upto_region 2 with fail
  refine wp_region_lit ?_
  refine wpList_run (v := .int .i64 0) (wanted_none rfl) (gx_assign rfl rfl) ?_
  simp only [Act.put, List.setIfInBounds_toArray, List.set_cons_zero, List.set_cons_succ]
  go_wp2_with fail
  go_loopg [6, 7, 8] n (fun gk bv iv pv wr => ∃ (i : Nat) (b : Int), bv = .int .i64 b ∧ iv = .int .i64 (i : Int) ∧ i + gk = n ∧ BestTo vs p i b ∧ Turn nowhere w wr)
  case atStart => exact ⟨0, -1, rfl, rfl, by omega, .inl ⟨rfl, fun j x hj => absurd hj (by omega)⟩, Turn.refl _ _⟩
  obtain ⟨i, b, rfl, rfl, hgk, hb, htr⟩ := hrel
  have HGK := Lib.hid hgk
  have HBT := Lib.hid hb
  have HTR := Lib.hid htr
  have HRW := Lib.hid (HR.out.still htr)
  have yi : (i : Int) ≤ (n : Int) := by omega
  clear hgk hb htr
  by_cases hlt : i < n
  · have HLT := Lib.hid hlt
    have y3 : (i : Int) < (n : Int) := by omega
    obtain ⟨z, hz⟩ := getQ (l := vs) (i := i) (by have := HN.out; omega)
    have HZ := Lib.hid hz
    obtain ⟨b1, c1, e1, _, _⟩ := HRW.out.own.row.some_ (by rw [List.length_map, ← HN.out]; omega)
    injection e1 with e2 e3 e4
    subst e2
    have hel := HRW.out.own.row.el0 (i := i) (r := z.cells) (by rw [List.getElem?_map, hz]; rfl)
    have HC := Lib.hid (show wr.cell? ⟨b1, 0 + i * 2 + 0, none⟩ = some (strV z.pre) from hel 0 _ rfl)
    clear e3 e4 hz hlt hel
    obtain ⟨zn, hzn⟩ : ∃ x, x = z.pre.length := ⟨_, rfl⟩
    have HZN := Lib.hid hzn
    have yzn : (zn : Int) ≤ 9223372036854775807 := by have := (HRW.out.own.its z (List.mem_of_getElem? HZ.out)).1.pl; omega
    clear hzn
    go_upto_region 3 with fail
    refine wp_region_lit ?_
    refine wpList_run (v := .int .i64 (i : Int)) (wanted_none rfl) (exec_move rfl rfl) ?_
    simp only [Act.put, List.setIfInBounds_toArray, List.set_cons_zero, List.set_cons_succ]
    refine wpList_run (v := .pointer (some ⟨y, 0, none⟩)) (wanted_none rfl) (exec_move rfl rfl) ?_
    simp only [Act.put, List.setIfInBounds_toArray, List.set_cons_zero, List.set_cons_succ]
    refine wpList_run (v := .pointer (some ⟨y, 0, none⟩)) (wanted_none rfl) (exec_nil rfl rfl) ?_
    simp only [Act.put, List.setIfInBounds_toArray, List.set_cons_zero, List.set_cons_succ]
    refine wpList_run (v := .pointer (some ⟨y, 1, none⟩)) (wanted_none rfl) (exec_field (off := 0) (d := 1) rfl rfl (by kernel_rfl)) ?_
    simp only [Act.put, List.setIfInBounds_toArray, List.set_cons_zero, List.set_cons_succ]
    refine wpList_run (v := .slice (some ⟨b1, 0, none⟩) n c) (wanted_none rfl) (exec_load1 rfl rfl (by kernel_rfl) (HRW.out.blk.cell 1)) ?_
    simp only [Act.put, List.setIfInBounds_toArray, List.set_cons_zero, List.set_cons_succ]
    refine wpList_run (v := .int .i64 (n : Int)) (wanted_none rfl) (gx_len rfl rfl Try.underlying22) ?_
    simp only [Act.put, List.setIfInBounds_toArray, List.set_cons_zero, List.set_cons_succ]
    refine wpList_run (v := .bool true) (wanted_none rfl) (ix_lss rfl rfl rfl (decide_eq_true y3)) ?_
    simp only [Act.put, List.setIfInBounds_toArray, List.set_cons_zero, List.set_cons_succ]
    go_upto_region 5 with fail
    refine wp_region_lit ?_
    refine wpList_run (v := .pointer (some ⟨y, 0, none⟩)) (wanted_none rfl) (exec_move rfl rfl) ?_
    simp only [Act.put, List.setIfInBounds_toArray, List.set_cons_zero, List.set_cons_succ]
    refine wpList_run (v := .pointer (some ⟨y, 0, none⟩)) (wanted_none rfl) (exec_nil rfl rfl) ?_
    simp only [Act.put, List.setIfInBounds_toArray, List.set_cons_zero, List.set_cons_succ]
    refine wpList_run (v := .pointer (some ⟨y, 1, none⟩)) (wanted_none rfl) (exec_field (off := 0) (d := 1) rfl rfl (by kernel_rfl)) ?_
    simp only [Act.put, List.setIfInBounds_toArray, List.set_cons_zero, List.set_cons_succ]
    refine wpList_run (v := .slice (some ⟨b1, 0, none⟩) n c) (wanted_none rfl) (exec_load1 rfl rfl (by kernel_rfl) (HRW.out.blk.cell 1)) ?_
    simp only [Act.put, List.setIfInBounds_toArray, List.set_cons_zero, List.set_cons_succ]
    refine wpList_run (v := .int .i64 (i : Int)) (wanted_none rfl) (exec_move rfl rfl) ?_
    simp only [Act.put, List.setIfInBounds_toArray, List.set_cons_zero, List.set_cons_succ]
    refine wpList_run (v := .pointer (some ⟨b1, 0 + i * 2, none⟩)) (wanted_none rfl) (gx_iaddr (i := i) (sz := 2) rfl rfl rfl Try.underlying22 size_rt HLT.out rfl) ?_
    simp only [Act.put, List.setIfInBounds_toArray, List.set_cons_zero, List.set_cons_succ]
    refine wpList_run (v := .pointer (some ⟨b1, 0 + i * 2 + 0, none⟩)) (wanted_none rfl) (exec_field (off := 0 + i * 2) (d := 0) rfl rfl (by kernel_rfl)) ?_
    simp only [Act.put, List.setIfInBounds_toArray, List.set_cons_zero, List.set_cons_succ]
    refine wpList_run (v := strV z.pre) (wanted_none rfl) (exec_load1 rfl rfl (by kernel_rfl) HC.out) ?_
    simp only [Act.put, List.setIfInBounds_toArray, List.set_cons_zero, List.set_cons_succ]
    refine wpList_run (v := strV z.pre) (wanted_none rfl) (gx_assign rfl rfl) ?_
    simp only [Act.put, List.setIfInBounds_toArray, List.set_cons_zero, List.set_cons_succ]
    by_cases hle : zn ≤ pn
    · have HLE := Lib.hid hle
      have y5 : (zn : Int) ≤ (pn : Int) := by omega
      have HPI := Lib.hid (pre_iff (p := z.pre) (pan := p) (by have := HZN.out; have := HPN.out; omega))
      clear hle
      by_cases hpp : z.pre <+: p
      · have HPP := Lib.hid hpp
        clear hpp
        rcases best_is HBT.out with hb | ⟨k, x, hb, hki, hx⟩
        · subst hb
          go_upto_region 6 with fail
          first
          | (rename_i K9 hK9; have HKC := Lib.hid hK9; clear hK9)
          | (rename_i K9 hK9 K8; have HKC := Lib.hid hK9; clear hK9)
          refine wp_region_lit ?_
          refine wpList_run (v := strV p) (wanted_none rfl) (exec_move rfl rfl) ?_
          simp only [Act.put, List.setIfInBounds_toArray, List.set_cons_zero, List.set_cons_succ]
          refine wpList_run (v := .int .i64 (pn : Int)) (wanted_none rfl) (by rw [HPN.out]; exact exec_slen rfl rfl) ?_
          simp only [Act.put, List.setIfInBounds_toArray, List.set_cons_zero, List.set_cons_succ]
          refine wpList_run (v := strV z.pre) (wanted_none rfl) (exec_move rfl rfl) ?_
          simp only [Act.put, List.setIfInBounds_toArray, List.set_cons_zero, List.set_cons_succ]
          refine wpList_run (v := .int .i64 (zn : Int)) (wanted_none rfl) (by rw [HZN.out]; exact exec_slen rfl rfl) ?_
          simp only [Act.put, List.setIfInBounds_toArray, List.set_cons_zero, List.set_cons_succ]
          refine wpList_run (v := .bool true) (wanted_none rfl) (ix_geq rfl rfl rfl (decide_eq_true y5)) ?_
          simp only [Act.put, List.setIfInBounds_toArray, List.set_cons_zero, List.set_cons_succ]
          refine wpList_run (v := .bool true) (wanted_none rfl) (exec_move rfl rfl) ?_
          simp only [Act.put, List.setIfInBounds_toArray, List.set_cons_zero, List.set_cons_succ]
          refine wpList_run (v := strV p) rfl (exec_move rfl rfl) ?_
          simp only [Act.put, List.setIfInBounds_toArray, List.set_cons_zero, List.set_cons_succ]
          refine wpList_run (v := strV z.pre) rfl (exec_move rfl rfl) ?_
          simp only [Act.put, List.setIfInBounds_toArray, List.set_cons_zero, List.set_cons_succ]
          refine wpList_run (v := .int .i64 (zn : Int)) rfl (by rw [HZN.out]; exact exec_slen rfl rfl) ?_
          simp only [Act.put, List.setIfInBounds_toArray, List.set_cons_zero, List.set_cons_succ]
          refine wpList_run (v := strV (p.take zn)) rfl (exec_sto rfl rfl rfl (by have := HLE.out; have := HPN.out; omega)) ?_
          simp only [Act.put, List.setIfInBounds_toArray, List.set_cons_zero, List.set_cons_succ]
          refine wpList_run (v := strV z.pre) rfl (exec_move rfl rfl) ?_
          simp only [Act.put, List.setIfInBounds_toArray, List.set_cons_zero, List.set_cons_succ]
          refine wpList_run (v := .bool true) rfl (exec_seqlr rfl rfl rfl (by rw [HZN.out, HPI.out]; exact decide_eq_true HPP.out)) ?_
          simp only [Act.put, List.setIfInBounds_toArray, List.set_cons_zero, List.set_cons_succ]
          refine wpList_run (v := .bool true) (wanted_none rfl) (ix_pickT rfl rfl rfl) ?_
          simp only [Act.put, List.setIfInBounds_toArray, List.set_cons_zero, List.set_cons_succ]
          refine wpList_run (v := .bool true) (wanted_none rfl) (exec_move rfl rfl) ?_
          simp only [Act.put, List.setIfInBounds_toArray, List.set_cons_zero, List.set_cons_succ]
          refine wpList_run (v := .int .i64 (-1)) rfl (exec_move rfl rfl) ?_
          simp only [Act.put, List.setIfInBounds_toArray, List.set_cons_zero, List.set_cons_succ]
          refine wpList_run (v := .bool true) rfl (ix_lss rfl rfl rfl (by decide)) ?_
          simp only [Act.put, List.setIfInBounds_toArray, List.set_cons_zero, List.set_cons_succ]
          refine wpList_run (v := .bool true) rfl (exec_move rfl rfl) ?_
          simp only [Act.put, List.setIfInBounds_toArray, List.set_cons_zero, List.set_cons_succ]
          go_wp2_with fail
          refine HKC.out _ _ ?_
          clear HKC
          go_upto_region 7 with fail
          refine wp_region_lit ?_
          refine wpList_run (v := .int .i64 (i : Int)) (wanted_none rfl) (exec_move rfl rfl) ?_
          simp only [Act.put, List.setIfInBounds_toArray, List.set_cons_zero, List.set_cons_succ]
          refine wpList_run (v := .int .i64 (i : Int)) (wanted_none rfl) (gx_assign rfl rfl) ?_
          simp only [Act.put, List.setIfInBounds_toArray, List.set_cons_zero, List.set_cons_succ]
          go_upto_region 4 with fail
          refine wp_region_lit ?_
          refine wpList_run (v := .int .i64 (i : Int)) (wanted_none rfl) (exec_move rfl rfl) ?_
          simp only [Act.put, List.setIfInBounds_toArray, List.set_cons_zero, List.set_cons_succ]
          refine wpList_run (v := .int .i64 ((i + 1 : Nat) : Int)) (wanted_none rfl) (ix_add rfl rfl rfl (by omega) (by omega)) ?_
          simp only [Act.put, List.setIfInBounds_toArray, List.set_cons_zero, List.set_cons_succ]
          refine wpList_run (v := .int .i64 ((i + 1 : Nat) : Int)) (wanted_none rfl) (gx_assign rfl rfl) ?_
          simp only [Act.put, List.setIfInBounds_toArray, List.set_cons_zero, List.set_cons_succ]
          go_wp2_with fail
          go_roundg (n - (i + 1))
          case measure => have := HGK.out; have := HLT.out; omega
          case rel => exact ⟨i + 1, (i : Int), rfl, rfl, by have := HLT.out; omega, best_first HBT.out HZ.out HPP.out, HTR.out⟩
        · subst hb
          have HKI := Lib.hid (show k < n from by have := HLT.out; omega)
          have HX := Lib.hid hx
          obtain ⟨xn, hxn⟩ : ∃ y, y = x.pre.length := ⟨_, rfl⟩
          have HXN := Lib.hid hxn
          have yk : 0 ≤ (k : Int) := by omega
          have yxn : (xn : Int) ≤ 9223372036854775807 := by have := (HRW.out.own.its x (List.mem_of_getElem? HX.out)).1.pl; omega
          have hel := HRW.out.own.row.el0 (i := k) (r := x.cells) (by rw [List.getElem?_map, hx]; rfl)
          have HCX := Lib.hid (show wr.cell? ⟨b1, 0 + k * 2 + 0, none⟩ = some (strV x.pre) from hel 0 _ rfl)
          clear hki hx hxn hel
          by_cases hgt : xn < zn
          · have HGT := Lib.hid hgt
            have y6 : (xn : Int) < (zn : Int) := by omega
            clear hgt
            go_upto_region 6 with fail
            refine wp_region_lit ?_
            refine wpList_run (v := strV p) (wanted_none rfl) (exec_move rfl rfl) ?_
            simp only [Act.put, List.setIfInBounds_toArray, List.set_cons_zero, List.set_cons_succ]
            refine wpList_run (v := .int .i64 (pn : Int)) (wanted_none rfl) (by rw [HPN.out]; exact exec_slen rfl rfl) ?_
            simp only [Act.put, List.setIfInBounds_toArray, List.set_cons_zero, List.set_cons_succ]
            refine wpList_run (v := strV z.pre) (wanted_none rfl) (exec_move rfl rfl) ?_
            simp only [Act.put, List.setIfInBounds_toArray, List.set_cons_zero, List.set_cons_succ]
            refine wpList_run (v := .int .i64 (zn : Int)) (wanted_none rfl) (by rw [HZN.out]; exact exec_slen rfl rfl) ?_
            simp only [Act.put, List.setIfInBounds_toArray, List.set_cons_zero, List.set_cons_succ]
            refine wpList_run (v := .bool true) (wanted_none rfl) (ix_geq rfl rfl rfl (decide_eq_true y5)) ?_
            simp only [Act.put, List.setIfInBounds_toArray, List.set_cons_zero, List.set_cons_succ]
            refine wpList_run (v := .bool true) (wanted_none rfl) (exec_move rfl rfl) ?_
            simp only [Act.put, List.setIfInBounds_toArray, List.set_cons_zero, List.set_cons_succ]
            refine wpList_run (v := strV p) rfl (exec_move rfl rfl) ?_
            simp only [Act.put, List.setIfInBounds_toArray, List.set_cons_zero, List.set_cons_succ]
            refine wpList_run (v := strV z.pre) rfl (exec_move rfl rfl) ?_
            simp only [Act.put, List.setIfInBounds_toArray, List.set_cons_zero, List.set_cons_succ]
            refine wpList_run (v := .int .i64 (zn : Int)) rfl (by rw [HZN.out]; exact exec_slen rfl rfl) ?_
            simp only [Act.put, List.setIfInBounds_toArray, List.set_cons_zero, List.set_cons_succ]
            refine wpList_run (v := strV (p.take zn)) rfl (exec_sto rfl rfl rfl (by have := HLE.out; have := HPN.out; omega)) ?_
            simp only [Act.put, List.setIfInBounds_toArray, List.set_cons_zero, List.set_cons_succ]
            refine wpList_run (v := strV z.pre) rfl (exec_move rfl rfl) ?_
            simp only [Act.put, List.setIfInBounds_toArray, List.set_cons_zero, List.set_cons_succ]
            refine wpList_run (v := .bool true) rfl (exec_seqlr rfl rfl rfl (by rw [HZN.out, HPI.out]; exact decide_eq_true HPP.out)) ?_
            simp only [Act.put, List.setIfInBounds_toArray, List.set_cons_zero, List.set_cons_succ]
            refine wpList_run (v := .bool true) (wanted_none rfl) (ix_pickT rfl rfl rfl) ?_
            simp only [Act.put, List.setIfInBounds_toArray, List.set_cons_zero, List.set_cons_succ]
            refine wpList_run (v := .bool true) (wanted_none rfl) (exec_move rfl rfl) ?_
            simp only [Act.put, List.setIfInBounds_toArray, List.set_cons_zero, List.set_cons_succ]
            refine wpList_run (v := .int .i64 (k : Int)) rfl (exec_move rfl rfl) ?_
            simp only [Act.put, List.setIfInBounds_toArray, List.set_cons_zero, List.set_cons_succ]
            refine wpList_run (v := .bool false) rfl (ix_lss rfl rfl rfl (decide_eq_false (by omega))) ?_
            simp only [Act.put, List.setIfInBounds_toArray, List.set_cons_zero, List.set_cons_succ]
            refine wpList_run (v := .bool false) rfl (exec_move rfl rfl) ?_
            simp only [Act.put, List.setIfInBounds_toArray, List.set_cons_zero, List.set_cons_succ]
            refine wpList_run (v := strV z.pre) rfl (exec_move rfl rfl) ?_
            simp only [Act.put, List.setIfInBounds_toArray, List.set_cons_zero, List.set_cons_succ]
            refine wpList_run (v := .int .i64 (zn : Int)) rfl (by rw [HZN.out]; exact exec_slen rfl rfl) ?_
            simp only [Act.put, List.setIfInBounds_toArray, List.set_cons_zero, List.set_cons_succ]
            refine wpList_run (v := .pointer (some ⟨y, 0, none⟩)) rfl (exec_move rfl rfl) ?_
            simp only [Act.put, List.setIfInBounds_toArray, List.set_cons_zero, List.set_cons_succ]
            refine wpList_run (v := .pointer (some ⟨y, 0, none⟩)) rfl (exec_nil rfl rfl) ?_
            simp only [Act.put, List.setIfInBounds_toArray, List.set_cons_zero, List.set_cons_succ]
            refine wpList_run (v := .pointer (some ⟨y, 1, none⟩)) rfl (exec_field (off := 0) (d := 1) rfl rfl (by kernel_rfl)) ?_
            simp only [Act.put, List.setIfInBounds_toArray, List.set_cons_zero, List.set_cons_succ]
            refine wpList_run (v := .slice (some ⟨b1, 0, none⟩) n c) rfl (exec_load1 rfl rfl (by kernel_rfl) (HRW.out.blk.cell 1)) ?_
            simp only [Act.put, List.setIfInBounds_toArray, List.set_cons_zero, List.set_cons_succ]
            refine wpList_run (v := .int .i64 (k : Int)) rfl (exec_move rfl rfl) ?_
            simp only [Act.put, List.setIfInBounds_toArray, List.set_cons_zero, List.set_cons_succ]
            refine wpList_run (v := .pointer (some ⟨b1, 0 + k * 2, none⟩)) rfl (gx_iaddr (i := k) (sz := 2) rfl rfl rfl Try.underlying22 size_rt HKI.out rfl) ?_
            simp only [Act.put, List.setIfInBounds_toArray, List.set_cons_zero, List.set_cons_succ]
            refine wpList_run (v := .pointer (some ⟨b1, 0 + k * 2 + 0, none⟩)) rfl (exec_field (off := 0 + k * 2) (d := 0) rfl rfl (by kernel_rfl)) ?_
            simp only [Act.put, List.setIfInBounds_toArray, List.set_cons_zero, List.set_cons_succ]
            refine wpList_run (v := strV x.pre) rfl (exec_load1 rfl rfl (by kernel_rfl) HCX.out) ?_
            simp only [Act.put, List.setIfInBounds_toArray, List.set_cons_zero, List.set_cons_succ]
            refine wpList_run (v := .int .i64 (xn : Int)) rfl (by rw [HXN.out]; exact exec_slen rfl rfl) ?_
            simp only [Act.put, List.setIfInBounds_toArray, List.set_cons_zero, List.set_cons_succ]
            refine wpList_run (v := .bool true) rfl (ix_gtr rfl rfl rfl (decide_eq_true y6)) ?_
            simp only [Act.put, List.setIfInBounds_toArray, List.set_cons_zero, List.set_cons_succ]
            refine wpList_run (v := .bool true) rfl (ix_pickF rfl rfl rfl) ?_
            simp only [Act.put, List.setIfInBounds_toArray, List.set_cons_zero, List.set_cons_succ]
            refine wpList_run (v := .bool true) (wanted_none rfl) (ix_pickT rfl rfl rfl) ?_
            simp only [Act.put, List.setIfInBounds_toArray, List.set_cons_zero, List.set_cons_succ]
            go_upto_region 7 with fail
            refine wp_region_lit ?_
            refine wpList_run (v := .int .i64 (i : Int)) (wanted_none rfl) (exec_move rfl rfl) ?_
            simp only [Act.put, List.setIfInBounds_toArray, List.set_cons_zero, List.set_cons_succ]
            refine wpList_run (v := .int .i64 (i : Int)) (wanted_none rfl) (gx_assign rfl rfl) ?_
            simp only [Act.put, List.setIfInBounds_toArray, List.set_cons_zero, List.set_cons_succ]
            go_upto_region 4 with fail
            refine wp_region_lit ?_
            refine wpList_run (v := .int .i64 (i : Int)) (wanted_none rfl) (exec_move rfl rfl) ?_
            simp only [Act.put, List.setIfInBounds_toArray, List.set_cons_zero, List.set_cons_succ]
            refine wpList_run (v := .int .i64 ((i + 1 : Nat) : Int)) (wanted_none rfl) (ix_add rfl rfl rfl (by omega) (by omega)) ?_
            simp only [Act.put, List.setIfInBounds_toArray, List.set_cons_zero, List.set_cons_succ]
            refine wpList_run (v := .int .i64 ((i + 1 : Nat) : Int)) (wanted_none rfl) (gx_assign rfl rfl) ?_
            simp only [Act.put, List.setIfInBounds_toArray, List.set_cons_zero, List.set_cons_succ]
            go_wp2_with fail
            go_roundg (n - (i + 1))
            case measure => have := HGK.out; have := HLT.out; omega
            case rel => exact ⟨i + 1, (i : Int), rfl, rfl, by have := HLT.out; omega, best_more HBT.out HX.out HZ.out HPP.out (by have := HGT.out; have := HXN.out; have := HZN.out; omega), HTR.out⟩
          · have HGT := Lib.hid hgt
            have y6 : ¬ (xn : Int) < (zn : Int) := by omega
            clear hgt
            go_upto_region 6 with fail
            refine wp_region_lit ?_
            refine wpList_run (v := strV p) (wanted_none rfl) (exec_move rfl rfl) ?_
            simp only [Act.put, List.setIfInBounds_toArray, List.set_cons_zero, List.set_cons_succ]
            refine wpList_run (v := .int .i64 (pn : Int)) (wanted_none rfl) (by rw [HPN.out]; exact exec_slen rfl rfl) ?_
            simp only [Act.put, List.setIfInBounds_toArray, List.set_cons_zero, List.set_cons_succ]
            refine wpList_run (v := strV z.pre) (wanted_none rfl) (exec_move rfl rfl) ?_
            simp only [Act.put, List.setIfInBounds_toArray, List.set_cons_zero, List.set_cons_succ]
            refine wpList_run (v := .int .i64 (zn : Int)) (wanted_none rfl) (by rw [HZN.out]; exact exec_slen rfl rfl) ?_
            simp only [Act.put, List.setIfInBounds_toArray, List.set_cons_zero, List.set_cons_succ]
            refine wpList_run (v := .bool true) (wanted_none rfl) (ix_geq rfl rfl rfl (decide_eq_true y5)) ?_
            simp only [Act.put, List.setIfInBounds_toArray, List.set_cons_zero, List.set_cons_succ]
            refine wpList_run (v := .bool true) (wanted_none rfl) (exec_move rfl rfl) ?_
            simp only [Act.put, List.setIfInBounds_toArray, List.set_cons_zero, List.set_cons_succ]
            refine wpList_run (v := strV p) rfl (exec_move rfl rfl) ?_
            simp only [Act.put, List.setIfInBounds_toArray, List.set_cons_zero, List.set_cons_succ]
            refine wpList_run (v := strV z.pre) rfl (exec_move rfl rfl) ?_
            simp only [Act.put, List.setIfInBounds_toArray, List.set_cons_zero, List.set_cons_succ]
            refine wpList_run (v := .int .i64 (zn : Int)) rfl (by rw [HZN.out]; exact exec_slen rfl rfl) ?_
            simp only [Act.put, List.setIfInBounds_toArray, List.set_cons_zero, List.set_cons_succ]
            refine wpList_run (v := strV (p.take zn)) rfl (exec_sto rfl rfl rfl (by have := HLE.out; have := HPN.out; omega)) ?_
            simp only [Act.put, List.setIfInBounds_toArray, List.set_cons_zero, List.set_cons_succ]
            refine wpList_run (v := strV z.pre) rfl (exec_move rfl rfl) ?_
            simp only [Act.put, List.setIfInBounds_toArray, List.set_cons_zero, List.set_cons_succ]
            refine wpList_run (v := .bool true) rfl (exec_seqlr rfl rfl rfl (by rw [HZN.out, HPI.out]; exact decide_eq_true HPP.out)) ?_
            simp only [Act.put, List.setIfInBounds_toArray, List.set_cons_zero, List.set_cons_succ]
            refine wpList_run (v := .bool true) (wanted_none rfl) (ix_pickT rfl rfl rfl) ?_
            simp only [Act.put, List.setIfInBounds_toArray, List.set_cons_zero, List.set_cons_succ]
            refine wpList_run (v := .bool true) (wanted_none rfl) (exec_move rfl rfl) ?_
            simp only [Act.put, List.setIfInBounds_toArray, List.set_cons_zero, List.set_cons_succ]
            refine wpList_run (v := .int .i64 (k : Int)) rfl (exec_move rfl rfl) ?_
            simp only [Act.put, List.setIfInBounds_toArray, List.set_cons_zero, List.set_cons_succ]
            refine wpList_run (v := .bool false) rfl (ix_lss rfl rfl rfl (decide_eq_false (by omega))) ?_
            simp only [Act.put, List.setIfInBounds_toArray, List.set_cons_zero, List.set_cons_succ]
            refine wpList_run (v := .bool false) rfl (exec_move rfl rfl) ?_
            simp only [Act.put, List.setIfInBounds_toArray, List.set_cons_zero, List.set_cons_succ]
            refine wpList_run (v := strV z.pre) rfl (exec_move rfl rfl) ?_
            simp only [Act.put, List.setIfInBounds_toArray, List.set_cons_zero, List.set_cons_succ]
            refine wpList_run (v := .int .i64 (zn : Int)) rfl (by rw [HZN.out]; exact exec_slen rfl rfl) ?_
            simp only [Act.put, List.setIfInBounds_toArray, List.set_cons_zero, List.set_cons_succ]
            refine wpList_run (v := .pointer (some ⟨y, 0, none⟩)) rfl (exec_move rfl rfl) ?_
            simp only [Act.put, List.setIfInBounds_toArray, List.set_cons_zero, List.set_cons_succ]
            refine wpList_run (v := .pointer (some ⟨y, 0, none⟩)) rfl (exec_nil rfl rfl) ?_
            simp only [Act.put, List.setIfInBounds_toArray, List.set_cons_zero, List.set_cons_succ]
            refine wpList_run (v := .pointer (some ⟨y, 1, none⟩)) rfl (exec_field (off := 0) (d := 1) rfl rfl (by kernel_rfl)) ?_
            simp only [Act.put, List.setIfInBounds_toArray, List.set_cons_zero, List.set_cons_succ]
            refine wpList_run (v := .slice (some ⟨b1, 0, none⟩) n c) rfl (exec_load1 rfl rfl (by kernel_rfl) (HRW.out.blk.cell 1)) ?_
            simp only [Act.put, List.setIfInBounds_toArray, List.set_cons_zero, List.set_cons_succ]
            refine wpList_run (v := .int .i64 (k : Int)) rfl (exec_move rfl rfl) ?_
            simp only [Act.put, List.setIfInBounds_toArray, List.set_cons_zero, List.set_cons_succ]
            refine wpList_run (v := .pointer (some ⟨b1, 0 + k * 2, none⟩)) rfl (gx_iaddr (i := k) (sz := 2) rfl rfl rfl Try.underlying22 size_rt HKI.out rfl) ?_
            simp only [Act.put, List.setIfInBounds_toArray, List.set_cons_zero, List.set_cons_succ]
            refine wpList_run (v := .pointer (some ⟨b1, 0 + k * 2 + 0, none⟩)) rfl (exec_field (off := 0 + k * 2) (d := 0) rfl rfl (by kernel_rfl)) ?_
            simp only [Act.put, List.setIfInBounds_toArray, List.set_cons_zero, List.set_cons_succ]
            refine wpList_run (v := strV x.pre) rfl (exec_load1 rfl rfl (by kernel_rfl) HCX.out) ?_
            simp only [Act.put, List.setIfInBounds_toArray, List.set_cons_zero, List.set_cons_succ]
            refine wpList_run (v := .int .i64 (xn : Int)) rfl (by rw [HXN.out]; exact exec_slen rfl rfl) ?_
            simp only [Act.put, List.setIfInBounds_toArray, List.set_cons_zero, List.set_cons_succ]
            refine wpList_run (v := .bool false) rfl (ix_gtr rfl rfl rfl (decide_eq_false (by omega))) ?_
            simp only [Act.put, List.setIfInBounds_toArray, List.set_cons_zero, List.set_cons_succ]
            refine wpList_run (v := .bool false) rfl (ix_pickF rfl rfl rfl) ?_
            simp only [Act.put, List.setIfInBounds_toArray, List.set_cons_zero, List.set_cons_succ]
            refine wpList_run (v := .bool false) (wanted_none rfl) (ix_pickT rfl rfl rfl) ?_
            simp only [Act.put, List.setIfInBounds_toArray, List.set_cons_zero, List.set_cons_succ]
            go_upto_region 4 with fail
            refine wp_region_lit ?_
            refine wpList_run (v := .int .i64 (i : Int)) (wanted_none rfl) (exec_move rfl rfl) ?_
            simp only [Act.put, List.setIfInBounds_toArray, List.set_cons_zero, List.set_cons_succ]
            refine wpList_run (v := .int .i64 ((i + 1 : Nat) : Int)) (wanted_none rfl) (ix_add rfl rfl rfl (by omega) (by omega)) ?_
            simp only [Act.put, List.setIfInBounds_toArray, List.set_cons_zero, List.set_cons_succ]
            refine wpList_run (v := .int .i64 ((i + 1 : Nat) : Int)) (wanted_none rfl) (gx_assign rfl rfl) ?_
            simp only [Act.put, List.setIfInBounds_toArray, List.set_cons_zero, List.set_cons_succ]
            go_wp2_with fail
            go_roundg (n - (i + 1))
            case measure => have := HGK.out; have := HLT.out; omega
            case rel => exact ⟨i + 1, (k : Int), rfl, rfl, by have := HLT.out; omega, best_keep HBT.out HX.out HZ.out (by have := HGT.out; have := HXN.out; have := HZN.out; omega), HTR.out⟩
      · have HPP := Lib.hid hpp
        clear hpp
        go_upto_region 6 with fail
        first
        | (rename_i K9 hK9; have HKC := Lib.hid hK9; clear hK9)
        | (rename_i K9 hK9 K8; have HKC := Lib.hid hK9; clear hK9)
        refine wp_region_lit ?_
        refine wpList_run (v := strV p) (wanted_none rfl) (exec_move rfl rfl) ?_
        simp only [Act.put, List.setIfInBounds_toArray, List.set_cons_zero, List.set_cons_succ]
        refine wpList_run (v := .int .i64 (pn : Int)) (wanted_none rfl) (by rw [HPN.out]; exact exec_slen rfl rfl) ?_
        simp only [Act.put, List.setIfInBounds_toArray, List.set_cons_zero, List.set_cons_succ]
        refine wpList_run (v := strV z.pre) (wanted_none rfl) (exec_move rfl rfl) ?_
        simp only [Act.put, List.setIfInBounds_toArray, List.set_cons_zero, List.set_cons_succ]
        refine wpList_run (v := .int .i64 (zn : Int)) (wanted_none rfl) (by rw [HZN.out]; exact exec_slen rfl rfl) ?_
        simp only [Act.put, List.setIfInBounds_toArray, List.set_cons_zero, List.set_cons_succ]
        refine wpList_run (v := .bool true) (wanted_none rfl) (ix_geq rfl rfl rfl (decide_eq_true y5)) ?_
        simp only [Act.put, List.setIfInBounds_toArray, List.set_cons_zero, List.set_cons_succ]
        refine wpList_run (v := .bool true) (wanted_none rfl) (exec_move rfl rfl) ?_
        simp only [Act.put, List.setIfInBounds_toArray, List.set_cons_zero, List.set_cons_succ]
        refine wpList_run (v := strV p) rfl (exec_move rfl rfl) ?_
        simp only [Act.put, List.setIfInBounds_toArray, List.set_cons_zero, List.set_cons_succ]
        refine wpList_run (v := strV z.pre) rfl (exec_move rfl rfl) ?_
        simp only [Act.put, List.setIfInBounds_toArray, List.set_cons_zero, List.set_cons_succ]
        refine wpList_run (v := .int .i64 (zn : Int)) rfl (by rw [HZN.out]; exact exec_slen rfl rfl) ?_
        simp only [Act.put, List.setIfInBounds_toArray, List.set_cons_zero, List.set_cons_succ]
        refine wpList_run (v := strV (p.take zn)) rfl (exec_sto rfl rfl rfl (by have := HLE.out; have := HPN.out; omega)) ?_
        simp only [Act.put, List.setIfInBounds_toArray, List.set_cons_zero, List.set_cons_succ]
        refine wpList_run (v := strV z.pre) rfl (exec_move rfl rfl) ?_
        simp only [Act.put, List.setIfInBounds_toArray, List.set_cons_zero, List.set_cons_succ]
        refine wpList_run (v := .bool false) rfl (exec_seqlr rfl rfl rfl (by rw [HZN.out, HPI.out]; exact decide_eq_false HPP.out)) ?_
        simp only [Act.put, List.setIfInBounds_toArray, List.set_cons_zero, List.set_cons_succ]
        refine wpList_run (v := .bool false) (wanted_none rfl) (ix_pickT rfl rfl rfl) ?_
        simp only [Act.put, List.setIfInBounds_toArray, List.set_cons_zero, List.set_cons_succ]
        refine wpList_run (v := .bool false) (wanted_none rfl) (exec_move rfl rfl) ?_
        simp only [Act.put, List.setIfInBounds_toArray, List.set_cons_zero, List.set_cons_succ]
        go_wp2_with fail
        refine HKC.out _ _ ?_
        clear HKC
        go_upto_region 4 with fail
        refine wp_region_lit ?_
        refine wpList_run (v := .int .i64 (i : Int)) (wanted_none rfl) (exec_move rfl rfl) ?_
        simp only [Act.put, List.setIfInBounds_toArray, List.set_cons_zero, List.set_cons_succ]
        refine wpList_run (v := .int .i64 ((i + 1 : Nat) : Int)) (wanted_none rfl) (ix_add rfl rfl rfl (by omega) (by omega)) ?_
        simp only [Act.put, List.setIfInBounds_toArray, List.set_cons_zero, List.set_cons_succ]
        refine wpList_run (v := .int .i64 ((i + 1 : Nat) : Int)) (wanted_none rfl) (gx_assign rfl rfl) ?_
        simp only [Act.put, List.setIfInBounds_toArray, List.set_cons_zero, List.set_cons_succ]
        go_wp2_with fail
        go_roundg (n - (i + 1))
        case measure => have := HGK.out; have := HLT.out; omega
        case rel => exact ⟨i + 1, b, rfl, rfl, by have := HLT.out; omega, best_out HBT.out HZ.out HPP.out, HTR.out⟩
    · have HPP := Lib.hid (show ¬ z.pre <+: p from fun e => by have := e.length_le; have := HZN.out; have := HPN.out; omega)
      have y5 : ¬ (zn : Int) ≤ (pn : Int) := by omega
      clear hle
      go_upto_region 6 with fail
      first
      | (rename_i K9 hK9; have HKC := Lib.hid hK9; clear hK9)
      | (rename_i K9 hK9 K8; have HKC := Lib.hid hK9; clear hK9)
      refine wp_region_lit ?_
      refine wpList_run (v := strV p) (wanted_none rfl) (exec_move rfl rfl) ?_
      simp only [Act.put, List.setIfInBounds_toArray, List.set_cons_zero, List.set_cons_succ]
      refine wpList_run (v := .int .i64 (pn : Int)) (wanted_none rfl) (by rw [HPN.out]; exact exec_slen rfl rfl) ?_
      simp only [Act.put, List.setIfInBounds_toArray, List.set_cons_zero, List.set_cons_succ]
      refine wpList_run (v := strV z.pre) (wanted_none rfl) (exec_move rfl rfl) ?_
      simp only [Act.put, List.setIfInBounds_toArray, List.set_cons_zero, List.set_cons_succ]
      refine wpList_run (v := .int .i64 (zn : Int)) (wanted_none rfl) (by rw [HZN.out]; exact exec_slen rfl rfl) ?_
      simp only [Act.put, List.setIfInBounds_toArray, List.set_cons_zero, List.set_cons_succ]
      refine wpList_run (v := .bool false) (wanted_none rfl) (ix_geq rfl rfl rfl (decide_eq_false (by omega))) ?_
      simp only [Act.put, List.setIfInBounds_toArray, List.set_cons_zero, List.set_cons_succ]
      refine wpList_run (v := .bool false) (wanted_none rfl) (exec_move rfl rfl) ?_
      simp only [Act.put, List.setIfInBounds_toArray, List.set_cons_zero, List.set_cons_succ]
      go_wp2_with fail
      refine HKC.out _ _ ?_
      clear HKC
      go_upto_region 4 with fail
      refine wp_region_lit ?_
      refine wpList_run (v := .int .i64 (i : Int)) (wanted_none rfl) (exec_move rfl rfl) ?_
      simp only [Act.put, List.setIfInBounds_toArray, List.set_cons_zero, List.set_cons_succ]
      refine wpList_run (v := .int .i64 ((i + 1 : Nat) : Int)) (wanted_none rfl) (ix_add rfl rfl rfl (by omega) (by omega)) ?_
      simp only [Act.put, List.setIfInBounds_toArray, List.set_cons_zero, List.set_cons_succ]
      refine wpList_run (v := .int .i64 ((i + 1 : Nat) : Int)) (wanted_none rfl) (gx_assign rfl rfl) ?_
      simp only [Act.put, List.setIfInBounds_toArray, List.set_cons_zero, List.set_cons_succ]
      go_wp2_with fail
      go_roundg (n - (i + 1))
      case measure => have := HGK.out; have := HLT.out; omega
      case rel => exact ⟨i + 1, b, rfl, rfl, by have := HLT.out; omega, best_out HBT.out HZ.out HPP.out, HTR.out⟩
  · obtain rfl : n = i := by have := HGK.out; omega
    clear hlt
    go_upto_region 3 with fail
    refine wp_region_lit ?_
    refine wpList_run (v := .int .i64 (n : Int)) (wanted_none rfl) (exec_move rfl rfl) ?_
    simp only [Act.put, List.setIfInBounds_toArray, List.set_cons_zero, List.set_cons_succ]
    refine wpList_run (v := .pointer (some ⟨y, 0, none⟩)) (wanted_none rfl) (exec_move rfl rfl) ?_
    simp only [Act.put, List.setIfInBounds_toArray, List.set_cons_zero, List.set_cons_succ]
    refine wpList_run (v := .pointer (some ⟨y, 0, none⟩)) (wanted_none rfl) (exec_nil rfl rfl) ?_
    simp only [Act.put, List.setIfInBounds_toArray, List.set_cons_zero, List.set_cons_succ]
    refine wpList_run (v := .pointer (some ⟨y, 1, none⟩)) (wanted_none rfl) (exec_field (off := 0) (d := 1) rfl rfl (by kernel_rfl)) ?_
    simp only [Act.put, List.setIfInBounds_toArray, List.set_cons_zero, List.set_cons_succ]
    refine wpList_run (v := .slice A n c) (wanted_none rfl) (exec_load1 rfl rfl (by kernel_rfl) (HRW.out.blk.cell 1)) ?_
    simp only [Act.put, List.setIfInBounds_toArray, List.set_cons_zero, List.set_cons_succ]
    refine wpList_run (v := .int .i64 (n : Int)) (wanted_none rfl) (gx_len rfl rfl Try.underlying22) ?_
    simp only [Act.put, List.setIfInBounds_toArray, List.set_cons_zero, List.set_cons_succ]
    refine wpList_run (v := .bool false) (wanted_none rfl) (ix_lss rfl rfl rfl (decide_eq_false (by omega))) ?_
    simp only [Act.put, List.setIfInBounds_toArray, List.set_cons_zero, List.set_cons_succ]
    rcases best_is HBT.out with hb | ⟨k, x, hb, hki, hx⟩
    · subst hb
      go_upto_region 8 with fail
      refine wp_region_lit ?_
      refine wpList_run (v := .int .i64 (-1)) (wanted_none rfl) (exec_move rfl rfl) ?_
      simp only [Act.put, List.setIfInBounds_toArray, List.set_cons_zero, List.set_cons_succ]
      refine wpList_run (v := .bool true) (wanted_none rfl) (ix_lss rfl rfl rfl (by decide)) ?_
      simp only [Act.put, List.setIfInBounds_toArray, List.set_cons_zero, List.set_cons_succ]
      go_upto_region 9 with fail
      refine wp_region_lit ?_
      refine wpList_run (v := .slice none 0 0) (wanted_none rfl) (gx_assign rfl rfl) ?_
      simp only [Act.put, List.setIfInBounds_toArray, List.set_cons_zero, List.set_cons_succ]
      refine wpList_run (v := .bool false) (wanted_none rfl) (gx_assign rfl rfl) ?_
      simp only [Act.put, List.setIfInBounds_toArray, List.set_cons_zero, List.set_cons_succ]
      go_wp2_with fail
      go_ret2
      exact ⟨none, by rw [HPL.out]; exact best_end0 HN.out HBT.out, HTR.out, rfl⟩
    · subst hb
      have HKI := Lib.hid hki
      have HX := Lib.hid hx
      have yk : 0 ≤ (k : Int) := by omega
      obtain ⟨b1, c1, e1, _, _⟩ := HRW.out.own.row.some_ (by rw [List.length_map, ← HN.out]; omega)
      injection e1 with e2 e3 e4
      subst e2
      have HXO := Lib.hid (HRW.out.own.its x (List.mem_of_getElem? hx)).1
      obtain ⟨A7, c7, w7, hrun, hrow, ht7, hok⟩ := copyI HXO.out
      have HRUN7 := Lib.hid hrun
      have HO7 := Lib.hid hrow
      have HT7 := Lib.hid ht7
      have HBA := Lib.hid (HRW.out.blk.alloc (.cells #[] 3))
      have hel := (HRW.out.own.row.still ((Turn.refl nowhere wr).alloc (.cells #[] 3))).el0 (i := k) (r := x.cells) (by rw [List.getElem?_map, hx]; rfl)
      have HCX := Lib.hid (show (wr.alloc (.cells #[] 3)).cell? ⟨b1, 0 + k * 2 + 1, none⟩ = some (.slice x.A x.n x.c) from hel 1 _ rfl)
      clear e3 e4 hki hx hrun hrow ht7 hok hel
      go_upto_region 8 with fail
      refine wp_region_lit ?_
      refine wpList_run (v := .int .i64 (k : Int)) (wanted_none rfl) (exec_move rfl rfl) ?_
      simp only [Act.put, List.setIfInBounds_toArray, List.set_cons_zero, List.set_cons_succ]
      refine wpList_run (v := .bool false) (wanted_none rfl) (ix_lss rfl rfl rfl (decide_eq_false (by omega))) ?_
      simp only [Act.put, List.setIfInBounds_toArray, List.set_cons_zero, List.set_cons_succ]
      go_upto_region 10 with fail
      refine wp_region_lit ?_
      refine wpList_run (v := .slice (some ⟨wr.heap.size, 0, none⟩) 0 0) (w' := wr.alloc (.cells #[] 3)) (wanted_none rfl) (bx_slice0 rfl (build0I _)) ?_
      simp only [Act.put, List.setIfInBounds_toArray, List.set_cons_zero, List.set_cons_succ]
      refine wpList_run (v := .pointer (some ⟨y, 0, none⟩)) (wanted_none rfl) (exec_move rfl rfl) ?_
      simp only [Act.put, List.setIfInBounds_toArray, List.set_cons_zero, List.set_cons_succ]
      refine wpList_run (v := .pointer (some ⟨y, 0, none⟩)) (wanted_none rfl) (exec_nil rfl rfl) ?_
      simp only [Act.put, List.setIfInBounds_toArray, List.set_cons_zero, List.set_cons_succ]
      refine wpList_run (v := .pointer (some ⟨y, 1, none⟩)) (wanted_none rfl) (exec_field (off := 0) (d := 1) rfl rfl (by kernel_rfl)) ?_
      simp only [Act.put, List.setIfInBounds_toArray, List.set_cons_zero, List.set_cons_succ]
      refine wpList_run (v := .slice (some ⟨b1, 0, none⟩) n c) (wanted_none rfl) (exec_load1 rfl rfl (by kernel_rfl) (HBA.out.cell 1)) ?_
      simp only [Act.put, List.setIfInBounds_toArray, List.set_cons_zero, List.set_cons_succ]
      refine wpList_run (v := .int .i64 (k : Int)) (wanted_none rfl) (exec_move rfl rfl) ?_
      simp only [Act.put, List.setIfInBounds_toArray, List.set_cons_zero, List.set_cons_succ]
      refine wpList_run (v := .pointer (some ⟨b1, 0 + k * 2, none⟩)) (wanted_none rfl) (gx_iaddr (i := k) (sz := 2) rfl rfl rfl Try.underlying22 size_rt HKI.out rfl) ?_
      simp only [Act.put, List.setIfInBounds_toArray, List.set_cons_zero, List.set_cons_succ]
      refine wpList_run (v := .pointer (some ⟨b1, 0 + k * 2 + 1, none⟩)) (wanted_none rfl) (exec_field (off := 0 + k * 2) (d := 1) rfl rfl (by kernel_rfl)) ?_
      simp only [Act.put, List.setIfInBounds_toArray, List.set_cons_zero, List.set_cons_succ]
      refine wpList_run (v := .slice x.A x.n x.c) (wanted_none rfl) (exec_load1 rfl rfl (by kernel_rfl) HCX.out) ?_
      simp only [Act.put, List.setIfInBounds_toArray, List.set_cons_zero, List.set_cons_succ]
      refine wpList_run (v := .slice A7 x.n c7) (w' := w7) (wanted_none rfl) (exec_append rfl rfl rfl HRUN7.out) ?_
      simp only [Act.put, List.setIfInBounds_toArray, List.set_cons_zero, List.set_cons_succ]
      refine wpList_run (v := .slice A7 x.n c7) (wanted_none rfl) (gx_assign rfl rfl) ?_
      simp only [Act.put, List.setIfInBounds_toArray, List.set_cons_zero, List.set_cons_succ]
      refine wpList_run (v := .bool true) (wanted_none rfl) (gx_assign rfl rfl) ?_
      simp only [Act.put, List.setIfInBounds_toArray, List.set_cons_zero, List.set_cons_succ]
      go_wp2_with fail
      go_ret2
      have hxl := HXO.out.ia.len
      have ho := HO7.out
      rw [hxl] at ho ⊢
      exact ⟨some x.to_, by rw [HPL.out]; exact best_end1 HN.out HBT.out HX.out, HTR.out.trans HT7.out fun _ _ e => e, A7, c7, rfl, ho.less HTR.out.size⟩
end Go.Proofs.Ytihmpbilbnajpaa
