/-
  Routes: the reference's New and Clone: the walks. No conditions.
-/
import Derived.Test.YtihmpbilbnajpaaRtF
namespace Go.Proofs.Ytihmpbilbnajpaa
open Go.RowKit
open Ix
open Rt (R)
set_option linter.unusedVariables false
set_option linter.unusedSimpArgs false
theorem buildT1 (m : Int) (W : World) : (Instr.build 49 #[(0, .int .i64 m)]).run Try.prog W = .ok (.agg #[.int .i64 m, .slice none 0 0]) W := by kernel_rfl
theorem buildT2 (m : Int) (A : Option Addr) (n c : Nat) (W : World) : (Instr.build 49 #[(0, .int .i64 m), (1, .slice A n c)]).run Try.prog W = .ok (.agg #[.int .i64 m, .slice A n c]) W := by kernel_rfl
theorem boxT (m : Int) (A : Option Addr) (n c : Nat) (w : World) : (Instr.box 49 (.agg #[.int .i64 m, .slice A n c])).run Try.prog w = .ok (.pointer (some ⟨w.heap.size, 0, none⟩)) (w.alloc (.cells #[.int .i64 m, .slice A n c] 49)) := by
  simp [Instr.box, newVar, newRow, Result.andThen, Value.cells]
/-- a table of the reference's, made behind w -/
def RefNew (w : World) (y : Nat) (m : Int) (l : List R) (w' : World) : Prop := w.heap.size ≤ y ∧ Turn nowhere w w' ∧ ∃ v vs, RefT w' w.heap.size y m v vs ∧ vs.map RtV.plain = l
/-- what New tells and makes -/
def RNewP (w : World) (m : Int) (rs : List R) (e : Ending) (w' : World) : Prop :=
  (¬ (1 ≤ m ∧ m ≤ 6) ∧ e = .returned (.tuple #[.pointer none, .int .i64 130]) ∧ Turn nowhere w w') ∨
  ((1 ≤ m ∧ m ≤ 6) ∧ Rt.newE m [] rs ≠ 0 ∧ e = .returned (.tuple #[.pointer none, .int .i64 (Rt.newE m [] rs)]) ∧ Turn nowhere w w') ∨
  ((1 ≤ m ∧ m ≤ 6) ∧ Rt.newE m [] rs = 0 ∧ ∃ y, e = .returned (.tuple #[.pointer (some ⟨y, 0, none⟩), .int .i64 0]) ∧ RefNew w y m (Rt.newL m [] rs) w')
theorem Turn.new {w w1 w2 : World} {y : Nat} (h : Turn nowhere w w1) (hy : w.heap.size ≤ y) (g : Turn (only y) w1 w2) : Turn nowhere w w2 := (h.mono fun _ _ e => e.elim).trans g fun b hb e => by
  have : b = y := e
  omega
theorem new_step {m : Int} {l : List R} {rs : List R} {i : Nat} {x : R} (hx : rs[i]? = some x) (h : Rt.addE m l x.1 x.2 = 0) : Rt.newE m l (rs.drop i) = Rt.newE m (Rt.addL m l x.1 x.2) (rs.drop (i + 1)) := by
  have hi := (List.getElem?_eq_some_iff.1 hx).1
  have he := (List.getElem?_eq_some_iff.1 hx).2
  rw [List.drop_eq_getElem_cons hi, he, Rt.addL_ok h]
  conv => lhs; unfold Rt.newE
  rw [if_pos h]
theorem new_stop {m : Int} {l : List R} {rs : List R} {i : Nat} {x : R} (hx : rs[i]? = some x) (h : ¬ Rt.addE m l x.1 x.2 = 0) : Rt.newE m l (rs.drop i) = Rt.addE m l x.1 x.2 := by
  have hi := (List.getElem?_eq_some_iff.1 hx).1
  have he := (List.getElem?_eq_some_iff.1 hx).2
  rw [List.drop_eq_getElem_cons hi, he]
  conv => lhs; unfold Rt.newE
  rw [if_neg h]
theorem new_more {m : Int} {l : List R} {rs : List R} {i : Nat} {x : R} (hx : rs[i]? = some x) : Rt.newL m l (rs.drop i) = Rt.newL m (Rt.addL m l x.1 x.2) (rs.drop (i + 1)) := by
  have hi := (List.getElem?_eq_some_iff.1 hx).1
  have he := (List.getElem?_eq_some_iff.1 hx).2
  rw [List.drop_eq_getElem_cons hi, he]
  rfl
theorem RtsAt.rng {w : World} {b off n : Nat} {vs : List RtV} (h : RtsAt w (some ⟨b, off, none⟩) n vs) {i : Nat} {r : RtV} (hr : vs[i]? = some r) : w.rangeAt b (off + i * 2) r.cells := Rws.el h.1 (by rw [List.getElem?_map, hr]; rfl)
set_option maxRecDepth 20000 in
set_option maxHeartbeats 4000000 in
theorem rNew_walk {w : World} {A : Option Addr} {n c : Nat} {us : List RtV} {m : Int} (ha : RtsAt w A n us) :
    Calls Try.prog 11 #[.slice A n c, .int .i64 m] w fun e w' => RNewP w m (us.map RtV.plain) e w' := by
  have HA := Lib.hid ha
  obtain ⟨rs, hrs⟩ : ∃ x, x = us.map RtV.plain := ⟨_, rfl⟩
  rw [← hrs]
  have HRS := Lib.hid hrs
  have yn : (n : Int) ≤ 140737488355328 := by have := ha.1.2.2.1; omega
  clear ha hrs
  go_enter Try.func11, Try.ntmps11
  go_upto_region 0 with fail
  refine wp_region_lit ?_
  refine wpList_run (v := .pointer none) (wanted_none rfl) (gx_assign rfl rfl) ?_
  simp only [Act.put, List.setIfInBounds_toArray, List.set_cons_zero, List.set_cons_succ]
  refine wpList_run (v := .int .i64 0) (wanted_none rfl) (gx_assign rfl rfl) ?_
  simp only [Act.put, List.setIfInBounds_toArray, List.set_cons_zero, List.set_cons_succ]
  by_cases hm1 : m < 1
  · have HM := Lib.hid (show ¬ (1 ≤ m ∧ m ≤ 6) from by omega)
    go_upto_region 1 with fail
    refine wp_region_lit ?_
    refine wpList_run (v := .int .i64 m) (wanted_none rfl) (exec_move rfl rfl) ?_
    simp only [Act.put, List.setIfInBounds_toArray, List.set_cons_zero, List.set_cons_succ]
    refine wpList_run (v := .bool true) (wanted_none rfl) (ix_lss rfl rfl rfl (decide_eq_true hm1)) ?_
    simp only [Act.put, List.setIfInBounds_toArray, List.set_cons_zero, List.set_cons_succ]
    refine wpList_run (v := .bool true) (wanted_none rfl) (exec_move rfl rfl) ?_
    simp only [Act.put, List.setIfInBounds_toArray, List.set_cons_zero, List.set_cons_succ]
    refine wpList_skip (by go_simp) ?_
    simp only [Act.put, List.setIfInBounds_toArray, List.set_cons_zero, List.set_cons_succ]
    refine wpList_skip (by go_simp) ?_
    simp only [Act.put, List.setIfInBounds_toArray, List.set_cons_zero, List.set_cons_succ]
    refine wpList_run (v := .bool true) (wanted_none rfl) (ix_pickT rfl rfl rfl) ?_
    simp only [Act.put, List.setIfInBounds_toArray, List.set_cons_zero, List.set_cons_succ]
    go_upto_region 2 with fail
    refine wp_region_lit ?_
    refine wpList_run (v := .pointer none) (wanted_none rfl) (gx_assign rfl rfl) ?_
    simp only [Act.put, List.setIfInBounds_toArray, List.set_cons_zero, List.set_cons_succ]
    refine wpList_run (v := .int .i64 130) (wanted_none rfl) (gx_assign rfl rfl) ?_
    simp only [Act.put, List.setIfInBounds_toArray, List.set_cons_zero, List.set_cons_succ]
    go_wp2_with fail
    go_ret2
    exact .inl ⟨HM.out, rfl, Turn.refl _ _⟩
  · have ym1 : 1 ≤ m := by omega
    by_cases hm6 : 6 < m
    · have HM := Lib.hid (show ¬ (1 ≤ m ∧ m ≤ 6) from by omega)
      go_upto_region 1 with fail
      refine wp_region_lit ?_
      refine wpList_run (v := .int .i64 m) (wanted_none rfl) (exec_move rfl rfl) ?_
      simp only [Act.put, List.setIfInBounds_toArray, List.set_cons_zero, List.set_cons_succ]
      refine wpList_run (v := .bool false) (wanted_none rfl) (ix_lss rfl rfl rfl (decide_eq_false (by omega))) ?_
      simp only [Act.put, List.setIfInBounds_toArray, List.set_cons_zero, List.set_cons_succ]
      refine wpList_run (v := .bool false) (wanted_none rfl) (exec_move rfl rfl) ?_
      simp only [Act.put, List.setIfInBounds_toArray, List.set_cons_zero, List.set_cons_succ]
      refine wpList_run (v := .int .i64 m) rfl (exec_move rfl rfl) ?_
      simp only [Act.put, List.setIfInBounds_toArray, List.set_cons_zero, List.set_cons_succ]
      refine wpList_run (v := .bool true) rfl (ix_gtr rfl rfl rfl (decide_eq_true hm6)) ?_
      simp only [Act.put, List.setIfInBounds_toArray, List.set_cons_zero, List.set_cons_succ]
      refine wpList_run (v := .bool true) (wanted_none rfl) (ix_pickF rfl rfl rfl) ?_
      simp only [Act.put, List.setIfInBounds_toArray, List.set_cons_zero, List.set_cons_succ]
      go_upto_region 2 with fail
      refine wp_region_lit ?_
      refine wpList_run (v := .pointer none) (wanted_none rfl) (gx_assign rfl rfl) ?_
      simp only [Act.put, List.setIfInBounds_toArray, List.set_cons_zero, List.set_cons_succ]
      refine wpList_run (v := .int .i64 130) (wanted_none rfl) (gx_assign rfl rfl) ?_
      simp only [Act.put, List.setIfInBounds_toArray, List.set_cons_zero, List.set_cons_succ]
      go_wp2_with fail
      go_ret2
      exact .inl ⟨HM.out, rfl, Turn.refl _ _⟩
    · have HM := Lib.hid (show 1 ≤ m ∧ m ≤ 6 from by omega)
      go_upto_region 1 with fail
      refine wp_region_lit ?_
      refine wpList_run (v := .int .i64 m) (wanted_none rfl) (exec_move rfl rfl) ?_
      simp only [Act.put, List.setIfInBounds_toArray, List.set_cons_zero, List.set_cons_succ]
      refine wpList_run (v := .bool false) (wanted_none rfl) (ix_lss rfl rfl rfl (decide_eq_false (by omega))) ?_
      simp only [Act.put, List.setIfInBounds_toArray, List.set_cons_zero, List.set_cons_succ]
      refine wpList_run (v := .bool false) (wanted_none rfl) (exec_move rfl rfl) ?_
      simp only [Act.put, List.setIfInBounds_toArray, List.set_cons_zero, List.set_cons_succ]
      refine wpList_run (v := .int .i64 m) rfl (exec_move rfl rfl) ?_
      simp only [Act.put, List.setIfInBounds_toArray, List.set_cons_zero, List.set_cons_succ]
      refine wpList_run (v := .bool false) rfl (ix_gtr rfl rfl rfl (decide_eq_false (by omega))) ?_
      simp only [Act.put, List.setIfInBounds_toArray, List.set_cons_zero, List.set_cons_succ]
      refine wpList_run (v := .bool false) (wanted_none rfl) (ix_pickF rfl rfl rfl) ?_
      simp only [Act.put, List.setIfInBounds_toArray, List.set_cons_zero, List.set_cons_succ]
      clear hm1 hm6 ym1
      go_upto_region 3 with fail
      refine wp_region_lit ?_
      refine wpList_run (v := .int .i64 m) (wanted_none rfl) (exec_move rfl rfl) ?_
      simp only [Act.put, List.setIfInBounds_toArray, List.set_cons_zero, List.set_cons_succ]
      refine wpList_run (v := .agg #[.int .i64 m, .slice none 0 0]) (wanted_none rfl) (gx_build1 rfl rfl (buildT1 _ _)) ?_
      simp only [Act.put, List.setIfInBounds_toArray, List.set_cons_zero, List.set_cons_succ]
      have hb := Blk.new w 49 #[.int .i64 m, .slice none 0 0]
      have ht := (Turn.refl nowhere w).alloc (.cells #[.int .i64 m, .slice none 0 0] 49)
      have hbx := boxT m none 0 0 w
      obtain ⟨y, hy⟩ : ∃ y, y = w.heap.size := ⟨_, rfl⟩
      rw [← hy] at hb hbx
      generalize w.alloc (.cells #[.int .i64 m, .slice none 0 0] 49) = w1 at *
      refine wpList_run (v := .pointer (some ⟨y, 0, none⟩)) (w' := w1) (wanted_none rfl) (gx_box rfl rfl hbx) ?_
      simp only [Act.put, List.setIfInBounds_toArray, List.set_cons_zero, List.set_cons_succ]
      have HB := Lib.hid hb
      have HT := Lib.hid ht
      have HY := Lib.hid (show w.heap.size ≤ y by omega)
      clear hb ht hbx hy
      refine wpList_run (v := .pointer (some ⟨y, 0, none⟩)) (wanted_none rfl) (gx_assign rfl rfl) ?_
      simp only [Act.put, List.setIfInBounds_toArray, List.set_cons_zero, List.set_cons_succ]
      go_upto_region 4 with fail
      refine wp_region_lit ?_
      refine wpList_run (v := .int .i64 0) (wanted_none rfl) (gx_assign rfl rfl) ?_
      simp only [Act.put, List.setIfInBounds_toArray, List.set_cons_zero, List.set_cons_succ]
      go_wp2_with fail
      go_loopg [7, 8] n (fun gk iv ev wr => ∃ (i : Nat) (v : Value) (vs : List RtV), iv = .int .i64 (i : Int) ∧ i + gk = n ∧ RefT wr w.heap.size y m v vs ∧ Rt.Srt (vs.map RtV.plain) ∧ vs.length ≤ 32 ∧ Rt.newE m (vs.map RtV.plain) (rs.drop i) = Rt.newE m [] rs ∧ Rt.newL m (vs.map RtV.plain) (rs.drop i) = Rt.newL m [] rs ∧ Turn nowhere w wr)
      case atStart => exact ⟨0, .slice none 0 0, [], rfl, by omega, ⟨HB.out, ⟨Orw.nil _ _ _ _, fun r hr => by cases hr⟩⟩, List.Pairwise.nil, by simp, rfl, rfl, HT.out⟩
      obtain ⟨i, v, vs, rfl, hgk, href, hs, hl, hne, hnl, htr⟩ := hrel
      have HGK := Lib.hid hgk
      have HRF := Lib.hid href
      have HS := Lib.hid hs
      have HL := Lib.hid hl
      have HNE := Lib.hid hne
      have HNL := Lib.hid hnl
      have HTR := Lib.hid htr
      have yi : (i : Int) ≤ (n : Int) := by omega
      clear hgk href hs hl hne hnl htr
      by_cases hlt : i < n
      · have HLT := Lib.hid hlt
        have y3 : (i : Int) < (n : Int) := by omega
        have HA1 := Lib.hid (HA.out.still HTR.out)
        obtain ⟨b1, o1, e1, h1⟩ := HA1.out.at_ (by omega)
        subst e1
        obtain ⟨z, hz⟩ := getQ (l := us) (i := i) (by have := HA.out.len; omega)
        have HZ := Lib.hid hz
        have HRG := Lib.hid (HA1.out.rng hz)
        have HZR := Lib.hid (show rs[i]? = some z.plain from by rw [HRS.out]; exact plain_at hz)
        have HAD := Lib.hid (rAdd_walk (r := z) HRF.out HTR.out.size HS.out HL.out (HA1.out.2 z (List.mem_of_getElem? hz)))
        clear h1 hz hlt
        go_upto_region 5 with fail
        refine wp_region_lit ?_
        refine wpList_run (v := .int .i64 (i : Int)) (wanted_none rfl) (exec_move rfl rfl) ?_
        simp only [Act.put, List.setIfInBounds_toArray, List.set_cons_zero, List.set_cons_succ]
        refine wpList_run (v := .slice (some ⟨b1, o1, none⟩) n c) (wanted_none rfl) (exec_move rfl rfl) ?_
        simp only [Act.put, List.setIfInBounds_toArray, List.set_cons_zero, List.set_cons_succ]
        refine wpList_run (v := .int .i64 (n : Int)) (wanted_none rfl) (gx_len rfl rfl Try.underlying22) ?_
        simp only [Act.put, List.setIfInBounds_toArray, List.set_cons_zero, List.set_cons_succ]
        refine wpList_run (v := .bool true) (wanted_none rfl) (ix_lss rfl rfl rfl (decide_eq_true y3)) ?_
        simp only [Act.put, List.setIfInBounds_toArray, List.set_cons_zero, List.set_cons_succ]
        go_upto_region 7 with fail
        refine wp_region_lit ?_
        refine wpList_run (v := .pointer (some ⟨y, 0, none⟩)) (wanted_none rfl) (exec_move rfl rfl) ?_
        simp only [Act.put, List.setIfInBounds_toArray, List.set_cons_zero, List.set_cons_succ]
        refine wpList_run (v := .slice (some ⟨b1, o1, none⟩) n c) (wanted_none rfl) (exec_move rfl rfl) ?_
        simp only [Act.put, List.setIfInBounds_toArray, List.set_cons_zero, List.set_cons_succ]
        refine wpList_run (v := .int .i64 (i : Int)) (wanted_none rfl) (exec_move rfl rfl) ?_
        simp only [Act.put, List.setIfInBounds_toArray, List.set_cons_zero, List.set_cons_succ]
        refine wpList_run (v := .pointer (some ⟨b1, o1 + i * 2, none⟩)) (wanted_none rfl) (gx_iaddr (i := i) (sz := 2) rfl rfl rfl Try.underlying22 size_rt HLT.out rfl) ?_
        simp only [Act.put, List.setIfInBounds_toArray, List.set_cons_zero, List.set_cons_succ]
        refine wpList_run (v := .agg z.cells.toArray) (wanted_none rfl) (gx_loads rfl rfl HRG.out Try.underlying38 rfl (by rw [size_rt]; rfl)) ?_
        simp only [Act.put, List.setIfInBounds_toArray, List.set_cons_zero, List.set_cons_succ]
        refine wpList_op rfl fun K9 HK9 => ?_
        go_wp2_with fail
        refine (HAD.out).mono ?_
        rintro e w2 ⟨rfl, hto⟩
        refine HK9.out _ _ ?_
        clear HK9
        try simp only [Act.put, List.setIfInBounds_toArray, List.set_cons_zero, List.set_cons_succ]
        obtain ⟨v2, vs2, href2, hpl2, ht2, _⟩ := hto
        have HRF2 := Lib.hid href2
        have HPL2 := Lib.hid hpl2
        have HT2 := Lib.hid (Turn.new HTR.out HY.out ht2)
        obtain ⟨E, hE⟩ : ∃ E, E = Rt.addE m (vs.map RtV.plain) z.pre z.to_ := ⟨_, rfl⟩
        rw [← hE]
        have HE := Lib.hid hE
        clear href2 hpl2 ht2 hE HAD
        by_cases h0 : E = 0
        · have HZ0 := Lib.hid (show Rt.addE m (vs.map RtV.plain) z.plain.1 z.plain.2 = 0 from HE.out.symm.trans h0)
          have HE0 := Lib.hid h0
          clear h0
          refine wpList_run (v := .int .i64 E) (wanted_none rfl) (gx_assign rfl rfl) ?_
          simp only [Act.put, List.setIfInBounds_toArray, List.set_cons_zero, List.set_cons_succ]
          go_upto_region 8 with fail
          refine wp_region_lit ?_
          refine wpList_run (v := .int .i64 E) (wanted_none rfl) (exec_move rfl rfl) ?_
          simp only [Act.put, List.setIfInBounds_toArray, List.set_cons_zero, List.set_cons_succ]
          refine wpList_run (v := .bool false) (wanted_none rfl) (ix_neq rfl rfl rfl (decide_eq_false (fun h => h HE0.out))) ?_
          simp only [Act.put, List.setIfInBounds_toArray, List.set_cons_zero, List.set_cons_succ]
          go_upto_region 6 with fail
          refine wp_region_lit ?_
          refine wpList_run (v := .int .i64 (i : Int)) (wanted_none rfl) (exec_move rfl rfl) ?_
          simp only [Act.put, List.setIfInBounds_toArray, List.set_cons_zero, List.set_cons_succ]
          refine wpList_run (v := .int .i64 ((i + 1 : Nat) : Int)) (wanted_none rfl) (ix_add rfl rfl rfl (by omega) (by omega)) ?_
          simp only [Act.put, List.setIfInBounds_toArray, List.set_cons_zero, List.set_cons_succ]
          refine wpList_run (v := .int .i64 ((i + 1 : Nat) : Int)) (wanted_none rfl) (gx_assign rfl rfl) ?_
          simp only [Act.put, List.setIfInBounds_toArray, List.set_cons_zero, List.set_cons_succ]
          go_wp2_with fail
          go_roundg (n - (i + 1))
          case measure => have := HGK.out; have := HLT.out; omega
          case rel => exact ⟨i + 1, v2, vs2, rfl, by have := HLT.out; omega, HRF2.out, by rw [HPL2.out]; exact Rt.addL_srt HS.out, by have h := Rt.addL_len (m := m) (p := z.pre) (to_ := z.to_) (l := vs.map RtV.plain) (by rw [List.length_map]; exact HL.out); rw [← HPL2.out, List.length_map] at h; exact h, by rw [HPL2.out, ← HNE.out]; exact (new_step HZR.out HZ0.out).symm, by rw [HPL2.out, ← HNL.out]; exact (new_more HZR.out).symm, HT2.out⟩
        · have HZ0 := Lib.hid (show ¬ Rt.addE m (vs.map RtV.plain) z.plain.1 z.plain.2 = 0 from fun h => h0 (HE.out.trans h))
          have HE0 := Lib.hid h0
          clear h0
          refine wpList_run (v := .int .i64 E) (wanted_none rfl) (gx_assign rfl rfl) ?_
          simp only [Act.put, List.setIfInBounds_toArray, List.set_cons_zero, List.set_cons_succ]
          go_upto_region 8 with fail
          refine wp_region_lit ?_
          refine wpList_run (v := .int .i64 E) (wanted_none rfl) (exec_move rfl rfl) ?_
          simp only [Act.put, List.setIfInBounds_toArray, List.set_cons_zero, List.set_cons_succ]
          refine wpList_run (v := .bool true) (wanted_none rfl) (ix_neq rfl rfl rfl (decide_eq_true HE0.out)) ?_
          simp only [Act.put, List.setIfInBounds_toArray, List.set_cons_zero, List.set_cons_succ]
          go_upto_region 9 with fail
          refine wp_region_lit ?_
          refine wpList_run (v := .int .i64 E) (wanted_none rfl) (exec_move rfl rfl) ?_
          simp only [Act.put, List.setIfInBounds_toArray, List.set_cons_zero, List.set_cons_succ]
          refine wpList_run (v := .pointer none) (wanted_none rfl) (gx_assign rfl rfl) ?_
          simp only [Act.put, List.setIfInBounds_toArray, List.set_cons_zero, List.set_cons_succ]
          refine wpList_run (v := .int .i64 E) (wanted_none rfl) (gx_assign rfl rfl) ?_
          simp only [Act.put, List.setIfInBounds_toArray, List.set_cons_zero, List.set_cons_succ]
          go_wp2_with fail
          go_ret2
          have hE : Rt.newE m [] rs = E := by rw [← HNE.out, new_stop HZR.out HZ0.out]; exact HE.out.symm
          exact .inr (.inl ⟨HM.out, by rw [hE]; exact HE0.out, by rw [hE]; rfl, HT2.out⟩)
      · obtain rfl : n = i := by have := HGK.out; omega
        have HD := Lib.hid (show rs.drop n = [] from List.drop_of_length_le (by rw [HRS.out, List.length_map]; have := HA.out.len; omega))
        clear hlt
        go_upto_region 5 with fail
        refine wp_region_lit ?_
        refine wpList_run (v := .int .i64 (n : Int)) (wanted_none rfl) (exec_move rfl rfl) ?_
        simp only [Act.put, List.setIfInBounds_toArray, List.set_cons_zero, List.set_cons_succ]
        refine wpList_run (v := .slice A n c) (wanted_none rfl) (exec_move rfl rfl) ?_
        simp only [Act.put, List.setIfInBounds_toArray, List.set_cons_zero, List.set_cons_succ]
        refine wpList_run (v := .int .i64 (n : Int)) (wanted_none rfl) (gx_len rfl rfl Try.underlying22) ?_
        simp only [Act.put, List.setIfInBounds_toArray, List.set_cons_zero, List.set_cons_succ]
        refine wpList_run (v := .bool false) (wanted_none rfl) (ix_lss rfl rfl rfl (decide_eq_false (by omega))) ?_
        simp only [Act.put, List.setIfInBounds_toArray, List.set_cons_zero, List.set_cons_succ]
        go_upto_region 10 with fail
        refine wp_region_lit ?_
        refine wpList_run (v := .pointer (some ⟨y, 0, none⟩)) (wanted_none rfl) (exec_move rfl rfl) ?_
        simp only [Act.put, List.setIfInBounds_toArray, List.set_cons_zero, List.set_cons_succ]
        refine wpList_run (v := .pointer (some ⟨y, 0, none⟩)) (wanted_none rfl) (gx_assign rfl rfl) ?_
        simp only [Act.put, List.setIfInBounds_toArray, List.set_cons_zero, List.set_cons_succ]
        refine wpList_run (v := .int .i64 0) (wanted_none rfl) (gx_assign rfl rfl) ?_
        simp only [Act.put, List.setIfInBounds_toArray, List.set_cons_zero, List.set_cons_succ]
        go_wp2_with fail
        go_ret2
        have h1 := HNE.out
        have h2 := HNL.out
        rw [HD.out] at h1 h2
        exact .inr (.inr ⟨HM.out, h1.symm, y, rfl, HY.out, HTR.out, v, vs, HRF.out, h2⟩)
set_option maxRecDepth 20000 in
set_option maxHeartbeats 4000000 in
theorem rClone_walk {w : World} {B y : Nat} {m : Int} {v : Value} {vs : List RtV} (h : RefT w B y m v vs) (hB : B ≤ w.heap.size) (hl : vs.length ≤ 32) :
    Calls Try.prog 13 #[.pointer (some ⟨y, 0, none⟩)] w fun e w' => ∃ y2 v2, e = .returned (.pointer (some ⟨y2, 0, none⟩)) ∧ w.heap.size ≤ y2 ∧ Turn nowhere w w' ∧ RefT w' B y2 m v2 vs ∧ ∀ b, RefG y2 v2 vs b → RefG y v vs b ∨ w.heap.size ≤ b := by
  obtain ⟨A, c, rfl, hlc, _, hcz, _⟩ := h.own.row.form
  rw [List.length_map] at *
  obtain ⟨n, hn⟩ : ∃ n, n = vs.length := ⟨_, rfl⟩
  rw [← hn] at h hlc hl
  have HR := Lib.hid h
  have HB := Lib.hid hB
  have HN := Lib.hid hn
  have HCZ := Lib.hid hcz
  have yn : (n : Int) ≤ 32 := by omega
  clear h hB hn hl hlc hcz
  go_enter Try.func13, Try.ntmps13
  go_upto_region 0 with fail
  refine wp_region_lit ?_
  refine wpList_run (v := .pointer none) (wanted_none rfl) (gx_assign rfl rfl) ?_
  simp only [Act.put, List.setIfInBounds_toArray, List.set_cons_zero, List.set_cons_succ]
  obtain ⟨w0, hw0⟩ : ∃ v, v = w.drew := ⟨_, rfl⟩
  have HT0 := Lib.hid (show Turn nowhere w w0 from by rw [hw0]; exact (Turn.refl _ _).drew)
  obtain ⟨A7, c7, w7, hrun, hrow, ht7⟩ := copy_rws elmRt (ty := 22) (c := c) ((HR.out.still HT0.out).own.row.rws (by rw [List.length_map, ← HN.out]; omega) (by decide)) (Fit.sub HR.out.own.row.1 fun r hr => hr) HCZ.out (by omega)
  have HRUN7 := Lib.hid hrun
  have HT7 := Lib.hid (HT0.out.trans ht7 fun _ _ e => e)
  have HO7 := Lib.hid hrow
  have HBA := Lib.hid (show ∀ W : World, Turn nowhere w W → Blk W y 49 #[.int .i64 m, .slice A n c] from fun W ht => HR.out.blk.turn ht fun e => e)
  have HIT := Lib.hid (fun (r : RtV) (hr : r ∈ vs) => Its.turn (HR.out.own.its r hr) HT7.out fun _ _ e => e)
  have hb := Blk.new w7 49 #[.int .i64 m, .slice A7 n c7]
  have ht := (Turn.refl nowhere w7).alloc (.cells #[.int .i64 m, .slice A7 n c7] 49)
  have hbx := boxT m A7 n c7 w7
  have hsz := HT7.out.size
  obtain ⟨y2, hy⟩ : ∃ y, y = w7.heap.size := ⟨_, rfl⟩
  rw [← hy] at hb hbx
  generalize w7.alloc (.cells #[.int .i64 m, .slice A7 n c7] 49) = w8 at *
  have HB8 := Lib.hid hb
  have HT8 := Lib.hid ht
  have HBX := Lib.hid hbx
  have HY2 := Lib.hid (show w.heap.size ≤ y2 from by omega)
  clear hrun hrow ht7 hb ht hbx hy hsz
  go_upto_region 1 with fail
  refine wp_region_alw (fun W => Blk W y 49 #[.int .i64 m, .slice A n c]) (by kernel_rfl) ?_
  rw [← hw0]
  have hS0 := HBA.out w0 HT0.out
  clear hw0
  refine alw_take (i := 0) (v := .pointer (some ⟨y, 0, none⟩)) rfl (by kernel_rfl) (by kernel_rfl) (fun _ _ _ h => h) (.inl ⟨by rfl, fun W hW => exec_move rfl rfl⟩) hS0 ?_
  simp only [Act.put, List.setIfInBounds_toArray, List.set_cons_zero, List.set_cons_succ]
  refine alw_take (i := 1) (v := .pointer (some ⟨y, 0, none⟩)) rfl (by kernel_rfl) (by kernel_rfl) (fun _ _ _ h => h) (.inl ⟨by rfl, fun W hW => exec_nil rfl rfl⟩) hS0 ?_
  simp only [Act.put, List.setIfInBounds_toArray, List.set_cons_zero, List.set_cons_succ]
  refine alw_take (i := 2) (v := .pointer (some ⟨y, 0, none⟩)) rfl (by kernel_rfl) (by kernel_rfl) (fun _ _ _ h => h) (.inl ⟨by rfl, fun W hW => exec_field (off := 0) (d := 0) rfl rfl (by kernel_rfl)⟩) hS0 ?_
  simp only [Act.put, List.setIfInBounds_toArray, List.set_cons_zero, List.set_cons_succ]
  refine alw_take (i := 3) (v := .int .i64 m) rfl (by kernel_rfl) (by kernel_rfl) (fun _ _ _ h => h) (.inl ⟨by rfl, fun W hW => exec_load1 rfl rfl (by kernel_rfl) (hW.cell 0)⟩) hS0 ?_
  simp only [Act.put, List.setIfInBounds_toArray, List.set_cons_zero, List.set_cons_succ]
  refine alw_take (i := 5) (v := .pointer (some ⟨y, 0, none⟩)) rfl (by kernel_rfl) (by kernel_rfl) (fun _ _ _ h => h) (.inl ⟨by rfl, fun W hW => exec_move rfl rfl⟩) hS0 ?_
  simp only [Act.put, List.setIfInBounds_toArray, List.set_cons_zero, List.set_cons_succ]
  refine alw_take (i := 6) (v := .pointer (some ⟨y, 0, none⟩)) rfl (by kernel_rfl) (by kernel_rfl) (fun _ _ _ h => h) (.inl ⟨by rfl, fun W hW => exec_nil rfl rfl⟩) hS0 ?_
  simp only [Act.put, List.setIfInBounds_toArray, List.set_cons_zero, List.set_cons_succ]
  refine alw_take (i := 7) (v := .pointer (some ⟨y, 1, none⟩)) rfl (by kernel_rfl) (by kernel_rfl) (fun _ _ _ h => h) (.inl ⟨by rfl, fun W hW => exec_field (off := 0) (d := 1) rfl rfl (by kernel_rfl)⟩) hS0 ?_
  simp only [Act.put, List.setIfInBounds_toArray, List.set_cons_zero, List.set_cons_succ]
  refine alw_take (i := 8) (v := .slice A n c) rfl (by kernel_rfl) (by kernel_rfl) (fun _ _ _ h => h) (.inl ⟨by rfl, fun W hW => exec_load1 rfl rfl (by kernel_rfl) (hW.cell 1)⟩) hS0 ?_
  simp only [Act.put, List.setIfInBounds_toArray, List.set_cons_zero, List.set_cons_succ]
  clear hS0
  refine alw_step (i := 4) (by kernel_rfl) rfl rfl ?_
  intro K1 HK1
  refine wp_run (v := .slice (some ⟨w0.heap.size, 0, none⟩) 0 0) (w' := w0.alloc (.cells #[] 38)) (bx_slice0 rfl (build0T _)) ?_
  refine HK1.out _ _ ⟨HBA.out _ (HT0.out.alloc _), ?_⟩
  clear HK1
  try simp only [Act.put, List.setIfInBounds_toArray, List.set_cons_zero, List.set_cons_succ]
  refine alw_step (i := 9) (by kernel_rfl) rfl rfl ?_
  intro K1 HK1
  refine wp_run (v := .slice A7 n c7) (w' := w7) (exec_append rfl rfl rfl HRUN7.out) ?_
  refine HK1.out _ _ ⟨HBA.out _ HT7.out, ?_⟩
  clear HK1
  try simp only [Act.put, List.setIfInBounds_toArray, List.set_cons_zero, List.set_cons_succ]
  have hS0 := HBA.out _ HT7.out
  refine alw_take (i := 10) (v := .agg #[.int .i64 m, .slice A7 n c7]) rfl (by kernel_rfl) (by kernel_rfl) (fun _ _ _ h => h) (.inl ⟨by rfl, fun W hW => gx_build2 rfl rfl rfl (buildT2 m A7 n c7 _)⟩) hS0 ?_
  simp only [Act.put, List.setIfInBounds_toArray, List.set_cons_zero, List.set_cons_succ]
  clear hS0
  refine alw_step (i := 11) (by kernel_rfl) rfl rfl ?_
  intro K1 HK1
  refine wp_run (v := .pointer (some ⟨y2, 0, none⟩)) (w' := w8) (gx_box rfl rfl HBX.out) ?_
  refine HK1.out _ _ ⟨HBA.out _ (HT7.out.trans HT8.out fun _ _ e => e), ?_⟩
  clear HK1
  try simp only [Act.put, List.setIfInBounds_toArray, List.set_cons_zero, List.set_cons_succ]
  have hS0 := HBA.out _ (HT7.out.trans HT8.out fun _ _ e => e)
  refine alw_take (i := 12) (v := .pointer (some ⟨y2, 0, none⟩)) rfl (by kernel_rfl) (by kernel_rfl) (fun _ _ _ h => h) (.inl ⟨by rfl, fun W hW => gx_assign rfl rfl⟩) hS0 ?_
  simp only [Act.put, List.setIfInBounds_toArray, List.set_cons_zero, List.set_cons_succ]
  refine alw_done rfl ?_
  refine NoPanic.normal ?_
  clear hS0
  try simp only [Act.put, List.setIfInBounds_toArray, List.set_cons_zero, List.set_cons_succ]
  go_wp2_with fail
  go_ret
  exact ⟨y2, .slice A7 n c7, rfl, HY2.out, (HT7.out.trans HT8.out fun _ _ e => e), ⟨HB8.out, (HO7.out.less (Nat.le_trans HB.out HT0.out.size)).still HT8.out, fun r hr => Its.turn (HIT.out r hr) HT8.out fun _ _ e => e⟩, fun b hb => by
    rcases hb with hb | hb | hb
    · exact .inr (by have := HY2.out; omega)
    · exact .inr (Nat.le_trans HT0.out.size (HO7.out.lt hb).1)
    · exact .inl (.inr (.inr hb))⟩
end Go.Proofs.Ytihmpbilbnajpaa
