/-
  saf: Names, Contains, Clone: the walks. No conditions.
-/
import Derived.Test.YtkcedcllefcboaaSfB
import Derived.Test.YtkcedcllefcboaaAwk
namespace Go.Proofs.Ytkcedcllefcboaa
open Go.RowKit
set_option linter.unusedVariables false
set_option linter.unusedSimpArgs false
set_option maxRecDepth 20000
def strL (l : List UInt8) : List Value := [strV l]
theorem strL_fit (ns : List (List UInt8)) : Fit 1 (ns.map strL) := fun r hr => by
  obtain ⟨f, _, rfl⟩ := List.mem_map.1 hr
  exact ⟨rfl, fun u hu => by
    obtain rfl : u = strV f := by simpa [strL] using hu
    rfl⟩
theorem build_str1 (l : List UInt8) (W : World) : (Instr.buildSlice 52 1 #[(0, strV l)]).run Try.prog W = .ok (.slice (some ⟨W.heap.size, 0, none⟩) 1 1) (W.alloc (.cells #[strV l] 9)) := by kernel_rfl
theorem size_str : (Try.prog.info? 9).map (·.size) = some 1 := by kernel_rfl
theorem size_ad : (Try.prog.info? 64).map (·.size) = some 3 := by kernel_rfl
theorem zero_ad (w : World) : (zeroValue 64).run Try.prog w = .ok (.agg #[strV [], .int .i64 0, .slice none 0 0]) w := by kernel_rfl
theorem adx_arr (x : Adx) : ∀ v ∈ x.cs.toArray.toList, v.oneCell' = true := fun v hv => adx_one x v (by simpa using hv)
theorem take_names {l : List Adv} {xs : List Adx} {j : Nat} {x : Adx} (h : xs.map Adx.pl = l) (hx : xs[j]? = some x) : (Sf.names l).take (j + 1) = (Sf.names l).take j ++ [x.nm] := by
  subst h
  rw [List.take_add_one]
  unfold Sf.names
  rw [List.getElem?_map, List.getElem?_map, hx]
  rfl
/-- an element of a row of advices -/
theorem ad_at {w : World} {A : Option Addr} {n : Nat} {xs : List Adx} (h : Rws w 3 A n (xs.map Adx.cs)) {j : Nat} {x : Adx} (hx : xs[j]? = some x) : ∃ b off, A = some ⟨b, off, none⟩ ∧ w.rangeAt b (off + j * 3) x.cs := by
  obtain ⟨b, off, e, hc⟩ := h.at_ (i := j) (r := x.cs) (by rw [List.getElem?_map, hx]; rfl)
  exact ⟨b, off, e, fun i v hv => hc i v hv⟩
set_option maxRecDepth 20000 in
set_option maxHeartbeats 4000000 in
theorem Names_walk {w : World} {Z : Nat → Prop} {a m : Nat} {g : Option Nat} {l : List Adv} {s : Bool} (q : Que w Z a g m l s) : Calls Try.prog 27 #[.pointer (some ⟨a, 0, none⟩)] w fun e w' => ∃ A c, e = .returned (.slice A l.length c) ∧ Orw w' w.heap.size 9 1 (.slice A l.length c) ((Sf.names l).map strL) ∧ Turn nowhere w w' := by
  obtain ⟨⟨A, c, xs, hb, hr, hg, hx, hz⟩, hlen, hmax, hway⟩ := q
  obtain ⟨n, hn⟩ : ∃ n, n = l.length := ⟨_, rfl⟩
  have hxl : xs.length = n := by rw [hn, ← hx, List.length_map]
  have hnm : (Sf.names l).length = n := by unfold Sf.names; rw [List.length_map]; omega
  have HNM := Lib.hid hnm
  have HTK := Lib.hid (show (Sf.names l).take n = Sf.names l from List.take_of_length_le (by omega))
  have hrw := hr.rws (by rw [List.length_map]; omega) (by decide)
  rw [← hn] at hb hrw ⊢
  have HB := Lib.hid hb
  have HRW := Lib.hid hrw
  have HX := Lib.hid hx
  have HXL := Lib.hid hxl
  have yn : n ≤ 16 := by omega
  clear hb hr hg hx hz hlen hmax hway hn hrw hxl hnm
  go_enter Try.func27, Try.ntmps27
  go_upto_region 0 with fail
  refine wp_region_lit ?_
  refine wpList_run (v := .slice none 0 0) (wanted_none rfl) (gx_assign rfl rfl) ?_
  simp only [Act.put, List.setIfInBounds_toArray, List.set_cons_zero, List.set_cons_succ]
  go_upto_region 1 with fail
  refine wp_region_lit ?_
  refine wpList_run (v := .slice none 0 0) (wanted_none rfl) (gx_assign rfl rfl) ?_
  simp only [Act.put, List.setIfInBounds_toArray, List.set_cons_zero, List.set_cons_succ]
  go_upto_region 2 with fail
  refine wp_region_lit ?_
  refine wpList_run (v := .pointer (some ⟨a, 0, none⟩)) (wanted_none rfl) (exec_move rfl rfl) ?_
  simp only [Act.put, List.setIfInBounds_toArray, List.set_cons_zero, List.set_cons_succ]
  refine wpList_run (v := .pointer (some ⟨a, 0, none⟩)) (wanted_none rfl) (exec_nil rfl rfl) ?_
  simp only [Act.put, List.setIfInBounds_toArray, List.set_cons_zero, List.set_cons_succ]
  refine wpList_run (v := .pointer (some ⟨a, 1, none⟩)) (wanted_none rfl) (exec_field (off := 0) (d := 1) rfl rfl (by kernel_rfl)) ?_
  simp only [Act.put, List.setIfInBounds_toArray, List.set_cons_zero, List.set_cons_succ]
  refine wpList_run (v := .slice A n c) (wanted_none rfl) (exec_load1 rfl rfl (by kernel_rfl) (HB.out.cell 1)) ?_
  simp only [Act.put, List.setIfInBounds_toArray, List.set_cons_zero, List.set_cons_succ]
  refine wpList_run (v := .int .i64 (n : Int)) (wanted_none rfl) (gx_len rfl rfl Try.underlying54) ?_
  simp only [Act.put, List.setIfInBounds_toArray, List.set_cons_zero, List.set_cons_succ]
  refine wpList_run (v := .int .i64 0) (wanted_none rfl) (exec_move rfl rfl) ?_
  simp only [Act.put, List.setIfInBounds_toArray, List.set_cons_zero, List.set_cons_succ]
  go_wp2_with fail
  go_loopg [3, 11] n (fun gk lv iv wr => ∃ j : Nat, iv = .int .i64 (j : Int) ∧ j + gk = n ∧ Turn nowhere w wr ∧ Orw wr w.heap.size 9 1 lv (((Sf.names l).take j).map strL))
  case atStart => exact ⟨0, rfl, by omega, Turn.refl _ _, Orw.nil _ _ _ _⟩
  obtain ⟨j, rfl, hjl, htr, how⟩ := hrel
  have HJL := Lib.hid hjl
  have HTR := Lib.hid htr
  have hll : (((Sf.names l).take j).map strL).length = j := by
    rw [List.length_map, List.length_take, HNM.out]
    omega
  obtain ⟨A5, c5, e5, _⟩ := how.form
  rw [hll] at e5
  subst e5
  have HLL := Lib.hid hll
  have HOW := Lib.hid how
  clear hjl htr how hll
  by_cases hlt : j < n
  · have HLT := Lib.hid hlt
    have y1 : (j : Int) < (n : Int) := by omega
    obtain ⟨x, hx⟩ : ∃ x, xs[j]? = some x := ⟨xs[j]'(by rw [HXL.out]; omega), List.getElem?_eq_getElem (by rw [HXL.out]; omega)⟩
    obtain ⟨b, off, rfl, hat⟩ := ad_at (HRW.out.still HTR.out) hx
    have HAT := Lib.hid hat
    have HTN := Lib.hid (take_names HX.out hx)
    clear hat hx hlt
    go_upto_region 3 with fail
    refine wp_region_lit ?_
    refine wpList_run (v := .bool true) (wanted_none rfl) (ix_lss rfl rfl rfl (decide_eq_true y1)) ?_
    simp only [Act.put, List.setIfInBounds_toArray, List.set_cons_zero, List.set_cons_succ]
    go_upto_region 4 with fail
    refine wp_region_lit ?_
    refine wpList_run (v := .pointer (some ⟨b, off + j * 3, none⟩)) (wanted_none rfl) (gx_iaddr (i := j) (sz := 3) rfl rfl rfl Try.underlying54 size_ad HLT.out (by omega)) ?_
    simp only [Act.put, List.setIfInBounds_toArray, List.set_cons_zero, List.set_cons_succ]
    refine wpList_run (v := .agg x.cs.toArray) (wanted_none rfl) (gx_loads rfl rfl HAT.out Try.underlying64 rfl (by rw [size_ad]; rfl)) ?_
    simp only [Act.put, List.setIfInBounds_toArray, List.set_cons_zero, List.set_cons_succ]
    refine wpList_new 64 (.tmp 5) (.tmp 14) x.cs.toArray (wanted_none rfl) rfl (zero_ad _) rfl (wanted_none rfl) rfl rfl rfl rfl (by rw [size_ad]; rfl) (adx_arr x) ?_
    intro w3 g7 _ hbx hux
    simp only [Act.put, List.setIfInBounds_toArray, List.set_cons_zero, List.set_cons_succ]
    have HB7 := Lib.hid hbx
    have HT7 := Lib.hid (HTR.out.trans hux fun _ _ e => e)
    have HO7 := Lib.hid (HOW.out.still hux)
    clear hbx hux HAT
    obtain ⟨A', c', w4, hrun, how, htt⟩ := orw_add elmS (ty := 52) HO7.out HT7.out (strL x.nm) rfl (fun u hu => by
      obtain rfl : u = strV x.nm := by simpa [strL] using hu
      rfl) (by
      rw [HLL.out]
      have := HLT.out
      omega)
    rw [HLL.out] at hrun how
    have HRUN := Lib.hid hrun
    have HOW4 := Lib.hid (show Orw w4 w.heap.size 9 1 (.slice A' (j + 1) c') (((Sf.names l).take (j + 1)).map strL) from by rw [HTN.out, List.map_append]; exact how)
    have HT4 := Lib.hid htt
    clear hrun how htt
    go_upto_region 5 with fail
    refine wp_region_lit ?_
    refine wpList_run (v := .slice A5 j c5) (wanted_none rfl) (exec_move rfl rfl) ?_
    simp only [Act.put, List.setIfInBounds_toArray, List.set_cons_zero, List.set_cons_succ]
    refine wpList_run (v := .pointer (some ⟨g7, 0, none⟩)) (wanted_none rfl) (exec_field (off := 0) (d := 0) rfl rfl (by kernel_rfl)) ?_
    simp only [Act.put, List.setIfInBounds_toArray, List.set_cons_zero, List.set_cons_succ]
    refine wpList_run (v := strV x.nm) (wanted_none rfl) (exec_load1 rfl rfl (by kernel_rfl) (HB7.out.cell 0)) ?_
    simp only [Act.put, List.setIfInBounds_toArray, List.set_cons_zero, List.set_cons_succ]
    refine wpList_run (v := .slice (some ⟨w3.heap.size, 0, none⟩) 1 1) (w' := w3.alloc (.cells #[strV x.nm] 9)) (wanted_none rfl) (exec_buildSlice1 rfl rfl (build_str1 _ _)) ?_
    simp only [Act.put, List.setIfInBounds_toArray, List.set_cons_zero, List.set_cons_succ]
    refine wpList_run (v := (.slice A' (j + 1) c')) (w' := w4) (wanted_none rfl) (exec_append rfl rfl rfl HRUN.out) ?_
    simp only [Act.put, List.setIfInBounds_toArray, List.set_cons_zero, List.set_cons_succ]
    refine wpList_run (v := (.slice A' (j + 1) c')) (wanted_none rfl) (gx_assign rfl rfl) ?_
    simp only [Act.put, List.setIfInBounds_toArray, List.set_cons_zero, List.set_cons_succ]
    go_upto_region 6 with fail
    refine wp_region_lit ?_
    refine wpList_run (v := .int .i64 ((j + 1 : Nat) : Int)) (wanted_none rfl) (ix_add rfl rfl rfl (by omega) (by omega)) ?_
    simp only [Act.put, List.setIfInBounds_toArray, List.set_cons_zero, List.set_cons_succ]
    refine wpList_run (v := .int .i64 ((j + 1 : Nat) : Int)) (wanted_none rfl) (exec_move rfl rfl) ?_
    simp only [Act.put, List.setIfInBounds_toArray, List.set_cons_zero, List.set_cons_succ]
    go_wp2_with fail
    go_roundg (gk - 1)
    case measure => have := HJL.out; have := HLT.out; omega
    case rel => exact ⟨j + 1, rfl, by have := HJL.out; have := HLT.out; omega, HT4.out, HOW4.out⟩
  · have y1 : ¬ (j : Int) < (n : Int) := by omega
    obtain rfl : j = n := by have := HJL.out; omega
    clear hlt
    go_upto_region 3 with fail
    refine wp_region_lit ?_
    refine wpList_run (v := .bool false) (wanted_none rfl) (ix_lss rfl rfl rfl (decide_eq_false (by omega))) ?_
    simp only [Act.put, List.setIfInBounds_toArray, List.set_cons_zero, List.set_cons_succ]
    go_upto_region 7 with fail
    refine wp_region_lit ?_
    refine wpList_run (v := .slice A5 j c5) (wanted_none rfl) (exec_move rfl rfl) ?_
    simp only [Act.put, List.setIfInBounds_toArray, List.set_cons_zero, List.set_cons_succ]
    refine wpList_run (v := .slice A5 j c5) (wanted_none rfl) (gx_assign rfl rfl) ?_
    simp only [Act.put, List.setIfInBounds_toArray, List.set_cons_zero, List.set_cons_succ]
    have HF := Lib.hid (show Orw wr w.heap.size 9 1 (.slice A5 j c5) ((Sf.names l).map strL) from by
      have h9 := HOW.out
      rwa [HTK.out] at h9)
    go_wp2_with fail
    go_ret
    exact ⟨A5, c5, rfl, HF.out, HTR.out⟩
set_option maxRecDepth 20000 in
set_option maxHeartbeats 4000000 in
theorem Index_walk {w : World} {A : Option Addr} {n c : Nat} {ns : List (List UInt8)} (h : Rws w 1 A n (ns.map strL)) (v : List UInt8) : Calls Try.prog 32 #[.slice A n c, strV v] w fun e w' => ∃ r : Int, e = .returned (.int .i64 r) ∧ (0 ≤ r ↔ v ∈ ns) ∧ w' = w := by
  have hnl : ns.length = n := by have := h.1; rwa [List.length_map] at this
  have HNL := Lib.hid hnl
  have HR := Lib.hid h
  have yn : n ≤ 140737488355328 := h.2.2.1
  clear h hnl
  go_enter Try.func32, Try.ntmps32
  go_upto_region 0 with fail
  refine wp_region_lit ?_
  refine wpList_run (v := .int .i64 0) (wanted_none rfl) (gx_assign rfl rfl) ?_
  simp only [Act.put, List.setIfInBounds_toArray, List.set_cons_zero, List.set_cons_succ]
  go_upto_region 1 with fail
  refine wp_region_lit ?_
  refine wpList_run (v := .slice A n c) (wanted_none rfl) (exec_move rfl rfl) ?_
  simp only [Act.put, List.setIfInBounds_toArray, List.set_cons_zero, List.set_cons_succ]
  refine wpList_run (v := .int .i64 (n : Int)) (wanted_none rfl) (gx_len rfl rfl Try.underlying52) ?_
  simp only [Act.put, List.setIfInBounds_toArray, List.set_cons_zero, List.set_cons_succ]
  refine wpList_run (v := .int .i64 0) (wanted_none rfl) (exec_move rfl rfl) ?_
  simp only [Act.put, List.setIfInBounds_toArray, List.set_cons_zero, List.set_cons_succ]
  go_wp2_with fail
  go_loopg [8] n (fun gk iv wr => ∃ j : Nat, iv = .int .i64 (j : Int) ∧ j + gk = n ∧ wr = w ∧ ∀ i u, i < j → ns[i]? = some u → u ≠ v)
  case atStart => exact ⟨0, rfl, by omega, rfl, fun i u hi => by omega⟩
  obtain ⟨j, rfl, hjl, rfl, hno⟩ := hrel
  have HJL := Lib.hid hjl
  have HNO := Lib.hid hno
  clear hjl hno
  by_cases hlt : j < n
  · have HLT := Lib.hid hlt
    have y1 : (j : Int) < (n : Int) := by omega
    obtain ⟨u, hu⟩ : ∃ u, ns[j]? = some u := ⟨ns[j]'(by rw [HNL.out]; omega), List.getElem?_eq_getElem (by rw [HNL.out]; omega)⟩
    obtain ⟨b, off, rfl, hat⟩ := HR.out.at_ (i := j) (r := strL u) (by rw [List.getElem?_map, hu]; rfl)
    have HAT := Lib.hid (hat 0 _ rfl)
    have HU := Lib.hid hu
    clear hat hlt hu
    go_upto_region 2 with fail
    refine wp_region_lit ?_
    refine wpList_run (v := .bool true) (wanted_none rfl) (ix_lss rfl rfl rfl (decide_eq_true y1)) ?_
    simp only [Act.put, List.setIfInBounds_toArray, List.set_cons_zero, List.set_cons_succ]
    go_upto_region 3 with fail
    refine wp_region_lit ?_
    refine wpList_run (v := .int .i64 (j : Int)) (wanted_none rfl) (exec_move rfl rfl) ?_
    simp only [Act.put, List.setIfInBounds_toArray, List.set_cons_zero, List.set_cons_succ]
    refine wpList_run (v := .int .i64 (j : Int)) (wanted_none rfl) (gx_assign rfl rfl) ?_
    simp only [Act.put, List.setIfInBounds_toArray, List.set_cons_zero, List.set_cons_succ]
    go_upto_region 4 with fail
    refine wp_region_lit ?_
    refine wpList_run (v := strV v) (wanted_none rfl) (exec_move rfl rfl) ?_
    simp only [Act.put, List.setIfInBounds_toArray, List.set_cons_zero, List.set_cons_succ]
    refine wpList_run (v := .slice (some ⟨b, off, none⟩) n c) (wanted_none rfl) (exec_move rfl rfl) ?_
    simp only [Act.put, List.setIfInBounds_toArray, List.set_cons_zero, List.set_cons_succ]
    refine wpList_run (v := .int .i64 (j : Int)) (wanted_none rfl) (exec_move rfl rfl) ?_
    simp only [Act.put, List.setIfInBounds_toArray, List.set_cons_zero, List.set_cons_succ]
    refine wpList_run (v := .pointer (some ⟨b, off + j * 1, none⟩)) (wanted_none rfl) (gx_iaddr (i := j) (sz := 1) rfl rfl rfl Try.underlying52 size_str HLT.out (by omega)) ?_
    simp only [Act.put, List.setIfInBounds_toArray, List.set_cons_zero, List.set_cons_succ]
    refine wpList_run (v := strV u) (wanted_none rfl) (exec_load1 rfl rfl (by kernel_rfl) HAT.out) ?_
    simp only [Act.put, List.setIfInBounds_toArray, List.set_cons_zero, List.set_cons_succ]
    refine wpList_run (v := .bool (v == u)) (wanted_none rfl) (exec_seql rfl rfl rfl) ?_
    simp only [Act.put, List.setIfInBounds_toArray, List.set_cons_zero, List.set_cons_succ]
    by_cases he : v = u
    · have HM := Lib.hid (show v ∈ ns from he ▸ List.mem_of_getElem? HU.out)
      rw [beq_iff_eq.2 he]
      clear he
      go_upto_region 5 with fail
      refine wp_region_lit ?_
      refine wpList_run (v := .int .i64 (j : Int)) (wanted_none rfl) (exec_move rfl rfl) ?_
      simp only [Act.put, List.setIfInBounds_toArray, List.set_cons_zero, List.set_cons_succ]
      refine wpList_run (v := .int .i64 (j : Int)) (wanted_none rfl) (gx_assign rfl rfl) ?_
      simp only [Act.put, List.setIfInBounds_toArray, List.set_cons_zero, List.set_cons_succ]
      go_wp2_with fail
      go_ret
      exact ⟨(j : Int), rfl, ⟨fun _ => HM.out, fun _ => by omega⟩, rfl⟩
    · have HE := Lib.hid he
      rw [beq_eq_false_iff_ne.2 he]
      clear he
      go_upto_region 6 with fail
      refine wp_region_lit ?_
      refine wpList_run (v := .int .i64 ((j + 1 : Nat) : Int)) (wanted_none rfl) (ix_add rfl rfl rfl (by omega) (by omega)) ?_
      simp only [Act.put, List.setIfInBounds_toArray, List.set_cons_zero, List.set_cons_succ]
      refine wpList_run (v := .int .i64 ((j + 1 : Nat) : Int)) (wanted_none rfl) (exec_move rfl rfl) ?_
      simp only [Act.put, List.setIfInBounds_toArray, List.set_cons_zero, List.set_cons_succ]
      go_wp2_with fail
      go_roundg (gk - 1)
      case measure => have := HJL.out; have := HLT.out; omega
      case rel => exact ⟨j + 1, rfl, by have := HJL.out; have := HLT.out; omega, rfl, fun i u' hi hu' => by
        by_cases hij : i < j
        · exact HNO.out i u' hij hu'
        · obtain rfl : i = j := by omega
          obtain rfl : u = u' := Option.some.inj (HU.out.symm.trans hu')
          exact fun e => HE.out e.symm⟩
  · have y1 : ¬ (j : Int) < (n : Int) := by omega
    have HM := Lib.hid (show ¬ v ∈ ns from fun hv => by
      obtain ⟨i, hi⟩ := List.getElem?_of_mem hv
      have := (List.getElem?_eq_some_iff.1 hi).1
      exact HNO.out i v (by have := HNL.out; omega) hi rfl)
    clear hlt
    go_upto_region 2 with fail
    refine wp_region_lit ?_
    refine wpList_run (v := .bool false) (wanted_none rfl) (ix_lss rfl rfl rfl (decide_eq_false (by omega))) ?_
    simp only [Act.put, List.setIfInBounds_toArray, List.set_cons_zero, List.set_cons_succ]
    go_upto_region 7 with fail
    refine wp_region_lit ?_
    refine wpList_run (v := .int .i64 (-1)) (wanted_none rfl) (gx_assign rfl rfl) ?_
    simp only [Act.put, List.setIfInBounds_toArray, List.set_cons_zero, List.set_cons_succ]
    go_wp2_with fail
    go_ret
    exact ⟨-1, rfl, ⟨fun h => absurd h (by decide), fun h => absurd h HM.out⟩, rfl⟩
set_option maxRecDepth 20000 in
set_option maxHeartbeats 4000000 in
theorem Contains_walk {w : World} {A : Option Addr} {n c : Nat} {ns : List (List UInt8)} (h : Rws w 1 A n (ns.map strL)) (v : List UInt8) : Calls Try.prog 28 #[.slice A n c, strV v] w fun e w' => e = .returned (.bool (decide (v ∈ ns))) ∧ w' = w := by
  have HI := Lib.hid (Index_walk (c := c) h v)
  clear h
  go_enter Try.func28, Try.ntmps28
  go_upto_region 0 with fail
  refine wp_region_lit ?_
  refine wpList_run (v := .bool false) (wanted_none rfl) (gx_assign rfl rfl) ?_
  simp only [Act.put, List.setIfInBounds_toArray, List.set_cons_zero, List.set_cons_succ]
  go_upto_region 1 with fail
  refine wp_region_lit ?_
  refine wpList_run (v := .slice A n c) (wanted_none rfl) (exec_move rfl rfl) ?_
  simp only [Act.put, List.setIfInBounds_toArray, List.set_cons_zero, List.set_cons_succ]
  refine wpList_run (v := strV v) (wanted_none rfl) (exec_move rfl rfl) ?_
  simp only [Act.put, List.setIfInBounds_toArray, List.set_cons_zero, List.set_cons_succ]
  refine wpList_op (wanted_none rfl) fun K9 HK9 => ?_
  go_wp2_with fail
  refine (HI.out).mono ?_
  rintro e w1 ⟨r, rfl, hr, rfl⟩
  refine HK9.out _ _ ?_
  clear HK9
  try simp only [Act.put, List.setIfInBounds_toArray, List.set_cons_zero, List.set_cons_succ]
  have HR := Lib.hid hr
  clear hr
  refine wpList_run (v := .bool (decide (v ∈ ns))) (wanted_none rfl) (ix_geq rfl rfl rfl (by rw [decide_eq_decide]; exact HR.out)) ?_
  simp only [Act.put, List.setIfInBounds_toArray, List.set_cons_zero, List.set_cons_succ]
  refine wpList_run (v := .bool (decide (v ∈ ns))) (wanted_none rfl) (gx_assign rfl rfl) ?_
  simp only [Act.put, List.setIfInBounds_toArray, List.set_cons_zero, List.set_cons_succ]
  go_wp2_with fail
  go_ret
  exact ⟨rfl, rfl⟩
theorem gx_build3 {P : Program} {a : Act} {o : Oper} {t : TypeId} {x y z : Operand} {u v q r : Value} {W : World} (ho : o.op = .build t #[(0, x), (1, y), (2, z)]) (hx : a.eval x = u) (hy : a.eval y = v) (hz : a.eval z = q) (h : (Instr.build t #[(0, u), (1, v), (2, q)]).run P W = .ok r W) : (execOp a.eval o).run P W = .ok (.value r) W := by
  unfold execOp
  simp [ho, hx, hy, hz, h, Result.andThen]
theorem zad_one : ∀ u ∈ ((.agg #[.string ByteArray.empty, .int .i64 0, .slice none 0 0] : Value).cells).toList, u.oneCell' = true := fun v hv => by
  have hv : v ∈ [Value.string ByteArray.empty, .int .i64 0, .slice none 0 0] := hv
  simp only [List.mem_cons, List.not_mem_nil, or_false] at hv
  rcases hv with rfl | rfl | rfl <;> rfl
set_option maxRecDepth 20000 in
set_option maxHeartbeats 4000000 in
theorem Clone_walk {w : World} {Z : Nat → Prop} {a m : Nat} {g : Option Nat} {l : List Adv} {s : Bool} (q : Que w Z a g m l s) : Calls Try.prog 9 #[.pointer (some ⟨a, 0, none⟩)] w fun e w' => ∃ a2 g2 : Nat, e = .returned (.pointer (some ⟨a2, 0, none⟩)) ∧ Que w' Z a2 (some g2) m l s ∧ w.heap.size ≤ a2 ∧ w.heap.size ≤ g2 ∧ Turn nowhere w w' := by
  obtain ⟨⟨A, c, xs, hb, hr, hg, hx, hz⟩, hlen, hmax, hway⟩ := q
  obtain ⟨n, hn⟩ : ∃ n, n = l.length := ⟨_, rfl⟩
  rw [← hn] at hb hlen hr hg
  have hxl : xs.length = n := by rw [hn, ← hx, List.length_map]
  have hrw := hr.rws (by rw [List.length_map]; omega) (by decide)
  obtain ⟨w2, hmk, hom, htm⟩ := orw_make elmA zad_one n (by omega) w
  obtain ⟨g2, hg2⟩ : ∃ g, g = w.heap.size := ⟨_, rfl⟩
  rw [← hg2] at hmk hom
  obtain ⟨w3, hcp, hoc, htc⟩ := copy_all (ty := 3) (sc := c) elmA hom (hrw.still htm) (fit_ad xs)
  have hbn : ∃ cur, Blk w2 g2 64 cur := Orw.own_blk hom rfl
  have hb2 := hb.turn htm fun e => e
  have hb3 := hb2.turn htc fun e => by
    obtain ⟨cur, hc⟩ := hbn
    have e : a = g2 := e
    subst e
    exact hc.ne_ hb2 (by decide) rfl
  have ht3 := newer htm (by omega : w.heap.size ≤ g2) htc
  have ht4 := (Turn.refl nowhere w3.drew).alloc (.cells #[.int .i64 (m : Int), .slice (some ⟨g2, 0, none⟩) n n, .bool s] 56)
  have hbx := Blk.new w3.drew 56 #[.int .i64 (m : Int), .slice (some ⟨g2, 0, none⟩) n n, .bool s]
  have hbxr := box_q m (some ⟨g2, 0, none⟩) n n s w3.drew
  have ht5 := (ht3.drew).trans ht4 fun _ _ e => e
  obtain ⟨a2, ha2⟩ : ∃ x, x = w3.drew.heap.size := ⟨_, rfl⟩
  have hle : w.heap.size ≤ a2 := by rw [ha2]; exact ht3.size
  rw [← ha2] at hbx hbxr
  generalize w3.drew.alloc (.cells #[.int .i64 (m : Int), .slice (some ⟨g2, 0, none⟩) n n, .bool s] 56) = w4 at *
  have HF := Lib.hid (show Que w4 Z a2 (some g2) m l s ∧ w.heap.size ≤ a2 ∧ w.heap.size ≤ g2 ∧ Turn nowhere w w4 from
    ⟨⟨⟨some ⟨g2, 0, none⟩, n, xs, by rw [← hn]; exact hbx, by rw [← hn]; exact ((hoc.less (Nat.zero_le _)).still ((Turn.refl nowhere w3).drew)).still ht4, rfl, hx, fun x hx => (hz x hx).still ht5⟩, by omega, hmax, hway⟩, hle, by omega, ht5⟩)
  have HMK := Lib.hid hmk
  have HCP := Lib.hid hcp
  have HB := Lib.hid hb
  have HB2 := Lib.hid hb2
  have HBD := Lib.hid (show Blk w3.drew a 56 #[.int .i64 (m : Int), .slice A n c, .bool s] from hb3)
  have HBX := Lib.hid hbxr
  have HBD4 := Lib.hid (hb3.drew.turn ht4 fun e => e)
  clear hb hr hg hx hz hlen hway hxl hrw hmk hom htm hcp hoc htc hbn hb2 hb3 ht3 ht4 hbx hbxr ht5 hle ha2 hg2 hn
  go_enter Try.func9, Try.ntmps9
  go_upto_region 0 with fail
  refine wp_region_lit ?_
  refine wpList_run (v := .pointer none) (wanted_none rfl) (gx_assign rfl rfl) ?_
  simp only [Act.put, List.setIfInBounds_toArray, List.set_cons_zero, List.set_cons_succ]
  go_upto_region 1 with fail
  refine wp_region_lit ?_
  refine wpList_run (v := .pointer (some ⟨a, 0, none⟩)) (wanted_none rfl) (exec_move rfl rfl) ?_
  simp only [Act.put, List.setIfInBounds_toArray, List.set_cons_zero, List.set_cons_succ]
  refine wpList_run (v := .pointer (some ⟨a, 0, none⟩)) (wanted_none rfl) (exec_nil rfl rfl) ?_
  simp only [Act.put, List.setIfInBounds_toArray, List.set_cons_zero, List.set_cons_succ]
  refine wpList_run (v := .pointer (some ⟨a, 1, none⟩)) (wanted_none rfl) (exec_field (off := 0) (d := 1) rfl rfl (by kernel_rfl)) ?_
  simp only [Act.put, List.setIfInBounds_toArray, List.set_cons_zero, List.set_cons_succ]
  refine wpList_run (v := .slice A n c) (wanted_none rfl) (exec_load1 rfl rfl (by kernel_rfl) (HB.out.cell 1)) ?_
  simp only [Act.put, List.setIfInBounds_toArray, List.set_cons_zero, List.set_cons_succ]
  refine wpList_run (v := .int .i64 (n : Int)) (wanted_none rfl) (gx_len rfl rfl Try.underlying54) ?_
  simp only [Act.put, List.setIfInBounds_toArray, List.set_cons_zero, List.set_cons_succ]
  refine wpList_run (v := .slice (some ⟨g2, 0, none⟩) n n) (w' := w2) (wanted_none rfl) (gx_make rfl rfl rfl HMK.out) ?_
  simp only [Act.put, List.setIfInBounds_toArray, List.set_cons_zero, List.set_cons_succ]
  refine wpList_run (v := .slice (some ⟨g2, 0, none⟩) n n) (wanted_none rfl) (gx_assign rfl rfl) ?_
  simp only [Act.put, List.setIfInBounds_toArray, List.set_cons_zero, List.set_cons_succ]
  go_upto_region 2 with fail
  refine wp_region_lit ?_
  refine wpList_run (v := .slice (some ⟨g2, 0, none⟩) n n) (wanted_none rfl) (exec_move rfl rfl) ?_
  simp only [Act.put, List.setIfInBounds_toArray, List.set_cons_zero, List.set_cons_succ]
  refine wpList_run (v := .pointer (some ⟨a, 0, none⟩)) (wanted_none rfl) (exec_move rfl rfl) ?_
  simp only [Act.put, List.setIfInBounds_toArray, List.set_cons_zero, List.set_cons_succ]
  refine wpList_run (v := .pointer (some ⟨a, 0, none⟩)) (wanted_none rfl) (exec_nil rfl rfl) ?_
  simp only [Act.put, List.setIfInBounds_toArray, List.set_cons_zero, List.set_cons_succ]
  refine wpList_run (v := .pointer (some ⟨a, 1, none⟩)) (wanted_none rfl) (exec_field (off := 0) (d := 1) rfl rfl (by kernel_rfl)) ?_
  simp only [Act.put, List.setIfInBounds_toArray, List.set_cons_zero, List.set_cons_succ]
  refine wpList_run (v := .slice A n c) (wanted_none rfl) (exec_load1 rfl rfl (by kernel_rfl) (HB2.out.cell 1)) ?_
  simp only [Act.put, List.setIfInBounds_toArray, List.set_cons_zero, List.set_cons_succ]
  refine wpList_run (v := .int .i64 (n : Int)) (w' := w3) (wanted_none rfl) (exec_copy rfl rfl rfl HCP.out) ?_
  simp only [Act.put, List.setIfInBounds_toArray, List.set_cons_zero, List.set_cons_succ]
  go_upto_region 3 with fail
  refine wp_region_alw (fun W => Blk W a 56 #[.int .i64 (m : Int), .slice A n c, .bool s]) (by kernel_rfl) ?_
  have hS0 := HBD.out
  refine alw_take (i := 0) (v := .pointer (some ⟨a, 0, none⟩)) rfl (by kernel_rfl) (by kernel_rfl) (fun _ _ _ h => h) (.inl ⟨by rfl, fun W hW => exec_move rfl rfl⟩) hS0 ?_
  simp only [Act.put, List.setIfInBounds_toArray, List.set_cons_zero, List.set_cons_succ]
  refine alw_take (i := 1) (v := .pointer (some ⟨a, 0, none⟩)) rfl (by kernel_rfl) (by kernel_rfl) (fun _ _ _ h => h) (.inl ⟨by rfl, fun W hW => exec_nil rfl rfl⟩) hS0 ?_
  simp only [Act.put, List.setIfInBounds_toArray, List.set_cons_zero, List.set_cons_succ]
  refine alw_take (i := 2) (v := .pointer (some ⟨a, 0, none⟩)) rfl (by kernel_rfl) (by kernel_rfl) (fun _ _ _ h => h) (.inl ⟨by rfl, fun W hW => exec_field (off := 0) (d := 0) rfl rfl (by kernel_rfl)⟩) hS0 ?_
  simp only [Act.put, List.setIfInBounds_toArray, List.set_cons_zero, List.set_cons_succ]
  refine alw_take (i := 3) (v := .int .i64 (m : Int)) rfl (by kernel_rfl) (by kernel_rfl) (fun _ _ _ h => h) (.inl ⟨by rfl, fun W hW => exec_load1 rfl rfl (by kernel_rfl) (hW.cell 0)⟩) hS0 ?_
  simp only [Act.put, List.setIfInBounds_toArray, List.set_cons_zero, List.set_cons_succ]
  refine alw_take (i := 4) (v := .slice (some ⟨g2, 0, none⟩) n n) rfl (by kernel_rfl) (by kernel_rfl) (fun _ _ _ h => h) (.inl ⟨by rfl, fun W hW => exec_move rfl rfl⟩) hS0 ?_
  simp only [Act.put, List.setIfInBounds_toArray, List.set_cons_zero, List.set_cons_succ]
  refine alw_take (i := 5) (v := .pointer (some ⟨a, 0, none⟩)) rfl (by kernel_rfl) (by kernel_rfl) (fun _ _ _ h => h) (.inl ⟨by rfl, fun W hW => exec_move rfl rfl⟩) hS0 ?_
  simp only [Act.put, List.setIfInBounds_toArray, List.set_cons_zero, List.set_cons_succ]
  refine alw_take (i := 6) (v := .pointer (some ⟨a, 0, none⟩)) rfl (by kernel_rfl) (by kernel_rfl) (fun _ _ _ h => h) (.inl ⟨by rfl, fun W hW => exec_nil rfl rfl⟩) hS0 ?_
  simp only [Act.put, List.setIfInBounds_toArray, List.set_cons_zero, List.set_cons_succ]
  refine alw_take (i := 7) (v := .pointer (some ⟨a, 2, none⟩)) rfl (by kernel_rfl) (by kernel_rfl) (fun _ _ _ h => h) (.inl ⟨by rfl, fun W hW => exec_field (off := 0) (d := 2) rfl rfl (by kernel_rfl)⟩) hS0 ?_
  simp only [Act.put, List.setIfInBounds_toArray, List.set_cons_zero, List.set_cons_succ]
  refine alw_take (i := 8) (v := .bool s) rfl (by kernel_rfl) (by kernel_rfl) (fun _ _ _ h => h) (.inl ⟨by rfl, fun W hW => exec_load1 rfl rfl (by kernel_rfl) (hW.cell 2)⟩) hS0 ?_
  simp only [Act.put, List.setIfInBounds_toArray, List.set_cons_zero, List.set_cons_succ]
  refine alw_take (i := 9) (v := .agg #[.int .i64 (m : Int), .slice (some ⟨g2, 0, none⟩) n n, .bool s]) rfl (by kernel_rfl) (by kernel_rfl) (fun _ _ _ h => h) (.inl ⟨by rfl, fun W hW => gx_build3 rfl rfl rfl rfl (build_q3 m _ n n s _)⟩) hS0 ?_
  simp only [Act.put, List.setIfInBounds_toArray, List.set_cons_zero, List.set_cons_succ]
  clear hS0
  refine alw_step (i := 10) (by kernel_rfl) rfl rfl ?_
  intro K1 HK1
  refine wp_run (v := .pointer (some ⟨a2, 0, none⟩)) (w' := w4) (gx_box rfl rfl HBX.out) ?_
  refine HK1.out _ _ ⟨HBD4.out, ?_⟩
  clear HK1
  try simp only [Act.put, List.setIfInBounds_toArray, List.set_cons_zero, List.set_cons_succ]
  have hS0 := HBD4.out
  refine alw_take (i := 11) (v := .pointer (some ⟨a2, 0, none⟩)) rfl (by kernel_rfl) (by kernel_rfl) (fun _ _ _ h => h) (.inl ⟨by rfl, fun W hW => gx_assign rfl rfl⟩) hS0 ?_
  simp only [Act.put, List.setIfInBounds_toArray, List.set_cons_zero, List.set_cons_succ]
  refine alw_done rfl ?_
  refine NoPanic.normal ?_
  clear hS0
  try simp only [Act.put, List.setIfInBounds_toArray, List.set_cons_zero, List.set_cons_succ]
  go_wp2_with fail
  go_ret
  exact ⟨a2, g2, rfl, HF.out⟩
end Go.Proofs.Ytkcedcllefcboaa
