/-
  saf: copied, New, Len, Room, Stop: the walks. No conditions.
-/
import Derived.Test.YtkcedcllefcboaaSfA
import Derived.Test.YtkcedcllefcboaaAlw
namespace Go.Proofs.Ytkcedcllefcboaa
open Go.RowKit
set_option linter.unusedVariables false
set_option linter.unusedSimpArgs false
set_option maxRecDepth 20000
section
variable {P : Program} {st et : TypeId} {k by_ : Nat} {z : Value}
/-- copy of a whole row onto one of as many elements -/
theorem copy_all (E : Elm P st et k by_ z) {w : World} {B g n c sc : Nat} {A : Option Addr} {old rs : List (List Value)} {ty : TypeId} (h : Orw w B et k (.slice (some ⟨g, 0, none⟩) n c) old) (hs : Rws w k A n rs) (hf : Fit k rs) :
    ∃ w', (Builtin.copy_ #[st, st] ty #[.slice (some ⟨g, 0, none⟩) n c, .slice A n sc]).run P w = .ok (.int .i64 (n : Int)) w' ∧ Orw w' B et k (.slice (some ⟨g, 0, none⟩) n c) rs ∧ Turn (only g) w w' := by
  obtain ⟨cur, hb, hcs, ht, hn, hnc, hcm, hB⟩ := orw_block h
  obtain ⟨i0, hi0, hz0, hz1, hz2⟩ := info_parts E.inf
  rcases A with _ | a
  · have h0 : n = 0 := by
      rcases Nat.eq_zero_or_pos n with h0 | h0
      · exact h0
      · obtain ⟨_, _, e, _⟩ := hs.2.2.2 h0
        cases e
    subst h0
    have hr : rs = [] := List.eq_nil_of_length_eq_zero hs.1
    subst hr
    have ho : old = [] := List.eq_nil_of_length_eq_zero hn
    subst ho
    refine ⟨w, ?_, h, Turn.refl _ _⟩
    simp [Builtin.copy_, run_underlying E.und, Builtin.lenOf, Builtin.firstCells, sizeOf, typeInfo, hi0, hz1, storeCells, goInt]
  · have hfl := flat_len hf
    have hrn := hs.1
    have hk := E.pos
    have hle : n * k ≤ c * k := Nat.mul_le_mul_right _ hnc
    have hcp := run_copyK (P := P) E (ty := ty) (o := 0) (dLen := n) (dCap := c) (sLen := n) (sCap := sc) (a := a) (cs := rs.flatten) hb (by rw [hfl, hrn, show Nat.min n n = n from Nat.min_self n]) (fun j v hj => by
      obtain ⟨r, hr, hv⟩ := flat_get hk hf hj
      obtain ⟨b, off, e, hc⟩ := hs.at_ hr
      injection e with e
      subst e
      have := hc _ _ hv
      rw [add_nat]
      show w.cell? ⟨b, off + j, none⟩ = _
      rw [show off + j = off + j / k * k + j % k from by rw [Nat.add_assoc, show j / k * k + j % k = j from by rw [Nat.mul_comm]; exact Nat.div_add_mod j k]]
      exact this) (by rw [hfl, hrn, hcs]; omega) (flat_one hf)
    rw [show Nat.min n n = n from Nat.min_self n, List.take_zero, List.nil_append, Nat.zero_add] at hcp
    have hsz : (rs.flatten ++ cur.toList.drop rs.flatten.length).toArray.size = c * k := by
      have hcl : cur.toList.length = c * k := by rw [Array.length_toList, hcs]
      rw [List.size_toArray, List.length_append, List.length_drop, hcl, hfl, hrn]
      omega
    refine ⟨_, hcp, ?_, setRow_turn' w g _⟩
    refine orw_of (setRow_heap w g cur _ et (0, 0) hb) hB hf hrn hnc hcm hsz ?_
    rw [List.toList_toArray, List.take_append_of_le_length (by rw [hfl, hrn]; omega), List.take_of_length_le (by rw [hfl, hrn]; omega)]
end
theorem box_msg (ty : Int) (A : Option Addr) (n c : Nat) (w : World) : (Instr.box 35 (.agg #[.int .i64 ty, .slice A n c])).run Try.prog w = .ok (.pointer (some ⟨w.heap.size, 0, none⟩)) (w.alloc (.cells #[.int .i64 ty, .slice A n c] 35)) := by kernel_rfl
theorem zfld_one : ∀ u ∈ ((.agg #[.int .i64 0, .string ByteArray.empty] : Value).cells).toList, u.oneCell' = true := fun v hv => by
  have hv : v ∈ [Value.int .i64 0, .string ByteArray.empty] := hv
  simp only [List.mem_cons, List.not_mem_nil, or_false] at hv
  rcases hv with rfl | rfl <;> rfl
theorem newer {W w w' : World} {g : Nat} (h : Turn nowhere W w) (hg : W.heap.size ≤ g) (ht : Turn (only g) w w') : Turn nowhere W w' := h.trans ht fun k hk e => by
  have e : k = g := e
  omega
set_option maxRecDepth 20000 in
set_option maxHeartbeats 4000000 in
/-- a message whose fields stand in memory of their own -/
theorem copied_walk {w : World} {ty : Int} {A : Option Addr} {n c : Nat} {fs : List Fld} (h : Fq w A n fs) :
    Calls Try.prog 29 #[msgV ty A n c] w fun e w' => ∃ g : Nat, e = .returned (msgV ty (some ⟨g, 0, none⟩) n n) ∧ w.heap.size ≤ g ∧ Fr w' w.heap.size (.slice (some ⟨g, 0, none⟩) n n) fs ∧ Turn nowhere w w' := by
  have hroom := h.2
  have HF := Lib.hid h
  clear h
  unfold msgV
  go_enter Try.func29, Try.ntmps29
  go_upto_region 0 with fail
  refine wp_region_lit ?_
  refine wpList_run (v := .pointer (some ⟨(w).heap.size, 0, none⟩)) (w' := (w).alloc (.cells #[.int .i64 ty, .slice A n c] 35)) (wanted_none rfl) (gx_box rfl rfl (box_msg ty A n c _)) ?_
  simp only [Act.put, List.setIfInBounds_toArray, List.set_cons_zero, List.set_cons_succ]
  refine wpList_run (v := .pointer (some ⟨((w).alloc (.cells #[.int .i64 ty, .slice A n c] 35)).heap.size, 0, none⟩)) (w' := ((w).alloc (.cells #[.int .i64 ty, .slice A n c] 35)).alloc (.cells #[.int .i64 0, .slice none 0 0] 35)) (wanted_none rfl) (gx_alloc rfl (zero_msg _)) ?_
  simp only [Act.put, List.setIfInBounds_toArray, List.set_cons_zero, List.set_cons_succ]
  have hb_m := (Blk.new (w) 35 #[.int .i64 ty, .slice A n c]).alloc (.cells #[.int .i64 0, .slice none 0 0] 35)
  have hb_r := Blk.new ((w).alloc (.cells #[.int .i64 ty, .slice A n c] 35)) 35 #[.int .i64 0, .slice none 0 0]
  have ht_ := ((Turn.refl nowhere (w)).alloc (.cells #[.int .i64 ty, .slice A n c] 35)).alloc (.cells #[.int .i64 0, .slice none 0 0] 35)
  obtain ⟨n0_, hn0_⟩ : ∃ n, n = (w).heap.size := ⟨_, rfl⟩
  have hz_m : (w).heap.size = n0_ + 0 := by rw [hn0_]; simp
  have hz_r : ((w).alloc (.cells #[.int .i64 ty, .slice A n c] 35)).heap.size = n0_ + 1 := by rw [hn0_]; simp
  obtain ⟨r, hg_⟩ : ∃ g, g = ((w).alloc (.cells #[.int .i64 ty, .slice A n c] 35)).heap.size := ⟨_, rfl⟩
  rw [← hg_] at hb_r hz_r ⊢
  clear hg_
  obtain ⟨m, hg_⟩ : ∃ g, g = (w).heap.size := ⟨_, rfl⟩
  rw [← hg_] at hb_m hz_m ⊢
  clear hg_
  generalize ((w).alloc (.cells #[.int .i64 ty, .slice A n c] 35)).alloc (.cells #[.int .i64 0, .slice none 0 0] 35) = w1 at *
  have HT1 := Lib.hid ht_
  clear ht_
  have HBm := Lib.hid hb_m
  have HLm := Lib.hid (show (w).heap.size ≤ m from by omega)
  clear hb_m
  have HBr := Lib.hid hb_r
  have HLr := Lib.hid (show (w).heap.size ≤ r from by omega)
  clear hb_r
  have HNmr := Lib.hid (show m ≠ r from by omega)
  clear hn0_ hz_m hz_r
  clear n0_
  obtain ⟨w2, hmk, hom, htm⟩ := orw_make elmF zfld_one n (by omega) w1
  have hz1 := HT1.out.size
  obtain ⟨g, hg⟩ : ∃ g, g = w1.heap.size := ⟨_, rfl⟩
  rw [← hg] at hmk hom
  have HG := Lib.hid (show w.heap.size ≤ g from by omega)
  have HMK := Lib.hid hmk
  have HT2 := Lib.hid (HT1.out.trans htm fun _ _ e => e)
  have HBm2 := Lib.hid (HBm.out.turn htm fun e => e)
  have HBr2 := Lib.hid (HBr.out.turn htm fun e => e)
  obtain ⟨w3, hcp, hoc, htc⟩ := copy_all (ty := 3) (sc := c) elmF hom (HF.out.still HT2.out).1 (fit_fs fs)
  have hbn : ∃ cur, Blk w2 g 41 cur := Orw.own_blk hom rfl
  have HCP := Lib.hid hcp
  have HT3 := Lib.hid (newer HT2.out HG.out htc)
  have HOC := Lib.hid (hoc.less (by omega : w.heap.size ≤ g))
  have HBm3 := Lib.hid (HBm2.out.turn htc fun e => by
    obtain ⟨cur, hc⟩ := hbn
    have e : m = g := e
    subst e
    exact hc.ne_ HBm2.out (by decide) rfl)
  have HBr3 := Lib.hid (HBr2.out.turn htc fun e => by
    obtain ⟨cur, hc⟩ := hbn
    have e : r = g := e
    subst e
    exact hc.ne_ HBr2.out (by decide) rfl)
  clear hmk hom htm hcp hoc htc hbn hz1 hg
  go_upto_region 1 with fail
  refine wp_region_lit ?_
  refine wpList_run (v := .pointer (some ⟨m, 1, none⟩)) (wanted_none rfl) (exec_field (off := 0) (d := 1) rfl rfl (by kernel_rfl)) ?_
  simp only [Act.put, List.setIfInBounds_toArray, List.set_cons_zero, List.set_cons_succ]
  refine wpList_run (v := .slice A n c) (wanted_none rfl) (exec_load1 rfl rfl (by kernel_rfl) (HBm.out.cell 1)) ?_
  simp only [Act.put, List.setIfInBounds_toArray, List.set_cons_zero, List.set_cons_succ]
  refine wpList_run (v := .int .i64 (n : Int)) (wanted_none rfl) (gx_len rfl rfl Try.underlying33) ?_
  simp only [Act.put, List.setIfInBounds_toArray, List.set_cons_zero, List.set_cons_succ]
  refine wpList_run (v := .slice (some ⟨g, 0, none⟩) n n) (w' := w2) (wanted_none rfl) (gx_make rfl rfl rfl HMK.out) ?_
  simp only [Act.put, List.setIfInBounds_toArray, List.set_cons_zero, List.set_cons_succ]
  refine wpList_run (v := .slice (some ⟨g, 0, none⟩) n n) (wanted_none rfl) (gx_assign rfl rfl) ?_
  simp only [Act.put, List.setIfInBounds_toArray, List.set_cons_zero, List.set_cons_succ]
  go_upto_region 2 with fail
  refine wp_region_lit ?_
  refine wpList_run (v := .slice (some ⟨g, 0, none⟩) n n) (wanted_none rfl) (exec_move rfl rfl) ?_
  simp only [Act.put, List.setIfInBounds_toArray, List.set_cons_zero, List.set_cons_succ]
  refine wpList_run (v := .pointer (some ⟨m, 1, none⟩)) (wanted_none rfl) (exec_field (off := 0) (d := 1) rfl rfl (by kernel_rfl)) ?_
  simp only [Act.put, List.setIfInBounds_toArray, List.set_cons_zero, List.set_cons_succ]
  refine wpList_run (v := .slice A n c) (wanted_none rfl) (exec_load1 rfl rfl (by kernel_rfl) (HBm2.out.cell 1)) ?_
  simp only [Act.put, List.setIfInBounds_toArray, List.set_cons_zero, List.set_cons_succ]
  refine wpList_run (v := .int .i64 (n : Int)) (w' := w3) (wanted_none rfl) (exec_copy rfl rfl rfl HCP.out) ?_
  simp only [Act.put, List.setIfInBounds_toArray, List.set_cons_zero, List.set_cons_succ]
  go_upto_region 3 with fail
  refine wp_region_lit ?_
  refine wpList_run (v := .pointer (some ⟨m, 0, none⟩)) (wanted_none rfl) (exec_field (off := 0) (d := 0) rfl rfl (by kernel_rfl)) ?_
  simp only [Act.put, List.setIfInBounds_toArray, List.set_cons_zero, List.set_cons_succ]
  refine wpList_run (v := .int .i64 ty) (wanted_none rfl) (exec_load1 rfl rfl (by kernel_rfl) (HBm3.out.cell 0)) ?_
  simp only [Act.put, List.setIfInBounds_toArray, List.set_cons_zero, List.set_cons_succ]
  refine wpList_run (v := .slice (some ⟨g, 0, none⟩) n n) (wanted_none rfl) (exec_move rfl rfl) ?_
  simp only [Act.put, List.setIfInBounds_toArray, List.set_cons_zero, List.set_cons_succ]
  refine wpList_run (v := .agg #[.int .i64 ty, .slice (some ⟨g, 0, none⟩) n n]) (wanted_none rfl) (gx_build2 rfl rfl rfl (build_msg2 ty _ n n _)) ?_
  simp only [Act.put, List.setIfInBounds_toArray, List.set_cons_zero, List.set_cons_succ]
  refine wpList_store_row (wanted_none rfl) 35 (.tmp 2) (.tmp 15) rfl (#[.int .i64 ty, .slice (some ⟨g, 0, none⟩) n n]) HBr3.out rfl rfl (rfl) (by rw [size_msg] <;> rfl) (msgA_one _ _ _ _) ?_
  intro w4 hb_ ht_
  have HBr4 := Lib.hid hb_
  have HT4 := Lib.hid ht_
  clear hb_ ht_
  simp only [Act.put, List.setIfInBounds_toArray, List.set_cons_zero, List.set_cons_succ]
  go_wp2_with fail
  refine bodyPost_ret (v := .agg (#[.int .i64 ty, .slice (some ⟨g, 0, none⟩) n n])) (ret_cell1 rfl _ _ r _ _ _ rfl HBr4.out Try.underlying35 rfl (by rw [size_msg] <;> rfl)) rfl ?_
  exact ⟨g, rfl, HG.out, Orw.turn HOC.out HT4.out (fun b hb e => by
    have e : b = r := e
    subst e
    obtain ⟨cur, hc⟩ := Orw.own_blk HOC.out hb
    exact hc.ne_ HBr3.out (by decide) rfl), newer HT3.out HLr.out HT4.out⟩
theorem build_q1 (m : Nat) (W : World) : (Instr.build 56 #[(0, .int .i64 (m : Int))]).run Try.prog W = .ok (.agg #[.int .i64 (m : Int), .slice none 0 0, .bool false]) W := by kernel_rfl
theorem build_q3 (m : Nat) (A : Option Addr) (n c : Nat) (s : Bool) (W : World) : (Instr.build 56 #[(0, .int .i64 (m : Int)), (1, .slice A n c), (2, .bool s)]).run Try.prog W = .ok (.agg #[.int .i64 (m : Int), .slice A n c, .bool s]) W := by kernel_rfl
theorem box_q (m : Nat) (A : Option Addr) (n c : Nat) (s : Bool) (w : World) : (Instr.box 56 (.agg #[.int .i64 (m : Int), .slice A n c, .bool s])).run Try.prog w = .ok (.pointer (some ⟨w.heap.size, 0, none⟩)) (w.alloc (.cells #[.int .i64 (m : Int), .slice A n c, .bool s] 56)) := by kernel_rfl
theorem size_q : (Try.prog.info? 56).map (·.size) = some 3 := by kernel_rfl
theorem q_one (m : Int) (A : Option Addr) (n c : Nat) (s : Bool) : ∀ v ∈ (#[.int .i64 m, .slice A n c, .bool s] : Array Value).toList, v.oneCell' = true := fun v hv => by
  simp only [List.mem_cons, List.not_mem_nil, or_false] at hv
  rcases hv with rfl | rfl | rfl <;> rfl
def okN (x : Int) : Prop := 1 ≤ x ∧ x ≤ 16
set_option maxRecDepth 20000 in
set_option maxHeartbeats 4000000 in
theorem New_bad {x : Int} (h : ¬ okN x) (w : World) : Calls Try.prog 7 #[.int .i64 x] w fun e w' => e = .returned (.tuple #[.pointer none, .int .i64 1]) ∧ w' = w := by
  unfold okN at h
  go_enter Try.func7, Try.ntmps7
  go_upto_region 0 with fail
  refine wp_region_lit ?_
  refine wpList_run (v := .pointer none) (wanted_none rfl) (gx_assign rfl rfl) ?_
  simp only [Act.put, List.setIfInBounds_toArray, List.set_cons_zero, List.set_cons_succ]
  refine wpList_run (v := .int .i64 0) (wanted_none rfl) (gx_assign rfl rfl) ?_
  simp only [Act.put, List.setIfInBounds_toArray, List.set_cons_zero, List.set_cons_succ]
  by_cases h0 : x < 1
  · go_upto_region 1 with fail
    refine wp_region_lit ?_
    refine wpList_run (v := .int .i64 x) (wanted_none rfl) (exec_move rfl rfl) ?_
    simp only [Act.put, List.setIfInBounds_toArray, List.set_cons_zero, List.set_cons_succ]
    refine wpList_run (v := .bool true) (wanted_none rfl) (ix_lss rfl rfl rfl (decide_eq_true h0)) ?_
    simp only [Act.put, List.setIfInBounds_toArray, List.set_cons_zero, List.set_cons_succ]
    refine wpList_run (v := .bool true) (wanted_none rfl) (exec_move rfl rfl) ?_
    simp only [Act.put, List.setIfInBounds_toArray, List.set_cons_zero, List.set_cons_succ]
    refine wpList_skip (by go_simp) ?_
    simp only [Act.put, List.setIfInBounds_toArray, List.set_cons_zero, List.set_cons_succ]
    refine wpList_skip (by go_simp) ?_
    simp only [Act.put, List.setIfInBounds_toArray, List.set_cons_zero, List.set_cons_succ]
    refine wpList_run (v := .bool true) (wanted_none rfl) (ix_pickT rfl rfl rfl) ?_
    simp only [Act.put, List.setIfInBounds_toArray, List.set_cons_zero, List.set_cons_succ]
    go_upto_region 2 with fail
    refine wp_region_lit ?_
    refine wpList_run (v := .pointer none) (wanted_none rfl) (gx_assign rfl rfl) ?_
    simp only [Act.put, List.setIfInBounds_toArray, List.set_cons_zero, List.set_cons_succ]
    refine wpList_run (v := .int .i64 1) (wanted_none rfl) (gx_assign rfl rfl) ?_
    simp only [Act.put, List.setIfInBounds_toArray, List.set_cons_zero, List.set_cons_succ]
    go_wp2_with fail
    go_ret2
    exact ⟨rfl, rfl⟩
  · go_upto_region 1 with fail
    refine wp_region_lit ?_
    refine wpList_run (v := .int .i64 x) (wanted_none rfl) (exec_move rfl rfl) ?_
    simp only [Act.put, List.setIfInBounds_toArray, List.set_cons_zero, List.set_cons_succ]
    refine wpList_run (v := .bool false) (wanted_none rfl) (ix_lss rfl rfl rfl (decide_eq_false h0)) ?_
    simp only [Act.put, List.setIfInBounds_toArray, List.set_cons_zero, List.set_cons_succ]
    refine wpList_run (v := .bool false) (wanted_none rfl) (exec_move rfl rfl) ?_
    simp only [Act.put, List.setIfInBounds_toArray, List.set_cons_zero, List.set_cons_succ]
    refine wpList_run (v := .int .i64 x) rfl (exec_move rfl rfl) ?_
    simp only [Act.put, List.setIfInBounds_toArray, List.set_cons_zero, List.set_cons_succ]
    refine wpList_run (v := .bool true) rfl (ix_gtr rfl rfl rfl (decide_eq_true (by omega))) ?_
    simp only [Act.put, List.setIfInBounds_toArray, List.set_cons_zero, List.set_cons_succ]
    refine wpList_run (v := .bool true) (wanted_none rfl) (ix_pickF rfl rfl rfl) ?_
    simp only [Act.put, List.setIfInBounds_toArray, List.set_cons_zero, List.set_cons_succ]
    go_upto_region 2 with fail
    refine wp_region_lit ?_
    refine wpList_run (v := .pointer none) (wanted_none rfl) (gx_assign rfl rfl) ?_
    simp only [Act.put, List.setIfInBounds_toArray, List.set_cons_zero, List.set_cons_succ]
    refine wpList_run (v := .int .i64 1) (wanted_none rfl) (gx_assign rfl rfl) ?_
    simp only [Act.put, List.setIfInBounds_toArray, List.set_cons_zero, List.set_cons_succ]
    go_wp2_with fail
    go_ret2
    exact ⟨rfl, rfl⟩
set_option maxRecDepth 20000 in
set_option maxHeartbeats 4000000 in
theorem New_ok {m : Nat} (h : 1 ≤ m ∧ m ≤ 16) (w : World) : Calls Try.prog 7 #[.int .i64 (m : Int)] w fun e w' => ∃ a : Nat, e = .returned (.tuple #[.pointer (some ⟨a, 0, none⟩), .int .i64 0]) ∧ w.heap.size ≤ a ∧ (∀ Z, Que w' Z a none m [] false) ∧ Turn nowhere w w' := by
  have HM := Lib.hid h
  go_enter Try.func7, Try.ntmps7
  go_upto_region 0 with fail
  refine wp_region_lit ?_
  refine wpList_run (v := .pointer none) (wanted_none rfl) (gx_assign rfl rfl) ?_
  simp only [Act.put, List.setIfInBounds_toArray, List.set_cons_zero, List.set_cons_succ]
  refine wpList_run (v := .int .i64 0) (wanted_none rfl) (gx_assign rfl rfl) ?_
  simp only [Act.put, List.setIfInBounds_toArray, List.set_cons_zero, List.set_cons_succ]
  go_upto_region 1 with fail
  refine wp_region_lit ?_
  refine wpList_run (v := .int .i64 (m : Int)) (wanted_none rfl) (exec_move rfl rfl) ?_
  simp only [Act.put, List.setIfInBounds_toArray, List.set_cons_zero, List.set_cons_succ]
  refine wpList_run (v := .bool false) (wanted_none rfl) (ix_lss rfl rfl rfl (decide_eq_false (by omega))) ?_
  simp only [Act.put, List.setIfInBounds_toArray, List.set_cons_zero, List.set_cons_succ]
  refine wpList_run (v := .bool false) (wanted_none rfl) (exec_move rfl rfl) ?_
  simp only [Act.put, List.setIfInBounds_toArray, List.set_cons_zero, List.set_cons_succ]
  refine wpList_run (v := .int .i64 (m : Int)) rfl (exec_move rfl rfl) ?_
  simp only [Act.put, List.setIfInBounds_toArray, List.set_cons_zero, List.set_cons_succ]
  refine wpList_run (v := .bool false) rfl (ix_gtr rfl rfl rfl (decide_eq_false (by omega))) ?_
  simp only [Act.put, List.setIfInBounds_toArray, List.set_cons_zero, List.set_cons_succ]
  refine wpList_run (v := .bool false) (wanted_none rfl) (ix_pickF rfl rfl rfl) ?_
  simp only [Act.put, List.setIfInBounds_toArray, List.set_cons_zero, List.set_cons_succ]
  go_upto_region 3 with fail
  refine wp_region_lit ?_
  refine wpList_run (v := .int .i64 (m : Int)) (wanted_none rfl) (exec_move rfl rfl) ?_
  simp only [Act.put, List.setIfInBounds_toArray, List.set_cons_zero, List.set_cons_succ]
  refine wpList_run (v := .agg #[.int .i64 (m : Int), .slice none 0 0, .bool false]) (wanted_none rfl) (gx_build1 rfl rfl (build_q1 m _)) ?_
  simp only [Act.put, List.setIfInBounds_toArray, List.set_cons_zero, List.set_cons_succ]
  refine wpList_run (v := .pointer (some ⟨w.heap.size, 0, none⟩)) (w' := w.alloc (.cells #[.int .i64 (m : Int), .slice none 0 0, .bool false] 56)) (wanted_none rfl) (gx_box rfl rfl (box_q m none 0 0 false w)) ?_
  simp only [Act.put, List.setIfInBounds_toArray, List.set_cons_zero, List.set_cons_succ]
  have hb := Blk.new w 56 #[.int .i64 (m : Int), .slice none 0 0, .bool false]
  have ht := (Turn.refl nowhere w).alloc (.cells #[.int .i64 (m : Int), .slice none 0 0, .bool false] 56)
  obtain ⟨a, ha⟩ : ∃ a, a = w.heap.size := ⟨_, rfl⟩
  rw [← ha] at hb ⊢
  have HA := Lib.hid (show w.heap.size ≤ a from by omega)
  clear ha
  generalize w.alloc (.cells #[.int .i64 (m : Int), .slice none 0 0, .bool false] 56) = w1 at *
  have HB := Lib.hid hb
  have HT := Lib.hid ht
  clear hb ht h
  refine wpList_run (v := .pointer (some ⟨a, 0, none⟩)) (wanted_none rfl) (gx_assign rfl rfl) ?_
  simp only [Act.put, List.setIfInBounds_toArray, List.set_cons_zero, List.set_cons_succ]
  refine wpList_run (v := .int .i64 0) (wanted_none rfl) (gx_assign rfl rfl) ?_
  simp only [Act.put, List.setIfInBounds_toArray, List.set_cons_zero, List.set_cons_succ]
  go_wp2_with fail
  go_ret2
  exact ⟨a, rfl, HA.out, fun Z => ⟨⟨none, 0, [], HB.out, Orw.nil _ _ _ _, rfl, rfl, fun x hx => by cases hx⟩, Nat.zero_le _, HM.out, fun e => by cases e⟩, HT.out⟩
set_option maxRecDepth 20000 in
set_option maxHeartbeats 4000000 in
theorem Len_walk {w : World} {Z : Nat → Prop} {a m : Nat} {g : Option Nat} {l : List Adv} {s : Bool} (q : Que w Z a g m l s) : Calls Try.prog 25 #[.pointer (some ⟨a, 0, none⟩)] w fun e w' => e = .returned (.int .i64 (l.length : Int)) ∧ w' = w := by
  obtain ⟨⟨A, c, xs, hb, hr, hg, hx, hz⟩, hlen, hmax, hway⟩ := q
  obtain ⟨n, hn⟩ : ∃ n, n = l.length := ⟨_, rfl⟩
  rw [← hn] at hb hlen ⊢
  have HB := Lib.hid hb
  clear hb hr hg hx hz hlen hmax hway hn
  go_enter Try.func25, Try.ntmps25
  go_upto_region 0 with fail
  refine wp_region_lit ?_
  refine wpList_run (v := .int .i64 0) (wanted_none rfl) (gx_assign rfl rfl) ?_
  simp only [Act.put, List.setIfInBounds_toArray, List.set_cons_zero, List.set_cons_succ]
  go_upto_region 1 with fail
  refine wp_region_lit ?_
  refine wpList_run (v := .pointer (some ⟨a, 0, none⟩)) (wanted_none rfl) (exec_move rfl rfl) ?_
  simp only [Act.put, List.setIfInBounds_toArray, List.set_cons_zero, List.set_cons_succ]
  refine wpList_run (v := .pointer (some ⟨a, 0, none⟩)) (wanted_none rfl) (exec_nil rfl rfl) ?_
  simp only [Act.put, List.setIfInBounds_toArray, List.set_cons_zero, List.set_cons_succ]
  refine wpList_run (v := .pointer (some ⟨a, 1, none⟩)) (wanted_none rfl) (exec_field (off := 0) (d := 1) rfl rfl (by kernel_rfl)) ?_
  simp only [Act.put, List.setIfInBounds_toArray, List.set_cons_zero, List.set_cons_succ]
  refine wpList_run (v := .slice A n c) (wanted_none rfl) (exec_load1 rfl rfl (by kernel_rfl) (HB.out.cell 1)) ?_
  simp only [Act.put, List.setIfInBounds_toArray, List.set_cons_zero, List.set_cons_succ]
  refine wpList_run (v := .int .i64 (n : Int)) (wanted_none rfl) (gx_len rfl rfl Try.underlying54) ?_
  simp only [Act.put, List.setIfInBounds_toArray, List.set_cons_zero, List.set_cons_succ]
  refine wpList_run (v := .int .i64 (n : Int)) (wanted_none rfl) (gx_assign rfl rfl) ?_
  simp only [Act.put, List.setIfInBounds_toArray, List.set_cons_zero, List.set_cons_succ]
  go_wp2_with fail
  go_ret
  exact ⟨rfl, rfl⟩
set_option maxRecDepth 20000 in
set_option maxHeartbeats 4000000 in
theorem Room_walk {w : World} {Z : Nat → Prop} {a m : Nat} {g : Option Nat} {l : List Adv} {s : Bool} (q : Que w Z a g m l s) : Calls Try.prog 26 #[.pointer (some ⟨a, 0, none⟩)] w fun e w' => e = .returned (.int .i64 ((m : Int) - (l.length : Int))) ∧ Turn nowhere w w' := by
  obtain ⟨⟨A, c, xs, hb, hr, hg, hx, hz⟩, hlen, hmax, hway⟩ := q
  obtain ⟨n, hn⟩ : ∃ n, n = l.length := ⟨_, rfl⟩
  rw [← hn] at hb hlen ⊢
  have HB := Lib.hid hb
  have hm2 := hmax.2
  clear hb hr hg hx hz hmax hway hn
  go_enter Try.func26, Try.ntmps26
  go_upto_region 0 with fail
  refine wp_region_lit ?_
  refine wpList_run (v := .int .i64 0) (wanted_none rfl) (gx_assign rfl rfl) ?_
  simp only [Act.put, List.setIfInBounds_toArray, List.set_cons_zero, List.set_cons_succ]
  go_upto_region 1 with fail
  refine wp_region_alw (fun W => Blk W a 56 #[.int .i64 (m : Int), .slice A n c, .bool s]) (by kernel_rfl) ?_
  have hS0 : (fun W => Blk W a 56 #[.int .i64 (m : Int), .slice A n c, .bool s]) w.drew := HB.out
  have HD := Lib.hid ((Turn.refl nowhere w).drew)
  generalize w.drew = wd at *
  refine alw_take (i := 0) (v := .pointer (some ⟨a, 0, none⟩)) rfl (by kernel_rfl) (by kernel_rfl) (fun _ _ _ h => h) (.inl ⟨by rfl, fun W hW => exec_move rfl rfl⟩) hS0 ?_
  simp only [Act.put, List.setIfInBounds_toArray, List.set_cons_zero, List.set_cons_succ]
  refine alw_take (i := 1) (v := .pointer (some ⟨a, 0, none⟩)) rfl (by kernel_rfl) (by kernel_rfl) (fun _ _ _ h => h) (.inl ⟨by rfl, fun W hW => exec_nil rfl rfl⟩) hS0 ?_
  simp only [Act.put, List.setIfInBounds_toArray, List.set_cons_zero, List.set_cons_succ]
  refine alw_take (i := 2) (v := .pointer (some ⟨a, 0, none⟩)) rfl (by kernel_rfl) (by kernel_rfl) (fun _ _ _ h => h) (.inl ⟨by rfl, fun W hW => exec_field (off := 0) (d := 0) rfl rfl (by kernel_rfl)⟩) hS0 ?_
  simp only [Act.put, List.setIfInBounds_toArray, List.set_cons_zero, List.set_cons_succ]
  refine alw_take (i := 3) (v := .int .i64 (m : Int)) rfl (by kernel_rfl) (by kernel_rfl) (fun _ _ _ h => h) (.inl ⟨by rfl, fun W hW => exec_load1 rfl rfl (by kernel_rfl) (hW.cell 0)⟩) hS0 ?_
  simp only [Act.put, List.setIfInBounds_toArray, List.set_cons_zero, List.set_cons_succ]
  refine alw_take (i := 4) (v := .pointer (some ⟨a, 0, none⟩)) rfl (by kernel_rfl) (by kernel_rfl) (fun _ _ _ h => h) (.inl ⟨by rfl, fun W hW => exec_move rfl rfl⟩) hS0 ?_
  simp only [Act.put, List.setIfInBounds_toArray, List.set_cons_zero, List.set_cons_succ]
  refine alw_take (i := 5) (v := .pointer (some ⟨a, 0, none⟩)) rfl (by kernel_rfl) (by kernel_rfl) (fun _ _ _ h => h) (.inl ⟨by rfl, fun W hW => exec_nil rfl rfl⟩) hS0 ?_
  simp only [Act.put, List.setIfInBounds_toArray, List.set_cons_zero, List.set_cons_succ]
  refine alw_take (i := 6) (v := .pointer (some ⟨a, 1, none⟩)) rfl (by kernel_rfl) (by kernel_rfl) (fun _ _ _ h => h) (.inl ⟨by rfl, fun W hW => exec_field (off := 0) (d := 1) rfl rfl (by kernel_rfl)⟩) hS0 ?_
  simp only [Act.put, List.setIfInBounds_toArray, List.set_cons_zero, List.set_cons_succ]
  refine alw_take (i := 7) (v := .slice A n c) rfl (by kernel_rfl) (by kernel_rfl) (fun _ _ _ h => h) (.inl ⟨by rfl, fun W hW => exec_load1 rfl rfl (by kernel_rfl) (hW.cell 1)⟩) hS0 ?_
  simp only [Act.put, List.setIfInBounds_toArray, List.set_cons_zero, List.set_cons_succ]
  refine alw_take (i := 8) (v := .int .i64 (n : Int)) rfl (by kernel_rfl) (by kernel_rfl) (fun _ _ _ h => h) (.inl ⟨by rfl, fun W hW => gx_len rfl rfl Try.underlying54⟩) hS0 ?_
  simp only [Act.put, List.setIfInBounds_toArray, List.set_cons_zero, List.set_cons_succ]
  refine alw_take (i := 9) (v := .int .i64 ((m : Int) - (n : Int))) rfl (by kernel_rfl) (by kernel_rfl) (fun _ _ _ h => h) (.inl ⟨by rfl, fun W hW => ix_sub rfl rfl rfl rfl (by omega)⟩) hS0 ?_
  simp only [Act.put, List.setIfInBounds_toArray, List.set_cons_zero, List.set_cons_succ]
  refine alw_take (i := 10) (v := .int .i64 ((m : Int) - (n : Int))) rfl (by kernel_rfl) (by kernel_rfl) (fun _ _ _ h => h) (.inl ⟨by rfl, fun W hW => gx_assign rfl rfl⟩) hS0 ?_
  simp only [Act.put, List.setIfInBounds_toArray, List.set_cons_zero, List.set_cons_succ]
  refine alw_done rfl ?_
  refine NoPanic.normal ?_
  clear hS0
  try simp only [Act.put, List.setIfInBounds_toArray, List.set_cons_zero, List.set_cons_succ]
  go_wp2_with fail
  go_ret
  exact ⟨rfl, HD.out⟩
theorem size_bool : (Try.prog.info? 4).map (·.size) = some 1 := by kernel_rfl
/-- a queue whose first one is under way, or is no more -/
theorem Que.sets {w w' : World} {Z : Nat → Prop} {a m : Nat} {g : Option Nat} {l : List Adv} {s s' : Bool} {A : Option Addr} {n c : Nat} (q : Que w Z a g m l s) (hb : Blk w a 56 #[.int .i64 (m : Int), .slice A n c, .bool s]) (hb' : Blk w' a 56 #[.int .i64 (m : Int), .slice A n c, .bool s']) (ht : Turn (only a) w w') (hs : s' = true → l ≠ []) : Que w' Z a g m l s' := by
  obtain ⟨⟨A', c', xs, h1, h2, h3, h4, h5⟩, h6, h7, h8⟩ := q
  have e := h1.inj hb
  simp only [Array.mk.injEq, List.cons.injEq, Value.slice.injEq, and_true, true_and] at e
  obtain ⟨rfl, rfl, rfl⟩ := e
  refine ⟨⟨A', c', xs, hb', h2.turn ht fun b hb2 e => ?_, h3, h4, fun x hx => (h5 x hx).turn ht fun k cur hk _ e => ?_⟩, h6, h7, hs⟩
  · have e : b = a := e
    subst e
    obtain ⟨cur, hc⟩ := Orw.own_blk h2 hb2
    exact hc.ne_ h1 (by decide) rfl
  · have e : k = a := e
    subst e
    exact hk.ne_ h1 (by decide) rfl
set_option maxRecDepth 20000 in
set_option maxHeartbeats 4000000 in
theorem Stop_walk {w : World} {Z : Nat → Prop} {a m : Nat} {g : Option Nat} {l : List Adv} {s : Bool} (q : Que w Z a g m l s) : Calls Try.prog 21 #[.pointer (some ⟨a, 0, none⟩)] w fun e w' => e = .returned (.tuple #[]) ∧ Que w' Z a g m l false ∧ Turn (only a) w w' := by
  have HQ := Lib.hid q
  obtain ⟨⟨A, c, xs, hb, hr, hg, hx, hz⟩, hlen, hmax, hway⟩ := q
  obtain ⟨n, hn⟩ : ∃ n, n = l.length := ⟨_, rfl⟩
  rw [← hn] at hb hlen
  have HB := Lib.hid hb
  clear hb hr hg hx hz hlen hmax hway hn
  go_enter Try.func21, Try.ntmps21
  go_upto_region 0 with fail
  refine wp_region_lit ?_
  refine wpList_run (v := .pointer (some ⟨a, 0, none⟩)) (wanted_none rfl) (exec_move rfl rfl) ?_
  simp only [Act.put, List.setIfInBounds_toArray, List.set_cons_zero, List.set_cons_succ]
  refine wpList_run (v := .pointer (some ⟨a, 0, none⟩)) (wanted_none rfl) (exec_nil rfl rfl) ?_
  simp only [Act.put, List.setIfInBounds_toArray, List.set_cons_zero, List.set_cons_succ]
  refine wpList_run (v := .pointer (some ⟨a, 2, none⟩)) (wanted_none rfl) (exec_field (off := 0) (d := 2) rfl rfl (by kernel_rfl)) ?_
  simp only [Act.put, List.setIfInBounds_toArray, List.set_cons_zero, List.set_cons_succ]
  refine wpList_storeU 2 (.bool false) (wanted_none rfl) 4 _ _ rfl HB.out rfl rfl (by show 2 < 3; omega) ⟨rfl, rfl⟩ size_bool ?_
  intro w1 hb1 ht1
  simp only [Act.put, List.setIfInBounds_toArray, List.set_cons_zero, List.set_cons_succ]
  have HB1 := Lib.hid (show Blk w1 a 56 #[.int .i64 (m : Int), .slice A n c, .bool false] from hb1)
  have HT1 := Lib.hid ht1
  clear hb1 ht1
  go_wp2_with fail
  go_end0
  exact ⟨rfl, HQ.out.sets HB.out HB1.out HT1.out fun e => (by cases e), HT1.out⟩
end Go.Proofs.Ytkcedcllefcboaa
