/-
  saf: Send, Done: the walks. No conditions.
-/
import Derived.Test.YtkcedcllefcboaaSfD
namespace Go.Proofs.Ytkcedcllefcboaa
open Go.RowKit
set_option linter.unusedVariables false
set_option linter.unusedSimpArgs false
set_option maxRecDepth 20000
section
variable {P : Program} {st et : TypeId} {k by_ : Nat} {z : Value}
/-- copy(s, s[1:]) -/
theorem copy_down (E : Elm P st et k by_ z) {w : World} {B b n c : Nat} {rs : List (List Value)} {ty : TypeId} (h : Orw w B et k (.slice (some ⟨b, 0, none⟩) n c) rs) (h1 : 1 ≤ n) :
    ∃ w' cur', (Builtin.copy_ #[st, st] ty #[.slice (some ⟨b, 0, none⟩) n c, .slice (fromK k (some ⟨b, 0, none⟩) c 1) (n - 1) (c - 1)]).run P w = .ok (.int .i64 ((n - 1 : Nat) : Int)) w' ∧ Blk w' b et cur' ∧ cur'.size = c * k ∧ cur'.toList.take ((n - 1) * k) = (rs.drop 1).flatten ∧ Turn (only b) w w' := by
  obtain ⟨cur, hb, hcs, ht, hn, hnc, hcm, hB⟩ := orw_block h
  have hf := h.1
  have hfd : Fit k (rs.drop 1) := hf.sub fun r hr => List.mem_of_mem_drop hr
  have hdl : (rs.drop 1).flatten.length = (n - 1) * k := by rw [flat_len hfd, List.length_drop, hn]
  have hcells : ∀ q u, rs.flatten[q]? = some u → w.cell? ⟨b, q, none⟩ = some u := fun q u h9 => by
    have := World.ownsRow.cells (g := b) h.2 rfl q u h9
    rwa [add_nat, Nat.zero_add] at this
  obtain ⟨a, ha, hsrc⟩ : ∃ a, fromK k (some ⟨b, 0, none⟩) c 1 = some a ∧ ∀ q u, (rs.drop 1).flatten[q]? = some u → w.cell? (a.add q) = some u := by
    by_cases hc1 : c = 1
    · refine ⟨⟨b, 0, none⟩, by unfold fromK; rw [if_pos hc1], fun q u hu => ?_⟩
      have := (List.getElem?_eq_some_iff.1 hu).1
      rw [hdl, show n - 1 = 0 from by omega, Nat.zero_mul] at this
      omega
    · refine ⟨⟨b, 0 + 1 * k, none⟩, fromK_at (by omega), fun q u hu => ?_⟩
      rw [← flat_drop 1 hf (by omega), List.getElem?_drop] at hu
      rw [add_nat, Nat.zero_add]
      exact hcells _ _ hu
  have hle : (n - 1) * k ≤ c * k := Nat.mul_le_mul_right _ (by omega)
  have hmin : Nat.min (n - 1) n = n - 1 := Nat.min_eq_left (by omega)
  have hcp := run_copyK (P := P) E (ty := ty) (o := 0) (dLen := n) (dCap := c) (sLen := n - 1) (sCap := c - 1) (a := a) (cs := (rs.drop 1).flatten) hb (by rw [hdl, hmin]) hsrc (by rw [hdl, hcs]; omega) (flat_one hfd)
  rw [hmin, List.take_zero, List.nil_append, Nat.zero_add] at hcp
  rw [ha]
  refine ⟨_, _, hcp, setRow_heap w b cur _ et (0, 0) hb, ?_, ?_, setRow_turn' w b _⟩
  · have hcl : cur.toList.length = c * k := by rw [Array.length_toList, hcs]
    rw [List.size_toArray, List.length_append, List.length_drop, hcl, hdl]
    omega
  · rw [List.toList_toArray, List.take_append_of_le_length (by rw [hdl]; exact Nat.le_refl _), List.take_of_length_le (by rw [hdl]; exact Nat.le_refl _)]
end
theorem SomeE.less {W w w' : World} {x : Adv} {e : Ending} (h : SomeE w x e w') (hW : W.heap.size ≤ w.heap.size) : SomeE W x e w' := by
  obtain ⟨g, h1, h2, h3⟩ := h
  exact ⟨g, h1, by omega, Orw.less h3 hW⟩
set_option maxRecDepth 20000 in
set_option maxHeartbeats 400000 in
theorem Send_no {w : World} {Z : Nat → Prop} {a m : Nat} {g : Option Nat} {l : List Adv} {s : Bool} (q : Que w Z a g m l s) (hs : s = true ∨ l = []) : Calls Try.prog 16 #[.pointer (some ⟨a, 0, none⟩)] w fun e w' => e = noneE ∧ Turn nowhere w w' := by
  obtain ⟨⟨A, c, xs, hb, hr, hg, hx, hz⟩, hlen, hmax, hway⟩ := q
  obtain ⟨n, hn⟩ : ∃ n, n = l.length := ⟨_, rfl⟩
  rw [← hn] at hb hr hg hlen
  have hxl : xs.length = n := by rw [hn, ← hx, List.length_map]
  have HB := Lib.hid hb
  have HS := Lib.hid (show s = false → n = 0 from fun e => by
    rcases hs with h | h
    · rw [e] at h; cases h
    · rw [hn, h]; rfl)
  clear hb hr hg hx hz hlen hmax hway hn hxl hs
  go_enter Try.func16, Try.ntmps16
  go_upto_region 0 with fail
  refine wp_region_lit ?_
  refine wpList_run (v := strV []) (wanted_none rfl) (gx_assign rfl rfl) ?_
  simp only [Act.put, List.setIfInBounds_toArray, List.set_cons_zero, List.set_cons_succ]
  refine wpList_run (v := .pointer (some ⟨w.heap.size, 0, none⟩)) (w' := w.alloc (.cells #[.int .i64 0, .slice none 0 0] 35)) (wanted_none rfl) (gx_alloc rfl (zero_msg _)) ?_
  simp only [Act.put, List.setIfInBounds_toArray, List.set_cons_zero, List.set_cons_succ]
  have hb_ := Blk.new w 35 #[.int .i64 0, .slice none 0 0]
  have ht_ := (Turn.refl nowhere w).alloc (.cells #[.int .i64 0, .slice none 0 0] 35)
  obtain ⟨r, hg_⟩ : ∃ g, g = w.heap.size := ⟨_, rfl⟩
  rw [← hg_] at hb_ ⊢
  have HLr := Lib.hid (show w.heap.size ≤ r from by omega)
  clear hg_
  generalize w.alloc (.cells #[.int .i64 0, .slice none 0 0] 35) = w1 at *
  have HBr := Lib.hid hb_
  have HT1 := Lib.hid ht_
  clear hb_ ht_
  refine wpList_run (v := .bool false) (wanted_none rfl) (gx_assign rfl rfl) ?_
  simp only [Act.put, List.setIfInBounds_toArray, List.set_cons_zero, List.set_cons_succ]
  have HB1 := Lib.hid (HB.out.turn HT1.out fun e => e)
  clear HB
  by_cases hsb : s = true
  · subst hsb
    go_upto_region 1 with fail
    refine wp_region_lit ?_
    refine wpList_run (v := .pointer (some ⟨a, 0, none⟩)) (wanted_none rfl) (exec_move rfl rfl) ?_
    simp only [Act.put, List.setIfInBounds_toArray, List.set_cons_zero, List.set_cons_succ]
    refine wpList_run (v := .pointer (some ⟨a, 0, none⟩)) (wanted_none rfl) (exec_nil rfl rfl) ?_
    simp only [Act.put, List.setIfInBounds_toArray, List.set_cons_zero, List.set_cons_succ]
    refine wpList_run (v := .pointer (some ⟨a, 2, none⟩)) (wanted_none rfl) (exec_field (off := 0) (d := 2) rfl rfl (by kernel_rfl)) ?_
    simp only [Act.put, List.setIfInBounds_toArray, List.set_cons_zero, List.set_cons_succ]
    refine wpList_run (v := .bool true) (wanted_none rfl) (exec_load1 rfl rfl (by kernel_rfl) (HB1.out.cell 2)) ?_
    simp only [Act.put, List.setIfInBounds_toArray, List.set_cons_zero, List.set_cons_succ]
    refine wpList_run (v := .bool true) (wanted_none rfl) (exec_move rfl rfl) ?_
    simp only [Act.put, List.setIfInBounds_toArray, List.set_cons_zero, List.set_cons_succ]
    refine wpList_skip (by go_simp) ?_
    simp only [Act.put, List.setIfInBounds_toArray, List.set_cons_zero, List.set_cons_succ]
    refine wpList_skip (by go_simp) ?_
    simp only [Act.put, List.setIfInBounds_toArray, List.set_cons_zero, List.set_cons_succ]
    refine wpList_skip (by go_simp) ?_
    simp only [Act.put, List.setIfInBounds_toArray, List.set_cons_zero, List.set_cons_succ]
    refine wpList_skip (by go_simp) ?_
    simp only [Act.put, List.setIfInBounds_toArray, List.set_cons_zero, List.set_cons_succ]
    refine wpList_skip (by go_simp) ?_
    simp only [Act.put, List.setIfInBounds_toArray, List.set_cons_zero, List.set_cons_succ]
    refine wpList_skip (by go_simp) ?_
    simp only [Act.put, List.setIfInBounds_toArray, List.set_cons_zero, List.set_cons_succ]
    refine wpList_run (v := .bool true) (wanted_none rfl) (ix_pickT rfl rfl rfl) ?_
    simp only [Act.put, List.setIfInBounds_toArray, List.set_cons_zero, List.set_cons_succ]
    go_upto_region 2 with fail
    refine wp_region_lit ?_
    refine wpList_run (v := .agg #[.int .i64 0, .slice none 0 0]) (wanted_none rfl) (gx_build0 rfl (build_m0 _)) ?_
    simp only [Act.put, List.setIfInBounds_toArray, List.set_cons_zero, List.set_cons_succ]
    refine wpList_run (v := strV []) (wanted_none rfl) (gx_assign rfl rfl) ?_
    simp only [Act.put, List.setIfInBounds_toArray, List.set_cons_zero, List.set_cons_succ]
    refine wpList_store_row (wanted_none rfl) 35 (.tmp 3) (.tmp 17) rfl (#[.int .i64 0, .slice none 0 0]) HBr.out rfl rfl (rfl) (by rw [size_msg] <;> rfl) (msgA_one _ _ _ _) ?_
    intro w2 hb_ ht_
    have HBr2 := Lib.hid hb_
    have HT2 := Lib.hid ht_
    clear hb_ ht_
    simp only [Act.put, List.setIfInBounds_toArray, List.set_cons_zero, List.set_cons_succ]
    refine wpList_run (v := .bool false) (wanted_none rfl) (gx_assign rfl rfl) ?_
    simp only [Act.put, List.setIfInBounds_toArray, List.set_cons_zero, List.set_cons_succ]
    go_wp2_with fail
    refine bodyPost_ret (v := .tuple #[strV [], .agg #[.int .i64 0, .slice none 0 0], .bool false]) (ret_cell3 rfl _ _ r _ _ _ rfl rfl rfl HBr2.out Try.underlying35 rfl (by rw [size_msg] <;> rfl)) rfl ?_
    exact ⟨rfl, newer HT1.out HLr.out HT2.out⟩
  · have hsf : s = false := by simpa using hsb
    subst hsf
    have h0 := HS.out rfl
    subst h0
    clear hsb
    go_upto_region 1 with fail
    refine wp_region_lit ?_
    refine wpList_run (v := .pointer (some ⟨a, 0, none⟩)) (wanted_none rfl) (exec_move rfl rfl) ?_
    simp only [Act.put, List.setIfInBounds_toArray, List.set_cons_zero, List.set_cons_succ]
    refine wpList_run (v := .pointer (some ⟨a, 0, none⟩)) (wanted_none rfl) (exec_nil rfl rfl) ?_
    simp only [Act.put, List.setIfInBounds_toArray, List.set_cons_zero, List.set_cons_succ]
    refine wpList_run (v := .pointer (some ⟨a, 2, none⟩)) (wanted_none rfl) (exec_field (off := 0) (d := 2) rfl rfl (by kernel_rfl)) ?_
    simp only [Act.put, List.setIfInBounds_toArray, List.set_cons_zero, List.set_cons_succ]
    refine wpList_run (v := .bool false) (wanted_none rfl) (exec_load1 rfl rfl (by kernel_rfl) (HB1.out.cell 2)) ?_
    simp only [Act.put, List.setIfInBounds_toArray, List.set_cons_zero, List.set_cons_succ]
    refine wpList_run (v := .bool false) (wanted_none rfl) (exec_move rfl rfl) ?_
    simp only [Act.put, List.setIfInBounds_toArray, List.set_cons_zero, List.set_cons_succ]
    refine wpList_run (v := .pointer (some ⟨a, 0, none⟩)) rfl (exec_move rfl rfl) ?_
    simp only [Act.put, List.setIfInBounds_toArray, List.set_cons_zero, List.set_cons_succ]
    refine wpList_run (v := .pointer (some ⟨a, 0, none⟩)) rfl (exec_nil rfl rfl) ?_
    simp only [Act.put, List.setIfInBounds_toArray, List.set_cons_zero, List.set_cons_succ]
    refine wpList_run (v := .pointer (some ⟨a, 1, none⟩)) rfl (exec_field (off := 0) (d := 1) rfl rfl (by kernel_rfl)) ?_
    simp only [Act.put, List.setIfInBounds_toArray, List.set_cons_zero, List.set_cons_succ]
    refine wpList_run (v := .slice A 0 c) rfl (exec_load1 rfl rfl (by kernel_rfl) (HB1.out.cell 1)) ?_
    simp only [Act.put, List.setIfInBounds_toArray, List.set_cons_zero, List.set_cons_succ]
    refine wpList_run (v := .int .i64 ((0 : Nat) : Int)) rfl (gx_len rfl rfl Try.underlying54) ?_
    simp only [Act.put, List.setIfInBounds_toArray, List.set_cons_zero, List.set_cons_succ]
    refine wpList_run (v := .bool true) rfl (ix_eql rfl rfl rfl (by decide)) ?_
    simp only [Act.put, List.setIfInBounds_toArray, List.set_cons_zero, List.set_cons_succ]
    refine wpList_run (v := .bool true) (wanted_none rfl) (ix_pickF rfl rfl rfl) ?_
    simp only [Act.put, List.setIfInBounds_toArray, List.set_cons_zero, List.set_cons_succ]
    go_upto_region 2 with fail
    refine wp_region_lit ?_
    refine wpList_run (v := .agg #[.int .i64 0, .slice none 0 0]) (wanted_none rfl) (gx_build0 rfl (build_m0 _)) ?_
    simp only [Act.put, List.setIfInBounds_toArray, List.set_cons_zero, List.set_cons_succ]
    refine wpList_run (v := strV []) (wanted_none rfl) (gx_assign rfl rfl) ?_
    simp only [Act.put, List.setIfInBounds_toArray, List.set_cons_zero, List.set_cons_succ]
    refine wpList_store_row (wanted_none rfl) 35 (.tmp 3) (.tmp 17) rfl (#[.int .i64 0, .slice none 0 0]) HBr.out rfl rfl (rfl) (by rw [size_msg] <;> rfl) (msgA_one _ _ _ _) ?_
    intro w2 hb_ ht_
    have HBr2 := Lib.hid hb_
    have HT2 := Lib.hid ht_
    clear hb_ ht_
    simp only [Act.put, List.setIfInBounds_toArray, List.set_cons_zero, List.set_cons_succ]
    refine wpList_run (v := .bool false) (wanted_none rfl) (gx_assign rfl rfl) ?_
    simp only [Act.put, List.setIfInBounds_toArray, List.set_cons_zero, List.set_cons_succ]
    go_wp2_with fail
    refine bodyPost_ret (v := .tuple #[strV [], .agg #[.int .i64 0, .slice none 0 0], .bool false]) (ret_cell3 rfl _ _ r _ _ _ rfl rfl rfl HBr2.out Try.underlying35 rfl (by rw [size_msg] <;> rfl)) rfl ?_
    exact ⟨rfl, newer HT1.out HLr.out HT2.out⟩
set_option maxRecDepth 20000 in
set_option maxHeartbeats 400000 in
theorem Send_yes {w : World} {Z : Nat → Prop} {a m : Nat} {g : Option Nat} {y : Adv} {r' : List Adv} (q : Que w Z a g m (y :: r') false) : Calls Try.prog 16 #[.pointer (some ⟨a, 0, none⟩)] w fun e w' => SomeE w y e w' ∧ Que w' Z a g m (y :: r') true ∧ Turn (only a) w w' := by
  have HQ := Lib.hid q
  obtain ⟨l, hl⟩ : ∃ l, l = y :: r' := ⟨_, rfl⟩
  rw [← hl] at q
  obtain ⟨⟨A, c, xs, hb, hr, hg, hx, hz⟩, hlen, hmax, hway⟩ := q
  obtain ⟨n, hn⟩ : ∃ n, n = l.length := ⟨_, rfl⟩
  rw [← hn] at hb hr hg hlen
  have hxl : xs.length = n := by rw [hn, ← hx, List.length_map]
  have HB := Lib.hid hb
  have HN := Lib.hid (show ¬ (n : Int) = 0 from by rw [hn, hl]; exact fun e => by cases e)
  clear hb hr hg hx hz hlen hmax hway hn hxl hl
  go_enter Try.func16, Try.ntmps16
  go_upto_region 0 with fail
  refine wp_region_lit ?_
  refine wpList_run (v := strV []) (wanted_none rfl) (gx_assign rfl rfl) ?_
  simp only [Act.put, List.setIfInBounds_toArray, List.set_cons_zero, List.set_cons_succ]
  refine wpList_run (v := .pointer (some ⟨w.heap.size, 0, none⟩)) (w' := w.alloc (.cells #[.int .i64 0, .slice none 0 0] 35)) (wanted_none rfl) (gx_alloc rfl (zero_msg _)) ?_
  simp only [Act.put, List.setIfInBounds_toArray, List.set_cons_zero, List.set_cons_succ]
  have hb_ := Blk.new w 35 #[.int .i64 0, .slice none 0 0]
  have ht_ := (Turn.refl nowhere w).alloc (.cells #[.int .i64 0, .slice none 0 0] 35)
  obtain ⟨r, hg_⟩ : ∃ g, g = w.heap.size := ⟨_, rfl⟩
  rw [← hg_] at hb_ ⊢
  have HLr := Lib.hid (show w.heap.size ≤ r from by omega)
  clear hg_
  generalize w.alloc (.cells #[.int .i64 0, .slice none 0 0] 35) = w1 at *
  have HBr := Lib.hid hb_
  have HT1 := Lib.hid ht_
  clear hb_ ht_
  refine wpList_run (v := .bool false) (wanted_none rfl) (gx_assign rfl rfl) ?_
  simp only [Act.put, List.setIfInBounds_toArray, List.set_cons_zero, List.set_cons_succ]
  have HB1 := Lib.hid (HB.out.turn HT1.out fun e => e)
  clear HB
  go_upto_region 1 with fail
  refine wp_region_lit ?_
  refine wpList_run (v := .pointer (some ⟨a, 0, none⟩)) (wanted_none rfl) (exec_move rfl rfl) ?_
  simp only [Act.put, List.setIfInBounds_toArray, List.set_cons_zero, List.set_cons_succ]
  refine wpList_run (v := .pointer (some ⟨a, 0, none⟩)) (wanted_none rfl) (exec_nil rfl rfl) ?_
  simp only [Act.put, List.setIfInBounds_toArray, List.set_cons_zero, List.set_cons_succ]
  refine wpList_run (v := .pointer (some ⟨a, 2, none⟩)) (wanted_none rfl) (exec_field (off := 0) (d := 2) rfl rfl (by kernel_rfl)) ?_
  simp only [Act.put, List.setIfInBounds_toArray, List.set_cons_zero, List.set_cons_succ]
  refine wpList_run (v := .bool false) (wanted_none rfl) (exec_load1 rfl rfl (by kernel_rfl) (HB1.out.cell 2)) ?_
  simp only [Act.put, List.setIfInBounds_toArray, List.set_cons_zero, List.set_cons_succ]
  refine wpList_run (v := .bool false) (wanted_none rfl) (exec_move rfl rfl) ?_
  simp only [Act.put, List.setIfInBounds_toArray, List.set_cons_zero, List.set_cons_succ]
  refine wpList_run (v := .pointer (some ⟨a, 0, none⟩)) rfl (exec_move rfl rfl) ?_
  simp only [Act.put, List.setIfInBounds_toArray, List.set_cons_zero, List.set_cons_succ]
  refine wpList_run (v := .pointer (some ⟨a, 0, none⟩)) rfl (exec_nil rfl rfl) ?_
  simp only [Act.put, List.setIfInBounds_toArray, List.set_cons_zero, List.set_cons_succ]
  refine wpList_run (v := .pointer (some ⟨a, 1, none⟩)) rfl (exec_field (off := 0) (d := 1) rfl rfl (by kernel_rfl)) ?_
  simp only [Act.put, List.setIfInBounds_toArray, List.set_cons_zero, List.set_cons_succ]
  refine wpList_run (v := .slice A n c) rfl (exec_load1 rfl rfl (by kernel_rfl) (HB1.out.cell 1)) ?_
  simp only [Act.put, List.setIfInBounds_toArray, List.set_cons_zero, List.set_cons_succ]
  refine wpList_run (v := .int .i64 (n : Int)) rfl (gx_len rfl rfl Try.underlying54) ?_
  simp only [Act.put, List.setIfInBounds_toArray, List.set_cons_zero, List.set_cons_succ]
  refine wpList_run (v := .bool false) rfl (ix_eql rfl rfl rfl (decide_eq_false HN.out)) ?_
  simp only [Act.put, List.setIfInBounds_toArray, List.set_cons_zero, List.set_cons_succ]
  refine wpList_run (v := .bool false) (wanted_none rfl) (ix_pickF rfl rfl rfl) ?_
  simp only [Act.put, List.setIfInBounds_toArray, List.set_cons_zero, List.set_cons_succ]
  go_upto_region 3 with fail
  refine wp_region_lit ?_
  refine wpList_run (v := .pointer (some ⟨a, 0, none⟩)) (wanted_none rfl) (exec_move rfl rfl) ?_
  simp only [Act.put, List.setIfInBounds_toArray, List.set_cons_zero, List.set_cons_succ]
  refine wpList_run (v := .pointer (some ⟨a, 0, none⟩)) (wanted_none rfl) (exec_nil rfl rfl) ?_
  simp only [Act.put, List.setIfInBounds_toArray, List.set_cons_zero, List.set_cons_succ]
  refine wpList_run (v := .pointer (some ⟨a, 2, none⟩)) (wanted_none rfl) (exec_field (off := 0) (d := 2) rfl rfl (by kernel_rfl)) ?_
  simp only [Act.put, List.setIfInBounds_toArray, List.set_cons_zero, List.set_cons_succ]
  refine wpList_storeU 2 (.bool true) (wanted_none rfl) 4 _ _ rfl HB1.out rfl rfl (by show 2 < 3; omega) ⟨rfl, rfl⟩ size_bool ?_
  intro w2 hb1 ht1
  simp only [Act.put, List.setIfInBounds_toArray, List.set_cons_zero, List.set_cons_succ]
  have HQ2 := Lib.hid ((HQ.out.still HT1.out).sets HB1.out (show Blk w2 a 56 #[.int .i64 (m : Int), .slice A n c, .bool true] from hb1) ht1 fun _ e => by cases e)
  have HBr2 := Lib.hid (HBr.out.turn ht1 fun e => (show ¬ r = a from HBr.out.ne_ HB1.out (by decide)) e)
  have HT2 := Lib.hid ((HT1.out.mono (G := only a) fun _ _ e => e.elim).trans ht1 fun _ _ e => e)
  have HA2 := Lib.hid (Again_yes HQ2.out)
  have HZ2 := Lib.hid (show w.heap.size ≤ w2.heap.size from HT2.out.size)
  clear hb1 ht1
  go_upto_region 4 with fail
  refine wp_region_lit ?_
  refine wpList_run (v := .pointer (some ⟨a, 0, none⟩)) (wanted_none rfl) (exec_move rfl rfl) ?_
  simp only [Act.put, List.setIfInBounds_toArray, List.set_cons_zero, List.set_cons_succ]
  refine wpList_op (wanted_none rfl) fun K9 HK9 => ?_
  go_wp2_with fail
  refine (HA2.out).mono ?_
  rintro e w5 ⟨⟨g5, rfl, hg5, hfr⟩, ht5⟩
  obtain ⟨k5, hk5⟩ : ∃ k5, k5 = y.2.2.length := ⟨_, rfl⟩
  rw [← hk5] at hfr ⊢
  have HK5 := Lib.hid hk5
  have HFR := Lib.hid hfr
  have HG5 := Lib.hid hg5
  have HBr5 := Lib.hid (HBr2.out.turn ht5 fun e => e)
  have HQ5 := Lib.hid (HQ2.out.still ht5)
  have HT5 := Lib.hid (HT2.out.trans ht5 fun _ _ e => e.elim)
  clear hk5 hfr hg5 ht5 HQ2 HA2
  refine HK9.out _ _ ?_
  clear HK9
  try simp only [Act.put, List.setIfInBounds_toArray, List.set_cons_zero, List.set_cons_succ]
  refine wpList_run (v := strV y.1) (wanted_none rfl) (ix_extract rfl rfl rfl) ?_
  simp only [Act.put, List.setIfInBounds_toArray, List.set_cons_zero, List.set_cons_succ]
  refine wpList_run (v := .agg #[.int .i64 y.2.1, .slice (some ⟨g5, 0, none⟩) k5 k5]) (wanted_none rfl) (ix_extract rfl rfl rfl) ?_
  simp only [Act.put, List.setIfInBounds_toArray, List.set_cons_zero, List.set_cons_succ]
  refine wpList_run (v := .bool true) (wanted_none rfl) (ix_extract rfl rfl rfl) ?_
  simp only [Act.put, List.setIfInBounds_toArray, List.set_cons_zero, List.set_cons_succ]
  refine wpList_run (v := strV y.1) (wanted_none rfl) (gx_assign rfl rfl) ?_
  simp only [Act.put, List.setIfInBounds_toArray, List.set_cons_zero, List.set_cons_succ]
  refine wpList_store_row (wanted_none rfl) 35 (.tmp 3) (.tmp 24) rfl (#[.int .i64 y.2.1, .slice (some ⟨g5, 0, none⟩) k5 k5]) HBr5.out rfl rfl (rfl) (by rw [size_msg] <;> rfl) (msgA_one _ _ _ _) ?_
  intro w6 hb_ ht_
  have HBr6 := Lib.hid hb_
  have HT6 := Lib.hid ht_
  clear hb_ ht_
  simp only [Act.put, List.setIfInBounds_toArray, List.set_cons_zero, List.set_cons_succ]
  refine wpList_run (v := .bool true) (wanted_none rfl) (gx_assign rfl rfl) ?_
  simp only [Act.put, List.setIfInBounds_toArray, List.set_cons_zero, List.set_cons_succ]
  have HF := Lib.hid (show SomeE w y (.returned (.tuple #[strV y.1, .agg #[.int .i64 y.2.1, .slice (some ⟨g5, 0, none⟩) k5 k5], .bool true])) w6 ∧ Que w6 Z a g m (y :: r') true ∧ Turn (only a) w w6 from by
    refine ⟨⟨g5, by rw [← HK5.out], by have := HG5.out; have := HZ2.out; omega, ?_⟩, HQ5.out.turn HT6.out (fun e => ?_) (fun b hb e => ?_) fun k cur hk _ e => ?_, HT5.out.trans HT6.out fun k hk e => ?_⟩
    · rw [← HK5.out]
      refine (Orw.less HFR.out HZ2.out).turn HT6.out fun b hb e => ?_
      have e : b = r := e
      subst e
      obtain ⟨cur, hc⟩ := Orw.own_blk HFR.out hb
      exact hc.ne_ HBr5.out (by decide) rfl
    · obtain ⟨cs, hc⟩ := HQ5.out.box
      exact hc.ne_ HBr5.out (by decide) e
    · obtain ⟨cs, hc⟩ := HQ5.out.rowb hb
      exact hc.ne_ HBr5.out (by decide) e
    · exact hk.ne_ HBr5.out (by decide) e
    · have e : k = r := e
      have := HLr.out
      omega)
  go_wp2_with fail
  refine bodyPost_ret (v := .tuple #[strV y.1, .agg #[.int .i64 y.2.1, .slice (some ⟨g5, 0, none⟩) k5 k5], .bool true]) (ret_cell3 rfl _ _ r _ _ _ rfl rfl rfl HBr6.out Try.underlying35 rfl (by rw [size_msg] <;> rfl)) rfl ?_
  exact HF.out
theorem build_a0 (W : World) : (Instr.build 64 #[]).run Try.prog W = .ok (.agg #[strV [], .int .i64 0, .slice none 0 0]) W := by kernel_rfl
set_option maxRecDepth 20000 in
set_option maxHeartbeats 400000 in
theorem Done_no {w : World} {Z : Nat → Prop} {a m : Nat} {g : Option Nat} {l : List Adv} {s : Bool} (q : Que w Z a g m l s) {nm : List UInt8} (hs : Sf.canDone l s nm = false) : Calls Try.prog 19 #[.pointer (some ⟨a, 0, none⟩), strV nm] w fun e w' => e = .returned (.bool false) ∧ w' = w := by
  obtain ⟨⟨A, c, xs, hb, hr, hg, hx, hz⟩, hlen, hmax, hway⟩ := q
  obtain ⟨n, hn⟩ : ∃ n, n = l.length := ⟨_, rfl⟩
  rw [← hn] at hb hr hg hlen
  have hxl : xs.length = n := by rw [hn, ← hx, List.length_map]
  have HB := Lib.hid hb
  have HFX := Lib.hid (show s = true → ∃ (x : Adx) (b off : Nat), A = some ⟨b, off, none⟩ ∧ 0 < n ∧ w.rangeAt b off x.cs ∧ (x.nm == nm) = false from fun e => by
    have hrw := hr.rws (by rw [List.length_map]; omega) (by decide)
    cases hl : l with
    | nil => exact absurd hl (hway e)
    | cons y r' =>
      cases hxs : xs with
      | nil => rw [hxs] at hx; rw [hl] at hx; cases hx
      | cons x xs' =>
        obtain ⟨b, off, hA, hat⟩ := ad_at (j := 0) (x := x) hrw (by rw [hxs]; rfl)
        rw [Nat.zero_mul, Nat.add_zero] at hat
        refine ⟨x, b, off, hA, by rw [← hxl, hxs]; exact Nat.succ_pos _, hat, beq_eq_false_iff_ne.2 fun e2 => ?_⟩
        rw [hxs, hl, List.map_cons] at hx
        injection hx with hx1 _
        unfold Sf.canDone at hs
        rw [e, hl, ← hx1] at hs
        simp [Adx.pl, e2] at hs)
  clear hb hr hg hx hz hlen hmax hway hn hxl hs
  go_enter Try.func19, Try.ntmps19
  go_upto_region 0 with fail
  refine wp_region_lit ?_
  refine wpList_run (v := .bool false) (wanted_none rfl) (gx_assign rfl rfl) ?_
  simp only [Act.put, List.setIfInBounds_toArray, List.set_cons_zero, List.set_cons_succ]
  by_cases hsb : s = true
  · obtain ⟨x, b, off, rfl, hn1, hat, hne⟩ := HFX.out hsb
    subst hsb
    have HAT := Lib.hid hat
    have HN1 := Lib.hid hn1
    have HNE := Lib.hid hne
    clear hat hn1 hne HFX
    go_upto_region 1 with fail
    refine wp_region_lit ?_
    refine wpList_run (v := .pointer (some ⟨a, 0, none⟩)) (wanted_none rfl) (exec_move rfl rfl) ?_
    simp only [Act.put, List.setIfInBounds_toArray, List.set_cons_zero, List.set_cons_succ]
    refine wpList_run (v := .pointer (some ⟨a, 0, none⟩)) (wanted_none rfl) (exec_nil rfl rfl) ?_
    simp only [Act.put, List.setIfInBounds_toArray, List.set_cons_zero, List.set_cons_succ]
    refine wpList_run (v := .pointer (some ⟨a, 2, none⟩)) (wanted_none rfl) (exec_field (off := 0) (d := 2) rfl rfl (by kernel_rfl)) ?_
    simp only [Act.put, List.setIfInBounds_toArray, List.set_cons_zero, List.set_cons_succ]
    refine wpList_run (v := .bool true) (wanted_none rfl) (exec_load1 rfl rfl (by kernel_rfl) (HB.out.cell 2)) ?_
    simp only [Act.put, List.setIfInBounds_toArray, List.set_cons_zero, List.set_cons_succ]
    refine wpList_run (v := .bool false) (wanted_none rfl) (ix_not (b := true) rfl rfl) ?_
    simp only [Act.put, List.setIfInBounds_toArray, List.set_cons_zero, List.set_cons_succ]
    refine wpList_run (v := .bool false) (wanted_none rfl) (exec_move rfl rfl) ?_
    simp only [Act.put, List.setIfInBounds_toArray, List.set_cons_zero, List.set_cons_succ]
    refine wpList_run (v := .pointer (some ⟨a, 0, none⟩)) rfl (exec_move rfl rfl) ?_
    simp only [Act.put, List.setIfInBounds_toArray, List.set_cons_zero, List.set_cons_succ]
    refine wpList_run (v := .pointer (some ⟨a, 0, none⟩)) rfl (exec_nil rfl rfl) ?_
    simp only [Act.put, List.setIfInBounds_toArray, List.set_cons_zero, List.set_cons_succ]
    refine wpList_run (v := .pointer (some ⟨a, 1, none⟩)) rfl (exec_field (off := 0) (d := 1) rfl rfl (by kernel_rfl)) ?_
    simp only [Act.put, List.setIfInBounds_toArray, List.set_cons_zero, List.set_cons_succ]
    refine wpList_run (v := .slice (some ⟨b, off, none⟩) n c) rfl (exec_load1 rfl rfl (by kernel_rfl) (HB.out.cell 1)) ?_
    simp only [Act.put, List.setIfInBounds_toArray, List.set_cons_zero, List.set_cons_succ]
    refine wpList_run (v := .pointer (some ⟨b, off, none⟩)) rfl (gx_iaddr (i := 0) (sz := 3) rfl rfl rfl Try.underlying54 size_ad HN1.out (by omega)) ?_
    simp only [Act.put, List.setIfInBounds_toArray, List.set_cons_zero, List.set_cons_succ]
    refine wpList_run (v := .pointer (some ⟨b, off, none⟩)) rfl (exec_field (off := off) (d := 0) rfl rfl (by kernel_rfl)) ?_
    simp only [Act.put, List.setIfInBounds_toArray, List.set_cons_zero, List.set_cons_succ]
    refine wpList_run (v := strV x.nm) rfl (exec_load1 rfl rfl (by kernel_rfl) (HAT.out 0 _ rfl)) ?_
    simp only [Act.put, List.setIfInBounds_toArray, List.set_cons_zero, List.set_cons_succ]
    refine wpList_run (v := strV nm) rfl (exec_move rfl rfl) ?_
    simp only [Act.put, List.setIfInBounds_toArray, List.set_cons_zero, List.set_cons_succ]
    refine wpList_run (v := .bool true) rfl ((exec_sneq rfl rfl rfl).trans (by rw [HNE.out]; rfl)) ?_
    simp only [Act.put, List.setIfInBounds_toArray, List.set_cons_zero, List.set_cons_succ]
    refine wpList_run (v := .bool true) (wanted_none rfl) (ix_pickF rfl rfl rfl) ?_
    simp only [Act.put, List.setIfInBounds_toArray, List.set_cons_zero, List.set_cons_succ]
    go_upto_region 2 with fail
    refine wp_region_lit ?_
    refine wpList_run (v := .bool false) (wanted_none rfl) (gx_assign rfl rfl) ?_
    simp only [Act.put, List.setIfInBounds_toArray, List.set_cons_zero, List.set_cons_succ]
    go_wp2_with fail
    go_ret
    exact ⟨rfl, rfl⟩
  · have hsf : s = false := by simpa using hsb
    subst hsf
    clear hsb HFX
    go_upto_region 1 with fail
    first
    | (rename_i K9 hK9; have HKC := Lib.hid hK9; clear hK9)
    | (rename_i K9 hK9 K8; have HKC := Lib.hid hK9; clear hK9)
    refine wp_region_lit ?_
    refine wpList_run (v := .pointer (some ⟨a, 0, none⟩)) (wanted_none rfl) (exec_move rfl rfl) ?_
    simp only [Act.put, List.setIfInBounds_toArray, List.set_cons_zero, List.set_cons_succ]
    refine wpList_run (v := .pointer (some ⟨a, 0, none⟩)) (wanted_none rfl) (exec_nil rfl rfl) ?_
    simp only [Act.put, List.setIfInBounds_toArray, List.set_cons_zero, List.set_cons_succ]
    refine wpList_run (v := .pointer (some ⟨a, 2, none⟩)) (wanted_none rfl) (exec_field (off := 0) (d := 2) rfl rfl (by kernel_rfl)) ?_
    simp only [Act.put, List.setIfInBounds_toArray, List.set_cons_zero, List.set_cons_succ]
    refine wpList_run (v := .bool false) (wanted_none rfl) (exec_load1 rfl rfl (by kernel_rfl) (HB.out.cell 2)) ?_
    simp only [Act.put, List.setIfInBounds_toArray, List.set_cons_zero, List.set_cons_succ]
    refine wpList_run (v := .bool true) (wanted_none rfl) (ix_not (b := false) rfl rfl) ?_
    simp only [Act.put, List.setIfInBounds_toArray, List.set_cons_zero, List.set_cons_succ]
    refine wpList_run (v := .bool true) (wanted_none rfl) (exec_move rfl rfl) ?_
    simp only [Act.put, List.setIfInBounds_toArray, List.set_cons_zero, List.set_cons_succ]
    go_wp2_with fail
    refine HKC.out _ _ ?_
    clear HKC
    go_upto_region 2 with fail
    refine wp_region_lit ?_
    refine wpList_run (v := .bool false) (wanted_none rfl) (gx_assign rfl rfl) ?_
    simp only [Act.put, List.setIfInBounds_toArray, List.set_cons_zero, List.set_cons_succ]
    go_wp2_with fail
    go_ret
    exact ⟨rfl, rfl⟩
set_option maxRecDepth 20000 in
set_option maxHeartbeats 400000 in
theorem Done_yes {w : World} {Z : Nat → Prop} {a m : Nat} {g : Option Nat} {y : Adv} {r' : List Adv} (q : Que w Z a g m (y :: r') true) : Calls Try.prog 19 #[.pointer (some ⟨a, 0, none⟩), strV y.1] w fun e w' => e = .returned (.bool true) ∧ Que w' Z a g m r' false ∧ Turn (foot a g) w w' := by
  obtain ⟨l, hl⟩ : ∃ l, l = y :: r' := ⟨_, rfl⟩
  rw [← hl] at q
  obtain ⟨⟨A, c, xs, hb, hr, hg, hx, hz⟩, hlen, hmax, hway⟩ := q
  obtain ⟨n, hn⟩ : ∃ n, n = l.length := ⟨_, rfl⟩
  rw [← hn] at hb hr hg hlen
  have hxl : xs.length = n := by rw [hn, ← hx, List.length_map]
  obtain ⟨x, xs', hxs⟩ : ∃ x xs', xs = x :: xs' := by
    cases xs with
    | nil => rw [← hx] at hl; cases hl
    | cons x xs' => exact ⟨x, xs', rfl⟩
  have hxy : x.pl = y ∧ xs'.map Adx.pl = r' := by
    rw [hxs, List.map_cons, hl] at hx
    injection hx with h1 h2
    exact ⟨h1, h2⟩
  have hn1 : 1 ≤ n := by rw [← hxl, hxs]; exact Nat.succ_pos _
  have hrl : r'.length = n - 1 := by rw [hn, hl]; rfl
  obtain ⟨b, c', e, _⟩ := hr.some_ (by rw [List.length_map]; omega)
  rw [List.length_map, hxl] at e
  injection e with e1 _ e3
  subst e1 e3
  have hrw := hr.rws (by rw [List.length_map]; omega) (by decide)
  obtain ⟨b', off', e, hat⟩ := ad_at (j := 0) (x := x) hrw (by rw [hxs]; rfl)
  injection e with e
  injection e with e1 e2
  subst e1 e2
  rw [Nat.zero_mul, Nat.add_zero] at hat
  obtain ⟨_, _, _, _, _, hnc, hcm, _⟩ := orw_block hr
  obtain ⟨w2, cur2, hcp, hb2, hs2, ht2, htt⟩ := copy_down (ty := 3) elmA (hr.still (Turn.refl nowhere w).drew) hn1
  have hgb : g = some b := hg.symm
  subst hgb
  have hab : ¬ a = b := fun e => by
    obtain ⟨cur, hc⟩ := Orw.own_blk hr rfl
    subst e
    exact hb.ne_ hc (by decide) rfl
  have HB := Lib.hid hb
  have HBD := Lib.hid (show Blk w.drew a 56 #[.int .i64 (m : Int), .slice (some ⟨b, 0, none⟩) n c, .bool true] from hb)
  have HB2 := Lib.hid (hb.drew.turn htt hab)
  have HRB2 := Lib.hid hb2
  have HCS := Lib.hid hs2
  have HTK := Lib.hid ht2
  have HCP := Lib.hid hcp
  have HN1 := Lib.hid hn1
  have HCC := Lib.hid hnc
  have HAT := Lib.hid hat
  have HAB := Lib.hid hab
  have HT2 := Lib.hid ((Turn.refl (only b) w).drew.trans htt fun _ _ e => e)
  have hdr : (xs.map Adx.cs).drop 1 = xs'.map Adx.cs := by rw [hxs]; rfl
  have HDR := Lib.hid hdr
  have HEND := Lib.hid (show ∀ (w' : World) (cur : Array Value), Blk w' a 56 #[.int .i64 (m : Int), .slice (some ⟨b, 0, none⟩) (n - 1) c, .bool false] → Blk w' b 64 cur → cur.size = c * 3 → cur.toList.take ((n - 1) * 3) = ((xs.map Adx.cs).drop 1).flatten → Turn (foot a (some b)) w w' → Que w' Z a (some b) m r' false from fun w' cur h1 h2 h3 h4 h5 => by
    refine ⟨⟨some ⟨b, 0, none⟩, c, xs', by rw [hrl]; exact h1, by rw [hrl]; exact orw_of h2 (Nat.zero_le _) (fit_ad xs') (by rw [List.length_map, ← hrl, ← hxy.2, List.length_map]) (by omega) hcm h3 (by rw [h4, hdr]), rfl, hxy.2, fun z hz' => (hz z (by rw [hxs]; exact List.mem_cons_of_mem _ hz')).turn h5 fun k cur hk _ e => ?_⟩, by omega, hmax, fun e => by cases e⟩
    rcases e with rfl | e
    · exact hk.ne_ hb (by decide) rfl
    · obtain ⟨cur', hc⟩ := Orw.own_blk hr rfl
      have e : b = k := Option.some.inj e
      subst e
      exact hk.ne_ hc (by decide) rfl)
  have HNM := Lib.hid (show (x.nm == y.1) = true from by rw [← hxy.1]; exact beq_self_eq_true _)
  have yn : n ≤ 16 := by omega
  clear hb hr hg hx hz hlen hmax hway hn hxl hl hxs hxy hrl hrw hat hcp hb2 hs2 ht2 htt hdr hab hnc hcm
  go_enter Try.func19, Try.ntmps19
  go_upto_region 0 with fail
  refine wp_region_lit ?_
  refine wpList_run (v := .bool false) (wanted_none rfl) (gx_assign rfl rfl) ?_
  simp only [Act.put, List.setIfInBounds_toArray, List.set_cons_zero, List.set_cons_succ]
  go_upto_region 1 with fail
  refine wp_region_lit ?_
  refine wpList_run (v := .pointer (some ⟨a, 0, none⟩)) (wanted_none rfl) (exec_move rfl rfl) ?_
  simp only [Act.put, List.setIfInBounds_toArray, List.set_cons_zero, List.set_cons_succ]
  refine wpList_run (v := .pointer (some ⟨a, 0, none⟩)) (wanted_none rfl) (exec_nil rfl rfl) ?_
  simp only [Act.put, List.setIfInBounds_toArray, List.set_cons_zero, List.set_cons_succ]
  refine wpList_run (v := .pointer (some ⟨a, 2, none⟩)) (wanted_none rfl) (exec_field (off := 0) (d := 2) rfl rfl (by kernel_rfl)) ?_
  simp only [Act.put, List.setIfInBounds_toArray, List.set_cons_zero, List.set_cons_succ]
  refine wpList_run (v := .bool true) (wanted_none rfl) (exec_load1 rfl rfl (by kernel_rfl) (HB.out.cell 2)) ?_
  simp only [Act.put, List.setIfInBounds_toArray, List.set_cons_zero, List.set_cons_succ]
  refine wpList_run (v := .bool false) (wanted_none rfl) (ix_not (b := true) rfl rfl) ?_
  simp only [Act.put, List.setIfInBounds_toArray, List.set_cons_zero, List.set_cons_succ]
  refine wpList_run (v := .bool false) (wanted_none rfl) (exec_move rfl rfl) ?_
  simp only [Act.put, List.setIfInBounds_toArray, List.set_cons_zero, List.set_cons_succ]
  refine wpList_run (v := .pointer (some ⟨a, 0, none⟩)) rfl (exec_move rfl rfl) ?_
  simp only [Act.put, List.setIfInBounds_toArray, List.set_cons_zero, List.set_cons_succ]
  refine wpList_run (v := .pointer (some ⟨a, 0, none⟩)) rfl (exec_nil rfl rfl) ?_
  simp only [Act.put, List.setIfInBounds_toArray, List.set_cons_zero, List.set_cons_succ]
  refine wpList_run (v := .pointer (some ⟨a, 1, none⟩)) rfl (exec_field (off := 0) (d := 1) rfl rfl (by kernel_rfl)) ?_
  simp only [Act.put, List.setIfInBounds_toArray, List.set_cons_zero, List.set_cons_succ]
  refine wpList_run (v := .slice (some ⟨b, 0, none⟩) n c) rfl (exec_load1 rfl rfl (by kernel_rfl) (HB.out.cell 1)) ?_
  simp only [Act.put, List.setIfInBounds_toArray, List.set_cons_zero, List.set_cons_succ]
  refine wpList_run (v := .pointer (some ⟨b, 0, none⟩)) rfl (gx_iaddr (i := 0) (sz := 3) rfl rfl rfl Try.underlying54 size_ad (by have := HN1.out; omega) rfl) ?_
  simp only [Act.put, List.setIfInBounds_toArray, List.set_cons_zero, List.set_cons_succ]
  refine wpList_run (v := .pointer (some ⟨b, 0, none⟩)) rfl (exec_field (off := 0) (d := 0) rfl rfl (by kernel_rfl)) ?_
  simp only [Act.put, List.setIfInBounds_toArray, List.set_cons_zero, List.set_cons_succ]
  refine wpList_run (v := strV x.nm) rfl (exec_load1 rfl rfl (by kernel_rfl) (HAT.out 0 _ rfl)) ?_
  simp only [Act.put, List.setIfInBounds_toArray, List.set_cons_zero, List.set_cons_succ]
  refine wpList_run (v := strV y.1) rfl (exec_move rfl rfl) ?_
  simp only [Act.put, List.setIfInBounds_toArray, List.set_cons_zero, List.set_cons_succ]
  refine wpList_run (v := .bool false) rfl ((exec_sneq rfl rfl rfl).trans (by rw [HNM.out]; rfl)) ?_
  simp only [Act.put, List.setIfInBounds_toArray, List.set_cons_zero, List.set_cons_succ]
  refine wpList_run (v := .bool false) (wanted_none rfl) (ix_pickF rfl rfl rfl) ?_
  simp only [Act.put, List.setIfInBounds_toArray, List.set_cons_zero, List.set_cons_succ]
  go_upto_region 3 with fail
  refine wp_region_alw (fun W => Blk W a 56 #[.int .i64 (m : Int), .slice (some ⟨b, 0, none⟩) n c, .bool true]) (by kernel_rfl) ?_
  have hS0 := HBD.out
  refine alw_take (i := 0) (v := .pointer (some ⟨a, 0, none⟩)) rfl (by kernel_rfl) (by kernel_rfl) (fun _ _ _ h => h) (.inl ⟨by rfl, fun W hW => exec_move rfl rfl⟩) hS0 ?_
  simp only [Act.put, List.setIfInBounds_toArray, List.set_cons_zero, List.set_cons_succ]
  refine alw_take (i := 1) (v := .pointer (some ⟨a, 0, none⟩)) rfl (by kernel_rfl) (by kernel_rfl) (fun _ _ _ h => h) (.inl ⟨by rfl, fun W hW => exec_nil rfl rfl⟩) hS0 ?_
  simp only [Act.put, List.setIfInBounds_toArray, List.set_cons_zero, List.set_cons_succ]
  refine alw_take (i := 2) (v := .pointer (some ⟨a, 1, none⟩)) rfl (by kernel_rfl) (by kernel_rfl) (fun _ _ _ h => h) (.inl ⟨by rfl, fun W hW => exec_field (off := 0) (d := 1) rfl rfl (by kernel_rfl)⟩) hS0 ?_
  simp only [Act.put, List.setIfInBounds_toArray, List.set_cons_zero, List.set_cons_succ]
  refine alw_take (i := 3) (v := .slice (some ⟨b, 0, none⟩) n c) rfl (by kernel_rfl) (by kernel_rfl) (fun _ _ _ h => h) (.inl ⟨by rfl, fun W hW => exec_load1 rfl rfl (by kernel_rfl) (hW.cell 1)⟩) hS0 ?_
  simp only [Act.put, List.setIfInBounds_toArray, List.set_cons_zero, List.set_cons_succ]
  refine alw_take (i := 4) (v := .pointer (some ⟨a, 0, none⟩)) rfl (by kernel_rfl) (by kernel_rfl) (fun _ _ _ h => h) (.inl ⟨by rfl, fun W hW => exec_move rfl rfl⟩) hS0 ?_
  simp only [Act.put, List.setIfInBounds_toArray, List.set_cons_zero, List.set_cons_succ]
  refine alw_take (i := 5) (v := .pointer (some ⟨a, 0, none⟩)) rfl (by kernel_rfl) (by kernel_rfl) (fun _ _ _ h => h) (.inl ⟨by rfl, fun W hW => exec_nil rfl rfl⟩) hS0 ?_
  simp only [Act.put, List.setIfInBounds_toArray, List.set_cons_zero, List.set_cons_succ]
  refine alw_take (i := 6) (v := .pointer (some ⟨a, 1, none⟩)) rfl (by kernel_rfl) (by kernel_rfl) (fun _ _ _ h => h) (.inl ⟨by rfl, fun W hW => exec_field (off := 0) (d := 1) rfl rfl (by kernel_rfl)⟩) hS0 ?_
  simp only [Act.put, List.setIfInBounds_toArray, List.set_cons_zero, List.set_cons_succ]
  refine alw_take (i := 7) (v := .slice (some ⟨b, 0, none⟩) n c) rfl (by kernel_rfl) (by kernel_rfl) (fun _ _ _ h => h) (.inl ⟨by rfl, fun W hW => exec_load1 rfl rfl (by kernel_rfl) (hW.cell 1)⟩) hS0 ?_
  simp only [Act.put, List.setIfInBounds_toArray, List.set_cons_zero, List.set_cons_succ]
  refine alw_take (i := 8) (v := .slice (fromK 3 (some ⟨b, 0, none⟩) c 1) (n - 1) (c - 1)) rfl (by kernel_rfl) (by kernel_rfl) (fun _ _ _ h => h) (.inl ⟨by rfl, fun W hW => exec_slice rfl rfl rfl rfl rfl (sl_from elmA _ _ _ 1 HN1.out HCC.out _)⟩) hS0 ?_
  simp only [Act.put, List.setIfInBounds_toArray, List.set_cons_zero, List.set_cons_succ]
  clear hS0
  refine alw_step (i := 9) (by kernel_rfl) rfl rfl ?_
  intro K1 HK1
  refine wp_run (v := .int .i64 ((n - 1 : Nat) : Int)) (w' := w2) (exec_copy rfl rfl rfl HCP.out) ?_
  refine HK1.out _ _ ⟨HB2.out, ?_⟩
  clear HK1
  try simp only [Act.put, List.setIfInBounds_toArray, List.set_cons_zero, List.set_cons_succ]
  have hS0 := HB2.out
  refine alw_take (i := 10) (v := .int .i64 ((n - 1 : Nat) : Int)) rfl (by kernel_rfl) (by kernel_rfl) (fun _ _ _ h => h) (.inl ⟨by rfl, fun W hW => gx_assign rfl rfl⟩) hS0 ?_
  simp only [Act.put, List.setIfInBounds_toArray, List.set_cons_zero, List.set_cons_succ]
  refine alw_done rfl ?_
  refine NoPanic.normal ?_
  clear hS0
  try simp only [Act.put, List.setIfInBounds_toArray, List.set_cons_zero, List.set_cons_succ]
  obtain ⟨n1, hn1⟩ : ∃ n1, n1 = n - 1 := ⟨_, rfl⟩
  have HN2 := Lib.hid (show n1 < n ∧ n1 = n - 1 from ⟨by have := HN1.out; omega, hn1⟩)
  rw [← hn1] at HTK HEND ⊢
  clear hn1
  go_upto_region 4 with fail
  refine wp_region_lit ?_
  refine wpList_run (v := .pointer (some ⟨a, 0, none⟩)) (wanted_none rfl) (exec_move rfl rfl) ?_
  simp only [Act.put, List.setIfInBounds_toArray, List.set_cons_zero, List.set_cons_succ]
  refine wpList_run (v := .pointer (some ⟨a, 0, none⟩)) (wanted_none rfl) (exec_nil rfl rfl) ?_
  simp only [Act.put, List.setIfInBounds_toArray, List.set_cons_zero, List.set_cons_succ]
  refine wpList_run (v := .pointer (some ⟨a, 1, none⟩)) (wanted_none rfl) (exec_field (off := 0) (d := 1) rfl rfl (by kernel_rfl)) ?_
  simp only [Act.put, List.setIfInBounds_toArray, List.set_cons_zero, List.set_cons_succ]
  refine wpList_run (v := .slice (some ⟨b, 0, none⟩) n c) (wanted_none rfl) (exec_load1 rfl rfl (by kernel_rfl) (HB2.out.cell 1)) ?_
  simp only [Act.put, List.setIfInBounds_toArray, List.set_cons_zero, List.set_cons_succ]
  refine wpList_run (v := .int .i64 (n1 : Int)) (wanted_none rfl) (exec_move rfl rfl) ?_
  simp only [Act.put, List.setIfInBounds_toArray, List.set_cons_zero, List.set_cons_succ]
  refine wpList_run (v := .agg #[strV [], .int .i64 0, .slice none 0 0]) (wanted_none rfl) (gx_build0 rfl (build_a0 _)) ?_
  simp only [Act.put, List.setIfInBounds_toArray, List.set_cons_zero, List.set_cons_succ]
  refine wpList_run (v := .pointer (some ⟨b, 0 + n1 * 3, none⟩)) (wanted_none rfl) (gx_iaddr (i := n1) (sz := 3) rfl rfl rfl Try.underlying54 size_ad HN2.out.1 rfl) ?_
  simp only [Act.put, List.setIfInBounds_toArray, List.set_cons_zero, List.set_cons_succ]
  refine wpList_store_mid (wanted_none rfl) 64 (.tmp 38) (.tmp 37) rfl #[strV [], .int .i64 0, .slice none 0 0] HRB2.out rfl rfl (by show 0 + n1 * 3 + 3 ≤ _; rw [HCS.out]; have := HN2.out.1; have := HCC.out; omega) (by rw [size_ad] <;> rfl) (fun v hv => by
    simp only [List.mem_cons, List.not_mem_nil, or_false] at hv
    rcases hv with rfl | rfl | rfl <;> rfl) ?_
  intro w3 C3 hb3 hs3 hc3 ht3
  simp only [Act.put, List.setIfInBounds_toArray, List.set_cons_zero, List.set_cons_succ]
  have HB3 := Lib.hid (HB2.out.turn ht3 HAB.out)
  have HRB3 := Lib.hid hb3
  have HCS3 := Lib.hid (hs3.trans HCS.out)
  have HTK3 := Lib.hid (show C3.toList.take (n1 * 3) = _ from Eq.trans (by
    apply List.ext_getElem?
    intro j
    rw [List.getElem?_take, List.getElem?_take]
    by_cases hj : j < n1 * 3
    · rw [if_pos hj, if_pos hj, Array.getElem?_toList, Array.getElem?_toList, hc3, if_neg (by omega)]
    · rw [if_neg hj, if_neg hj]) HTK.out)
  have HT3 := Lib.hid (HT2.out.trans ht3 fun _ _ e => e)
  clear hb3 hs3 hc3 ht3 HB2 HRB2 HTK HT2
  go_upto_region 5 with fail
  refine wp_region_lit ?_
  refine wpList_run (v := .pointer (some ⟨a, 0, none⟩)) (wanted_none rfl) (exec_move rfl rfl) ?_
  simp only [Act.put, List.setIfInBounds_toArray, List.set_cons_zero, List.set_cons_succ]
  refine wpList_run (v := .pointer (some ⟨a, 0, none⟩)) (wanted_none rfl) (exec_move rfl rfl) ?_
  simp only [Act.put, List.setIfInBounds_toArray, List.set_cons_zero, List.set_cons_succ]
  refine wpList_run (v := .pointer (some ⟨a, 0, none⟩)) (wanted_none rfl) (exec_nil rfl rfl) ?_
  simp only [Act.put, List.setIfInBounds_toArray, List.set_cons_zero, List.set_cons_succ]
  refine wpList_run (v := .pointer (some ⟨a, 1, none⟩)) (wanted_none rfl) (exec_field (off := 0) (d := 1) rfl rfl (by kernel_rfl)) ?_
  simp only [Act.put, List.setIfInBounds_toArray, List.set_cons_zero, List.set_cons_succ]
  refine wpList_run (v := .slice (some ⟨b, 0, none⟩) n c) (wanted_none rfl) (exec_load1 rfl rfl (by kernel_rfl) (HB3.out.cell 1)) ?_
  simp only [Act.put, List.setIfInBounds_toArray, List.set_cons_zero, List.set_cons_succ]
  refine wpList_run (v := .int .i64 (n1 : Int)) (wanted_none rfl) (exec_move rfl rfl) ?_
  simp only [Act.put, List.setIfInBounds_toArray, List.set_cons_zero, List.set_cons_succ]
  refine wpList_run (v := .slice (some ⟨b, 0, none⟩) n1 c) (wanted_none rfl) (exec_slice rfl rfl rfl rfl rfl (sl_to elmA _ _ _ n1 (by have := HN2.out.1; have := HCC.out; omega) _)) ?_
  simp only [Act.put, List.setIfInBounds_toArray, List.set_cons_zero, List.set_cons_succ]
  refine wpList_run (v := .pointer (some ⟨a, 0, none⟩)) (wanted_none rfl) (exec_nil rfl rfl) ?_
  simp only [Act.put, List.setIfInBounds_toArray, List.set_cons_zero, List.set_cons_succ]
  refine wpList_run (v := .pointer (some ⟨a, 1, none⟩)) (wanted_none rfl) (exec_field (off := 0) (d := 1) rfl rfl (by kernel_rfl)) ?_
  simp only [Act.put, List.setIfInBounds_toArray, List.set_cons_zero, List.set_cons_succ]
  refine wpList_storeU 1 (.slice (some ⟨b, 0, none⟩) n1 c) (wanted_none rfl) 54 _ _ rfl HB3.out rfl rfl (by show 1 < 3; omega) ⟨rfl, rfl⟩ (by kernel_rfl) ?_
  intro w4 hb4 ht4
  simp only [Act.put, List.setIfInBounds_toArray, List.set_cons_zero, List.set_cons_succ]
  have HB4 := Lib.hid (show Blk w4 a 56 #[.int .i64 (m : Int), .slice (some ⟨b, 0, none⟩) n1 c, .bool true] from hb4)
  have HRB4 := Lib.hid (HRB3.out.turn ht4 fun e => HAB.out (show b = a from e).symm)
  have HT4 := Lib.hid ((HT3.out.mono (G := foot a (some b)) fun k _ e => .inr (by rw [show k = b from e])).trans ht4 fun k _ e => .inl e)
  clear hb4 ht4 HB3 HRB3 HT3
  go_upto_region 6 with fail
  refine wp_region_lit ?_
  refine wpList_run (v := .pointer (some ⟨a, 0, none⟩)) (wanted_none rfl) (exec_move rfl rfl) ?_
  simp only [Act.put, List.setIfInBounds_toArray, List.set_cons_zero, List.set_cons_succ]
  refine wpList_run (v := .pointer (some ⟨a, 0, none⟩)) (wanted_none rfl) (exec_nil rfl rfl) ?_
  simp only [Act.put, List.setIfInBounds_toArray, List.set_cons_zero, List.set_cons_succ]
  refine wpList_run (v := .pointer (some ⟨a, 2, none⟩)) (wanted_none rfl) (exec_field (off := 0) (d := 2) rfl rfl (by kernel_rfl)) ?_
  simp only [Act.put, List.setIfInBounds_toArray, List.set_cons_zero, List.set_cons_succ]
  refine wpList_storeU 2 (.bool false) (wanted_none rfl) 4 _ _ rfl HB4.out rfl rfl (by show 2 < 3; omega) ⟨rfl, rfl⟩ size_bool ?_
  intro w5 hb5 ht5
  simp only [Act.put, List.setIfInBounds_toArray, List.set_cons_zero, List.set_cons_succ]
  have HT5 := Lib.hid (HT4.out.trans ht5 fun k _ e => .inl e)
  have HF := Lib.hid (HEND.out w5 C3 hb5 (HRB4.out.turn ht5 fun e => HAB.out (show b = a from e).symm) HCS3.out HTK3.out HT5.out)
  clear hb5 ht5 HB4 HRB4 HT4
  go_upto_region 7 with fail
  refine wp_region_lit ?_
  refine wpList_run (v := .bool true) (wanted_none rfl) (gx_assign rfl rfl) ?_
  simp only [Act.put, List.setIfInBounds_toArray, List.set_cons_zero, List.set_cons_succ]
  go_wp2_with fail
  go_ret
  exact ⟨rfl, HF.out, HT5.out⟩
end Go.Proofs.Ytkcedcllefcboaa
