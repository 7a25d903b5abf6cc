/-
  saf: Put: the walk. No conditions.
-/
import Derived.Test.YtkcedcllefcboaaSfS
namespace Go.Proofs.Ytkcedcllefcboaa
open Go.RowKit
set_option linter.unusedVariables false
set_option linter.unusedSimpArgs false
set_option maxRecDepth 20000
theorem build_ad (nm : List UInt8) (ty : Int) (A : Option Addr) (n c : Nat) (W : World) : (Instr.build 64 #[(0, strV nm), (1, .agg #[.int .i64 ty, .slice A n c])]).run Try.prog W = .ok (.agg #[strV nm, .int .i64 ty, .slice A n c]) W := by kernel_rfl
/-- a row whose block has the same cells -/
theorem Orw.same {w w' : World} {B b n c k : Nat} {et : TypeId} {rs : List (List Value)} {cur : Array Value} (h : Orw w B et k (.slice (some ⟨b, 0, none⟩) n c) rs) (hb : Blk w b et cur) (hb' : Blk w' b et cur) : Orw w' B et k (.slice (some ⟨b, 0, none⟩) n c) rs := by
  obtain ⟨cur0, hcur, hcs, htake, hn, hnc, hcm, hB⟩ := orw_block h
  obtain rfl := hcur.inj hb
  exact orw_of hb' hB h.1 hn hnc hcm hcs htake
theorem arr_same {cs : Array Value} {i : Nat} {v : Value} (h : cs[i]? = some v) : cs.setIfInBounds i v = cs := by
  apply Array.ext_getElem?
  intro j
  rw [Array.getElem?_setIfInBounds]
  split
  · next e =>
    subst e
    split
    · exact h.symm
    · next h2 =>
      rw [Array.getElem?_eq_none (by omega)] at h
      cases h
  · rfl
/-- the cell of a field's text -/
theorem fr_text {w : World} {B g n c : Nat} {fs : List Fld} (h : Fr w B (.slice (some ⟨g, 0, none⟩) n c) fs) {j : Nat} {f : Fld} (hf : fs[j]? = some f) : ∃ cur, Blk w g 41 cur ∧ cur[j * 2 + 1]? = some (strV f.2) ∧ w.rangeAt g (0 + j * 2) (fldL f) := by
  obtain ⟨cur, hb, hcs, ht, hn, hnc, hcm, hB⟩ := orw_block h
  have hr : (fs.map fldL)[j]? = some (fldL f) := by rw [List.getElem?_map, hf]; rfl
  have hj := (List.getElem?_eq_some_iff.1 hr).1
  have key : ∀ i v, (fldL f)[i]? = some v → cur[j * 2 + i]? = some v := fun i v hv => by
    have hi : i < 2 := (List.getElem?_eq_some_iff.1 hv).1
    have h1 := flat_at (fit_fs fs) hr hi
    rw [← ht, List.getElem?_take, if_pos (by omega), Array.getElem?_toList] at h1
    rw [h1, hv]
  exact ⟨cur, hb, key 1 _ rfl, fun i v hv => by rw [hb.cell, Nat.zero_add]; exact key i v hv⟩
def shortF (fs : List Fld) : Prop := ∀ f ∈ fs, f.2.length ≤ 281474976710656
set_option maxRecDepth 20000 in
set_option maxHeartbeats 4000000 in
theorem Put_twice {w : World} {Z : Nat → Prop} {a m : Nat} {g : Option Nat} {l : List Adv} {s : Bool} (q : Que w Z a g m l s) (nm : List UInt8) (ty : Int) (FA9 : Option Addr) (fn fc : Nat) (hh : nm ∈ Sf.names l) : Calls Try.prog 12 #[.pointer (some ⟨a, 0, none⟩), strV nm, msgV ty FA9 fn fc] w fun e w' => e = .returned (.int .i64 161) ∧ Turn nowhere w w' := by
  have HQ := Lib.hid q
  have HH := Lib.hid hh
  clear q hh
  unfold msgV
  go_enter Try.func12, Try.ntmps12
  go_upto_region 0 with fail
  refine wp_region_lit ?_
  refine wpList_run (v := .pointer (some ⟨(w).heap.size, 0, none⟩)) (w' := (w).alloc (.cells #[.int .i64 ty, .slice FA9 fn fc] 35)) (wanted_none rfl) (gx_box rfl rfl (box_msg ty FA9 fn fc _)) ?_
  simp only [Act.put, List.setIfInBounds_toArray, List.set_cons_zero, List.set_cons_succ]
  refine wpList_run (v := .int .i64 0) (wanted_none rfl) (gx_assign rfl rfl) ?_
  simp only [Act.put, List.setIfInBounds_toArray, List.set_cons_zero, List.set_cons_succ]
  have hb_mb := Blk.new (w) 35 #[.int .i64 ty, .slice FA9 fn fc]
  have ht_ := (Turn.refl nowhere (w)).alloc (.cells #[.int .i64 ty, .slice FA9 fn fc] 35)
  obtain ⟨n0_, hn0_⟩ : ∃ n, n = (w).heap.size := ⟨_, rfl⟩
  have hz_mb : (w).heap.size = n0_ + 0 := by rw [hn0_]; simp
  obtain ⟨mb, hg_⟩ : ∃ g, g = (w).heap.size := ⟨_, rfl⟩
  rw [← hg_] at hb_mb hz_mb ⊢
  clear hg_
  generalize (w).alloc (.cells #[.int .i64 ty, .slice FA9 fn fc] 35) = w1 at *
  have HT1 := Lib.hid ht_
  clear ht_
  have HBmb := Lib.hid hb_mb
  have HLmb := Lib.hid (show (w).heap.size ≤ mb from by omega)
  clear hb_mb
  clear hn0_ hz_mb
  clear n0_
  have HNM1 := Lib.hid (Names_walk (HQ.out.still HT1.out))
  go_upto_region 1 with fail
  refine wp_region_lit ?_
  refine wpList_run (v := .pointer (some ⟨a, 0, none⟩)) (wanted_none rfl) (exec_move rfl rfl) ?_
  simp only [Act.put, List.setIfInBounds_toArray, List.set_cons_zero, List.set_cons_succ]
  refine wpList_op (wanted_none rfl) fun K9 HK9 => ?_
  go_wp2_with fail
  refine (HNM1.out).mono ?_
  rintro e w2 ⟨A9, c9, rfl, how, ht⟩
  refine HK9.out _ _ ?_
  clear HK9
  try simp only [Act.put, List.setIfInBounds_toArray, List.set_cons_zero, List.set_cons_succ]
  have HT2 := Lib.hid (HT1.out.trans ht fun _ _ e => e)
  have HMB := Lib.hid (HBmb.out.turn ht fun e => e)
  have HCT := Lib.hid (Contains_walk (c := c9) (Orw.rws how (by rw [List.length_map]; unfold Sf.names; rw [List.length_map]; have := HQ.out.len; have := HQ.out.max; omega) (by decide)) nm)
  obtain ⟨ll, hll⟩ : ∃ ll, ll = l.length := ⟨_, rfl⟩
  rw [← hll] at HCT ⊢
  have HLL := Lib.hid hll
  clear hll how ht HNM1
  refine wpList_run (v := strV nm) (wanted_none rfl) (exec_move rfl rfl) ?_
  simp only [Act.put, List.setIfInBounds_toArray, List.set_cons_zero, List.set_cons_succ]
  refine wpList_op (wanted_none rfl) fun K9 HK9 => ?_
  go_wp2_with fail
  refine (HCT.out).mono ?_
  rintro e w3 ⟨rfl, rfl⟩
  refine HK9.out _ _ ?_
  clear HK9
  try simp only [Act.put, List.setIfInBounds_toArray, List.set_cons_zero, List.set_cons_succ]
  rw [decide_eq_true HH.out]
  refine wpList_run (v := .bool true) (wanted_none rfl) (gx_assign rfl rfl) ?_
  simp only [Act.put, List.setIfInBounds_toArray, List.set_cons_zero, List.set_cons_succ]
  go_upto_region 2 with fail
  refine wp_region_lit ?_
  refine wpList_run (v := .int .i64 161) (wanted_none rfl) (gx_assign rfl rfl) ?_
  simp only [Act.put, List.setIfInBounds_toArray, List.set_cons_zero, List.set_cons_succ]
  go_wp2_with fail
  go_ret
  exact ⟨rfl, HT2.out⟩
set_option maxRecDepth 20000 in
set_option maxHeartbeats 4000000 in
theorem Put_full {w : World} {Z : Nat → Prop} {a m : Nat} {g : Option Nat} {l : List Adv} {s : Bool} (q : Que w Z a g m l s) (nm : List UInt8) (ty : Int) (FA9 : Option Addr) (fn fc : Nat) (hh : nm ∉ Sf.names l ∧ l.length = m) : Calls Try.prog 12 #[.pointer (some ⟨a, 0, none⟩), strV nm, msgV ty FA9 fn fc] w fun e w' => e = .returned (.int .i64 3) ∧ Turn nowhere w w' := by
  have HQ := Lib.hid q
  have HH := Lib.hid hh
  clear q hh
  unfold msgV
  go_enter Try.func12, Try.ntmps12
  go_upto_region 0 with fail
  refine wp_region_lit ?_
  refine wpList_run (v := .pointer (some ⟨(w).heap.size, 0, none⟩)) (w' := (w).alloc (.cells #[.int .i64 ty, .slice FA9 fn fc] 35)) (wanted_none rfl) (gx_box rfl rfl (box_msg ty FA9 fn fc _)) ?_
  simp only [Act.put, List.setIfInBounds_toArray, List.set_cons_zero, List.set_cons_succ]
  refine wpList_run (v := .int .i64 0) (wanted_none rfl) (gx_assign rfl rfl) ?_
  simp only [Act.put, List.setIfInBounds_toArray, List.set_cons_zero, List.set_cons_succ]
  have hb_mb := Blk.new (w) 35 #[.int .i64 ty, .slice FA9 fn fc]
  have ht_ := (Turn.refl nowhere (w)).alloc (.cells #[.int .i64 ty, .slice FA9 fn fc] 35)
  obtain ⟨n0_, hn0_⟩ : ∃ n, n = (w).heap.size := ⟨_, rfl⟩
  have hz_mb : (w).heap.size = n0_ + 0 := by rw [hn0_]; simp
  obtain ⟨mb, hg_⟩ : ∃ g, g = (w).heap.size := ⟨_, rfl⟩
  rw [← hg_] at hb_mb hz_mb ⊢
  clear hg_
  generalize (w).alloc (.cells #[.int .i64 ty, .slice FA9 fn fc] 35) = w1 at *
  have HT1 := Lib.hid ht_
  clear ht_
  have HBmb := Lib.hid hb_mb
  have HLmb := Lib.hid (show (w).heap.size ≤ mb from by omega)
  clear hb_mb
  clear hn0_ hz_mb
  clear n0_
  have HNM1 := Lib.hid (Names_walk (HQ.out.still HT1.out))
  go_upto_region 1 with fail
  refine wp_region_lit ?_
  refine wpList_run (v := .pointer (some ⟨a, 0, none⟩)) (wanted_none rfl) (exec_move rfl rfl) ?_
  simp only [Act.put, List.setIfInBounds_toArray, List.set_cons_zero, List.set_cons_succ]
  refine wpList_op (wanted_none rfl) fun K9 HK9 => ?_
  go_wp2_with fail
  refine (HNM1.out).mono ?_
  rintro e w2 ⟨A9, c9, rfl, how, ht⟩
  refine HK9.out _ _ ?_
  clear HK9
  try simp only [Act.put, List.setIfInBounds_toArray, List.set_cons_zero, List.set_cons_succ]
  have HT2 := Lib.hid (HT1.out.trans ht fun _ _ e => e)
  have HMB := Lib.hid (HBmb.out.turn ht fun e => e)
  have HCT := Lib.hid (Contains_walk (c := c9) (Orw.rws how (by rw [List.length_map]; unfold Sf.names; rw [List.length_map]; have := HQ.out.len; have := HQ.out.max; omega) (by decide)) nm)
  obtain ⟨ll, hll⟩ : ∃ ll, ll = l.length := ⟨_, rfl⟩
  rw [← hll] at HCT ⊢
  have HLL := Lib.hid hll
  clear hll how ht HNM1
  refine wpList_run (v := strV nm) (wanted_none rfl) (exec_move rfl rfl) ?_
  simp only [Act.put, List.setIfInBounds_toArray, List.set_cons_zero, List.set_cons_succ]
  refine wpList_op (wanted_none rfl) fun K9 HK9 => ?_
  go_wp2_with fail
  refine (HCT.out).mono ?_
  rintro e w3 ⟨rfl, rfl⟩
  refine HK9.out _ _ ?_
  clear HK9
  try simp only [Act.put, List.setIfInBounds_toArray, List.set_cons_zero, List.set_cons_succ]
  rw [decide_eq_false HH.out.1]
  have HRM := Lib.hid (Room_walk (HQ.out.still HT2.out))
  refine wpList_run (v := .bool false) (wanted_none rfl) (gx_assign rfl rfl) ?_
  simp only [Act.put, List.setIfInBounds_toArray, List.set_cons_zero, List.set_cons_succ]
  go_upto_region 3 with fail
  refine wp_region_lit ?_
  refine wpList_run (v := .pointer (some ⟨a, 0, none⟩)) (wanted_none rfl) (exec_move rfl rfl) ?_
  simp only [Act.put, List.setIfInBounds_toArray, List.set_cons_zero, List.set_cons_succ]
  refine wpList_op (wanted_none rfl) fun K9 HK9 => ?_
  go_wp2_with fail
  refine (HRM.out).mono ?_
  rintro e w4 ⟨rfl, ht⟩
  refine HK9.out _ _ ?_
  clear HK9
  try simp only [Act.put, List.setIfInBounds_toArray, List.set_cons_zero, List.set_cons_succ]
  rw [← HLL.out]
  have HT4 := Lib.hid (HT2.out.trans ht fun _ _ e => e)
  have HMB4 := Lib.hid (HMB.out.turn ht fun e => e)
  clear ht
  refine wpList_run (v := .bool true) (wanted_none rfl) (ix_eql rfl rfl rfl (decide_eq_true (by have := HLL.out; have := HH.out.2; omega))) ?_
  simp only [Act.put, List.setIfInBounds_toArray, List.set_cons_zero, List.set_cons_succ]
  refine wpList_run (v := .bool true) (wanted_none rfl) (gx_assign rfl rfl) ?_
  simp only [Act.put, List.setIfInBounds_toArray, List.set_cons_zero, List.set_cons_succ]
  go_upto_region 4 with fail
  refine wp_region_lit ?_
  refine wpList_run (v := .int .i64 3) (wanted_none rfl) (gx_assign rfl rfl) ?_
  simp only [Act.put, List.setIfInBounds_toArray, List.set_cons_zero, List.set_cons_succ]
  go_wp2_with fail
  go_ret
  exact ⟨rfl, HT4.out⟩
set_option maxRecDepth 20000 in
set_option maxHeartbeats 4000000 in
theorem Put_ok {w : World} {Z : Nat → Prop} {a m : Nat} {g : Option Nat} {l : List Adv} {s : Bool} (q : Que w Z a g m l s) (nm : List UInt8) (ty : Int) (FA9 : Option Addr) (fn fc : Nat) {fs : List Fld} (hf : Fq w FA9 fn fs) (hsh : shortF fs) (hnl : nm.length ≤ 281474976710656) (hh : nm ∉ Sf.names l ∧ l.length ≠ m) : Calls Try.prog 12 #[.pointer (some ⟨a, 0, none⟩), strV nm, msgV ty FA9 fn fc] w fun e w' => e = .returned (.int .i64 0) ∧ (∃ g', Que w' (fun k => Z k ∨ w.heap.size ≤ k) a g' m (l ++ [(nm, ty, fs)]) s ∧ (g' = g ∨ ∃ b, g' = some b ∧ w.heap.size ≤ b)) ∧ Turn (foot a g) w w' := by
  have HF := Lib.hid hf
  have HSH := Lib.hid hsh
  have HNL := Lib.hid hnl
  have HFL := Lib.hid hf.len
  have yf : fn * 24 ≤ 140737488355328 := hf.2
  clear hf hsh hnl
  have HQ := Lib.hid q
  have HH := Lib.hid hh
  clear q hh
  unfold msgV
  go_enter Try.func12, Try.ntmps12
  go_upto_region 0 with fail
  refine wp_region_lit ?_
  refine wpList_run (v := .pointer (some ⟨(w).heap.size, 0, none⟩)) (w' := (w).alloc (.cells #[.int .i64 ty, .slice FA9 fn fc] 35)) (wanted_none rfl) (gx_box rfl rfl (box_msg ty FA9 fn fc _)) ?_
  simp only [Act.put, List.setIfInBounds_toArray, List.set_cons_zero, List.set_cons_succ]
  refine wpList_run (v := .int .i64 0) (wanted_none rfl) (gx_assign rfl rfl) ?_
  simp only [Act.put, List.setIfInBounds_toArray, List.set_cons_zero, List.set_cons_succ]
  have hb_mb := Blk.new (w) 35 #[.int .i64 ty, .slice FA9 fn fc]
  have ht_ := (Turn.refl nowhere (w)).alloc (.cells #[.int .i64 ty, .slice FA9 fn fc] 35)
  obtain ⟨n0_, hn0_⟩ : ∃ n, n = (w).heap.size := ⟨_, rfl⟩
  have hz_mb : (w).heap.size = n0_ + 0 := by rw [hn0_]; simp
  obtain ⟨mb, hg_⟩ : ∃ g, g = (w).heap.size := ⟨_, rfl⟩
  rw [← hg_] at hb_mb hz_mb ⊢
  clear hg_
  generalize (w).alloc (.cells #[.int .i64 ty, .slice FA9 fn fc] 35) = w1 at *
  have HT1 := Lib.hid ht_
  clear ht_
  have HBmb := Lib.hid hb_mb
  have HLmb := Lib.hid (show (w).heap.size ≤ mb from by omega)
  clear hb_mb
  clear hn0_ hz_mb
  clear n0_
  have HNM1 := Lib.hid (Names_walk (HQ.out.still HT1.out))
  go_upto_region 1 with fail
  refine wp_region_lit ?_
  refine wpList_run (v := .pointer (some ⟨a, 0, none⟩)) (wanted_none rfl) (exec_move rfl rfl) ?_
  simp only [Act.put, List.setIfInBounds_toArray, List.set_cons_zero, List.set_cons_succ]
  refine wpList_op (wanted_none rfl) fun K9 HK9 => ?_
  go_wp2_with fail
  refine (HNM1.out).mono ?_
  rintro e w2 ⟨A9, c9, rfl, how, ht⟩
  refine HK9.out _ _ ?_
  clear HK9
  try simp only [Act.put, List.setIfInBounds_toArray, List.set_cons_zero, List.set_cons_succ]
  have HT2 := Lib.hid (HT1.out.trans ht fun _ _ e => e)
  have HMB := Lib.hid (HBmb.out.turn ht fun e => e)
  have HCT := Lib.hid (Contains_walk (c := c9) (Orw.rws how (by rw [List.length_map]; unfold Sf.names; rw [List.length_map]; have := HQ.out.len; have := HQ.out.max; omega) (by decide)) nm)
  obtain ⟨ll, hll⟩ : ∃ ll, ll = l.length := ⟨_, rfl⟩
  rw [← hll] at HCT ⊢
  have HLL := Lib.hid hll
  clear hll how ht HNM1
  refine wpList_run (v := strV nm) (wanted_none rfl) (exec_move rfl rfl) ?_
  simp only [Act.put, List.setIfInBounds_toArray, List.set_cons_zero, List.set_cons_succ]
  refine wpList_op (wanted_none rfl) fun K9 HK9 => ?_
  go_wp2_with fail
  refine (HCT.out).mono ?_
  rintro e w3 ⟨rfl, rfl⟩
  refine HK9.out _ _ ?_
  clear HK9
  try simp only [Act.put, List.setIfInBounds_toArray, List.set_cons_zero, List.set_cons_succ]
  rw [decide_eq_false HH.out.1]
  have HRM := Lib.hid (Room_walk (HQ.out.still HT2.out))
  refine wpList_run (v := .bool false) (wanted_none rfl) (gx_assign rfl rfl) ?_
  simp only [Act.put, List.setIfInBounds_toArray, List.set_cons_zero, List.set_cons_succ]
  go_upto_region 3 with fail
  refine wp_region_lit ?_
  refine wpList_run (v := .pointer (some ⟨a, 0, none⟩)) (wanted_none rfl) (exec_move rfl rfl) ?_
  simp only [Act.put, List.setIfInBounds_toArray, List.set_cons_zero, List.set_cons_succ]
  refine wpList_op (wanted_none rfl) fun K9 HK9 => ?_
  go_wp2_with fail
  refine (HRM.out).mono ?_
  rintro e w4 ⟨rfl, ht⟩
  refine HK9.out _ _ ?_
  clear HK9
  try simp only [Act.put, List.setIfInBounds_toArray, List.set_cons_zero, List.set_cons_succ]
  rw [← HLL.out]
  have HT4 := Lib.hid (HT2.out.trans ht fun _ _ e => e)
  have HMB4 := Lib.hid (HMB.out.turn ht fun e => e)
  clear ht
  refine wpList_run (v := .bool false) (wanted_none rfl) (ix_eql rfl rfl rfl (decide_eq_false (by have := HLL.out; have := HH.out.2; omega))) ?_
  simp only [Act.put, List.setIfInBounds_toArray, List.set_cons_zero, List.set_cons_succ]
  refine wpList_run (v := .bool false) (wanted_none rfl) (gx_assign rfl rfl) ?_
  simp only [Act.put, List.setIfInBounds_toArray, List.set_cons_zero, List.set_cons_succ]
  go_upto_region 5 with fail
  refine wp_region_lit ?_
  refine wpList_run (v := .agg #[.int .i64 ty, .slice FA9 fn fc]) (wanted_none rfl) (gx_loads rfl rfl (blk_range HMB4.out) Try.underlying35 rfl (by rw [size_msg]; rfl)) ?_
  simp only [Act.put, List.setIfInBounds_toArray, List.set_cons_zero, List.set_cons_succ]
  have HCO := Lib.hid (copied_walk (c := fc) (ty := ty) (HF.out.still HT4.out))
  unfold msgV at HCO
  refine wpList_op (wanted_none rfl) fun K9 HK9 => ?_
  go_wp2_with fail
  refine (HCO.out).mono ?_
  rintro e w5 ⟨fg, rfl, hfg, hfr, ht⟩
  refine HK9.out _ _ ?_
  clear HK9
  try simp only [Act.put, List.setIfInBounds_toArray, List.set_cons_zero, List.set_cons_succ]
  have HFG := Lib.hid (Nat.le_trans HT4.out.size hfg)
  have HFR5 := Lib.hid (Orw.less hfr HT4.out.size)
  have HT5 := Lib.hid (HT4.out.trans ht fun _ _ e => e)
  have HMB5 := Lib.hid (HMB4.out.turn ht fun e => e)
  clear hfg hfr ht HCO
  refine wpList_store_row (wanted_none rfl) 35 (.tmp 5) (.tmp 19) rfl (#[.int .i64 ty, .slice (some ⟨fg, 0, none⟩) fn fn]) HMB5.out rfl rfl (rfl) (by rw [size_msg] <;> rfl) (msgA_one _ _ _ _) ?_
  intro w6 hb_ ht_
  have HMB6 := Lib.hid hb_
  have HT6a := Lib.hid ht_
  clear hb_ ht_
  simp only [Act.put, List.setIfInBounds_toArray, List.set_cons_zero, List.set_cons_succ]
  have HT6 := Lib.hid (newer HT5.out HLmb.out HT6a.out)
  have HFR6 := Lib.hid (Orw.turn HFR5.out HT6a.out fun b hb e => by
    have e : b = mb := e
    subst e
    obtain ⟨cur, hc⟩ := Orw.own_blk HFR5.out hb
    exact hc.ne_ HMB5.out (by decide) rfl)
  clear HT6a
  go_upto_region 6 with fail
  refine wp_region_lit ?_
  refine wpList_run (v := .pointer (some ⟨mb, 1, none⟩)) (wanted_none rfl) (exec_field (off := 0) (d := 1) rfl rfl (by kernel_rfl)) ?_
  simp only [Act.put, List.setIfInBounds_toArray, List.set_cons_zero, List.set_cons_succ]
  refine wpList_run (v := .slice (some ⟨fg, 0, none⟩) fn fn) (wanted_none rfl) (exec_load1 rfl rfl (by kernel_rfl) (HMB6.out.cell 1)) ?_
  simp only [Act.put, List.setIfInBounds_toArray, List.set_cons_zero, List.set_cons_succ]
  refine wpList_run (v := .int .i64 (fn : Int)) (wanted_none rfl) (gx_len rfl rfl Try.underlying33) ?_
  simp only [Act.put, List.setIfInBounds_toArray, List.set_cons_zero, List.set_cons_succ]
  refine wpList_run (v := .int .i64 0) (wanted_none rfl) (exec_move rfl rfl) ?_
  simp only [Act.put, List.setIfInBounds_toArray, List.set_cons_zero, List.set_cons_succ]
  go_wp2_with fail
  go_loopg [23] fn (fun gk iv wr => ∃ j : Nat, iv = .int .i64 (j : Int) ∧ j + gk = fn ∧ Turn nowhere w wr ∧ Blk wr mb 35 #[.int .i64 ty, .slice (some ⟨fg, 0, none⟩) fn fn] ∧ Orw wr w.heap.size 41 2 (.slice (some ⟨fg, 0, none⟩) fn fn) (fs.map fldL))
  case atStart => exact ⟨0, rfl, by omega, HT6.out, HMB6.out, HFR6.out⟩
  clear HT1 HT2 HMB HCT HRM HT4 HMB4 HT5 HMB5 HFR5 HT6 HMB6 HFR6 HBmb
  obtain ⟨j, rfl, hjl, htr, hmb, hfr⟩ := hrel
  have HJL := Lib.hid hjl
  have HTR := Lib.hid htr
  have HMB := Lib.hid hmb
  have HFR := Lib.hid hfr
  clear hjl htr hmb hfr
  by_cases hlt : j < fn
  · have HLT := Lib.hid hlt
    have y1 : (j : Int) < (fn : Int) := by omega
    obtain ⟨f, hf⟩ : ∃ f, fs[j]? = some f := ⟨fs[j]'(by rw [HFL.out]; omega), List.getElem?_eq_getElem (by rw [HFL.out]; omega)⟩
    obtain ⟨cur, hbk, hct, hat⟩ := fr_text HFR.out hf
    have HBK := Lib.hid hbk
    have HCT := Lib.hid hct
    have HAT := Lib.hid hat
    have HFS := Lib.hid (HSH.out f (List.mem_of_getElem? hf))
    clear hlt hf hbk hct hat
    go_upto_region 7 with fail
    refine wp_region_lit ?_
    refine wpList_run (v := .bool true) (wanted_none rfl) (ix_lss rfl rfl rfl (decide_eq_true y1)) ?_
    simp only [Act.put, List.setIfInBounds_toArray, List.set_cons_zero, List.set_cons_succ]
    go_upto_region 8 with fail
    refine wp_region_lit ?_
    refine wpList_run (v := .int .i64 (j : Int)) (wanted_none rfl) (exec_move rfl rfl) ?_
    simp only [Act.put, List.setIfInBounds_toArray, List.set_cons_zero, List.set_cons_succ]
    refine wpList_run (v := .pointer (some ⟨fg, 0 + j * 2, none⟩)) (wanted_none rfl) (gx_iaddr (i := j) (sz := 2) rfl rfl rfl Try.underlying33 size_field HLT.out rfl) ?_
    simp only [Act.put, List.setIfInBounds_toArray, List.set_cons_zero, List.set_cons_succ]
    refine wpList_run (v := .agg (fldL f).toArray) (wanted_none rfl) (gx_loads rfl rfl HAT.out Try.underlying41 rfl (by rw [size_field]; rfl)) ?_
    simp only [Act.put, List.setIfInBounds_toArray, List.set_cons_zero, List.set_cons_succ]
    refine wpList_run (v := .pointer (some ⟨wr.heap.size, 0, none⟩)) (w' := wr.alloc (.cells #[.int .i64 0, strV []] 41)) (wanted_none rfl) (gx_alloc rfl (zero_field _)) ?_
    simp only [Act.put, List.setIfInBounds_toArray, List.set_cons_zero, List.set_cons_succ]
    have hb_ := Blk.new wr 41 #[.int .i64 0, strV []]
    have ht_ := (Turn.refl nowhere wr).alloc (.cells #[.int .i64 0, strV []] 41)
    obtain ⟨v, hg_⟩ : ∃ g, g = wr.heap.size := ⟨_, rfl⟩
    rw [← hg_] at hb_ ⊢
    have HLv := Lib.hid (show wr.heap.size ≤ v from by omega)
    clear hg_
    generalize wr.alloc (.cells #[.int .i64 0, strV []] 41) = w7 at *
    have HBv := Lib.hid hb_
    have HT7a := Lib.hid ht_
    clear hb_ ht_
    refine wpList_run (v := .int .i64 (j : Int)) (wanted_none rfl) (gx_assign rfl rfl) ?_
    simp only [Act.put, List.setIfInBounds_toArray, List.set_cons_zero, List.set_cons_succ]
    refine wpList_store_row (wanted_none rfl) 41 (.tmp 8) (.tmp 27) rfl ((fldL f).toArray) HBv.out rfl rfl (rfl) (by rw [size_field] <;> rfl) (fldA_one f) ?_
    intro w8 hb_ ht_
    have HBv8 := Lib.hid hb_
    have HT8a := Lib.hid ht_
    clear hb_ ht_
    simp only [Act.put, List.setIfInBounds_toArray, List.set_cons_zero, List.set_cons_succ]
    have HVF := Lib.hid (show ¬ v = fg from by have := HBK.out.lt; have := HLv.out; omega)
    have HT8n := Lib.hid (newer HT7a.out HLv.out HT8a.out)
    have HT8 := Lib.hid (HTR.out.trans HT8n.out fun _ _ e => e)
    have HD := Lib.hid (HT8.out.drew)
    have HMBd := Lib.hid (show Blk w8.drew mb 35 #[.int .i64 ty, .slice (some ⟨fg, 0, none⟩) fn fn] from HMB.out.turn HT8n.out.drew fun e => e)
    have HBKd := Lib.hid (show Blk w8.drew fg 41 cur from HBK.out.turn HT8n.out.drew fun e => e)
    have HBvd := Lib.hid (show Blk w8.drew v 41 (fldL f).toArray from HBv8.out)
    have HFRd := Lib.hid (show Orw w8.drew w.heap.size 41 2 (.slice (some ⟨fg, 0, none⟩) fn fn) (fs.map fldL) from HFR.out.still HT8n.out.drew)
    go_upto_region 9 with fail
    refine wp_region_alw (fun W => Blk W mb 35 #[.int .i64 ty, .slice (some ⟨fg, 0, none⟩) fn fn] ∧ Blk W v 41 (fldL f).toArray) (by kernel_rfl) ?_
    have hS0 : (fun W => Blk W mb 35 #[.int .i64 ty, .slice (some ⟨fg, 0, none⟩) fn fn] ∧ Blk W v 41 (fldL f).toArray) w8.drew := ⟨HMBd.out, HBvd.out⟩
    generalize w8.drew = wd at *
    have HCL := Lib.hid (cloneT_walk f.2 wd HFS.out)
    clear HBv HBv8 HT7a HT8a HT8n HBK HAT
    refine alw_take (i := 0) (v := .pointer (some ⟨mb, 1, none⟩)) rfl (by kernel_rfl) (by kernel_rfl) (fun _ _ _ h => h) (.inl ⟨by rfl, fun W hW => exec_field (off := 0) (d := 1) rfl rfl (by kernel_rfl)⟩) hS0 ?_
    simp only [Act.put, List.setIfInBounds_toArray, List.set_cons_zero, List.set_cons_succ]
    refine alw_take (i := 1) (v := .slice (some ⟨fg, 0, none⟩) fn fn) rfl (by kernel_rfl) (by kernel_rfl) (fun _ _ _ h => h) (.inl ⟨by rfl, fun W hW => exec_load1 rfl rfl (by kernel_rfl) (hW.1.cell 1)⟩) hS0 ?_
    simp only [Act.put, List.setIfInBounds_toArray, List.set_cons_zero, List.set_cons_succ]
    refine alw_take (i := 2) (v := .int .i64 (j : Int)) rfl (by kernel_rfl) (by kernel_rfl) (fun _ _ _ h => h) (.inl ⟨by rfl, fun W hW => exec_move rfl rfl⟩) hS0 ?_
    simp only [Act.put, List.setIfInBounds_toArray, List.set_cons_zero, List.set_cons_succ]
    refine alw_take (i := 3) (v := .pointer (some ⟨v, 1, none⟩)) rfl (by kernel_rfl) (by kernel_rfl) (fun _ _ _ h => h) (.inl ⟨by rfl, fun W hW => exec_field (off := 0) (d := 1) rfl rfl (by kernel_rfl)⟩) hS0 ?_
    simp only [Act.put, List.setIfInBounds_toArray, List.set_cons_zero, List.set_cons_succ]
    refine alw_take (i := 4) (v := strV f.2) rfl (by kernel_rfl) (by kernel_rfl) (fun _ _ _ h => h) (.inl ⟨by rfl, fun W hW => exec_load1 rfl rfl (by kernel_rfl) (hW.2.cell 1)⟩) hS0 ?_
    simp only [Act.put, List.setIfInBounds_toArray, List.set_cons_zero, List.set_cons_succ]
    clear hS0
    refine alw_step (i := 5) (by kernel_rfl) rfl rfl ?_
    intro K1 HK1
    go_wp2_with fail
    refine (HCL.out).mono ?_
    rintro e w9 ⟨rfl, ht⟩
    have HT9 := Lib.hid (HD.out.trans ht fun _ _ e => e)
    have HMB9 := Lib.hid (HMBd.out.turn ht fun e => e)
    have HBv9 := Lib.hid (HBvd.out.turn ht fun e => e)
    have HBK9 := Lib.hid (HBKd.out.turn ht fun e => e)
    have HFR9 := Lib.hid (HFRd.out.still ht)
    clear ht HMBd HBvd HBKd HFRd HCL
    refine HK1.out _ _ ⟨⟨HMB9.out, HBv9.out⟩, ?_⟩
    clear HK1
    try simp only [Act.put, List.setIfInBounds_toArray, List.set_cons_zero, List.set_cons_succ]
    have hS0 := And.intro HMB9.out HBv9.out
    refine alw_take (i := 6) (v := .pointer (some ⟨fg, 0 + j * 2, none⟩)) rfl (by kernel_rfl) (by kernel_rfl) (fun _ _ _ h => h) (.inl ⟨by rfl, fun W hW => gx_iaddr (i := j) (sz := 2) rfl rfl rfl Try.underlying33 size_field HLT.out rfl⟩) hS0 ?_
    simp only [Act.put, List.setIfInBounds_toArray, List.set_cons_zero, List.set_cons_succ]
    refine alw_take (i := 7) (v := .pointer (some ⟨fg, 0 + j * 2 + 1, none⟩)) rfl (by kernel_rfl) (by kernel_rfl) (fun _ _ _ h => h) (.inl ⟨by rfl, fun W hW => exec_field (off := 0 + j * 2) (d := 1) rfl rfl (by kernel_rfl)⟩) hS0 ?_
    simp only [Act.put, List.setIfInBounds_toArray, List.set_cons_zero, List.set_cons_succ]
    refine alw_step (i := 8) (by kernel_rfl) rfl rfl ?_
    intro K1 HK1
    refine wp_store1U (v := strV f.2) (i := 0 + j * 2 + 1) 9 (.tmp 35) (.tmp 33) rfl HBK9.out rfl rfl (by rw [Nat.zero_add]; exact (Array.getElem?_eq_some_iff.1 HCT.out).1) rfl rfl size_str ?_
    intro w10 hb_ ht_
    rw [show 0 + j * 2 + 1 = j * 2 + 1 from by omega, arr_same HCT.out] at hb_
    have HT10 := Lib.hid (newer HT9.out HFG.out ht_)
    have HFR10 := Lib.hid (HFR9.out.same HBK9.out hb_)
    have HMB10 := Lib.hid (HMB9.out.turn ht_ fun e => (show ¬ mb = fg from HMB9.out.ne_ HBK9.out (by decide)) e)
    have HBv10 := Lib.hid (HBv9.out.turn ht_ fun e => HVF.out (show v = fg from e))
    clear hb_ ht_
    refine HK1.out _ _ ⟨⟨HMB10.out, HBv10.out⟩, ?_⟩
    clear HK1
    try simp only [Act.put, List.setIfInBounds_toArray, List.set_cons_zero, List.set_cons_succ]
    refine alw_done rfl ?_
    refine NoPanic.normal ?_
    try simp only [Act.put, List.setIfInBounds_toArray, List.set_cons_zero, List.set_cons_succ]
    go_upto_region 10 with fail
    refine wp_region_lit ?_
    refine wpList_run (v := .int .i64 ((j + 1 : Nat) : Int)) (wanted_none rfl) (ix_add rfl rfl rfl (by omega) (by omega)) ?_
    simp only [Act.put, List.setIfInBounds_toArray, List.set_cons_zero, List.set_cons_succ]
    refine wpList_run (v := .int .i64 ((j + 1 : Nat) : Int)) (wanted_none rfl) (exec_move rfl rfl) ?_
    simp only [Act.put, List.setIfInBounds_toArray, List.set_cons_zero, List.set_cons_succ]
    go_wp2_with fail
    go_roundg (gk - 1)
    case measure => have := HJL.out; have := HLT.out; omega
    case rel => exact ⟨j + 1, rfl, by have := HJL.out; have := HLT.out; omega, HT10.out, HMB10.out, HFR10.out⟩
  · obtain rfl : j = fn := by have := HJL.out; omega
    clear hlt
    go_upto_region 7 with fail
    refine wp_region_lit ?_
    refine wpList_run (v := .bool false) (wanted_none rfl) (ix_lss rfl rfl rfl (decide_eq_false (by omega))) ?_
    simp only [Act.put, List.setIfInBounds_toArray, List.set_cons_zero, List.set_cons_succ]
    have hqd := HQ.out.still HTR.out.drew
    obtain ⟨⟨A, c, xs, hb, hr, hg, hx, hz⟩, hlen, hmax, hway⟩ := hqd
    obtain ⟨n, hn⟩ : ∃ n, n = l.length := ⟨_, rfl⟩
    rw [← hn] at hb hr hg hlen
    have hxl : xs.length = n := by rw [hn, ← hx, List.length_map]
    have hnm : ¬ n = m := by rw [hn]; exact HH.out.2
    have HB := Lib.hid hb
    have HMD := Lib.hid (show Blk wr.drew mb 35 #[.int .i64 ty, .slice (some ⟨fg, 0, none⟩) j j] from HMB.out)
    have HD := Lib.hid (HTR.out.drew)
    have HFRd := Lib.hid (show Orw wr.drew w.heap.size 41 2 (.slice (some ⟨fg, 0, none⟩) j j) (fs.map fldL) from HFR.out.still (Turn.refl nowhere wr).drew)
    obtain ⟨x, hxe⟩ : ∃ x : Adx, x = ⟨nm, ty, some ⟨fg, 0, none⟩, j, j, fs⟩ := ⟨_, rfl⟩
    have hxc : x.cs = [strV nm, .int .i64 ty, .slice (some ⟨fg, 0, none⟩) j j] := by rw [hxe]; rfl
    have HXE := Lib.hid hxe
    have HXC := Lib.hid hxc
    have HX := Lib.hid hx
    have HZ := Lib.hid hz
    have HWAY := Lib.hid hway
    have HG := Lib.hid hg
    have HXL := Lib.hid hxl
    have HN := Lib.hid hn
    have HMAX := Lib.hid hmax
    have yn : n < m ∧ n ≤ 16 := by omega
    have HR := Lib.hid hr
    have HCL := Lib.hid (cloneT_walk nm wr.drew HNL.out)
    clear hb hr hg hx hz hlen hmax hway hn hxl hnm hxe hxc HJL HMB HFR HTR
    go_upto_region 11 with fail
    refine wp_region_till (fun W => Blk W a 56 #[.int .i64 (m : Int), .slice A n c, .bool s] ∧ Blk W mb 35 #[.int .i64 ty, .slice (some ⟨fg, 0, none⟩) j j]) 11 (by kernel_rfl) ?_
    have hS0 : (fun W => Blk W a 56 #[.int .i64 (m : Int), .slice A n c, .bool s] ∧ Blk W mb 35 #[.int .i64 ty, .slice (some ⟨fg, 0, none⟩) j j]) wr.drew := ⟨HB.out, HMD.out⟩
    generalize wr.drew = wd at *
    refine till_take (i := 0) (v := .pointer (some ⟨a, 0, none⟩)) rfl (by kernel_rfl) (by kernel_rfl) (fun _ _ _ h => h) (.inl ⟨by rfl, fun W hW => exec_move rfl rfl⟩) hS0 ?_
    simp only [Act.put, List.setIfInBounds_toArray, List.set_cons_zero, List.set_cons_succ]
    refine till_take (i := 1) (v := .pointer (some ⟨a, 0, none⟩)) rfl (by kernel_rfl) (by kernel_rfl) (fun _ _ _ h => h) (.inl ⟨by rfl, fun W hW => exec_move rfl rfl⟩) hS0 ?_
    simp only [Act.put, List.setIfInBounds_toArray, List.set_cons_zero, List.set_cons_succ]
    refine till_take (i := 2) (v := .pointer (some ⟨a, 0, none⟩)) rfl (by kernel_rfl) (by kernel_rfl) (fun _ _ _ h => h) (.inl ⟨by rfl, fun W hW => exec_nil rfl rfl⟩) hS0 ?_
    simp only [Act.put, List.setIfInBounds_toArray, List.set_cons_zero, List.set_cons_succ]
    refine till_take (i := 3) (v := .pointer (some ⟨a, 1, none⟩)) rfl (by kernel_rfl) (by kernel_rfl) (fun _ _ _ h => h) (.inl ⟨by rfl, fun W hW => exec_field (off := 0) (d := 1) rfl rfl (by kernel_rfl)⟩) hS0 ?_
    simp only [Act.put, List.setIfInBounds_toArray, List.set_cons_zero, List.set_cons_succ]
    refine till_take (i := 4) (v := .slice A n c) rfl (by kernel_rfl) (by kernel_rfl) (fun _ _ _ h => h) (.inl ⟨by rfl, fun W hW => exec_load1 rfl rfl (by kernel_rfl) (hW.1.cell 1)⟩) hS0 ?_
    simp only [Act.put, List.setIfInBounds_toArray, List.set_cons_zero, List.set_cons_succ]
    refine till_take (i := 5) (v := strV nm) rfl (by kernel_rfl) (by kernel_rfl) (fun _ _ _ h => h) (.inl ⟨by rfl, fun W hW => exec_move rfl rfl⟩) hS0 ?_
    simp only [Act.put, List.setIfInBounds_toArray, List.set_cons_zero, List.set_cons_succ]
    refine till_take (i := 7) (v := .agg #[.int .i64 ty, .slice (some ⟨fg, 0, none⟩) j j]) rfl (by kernel_rfl) (by kernel_rfl) (fun _ _ _ h => h) (.inl ⟨by rfl, fun W hW => gx_loads rfl rfl (blk_range hW.2) Try.underlying35 rfl (by rw [size_msg]; rfl)⟩) hS0 ?_
    simp only [Act.put, List.setIfInBounds_toArray, List.set_cons_zero, List.set_cons_succ]
    clear hS0
    refine till_step (i := 6) (by kernel_rfl) rfl rfl ?_
    intro K1 HK1
    go_wp2_with fail
    refine (HCL.out).mono ?_
    rintro e w2 ⟨rfl, ht⟩
    have HT2 := Lib.hid (HD.out.trans ht fun _ _ e => e)
    have HTd2 := Lib.hid ht
    have HB2 := Lib.hid (HB.out.turn ht fun e => e)
    have HM2 := Lib.hid (HMD.out.turn ht fun e => e)
    clear ht HCL
    refine HK1.out _ _ ⟨fun _ => ⟨HB2.out, HM2.out⟩, ?_⟩
    clear HK1
    try simp only [Act.put, List.setIfInBounds_toArray, List.set_cons_zero, List.set_cons_succ]
    have hS0 := And.intro HB2.out HM2.out
    refine till_take (i := 8) (v := .agg #[strV nm, .int .i64 ty, .slice (some ⟨fg, 0, none⟩) j j]) rfl (by kernel_rfl) (by kernel_rfl) (fun _ _ _ h => h) (.inl ⟨by rfl, fun W hW => gx_build2 rfl rfl rfl (build_ad nm ty _ j j _)⟩) hS0 ?_
    simp only [Act.put, List.setIfInBounds_toArray, List.set_cons_zero, List.set_cons_succ]
    clear hS0
    have hbo := build_one elmA x.cs (by rw [HXC.out]; rfl) (by decide) (.agg #[strV nm, .int .i64 ty, .slice (some ⟨fg, 0, none⟩) j j]) (by rw [HXC.out]; rfl) w2
    have hta := (Turn.refl nowhere w2).alloc (.cells x.cs.toArray 64)
    have hro := rws_one (w := w2) (r := x.cs) (et := 64) (k := 3) (by rw [HXC.out]; rfl) fun _ => trivial
    obtain ⟨A8, c8, w8, hrun, how, hgr, hob⟩ := orw_grow elmA (ty := 54) (c := 1) ((HR.out.still HTd2.out).still hta) (Nat.zero_le _) hro (Fit.one (by rw [HXC.out]; rfl) (adx_one x)) (fun e => by cases e) (by rw [List.length_map, HXL.out]; omega)
    rw [List.length_map, HXL.out] at hrun how hob
    have hgt := (Turn.refl (fun k => g = some k) _).grown hgr fun q9 e _ => HG.out.symm.trans e
    have HBO := Lib.hid hbo
    have HRUN := Lib.hid hrun
    have HOW := Lib.hid how
    have HOB := Lib.hid hob
    have HTA := Lib.hid (HT2.out.trans hta fun _ _ e => e)
    have HTD := Lib.hid (HTd2.out.trans hta fun _ _ e => e)
    have HBa := Lib.hid (HB2.out.turn hta fun e => e)
    have HMa := Lib.hid (HM2.out.turn hta fun e => e)
    have HGT := Lib.hid hgt
    have hne : ∀ k cur, Blk wd k 64 cur → ¬ k = a ∧ ¬ k = mb := fun k cur hk => ⟨hk.ne_ HB.out (by decide), hk.ne_ HMD.out (by decide)⟩
    have HNG := Lib.hid (show ¬ g = some a ∧ ¬ g = some mb from by
      refine ⟨fun e => ?_, fun e => ?_⟩
      · obtain ⟨cur, hc⟩ := Orw.own_blk HR.out (HG.out.trans e)
        exact (hne _ _ hc).1 rfl
      · obtain ⟨cur, hc⟩ := Orw.own_blk HR.out (HG.out.trans e)
        exact (hne _ _ hc).2 rfl)
    have HB8 := Lib.hid (HBa.out.turn hgt HNG.out.1)
    have HM8 := Lib.hid (HMa.out.turn hgt HNG.out.2)
    obtain ⟨a9, ha9⟩ : ∃ q9, q9 = w2.heap.size := ⟨_, rfl⟩
    have HA9 := Lib.hid (show w.heap.size ≤ a9 from by rw [ha9]; exact HT2.out.size)
    have HOBZ := Lib.hid (show (w2.alloc (.cells x.cs.toArray 64)).heap.size = a9 + 1 from by rw [ha9]; simp)
    rw [← ha9] at HBO HRUN
    clear hbo hta hro hrun how hgr hob hgt hne ha9
    generalize w2.alloc (.cells x.cs.toArray 64) = w7 at *
    refine till_step (i := 9) (by kernel_rfl) rfl rfl ?_
    intro K1 HK1
    refine wp_run (v := .slice (some ⟨a9, 0, none⟩) 1 1) (w' := w7) (exec_buildSlice1 rfl rfl HBO.out) ?_
    refine HK1.out _ _ ⟨fun _ => ⟨HBa.out, HMa.out⟩, ?_⟩
    clear HK1
    try simp only [Act.put, List.setIfInBounds_toArray, List.set_cons_zero, List.set_cons_succ]
    refine till_step (i := 10) (by kernel_rfl) rfl rfl ?_
    intro K1 HK1
    refine wp_run (v := .slice A8 (n + 1) c8) (w' := w8) (exec_append rfl rfl rfl HRUN.out) ?_
    refine HK1.out _ _ ⟨fun _ => ⟨HB8.out, HM8.out⟩, ?_⟩
    clear HK1
    try simp only [Act.put, List.setIfInBounds_toArray, List.set_cons_zero, List.set_cons_succ]
    refine till_tail 11 rfl (by kernel_rfl) ?_
    refine wpList_run (v := .pointer (some ⟨a, 0, none⟩)) (wanted_none rfl) (exec_nil rfl rfl) ?_
    simp only [Act.put, List.setIfInBounds_toArray, List.set_cons_zero, List.set_cons_succ]
    refine wpList_run (v := .pointer (some ⟨a, 1, none⟩)) (wanted_none rfl) (exec_field (off := 0) (d := 1) rfl rfl (by kernel_rfl)) ?_
    simp only [Act.put, List.setIfInBounds_toArray, List.set_cons_zero, List.set_cons_succ]
    refine wpList_storeU 1 (.slice A8 (n + 1) c8) (wanted_none rfl) 54 _ _ rfl HB8.out rfl rfl (by show 1 < 3; omega) ⟨rfl, rfl⟩ (by kernel_rfl) ?_
    intro w10 hb_ ht_
    simp only [Act.put, List.setIfInBounds_toArray, List.set_cons_zero, List.set_cons_succ]
    have HB10 := Lib.hid (show Blk w10 a 56 #[.int .i64 (m : Int), .slice A8 (n + 1) c8, .bool s] from hb_)
    have HT10 := Lib.hid ht_
    clear hb_ ht_
    refine wpList_nil ?_
    refine NoPanic.normal ?_
    have HT8 := Lib.hid ((HTA.out.mono (G := foot a g) fun _ _ e => e.elim).trans HGT.out fun k _ e => .inr e)
    have HTE := Lib.hid (HT8.out.trans HT10.out fun k _ e => .inl e)
    have HTW := Lib.hid ((HTD.out.mono (G := foot a g) fun _ _ e => e.elim).trans ((HGT.out.mono (G := foot a g) fun k _ e => .inr e).trans (HT10.out.mono (G := foot a g) fun k _ e => .inl e) fun _ _ e => e) fun _ _ e => e)
    have HF9 := Lib.hid (show ∃ g', Que w10 (fun k => Z k ∨ w.heap.size ≤ k) a g' m (l ++ [(nm, ty, fs)]) s ∧ (g' = g ∨ ∃ b, g' = some b ∧ w.heap.size ≤ b) from by
      have hlx : (l ++ [(nm, ty, fs)]).length = n + 1 := by rw [List.length_append, ← HN.out]; rfl
      have hzx : ∀ z ∈ xs ++ [x], Fz w10 (fun k => Z k ∨ w.heap.size ≤ k) z := fun z hz => by
        have hoff : ∀ k cur, Blk wd k 41 cur → ¬ foot a g k := fun k cur hk e => by
          rcases e with rfl | e
          · exact hk.ne_ HB.out (by decide) rfl
          · obtain ⟨cur', hc⟩ := Orw.own_blk HR.out (HG.out.trans e)
            exact hk.ne_ hc (by decide) rfl
        rcases List.mem_append.1 hz with hz | hz
        · exact ((HZ.out z hz).turn HTW.out fun k cur hk _ => hoff k cur hk).mono fun k _ hk => .inl hk
        · obtain rfl : z = x := by simpa using hz
          have hxe := HXE.out
          subst hxe
          refine ⟨Orw.turn (Orw.less HFRd.out (Nat.zero_le _)) HTW.out fun b hb => ?_, HFL.out.symm, yf, fun b hb => ?_⟩
          · obtain ⟨cur, hc⟩ := Orw.own_blk HFRd.out hb
            exact hoff b cur hc
          · have hb : fg = b := by simpa [Value.ownBlock] using hb
            rw [← hb]
            exact .inr HFG.out
      refine ⟨(Value.slice A8 (n + 1) c8).ownBlock, ⟨⟨A8, c8, xs ++ [x], ?_, ?_, ?_, ?_, hzx⟩, ?_, HMAX.out, fun _ => by simp⟩, ?_⟩
      · rw [hlx]; exact HB10.out
      · rw [hlx, List.map_append]
        refine HOW.out.turn HT10.out fun b hb e => ?_
        have e : b = a := e
        subst e
        obtain ⟨cur, hc⟩ := Orw.own_blk HOW.out hb
        exact hc.ne_ HB8.out (by decide) rfl
      · rw [hlx]
      · rw [List.map_append, HX.out, HXE.out]
        rfl
      · rw [hlx]; omega
      · rcases HOB.out with e | e
        · exact .inl (e.trans HG.out)
        · exact .inr ⟨_, e, by rw [HOBZ.out]; have := HA9.out; omega⟩)
    go_upto_region 12 with fail
    refine wp_region_lit ?_
    refine wpList_run (v := .int .i64 0) (wanted_none rfl) (gx_assign rfl rfl) ?_
    simp only [Act.put, List.setIfInBounds_toArray, List.set_cons_zero, List.set_cons_succ]
    go_wp2_with fail
    go_ret
    exact ⟨rfl, HF9.out, HTE.out⟩
end Go.Proofs.Ytkcedcllefcboaa
