/-
  Routes: the order of adding is not seen: the law's walk. No conditions.
-/
import Derived.Test.YtihmpbilbnajpaaRtN
namespace Go.Proofs.Ytihmpbilbnajpaa
open Go.RowKit
open Ix
open Rt (R)
set_option linter.unusedVariables false
set_option linter.unusedSimpArgs false
theorem Orw.addR {w W : World} {A : Option Addr} {i c : Nat} {rs : List (List Value)} {x : RtV} (h : Orw W w.heap.size 38 2 (.slice A i c) rs) (hT : Turn nowhere w W) (hl : rs.length = i) (hlen : (i + 1) * 40 ≤ 140737488355328) :
    ∃ A' c' W', (Builtin.append_ #[22, 22] 22 #[.slice A i c, .slice (some ⟨W.heap.size, 0, none⟩) 1 1]).run Try.prog (W.alloc (.cells x.cells.toArray 38)) = .ok (.slice A' (i + 1) c') W' ∧ Orw W' w.heap.size 38 2 (.slice A' (i + 1) c') (rs ++ [x.cells]) ∧ Turn nowhere w W' := by
  have ha : Turn nowhere W (W.alloc (.cells x.cells.toArray 38)) := (Turn.refl nowhere W).alloc _
  have hrow := h.still ha
  obtain ⟨A', c', W', hrun, hown, hg, _⟩ := orw_grow elmRt (ty := 22) (news := [x.cells]) (A := some ⟨W.heap.size, 0, none⟩) (m := 1) (c := 1) hrow (Nat.le_trans hT.size ha.size) (rws_one (et := 38) (r := x.cells) rfl fun _ => trivial) (Fit.one rfl x.one) (fun e => by cases e) (by rw [hl]; exact hlen)
  rw [hl] at hrun hown
  have ht : Turn (fun k => (Value.slice A i c).ownBlock = some k) (W.alloc (.cells x.cells.toArray 38)) W' := (Turn.refl _ _).grown hg fun g e _ => e
  refine ⟨A', c', W', hrun, hown, (hT.trans ha fun _ _ e => e).trans ht fun k hk e => ?_⟩
  have := (hrow.lt e).1
  omega
theorem size_tx : (Try.prog.info? 9).map (·.size) = some 1 := by kernel_rfl
/-- a row of texts -/
def TxA (w : World) (A : Option Addr) (n : Nat) (ks : List Key) : Prop := Rws w 1 A n (ks.map fun k => [strV k]) ∧ ∀ k ∈ ks, k.length ≤ 9223372036854775807
section
variable {At : World → Nat → (Nat → Prop) → Int → List R → Prop}
theorem Api.new_no (H : Api At) {w : World} {A : Option Addr} {n c : Nat} {us : List RtV} {m E : Int} (ha : RtsAt w A n us) (hr : n * 40 ≤ 140737488355328) (hE : E = if 1 ≤ m ∧ m ≤ 6 then Rt.newE m [] (us.map RtV.plain) else 130) (h0 : E ≠ 0) :
    Calls Try.prog 9 #[.slice A n c, .int .i64 m] w fun e w' => e = .returned (.tuple #[.pointer none, .int .i64 E]) ∧ Turn nowhere w w' := (H.new ha hr).mono fun e w' h => by
  subst hE
  rcases h with ⟨h, h2⟩ | ⟨h, _, h2⟩ | ⟨h, h3, _⟩
  · rw [if_neg h]
    exact h2
  · rw [if_pos h]
    exact h2
  · rw [if_pos h] at h0
    exact absurd h3 h0
set_option maxRecDepth 20000 in
set_option maxHeartbeats 4000000 in
theorem order_walk (H : Api At) {w : World} {A : Option Addr} {n c : Nat} {us : List RtV} {m : Int} {A2 : Option Addr} {n2 c2 : Nat} {ks : List Key} (ha : RtsAt w A n us) (hr : n * 40 ≤ 140737488355328) (hk : TxA w A2 n2 ks) :
    Calls Try.prog 4 #[.slice A n c, .int .i64 m, .slice A2 n2 c2] w fun e w' => e = .returned (.bool true) ∧ Turn nowhere w w' := by
  have HA := Lib.hid H
  have HU := Lib.hid ha
  have HRM := Lib.hid hr
  have HUN := Lib.hid ha.len
  have HK := Lib.hid hk
  have yn : (n : Int) ≤ 3518437208883 := by omega
  have yn2 : (n2 : Int) ≤ 140737488355328 := by have := hk.1.2.2.1; omega
  have HKN := Lib.hid (show n2 = ks.length from by have := hk.1.1; rw [List.length_map] at this; omega)
  obtain ⟨rs, hrs⟩ : ∃ x, x = us.map RtV.plain := ⟨_, rfl⟩
  have HRS := Lib.hid hrs
  clear H ha hr hk hrs
  go_enter Try.func4, Try.ntmps4
  go_upto_region 0 with fail
  refine wp_region_lit ?_
  refine wpList_run (v := .bool false) (wanted_none rfl) (gx_assign rfl rfl) ?_
  simp only [Act.put, List.setIfInBounds_toArray, List.set_cons_zero, List.set_cons_succ]
  go_upto_region 1 with fail
  refine wp_region_lit ?_
  refine wpList_op rfl fun K9 HK9 => ?_
  go_wp2_with fail
  refine (shown_walk (w := w) HA.out).mono ?_
  rintro e w1 ⟨rfl, ht⟩
  refine HK9.out _ _ ?_
  clear HK9
  try simp only [Act.put, List.setIfInBounds_toArray, List.set_cons_zero, List.set_cons_succ]
  have HT1 := Lib.hid ht
  have HU1 := Lib.hid (HU.out.still ht)
  clear ht
  refine wpList_run (v := .bool true) (wanted_none rfl) (gx_assign rfl rfl) ?_
  simp only [Act.put, List.setIfInBounds_toArray, List.set_cons_zero, List.set_cons_succ]
  by_cases he : (1 ≤ m ∧ m ≤ 6) ∧ Rt.newE m [] rs = 0
  · have HM := Lib.hid he.1
    obtain ⟨L, hL⟩ : ∃ x, x = Rt.newL m [] rs := ⟨_, rfl⟩
    have HRV := Lib.hid (Rt.new_rev he.2)
    have HLL := Lib.hid hL
    have HNW := Lib.hid (HA.out.new_ok (m := m) (l := L) (c := c) HU1.out HRM.out he.1 (by rw [← HRS.out]; exact he.2) (by rw [← HRS.out]; exact hL))
    clear he hL
    go_upto_region 2 with fail
    refine wp_region_lit ?_
    refine wpList_run (v := .slice A n c) (wanted_none rfl) (exec_move rfl rfl) ?_
    simp only [Act.put, List.setIfInBounds_toArray, List.set_cons_zero, List.set_cons_succ]
    refine wpList_run (v := .int .i64 m) (wanted_none rfl) (exec_move rfl rfl) ?_
    simp only [Act.put, List.setIfInBounds_toArray, List.set_cons_zero, List.set_cons_succ]
    refine wpList_op rfl fun K9 HK9 => ?_
    go_wp2_with fail
    refine (HNW.out).mono ?_
    rintro e w2 ⟨t, F, rfl, hat, hF, ht⟩
    refine HK9.out _ _ ?_
    clear HK9
    try simp only [Act.put, List.setIfInBounds_toArray, List.set_cons_zero, List.set_cons_succ]
    have HAT2 := Lib.hid hat
    have HT2 := Lib.hid (HT1.out.trans ht fun _ _ e => e)
    clear hat hF ht HNW
    refine wpList_run (v := .tuple #[.pointer (some ⟨t, 0, none⟩), .int .i64 0]) (wanted_none rfl) (exec_move rfl rfl) ?_
    simp only [Act.put, List.setIfInBounds_toArray, List.set_cons_zero, List.set_cons_succ]
    refine wpList_run (v := .pointer (some ⟨t, 0, none⟩)) (wanted_none rfl) (ix_extract rfl rfl rfl) ?_
    simp only [Act.put, List.setIfInBounds_toArray, List.set_cons_zero, List.set_cons_succ]
    refine wpList_run (v := .int .i64 0) (wanted_none rfl) (ix_extract rfl rfl rfl) ?_
    simp only [Act.put, List.setIfInBounds_toArray, List.set_cons_zero, List.set_cons_succ]
    refine wpList_run (v := .pointer (some ⟨t, 0, none⟩)) (wanted_none rfl) (gx_assign rfl rfl) ?_
    simp only [Act.put, List.setIfInBounds_toArray, List.set_cons_zero, List.set_cons_succ]
    refine wpList_run (v := .int .i64 0) (wanted_none rfl) (gx_assign rfl rfl) ?_
    simp only [Act.put, List.setIfInBounds_toArray, List.set_cons_zero, List.set_cons_succ]
    go_upto_region 3 with fail
    refine wp_region_lit ?_
    refine wpList_run (v := .bool true) (wanted_none rfl) (exec_move rfl rfl) ?_
    simp only [Act.put, List.setIfInBounds_toArray, List.set_cons_zero, List.set_cons_succ]
    refine wpList_run (v := .bool false) (wanted_none rfl) (ix_not (b := true) rfl rfl) ?_
    simp only [Act.put, List.setIfInBounds_toArray, List.set_cons_zero, List.set_cons_succ]
    refine wpList_run (v := .bool false) (wanted_none rfl) (exec_move rfl rfl) ?_
    simp only [Act.put, List.setIfInBounds_toArray, List.set_cons_zero, List.set_cons_succ]
    refine wpList_run (v := .int .i64 0) rfl (exec_move rfl rfl) ?_
    simp only [Act.put, List.setIfInBounds_toArray, List.set_cons_zero, List.set_cons_succ]
    refine wpList_run (v := .bool false) rfl (ix_neq rfl rfl rfl (by decide)) ?_
    simp only [Act.put, List.setIfInBounds_toArray, List.set_cons_zero, List.set_cons_succ]
    refine wpList_run (v := .bool false) (wanted_none rfl) (ix_pickF rfl rfl rfl) ?_
    simp only [Act.put, List.setIfInBounds_toArray, List.set_cons_zero, List.set_cons_succ]
    have ht0 := (Turn.refl nowhere w2).alloc (.cells #[] 38)
    have ho0 : Orw (w2.alloc (.cells #[] 38)) w2.heap.size 38 2 (.slice (some ⟨w2.heap.size, 0, none⟩) 0 0) [] := ⟨Fit.nil 2, World.ownsRow_made w2 #[] 0 (Nat.le_refl _) (by unfold maxLen; omega) (by simp)⟩
    have HT0 := Lib.hid ht0
    have HO0 := Lib.hid ho0
    clear ht0 ho0
    go_upto_region 5 with fail
    refine wp_region_lit ?_
    refine wpList_run (v := .slice (some ⟨w2.heap.size, 0, none⟩) 0 0) (w' := w2.alloc (.cells #[] 38)) (wanted_none rfl) (bx_slice0 rfl (build0T _)) ?_
    simp only [Act.put, List.setIfInBounds_toArray, List.set_cons_zero, List.set_cons_succ]
    refine wpList_run (v := .slice (some ⟨w2.heap.size, 0, none⟩) 0 0) (wanted_none rfl) (gx_assign rfl rfl) ?_
    simp only [Act.put, List.setIfInBounds_toArray, List.set_cons_zero, List.set_cons_succ]
    go_upto_region 6 with fail
    refine wp_region_lit ?_
    refine wpList_run (v := .slice A n c) (wanted_none rfl) (exec_move rfl rfl) ?_
    simp only [Act.put, List.setIfInBounds_toArray, List.set_cons_zero, List.set_cons_succ]
    refine wpList_run (v := .int .i64 (n : Int)) (wanted_none rfl) (gx_len rfl rfl Try.underlying22) ?_
    simp only [Act.put, List.setIfInBounds_toArray, List.set_cons_zero, List.set_cons_succ]
    refine wpList_run (v := .int .i64 ((n : Int) - 1)) (wanted_none rfl) (ix_sub rfl rfl rfl rfl ⟨by omega, by omega⟩) ?_
    simp only [Act.put, List.setIfInBounds_toArray, List.set_cons_zero, List.set_cons_succ]
    refine wpList_run (v := .int .i64 ((n : Int) - 1)) (wanted_none rfl) (gx_assign rfl rfl) ?_
    simp only [Act.put, List.setIfInBounds_toArray, List.set_cons_zero, List.set_cons_succ]
    go_wp2_with fail
    go_loopg [10, 11] n (fun gk av iv wr => ∃ (x : Int) (k j : Nat) (A' : Option Addr) (c' : Nat), iv = .int .i64 x ∧ x = (k : Int) - 1 ∧ k = gk ∧ k ≤ n ∧ j = n - k ∧ av = .slice A' j c' ∧ Orw wr w2.heap.size 38 2 (.slice A' j c') ((us.drop k).reverse.map RtV.cells) ∧ Turn nowhere w2 wr)
    case atStart => exact ⟨_, n, 0, _, _, rfl, rfl, rfl, Nat.le_refl _, by omega, rfl, by rw [List.drop_of_length_le (by have := HUN.out; omega)]; exact HO0.out, HT0.out⟩
    obtain ⟨x, k, j, A', c', rfl, hx, hkg, hkn, hj, rfl, hown, htr⟩ := hrel
    have HKG := Lib.hid hkg
    have HKN2 := Lib.hid hkn
    have HJ := Lib.hid hj
    have HOW := Lib.hid hown
    have HTR := Lib.hid htr
    clear hkg hkn hj hown htr
    by_cases hlt : 0 < k
    · obtain ⟨i, hi⟩ : ∃ i, k = i + 1 := ⟨k - 1, by omega⟩
      obtain rfl : x = (i : Int) := by omega
      have HLT := Lib.hid (show i < n from by have := HKN2.out; omega)
      have HKI := Lib.hid hi
      have yi : (i : Int) < (n : Int) := by have := HLT.out; omega
      have HUr := Lib.hid ((HU.out.still HT2.out).still HTR.out)
      obtain ⟨b1, o1, e1, _⟩ := HUr.out.at_ (by omega)
      subst e1
      obtain ⟨z, hz⟩ := getQ (l := us) (i := i) (by have := HUN.out; have := HLT.out; omega)
      have HZ := Lib.hid hz
      have HRG := Lib.hid (HUr.out.rng hz)
      obtain ⟨A8, c8, w8, hrun8, how8, ht8⟩ := Orw.addR (x := z) HOW.out HTR.out (by rw [List.length_map, List.length_reverse, List.length_drop]; have := HUN.out; have := HJ.out; omega) (by have := HRM.out; have := HJ.out; have := HKN2.out; omega)
      have HRUN8 := Lib.hid hrun8
      have HT8 := Lib.hid ht8
      have HO8 := Lib.hid (show Orw w8 w2.heap.size 38 2 (.slice A8 (j + 1) c8) ((us.drop i).reverse.map RtV.cells) from by
        have e : us.drop i = z :: us.drop (i + 1) := by
          rw [List.drop_eq_getElem_cons (List.getElem?_eq_some_iff.1 hz).1, (List.getElem?_eq_some_iff.1 hz).2]
        rw [e, List.reverse_cons, List.map_append, ← hi]
        exact how8)
      clear hz hrun8 how8 ht8 hlt hx hi
      go_upto_region 7 with fail
      refine wp_region_lit ?_
      refine wpList_run (v := .int .i64 (i : Int)) (wanted_none rfl) (exec_move rfl rfl) ?_
      simp only [Act.put, List.setIfInBounds_toArray, List.set_cons_zero, List.set_cons_succ]
      refine wpList_run (v := .bool true) (wanted_none rfl) (ix_geq rfl rfl rfl (decide_eq_true (by omega))) ?_
      simp only [Act.put, List.setIfInBounds_toArray, List.set_cons_zero, List.set_cons_succ]
      go_upto_region 9 with fail
      refine wp_region_lit ?_
      refine wpList_run (v := .slice A' j c') (wanted_none rfl) (exec_move rfl rfl) ?_
      simp only [Act.put, List.setIfInBounds_toArray, List.set_cons_zero, List.set_cons_succ]
      refine wpList_run (v := .slice (some ⟨b1, o1, none⟩) n c) (wanted_none rfl) (exec_move rfl rfl) ?_
      simp only [Act.put, List.setIfInBounds_toArray, List.set_cons_zero, List.set_cons_succ]
      refine wpList_run (v := .int .i64 (i : Int)) (wanted_none rfl) (exec_move rfl rfl) ?_
      simp only [Act.put, List.setIfInBounds_toArray, List.set_cons_zero, List.set_cons_succ]
      refine wpList_run (v := .pointer (some ⟨b1, o1 + i * 2, none⟩)) (wanted_none rfl) (gx_iaddr (i := i) (sz := 2) rfl rfl rfl Try.underlying22 size_rt HLT.out rfl) ?_
      simp only [Act.put, List.setIfInBounds_toArray, List.set_cons_zero, List.set_cons_succ]
      refine wpList_run (v := .agg z.cells.toArray) (wanted_none rfl) (gx_loads rfl rfl HRG.out Try.underlying38 rfl (by rw [size_rt]; rfl)) ?_
      simp only [Act.put, List.setIfInBounds_toArray, List.set_cons_zero, List.set_cons_succ]
      refine wpList_run (v := .slice (some ⟨wr.heap.size, 0, none⟩) 1 1) (w' := wr.alloc (.cells z.cells.toArray 38)) (wanted_none rfl) (exec_buildSlice1 rfl rfl (build_one elmRt z.cells rfl (by decide) _ rfl _)) ?_
      simp only [Act.put, List.setIfInBounds_toArray, List.set_cons_zero, List.set_cons_succ]
      refine wpList_run (v := .slice A8 (j + 1) c8) (w' := w8) (wanted_none rfl) (exec_append rfl rfl rfl HRUN8.out) ?_
      simp only [Act.put, List.setIfInBounds_toArray, List.set_cons_zero, List.set_cons_succ]
      refine wpList_run (v := .slice A8 (j + 1) c8) (wanted_none rfl) (gx_assign rfl rfl) ?_
      simp only [Act.put, List.setIfInBounds_toArray, List.set_cons_zero, List.set_cons_succ]
      go_upto_region 8 with fail
      refine wp_region_lit ?_
      refine wpList_run (v := .int .i64 (i : Int)) (wanted_none rfl) (exec_move rfl rfl) ?_
      simp only [Act.put, List.setIfInBounds_toArray, List.set_cons_zero, List.set_cons_succ]
      refine wpList_run (v := .int .i64 ((i : Int) - 1)) (wanted_none rfl) (ix_sub rfl rfl rfl rfl ⟨by omega, by omega⟩) ?_
      simp only [Act.put, List.setIfInBounds_toArray, List.set_cons_zero, List.set_cons_succ]
      refine wpList_run (v := .int .i64 ((i : Int) - 1)) (wanted_none rfl) (gx_assign rfl rfl) ?_
      simp only [Act.put, List.setIfInBounds_toArray, List.set_cons_zero, List.set_cons_succ]
      go_wp2_with fail
      go_roundg i
      case measure => have := HKG.out; have := HKI.out; omega
      case rel => exact ⟨_, i, j + 1, A8, c8, rfl, rfl, rfl, by have := HLT.out; omega, by have := HJ.out; have := HKI.out; have := HKN2.out; omega, rfl, HO8.out, HT8.out⟩
    · obtain rfl : k = 0 := by omega
      have hx0 : x < 0 := by omega
      obtain rfl : j = n := by have := HJ.out; omega
      have hrow := HOW.out
      rw [List.drop_zero] at hrow
      have HTRV := Lib.hid (show RtsAt wr A' j us.reverse from ⟨hrow.rws (by rw [List.length_map, List.length_reverse]; have := HUN.out; omega) (by decide), fun v hv => ((HU.out.2 v (List.mem_reverse.1 hv)).still HT2.out).still HTR.out⟩)
      have HNW2 := Lib.hid (HA.out.new_ok (m := m) (l := L) (c := c') HTRV.out HRM.out HM.out (by rw [List.map_reverse, ← HRS.out]; exact HRV.out.1) (by rw [List.map_reverse, ← HRS.out, HRV.out.2]; exact HLL.out))
      have HATr := Lib.hid (HA.out.still HAT2.out HTR.out)
      have HTr := Lib.hid (HT2.out.trans HTR.out fun _ _ e => e)
      clear hlt hx hrow
      go_upto_region 7 with fail
      refine wp_region_lit ?_
      refine wpList_run (v := .int .i64 x) (wanted_none rfl) (exec_move rfl rfl) ?_
      simp only [Act.put, List.setIfInBounds_toArray, List.set_cons_zero, List.set_cons_succ]
      refine wpList_run (v := .bool false) (wanted_none rfl) (ix_geq rfl rfl rfl (decide_eq_false (by omega))) ?_
      simp only [Act.put, List.setIfInBounds_toArray, List.set_cons_zero, List.set_cons_succ]
      go_upto_region 10 with fail
      refine wp_region_lit ?_
      refine wpList_run (v := .slice A' j c') (wanted_none rfl) (exec_move rfl rfl) ?_
      simp only [Act.put, List.setIfInBounds_toArray, List.set_cons_zero, List.set_cons_succ]
      refine wpList_run (v := .int .i64 m) (wanted_none rfl) (exec_move rfl rfl) ?_
      simp only [Act.put, List.setIfInBounds_toArray, List.set_cons_zero, List.set_cons_succ]
      refine wpList_op rfl fun K9 HK9 => ?_
      go_wp2_with fail
      refine (HNW2.out).mono ?_
      rintro e w3 ⟨t2, F2, rfl, hat, hF, ht⟩
      refine HK9.out _ _ ?_
      clear HK9
      try simp only [Act.put, List.setIfInBounds_toArray, List.set_cons_zero, List.set_cons_succ]
      have HAU3 := Lib.hid hat
      have HAT3 := Lib.hid (HA.out.still HATr.out ht)
      have HT3 := Lib.hid (HTr.out.trans ht fun _ _ e => e)
      have HL1 := Lib.hid (HA.out.list HAT3.out)
      clear hat hF ht HNW2
      refine wpList_run (v := .tuple #[.pointer (some ⟨t2, 0, none⟩), .int .i64 0]) (wanted_none rfl) (exec_move rfl rfl) ?_
      simp only [Act.put, List.setIfInBounds_toArray, List.set_cons_zero, List.set_cons_succ]
      refine wpList_run (v := .pointer (some ⟨t2, 0, none⟩)) (wanted_none rfl) (ix_extract rfl rfl rfl) ?_
      simp only [Act.put, List.setIfInBounds_toArray, List.set_cons_zero, List.set_cons_succ]
      refine wpList_run (v := .int .i64 0) (wanted_none rfl) (ix_extract rfl rfl rfl) ?_
      simp only [Act.put, List.setIfInBounds_toArray, List.set_cons_zero, List.set_cons_succ]
      refine wpList_run (v := .pointer (some ⟨t2, 0, none⟩)) (wanted_none rfl) (gx_assign rfl rfl) ?_
      simp only [Act.put, List.setIfInBounds_toArray, List.set_cons_zero, List.set_cons_succ]
      refine wpList_run (v := .int .i64 0) (wanted_none rfl) (gx_assign rfl rfl) ?_
      simp only [Act.put, List.setIfInBounds_toArray, List.set_cons_zero, List.set_cons_succ]
      go_upto_region 11 with fail
      refine wp_region_lit ?_
      refine wpList_run (v := .pointer (some ⟨t2, 0, none⟩)) (wanted_none rfl) (exec_move rfl rfl) ?_
      simp only [Act.put, List.setIfInBounds_toArray, List.set_cons_zero, List.set_cons_succ]
      refine wpList_run (v := .bool false) (wanted_none rfl) (ptr_nnR rfl rfl rfl rfl) ?_
      simp only [Act.put, List.setIfInBounds_toArray, List.set_cons_zero, List.set_cons_succ]
      refine wpList_run (v := .bool false) (wanted_none rfl) (exec_move rfl rfl) ?_
      simp only [Act.put, List.setIfInBounds_toArray, List.set_cons_zero, List.set_cons_succ]
      refine wpList_run (v := .int .i64 0) rfl (exec_move rfl rfl) ?_
      simp only [Act.put, List.setIfInBounds_toArray, List.set_cons_zero, List.set_cons_succ]
      refine wpList_run (v := .bool false) rfl (ix_neq rfl rfl rfl (by decide)) ?_
      simp only [Act.put, List.setIfInBounds_toArray, List.set_cons_zero, List.set_cons_succ]
      refine wpList_run (v := .bool false) (wanted_none rfl) (ix_pickF rfl rfl rfl) ?_
      simp only [Act.put, List.setIfInBounds_toArray, List.set_cons_zero, List.set_cons_succ]
      go_upto_region 13 with fail
      refine wp_region_lit ?_
      refine wpList_run (v := .pointer (some ⟨t, 0, none⟩)) (wanted_none rfl) (exec_move rfl rfl) ?_
      simp only [Act.put, List.setIfInBounds_toArray, List.set_cons_zero, List.set_cons_succ]
      refine wpList_op rfl fun K9 HK9 => ?_
      go_wp2_with fail
      refine (HL1.out).mono ?_
      rintro e w4 ⟨A4, n4, c4, vs4, rfl, ho, hp, ht⟩
      refine HK9.out _ _ ?_
      clear HK9
      try simp only [Act.put, List.setIfInBounds_toArray, List.set_cons_zero, List.set_cons_succ]
      have HO4 := Lib.hid ho
      have HP4 := Lib.hid hp
      have HT4 := Lib.hid (HT3.out.trans ht fun _ _ e => e)
      have HAT4 := Lib.hid (HA.out.still HAT3.out ht)
      have HAU4 := Lib.hid (HA.out.still HAU3.out ht)
      have HL2 := Lib.hid (HA.out.list HAU4.out)
      clear ho hp ht HL1
      refine wpList_run (v := .pointer (some ⟨t2, 0, none⟩)) (wanted_none rfl) (exec_move rfl rfl) ?_
      simp only [Act.put, List.setIfInBounds_toArray, List.set_cons_zero, List.set_cons_succ]
      refine wpList_op rfl fun K9 HK9 => ?_
      go_wp2_with fail
      refine (HL2.out).mono ?_
      rintro e w5 ⟨A5, n5, c5, vs5, rfl, ho, hp, ht⟩
      refine HK9.out _ _ ?_
      clear HK9
      try simp only [Act.put, List.setIfInBounds_toArray, List.set_cons_zero, List.set_cons_succ]
      have HT5 := Lib.hid (HT4.out.trans ht fun _ _ e => e)
      have HAT5 := Lib.hid (HA.out.still HAT4.out ht)
      have HAU5 := Lib.hid (HA.out.still HAU4.out ht)
      have hs32 := (HA.out.srt HAT3.out).2
      have hl4 : vs4.length = L.length := by rw [← HP4.out, List.length_map]
      have hl5 : vs5.length = L.length := by rw [← hp, List.length_map]
      obtain ⟨A9, c9, e9, _⟩ := ho.row.form
      obtain ⟨A7, c7, e7, _⟩ := HO4.out.row.form
      rw [List.length_map] at e9 e7
      injection e9 with x1 e9 x2
      injection e7 with x3 e7 x4
      clear x1 x2 x3 x4
      obtain rfl : n5 = n4 := by omega
      have HSM := Lib.hid (same_walk (c := c4) (c2 := c5) ((HO4.out.still ht).rts (by omega)) (ho.rts (by omega)) (HP4.out.trans hp.symm))
      clear ho hp ht HL2 hs32 hl4 hl5 e9 e7
      refine wpList_op rfl fun K9 HK9 => ?_
      go_wp2_with fail
      refine (HSM.out).mono ?_
      rintro e w6 ⟨rfl, ht⟩
      refine HK9.out _ _ ?_
      clear HK9
      try simp only [Act.put, List.setIfInBounds_toArray, List.set_cons_zero, List.set_cons_succ]
      have HT6 := Lib.hid (HT5.out.trans ht fun _ _ e => e)
      have HAT6 := Lib.hid (HA.out.still HAT5.out ht)
      have HAU6 := Lib.hid (HA.out.still HAU5.out ht)
      clear ht HSM
      refine wpList_run (v := .bool true) (wanted_none rfl) (gx_assign rfl rfl) ?_
      simp only [Act.put, List.setIfInBounds_toArray, List.set_cons_zero, List.set_cons_succ]
      go_upto_region 14 with fail
      refine wp_region_lit ?_
      refine wpList_run (v := .int .i64 0) (wanted_none rfl) (gx_assign rfl rfl) ?_
      simp only [Act.put, List.setIfInBounds_toArray, List.set_cons_zero, List.set_cons_succ]
      go_wp2_with fail
      go_loopg [14, 15, 16, 17, 18, 19] n2 (fun gk ov iv av bv cv dv wr => ∃ (i : Nat), ov = .bool true ∧ iv = .int .i64 (i : Int) ∧ i + gk = n2 ∧ Turn nowhere w6 wr)
      case atStart => exact ⟨0, rfl, rfl, by omega, Turn.refl _ _⟩
      obtain ⟨i, rfl, rfl, hgk, htr⟩ := hrel
      have HGK := Lib.hid hgk
      have HTQ := Lib.hid htr
      have HATq := Lib.hid (HA.out.still HAT6.out htr)
      have HAUq := Lib.hid (HA.out.still HAU6.out htr)
      have yi : (i : Int) ≤ (n2 : Int) := by omega
      clear hgk htr
      by_cases hlt : i < n2
      · have HLT := Lib.hid hlt
        have y3 : (i : Int) < (n2 : Int) := by omega
        obtain ⟨p, hp⟩ := getQ (l := ks) (i := i) (by have := HKN.out; omega)
        have HPL := Lib.hid (HK.out.2 p (List.mem_of_getElem? hp))
        obtain ⟨b2, o2, e2, hc2⟩ := (HK.out.1.still (HT6.out.trans HTQ.out fun _ _ e => e)).at_ (i := i) (r := [strV p]) (by rw [List.getElem?_map, hp]; rfl)
        subst e2
        have HC := Lib.hid (show wr.cell? ⟨b2, o2 + i * 1, none⟩ = some (strV p) from hc2 0 _ rfl)
        have HFD := Lib.hid (HA.out.find HATq.out HPL.out)
        clear hp hc2 hlt
        go_upto_region 15 with fail
        refine wp_region_lit ?_
        refine wpList_run (v := .int .i64 (i : Int)) (wanted_none rfl) (exec_move rfl rfl) ?_
        simp only [Act.put, List.setIfInBounds_toArray, List.set_cons_zero, List.set_cons_succ]
        refine wpList_run (v := .slice (some ⟨b2, o2, none⟩) n2 c2) (wanted_none rfl) (exec_move rfl rfl) ?_
        simp only [Act.put, List.setIfInBounds_toArray, List.set_cons_zero, List.set_cons_succ]
        refine wpList_run (v := .int .i64 (n2 : Int)) (wanted_none rfl) (gx_len rfl rfl Try.underlying51) ?_
        simp only [Act.put, List.setIfInBounds_toArray, List.set_cons_zero, List.set_cons_succ]
        refine wpList_run (v := .bool true) (wanted_none rfl) (ix_lss rfl rfl rfl (decide_eq_true y3)) ?_
        simp only [Act.put, List.setIfInBounds_toArray, List.set_cons_zero, List.set_cons_succ]
        refine wpList_run (v := .bool true) (wanted_none rfl) (exec_move rfl rfl) ?_
        simp only [Act.put, List.setIfInBounds_toArray, List.set_cons_zero, List.set_cons_succ]
        refine wpList_run (v := .bool true) rfl (exec_move rfl rfl) ?_
        simp only [Act.put, List.setIfInBounds_toArray, List.set_cons_zero, List.set_cons_succ]
        refine wpList_run (v := .bool true) (wanted_none rfl) (ix_pickT rfl rfl rfl) ?_
        simp only [Act.put, List.setIfInBounds_toArray, List.set_cons_zero, List.set_cons_succ]
        go_upto_region 17 with fail
        refine wp_region_lit ?_
        refine wpList_run (v := .pointer (some ⟨t, 0, none⟩)) (wanted_none rfl) (exec_move rfl rfl) ?_
        simp only [Act.put, List.setIfInBounds_toArray, List.set_cons_zero, List.set_cons_succ]
        refine wpList_run (v := .slice (some ⟨b2, o2, none⟩) n2 c2) (wanted_none rfl) (exec_move rfl rfl) ?_
        simp only [Act.put, List.setIfInBounds_toArray, List.set_cons_zero, List.set_cons_succ]
        refine wpList_run (v := .int .i64 (i : Int)) (wanted_none rfl) (exec_move rfl rfl) ?_
        simp only [Act.put, List.setIfInBounds_toArray, List.set_cons_zero, List.set_cons_succ]
        refine wpList_run (v := .pointer (some ⟨b2, o2 + i * 1, none⟩)) (wanted_none rfl) (gx_iaddr (i := i) (sz := 1) rfl rfl rfl Try.underlying51 size_tx HLT.out rfl) ?_
        simp only [Act.put, List.setIfInBounds_toArray, List.set_cons_zero, List.set_cons_succ]
        refine wpList_run (v := strV p) (wanted_none rfl) (exec_load1 rfl rfl (by kernel_rfl) HC.out) ?_
        simp only [Act.put, List.setIfInBounds_toArray, List.set_cons_zero, List.set_cons_succ]
        refine wpList_op rfl fun K9 HK9 => ?_
        go_wp2_with fail
        refine (HFD.out).mono ?_
        rintro e w7 ⟨o, A7, n7, c7, hb, ht, rfl, hn, ho⟩
        refine HK9.out _ _ ?_
        clear HK9
        try simp only [Act.put, List.setIfInBounds_toArray, List.set_cons_zero, List.set_cons_succ]
        obtain ⟨s7, his⟩ : ∃ x, x = o.isSome := ⟨_, rfl⟩
        rw [← his]
        obtain ⟨zs, hzs⟩ : ∃ x, x = o.getD [] := ⟨_, rfl⟩
        have HZL := Lib.hid (show zs.length ≤ 6 from by rw [hzs]; exact best_len hb (HA.out.short HATq.out))
        rw [← hzs] at ho hn
        have yn7 : n7 ≤ 140737488355328 := by have := HZL.out; omega
        have HO7 := Lib.hid ho
        have HTQ7 := Lib.hid (HTQ.out.trans ht fun _ _ e => e)
        have HC7 := Lib.hid ((ht.cell (World.block_lt_of_cell? _ _ HC.out) fun e => e).trans HC.out)
        have HFD2 := Lib.hid (HA.out.f_is (HA.out.still HAUq.out ht) HPL.out hb his hzs)
        clear hb hn ho ht his hzs HFD
        refine wpList_run (v := .tuple #[.slice A7 n7 c7, .bool s7]) (wanted_none rfl) (exec_move rfl rfl) ?_
        simp only [Act.put, List.setIfInBounds_toArray, List.set_cons_zero, List.set_cons_succ]
        refine wpList_run (v := .slice A7 n7 c7) (wanted_none rfl) (ix_extract rfl rfl rfl) ?_
        simp only [Act.put, List.setIfInBounds_toArray, List.set_cons_zero, List.set_cons_succ]
        refine wpList_run (v := .bool s7) (wanted_none rfl) (ix_extract rfl rfl rfl) ?_
        simp only [Act.put, List.setIfInBounds_toArray, List.set_cons_zero, List.set_cons_succ]
        refine wpList_run (v := .slice A7 n7 c7) (wanted_none rfl) (gx_assign rfl rfl) ?_
        simp only [Act.put, List.setIfInBounds_toArray, List.set_cons_zero, List.set_cons_succ]
        refine wpList_run (v := .bool s7) (wanted_none rfl) (gx_assign rfl rfl) ?_
        simp only [Act.put, List.setIfInBounds_toArray, List.set_cons_zero, List.set_cons_succ]
        go_upto_region 18 with fail
        refine wp_region_lit ?_
        refine wpList_run (v := .pointer (some ⟨t2, 0, none⟩)) (wanted_none rfl) (exec_move rfl rfl) ?_
        simp only [Act.put, List.setIfInBounds_toArray, List.set_cons_zero, List.set_cons_succ]
        refine wpList_run (v := .slice (some ⟨b2, o2, none⟩) n2 c2) (wanted_none rfl) (exec_move rfl rfl) ?_
        simp only [Act.put, List.setIfInBounds_toArray, List.set_cons_zero, List.set_cons_succ]
        refine wpList_run (v := .int .i64 (i : Int)) (wanted_none rfl) (exec_move rfl rfl) ?_
        simp only [Act.put, List.setIfInBounds_toArray, List.set_cons_zero, List.set_cons_succ]
        refine wpList_run (v := .pointer (some ⟨b2, o2 + i * 1, none⟩)) (wanted_none rfl) (gx_iaddr (i := i) (sz := 1) rfl rfl rfl Try.underlying51 size_tx HLT.out rfl) ?_
        simp only [Act.put, List.setIfInBounds_toArray, List.set_cons_zero, List.set_cons_succ]
        refine wpList_run (v := strV p) (wanted_none rfl) (exec_load1 rfl rfl (by kernel_rfl) HC7.out) ?_
        simp only [Act.put, List.setIfInBounds_toArray, List.set_cons_zero, List.set_cons_succ]
        refine wpList_op rfl fun K9 HK9 => ?_
        go_wp2_with fail
        refine (HFD2.out).mono ?_
        rintro e w8 ⟨A8, n8, c8, rfl, hn, ho, ht⟩
        refine HK9.out _ _ ?_
        clear HK9
        try simp only [Act.put, List.setIfInBounds_toArray, List.set_cons_zero, List.set_cons_succ]
        have yn8 : n8 ≤ 140737488355328 := by have := HZL.out; omega
        have HTQ8 := Lib.hid (HTQ7.out.trans ht fun _ _ e => e)
        have hin := ints_walk (w := w8) (c := c7) (c2 := c8) (orI (HO7.out.still ht) yn7) (orI ho yn8)
        rw [decide_eq_true rfl] at hin
        have HIN := Lib.hid hin
        clear hn ho ht hin HFD2
        refine wpList_run (v := .tuple #[.slice A8 n8 c8, .bool s7]) (wanted_none rfl) (exec_move rfl rfl) ?_
        simp only [Act.put, List.setIfInBounds_toArray, List.set_cons_zero, List.set_cons_succ]
        refine wpList_run (v := .slice A8 n8 c8) (wanted_none rfl) (ix_extract rfl rfl rfl) ?_
        simp only [Act.put, List.setIfInBounds_toArray, List.set_cons_zero, List.set_cons_succ]
        refine wpList_run (v := .bool s7) (wanted_none rfl) (ix_extract rfl rfl rfl) ?_
        simp only [Act.put, List.setIfInBounds_toArray, List.set_cons_zero, List.set_cons_succ]
        refine wpList_run (v := .slice A8 n8 c8) (wanted_none rfl) (gx_assign rfl rfl) ?_
        simp only [Act.put, List.setIfInBounds_toArray, List.set_cons_zero, List.set_cons_succ]
        refine wpList_run (v := .bool s7) (wanted_none rfl) (gx_assign rfl rfl) ?_
        simp only [Act.put, List.setIfInBounds_toArray, List.set_cons_zero, List.set_cons_succ]
        go_upto_region 19 with fail
        refine wp_region_lit ?_
        refine wpList_run (v := .slice A7 n7 c7) (wanted_none rfl) (exec_move rfl rfl) ?_
        simp only [Act.put, List.setIfInBounds_toArray, List.set_cons_zero, List.set_cons_succ]
        refine wpList_run (v := .slice A8 n8 c8) (wanted_none rfl) (exec_move rfl rfl) ?_
        simp only [Act.put, List.setIfInBounds_toArray, List.set_cons_zero, List.set_cons_succ]
        refine wpList_op rfl fun K9 HK9 => ?_
        go_wp2_with fail
        refine (HIN.out).mono ?_
        rintro e w9 ⟨rfl, ht⟩
        refine HK9.out _ _ ?_
        clear HK9
        try simp only [Act.put, List.setIfInBounds_toArray, List.set_cons_zero, List.set_cons_succ]
        have HTQ9 := Lib.hid (HTQ8.out.trans ht fun _ _ e => e)
        clear ht HIN
        refine wpList_run (v := .bool true) (wanted_none rfl) (exec_move rfl rfl) ?_
        simp only [Act.put, List.setIfInBounds_toArray, List.set_cons_zero, List.set_cons_succ]
        refine wpList_run (v := .bool s7) rfl (exec_move rfl rfl) ?_
        simp only [Act.put, List.setIfInBounds_toArray, List.set_cons_zero, List.set_cons_succ]
        refine wpList_run (v := .bool s7) rfl (exec_move rfl rfl) ?_
        simp only [Act.put, List.setIfInBounds_toArray, List.set_cons_zero, List.set_cons_succ]
        refine wpList_run (v := .bool true) rfl (bx_eqb rfl rfl rfl (by simp) rfl) ?_
        simp only [Act.put, List.setIfInBounds_toArray, List.set_cons_zero, List.set_cons_succ]
        refine wpList_run (v := .bool true) (wanted_none rfl) (ix_pickT rfl rfl rfl) ?_
        simp only [Act.put, List.setIfInBounds_toArray, List.set_cons_zero, List.set_cons_succ]
        refine wpList_run (v := .bool true) (wanted_none rfl) (gx_assign rfl rfl) ?_
        simp only [Act.put, List.setIfInBounds_toArray, List.set_cons_zero, List.set_cons_succ]
        go_upto_region 16 with fail
        refine wp_region_lit ?_
        refine wpList_run (v := .int .i64 (i : Int)) (wanted_none rfl) (exec_move rfl rfl) ?_
        simp only [Act.put, List.setIfInBounds_toArray, List.set_cons_zero, List.set_cons_succ]
        refine wpList_run (v := .int .i64 ((i + 1 : Nat) : Int)) (wanted_none rfl) (ix_add rfl rfl rfl (by omega) (by omega)) ?_
        simp only [Act.put, List.setIfInBounds_toArray, List.set_cons_zero, List.set_cons_succ]
        refine wpList_run (v := .int .i64 ((i + 1 : Nat) : Int)) (wanted_none rfl) (gx_assign rfl rfl) ?_
        simp only [Act.put, List.setIfInBounds_toArray, List.set_cons_zero, List.set_cons_succ]
        go_wp2_with fail
        go_roundg (n2 - (i + 1))
        case measure => have := HGK.out; have := HLT.out; omega
        case rel => exact ⟨i + 1, rfl, rfl, by have := HLT.out; omega, HTQ9.out⟩
      · go_upto_region 15 with fail
        first
        | (rename_i K9 hK9; have HKC := Lib.hid hK9; clear hK9)
        | (rename_i K9 hK9 K8; have HKC := Lib.hid hK9; clear hK9)
        refine wp_region_lit ?_
        refine wpList_run (v := .int .i64 (i : Int)) (wanted_none rfl) (exec_move rfl rfl) ?_
        simp only [Act.put, List.setIfInBounds_toArray, List.set_cons_zero, List.set_cons_succ]
        refine wpList_run (v := .slice A2 n2 c2) (wanted_none rfl) (exec_move rfl rfl) ?_
        simp only [Act.put, List.setIfInBounds_toArray, List.set_cons_zero, List.set_cons_succ]
        refine wpList_run (v := .int .i64 (n2 : Int)) (wanted_none rfl) (gx_len rfl rfl Try.underlying51) ?_
        simp only [Act.put, List.setIfInBounds_toArray, List.set_cons_zero, List.set_cons_succ]
        refine wpList_run (v := .bool false) (wanted_none rfl) (ix_lss rfl rfl rfl (decide_eq_false (by omega))) ?_
        simp only [Act.put, List.setIfInBounds_toArray, List.set_cons_zero, List.set_cons_succ]
        refine wpList_run (v := .bool false) (wanted_none rfl) (exec_move rfl rfl) ?_
        simp only [Act.put, List.setIfInBounds_toArray, List.set_cons_zero, List.set_cons_succ]
        go_wp2_with fail
        refine HKC.out _ _ ?_
        clear HKC
        go_upto_region 20 with fail
        refine wp_region_lit ?_
        refine wpList_run (v := .bool true) (wanted_none rfl) (exec_move rfl rfl) ?_
        simp only [Act.put, List.setIfInBounds_toArray, List.set_cons_zero, List.set_cons_succ]
        refine wpList_run (v := .bool true) (wanted_none rfl) (gx_assign rfl rfl) ?_
        simp only [Act.put, List.setIfInBounds_toArray, List.set_cons_zero, List.set_cons_succ]
        go_wp2_with fail
        go_ret
        exact ⟨rfl, HT6.out.trans HTQ.out fun _ _ e => e⟩
  · obtain ⟨E, hE⟩ : ∃ x : Int, x = if 1 ≤ m ∧ m ≤ 6 then Rt.newE m [] rs else 130 := ⟨_, rfl⟩
    have h0 : E ≠ 0 := by
      rw [hE]
      split
      · exact fun e => he ⟨‹_›, e⟩
      · decide
    have HNE := Lib.hid h0
    have HNW := Lib.hid (HA.out.new_no (m := m) (E := E) (c := c) HU1.out HRM.out (by rw [← HRS.out]; exact hE) h0)
    clear he hE h0
    go_upto_region 2 with fail
    refine wp_region_lit ?_
    refine wpList_run (v := .slice A n c) (wanted_none rfl) (exec_move rfl rfl) ?_
    simp only [Act.put, List.setIfInBounds_toArray, List.set_cons_zero, List.set_cons_succ]
    refine wpList_run (v := .int .i64 m) (wanted_none rfl) (exec_move rfl rfl) ?_
    simp only [Act.put, List.setIfInBounds_toArray, List.set_cons_zero, List.set_cons_succ]
    refine wpList_op rfl fun K9 HK9 => ?_
    go_wp2_with fail
    refine (HNW.out).mono ?_
    rintro e w2 ⟨rfl, ht⟩
    refine HK9.out _ _ ?_
    clear HK9
    try simp only [Act.put, List.setIfInBounds_toArray, List.set_cons_zero, List.set_cons_succ]
    have HT2 := Lib.hid (HT1.out.trans ht fun _ _ e => e)
    clear ht HNW
    refine wpList_run (v := .tuple #[.pointer none, .int .i64 E]) (wanted_none rfl) (exec_move rfl rfl) ?_
    simp only [Act.put, List.setIfInBounds_toArray, List.set_cons_zero, List.set_cons_succ]
    refine wpList_run (v := .pointer none) (wanted_none rfl) (ix_extract rfl rfl rfl) ?_
    simp only [Act.put, List.setIfInBounds_toArray, List.set_cons_zero, List.set_cons_succ]
    refine wpList_run (v := .int .i64 E) (wanted_none rfl) (ix_extract rfl rfl rfl) ?_
    simp only [Act.put, List.setIfInBounds_toArray, List.set_cons_zero, List.set_cons_succ]
    refine wpList_run (v := .pointer none) (wanted_none rfl) (gx_assign rfl rfl) ?_
    simp only [Act.put, List.setIfInBounds_toArray, List.set_cons_zero, List.set_cons_succ]
    refine wpList_run (v := .int .i64 E) (wanted_none rfl) (gx_assign rfl rfl) ?_
    simp only [Act.put, List.setIfInBounds_toArray, List.set_cons_zero, List.set_cons_succ]
    go_upto_region 3 with fail
    refine wp_region_lit ?_
    refine wpList_run (v := .bool true) (wanted_none rfl) (exec_move rfl rfl) ?_
    simp only [Act.put, List.setIfInBounds_toArray, List.set_cons_zero, List.set_cons_succ]
    refine wpList_run (v := .bool false) (wanted_none rfl) (ix_not (b := true) rfl rfl) ?_
    simp only [Act.put, List.setIfInBounds_toArray, List.set_cons_zero, List.set_cons_succ]
    refine wpList_run (v := .bool false) (wanted_none rfl) (exec_move rfl rfl) ?_
    simp only [Act.put, List.setIfInBounds_toArray, List.set_cons_zero, List.set_cons_succ]
    refine wpList_run (v := .int .i64 E) rfl (exec_move rfl rfl) ?_
    simp only [Act.put, List.setIfInBounds_toArray, List.set_cons_zero, List.set_cons_succ]
    refine wpList_run (v := .bool true) rfl (ix_neq rfl rfl rfl (decide_eq_true HNE.out)) ?_
    simp only [Act.put, List.setIfInBounds_toArray, List.set_cons_zero, List.set_cons_succ]
    refine wpList_run (v := .bool true) (wanted_none rfl) (ix_pickF rfl rfl rfl) ?_
    simp only [Act.put, List.setIfInBounds_toArray, List.set_cons_zero, List.set_cons_succ]
    go_upto_region 4 with fail
    refine wp_region_lit ?_
    refine wpList_run (v := .bool true) (wanted_none rfl) (exec_move rfl rfl) ?_
    simp only [Act.put, List.setIfInBounds_toArray, List.set_cons_zero, List.set_cons_succ]
    refine wpList_run (v := .bool true) (wanted_none rfl) (exec_move rfl rfl) ?_
    simp only [Act.put, List.setIfInBounds_toArray, List.set_cons_zero, List.set_cons_succ]
    refine wpList_run (v := .pointer none) rfl (exec_move rfl rfl) ?_
    simp only [Act.put, List.setIfInBounds_toArray, List.set_cons_zero, List.set_cons_succ]
    refine wpList_run (v := .bool true) rfl (ptr_zzR rfl rfl rfl rfl) ?_
    simp only [Act.put, List.setIfInBounds_toArray, List.set_cons_zero, List.set_cons_succ]
    refine wpList_run (v := .bool true) (wanted_none rfl) (ix_pickT rfl rfl rfl) ?_
    simp only [Act.put, List.setIfInBounds_toArray, List.set_cons_zero, List.set_cons_succ]
    refine wpList_run (v := .bool true) (wanted_none rfl) (gx_assign rfl rfl) ?_
    simp only [Act.put, List.setIfInBounds_toArray, List.set_cons_zero, List.set_cons_succ]
    go_wp2_with fail
    go_ret
    exact ⟨rfl, HT2.out⟩
end
end Go.Proofs.Ytihmpbilbnajpaa
