/-
  Ledgers: the order of entries is not seen; payments: the laws' walks. No conditions.
-/
import Derived.Test.YthoefjaapjaeeaaLgO
namespace Go.Proofs.Ythoefjaapjaeeaa
open Go.RowKit
open Lg (Ent)
set_option linter.unusedVariables false
set_option linter.unusedSimpArgs false
theorem ebuild0 (w : World) : (Instr.buildSlice 35 0 #[]).run Try.prog w = .ok (.slice (some ⟨w.heap.size, 0, none⟩) 0 0) (w.alloc (.cells #[] 57)) := by kernel_rfl
theorem rev_step {es : List Ent} {n k : Nat} {e : Ent} (hn : n = es.length) (hk : k < n) (h : es[n - 1 - k]? = some e) : es.reverse.take (k + 1) = es.reverse.take k ++ [e] := by
  refine Lg.take_snoc ?_
  rw [List.getElem?_reverse (by omega), ← hn]
  exact h
set_option maxRecDepth 20000 in
set_option maxHeartbeats 4000000 in
theorem order_walk {w : World} {A1 A2 : Option Addr} {n1 n2 c1 c2 : Nat} {xs ys : List Ent} (h1 : EntAt w A1 n1 xs) (h2 : EntAt w A2 n2 ys) (hc1 : A1 = none → c1 = 0) (hc2 : A2 = none → c2 = 0) (hn1 : n1 ≤ 1048576) (hn2 : n2 ≤ 1048576) : Calls Try.prog 6 #[.slice A1 n1 c1, .slice A2 n2 c2] w fun e w' => e = .returned (.bool true) ∧ Turn nowhere w w' := by
  have HX := Lib.hid h1
  have HY := Lib.hid h2
  have HC1 := Lib.hid hc1
  have HC2 := Lib.hid hc2
  have HN1 := Lib.hid hn1
  have HN2 := Lib.hid hn2
  have HL1 := Lib.hid h1.len
  have HL2 := Lib.hid h2.len
  clear h1 h2 hc1 hc2 hn1 hn2
  go_enter Try.func6, Try.ntmps6
  go_upto_region 0 with fail
  refine wp_region_lit ?_
  refine wpList_run (v := .bool false) (wanted_none rfl) (gx_assign rfl rfl) ?_
  simp only [Act.put, List.setIfInBounds_toArray, List.set_cons_zero, List.set_cons_succ]
  go_upto_region 1 with fail
  refine wp_region_lit ?_
  refine wpList_op rfl fun K9 HK9 => ?_
  go_wp2_with fail
  refine (shown_walk w).mono ?_
  rintro e w1 ⟨rfl, ht⟩
  refine HK9.out _ _ ?_
  clear HK9
  try simp only [Act.put, List.setIfInBounds_toArray, List.set_cons_zero, List.set_cons_succ]
  have HT1 := Lib.hid ht
  clear ht
  refine wpList_run (v := .bool true) (wanted_none rfl) (gx_assign rfl rfl) ?_
  simp only [Act.put, List.setIfInBounds_toArray, List.set_cons_zero, List.set_cons_succ]
  go_upto_region 2 with fail
  refine wp_region_lit ?_
  refine wpList_op rfl fun K9 HK9 => ?_
  go_wp2_with fail
  refine (New_ok (n := 4) (by decide)).mono ?_
  rintro e w2 ⟨p, rfl, hp, hpl, ht⟩
  refine HK9.out _ _ ?_
  clear HK9
  try simp only [Act.put, List.setIfInBounds_toArray, List.set_cons_zero, List.set_cons_succ]
  have HP2 := Lib.hid hp
  have HPL := Lib.hid (show w.heap.size ≤ p from Nat.le_trans HT1.out.size hpl)
  have HT2 := Lib.hid (HT1.out.trans ht fun _ _ e => e)
  clear hp hpl ht
  refine wpList_run (v := .tuple #[.pointer (some ⟨p, 0, none⟩), .int .i64 0]) (wanted_none rfl) (exec_move rfl rfl) ?_
  simp only [Act.put, List.setIfInBounds_toArray, List.set_cons_zero, List.set_cons_succ]
  refine wpList_run (v := .pointer (some ⟨p, 0, none⟩)) (wanted_none rfl) (ix_extract rfl rfl rfl) ?_
  simp only [Act.put, List.setIfInBounds_toArray, List.set_cons_zero, List.set_cons_succ]
  refine wpList_run (v := .int .i64 0) (wanted_none rfl) (ix_extract rfl rfl rfl) ?_
  simp only [Act.put, List.setIfInBounds_toArray, List.set_cons_zero, List.set_cons_succ]
  refine wpList_run (v := .pointer (some ⟨p, 0, none⟩)) (wanted_none rfl) (gx_assign rfl rfl) ?_
  simp only [Act.put, List.setIfInBounds_toArray, List.set_cons_zero, List.set_cons_succ]
  refine wpList_run (v := .int .i64 0) (wanted_none rfl) (gx_assign rfl rfl) ?_
  simp only [Act.put, List.setIfInBounds_toArray, List.set_cons_zero, List.set_cons_succ]
  go_upto_region 3 with fail
  refine wp_region_lit ?_
  refine wpList_op rfl fun K9 HK9 => ?_
  go_wp2_with fail
  refine (New_ok (n := 4) (by decide)).mono ?_
  rintro e w3 ⟨y, rfl, hy, hyl, ht⟩
  refine HK9.out _ _ ?_
  clear HK9
  try simp only [Act.put, List.setIfInBounds_toArray, List.set_cons_zero, List.set_cons_succ]
  have HNyp := Lib.hid (show y ≠ p from by have := HP2.out.blk.lt; omega)
  have HY3 := Lib.hid hy
  have HYL := Lib.hid (show w.heap.size ≤ y from Nat.le_trans HT2.out.size hyl)
  have HP3 := Lib.hid (HP2.out.still ht)
  have HT3 := Lib.hid (HT2.out.trans ht fun _ _ e => e)
  clear hy hyl ht
  refine wpList_run (v := .tuple #[.pointer (some ⟨y, 0, none⟩), .int .i64 0]) (wanted_none rfl) (exec_move rfl rfl) ?_
  simp only [Act.put, List.setIfInBounds_toArray, List.set_cons_zero, List.set_cons_succ]
  refine wpList_run (v := .pointer (some ⟨y, 0, none⟩)) (wanted_none rfl) (ix_extract rfl rfl rfl) ?_
  simp only [Act.put, List.setIfInBounds_toArray, List.set_cons_zero, List.set_cons_succ]
  refine wpList_run (v := .int .i64 0) (wanted_none rfl) (ix_extract rfl rfl rfl) ?_
  simp only [Act.put, List.setIfInBounds_toArray, List.set_cons_zero, List.set_cons_succ]
  refine wpList_run (v := .pointer (some ⟨y, 0, none⟩)) (wanted_none rfl) (gx_assign rfl rfl) ?_
  simp only [Act.put, List.setIfInBounds_toArray, List.set_cons_zero, List.set_cons_succ]
  refine wpList_run (v := .int .i64 0) (wanted_none rfl) (gx_assign rfl rfl) ?_
  simp only [Act.put, List.setIfInBounds_toArray, List.set_cons_zero, List.set_cons_succ]
  go_upto_region 4 with fail
  refine wp_region_lit ?_
  refine wpList_run (v := .bool true) (wanted_none rfl) (exec_move rfl rfl) ?_
  simp only [Act.put, List.setIfInBounds_toArray, List.set_cons_zero, List.set_cons_succ]
  refine wpList_run (v := .bool false) (wanted_none rfl) (ix_not (b := true) rfl rfl) ?_
  simp only [Act.put, List.setIfInBounds_toArray, List.set_cons_zero, List.set_cons_succ]
  refine wpList_run (v := .bool false) (wanted_none rfl) (exec_move rfl rfl) ?_
  simp only [Act.put, List.setIfInBounds_toArray, List.set_cons_zero, List.set_cons_succ]
  refine wpList_run (v := .pointer (some ⟨p, 0, none⟩)) rfl (exec_move rfl rfl) ?_
  simp only [Act.put, List.setIfInBounds_toArray, List.set_cons_zero, List.set_cons_succ]
  refine wpList_run (v := .bool false) rfl (ptr_eqn (by decide) rfl rfl rfl) ?_
  simp only [Act.put, List.setIfInBounds_toArray, List.set_cons_zero, List.set_cons_succ]
  refine wpList_run (v := .bool false) (wanted_none rfl) (ix_pickF rfl rfl rfl) ?_
  simp only [Act.put, List.setIfInBounds_toArray, List.set_cons_zero, List.set_cons_succ]
  refine wpList_run (v := .bool false) (wanted_none rfl) (exec_move rfl rfl) ?_
  simp only [Act.put, List.setIfInBounds_toArray, List.set_cons_zero, List.set_cons_succ]
  refine wpList_run (v := .pointer (some ⟨y, 0, none⟩)) rfl (exec_move rfl rfl) ?_
  simp only [Act.put, List.setIfInBounds_toArray, List.set_cons_zero, List.set_cons_succ]
  refine wpList_run (v := .bool false) rfl (ptr_eqn (by decide) rfl rfl rfl) ?_
  simp only [Act.put, List.setIfInBounds_toArray, List.set_cons_zero, List.set_cons_succ]
  refine wpList_run (v := .bool false) (wanted_none rfl) (ix_pickF rfl rfl rfl) ?_
  simp only [Act.put, List.setIfInBounds_toArray, List.set_cons_zero, List.set_cons_succ]
  refine wpList_run (v := .bool false) (wanted_none rfl) (exec_move rfl rfl) ?_
  simp only [Act.put, List.setIfInBounds_toArray, List.set_cons_zero, List.set_cons_succ]
  refine wpList_run (v := .int .i64 0) rfl (exec_move rfl rfl) ?_
  simp only [Act.put, List.setIfInBounds_toArray, List.set_cons_zero, List.set_cons_succ]
  refine wpList_run (v := .bool false) rfl (ix_neq rfl rfl rfl (by decide)) ?_
  simp only [Act.put, List.setIfInBounds_toArray, List.set_cons_zero, List.set_cons_succ]
  refine wpList_run (v := .bool false) (wanted_none rfl) (ix_pickF rfl rfl rfl) ?_
  simp only [Act.put, List.setIfInBounds_toArray, List.set_cons_zero, List.set_cons_succ]
  refine wpList_run (v := .bool false) (wanted_none rfl) (exec_move rfl rfl) ?_
  simp only [Act.put, List.setIfInBounds_toArray, List.set_cons_zero, List.set_cons_succ]
  refine wpList_run (v := .int .i64 0) rfl (exec_move rfl rfl) ?_
  simp only [Act.put, List.setIfInBounds_toArray, List.set_cons_zero, List.set_cons_succ]
  refine wpList_run (v := .bool false) rfl (ix_neq rfl rfl rfl (by decide)) ?_
  simp only [Act.put, List.setIfInBounds_toArray, List.set_cons_zero, List.set_cons_succ]
  refine wpList_run (v := .bool false) (wanted_none rfl) (ix_pickF rfl rfl rfl) ?_
  simp only [Act.put, List.setIfInBounds_toArray, List.set_cons_zero, List.set_cons_succ]
  go_upto_region 6 with fail
  refine wp_region_lit ?_
  refine wpList_run (v := .pointer (some ⟨p, 0, none⟩)) (wanted_none rfl) (exec_move rfl rfl) ?_
  simp only [Act.put, List.setIfInBounds_toArray, List.set_cons_zero, List.set_cons_succ]
  refine wpList_run (v := .slice A1 n1 c1) (wanted_none rfl) (exec_move rfl rfl) ?_
  simp only [Act.put, List.setIfInBounds_toArray, List.set_cons_zero, List.set_cons_succ]
  refine wpList_op rfl fun K9 HK9 => ?_
  go_wp2_with fail
  refine (Post_walk HP3.out (HX.out.still HT3.out) (by have := HN1.out; omega)).mono ?_
  rintro e w4 ⟨rfl, hp, ht⟩
  refine HK9.out _ _ ?_
  clear HK9
  try simp only [Act.put, List.setIfInBounds_toArray, List.set_cons_zero, List.set_cons_succ]
  obtain ⟨E1, hE1⟩ : ∃ x, x = Lg.postE 4 (fun _ => 0) xs := ⟨_, rfl⟩
  obtain ⟨b1, hb1⟩ : ∃ x, x = Lg.postB 4 (fun _ => 0) xs := ⟨_, rfl⟩
  rw [← hE1]
  rw [← hb1] at hp
  have HE1 := Lib.hid hE1
  have HB1 := Lib.hid hb1
  have HP4 := Lib.hid hp
  have HY4 := Lib.hid (HY3.out.turn ht fun e => HNyp.out e)
  have HT4 := Lib.hid (HT3.out.newer HPL.out ht)
  clear hp ht hE1 hb1
  refine wpList_run (v := .int .i64 E1) (wanted_none rfl) (gx_assign rfl rfl) ?_
  simp only [Act.put, List.setIfInBounds_toArray, List.set_cons_zero, List.set_cons_succ]
  go_upto_region 7 with fail
  refine wp_region_lit ?_
  refine wpList_run (v := .pointer (some ⟨p, 0, none⟩)) (wanted_none rfl) (exec_move rfl rfl) ?_
  simp only [Act.put, List.setIfInBounds_toArray, List.set_cons_zero, List.set_cons_succ]
  refine wpList_run (v := .slice A2 n2 c2) (wanted_none rfl) (exec_move rfl rfl) ?_
  simp only [Act.put, List.setIfInBounds_toArray, List.set_cons_zero, List.set_cons_succ]
  refine wpList_op rfl fun K9 HK9 => ?_
  go_wp2_with fail
  refine (Post_walk HP4.out (HY.out.still HT4.out) (by have := HN2.out; omega)).mono ?_
  rintro e w5 ⟨rfl, hp, ht⟩
  refine HK9.out _ _ ?_
  clear HK9
  try simp only [Act.put, List.setIfInBounds_toArray, List.set_cons_zero, List.set_cons_succ]
  obtain ⟨E2, hE2⟩ : ∃ x, x = Lg.postE 4 b1 ys := ⟨_, rfl⟩
  obtain ⟨b2, hb2⟩ : ∃ x, x = Lg.postB 4 b1 ys := ⟨_, rfl⟩
  rw [← hE2]
  rw [← hb2] at hp
  have HE2 := Lib.hid hE2
  have HB2 := Lib.hid hb2
  have HP5 := Lib.hid hp
  have HY5 := Lib.hid (HY4.out.turn ht fun e => HNyp.out e)
  have HT5 := Lib.hid (HT4.out.newer HPL.out ht)
  clear hp ht hE2 hb2
  refine wpList_run (v := .int .i64 E2) (wanted_none rfl) (gx_assign rfl rfl) ?_
  simp only [Act.put, List.setIfInBounds_toArray, List.set_cons_zero, List.set_cons_succ]
  by_cases he1 : E1 = 0
  · have H1 := Lib.hid he1
    clear he1
    by_cases he2 : E2 = 0
    · have H2 := Lib.hid he2
      clear he2
      go_upto_region 8 with fail
      refine wp_region_lit ?_
      refine wpList_run (v := .int .i64 E1) (wanted_none rfl) (exec_move rfl rfl) ?_
      simp only [Act.put, List.setIfInBounds_toArray, List.set_cons_zero, List.set_cons_succ]
      refine wpList_run (v := .bool false) (wanted_none rfl) (ix_neq rfl rfl rfl (by rw [H1.out]; rfl)) ?_
      simp only [Act.put, List.setIfInBounds_toArray, List.set_cons_zero, List.set_cons_succ]
      refine wpList_run (v := .bool false) (wanted_none rfl) (exec_move rfl rfl) ?_
      simp only [Act.put, List.setIfInBounds_toArray, List.set_cons_zero, List.set_cons_succ]
      refine wpList_run (v := .int .i64 E2) rfl (exec_move rfl rfl) ?_
      simp only [Act.put, List.setIfInBounds_toArray, List.set_cons_zero, List.set_cons_succ]
      refine wpList_run (v := .bool false) rfl (ix_neq rfl rfl rfl (by rw [H2.out]; rfl)) ?_
      simp only [Act.put, List.setIfInBounds_toArray, List.set_cons_zero, List.set_cons_succ]
      refine wpList_run (v := .bool false) (wanted_none rfl) (ix_pickF rfl rfl rfl) ?_
      simp only [Act.put, List.setIfInBounds_toArray, List.set_cons_zero, List.set_cons_succ]
      have HORD := Lib.hid (Lg.order (by rw [← HE1.out]; exact H1.out) (by rw [← HB1.out, ← HE2.out]; exact H2.out) : Lg.postE 4 (fun _ => 0) (xs ++ ys).reverse = 0 ∧ Lg.postB 4 (fun _ => 0) (xs ++ ys).reverse = Lg.postB 4 (Lg.postB 4 (fun _ => 0) xs) ys)
      have HORB := Lib.hid (show Lg.postB 4 (fun _ => 0) (xs ++ ys).reverse = b2 from by rw [HORD.out.2, ← HB1.out]; exact HB2.out.symm)
      obtain ⟨A6, c6, w6, ha6, ho6, ht6⟩ := copy_rws elmE (w := w5) (c := c1) (ty := 35) (HX.out.still HT5.out).row (fitE_ xs) HC1.out (by have := HN1.out; omega)
      obtain ⟨A7, c7, w7, ha7, ho7, ht7⟩ := orw_more elmE (c := c2) (ty := 35) (W1 := w5) ho6 ht6 ((HY.out.still HT5.out).still ht6).row (fitE_ ys) HC2.out (by rw [List.length_map]; have := HN1.out; have := HN2.out; have := HL1.out; omega)
      rw [List.length_map, ← HL1.out] at ha7 ho7
      rw [← List.map_append] at ho7
      have HA6 := Lib.hid ha6
      have HA7 := Lib.hid ha7
      have HO7 := Lib.hid ho7
      have HT7 := Lib.hid (HT5.out.trans ht7 fun _ _ e => e)
      have HP7 := Lib.hid (HP5.out.still ht7)
      have HY7 := Lib.hid (HY5.out.still ht7)
      clear ha6 ha7 ho6 ho7 ht6 ht7
      go_upto_region 10 with fail
      refine wp_region_lit ?_
      refine wpList_run (v := .slice (some ⟨w5.heap.size, 0, none⟩) 0 0) (w' := w5.alloc (.cells #[] 57)) (wanted_none rfl) (bx_slice0 rfl (ebuild0 w5)) ?_
      simp only [Act.put, List.setIfInBounds_toArray, List.set_cons_zero, List.set_cons_succ]
      refine wpList_run (v := .slice A1 n1 c1) (wanted_none rfl) (exec_move rfl rfl) ?_
      simp only [Act.put, List.setIfInBounds_toArray, List.set_cons_zero, List.set_cons_succ]
      refine wpList_run (v := .slice A6 n1 c6) (w' := w6) (wanted_none rfl) (exec_append rfl rfl rfl HA6.out) ?_
      simp only [Act.put, List.setIfInBounds_toArray, List.set_cons_zero, List.set_cons_succ]
      refine wpList_run (v := .slice A2 n2 c2) (wanted_none rfl) (exec_move rfl rfl) ?_
      simp only [Act.put, List.setIfInBounds_toArray, List.set_cons_zero, List.set_cons_succ]
      refine wpList_run (v := .slice A7 (n1 + n2) c7) (w' := w7) (wanted_none rfl) (exec_append rfl rfl rfl HA7.out) ?_
      simp only [Act.put, List.setIfInBounds_toArray, List.set_cons_zero, List.set_cons_succ]
      refine wpList_run (v := .slice A7 (n1 + n2) c7) (wanted_none rfl) (gx_assign rfl rfl) ?_
      simp only [Act.put, List.setIfInBounds_toArray, List.set_cons_zero, List.set_cons_succ]
      obtain ⟨al, hal⟩ : ∃ x, x = xs ++ ys := ⟨_, rfl⟩
      rw [← hal] at HO7 HORD HORB
      have HWF := Lib.hid (show ∀ e ∈ al, Mn.in64 e.1 ∧ Mn.in64 e.2 from fun e he => by
        rw [hal] at he
        rcases List.mem_append.1 he with he | he
        · exact HX.out.wf e he
        · exact HY.out.wf e he)
      obtain ⟨m, hm⟩ : ∃ m, m = n1 + n2 := ⟨_, rfl⟩
      rw [← hm] at HO7 ⊢
      have HML := Lib.hid (show m = al.length from by rw [hal, List.length_append, ← HL1.out, ← HL2.out]; exact hm)
      have HMB := Lib.hid (show m ≤ 2097152 from by have := HN1.out; have := HN2.out; omega)
      have ym : (m : Int) ≤ 2097152 := by have := HN1.out; have := HN2.out; omega
      have HAL := Lib.hid (EntAt.of_orw HO7.out HWF.out (by rw [← HML.out]; have := HMB.out; omega))
      clear hal hm HA6 HA7
      have hb8 := (Turn.refl nowhere w7).alloc (.cells #[] 57)
      have hown8 : Orw (w7.alloc (.cells #[] 57)) w7.heap.size 57 2 (.slice (some ⟨w7.heap.size, 0, none⟩) 0 0) [] := ⟨Fit.nil 2, World.ownsRow_made w7 #[] 0 (Nat.le_refl _) (by decide) (by simp)⟩
      go_upto_region 11 with fail
      refine wp_region_lit ?_
      refine wpList_run (v := .slice (some ⟨w7.heap.size, 0, none⟩) 0 0) (w' := w7.alloc (.cells #[] 57)) (wanted_none rfl) (bx_slice0 rfl (ebuild0 w7)) ?_
      simp only [Act.put, List.setIfInBounds_toArray, List.set_cons_zero, List.set_cons_succ]
      have HOW8 := Lib.hid hown8
      have HT78 := Lib.hid hb8
      clear hown8 hb8
      obtain ⟨g8, hg8⟩ : ∃ g, g = w7.heap.size := ⟨_, rfl⟩
      rw [← hg8] at HOW8 ⊢
      have HG8 := Lib.hid hg8
      clear hg8
      generalize w7.alloc (.cells #[] 57) = w8 at *
      refine wpList_run (v := .slice (some ⟨g8, 0, none⟩) 0 0) (wanted_none rfl) (gx_assign rfl rfl) ?_
      simp only [Act.put, List.setIfInBounds_toArray, List.set_cons_zero, List.set_cons_succ]
      go_upto_region 12 with fail
      refine wp_region_lit ?_
      refine wpList_run (v := .slice A7 m c7) (wanted_none rfl) (exec_move rfl rfl) ?_
      simp only [Act.put, List.setIfInBounds_toArray, List.set_cons_zero, List.set_cons_succ]
      refine wpList_run (v := .int .i64 (m : Int)) (wanted_none rfl) (gx_len rfl rfl Try.underlying35) ?_
      simp only [Act.put, List.setIfInBounds_toArray, List.set_cons_zero, List.set_cons_succ]
      refine wpList_run (v := .int .i64 ((m : Int) - 1)) (wanted_none rfl) (ix_sub rfl rfl rfl rfl (by omega)) ?_
      simp only [Act.put, List.setIfInBounds_toArray, List.set_cons_zero, List.set_cons_succ]
      refine wpList_run (v := .int .i64 ((m : Int) - 1)) (wanted_none rfl) (gx_assign rfl rfl) ?_
      simp only [Act.put, List.setIfInBounds_toArray, List.set_cons_zero, List.set_cons_succ]
      go_wp2_with fail
      go_loopg [13, 14] m (fun gk tv iv wr => ∃ (k : Nat) (x : Int), iv = .int .i64 x ∧ x = (m : Int) - 1 - (k : Int) ∧ k + gk = m ∧ Orw wr g8 57 2 tv ((al.reverse.take k).map entC) ∧ Turn nowhere w7 wr)
      case atStart => exact ⟨0, _, rfl, by omega, by omega, HOW8.out, HT78.out⟩
      obtain ⟨k, x, rfl, hx, hgk, hor, htr⟩ := hrel
      have HX9 := Lib.hid hx
      have HGK := Lib.hid hgk
      have HOR := Lib.hid hor
      have HTR := Lib.hid htr
      have yx1 : -1 ≤ x := by omega
      have yx2 : x ≤ 2097152 := by omega
      obtain ⟨A9, c9, rfl, _⟩ := hor.form
      clear hx hgk hor htr
      obtain ⟨m9, hm9⟩ : ∃ x, x = ((al.reverse.take k).map entC).length := ⟨_, rfl⟩
      rw [← hm9] at HOR ⊢
      have HM9 := Lib.hid hm9
      clear hm9
      by_cases hlt : 0 ≤ x
      · obtain ⟨i, rfl⟩ := Int.eq_ofNat_of_zero_le hlt
        have hkm : k < m := by have := HX9.out; omega
        have hik : i = m - 1 - k := by have := HX9.out; omega
        have hi : i < m := by omega
        obtain ⟨e, hei⟩ := ent_some HML.out hi
        have HST := Lib.hid (rev_step HML.out hkm (by rw [← hik]; exact hei))
        have HIM := Lib.hid hi
        have HKM := Lib.hid hkm
        obtain ⟨b9, o9, e9, _⟩ := HAL.out.rng hei
        subst e9
        have HR := Lib.hid ((HAL.out.still HTR.out).rngw hei)
        have HM9b := Lib.hid (show m9 ≤ 2097152 from by rw [HM9.out, List.length_map]; have := List.length_take_le k al.reverse; have := HMB.out; omega)
        have yi : 0 ≤ (i : Int) := by omega
        clear hlt hkm hik hi hei
        obtain ⟨Aa, ca, wa, haa, hoa, hta⟩ := orw_add elmE (ty := 35) (W1 := w7) (by rw [← HG8.out]; exact HOR.out) HTR.out (entC e) rfl (entC_one e) (by rw [← HM9.out]; have := HM9b.out; omega)
        rw [← HM9.out] at haa hoa
        rw [show ((al.reverse.take k).map entC ++ [entC e]) = (al.reverse.take (k + 1)).map entC from by rw [HST.out, List.map_append]; rfl, ← HG8.out] at hoa
        have HAA := Lib.hid haa
        have HOA := Lib.hid hoa
        have HTA := Lib.hid hta
        clear haa hoa hta
        go_upto_region 13 with fail
        refine wp_region_lit ?_
        refine wpList_run (v := .int .i64 (i : Int)) (wanted_none rfl) (exec_move rfl rfl) ?_
        simp only [Act.put, List.setIfInBounds_toArray, List.set_cons_zero, List.set_cons_succ]
        refine wpList_run (v := .bool true) (wanted_none rfl) (ix_geq rfl rfl rfl (decide_eq_true yi)) ?_
        simp only [Act.put, List.setIfInBounds_toArray, List.set_cons_zero, List.set_cons_succ]
        go_upto_region 15 with fail
        refine wp_region_lit ?_
        refine wpList_run (v := .slice A9 m9 c9) (wanted_none rfl) (exec_move rfl rfl) ?_
        simp only [Act.put, List.setIfInBounds_toArray, List.set_cons_zero, List.set_cons_succ]
        refine wpList_run (v := .slice (some ⟨b9, o9, none⟩) m c7) (wanted_none rfl) (exec_move rfl rfl) ?_
        simp only [Act.put, List.setIfInBounds_toArray, List.set_cons_zero, List.set_cons_succ]
        refine wpList_run (v := .int .i64 (i : Int)) (wanted_none rfl) (exec_move rfl rfl) ?_
        simp only [Act.put, List.setIfInBounds_toArray, List.set_cons_zero, List.set_cons_succ]
        refine wpList_run (v := .pointer (some ⟨b9, o9 + i * 2, none⟩)) (wanted_none rfl) (gx_iaddr (i := i) (sz := 2) rfl rfl rfl Try.underlying35 size_ent HIM.out rfl) ?_
        simp only [Act.put, List.setIfInBounds_toArray, List.set_cons_zero, List.set_cons_succ]
        refine wpList_run (v := .agg (entA e)) (wanted_none rfl) (gx_loads rfl rfl HR.out Try.underlying57 rfl (by rw [size_ent]; rfl)) ?_
        simp only [Act.put, List.setIfInBounds_toArray, List.set_cons_zero, List.set_cons_succ]
        refine wpList_run (v := .slice (some ⟨wr.heap.size, 0, none⟩) 1 1) (w' := wr.alloc (.cells (entA e) 57)) (wanted_none rfl) (exec_buildSlice1 rfl rfl (run_bs1 e wr)) ?_
        simp only [Act.put, List.setIfInBounds_toArray, List.set_cons_zero, List.set_cons_succ]
        refine wpList_run (v := .slice Aa (m9 + 1) ca) (w' := wa) (wanted_none rfl) (exec_append rfl rfl rfl HAA.out) ?_
        simp only [Act.put, List.setIfInBounds_toArray, List.set_cons_zero, List.set_cons_succ]
        refine wpList_run (v := .slice Aa (m9 + 1) ca) (wanted_none rfl) (gx_assign rfl rfl) ?_
        simp only [Act.put, List.setIfInBounds_toArray, List.set_cons_zero, List.set_cons_succ]
        go_upto_region 14 with fail
        refine wp_region_lit ?_
        refine wpList_run (v := .int .i64 (i : Int)) (wanted_none rfl) (exec_move rfl rfl) ?_
        simp only [Act.put, List.setIfInBounds_toArray, List.set_cons_zero, List.set_cons_succ]
        refine wpList_run (v := .int .i64 ((i : Int) - 1)) (wanted_none rfl) (ix_sub rfl rfl rfl rfl (by omega)) ?_
        simp only [Act.put, List.setIfInBounds_toArray, List.set_cons_zero, List.set_cons_succ]
        refine wpList_run (v := .int .i64 ((i : Int) - 1)) (wanted_none rfl) (gx_assign rfl rfl) ?_
        simp only [Act.put, List.setIfInBounds_toArray, List.set_cons_zero, List.set_cons_succ]
        go_wp2_with fail
        go_roundg (m - (k + 1))
        case measure => have := HGK.out; have := HKM.out; omega
        case rel => exact ⟨k + 1, (i : Int) - 1, rfl, by have := HX9.out; omega, by have := HKM.out; omega, HOA.out, HTA.out⟩
      · obtain rfl : k = m := by have := HX9.out; have := HGK.out; omega
        have htk : al.reverse.take k = al.reverse := List.take_of_length_le (by rw [List.length_reverse, ← HML.out]; exact Nat.le_refl _)
        rw [htk] at HOR HM9
        have hm9k : m9 = k := by rw [HM9.out, List.length_map, List.length_reverse, ← HML.out]
        subst hm9k
        have HREV := Lib.hid (show EntAt wr A9 m9 al.reverse from EntAt.of_orw HOR.out (fun e he => HWF.out e (List.mem_reverse.1 he)) (by rw [List.length_reverse, ← HML.out]; have := HMB.out; omega))
        clear hlt htk HM9 HOR
        have HP9 := Lib.hid (HP7.out.still HTR.out)
        have HT9 := Lib.hid (HT7.out.trans HTR.out fun _ _ e => e)
        have yx3 : ¬ 0 ≤ x := by have := HX9.out; omega
        go_upto_region 13 with fail
        refine wp_region_lit ?_
        refine wpList_run (v := .int .i64 x) (wanted_none rfl) (exec_move rfl rfl) ?_
        simp only [Act.put, List.setIfInBounds_toArray, List.set_cons_zero, List.set_cons_succ]
        refine wpList_run (v := .bool false) (wanted_none rfl) (ix_geq rfl rfl rfl (decide_eq_false yx3)) ?_
        simp only [Act.put, List.setIfInBounds_toArray, List.set_cons_zero, List.set_cons_succ]
        go_upto_region 16 with fail
        refine wp_region_lit ?_
        refine wpList_run (v := .pointer (some ⟨y, 0, none⟩)) (wanted_none rfl) (exec_move rfl rfl) ?_
        simp only [Act.put, List.setIfInBounds_toArray, List.set_cons_zero, List.set_cons_succ]
        refine wpList_run (v := .slice A9 m9 c9) (wanted_none rfl) (exec_move rfl rfl) ?_
        simp only [Act.put, List.setIfInBounds_toArray, List.set_cons_zero, List.set_cons_succ]
        refine wpList_op rfl fun K9 HK9 => ?_
        go_wp2_with fail
        refine (Post_is (E := 0) (g := b2) (HY7.out.still HTR.out) HREV.out (by have := HMB.out; omega) HORD.out.1 HORB.out).mono ?_
        rintro e w9 ⟨rfl, hy, ht⟩
        refine HK9.out _ _ ?_
        clear HK9
        try simp only [Act.put, List.setIfInBounds_toArray, List.set_cons_zero, List.set_cons_succ]
        have HYz := Lib.hid hy
        have HPz := Lib.hid (HP9.out.turn ht fun e => HNyp.out (show p = y from e).symm)
        have HTz := Lib.hid (HT9.out.newer HYL.out ht)
        clear hy ht HP9 HT9 HREV
        refine wpList_run (v := .int .i64 0) (wanted_none rfl) (gx_assign rfl rfl) ?_
        simp only [Act.put, List.setIfInBounds_toArray, List.set_cons_zero, List.set_cons_succ]
        go_upto_region 17 with fail
        refine wp_region_lit ?_
        refine wpList_run (v := .int .i64 0) (wanted_none rfl) (exec_move rfl rfl) ?_
        simp only [Act.put, List.setIfInBounds_toArray, List.set_cons_zero, List.set_cons_succ]
        refine wpList_run (v := .bool false) (wanted_none rfl) (ix_neq rfl rfl rfl (by decide)) ?_
        simp only [Act.put, List.setIfInBounds_toArray, List.set_cons_zero, List.set_cons_succ]
        go_upto_region 19 with fail
        refine wp_region_lit ?_
        refine wpList_run (v := .int .i64 0) (wanted_none rfl) (gx_assign rfl rfl) ?_
        simp only [Act.put, List.setIfInBounds_toArray, List.set_cons_zero, List.set_cons_succ]
        obtain ⟨wz, hwz⟩ : ∃ z, z = w9 := ⟨_, rfl⟩
        rw [← hwz] at HYz HPz HTz ⊢
        clear hwz
        go_wp2_with fail
        go_loopg [16] 4 (fun gk iv wr => ∃ a : Nat, iv = .int .i64 (a : Int) ∧ a + gk = 4 ∧ wr = wz)
        case atStart => exact ⟨0, rfl, by omega, rfl⟩
        obtain ⟨a, rfl, hga, rfl⟩ := hrel
        have HGA := Lib.hid hga
        have ya : (a : Int) ≤ 4 := by omega
        clear hga
        by_cases hlt : a < 4
        · have HLA := Lib.hid hlt
          have HV := Lib.hid (bal_at 4 b2 hlt)
          have y3 : (a : Int) < 4 := by omega
          clear hlt
          go_upto_region 20 with fail
          refine wp_region_lit ?_
          refine wpList_run (v := .int .i64 (a : Int)) (wanted_none rfl) (exec_move rfl rfl) ?_
          simp only [Act.put, List.setIfInBounds_toArray, List.set_cons_zero, List.set_cons_succ]
          refine wpList_run (v := .bool true) (wanted_none rfl) (ix_lss rfl rfl rfl (decide_eq_true y3)) ?_
          simp only [Act.put, List.setIfInBounds_toArray, List.set_cons_zero, List.set_cons_succ]
          go_upto_region 22 with fail
          refine wp_region_lit ?_
          refine wpList_run (v := .pointer (some ⟨p, 0, none⟩)) (wanted_none rfl) (exec_move rfl rfl) ?_
          simp only [Act.put, List.setIfInBounds_toArray, List.set_cons_zero, List.set_cons_succ]
          refine wpList_run (v := .int .i64 (a : Int)) (wanted_none rfl) (exec_move rfl rfl) ?_
          simp only [Act.put, List.setIfInBounds_toArray, List.set_cons_zero, List.set_cons_succ]
          refine wpList_op rfl fun K9 HK9 => ?_
          go_wp2_with fail
          refine (Balance_walk (b := b2) (by have := HPz.out; exact this)).mono ?_
          rintro e wr ⟨rfl, rfl⟩
          refine HK9.out _ _ ?_
          clear HK9
          try simp only [Act.put, List.setIfInBounds_toArray, List.set_cons_zero, List.set_cons_succ]
          rw [HV.out.1, HV.out.2]
          refine wpList_run (v := .tuple #[.int .i64 (b2 a), .int .i64 0]) (wanted_none rfl) (exec_move rfl rfl) ?_
          simp only [Act.put, List.setIfInBounds_toArray, List.set_cons_zero, List.set_cons_succ]
          refine wpList_run (v := .int .i64 (b2 a)) (wanted_none rfl) (ix_extract rfl rfl rfl) ?_
          simp only [Act.put, List.setIfInBounds_toArray, List.set_cons_zero, List.set_cons_succ]
          refine wpList_run (v := .int .i64 0) (wanted_none rfl) (ix_extract rfl rfl rfl) ?_
          simp only [Act.put, List.setIfInBounds_toArray, List.set_cons_zero, List.set_cons_succ]
          refine wpList_run (v := .int .i64 (b2 a)) (wanted_none rfl) (gx_assign rfl rfl) ?_
          simp only [Act.put, List.setIfInBounds_toArray, List.set_cons_zero, List.set_cons_succ]
          refine wpList_run (v := .int .i64 0) (wanted_none rfl) (gx_assign rfl rfl) ?_
          simp only [Act.put, List.setIfInBounds_toArray, List.set_cons_zero, List.set_cons_succ]
          go_upto_region 23 with fail
          refine wp_region_lit ?_
          refine wpList_run (v := .pointer (some ⟨y, 0, none⟩)) (wanted_none rfl) (exec_move rfl rfl) ?_
          simp only [Act.put, List.setIfInBounds_toArray, List.set_cons_zero, List.set_cons_succ]
          refine wpList_run (v := .int .i64 (a : Int)) (wanted_none rfl) (exec_move rfl rfl) ?_
          simp only [Act.put, List.setIfInBounds_toArray, List.set_cons_zero, List.set_cons_succ]
          refine wpList_op rfl fun K9 HK9 => ?_
          go_wp2_with fail
          refine (Balance_walk HYz.out).mono ?_
          rintro e wr ⟨rfl, rfl⟩
          refine HK9.out _ _ ?_
          clear HK9
          try simp only [Act.put, List.setIfInBounds_toArray, List.set_cons_zero, List.set_cons_succ]
          rw [HV.out.1, HV.out.2]
          refine wpList_run (v := .tuple #[.int .i64 (b2 a), .int .i64 0]) (wanted_none rfl) (exec_move rfl rfl) ?_
          simp only [Act.put, List.setIfInBounds_toArray, List.set_cons_zero, List.set_cons_succ]
          refine wpList_run (v := .int .i64 (b2 a)) (wanted_none rfl) (ix_extract rfl rfl rfl) ?_
          simp only [Act.put, List.setIfInBounds_toArray, List.set_cons_zero, List.set_cons_succ]
          refine wpList_run (v := .int .i64 0) (wanted_none rfl) (ix_extract rfl rfl rfl) ?_
          simp only [Act.put, List.setIfInBounds_toArray, List.set_cons_zero, List.set_cons_succ]
          refine wpList_run (v := .int .i64 (b2 a)) (wanted_none rfl) (gx_assign rfl rfl) ?_
          simp only [Act.put, List.setIfInBounds_toArray, List.set_cons_zero, List.set_cons_succ]
          refine wpList_run (v := .int .i64 0) (wanted_none rfl) (gx_assign rfl rfl) ?_
          simp only [Act.put, List.setIfInBounds_toArray, List.set_cons_zero, List.set_cons_succ]
          go_upto_region 24 with fail
          refine wp_region_lit ?_
          refine wpList_run (v := .int .i64 (b2 a)) (wanted_none rfl) (exec_move rfl rfl) ?_
          simp only [Act.put, List.setIfInBounds_toArray, List.set_cons_zero, List.set_cons_succ]
          refine wpList_run (v := .int .i64 (b2 a)) (wanted_none rfl) (exec_move rfl rfl) ?_
          simp only [Act.put, List.setIfInBounds_toArray, List.set_cons_zero, List.set_cons_succ]
          refine wpList_run (v := .bool false) (wanted_none rfl) (ix_neq rfl rfl rfl (by simp)) ?_
          simp only [Act.put, List.setIfInBounds_toArray, List.set_cons_zero, List.set_cons_succ]
          go_upto_region 21 with fail
          refine wp_region_lit ?_
          refine wpList_run (v := .int .i64 (a : Int)) (wanted_none rfl) (exec_move rfl rfl) ?_
          simp only [Act.put, List.setIfInBounds_toArray, List.set_cons_zero, List.set_cons_succ]
          refine wpList_run (v := .int .i64 ((a + 1 : Nat) : Int)) (wanted_none rfl) (ix_add rfl rfl rfl (by omega) (by omega)) ?_
          simp only [Act.put, List.setIfInBounds_toArray, List.set_cons_zero, List.set_cons_succ]
          refine wpList_run (v := .int .i64 ((a + 1 : Nat) : Int)) (wanted_none rfl) (gx_assign rfl rfl) ?_
          simp only [Act.put, List.setIfInBounds_toArray, List.set_cons_zero, List.set_cons_succ]
          go_wp2_with fail
          go_roundg (4 - (a + 1))
          case measure => have := HGA.out; have := HLA.out; omega
          case rel => exact ⟨a + 1, rfl, by have := HLA.out; omega, rfl⟩
        · obtain rfl : a = 4 := by omega
          clear hlt
          go_upto_region 20 with fail
          refine wp_region_lit ?_
          refine wpList_run (v := .int .i64 ((4 : Nat) : Int)) (wanted_none rfl) (exec_move rfl rfl) ?_
          simp only [Act.put, List.setIfInBounds_toArray, List.set_cons_zero, List.set_cons_succ]
          refine wpList_run (v := .bool false) (wanted_none rfl) (ix_lss rfl rfl rfl (by decide)) ?_
          simp only [Act.put, List.setIfInBounds_toArray, List.set_cons_zero, List.set_cons_succ]
          go_upto_region 26 with fail
          refine wp_region_lit ?_
          refine wpList_run (v := .bool true) (wanted_none rfl) (gx_assign rfl rfl) ?_
          simp only [Act.put, List.setIfInBounds_toArray, List.set_cons_zero, List.set_cons_succ]
          go_wp2_with fail
          go_ret
          exact ⟨rfl, HTz.out⟩
    · have H2 := Lib.hid he2
      clear he2
      go_upto_region 8 with fail
      refine wp_region_lit ?_
      refine wpList_run (v := .int .i64 E1) (wanted_none rfl) (exec_move rfl rfl) ?_
      simp only [Act.put, List.setIfInBounds_toArray, List.set_cons_zero, List.set_cons_succ]
      refine wpList_run (v := .bool false) (wanted_none rfl) (ix_neq rfl rfl rfl (by rw [H1.out]; rfl)) ?_
      simp only [Act.put, List.setIfInBounds_toArray, List.set_cons_zero, List.set_cons_succ]
      refine wpList_run (v := .bool false) (wanted_none rfl) (exec_move rfl rfl) ?_
      simp only [Act.put, List.setIfInBounds_toArray, List.set_cons_zero, List.set_cons_succ]
      refine wpList_run (v := .int .i64 E2) rfl (exec_move rfl rfl) ?_
      simp only [Act.put, List.setIfInBounds_toArray, List.set_cons_zero, List.set_cons_succ]
      refine wpList_run (v := .bool true) rfl (ix_neq rfl rfl rfl (decide_eq_true H2.out)) ?_
      simp only [Act.put, List.setIfInBounds_toArray, List.set_cons_zero, List.set_cons_succ]
      refine wpList_run (v := .bool true) (wanted_none rfl) (ix_pickF rfl rfl rfl) ?_
      simp only [Act.put, List.setIfInBounds_toArray, List.set_cons_zero, List.set_cons_succ]
      go_upto_region 9 with fail
      refine wp_region_lit ?_
      refine wpList_run (v := .bool true) (wanted_none rfl) (gx_assign rfl rfl) ?_
      simp only [Act.put, List.setIfInBounds_toArray, List.set_cons_zero, List.set_cons_succ]
      go_wp2_with fail
      go_ret
      exact ⟨rfl, HT5.out⟩
  · have H1 := Lib.hid he1
    clear he1
    go_upto_region 8 with fail
    first
    | (rename_i K9 hK9; have HKC := Lib.hid hK9; clear hK9)
    | (rename_i K9 hK9 K8; have HKC := Lib.hid hK9; clear hK9)
    refine wp_region_lit ?_
    refine wpList_run (v := .int .i64 E1) (wanted_none rfl) (exec_move rfl rfl) ?_
    simp only [Act.put, List.setIfInBounds_toArray, List.set_cons_zero, List.set_cons_succ]
    refine wpList_run (v := .bool true) (wanted_none rfl) (ix_neq rfl rfl rfl (decide_eq_true H1.out)) ?_
    simp only [Act.put, List.setIfInBounds_toArray, List.set_cons_zero, List.set_cons_succ]
    refine wpList_run (v := .bool true) (wanted_none rfl) (exec_move rfl rfl) ?_
    simp only [Act.put, List.setIfInBounds_toArray, List.set_cons_zero, List.set_cons_succ]
    go_wp2_with fail
    refine HKC.out _ _ ?_
    clear HKC
    go_upto_region 9 with fail
    refine wp_region_lit ?_
    refine wpList_run (v := .bool true) (wanted_none rfl) (gx_assign rfl rfl) ?_
    simp only [Act.put, List.setIfInBounds_toArray, List.set_cons_zero, List.set_cons_succ]
    go_wp2_with fail
    go_ret
    exact ⟨rfl, HT5.out⟩
theorem size_a3 : (Try.prog.info? 46).map (·.size) = some 3 := by kernel_rfl
def a3A (x y z : Int) : Array Value := #[.int .i64 x, .int .i64 y, .int .i64 z]
theorem box_a3 (x y z : Int) (w : World) : (Instr.box 46 (.agg (a3A x y z))).run Try.prog w = .ok (.pointer (some ⟨w.heap.size, 0, none⟩)) (w.alloc (.cells (a3A x y z) 46)) := by
  simp [Instr.box, newVar, newRow, Result.andThen, Value.cells]
theorem size_cfg : (Try.prog.info? 45).map (·.size) = some 11 := by kernel_rfl
theorem turn_wf {es : List Ent} (h : ∀ e ∈ es, Mn.in64 e.1 ∧ Mn.in64 e.2) : ∀ e ∈ turnR es, Mn.in64 e.1 ∧ Mn.in64 e.2 := fun e he => by
  unfold turnR at he
  split at he
  · rename_i h0
    obtain ⟨x, hx, rfl⟩ := List.mem_map.1 he
    have hn : x.2 ≠ -9223372036854775808 := fun c => by
      have := turnE_bad (es := es) (i := es.idxOf x) (e := x) (by rw [List.getElem?_eq_getElem (List.idxOf_lt_length_of_mem hx)]; simp) c
      rw [h0] at this; cases this
    exact neg_in (h x hx) hn
  · cases he
theorem pay_wf {c : Cfg} {acq iss amt : Int} (hq : Mn.in64 acq ∧ Mn.in64 iss) (hn : c.n ≤ 140737488355328) : ∀ e ∈ payR c acq iss amt, Mn.in64 e.1 ∧ Mn.in64 e.2 := fun e he => by
  unfold payR at he
  split at he
  · rename_i h0
    have h1 : Mn.feeE c.ip c.il c.im amt = 0 ∧ Mn.feeE c.fp c.fl c.fm amt = 0 := by
      unfold payE at h0
      split at h0
      · cases h0
      · split at h0
        · rename_i h; exact absurd h0 h
        · rename_i h; exact ⟨Classical.not_not.1 h, h0⟩
    have f1 := fee_range h1.1
    have f2 := fee_range h1.2
    unfold kp at he
    have hm := (List.mem_filter.1 he).1
    unfold payW Lg.payL at hm
    simp only [List.mem_cons, List.not_mem_nil, or_false] at hm
    generalize Mn.feeV c.ip c.il c.im amt = iv at *
    generalize Mn.feeV c.fp c.fl c.fm amt = fv at *
    unfold Mn.in64 at *
    rcases hm with rfl | rfl | rfl | rfl | rfl | rfl <;> (dsimp only; omega)
  · cases he
theorem pay_len (c : Cfg) (acq iss amt : Int) : (payR c acq iss amt).length ≤ 6 := by
  unfold payR
  split
  · exact Nat.le_trans (List.length_filter_le _ _) (by unfold payW Lg.payL; simp)
  · simp
theorem turn_len (es : List Ent) : (turnR es).length ≤ es.length := by
  unfold turnR Lg.turnL
  split
  · simp
  · simp
theorem EntAt.of_v {w : World} {B : Nat} {v : Value} {es : List Ent} (h : Orw w B 57 2 v (es.map entC)) (hw : ∀ e ∈ es, Mn.in64 e.1 ∧ Mn.in64 e.2) (hl : es.length ≤ 140737488355328) : ∃ A n c, v = .slice A n c ∧ n = es.length ∧ (A = none → c = 0) ∧ EntAt w A n es := by
  obtain ⟨A, c, e, _, _, hz, _⟩ := h.form
  rw [List.length_map] at e
  subst e
  exact ⟨A, _, c, rfl, rfl, hz, EntAt.of_orw h hw hl⟩
set_option maxRecDepth 20000 in
set_option maxHeartbeats 4000000 in
theorem pays_walk {w : World} {k : Cfg} {acq iss amt : Int} {A : Option Addr} {n c : Nat} {es : List Ent} (hq : Mn.in64 acq ∧ Mn.in64 iss) (hn : k.n ≤ 140737488355328) (he : EntAt w A n es) (hc : A = none → c = 0) (hm : n ≤ 8796093022208) : Calls Try.prog 4 #[.agg k.cells, .agg (a3A acq iss amt), .slice A n c] w fun e w' => e = .returned (.bool true) ∧ Turn nowhere w w' := by
  have HQ := Lib.hid hq
  have HN := Lib.hid hn
  have HE := Lib.hid he
  have HC := Lib.hid hc
  have HM := Lib.hid hm
  have HLEN := Lib.hid he.len
  clear hq hn he hc hm
  go_enter Try.func4, Try.ntmps4
  go_upto_region 0 with fail
  refine wp_region_lit ?_
  refine wpList_run (v := .pointer (some ⟨(w).heap.size, 0, none⟩)) (w' := (w).alloc (.cells k.cells 45)) (wanted_none rfl) (gx_box rfl rfl (box_cfg k _)) ?_
  simp only [Act.put, List.setIfInBounds_toArray, List.set_cons_zero, List.set_cons_succ]
  refine wpList_run (v := .pointer (some ⟨((w).alloc (.cells k.cells 45)).heap.size, 0, none⟩)) (w' := ((w).alloc (.cells k.cells 45)).alloc (.cells (a3A acq iss amt) 46)) (wanted_none rfl) (gx_box rfl rfl (box_a3 acq iss amt _)) ?_
  simp only [Act.put, List.setIfInBounds_toArray, List.set_cons_zero, List.set_cons_succ]
  refine wpList_run (v := .bool false) (wanted_none rfl) (gx_assign rfl rfl) ?_
  simp only [Act.put, List.setIfInBounds_toArray, List.set_cons_zero, List.set_cons_succ]
  have hb_gc := (Blk.new (w) 45 k.cells).alloc (.cells (a3A acq iss amt) 46)
  have hb_ga := Blk.new ((w).alloc (.cells k.cells 45)) 46 (a3A acq iss amt)
  have ht_ := ((Turn.refl nowhere (w)).alloc (.cells k.cells 45)).alloc (.cells (a3A acq iss amt) 46)
  obtain ⟨n0_, hn0_⟩ : ∃ n, n = (w).heap.size := ⟨_, rfl⟩
  have hz_gc : (w).heap.size = n0_ + 0 := by rw [hn0_]; simp
  have hz_ga : ((w).alloc (.cells k.cells 45)).heap.size = n0_ + 1 := by rw [hn0_]; simp
  obtain ⟨ga, hg_⟩ : ∃ g, g = ((w).alloc (.cells k.cells 45)).heap.size := ⟨_, rfl⟩
  rw [← hg_] at hb_ga hz_ga ⊢
  clear hg_
  obtain ⟨gc, hg_⟩ : ∃ g, g = (w).heap.size := ⟨_, rfl⟩
  rw [← hg_] at hb_gc hz_gc ⊢
  clear hg_
  generalize ((w).alloc (.cells k.cells 45)).alloc (.cells (a3A acq iss amt) 46) = w0 at *
  have HT0 := Lib.hid ht_
  clear ht_
  have HBgc := Lib.hid hb_gc
  have HLgc := Lib.hid (show (w).heap.size ≤ gc from by omega)
  clear hb_gc
  have HBga := Lib.hid hb_ga
  have HLga := Lib.hid (show (w).heap.size ≤ ga from by omega)
  clear hb_ga
  have HNgcga := Lib.hid (show gc ≠ ga from by omega)
  clear hn0_ hz_gc hz_ga
  clear n0_
  go_upto_region 1 with fail
  refine wp_region_lit ?_
  refine wpList_op rfl fun K9 HK9 => ?_
  go_wp2_with fail
  refine (shown_walk w0).mono ?_
  rintro e w1 ⟨rfl, ht⟩
  refine HK9.out _ _ ?_
  clear HK9
  try simp only [Act.put, List.setIfInBounds_toArray, List.set_cons_zero, List.set_cons_succ]
  have HT1 := Lib.hid (HT0.out.trans ht fun _ _ e => e)
  have HBC1 := Lib.hid (HBgc.out.turn ht fun e => e)
  have HBA1 := Lib.hid (HBga.out.turn ht fun e => e)
  clear ht
  refine wpList_run (v := .bool true) (wanted_none rfl) (gx_assign rfl rfl) ?_
  simp only [Act.put, List.setIfInBounds_toArray, List.set_cons_zero, List.set_cons_succ]
  go_upto_region 2 with fail
  refine wp_region_lit ?_
  refine wpList_run (v := .agg k.cells) (wanted_none rfl) (gx_loads rfl rfl (blk_range HBC1.out) Try.underlying45 rfl (by rw [size_cfg]; rfl)) ?_
  simp only [Act.put, List.setIfInBounds_toArray, List.set_cons_zero, List.set_cons_succ]
  refine wpList_run (v := .pointer (some ⟨ga, 0 + 0 * 1, none⟩)) (wanted_none rfl) (gx_aaddr (i := 0) (sz := 1) rfl rfl rfl Try.underlying46 (by kernel_rfl) (by decide) rfl) ?_
  simp only [Act.put, List.setIfInBounds_toArray, List.set_cons_zero, List.set_cons_succ]
  refine wpList_run (v := .int .i64 acq) (wanted_none rfl) (exec_load1 rfl rfl (by kernel_rfl) (HBA1.out.cell 0)) ?_
  simp only [Act.put, List.setIfInBounds_toArray, List.set_cons_zero, List.set_cons_succ]
  refine wpList_run (v := .pointer (some ⟨ga, 0 + 1 * 1, none⟩)) (wanted_none rfl) (gx_aaddr (i := 1) (sz := 1) rfl rfl rfl Try.underlying46 (by kernel_rfl) (by decide) rfl) ?_
  simp only [Act.put, List.setIfInBounds_toArray, List.set_cons_zero, List.set_cons_succ]
  refine wpList_run (v := .int .i64 iss) (wanted_none rfl) (exec_load1 rfl rfl (by kernel_rfl) (HBA1.out.cell 1)) ?_
  simp only [Act.put, List.setIfInBounds_toArray, List.set_cons_zero, List.set_cons_succ]
  refine wpList_run (v := .pointer (some ⟨ga, 0 + 2 * 1, none⟩)) (wanted_none rfl) (gx_aaddr (i := 2) (sz := 1) rfl rfl rfl Try.underlying46 (by kernel_rfl) (by decide) rfl) ?_
  simp only [Act.put, List.setIfInBounds_toArray, List.set_cons_zero, List.set_cons_succ]
  refine wpList_run (v := .int .i64 amt) (wanted_none rfl) (exec_load1 rfl rfl (by kernel_rfl) (HBA1.out.cell 2)) ?_
  simp only [Act.put, List.setIfInBounds_toArray, List.set_cons_zero, List.set_cons_succ]
  refine wpList_op rfl fun K9 HK9 => ?_
  go_wp2_with fail
  refine (Payment_walk (w := w1) HQ.out HN.out).mono ?_
  rintro e w2 ⟨v1, rfl, ho, ht⟩
  refine HK9.out _ _ ?_
  clear HK9
  try simp only [Act.put, List.setIfInBounds_toArray, List.set_cons_zero, List.set_cons_succ]
  obtain ⟨pe, hpe⟩ : ∃ x, x = payE k acq iss amt := ⟨_, rfl⟩
  rw [← hpe]
  have HPE := Lib.hid hpe
  clear hpe
  have HBC2 := Lib.hid (HBC1.out.turn ht fun e => e)
  have HBA2 := Lib.hid (HBA1.out.turn ht fun e => e)
  obtain ⟨Ap, np, cp, hv, hn_, _, hea⟩ := EntAt.of_v ho (pay_wf HQ.out HN.out) (Nat.le_trans (pay_len _ _ _ _) (by decide))
  subst hv
  have HV1 := Lib.hid hea
  have HT2 := Lib.hid (HT1.out.trans ht fun _ _ e => e)
  clear ho hea ht hn_
  refine wpList_run (v := .tuple #[.slice Ap np cp, .int .i64 pe]) (wanted_none rfl) (exec_move rfl rfl) ?_
  simp only [Act.put, List.setIfInBounds_toArray, List.set_cons_zero, List.set_cons_succ]
  refine wpList_run (v := .slice Ap np cp) (wanted_none rfl) (ix_extract rfl rfl rfl) ?_
  simp only [Act.put, List.setIfInBounds_toArray, List.set_cons_zero, List.set_cons_succ]
  refine wpList_run (v := .int .i64 pe) (wanted_none rfl) (ix_extract rfl rfl rfl) ?_
  simp only [Act.put, List.setIfInBounds_toArray, List.set_cons_zero, List.set_cons_succ]
  refine wpList_run (v := .slice Ap np cp) (wanted_none rfl) (gx_assign rfl rfl) ?_
  simp only [Act.put, List.setIfInBounds_toArray, List.set_cons_zero, List.set_cons_succ]
  refine wpList_run (v := .int .i64 pe) (wanted_none rfl) (gx_assign rfl rfl) ?_
  simp only [Act.put, List.setIfInBounds_toArray, List.set_cons_zero, List.set_cons_succ]
  go_upto_region 3 with fail
  refine wp_region_lit ?_
  refine wpList_run (v := .agg k.cells) (wanted_none rfl) (gx_loads rfl rfl (blk_range HBC2.out) Try.underlying45 rfl (by rw [size_cfg]; rfl)) ?_
  simp only [Act.put, List.setIfInBounds_toArray, List.set_cons_zero, List.set_cons_succ]
  refine wpList_run (v := .pointer (some ⟨ga, 0 + 0 * 1, none⟩)) (wanted_none rfl) (gx_aaddr (i := 0) (sz := 1) rfl rfl rfl Try.underlying46 (by kernel_rfl) (by decide) rfl) ?_
  simp only [Act.put, List.setIfInBounds_toArray, List.set_cons_zero, List.set_cons_succ]
  refine wpList_run (v := .int .i64 acq) (wanted_none rfl) (exec_load1 rfl rfl (by kernel_rfl) (HBA2.out.cell 0)) ?_
  simp only [Act.put, List.setIfInBounds_toArray, List.set_cons_zero, List.set_cons_succ]
  refine wpList_run (v := .pointer (some ⟨ga, 0 + 1 * 1, none⟩)) (wanted_none rfl) (gx_aaddr (i := 1) (sz := 1) rfl rfl rfl Try.underlying46 (by kernel_rfl) (by decide) rfl) ?_
  simp only [Act.put, List.setIfInBounds_toArray, List.set_cons_zero, List.set_cons_succ]
  refine wpList_run (v := .int .i64 iss) (wanted_none rfl) (exec_load1 rfl rfl (by kernel_rfl) (HBA2.out.cell 1)) ?_
  simp only [Act.put, List.setIfInBounds_toArray, List.set_cons_zero, List.set_cons_succ]
  refine wpList_run (v := .pointer (some ⟨ga, 0 + 2 * 1, none⟩)) (wanted_none rfl) (gx_aaddr (i := 2) (sz := 1) rfl rfl rfl Try.underlying46 (by kernel_rfl) (by decide) rfl) ?_
  simp only [Act.put, List.setIfInBounds_toArray, List.set_cons_zero, List.set_cons_succ]
  refine wpList_run (v := .int .i64 amt) (wanted_none rfl) (exec_load1 rfl rfl (by kernel_rfl) (HBA2.out.cell 2)) ?_
  simp only [Act.put, List.setIfInBounds_toArray, List.set_cons_zero, List.set_cons_succ]
  refine wpList_op rfl fun K9 HK9 => ?_
  go_wp2_with fail
  refine (rPayment_walk (w := w2) HQ.out HN.out).mono ?_
  rintro e w3 ⟨v2, rfl, ho, ht⟩
  refine HK9.out _ _ ?_
  clear HK9
  try simp only [Act.put, List.setIfInBounds_toArray, List.set_cons_zero, List.set_cons_succ]
  rw [← HPE.out]
  have HV1 := Lib.hid (HV1.out.still ht)
  obtain ⟨Aq, nq, cq, hv, hn_, _, hea⟩ := EntAt.of_v ho (pay_wf HQ.out HN.out) (Nat.le_trans (pay_len _ _ _ _) (by decide))
  subst hv
  have HV2 := Lib.hid hea
  have HT3 := Lib.hid (HT2.out.trans ht fun _ _ e => e)
  clear ho hea ht hn_
  refine wpList_run (v := .tuple #[.slice Aq nq cq, .int .i64 pe]) (wanted_none rfl) (exec_move rfl rfl) ?_
  simp only [Act.put, List.setIfInBounds_toArray, List.set_cons_zero, List.set_cons_succ]
  refine wpList_run (v := .slice Aq nq cq) (wanted_none rfl) (ix_extract rfl rfl rfl) ?_
  simp only [Act.put, List.setIfInBounds_toArray, List.set_cons_zero, List.set_cons_succ]
  refine wpList_run (v := .int .i64 pe) (wanted_none rfl) (ix_extract rfl rfl rfl) ?_
  simp only [Act.put, List.setIfInBounds_toArray, List.set_cons_zero, List.set_cons_succ]
  refine wpList_run (v := .slice Aq nq cq) (wanted_none rfl) (gx_assign rfl rfl) ?_
  simp only [Act.put, List.setIfInBounds_toArray, List.set_cons_zero, List.set_cons_succ]
  refine wpList_run (v := .int .i64 pe) (wanted_none rfl) (gx_assign rfl rfl) ?_
  simp only [Act.put, List.setIfInBounds_toArray, List.set_cons_zero, List.set_cons_succ]
  obtain ⟨A4, c4, w4, ha4, ho4, ht4⟩ := copy_rws elmE (w := w3) (c := c) (ty := 35) (HE.out.still HT3.out).row (fitE_ es) HC.out (by have := HM.out; omega)
  have HA4 := Lib.hid ha4
  have HO4 := Lib.hid (EntAt.of_orw ho4 HE.out.wf (by have := HM.out; have := HLEN.out; omega))
  have HT4 := Lib.hid (HT3.out.trans ht4 fun _ _ e => e)
  have HV1 := Lib.hid (HV1.out.still ht4)
  have HV2 := Lib.hid (HV2.out.still ht4)
  clear ha4 ho4 ht4
  go_upto_region 4 with fail
  refine wp_region_lit ?_
  refine wpList_run (v := .slice (some ⟨w3.heap.size, 0, none⟩) 0 0) (w' := w3.alloc (.cells #[] 57)) (wanted_none rfl) (bx_slice0 rfl (ebuild0 w3)) ?_
  simp only [Act.put, List.setIfInBounds_toArray, List.set_cons_zero, List.set_cons_succ]
  refine wpList_run (v := .slice A n c) (wanted_none rfl) (exec_move rfl rfl) ?_
  simp only [Act.put, List.setIfInBounds_toArray, List.set_cons_zero, List.set_cons_succ]
  refine wpList_run (v := .slice A4 n c4) (w' := w4) (wanted_none rfl) (exec_append rfl rfl rfl HA4.out) ?_
  simp only [Act.put, List.setIfInBounds_toArray, List.set_cons_zero, List.set_cons_succ]
  refine wpList_run (v := .slice A4 n c4) (wanted_none rfl) (gx_assign rfl rfl) ?_
  simp only [Act.put, List.setIfInBounds_toArray, List.set_cons_zero, List.set_cons_succ]
  go_upto_region 5 with fail
  refine wp_region_lit ?_
  refine wpList_run (v := .slice A4 n c4) (wanted_none rfl) (exec_move rfl rfl) ?_
  simp only [Act.put, List.setIfInBounds_toArray, List.set_cons_zero, List.set_cons_succ]
  refine wpList_op rfl fun K9 HK9 => ?_
  go_wp2_with fail
  refine (Turned_walk HO4.out HM.out).mono ?_
  rintro e w5 ⟨v3, rfl, ho, ht⟩
  refine HK9.out _ _ ?_
  clear HK9
  try simp only [Act.put, List.setIfInBounds_toArray, List.set_cons_zero, List.set_cons_succ]
  obtain ⟨te, hte⟩ : ∃ x, x = Lg.turnE es := ⟨_, rfl⟩
  rw [← hte]
  have HTE := Lib.hid hte
  clear hte
  have HV1 := Lib.hid (HV1.out.still ht)
  have HV2 := Lib.hid (HV2.out.still ht)
  have HO5 := Lib.hid (HO4.out.still ht)
  obtain ⟨Ar, nr, cr, hv, hn_, _, hea⟩ := EntAt.of_v ho (turn_wf HE.out.wf) (Nat.le_trans (turn_len es) (by have := HM.out; have := HLEN.out; omega))
  subst hv
  have HV3 := Lib.hid hea
  have HT5 := Lib.hid (HT4.out.trans ht fun _ _ e => e)
  clear ho hea ht hn_
  refine wpList_run (v := .tuple #[.slice Ar nr cr, .int .i64 te]) (wanted_none rfl) (exec_move rfl rfl) ?_
  simp only [Act.put, List.setIfInBounds_toArray, List.set_cons_zero, List.set_cons_succ]
  refine wpList_run (v := .slice Ar nr cr) (wanted_none rfl) (ix_extract rfl rfl rfl) ?_
  simp only [Act.put, List.setIfInBounds_toArray, List.set_cons_zero, List.set_cons_succ]
  refine wpList_run (v := .int .i64 te) (wanted_none rfl) (ix_extract rfl rfl rfl) ?_
  simp only [Act.put, List.setIfInBounds_toArray, List.set_cons_zero, List.set_cons_succ]
  refine wpList_run (v := .slice Ar nr cr) (wanted_none rfl) (gx_assign rfl rfl) ?_
  simp only [Act.put, List.setIfInBounds_toArray, List.set_cons_zero, List.set_cons_succ]
  refine wpList_run (v := .int .i64 te) (wanted_none rfl) (gx_assign rfl rfl) ?_
  simp only [Act.put, List.setIfInBounds_toArray, List.set_cons_zero, List.set_cons_succ]
  go_upto_region 6 with fail
  refine wp_region_lit ?_
  refine wpList_run (v := .slice A n c) (wanted_none rfl) (exec_move rfl rfl) ?_
  simp only [Act.put, List.setIfInBounds_toArray, List.set_cons_zero, List.set_cons_succ]
  refine wpList_op rfl fun K9 HK9 => ?_
  go_wp2_with fail
  refine (rTurned_walk (HE.out.still HT5.out) HM.out).mono ?_
  rintro e w6 ⟨v4, rfl, ho, ht⟩
  refine HK9.out _ _ ?_
  clear HK9
  try simp only [Act.put, List.setIfInBounds_toArray, List.set_cons_zero, List.set_cons_succ]
  rw [← HTE.out]
  have HV1 := Lib.hid (HV1.out.still ht)
  have HV2 := Lib.hid (HV2.out.still ht)
  have HV3 := Lib.hid (HV3.out.still ht)
  have HO6 := Lib.hid (HO5.out.still ht)
  obtain ⟨As, ns, cs, hv, hn_, _, hea⟩ := EntAt.of_v ho (turn_wf HE.out.wf) (Nat.le_trans (turn_len es) (by have := HM.out; have := HLEN.out; omega))
  subst hv
  have HV4 := Lib.hid hea
  have HT6 := Lib.hid (HT5.out.trans ht fun _ _ e => e)
  clear ho hea ht hn_
  refine wpList_run (v := .tuple #[.slice As ns cs, .int .i64 te]) (wanted_none rfl) (exec_move rfl rfl) ?_
  simp only [Act.put, List.setIfInBounds_toArray, List.set_cons_zero, List.set_cons_succ]
  refine wpList_run (v := .slice As ns cs) (wanted_none rfl) (ix_extract rfl rfl rfl) ?_
  simp only [Act.put, List.setIfInBounds_toArray, List.set_cons_zero, List.set_cons_succ]
  refine wpList_run (v := .int .i64 te) (wanted_none rfl) (ix_extract rfl rfl rfl) ?_
  simp only [Act.put, List.setIfInBounds_toArray, List.set_cons_zero, List.set_cons_succ]
  refine wpList_run (v := .slice As ns cs) (wanted_none rfl) (gx_assign rfl rfl) ?_
  simp only [Act.put, List.setIfInBounds_toArray, List.set_cons_zero, List.set_cons_succ]
  refine wpList_run (v := .int .i64 te) (wanted_none rfl) (gx_assign rfl rfl) ?_
  simp only [Act.put, List.setIfInBounds_toArray, List.set_cons_zero, List.set_cons_succ]
  go_upto_region 7 with fail
  refine wp_region_lit ?_
  refine wpList_run (v := .slice Ap np cp) (wanted_none rfl) (exec_move rfl rfl) ?_
  simp only [Act.put, List.setIfInBounds_toArray, List.set_cons_zero, List.set_cons_succ]
  refine wpList_run (v := .slice Aq nq cq) (wanted_none rfl) (exec_move rfl rfl) ?_
  simp only [Act.put, List.setIfInBounds_toArray, List.set_cons_zero, List.set_cons_succ]
  refine wpList_op rfl fun K9 HK9 => ?_
  go_wp2_with fail
  refine (same_walk HV1.out HV2.out).mono ?_
  rintro e w7 ⟨rfl, ht⟩
  refine HK9.out _ _ ?_
  clear HK9
  try simp only [Act.put, List.setIfInBounds_toArray, List.set_cons_zero, List.set_cons_succ]
  have HT7 := Lib.hid (HT6.out.trans ht fun _ _ e => e)
  have HV3 := Lib.hid (HV3.out.still ht)
  have HV4 := Lib.hid (HV4.out.still ht)
  have HO7 := Lib.hid (HO6.out.still ht)
  clear ht
  refine wpList_run (v := .bool true) (wanted_none rfl) (gx_assign rfl rfl) ?_
  simp only [Act.put, List.setIfInBounds_toArray, List.set_cons_zero, List.set_cons_succ]
  go_upto_region 8 with fail
  refine wp_region_lit ?_
  refine wpList_run (v := .slice Ar nr cr) (wanted_none rfl) (exec_move rfl rfl) ?_
  simp only [Act.put, List.setIfInBounds_toArray, List.set_cons_zero, List.set_cons_succ]
  refine wpList_run (v := .slice As ns cs) (wanted_none rfl) (exec_move rfl rfl) ?_
  simp only [Act.put, List.setIfInBounds_toArray, List.set_cons_zero, List.set_cons_succ]
  refine wpList_op rfl fun K9 HK9 => ?_
  go_wp2_with fail
  refine (same_walk HV3.out HV4.out).mono ?_
  rintro e w8 ⟨rfl, ht⟩
  refine HK9.out _ _ ?_
  clear HK9
  try simp only [Act.put, List.setIfInBounds_toArray, List.set_cons_zero, List.set_cons_succ]
  have HT8 := Lib.hid (HT7.out.trans ht fun _ _ e => e)
  have HO8 := Lib.hid (HO7.out.still ht)
  clear ht
  refine wpList_run (v := .bool true) (wanted_none rfl) (gx_assign rfl rfl) ?_
  simp only [Act.put, List.setIfInBounds_toArray, List.set_cons_zero, List.set_cons_succ]
  go_upto_region 9 with fail
  refine wp_region_lit ?_
  refine wpList_run (v := .slice A4 n c4) (wanted_none rfl) (exec_move rfl rfl) ?_
  simp only [Act.put, List.setIfInBounds_toArray, List.set_cons_zero, List.set_cons_succ]
  refine wpList_run (v := .slice A n c) (wanted_none rfl) (exec_move rfl rfl) ?_
  simp only [Act.put, List.setIfInBounds_toArray, List.set_cons_zero, List.set_cons_succ]
  refine wpList_op rfl fun K9 HK9 => ?_
  go_wp2_with fail
  refine (same_walk HO8.out (HE.out.still HT8.out)).mono ?_
  rintro e w9 ⟨rfl, ht⟩
  refine HK9.out _ _ ?_
  clear HK9
  try simp only [Act.put, List.setIfInBounds_toArray, List.set_cons_zero, List.set_cons_succ]
  have HT9 := Lib.hid (HT8.out.trans ht fun _ _ e => e)
  clear ht
  refine wpList_run (v := .bool true) (wanted_none rfl) (gx_assign rfl rfl) ?_
  simp only [Act.put, List.setIfInBounds_toArray, List.set_cons_zero, List.set_cons_succ]
  go_upto_region 10 with fail
  refine wp_region_lit ?_
  refine wpList_run (v := .bool true) (wanted_none rfl) (exec_move rfl rfl) ?_
  simp only [Act.put, List.setIfInBounds_toArray, List.set_cons_zero, List.set_cons_succ]
  refine wpList_run (v := .bool true) (wanted_none rfl) (exec_move rfl rfl) ?_
  simp only [Act.put, List.setIfInBounds_toArray, List.set_cons_zero, List.set_cons_succ]
  refine wpList_run (v := .bool true) rfl (exec_move rfl rfl) ?_
  simp only [Act.put, List.setIfInBounds_toArray, List.set_cons_zero, List.set_cons_succ]
  refine wpList_run (v := .bool true) (wanted_none rfl) (ix_pickT rfl rfl rfl) ?_
  simp only [Act.put, List.setIfInBounds_toArray, List.set_cons_zero, List.set_cons_succ]
  refine wpList_run (v := .bool true) (wanted_none rfl) (exec_move rfl rfl) ?_
  simp only [Act.put, List.setIfInBounds_toArray, List.set_cons_zero, List.set_cons_succ]
  refine wpList_run (v := .bool true) rfl (exec_move rfl rfl) ?_
  simp only [Act.put, List.setIfInBounds_toArray, List.set_cons_zero, List.set_cons_succ]
  refine wpList_run (v := .bool true) (wanted_none rfl) (ix_pickT rfl rfl rfl) ?_
  simp only [Act.put, List.setIfInBounds_toArray, List.set_cons_zero, List.set_cons_succ]
  refine wpList_run (v := .bool true) (wanted_none rfl) (exec_move rfl rfl) ?_
  simp only [Act.put, List.setIfInBounds_toArray, List.set_cons_zero, List.set_cons_succ]
  refine wpList_run (v := .bool true) rfl (exec_move rfl rfl) ?_
  simp only [Act.put, List.setIfInBounds_toArray, List.set_cons_zero, List.set_cons_succ]
  refine wpList_run (v := .bool true) (wanted_none rfl) (ix_pickT rfl rfl rfl) ?_
  simp only [Act.put, List.setIfInBounds_toArray, List.set_cons_zero, List.set_cons_succ]
  refine wpList_run (v := .bool true) (wanted_none rfl) (exec_move rfl rfl) ?_
  simp only [Act.put, List.setIfInBounds_toArray, List.set_cons_zero, List.set_cons_succ]
  refine wpList_run (v := .int .i64 pe) rfl (exec_move rfl rfl) ?_
  simp only [Act.put, List.setIfInBounds_toArray, List.set_cons_zero, List.set_cons_succ]
  refine wpList_run (v := .int .i64 pe) rfl (exec_move rfl rfl) ?_
  simp only [Act.put, List.setIfInBounds_toArray, List.set_cons_zero, List.set_cons_succ]
  refine wpList_run (v := .bool true) rfl (ix_eql rfl rfl rfl (by simp)) ?_
  simp only [Act.put, List.setIfInBounds_toArray, List.set_cons_zero, List.set_cons_succ]
  refine wpList_run (v := .bool true) (wanted_none rfl) (ix_pickT rfl rfl rfl) ?_
  simp only [Act.put, List.setIfInBounds_toArray, List.set_cons_zero, List.set_cons_succ]
  refine wpList_run (v := .bool true) (wanted_none rfl) (exec_move rfl rfl) ?_
  simp only [Act.put, List.setIfInBounds_toArray, List.set_cons_zero, List.set_cons_succ]
  refine wpList_run (v := .int .i64 te) rfl (exec_move rfl rfl) ?_
  simp only [Act.put, List.setIfInBounds_toArray, List.set_cons_zero, List.set_cons_succ]
  refine wpList_run (v := .int .i64 te) rfl (exec_move rfl rfl) ?_
  simp only [Act.put, List.setIfInBounds_toArray, List.set_cons_zero, List.set_cons_succ]
  refine wpList_run (v := .bool true) rfl (ix_eql rfl rfl rfl (by simp)) ?_
  simp only [Act.put, List.setIfInBounds_toArray, List.set_cons_zero, List.set_cons_succ]
  refine wpList_run (v := .bool true) (wanted_none rfl) (ix_pickT rfl rfl rfl) ?_
  simp only [Act.put, List.setIfInBounds_toArray, List.set_cons_zero, List.set_cons_succ]
  refine wpList_run (v := .bool true) (wanted_none rfl) (gx_assign rfl rfl) ?_
  simp only [Act.put, List.setIfInBounds_toArray, List.set_cons_zero, List.set_cons_succ]
  go_wp2_with fail
  go_ret
  exact ⟨rfl, HT9.out⟩
end Go.Proofs.Ythoefjaapjaeeaa
