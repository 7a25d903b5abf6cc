/-
  saf's laws: like: the walk. No conditions.
-/
import Derived.Test.YtkcedcllefcboaaSfO
namespace Go.Proofs.Ytkcedcllefcboaa
open Go.RowKit
set_option linter.unusedVariables false
set_option linter.unusedSimpArgs false
set_option maxRecDepth 20000
/-- one element of a row of texts is written -/
theorem txt_set {w : World} {B n c i : Nat} {A : Option Addr} {rs : List (List Value)} (h : Orw w B 9 1 (.slice A n c) rs) (hi : i < n) : ∃ g cur, A = some ⟨g, 0, none⟩ ∧ B ≤ g ∧ Blk w g 9 cur ∧ i < cur.size ∧ ∀ w' v, v.oneCell' = true → Blk w' g 9 (cur.setIfInBounds i v) → Orw w' B 9 1 (.slice A n c) (rs.set i [v]) := by
  have hl : rs.length = n := by
    obtain ⟨A', c', e, _⟩ := h.form
    injection e with _ e _
    exact e.symm
  obtain ⟨g, c', e, _⟩ := h.some_ (by omega)
  injection e with e1 _ e3
  subst e1 e3
  obtain ⟨cur, hb, hcs, ht, hn, hnc, hcm, hB⟩ := orw_block h
  have hle : i < cur.size := by rw [hcs]; omega
  refine ⟨g, cur, rfl, hB, hb, hle, fun w' v hv hb' => ?_⟩
  refine orw_set h hb hb' (by simp) hi rfl (fun u hu => ?_) (fun j => ?_) (by decide)
  · obtain rfl : u = v := by simpa using hu
    exact hv
  · rw [Array.getElem?_setIfInBounds]
    by_cases h2 : i = j
    · subst h2
      rw [if_pos rfl, if_pos hle, if_pos (by omega), show i - i * 1 = 0 from by omega]
      rfl
    · rw [if_neg h2, if_neg (by omega)]
set_option maxRecDepth 20000 in
set_option maxHeartbeats 600000 in
theorem like_walk {w : World} {Z : Nat → Prop} {a y m : Nat} {g : Option Nat} {l : List Adv} {s s' : Bool} (q : Que w Z a g m l s) (r : RQue w Z y m l s') : Calls Try.prog 23 #[.pointer (some ⟨a, 0, none⟩), .pointer (some ⟨y, 0, none⟩)] w fun e w' => e = .returned (.bool true) ∧ Turn nowhere w w' := by
  have HQ := Lib.hid q
  have HR := Lib.hid r
  obtain ⟨n, hn⟩ : ∃ n, n = l.length := ⟨_, rfl⟩
  have HN := Lib.hid hn
  have yn : n ≤ 16 := by have := q.len; have := q.max; omega
  have HNM := Lib.hid (show (Sf.names l).length = n from by unfold Sf.names; rw [List.length_map]; exact hn.symm)
  have ym : m ≤ 16 := q.max.2
  clear q r hn
  go_enter Try.func23, Try.ntmps23
  go_upto_region 0 with fail
  refine wp_region_lit ?_
  refine wpList_run (v := .bool false) (wanted_none rfl) (gx_assign rfl rfl) ?_
  simp only [Act.put, List.setIfInBounds_toArray, List.set_cons_zero, List.set_cons_succ]
  go_upto_region 1 with fail
  refine wp_region_lit ?_
  refine wpList_run (v := .pointer (some ⟨a, 0, none⟩)) (wanted_none rfl) (exec_move rfl rfl) ?_
  simp only [Act.put, List.setIfInBounds_toArray, List.set_cons_zero, List.set_cons_succ]
  refine wpList_op (wanted_none rfl) fun K9 HK9 => ?_
  go_wp2_with fail
  refine (Names_walk HQ.out).mono ?_
  rintro e w1 ⟨A, c, rfl, how, ht⟩
  refine HK9.out _ _ ?_
  clear HK9
  try simp only [Act.put, List.setIfInBounds_toArray, List.set_cons_zero, List.set_cons_succ]
  rw [← HN.out] at how ⊢
  have HOA := Lib.hid how
  have HOAL := Lib.hid how
  have HT1 := Lib.hid ht
  clear how ht
  refine wpList_run (v := .slice A n c) (wanted_none rfl) (gx_assign rfl rfl) ?_
  simp only [Act.put, List.setIfInBounds_toArray, List.set_cons_zero, List.set_cons_succ]
  go_upto_region 2 with fail
  refine wp_region_lit ?_
  refine wpList_run (v := .pointer (some ⟨y, 0, none⟩)) (wanted_none rfl) (exec_move rfl rfl) ?_
  simp only [Act.put, List.setIfInBounds_toArray, List.set_cons_zero, List.set_cons_succ]
  refine wpList_op (wanted_none rfl) fun K9 HK9 => ?_
  go_wp2_with fail
  refine (rNames_walk (HR.out.still HT1.out)).mono ?_
  rintro e w2 ⟨B, d, rfl, how, ht⟩
  refine HK9.out _ _ ?_
  clear HK9
  try simp only [Act.put, List.setIfInBounds_toArray, List.set_cons_zero, List.set_cons_succ]
  rw [← HN.out] at how ⊢
  have HOB := Lib.hid how
  have HOA2 := Lib.hid (HOA.out.still ht)
  have HT2 := Lib.hid (HT1.out.trans ht fun _ _ e => e)
  have HRB := Lib.hid (HR.out.still HT2.out)
  obtain ⟨⟨AQ, cq, xq, hbq, _⟩, _⟩ := HRB.out
  rw [← HN.out] at hbq
  have HBQ := Lib.hid hbq
  clear how ht HOA hbq
  refine wpList_run (v := .slice B n d) (wanted_none rfl) (gx_assign rfl rfl) ?_
  simp only [Act.put, List.setIfInBounds_toArray, List.set_cons_zero, List.set_cons_succ]
  have HBd := Lib.hid (show Blk w2.drew y 59 #[.int .i64 (m : Int), .slice AQ n cq, .bool s'] from HBQ.out)
  have HD := Lib.hid ((Turn.refl nowhere w2).drew)
  go_upto_region 3 with fail
  refine wp_region_alw (fun W => Blk W y 59 #[.int .i64 (m : Int), .slice AQ n cq, .bool s']) (by kernel_rfl) ?_
  have hS0 := HBd.out
  have HQ2 := Lib.hid (HQ.out.still (HT2.out.trans HD.out fun _ _ e => e))
  generalize w2.drew = wd at *
  refine alw_take (i := 0) (v := .slice A n c) rfl (by kernel_rfl) (by kernel_rfl) (fun _ _ _ h => h) (.inl ⟨by rfl, fun W hW => exec_move rfl rfl⟩) hS0 ?_
  simp only [Act.put, List.setIfInBounds_toArray, List.set_cons_zero, List.set_cons_succ]
  refine alw_take (i := 1) (v := .int .i64 (n : Int)) rfl (by kernel_rfl) (by kernel_rfl) (fun _ _ _ h => h) (.inl ⟨by rfl, fun W hW => gx_len rfl rfl Try.underlying52⟩) hS0 ?_
  simp only [Act.put, List.setIfInBounds_toArray, List.set_cons_zero, List.set_cons_succ]
  refine alw_take (i := 2) (v := .slice B n d) rfl (by kernel_rfl) (by kernel_rfl) (fun _ _ _ h => h) (.inl ⟨by rfl, fun W hW => exec_move rfl rfl⟩) hS0 ?_
  simp only [Act.put, List.setIfInBounds_toArray, List.set_cons_zero, List.set_cons_succ]
  refine alw_take (i := 3) (v := .int .i64 (n : Int)) rfl (by kernel_rfl) (by kernel_rfl) (fun _ _ _ h => h) (.inl ⟨by rfl, fun W hW => gx_len rfl rfl Try.underlying52⟩) hS0 ?_
  simp only [Act.put, List.setIfInBounds_toArray, List.set_cons_zero, List.set_cons_succ]
  refine alw_take (i := 4) (v := .bool false) rfl (by kernel_rfl) (by kernel_rfl) (fun _ _ _ h => h) (.inl ⟨by rfl, fun W hW => ix_neq rfl rfl rfl (decide_eq_false (fun e => e rfl))⟩) hS0 ?_
  simp only [Act.put, List.setIfInBounds_toArray, List.set_cons_zero, List.set_cons_succ]
  refine alw_take (i := 5) (v := .bool false) rfl (by kernel_rfl) (by kernel_rfl) (fun _ _ _ h => h) (.inl ⟨by rfl, fun W hW => exec_move rfl rfl⟩) hS0 ?_
  simp only [Act.put, List.setIfInBounds_toArray, List.set_cons_zero, List.set_cons_succ]
  refine alw_take (i := 6) (v := .pointer (some ⟨a, 0, none⟩)) rfl (by kernel_rfl) (by kernel_rfl) (fun _ _ _ h => h) (.inl ⟨by rfl, fun W hW => exec_move rfl rfl⟩) hS0 ?_
  simp only [Act.put, List.setIfInBounds_toArray, List.set_cons_zero, List.set_cons_succ]
  refine alw_take (i := 8) (v := .slice B n d) rfl (by kernel_rfl) (by kernel_rfl) (fun _ _ _ h => h) (.inl ⟨by rfl, fun W hW => exec_move rfl rfl⟩) hS0 ?_
  simp only [Act.put, List.setIfInBounds_toArray, List.set_cons_zero, List.set_cons_succ]
  refine alw_take (i := 9) (v := .int .i64 (n : Int)) rfl (by kernel_rfl) (by kernel_rfl) (fun _ _ _ h => h) (.inl ⟨by rfl, fun W hW => gx_len rfl rfl Try.underlying52⟩) hS0 ?_
  simp only [Act.put, List.setIfInBounds_toArray, List.set_cons_zero, List.set_cons_succ]
  clear hS0
  refine alw_step (i := 7) (by kernel_rfl) rfl rfl ?_
  intro K1 HK1
  go_wp2_with fail
  refine (Len_walk HQ2.out).mono ?_
  rintro e wx ⟨rfl, rfl⟩

  rw [← HN.out]
  refine HK1.out _ _ ⟨HBd.out, ?_⟩
  clear HK1
  try simp only [Act.put, List.setIfInBounds_toArray, List.set_cons_zero, List.set_cons_succ]
  have hS0 := HBd.out
  refine alw_take (i := 10) (v := .bool false) rfl (by kernel_rfl) (by kernel_rfl) (fun _ _ _ h => h) (.inl ⟨by rfl, fun W hW => ix_neq rfl rfl rfl (decide_eq_false (fun e => e rfl))⟩) hS0 ?_
  simp only [Act.put, List.setIfInBounds_toArray, List.set_cons_zero, List.set_cons_succ]
  refine alw_take (i := 11) (v := .bool false) rfl (by kernel_rfl) (by kernel_rfl) (fun _ _ _ h => h) (.inl ⟨by rfl, fun W hW => ix_pickF rfl rfl rfl⟩) hS0 ?_
  simp only [Act.put, List.setIfInBounds_toArray, List.set_cons_zero, List.set_cons_succ]
  refine alw_take (i := 12) (v := .bool false) rfl (by kernel_rfl) (by kernel_rfl) (fun _ _ _ h => h) (.inl ⟨by rfl, fun W hW => exec_move rfl rfl⟩) hS0 ?_
  simp only [Act.put, List.setIfInBounds_toArray, List.set_cons_zero, List.set_cons_succ]
  refine alw_take (i := 13) (v := .pointer (some ⟨a, 0, none⟩)) rfl (by kernel_rfl) (by kernel_rfl) (fun _ _ _ h => h) (.inl ⟨by rfl, fun W hW => exec_move rfl rfl⟩) hS0 ?_
  simp only [Act.put, List.setIfInBounds_toArray, List.set_cons_zero, List.set_cons_succ]
  refine alw_take (i := 15) (v := .pointer (some ⟨y, 0, none⟩)) rfl (by kernel_rfl) (by kernel_rfl) (fun _ _ _ h => h) (.inl ⟨by rfl, fun W hW => exec_move rfl rfl⟩) hS0 ?_
  simp only [Act.put, List.setIfInBounds_toArray, List.set_cons_zero, List.set_cons_succ]
  refine alw_take (i := 16) (v := .pointer (some ⟨y, 0, none⟩)) rfl (by kernel_rfl) (by kernel_rfl) (fun _ _ _ h => h) (.inl ⟨by rfl, fun W hW => exec_nil rfl rfl⟩) hS0 ?_
  simp only [Act.put, List.setIfInBounds_toArray, List.set_cons_zero, List.set_cons_succ]
  refine alw_take (i := 17) (v := .pointer (some ⟨y, 0, none⟩)) rfl (by kernel_rfl) (by kernel_rfl) (fun _ _ _ h => h) (.inl ⟨by rfl, fun W hW => exec_field (off := 0) (d := 0) rfl rfl (by kernel_rfl)⟩) hS0 ?_
  simp only [Act.put, List.setIfInBounds_toArray, List.set_cons_zero, List.set_cons_succ]
  refine alw_take (i := 18) (v := .int .i64 (m : Int)) rfl (by kernel_rfl) (by kernel_rfl) (fun _ _ _ h => h) (.inl ⟨by rfl, fun W hW => exec_load1 rfl rfl (by kernel_rfl) (hW.cell 0)⟩) hS0 ?_
  simp only [Act.put, List.setIfInBounds_toArray, List.set_cons_zero, List.set_cons_succ]
  refine alw_take (i := 19) (v := .slice B n d) rfl (by kernel_rfl) (by kernel_rfl) (fun _ _ _ h => h) (.inl ⟨by rfl, fun W hW => exec_move rfl rfl⟩) hS0 ?_
  simp only [Act.put, List.setIfInBounds_toArray, List.set_cons_zero, List.set_cons_succ]
  refine alw_take (i := 20) (v := .int .i64 (n : Int)) rfl (by kernel_rfl) (by kernel_rfl) (fun _ _ _ h => h) (.inl ⟨by rfl, fun W hW => gx_len rfl rfl Try.underlying52⟩) hS0 ?_
  simp only [Act.put, List.setIfInBounds_toArray, List.set_cons_zero, List.set_cons_succ]
  refine alw_take (i := 21) (v := .int .i64 ((m : Int) - (n : Int))) rfl (by kernel_rfl) (by kernel_rfl) (fun _ _ _ h => h) (.inl ⟨by rfl, fun W hW => ix_sub rfl rfl rfl rfl (by omega)⟩) hS0 ?_
  simp only [Act.put, List.setIfInBounds_toArray, List.set_cons_zero, List.set_cons_succ]
  clear hS0
  refine alw_step (i := 14) (by kernel_rfl) rfl rfl ?_
  intro K1 HK1
  go_wp2_with fail
  refine (Room_walk HQ2.out).mono ?_
  rintro e w3 ⟨rfl, ht⟩

  rw [← HN.out]
  refine HK1.out _ _ ⟨HBd.out.turn ht fun e => e, ?_⟩
  clear HK1
  try simp only [Act.put, List.setIfInBounds_toArray, List.set_cons_zero, List.set_cons_succ]
  have hS0 := HBd.out.turn ht fun e => e
  refine alw_take (i := 22) (v := .bool false) rfl (by kernel_rfl) (by kernel_rfl) (fun _ _ _ h => h) (.inl ⟨by rfl, fun W hW => ix_neq rfl rfl rfl (decide_eq_false (fun e => e rfl))⟩) hS0 ?_
  simp only [Act.put, List.setIfInBounds_toArray, List.set_cons_zero, List.set_cons_succ]
  refine alw_take (i := 23) (v := .bool false) rfl (by kernel_rfl) (by kernel_rfl) (fun _ _ _ h => h) (.inl ⟨by rfl, fun W hW => ix_pickF rfl rfl rfl⟩) hS0 ?_
  simp only [Act.put, List.setIfInBounds_toArray, List.set_cons_zero, List.set_cons_succ]
  refine alw_done rfl ?_
  refine NoPanic.normal ?_
  clear hS0
  try simp only [Act.put, List.setIfInBounds_toArray, List.set_cons_zero, List.set_cons_succ]
  have HT3 := Lib.hid ((HT2.out.trans HD.out fun _ _ e => e).trans ht fun _ _ e => e)
  have HA3 := Lib.hid ((HOA2.out.still HD.out).still ht)
  have HB3 := Lib.hid ((HOB.out.still HD.out).still ht)
  have HZ := Lib.hid HT1.out.size
  have HAL := Lib.hid (show ∀ b, (Value.slice A n c).ownBlock = some b → b < w1.heap.size from fun b hb => by
    exact (HOAL.out.lt hb).2)
  clear ht
  go_upto_region 5 with fail
  refine wp_region_lit ?_
  refine wpList_run (v := .int .i64 0) (wanted_none rfl) (gx_assign rfl rfl) ?_
  simp only [Act.put, List.setIfInBounds_toArray, List.set_cons_zero, List.set_cons_succ]
  go_wp2_with fail
  go_loopg [7] n (fun gk iv wr => ∃ (i : Nat) (ra : List (List Value)), iv = .int .i64 (i : Int) ∧ i + gk = n ∧ Turn nowhere w wr ∧ Orw wr w.heap.size 9 1 (.slice A n c) ra ∧ Orw wr w1.heap.size 9 1 (.slice B n d) ((Sf.names l).map strL) ∧ ∀ k, i ≤ k → ra[k]? = ((Sf.names l).map strL)[k]?)
  case atStart => exact ⟨0, _, rfl, by omega, HT3.out, HA3.out, HB3.out, fun _ _ => rfl⟩
  clear HT3 HA3 HB3 HOA2 HOB HBQ HRB HBd HQ2 HD
  obtain ⟨i, ra, rfl, hil, htr, hoa, hob, hra⟩ := hrel
  have HIL := Lib.hid hil
  have HTR := Lib.hid htr
  have HOA := Lib.hid hoa
  have HOB := Lib.hid hob
  have HRA := Lib.hid hra
  clear hil htr hoa hob hra
  by_cases hlt : i < n
  · have HLT := Lib.hid hlt
    have y1 : (i : Int) < (n : Int) := by omega
    obtain ⟨nm, hnm⟩ : ∃ nm, (Sf.names l)[i]? = some nm := ⟨(Sf.names l)[i]'(by rw [HNM.out]; omega), List.getElem?_eq_getElem (by rw [HNM.out]; omega)⟩
    have hn2 : ((Sf.names l).map strL)[i]? = some (strL nm) := by rw [List.getElem?_map, hnm]; rfl
    obtain ⟨gb, curb, rfl, _, hbb, _, _⟩ := txt_set HOB.out hlt
    obtain ⟨ga, cura, rfl, hgl, hba, hsz, hset⟩ := txt_set HOA.out hlt
    have hca := HOA.out.el ((HRA.out i (Nat.le_refl _)).trans hn2) 0 _ rfl
    have hcb := HOB.out.el hn2 0 _ rfl
    have HCA := Lib.hid (show wr.cell? ⟨ga, 0 + i * 1, none⟩ = some (strV nm) from by simpa using hca)
    have HCB := Lib.hid (show wr.cell? ⟨gb, 0 + i * 1, none⟩ = some (strV nm) from by simpa using hcb)
    have HGL := Lib.hid hgl
    have HBA := Lib.hid hba
    have HSZ := Lib.hid hsz
    have HSET := Lib.hid hset
    have HNG := Lib.hid (show ¬ gb = ga from by
      have h1 := (HOB.out.lt (b := gb) rfl).1
      have h2 := HAL.out ga rfl
      omega)
    have HR2 := Lib.hid (show ∀ k, i + 1 ≤ k → (ra.set i [strV [115, 112, 111, 105, 108, 116]])[k]? = ((Sf.names l).map strL)[k]? from fun k hk => by rw [List.getElem?_set_ne (by omega)]; exact HRA.out k (by omega))
    clear hlt hnm hn2 hbb hgl hba hsz hset hca hcb
    go_upto_region 6 with fail
    refine wp_region_lit ?_
    refine wpList_run (v := .int .i64 (i : Int)) (wanted_none rfl) (exec_move rfl rfl) ?_
    simp only [Act.put, List.setIfInBounds_toArray, List.set_cons_zero, List.set_cons_succ]
    refine wpList_run (v := .slice (some ⟨ga, 0, none⟩) n c) (wanted_none rfl) (exec_move rfl rfl) ?_
    simp only [Act.put, List.setIfInBounds_toArray, List.set_cons_zero, List.set_cons_succ]
    refine wpList_run (v := .int .i64 (n : Int)) (wanted_none rfl) (gx_len rfl rfl Try.underlying52) ?_
    simp only [Act.put, List.setIfInBounds_toArray, List.set_cons_zero, List.set_cons_succ]
    refine wpList_run (v := .bool true) (wanted_none rfl) (ix_lss rfl rfl rfl (decide_eq_true y1)) ?_
    simp only [Act.put, List.setIfInBounds_toArray, List.set_cons_zero, List.set_cons_succ]
    go_upto_region 8 with fail
    refine wp_region_alw (fun W => W.cell? ⟨ga, 0 + i * 1, none⟩ = some (strV nm) ∧ W.cell? ⟨gb, 0 + i * 1, none⟩ = some (strV nm)) (by kernel_rfl) ?_
    have hS0 : (fun W => W.cell? ⟨ga, 0 + i * 1, none⟩ = some (strV nm) ∧ W.cell? ⟨gb, 0 + i * 1, none⟩ = some (strV nm)) wr.drew := ⟨HCA.out, HCB.out⟩
    have HD8 := Lib.hid ((Turn.refl nowhere wr).drew)
    have HBAd := Lib.hid (show Blk wr.drew ga 9 cura from HBA.out)
    generalize wr.drew = wd at *
    refine alw_take (i := 0) (v := .slice (some ⟨ga, 0, none⟩) n c) rfl (by kernel_rfl) (by kernel_rfl) (fun _ _ _ h => h) (.inl ⟨by rfl, fun W hW => exec_move rfl rfl⟩) hS0 ?_
    simp only [Act.put, List.setIfInBounds_toArray, List.set_cons_zero, List.set_cons_succ]
    refine alw_take (i := 1) (v := .int .i64 (i : Int)) rfl (by kernel_rfl) (by kernel_rfl) (fun _ _ _ h => h) (.inl ⟨by rfl, fun W hW => exec_move rfl rfl⟩) hS0 ?_
    simp only [Act.put, List.setIfInBounds_toArray, List.set_cons_zero, List.set_cons_succ]
    refine alw_take (i := 2) (v := .pointer (some ⟨ga, 0 + i * 1, none⟩)) rfl (by kernel_rfl) (by kernel_rfl) (fun _ _ _ h => h) (.inl ⟨by rfl, fun W hW => gx_iaddr (i := i) (sz := 1) rfl rfl rfl Try.underlying52 size_str HLT.out rfl⟩) hS0 ?_
    simp only [Act.put, List.setIfInBounds_toArray, List.set_cons_zero, List.set_cons_succ]
    refine alw_take (i := 3) (v := strV nm) rfl (by kernel_rfl) (by kernel_rfl) (fun _ _ _ h => h) (.inl ⟨by rfl, fun W hW => exec_load1 rfl rfl (by kernel_rfl) hW.1⟩) hS0 ?_
    simp only [Act.put, List.setIfInBounds_toArray, List.set_cons_zero, List.set_cons_succ]
    refine alw_take (i := 4) (v := .slice (some ⟨gb, 0, none⟩) n d) rfl (by kernel_rfl) (by kernel_rfl) (fun _ _ _ h => h) (.inl ⟨by rfl, fun W hW => exec_move rfl rfl⟩) hS0 ?_
    simp only [Act.put, List.setIfInBounds_toArray, List.set_cons_zero, List.set_cons_succ]
    refine alw_take (i := 5) (v := .int .i64 (i : Int)) rfl (by kernel_rfl) (by kernel_rfl) (fun _ _ _ h => h) (.inl ⟨by rfl, fun W hW => exec_move rfl rfl⟩) hS0 ?_
    simp only [Act.put, List.setIfInBounds_toArray, List.set_cons_zero, List.set_cons_succ]
    refine alw_take (i := 6) (v := .pointer (some ⟨gb, 0 + i * 1, none⟩)) rfl (by kernel_rfl) (by kernel_rfl) (fun _ _ _ h => h) (.inl ⟨by rfl, fun W hW => gx_iaddr (i := i) (sz := 1) rfl rfl rfl Try.underlying52 size_str HLT.out rfl⟩) hS0 ?_
    simp only [Act.put, List.setIfInBounds_toArray, List.set_cons_zero, List.set_cons_succ]
    refine alw_take (i := 7) (v := strV nm) rfl (by kernel_rfl) (by kernel_rfl) (fun _ _ _ h => h) (.inl ⟨by rfl, fun W hW => exec_load1 rfl rfl (by kernel_rfl) hW.2⟩) hS0 ?_
    simp only [Act.put, List.setIfInBounds_toArray, List.set_cons_zero, List.set_cons_succ]
    refine alw_take (i := 8) (v := .bool false) rfl (by kernel_rfl) (by kernel_rfl) (fun _ _ _ h => h) (.inl ⟨by rfl, fun W hW => (exec_sneq rfl rfl rfl).trans (by rw [beq_self_eq_true]; rfl)⟩) hS0 ?_
    simp only [Act.put, List.setIfInBounds_toArray, List.set_cons_zero, List.set_cons_succ]
    refine alw_done rfl ?_
    refine NoPanic.normal ?_
    clear hS0
    try simp only [Act.put, List.setIfInBounds_toArray, List.set_cons_zero, List.set_cons_succ]
    go_upto_region 10 with fail
    refine wp_region_lit ?_
    refine wpList_run (v := .slice (some ⟨ga, 0, none⟩) n c) (wanted_none rfl) (exec_move rfl rfl) ?_
    simp only [Act.put, List.setIfInBounds_toArray, List.set_cons_zero, List.set_cons_succ]
    refine wpList_run (v := .int .i64 (i : Int)) (wanted_none rfl) (exec_move rfl rfl) ?_
    simp only [Act.put, List.setIfInBounds_toArray, List.set_cons_zero, List.set_cons_succ]
    refine wpList_run (v := .pointer (some ⟨ga, 0 + i * 1, none⟩)) (wanted_none rfl) (gx_iaddr (i := i) (sz := 1) rfl rfl rfl Try.underlying52 size_str HLT.out rfl) ?_
    simp only [Act.put, List.setIfInBounds_toArray, List.set_cons_zero, List.set_cons_succ]
    refine wpList_storeU (0 + i * 1) (strV [115, 112, 111, 105, 108, 116]) (wanted_none rfl) 9 _ _ rfl HBAd.out rfl rfl (by have := HSZ.out; omega) ⟨rfl, rfl⟩ size_str ?_
    intro w5 hb5 ht5
    simp only [Act.put, List.setIfInBounds_toArray, List.set_cons_zero, List.set_cons_succ]
    rw [show 0 + i * 1 = i from by omega] at hb5
    have HTD := Lib.hid ((HD8.out.mono (G := only ga) fun _ _ e => e.elim).trans ht5 fun _ _ e => e)
    have HT5 := Lib.hid (newer HTR.out HGL.out HTD.out)
    have HO5 := Lib.hid (HSET.out w5 (strV [115, 112, 111, 105, 108, 116]) rfl hb5)
    have HB5 := Lib.hid (HOB.out.turn HTD.out fun b hb e => by
      have hb : gb = b := by simpa [Value.ownBlock] using hb
      exact HNG.out (hb.trans e))
    clear hb5 ht5
    go_upto_region 7 with fail
    refine wp_region_lit ?_
    refine wpList_run (v := .int .i64 (i : Int)) (wanted_none rfl) (exec_move rfl rfl) ?_
    simp only [Act.put, List.setIfInBounds_toArray, List.set_cons_zero, List.set_cons_succ]
    refine wpList_run (v := .int .i64 ((i + 1 : Nat) : Int)) (wanted_none rfl) (ix_add rfl rfl rfl (by omega) (by omega)) ?_
    simp only [Act.put, List.setIfInBounds_toArray, List.set_cons_zero, List.set_cons_succ]
    refine wpList_run (v := .int .i64 ((i + 1 : Nat) : Int)) (wanted_none rfl) (gx_assign rfl rfl) ?_
    simp only [Act.put, List.setIfInBounds_toArray, List.set_cons_zero, List.set_cons_succ]
    go_wp2_with fail
    go_roundg (gk - 1)
    case measure => have := HIL.out; have := HLT.out; omega
    case rel => exact ⟨i + 1, _, rfl, by have := HIL.out; have := HLT.out; omega, HT5.out, HO5.out, HB5.out, HR2.out⟩
  · have y1 : ¬ (i : Int) < (n : Int) := by omega
    clear hlt
    go_upto_region 6 with fail
    refine wp_region_lit ?_
    refine wpList_run (v := .int .i64 (i : Int)) (wanted_none rfl) (exec_move rfl rfl) ?_
    simp only [Act.put, List.setIfInBounds_toArray, List.set_cons_zero, List.set_cons_succ]
    refine wpList_run (v := .slice A n c) (wanted_none rfl) (exec_move rfl rfl) ?_
    simp only [Act.put, List.setIfInBounds_toArray, List.set_cons_zero, List.set_cons_succ]
    refine wpList_run (v := .int .i64 (n : Int)) (wanted_none rfl) (gx_len rfl rfl Try.underlying52) ?_
    simp only [Act.put, List.setIfInBounds_toArray, List.set_cons_zero, List.set_cons_succ]
    refine wpList_run (v := .bool false) (wanted_none rfl) (ix_lss rfl rfl rfl (decide_eq_false y1)) ?_
    simp only [Act.put, List.setIfInBounds_toArray, List.set_cons_zero, List.set_cons_succ]
    go_upto_region 11 with fail
    refine wp_region_lit ?_
    refine wpList_run (v := .bool true) (wanted_none rfl) (gx_assign rfl rfl) ?_
    simp only [Act.put, List.setIfInBounds_toArray, List.set_cons_zero, List.set_cons_succ]
    go_wp2_with fail
    go_ret
    exact ⟨rfl, HTR.out⟩
end Go.Proofs.Ytkcedcllefcboaa
