/-
  groatlaw04's FieldUnlike, walked. Conditions: the rows read as the program's text lays them.
-/
import Derived.Test.YtaabiconfgcnfabDoorFdPc
namespace Go.Proofs.YtaabiconfgcnfabDoor
open Go.RowKit
open Fdd
set_option linter.unusedVariables false
theorem put_any {f : Fm} {t : List UInt8} {W : World} (hr : RowsT W) :
    Calls Tryd.prog 8 #[.slice none 0 0, fmV f, strV t] W fun e w' => ∃ A n c, e = .returned (.tuple #[.slice A n c, .int .i64 (f.check t)]) ∧ (f.check t = 0 → Bs w' A n (f.put t)) ∧ n ≤ c ∧ Turn nowhere W w' := by
  by_cases h : f.check t = 0
  · refine (put_ok h hr).mono ?_
    rintro e w' ⟨A, n, c, rfl, hb, hn, ht⟩
    exact ⟨A, n, c, by rw [h], fun _ => hb, hn, ht⟩
  · refine (put_bad h hr).mono ?_
    rintro e w' ⟨rfl, ht⟩
    exact ⟨none, 0, 0, rfl, fun h' => absurd h' h, Nat.le_refl _, ht⟩
set_option maxRecDepth 40000 in
set_option maxHeartbeats 2000000 in
theorem fieldUnlike_walk (f : Fm) (la lb : List UInt8) (W : World) (hrows : RowsT W) :
    Calls Tryd.prog 4 #[fmV f, strV la, strV lb] W fun e w' => e = .returned (.bool true) ∧ Below W.heap.size W w' := by
  have HR := Lib.hid hrows
  clear hrows
  have hpa : ∀ W', Turn nowhere W W' → Calls Tryd.prog 8 #[.slice none 0 0, fmV f, strV la] W' fun e w' => ∃ A n c, e = .returned (.tuple #[.slice A n c, .int .i64 (f.check la)]) ∧ (f.check la = 0 → Bs w' A n (f.put la)) ∧ n ≤ c ∧ Turn nowhere W' w' :=
    fun W' hT => put_any (HR.out.turn hT)
  have hpb : ∀ W', Turn nowhere W W' → Calls Tryd.prog 8 #[.slice none 0 0, fmV f, strV lb] W' fun e w' => ∃ A n c, e = .returned (.tuple #[.slice A n c, .int .i64 (f.check lb)]) ∧ (f.check lb = 0 → Bs w' A n (f.put lb)) ∧ n ≤ c ∧ Turn nowhere W' w' :=
    fun W' hT => put_any (HR.out.turn hT)
  have HPA := Lib.hid hpa
  have HPB := Lib.hid hpb
  have hsame : f.check la = 0 → f.check lb = 0 → (f.put la == f.put lb) = (la == lb) := by
    intro h1 h2
    rw [Bool.eq_iff_iff]
    simpa using fm_inj h1 h2
  have HSAME := Lib.hid hsame
  clear hpa hpb hsame
  generalize f.check la = ca at *
  generalize f.check lb = cb at *
  generalize f.put la = pa at *
  generalize f.put lb = pb at *
  obtain ⟨x0, x1, x2⟩ := f
  have hfv : fmV ⟨x0, x1, x2⟩ = .agg #[.int .i64 x0, .int .i64 x1, .int .i64 x2] := rfl
  rw [hfv] at HPA HPB ⊢
  clear hfv
  go_enter Tryd.func4, Tryd.ntmps4
  go_upto_region 1 with fail
  have hb0 := Blk.new W 23 #[.int .i64 x0, .int .i64 x1, .int .i64 x2]
  have ht0 := (Turn.refl nowhere W).alloc (.cells #[.int .i64 x0, .int .i64 x1, .int .i64 x2] 23)
  generalize (W.alloc (.cells #[.int .i64 x0, .int .i64 x1, .int .i64 x2] 23)) = w0 at *
  obtain ⟨b3, hb3⟩ : ∃ b3, b3 = W.heap.size := ⟨_, rfl⟩
  rw [← hb3] at hb0 ⊢
  have HB0 := Lib.hid hb0
  have HT0 := Lib.hid ht0
  clear hb0 ht0 hb3
  go_upto_region 2 with (go_at_call 7; refine (shown_walk _ (HR.out.turn HT0.out)).mono ?_; rintro e w1 ⟨rfl, ht1⟩)
  have HT1 := Lib.hid (HT0.out.trans ht1 (fun _ _ e => e))
  have HB1 := Lib.hid (HB0.out.turn ht1 (fun e => e))
  clear ht1
  refine wp_region_lit ?_
  refine wpList_run (v := .agg #[.int .i64 x0, .int .i64 x1, .int .i64 x2]) rfl (exec_load rfl rfl (load_blkForm HB1.out)) ?_
  simp only [Act.put, List.setIfInBounds_toArray, List.set_cons_zero, List.set_cons_succ]
  refine wpList_run (v := strV la) rfl (exec_move rfl rfl) ?_
  simp only [Act.put, List.setIfInBounds_toArray, List.set_cons_zero, List.set_cons_succ]
  go_upto_region 3 with (go_at_call 8; refine (HPA.out _ HT1.out).mono ?_; rintro e w2 ⟨A2, n2, c2, rfl, ho2, hn2, ht2⟩)
  have HO2 := Lib.hid ho2
  have HT2 := Lib.hid (HT1.out.trans ht2 (fun _ _ e => e))
  have HB2 := Lib.hid (HB1.out.turn ht2 (fun e => e))
  clear ho2 ht2
  refine wp_region_lit ?_
  refine wpList_run (v := .agg #[.int .i64 x0, .int .i64 x1, .int .i64 x2]) rfl (exec_load rfl rfl (load_blkForm HB2.out)) ?_
  simp only [Act.put, List.setIfInBounds_toArray, List.set_cons_zero, List.set_cons_succ]
  refine wpList_run (v := strV lb) rfl (exec_move rfl rfl) ?_
  simp only [Act.put, List.setIfInBounds_toArray, List.set_cons_zero, List.set_cons_succ]
  go_upto_region 4 with (go_at_call 8; refine (HPB.out _ HT2.out).mono ?_; rintro e w3 ⟨A3, n3, c3, rfl, ho3, hn3, ht3⟩)
  have HO3 := Lib.hid ho3
  have HO2' := Lib.hid (fun h => bs_turn (HO2.out h) ht3)
  have HT3 := Lib.hid (HT2.out.trans ht3 (fun _ _ e => e))
  clear ho3 ht3
  have hfin : Below W.heap.size W w3 := HT3.out.below (Nat.le_refl _) (fun _ _ e => e)
  clear HT0 HT1 HT2 HT3 HB0 HB1 HB2 HPA HPB HO2 HR
  have HFIN := Lib.hid hfin
  clear hfin
  by_cases h1 : ca = 0
  · by_cases h2 : cb = 0
    · subst h1
      subst h2
      have hs := HSAME.out rfl rfl
      have HSS := Lib.hid hs
      clear hs
      refine wp_region_lit ?_
      refine wpList_run (v := .bool true) rfl (exec_move rfl rfl) ?_
      simp only [Act.put, List.setIfInBounds_toArray, List.set_cons_zero, List.set_cons_succ]
      refine wpList_run (v := .bool true) rfl (exec_move rfl rfl) ?_
      simp only [Act.put, List.setIfInBounds_toArray, List.set_cons_zero, List.set_cons_succ]
      refine wpList_run (v := .int .i64 0) rfl (exec_move rfl rfl) ?_
      simp only [Act.put, List.setIfInBounds_toArray, List.set_cons_zero, List.set_cons_succ]
      refine wpList_run (v := .bool false) (w' := w3) rfl (by go_simp) ?_
      simp only [Act.put, List.setIfInBounds_toArray, List.set_cons_zero, List.set_cons_succ]
      refine wpList_run (v := .bool false) rfl (exec_move rfl rfl) ?_
      simp only [Act.put, List.setIfInBounds_toArray, List.set_cons_zero, List.set_cons_succ]
      refine wpList_run (v := .int .i64 0) rfl (exec_move rfl rfl) ?_
      simp only [Act.put, List.setIfInBounds_toArray, List.set_cons_zero, List.set_cons_succ]
      refine wpList_run (v := .bool false) (w' := w3) rfl (by go_simp) ?_
      simp only [Act.put, List.setIfInBounds_toArray, List.set_cons_zero, List.set_cons_succ]
      refine wpList_run (v := .bool false) (w' := w3) rfl (by go_simp) ?_
      simp only [Act.put, List.setIfInBounds_toArray, List.set_cons_zero, List.set_cons_succ]
      refine wpList_run (v := .bool false) rfl (exec_move rfl rfl) ?_
      simp only [Act.put, List.setIfInBounds_toArray, List.set_cons_zero, List.set_cons_succ]
      refine wpList_run (v := .slice A2 n2 c2) rfl (exec_move rfl rfl) ?_
      simp only [Act.put, List.setIfInBounds_toArray, List.set_cons_zero, List.set_cons_succ]
      refine wpList_run (v := strV pa) (w' := w3) rfl (exec_strBs rfl rfl (HO2'.out rfl)) ?_
      simp only [Act.put, List.setIfInBounds_toArray, List.set_cons_zero, List.set_cons_succ]
      refine wpList_run (v := .slice A3 n3 c3) rfl (exec_move rfl rfl) ?_
      simp only [Act.put, List.setIfInBounds_toArray, List.set_cons_zero, List.set_cons_succ]
      refine wpList_run (v := strV pb) (w' := w3) rfl (exec_strBs rfl rfl (HO3.out rfl)) ?_
      simp only [Act.put, List.setIfInBounds_toArray, List.set_cons_zero, List.set_cons_succ]
      refine wpList_run (v := .bool (pa == pb)) (w' := w3) rfl (exec_seql rfl rfl rfl) ?_
      simp only [Act.put, List.setIfInBounds_toArray, List.set_cons_zero, List.set_cons_succ]
      refine wpList_run (v := strV la) rfl (exec_move rfl rfl) ?_
      simp only [Act.put, List.setIfInBounds_toArray, List.set_cons_zero, List.set_cons_succ]
      refine wpList_run (v := strV lb) rfl (exec_move rfl rfl) ?_
      simp only [Act.put, List.setIfInBounds_toArray, List.set_cons_zero, List.set_cons_succ]
      refine wpList_run (v := .bool (la == lb)) (w' := w3) rfl (exec_seql rfl rfl rfl) ?_
      simp only [Act.put, List.setIfInBounds_toArray, List.set_cons_zero, List.set_cons_succ]
      rw [HSS.out]
      generalize (la == lb) = q at *
      go_wp2_with fail
      go_ret
      exact ⟨by simp, HFIN.out⟩
    · have y2 : (cb == 0) = false := by simpa using h2
      subst h1
      go_wp2_with fail
      go_ret
      exact ⟨rfl, HFIN.out⟩
  · have y1 : (ca == 0) = false := by simpa using h1
    go_wp2_with fail
    go_ret
    exact ⟨rfl, HFIN.out⟩
end Go.Proofs.YtaabiconfgcnfabDoor
