/-
  groatlaw04's FieldSizes, walked. Conditions: the rows read as the program's text lays them.
-/
import Derived.Test.YtaabiconfgcnfabDoorFdUnl
namespace Go.Proofs.YtaabiconfgcnfabDoor
open Go.RowKit
open Fdd
set_option linter.unusedVariables false
set_option maxRecDepth 40000 in
set_option maxHeartbeats 2000000 in
theorem fieldSizes_walk (f : Fm) (la lb : List UInt8) (W : World) (hrows : RowsT W) :
    Calls Tryd.prog 3 #[fmV f, strV la, strV lb] W fun e w' => e = .returned (.bool true) ∧ Below W.heap.size W w' := by
  have HR := Lib.hid hrows
  clear hrows
  have hpa : ∀ W', Turn nowhere W W' → Calls Tryd.prog 8 #[.slice none 0 0, fmV f, strV la] W' fun e w' => ∃ A n c, e = .returned (.tuple #[.slice A n c, .int .i64 (f.check la)]) ∧ (f.check la = 0 → Bs w' A n (f.put la)) ∧ n ≤ c ∧ Turn nowhere W' w' :=
    fun W' hT => put_any (HR.out.turn hT)
  have hpb : ∀ W', Turn nowhere W W' → Calls Tryd.prog 8 #[.slice none 0 0, fmV f, strV lb] W' fun e w' => ∃ A n c, e = .returned (.tuple #[.slice A n c, .int .i64 (f.check lb)]) ∧ (f.check lb = 0 → Bs w' A n (f.put lb)) ∧ n ≤ c ∧ Turn nowhere W' w' :=
    fun W' hT => put_any (HR.out.turn hT)
  have HPA := Lib.hid hpa
  have HPB := Lib.hid hpb
  have hsame : f.check la = 0 → f.check lb = 0 → f.kind ≠ 2 ∨ la.length = lb.length → (f.put la).length = (f.put lb).length := fun h1 h2 h3 => fm_same h1 h2 h3
  have HSAME := Lib.hid hsame
  clear hpa hpb hsame
  generalize f.check la = ca at *
  generalize f.check lb = cb at *
  generalize f.put la = pa at *
  generalize f.put lb = pb at *
  obtain ⟨x0, x1, x2⟩ := f
  have hfv : fmV ⟨x0, x1, x2⟩ = .agg #[.int .i64 x0, .int .i64 x1, .int .i64 x2] := rfl
  rw [hfv] at HPA HPB ⊢
  clear hfv
  go_enter Tryd.func3, Tryd.ntmps3
  go_upto_region 1 with fail
  have hb0 := Blk.new W 23 #[.int .i64 x0, .int .i64 x1, .int .i64 x2]
  have ht0 := (Turn.refl nowhere W).alloc (.cells #[.int .i64 x0, .int .i64 x1, .int .i64 x2] 23)
  generalize (W.alloc (.cells #[.int .i64 x0, .int .i64 x1, .int .i64 x2] 23)) = w0 at *
  obtain ⟨b3, hb3⟩ : ∃ b3, b3 = W.heap.size := ⟨_, rfl⟩
  rw [← hb3] at hb0 ⊢
  have HB0 := Lib.hid hb0
  have HT0 := Lib.hid ht0
  clear hb0 ht0 hb3
  go_upto_region 2 with (go_at_call 7; refine (shown_walk _ (HR.out.turn HT0.out)).mono ?_; rintro e w1 ⟨rfl, ht1⟩)
  have HT1 := Lib.hid (HT0.out.trans ht1 (fun _ _ e => e))
  have HB1 := Lib.hid (HB0.out.turn ht1 (fun e => e))
  clear ht1
  refine wp_region_lit ?_
  refine wpList_run (v := .agg #[.int .i64 x0, .int .i64 x1, .int .i64 x2]) rfl (exec_load rfl rfl (load_blkForm HB1.out)) ?_
  simp only [Act.put, List.setIfInBounds_toArray, List.set_cons_zero, List.set_cons_succ]
  refine wpList_run (v := strV la) rfl (exec_move rfl rfl) ?_
  simp only [Act.put, List.setIfInBounds_toArray, List.set_cons_zero, List.set_cons_succ]
  go_upto_region 3 with (go_at_call 8; refine (HPA.out _ HT1.out).mono ?_; rintro e w2 ⟨A2, n2, c2, rfl, ho2, hn2, ht2⟩)
  have HO2 := Lib.hid ho2
  have HT2 := Lib.hid (HT1.out.trans ht2 (fun _ _ e => e))
  have HB2 := Lib.hid (HB1.out.turn ht2 (fun e => e))
  clear ho2 ht2
  refine wp_region_lit ?_
  refine wpList_run (v := .agg #[.int .i64 x0, .int .i64 x1, .int .i64 x2]) rfl (exec_load rfl rfl (load_blkForm HB2.out)) ?_
  simp only [Act.put, List.setIfInBounds_toArray, List.set_cons_zero, List.set_cons_succ]
  refine wpList_run (v := strV lb) rfl (exec_move rfl rfl) ?_
  simp only [Act.put, List.setIfInBounds_toArray, List.set_cons_zero, List.set_cons_succ]
  go_upto_region 4 with (go_at_call 8; refine (HPB.out _ HT2.out).mono ?_; rintro e w3 ⟨A3, n3, c3, rfl, ho3, hn3, ht3⟩)
  have HO3 := Lib.hid ho3
  have HO2' := Lib.hid (fun h => bs_turn (HO2.out h) ht3)
  have HT3 := Lib.hid (HT2.out.trans ht3 (fun _ _ e => e))
  have ht3' := ht3
  clear ho3 ht3
  have hfin : Below W.heap.size W w3 := HT3.out.below (Nat.le_refl _) (fun _ _ e => e)
  have HB3 := Lib.hid (HB2.out.turn ht3' (fun e => e))
  clear HT0 HT1 HT2 HT3 HB0 HB1 HB2 HPA HPB HO2 HR ht3'
  have HFIN := Lib.hid hfin
  clear hfin
  by_cases h1 : ca = 0
  · by_cases h2 : cb = 0
    · subst h1
      subst h2
      have hs := HSAME.out rfl rfl
      have hl2 := (HO2'.out rfl).1
      have hl3 := (HO3.out rfl).1
      have hsz : x0 ≠ 2 ∨ la.length = lb.length → n2 = n3 := by
        intro h
        have := hs h
        omega
      have HSS := Lib.hid hsz
      clear hs hsz hl2 hl3
      go_upto_region 6 with fail
      refine wp_region_lit ?_
      refine wpList_run (v := .pointer (some ⟨b3, 0, none⟩)) (w' := w3) rfl (by go_simp) ?_
      simp only [Act.put, List.setIfInBounds_toArray, List.set_cons_zero, List.set_cons_succ]
      refine wpList_run (v := .int .i64 x0) (w' := w3) rfl (exec_load1 rfl rfl (by kernel_rfl) (HB3.out.cell 0)) ?_
      simp only [Act.put, List.setIfInBounds_toArray, List.set_cons_zero, List.set_cons_succ]
      by_cases hk : x0 = 2
      · subst hk
        go_upto_region 7 with fail
        refine wp_region_lit ?_
        refine wpList_run (v := strV la) rfl (exec_move rfl rfl) ?_
        simp only [Act.put, List.setIfInBounds_toArray, List.set_cons_zero, List.set_cons_succ]
        refine wpList_run (v := .int .i64 la.length) (w' := w3) rfl (exec_slen rfl rfl) ?_
        simp only [Act.put, List.setIfInBounds_toArray, List.set_cons_zero, List.set_cons_succ]
        refine wpList_run (v := strV lb) rfl (exec_move rfl rfl) ?_
        simp only [Act.put, List.setIfInBounds_toArray, List.set_cons_zero, List.set_cons_succ]
        refine wpList_run (v := .int .i64 lb.length) (w' := w3) rfl (exec_slen rfl rfl) ?_
        simp only [Act.put, List.setIfInBounds_toArray, List.set_cons_zero, List.set_cons_succ]
        by_cases hl : la.length = lb.length
        · obtain rfl := HSS.out (.inr hl)
          rw [hl]
          go_wp2_with fail
          go_ret
          exact ⟨by simp, HFIN.out⟩
        · have y5 : ((la.length : Int) == (lb.length : Int)) = false := by simp; omega
          go_wp2_with fail
          go_ret
          exact ⟨by simp, HFIN.out⟩
      · obtain rfl := HSS.out (.inl hk)
        have y5 : (x0 == 2) = false := by simpa using hk
        go_wp2_with fail
        go_ret
        exact ⟨by simp, HFIN.out⟩
    · have y2 : (cb == 0) = false := by simpa using h2
      subst h1
      go_wp2_with fail
      go_ret
      exact ⟨rfl, HFIN.out⟩
  · have y1 : (ca == 0) = false := by simpa using h1
    go_wp2_with fail
    go_ret
    exact ⟨rfl, HFIN.out⟩
end Go.Proofs.YtaabiconfgcnfabDoor
