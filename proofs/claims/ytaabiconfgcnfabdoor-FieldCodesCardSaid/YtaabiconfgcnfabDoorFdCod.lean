/-
  groatlaw04's FieldCodes, walked. Conditions: the rows read as the program's text lays them.
-/
import Derived.Test.YtaabiconfgcnfabDoorFdUnl
namespace Go.Proofs.YtaabiconfgcnfabDoor
open Go.RowKit
open Fdd
set_option linter.unusedVariables false
theorem check_code {k s : Int} {c : Nat} {t : List UInt8} (hc : 1 ≤ c ∧ c ≤ 3) : Fm.check ⟨k, s, (c : Int)⟩ t = Fm.check ⟨k, s, 1⟩ t := by
  have e : Fm.may ⟨k, s, (c : Int)⟩ = Fm.may ⟨k, s, 1⟩ := by
    unfold Fm.may
    dsimp only
    rw [decide_eq_true (show 1 ≤ (c : Int) ∧ (c : Int) ≤ 3 by omega), decide_eq_true (show (1 : Int) ≤ 1 ∧ (1 : Int) ≤ 3 by omega)]
  unfold Fm.check
  rw [e]
  split
  · rename_i h
    obtain ⟨k', s', c', hf, _⟩ := fm_exp h
    injection hf with e1 e2 e3
    subst e1 e2
    rw [show Fm.right ⟨(k' : Int), (s' : Int), (c : Int)⟩ t = Fm.right ⟨(k' : Int), (s' : Int), 1⟩ t from fm_code (c' := 1)]
  · rfl
theorem take_put {f : Fm} {t : List UInt8} {W : World} {A : Option Addr} {n c : Nat} (h : f.check t = 0) (hr : RowsT W) (hb : Bs W A n (f.put t)) (hn : n ≤ c) :
    Calls Tryd.prog 9 #[.slice A n c, fmV f] W fun e w' => ∃ A' c', e = .returned (.tuple #[strV t, .slice A' 0 c', .int .i64 0]) ∧ Turn nowhere W w' := by
  have hsm := put_small h
  obtain ⟨hm, hrt⟩ := check_cases h
  obtain ⟨k, s, c', rfl, h1, h2, h3⟩ := fm_exp hm
  have e1 := fm_back (rest := []) h1 h2 h3 hrt
  rw [List.append_nil] at e1
  refine (take_main h1 h2 h3 hr hb hn (by have := hb.1; omega)).mono ?_
  rw [e1]
  rintro e w' ⟨⟨A', n', c'', rfl, ho⟩, ht⟩
  have hl := (own_bs ho).1.1
  obtain rfl : n' = 0 := by simpa using hl.symm
  exact ⟨A', c'', rfl, ht⟩
theorem put_own {f : Fm} {t : List UInt8} {W : World} (h : f.check t = 0) (hr : RowsT W) :
    Calls Tryd.prog 8 #[.slice none 0 0, fmV f, strV t] W fun e w' => ∃ A n c, e = .returned (.tuple #[.slice A n c, .int .i64 0]) ∧ Own w' W.heap.size 5 (.slice A n c) (f.put t) ∧ Turn nowhere W w' := by
  obtain ⟨hm, hrt⟩ := check_cases h
  obtain ⟨k, s, c, rfl, h1, h2, h3⟩ := fm_exp hm
  refine (put_main (cap := 0) h1 h2 h3 hrt hr (bs_nil W none) (by decide)).mono ?_
  rintro e w' ⟨A, n, c', rfl, ho, ht⟩
  rw [List.nil_append] at ho
  exact ⟨A, n, c', rfl, ho, ht⟩
theorem exec_nself {W : World} {a : Act} {o : Oper} {x y : Operand} {l : List UInt8} {t u : TypeId} (ho : o.op = .binOp .neq t x y u) (hx : a.eval x = strV l) (hy : a.eval y = strV l) : (execOp a.eval o).run Tryd.prog W = .ok (.value (.bool false)) W := by
  have h := exec_sneq (W := W) ho hx hy
  rwa [beq_self_eq_true] at h
theorem build_form3 (x y z : Int) (W : World) : (Instr.build 23 #[(0, .int .i64 x), (1, .int .i64 y), (2, .int .i64 z)]).run Tryd.prog W = .ok (.agg #[.int .i64 x, .int .i64 y, .int .i64 z]) W := by kernel_rfl
theorem zero_form (w : World) : (zeroValue 23).run Tryd.prog w = .ok (.agg #[.int .i64 0, .int .i64 0, .int .i64 0]) w := by kernel_rfl
theorem zero_arr (w : World) : (zeroValue 30).run Tryd.prog w = .ok (.agg #[.bool false, .bool false, .bool false]) w := by kernel_rfl
def arrC (v : Bool) (k : Nat) : Array Value := #[.bool (decide (0 < k) && v), .bool (decide (1 < k) && v), .bool (decide (2 < k) && v)]
set_option maxRecDepth 40000 in
set_option maxHeartbeats 2000000 in
theorem fieldCodes_walk (k0 s0 : Int) (t : List UInt8) (W : World) (hrows : RowsT W) :
    Calls Tryd.prog 5 #[.int .i64 k0, .int .i64 s0, strV t] W fun e w' => e = .returned (.bool true) ∧ Below W.heap.size W w' := by
  have HR := Lib.hid hrows
  clear hrows
  have hck : ∀ c : Nat, 1 ≤ c ∧ c ≤ 3 → Fm.check ⟨k0, s0, (c : Int)⟩ t = Fm.check ⟨k0, s0, 1⟩ t := fun c hc => check_code hc
  generalize Fm.check ⟨k0, s0, 1⟩ t = ck at *
  have HCK := Lib.hid hck
  clear hck
  go_enter Tryd.func5, Tryd.ntmps5
  go_upto_region 2 with (go_at_call 7; refine (shown_walk _ HR.out).mono ?_; rintro e w0 ⟨rfl, ht0⟩)
  refine wp_region_lit ?_
  refine wpList_run (v := _) rfl (exec_alloc rfl (zero_arr _)) ?_
  simp only [Act.put, List.setIfInBounds_toArray, List.set_cons_zero, List.set_cons_succ]
  have hb1 := Blk.new w0 30 #[.bool false, .bool false, .bool false]
  have ht1 := ht0.alloc (.cells #[.bool false, .bool false, .bool false] 30)
  have hge := ht0.size
  generalize (w0.alloc (.cells #[.bool false, .bool false, .bool false] 30)) = w1 at *
  generalize w0.heap.size = b8 at *
  have HGE := Lib.hid (show W.heap.size ≤ b8 from hge)
  have HT1 := Lib.hid ht1
  have HB1 := Lib.hid hb1
  clear hge ht1 hb1 ht0
  by_cases hz : ck = 0
  · subst hz
    go_wp2_with fail
    go_loopg [9] 3 (fun gk i wr => ∃ k : Nat, k + gk = 3 ∧ i = .int .i64 (k : Int) ∧ Blk wr b8 30 (arrC true k) ∧ Turn nowhere W wr)
    case atStart => exact ⟨0, rfl, rfl, HB1.out, HT1.out⟩
    obtain ⟨k, hkl, hi, hblk, htr⟩ := hrel
    have HKL := Lib.hid hkl
    have hkk : k = 0 ∨ k = 1 ∨ k = 2 ∨ k = 3 := by omega
    clear hkl
    rcases hkk with rfl | rfl | rfl | rfl
    · obtain rfl : _ = Value.int .i64 0 := hi
      have hput : ∀ W', Turn nowhere W W' → Calls Tryd.prog 8 #[.slice none 0 0, .agg #[.int .i64 k0, .int .i64 s0, .int .i64 1], strV t] W' fun e w' => ∃ A n c, e = .returned (.tuple #[.slice A n c, .int .i64 0]) ∧ Own w' W'.heap.size 5 (.slice A n c) (Fm.put ⟨k0, s0, 1⟩ t) ∧ Turn nowhere W' w' := fun W' hT => put_own (f := ⟨k0, s0, 1⟩) (HCK.out 1 (by decide)) (HR.out.turn hT)
      have htake : ∀ W' A n c, Turn nowhere W W' → n ≤ c → Bs W' A n (Fm.put ⟨k0, s0, 1⟩ t) → Calls Tryd.prog 9 #[.slice A n c, .agg #[.int .i64 k0, .int .i64 s0, .int .i64 1]] W' fun e w' => ∃ A' c', e = .returned (.tuple #[strV t, .slice A' 0 c', .int .i64 0]) ∧ Turn nowhere W' w' := fun W' A n c hT hn hb => take_put (f := ⟨k0, s0, 1⟩) (HCK.out 1 (by decide)) (HR.out.turn hT) hb hn
      have HPUT := Lib.hid hput
      have HTAKE := Lib.hid htake
      clear hput htake
      generalize hpv : Fm.put ⟨k0, s0, 1⟩ t = pv at *
      clear hpv
      have HBLK := Lib.hid hblk
      have HTR := Lib.hid htr
      clear hblk htr
      go_upto_region 6 with fail
      refine wp_region_lit ?_
      refine wpList_run (v := .int .i64 k0) rfl (exec_move rfl rfl) ?_
      simp only [Act.put, List.setIfInBounds_toArray, List.set_cons_zero, List.set_cons_succ]
      refine wpList_run (v := .int .i64 s0) rfl (exec_move rfl rfl) ?_
      simp only [Act.put, List.setIfInBounds_toArray, List.set_cons_zero, List.set_cons_succ]
      refine wpList_run (v := .int .i64 0) rfl (exec_move rfl rfl) ?_
      simp only [Act.put, List.setIfInBounds_toArray, List.set_cons_zero, List.set_cons_succ]
      refine wpList_run (v := .int .i64 1) (w' := wr) rfl (by go_simp; rfl) ?_
      simp only [Act.put, List.setIfInBounds_toArray, List.set_cons_zero, List.set_cons_succ]
      refine wpList_run (v := .agg #[.int .i64 k0, .int .i64 s0, .int .i64 1]) rfl (exec_build3 rfl rfl rfl rfl (build_form3 _ _ _ _)) ?_
      simp only [Act.put, List.setIfInBounds_toArray, List.set_cons_zero, List.set_cons_succ]
      refine wpList_run (v := _) rfl (exec_alloc rfl (zero_form _)) ?_
      simp only [Act.put, List.setIfInBounds_toArray, List.set_cons_zero, List.set_cons_succ]
      have hq := Blk.new wr 23 #[.int .i64 0, .int .i64 0, .int .i64 0]
      have hb1 := HBLK.out.alloc (.cells #[.int .i64 0, .int .i64 0, .int .i64 0] 23)
      have ht1 := HTR.out.alloc (.cells #[.int .i64 0, .int .i64 0, .int .i64 0] 23)
      have hlt := HBLK.out.lt
      have hle := HTR.out.size
      generalize (wr.alloc (.cells #[.int .i64 0, .int .i64 0, .int .i64 0] 23)) = w1 at *
      generalize wr.heap.size = q at *
      refine wpList_store_row rfl 23 (.tmp 10) (.tmp 25) rfl #[.int .i64 k0, .int .i64 s0, .int .i64 1] hq rfl rfl rfl size_form (by simp [Value.oneCell']) ?_
      intro w2 hq2 ht2
      have HQ := Lib.hid hq2
      have HB2 := Lib.hid (hb1.turn ht2 (fun e => by have h2 : b8 = q := e; omega))
      have HT2 := Lib.hid (show Turn nowhere W w2 from ht1.trans ht2 (fun j hj e => by have h2 : j = q := e; omega))
      have HNE := Lib.hid (show q ≠ b8 by omega)
      clear hq hb1 ht1 hlt hle hq2 ht2
      simp only [Act.put]
      go_upto_region 7 with fail
      refine wp_region_lit ?_
      refine wpList_run (v := .agg #[.int .i64 k0, .int .i64 s0, .int .i64 1]) rfl (exec_load rfl rfl (load_blkForm HQ.out)) ?_
      simp only [Act.put, List.setIfInBounds_toArray, List.set_cons_zero, List.set_cons_succ]
      refine wpList_run (v := strV t) rfl (exec_move rfl rfl) ?_
      simp only [Act.put, List.setIfInBounds_toArray, List.set_cons_zero, List.set_cons_succ]
      go_upto_region 8 with (go_at_call 8; refine (HPUT.out _ HT2.out).mono ?_; rintro e w3 ⟨A3, n3, c3, rfl, ho3, ht3⟩)
      have HO3 := Lib.hid (row_keep (w' := w3.setCell ⟨b8, 0, none⟩ (.bool true)) ho3 (fun g hg => heap_setCell_other w3 ⟨b8, 0, none⟩ g _ (by
        have h1 := (ho3.lt g hg).1
        have h2 := HB2.out.lt
        show g ≠ b8
        omega)))
      have HQ3 := Lib.hid ((HQ.out.turn ht3 (fun e => e)).far (p := ⟨b8, 0, none⟩) HNE.out (.bool true))
      have hb3 := HB2.out.turn ht3 (fun e => e)
      have ht3' := HT2.out.trans ht3 (fun _ _ e => e)
      have g0 : ∃ u, w3.cell? ⟨b8, 0, none⟩ = some u := ⟨_, hb3.cell 0⟩
      obtain ⟨u, g0⟩ := g0
      have g1 := hb3.frozen 0
      have HB4 := Lib.hid (show Blk (w3.setCell ⟨b8, 0, none⟩ (.bool true)) b8 30 (arrC true 1) from hb3.set_ 0 (.bool true))
      have HT4 := Lib.hid (ht3'.setCell (p := ⟨b8, 0, none⟩) (fun hb => by have := HGE.out; have hb' : b8 < W.heap.size := hb; omega) (.bool true))
      clear ht3 ht3' hb3
      go_upto_region 10 with fail
      generalize (w3.setCell ⟨b8, 0, none⟩ (.bool true)) = w4 at *
      refine wp_region_lit ?_
      refine wpList_run (v := .slice A3 n3 c3) rfl (exec_move rfl rfl) ?_
      simp only [Act.put, List.setIfInBounds_toArray, List.set_cons_zero, List.set_cons_succ]
      refine wpList_run (v := .agg #[.int .i64 k0, .int .i64 s0, .int .i64 1]) rfl (exec_load rfl rfl (load_blkForm HQ3.out)) ?_
      simp only [Act.put, List.setIfInBounds_toArray, List.set_cons_zero, List.set_cons_succ]
      go_upto_region 11 with (go_at_call 9; refine (HTAKE.out _ A3 n3 c3 HT4.out (own_bs HO3.out).2.1 (own_bs HO3.out).1).mono ?_; rintro e w5 ⟨A5, c5, rfl, ht5⟩)
      have HB5 := Lib.hid (HB4.out.turn ht5 (fun e => e))
      have HT5 := Lib.hid (HT4.out.trans ht5 (fun _ _ e => e))
      clear ht5
      refine wp_region_lit ?_
      refine wpList_run (v := .int .i64 0) rfl (exec_move rfl rfl) ?_
      simp only [Act.put, List.setIfInBounds_toArray, List.set_cons_zero, List.set_cons_succ]
      refine wpList_run (v := .bool false) (w' := w5) rfl (by go_simp) ?_
      simp only [Act.put, List.setIfInBounds_toArray, List.set_cons_zero, List.set_cons_succ]
      refine wpList_run (v := .bool false) rfl (exec_move rfl rfl) ?_
      simp only [Act.put, List.setIfInBounds_toArray, List.set_cons_zero, List.set_cons_succ]
      refine wpList_run (v := strV t) rfl (exec_move rfl rfl) ?_
      simp only [Act.put, List.setIfInBounds_toArray, List.set_cons_zero, List.set_cons_succ]
      refine wpList_run (v := strV t) rfl (exec_move rfl rfl) ?_
      simp only [Act.put, List.setIfInBounds_toArray, List.set_cons_zero, List.set_cons_succ]
      refine wpList_run (v := .bool false) (w' := w5) rfl (exec_nself rfl rfl rfl) ?_
      simp only [Act.put, List.setIfInBounds_toArray, List.set_cons_zero, List.set_cons_succ]
      go_wp2_with fail
      go_roundg (gk - 1)
      case measure => have := HKL.out; omega
      case rel => exact ⟨1, by have := HKL.out; omega, rfl, HB5.out, HT5.out⟩
    · obtain rfl : _ = Value.int .i64 1 := hi
      have hput : ∀ W', Turn nowhere W W' → Calls Tryd.prog 8 #[.slice none 0 0, .agg #[.int .i64 k0, .int .i64 s0, .int .i64 2], strV t] W' fun e w' => ∃ A n c, e = .returned (.tuple #[.slice A n c, .int .i64 0]) ∧ Own w' W'.heap.size 5 (.slice A n c) (Fm.put ⟨k0, s0, 2⟩ t) ∧ Turn nowhere W' w' := fun W' hT => put_own (f := ⟨k0, s0, 2⟩) (HCK.out 2 (by decide)) (HR.out.turn hT)
      have htake : ∀ W' A n c, Turn nowhere W W' → n ≤ c → Bs W' A n (Fm.put ⟨k0, s0, 2⟩ t) → Calls Tryd.prog 9 #[.slice A n c, .agg #[.int .i64 k0, .int .i64 s0, .int .i64 2]] W' fun e w' => ∃ A' c', e = .returned (.tuple #[strV t, .slice A' 0 c', .int .i64 0]) ∧ Turn nowhere W' w' := fun W' A n c hT hn hb => take_put (f := ⟨k0, s0, 2⟩) (HCK.out 2 (by decide)) (HR.out.turn hT) hb hn
      have HPUT := Lib.hid hput
      have HTAKE := Lib.hid htake
      clear hput htake
      generalize hpv : Fm.put ⟨k0, s0, 2⟩ t = pv at *
      clear hpv
      have HBLK := Lib.hid hblk
      have HTR := Lib.hid htr
      clear hblk htr
      go_upto_region 6 with fail
      refine wp_region_lit ?_
      refine wpList_run (v := .int .i64 k0) rfl (exec_move rfl rfl) ?_
      simp only [Act.put, List.setIfInBounds_toArray, List.set_cons_zero, List.set_cons_succ]
      refine wpList_run (v := .int .i64 s0) rfl (exec_move rfl rfl) ?_
      simp only [Act.put, List.setIfInBounds_toArray, List.set_cons_zero, List.set_cons_succ]
      refine wpList_run (v := .int .i64 1) rfl (exec_move rfl rfl) ?_
      simp only [Act.put, List.setIfInBounds_toArray, List.set_cons_zero, List.set_cons_succ]
      refine wpList_run (v := .int .i64 2) (w' := wr) rfl (by go_simp; rfl) ?_
      simp only [Act.put, List.setIfInBounds_toArray, List.set_cons_zero, List.set_cons_succ]
      refine wpList_run (v := .agg #[.int .i64 k0, .int .i64 s0, .int .i64 2]) rfl (exec_build3 rfl rfl rfl rfl (build_form3 _ _ _ _)) ?_
      simp only [Act.put, List.setIfInBounds_toArray, List.set_cons_zero, List.set_cons_succ]
      refine wpList_run (v := _) rfl (exec_alloc rfl (zero_form _)) ?_
      simp only [Act.put, List.setIfInBounds_toArray, List.set_cons_zero, List.set_cons_succ]
      have hq := Blk.new wr 23 #[.int .i64 0, .int .i64 0, .int .i64 0]
      have hb1 := HBLK.out.alloc (.cells #[.int .i64 0, .int .i64 0, .int .i64 0] 23)
      have ht1 := HTR.out.alloc (.cells #[.int .i64 0, .int .i64 0, .int .i64 0] 23)
      have hlt := HBLK.out.lt
      have hle := HTR.out.size
      generalize (wr.alloc (.cells #[.int .i64 0, .int .i64 0, .int .i64 0] 23)) = w1 at *
      generalize wr.heap.size = q at *
      refine wpList_store_row rfl 23 (.tmp 10) (.tmp 25) rfl #[.int .i64 k0, .int .i64 s0, .int .i64 2] hq rfl rfl rfl size_form (by simp [Value.oneCell']) ?_
      intro w2 hq2 ht2
      have HQ := Lib.hid hq2
      have HB2 := Lib.hid (hb1.turn ht2 (fun e => by have h2 : b8 = q := e; omega))
      have HT2 := Lib.hid (show Turn nowhere W w2 from ht1.trans ht2 (fun j hj e => by have h2 : j = q := e; omega))
      have HNE := Lib.hid (show q ≠ b8 by omega)
      clear hq hb1 ht1 hlt hle hq2 ht2
      simp only [Act.put]
      go_upto_region 7 with fail
      refine wp_region_lit ?_
      refine wpList_run (v := .agg #[.int .i64 k0, .int .i64 s0, .int .i64 2]) rfl (exec_load rfl rfl (load_blkForm HQ.out)) ?_
      simp only [Act.put, List.setIfInBounds_toArray, List.set_cons_zero, List.set_cons_succ]
      refine wpList_run (v := strV t) rfl (exec_move rfl rfl) ?_
      simp only [Act.put, List.setIfInBounds_toArray, List.set_cons_zero, List.set_cons_succ]
      go_upto_region 8 with (go_at_call 8; refine (HPUT.out _ HT2.out).mono ?_; rintro e w3 ⟨A3, n3, c3, rfl, ho3, ht3⟩)
      have HO3 := Lib.hid (row_keep (w' := w3.setCell ⟨b8, 1, none⟩ (.bool true)) ho3 (fun g hg => heap_setCell_other w3 ⟨b8, 1, none⟩ g _ (by
        have h1 := (ho3.lt g hg).1
        have h2 := HB2.out.lt
        show g ≠ b8
        omega)))
      have HQ3 := Lib.hid ((HQ.out.turn ht3 (fun e => e)).far (p := ⟨b8, 1, none⟩) HNE.out (.bool true))
      have hb3 := HB2.out.turn ht3 (fun e => e)
      have ht3' := HT2.out.trans ht3 (fun _ _ e => e)
      have g0 : ∃ u, w3.cell? ⟨b8, 1, none⟩ = some u := ⟨_, hb3.cell 1⟩
      obtain ⟨u, g0⟩ := g0
      have g1 := hb3.frozen 1
      have HB4 := Lib.hid (show Blk (w3.setCell ⟨b8, 1, none⟩ (.bool true)) b8 30 (arrC true 2) from hb3.set_ 1 (.bool true))
      have HT4 := Lib.hid (ht3'.setCell (p := ⟨b8, 1, none⟩) (fun hb => by have := HGE.out; have hb' : b8 < W.heap.size := hb; omega) (.bool true))
      clear ht3 ht3' hb3
      go_upto_region 10 with fail
      generalize (w3.setCell ⟨b8, 1, none⟩ (.bool true)) = w4 at *
      refine wp_region_lit ?_
      refine wpList_run (v := .slice A3 n3 c3) rfl (exec_move rfl rfl) ?_
      simp only [Act.put, List.setIfInBounds_toArray, List.set_cons_zero, List.set_cons_succ]
      refine wpList_run (v := .agg #[.int .i64 k0, .int .i64 s0, .int .i64 2]) rfl (exec_load rfl rfl (load_blkForm HQ3.out)) ?_
      simp only [Act.put, List.setIfInBounds_toArray, List.set_cons_zero, List.set_cons_succ]
      go_upto_region 11 with (go_at_call 9; refine (HTAKE.out _ A3 n3 c3 HT4.out (own_bs HO3.out).2.1 (own_bs HO3.out).1).mono ?_; rintro e w5 ⟨A5, c5, rfl, ht5⟩)
      have HB5 := Lib.hid (HB4.out.turn ht5 (fun e => e))
      have HT5 := Lib.hid (HT4.out.trans ht5 (fun _ _ e => e))
      clear ht5
      refine wp_region_lit ?_
      refine wpList_run (v := .int .i64 0) rfl (exec_move rfl rfl) ?_
      simp only [Act.put, List.setIfInBounds_toArray, List.set_cons_zero, List.set_cons_succ]
      refine wpList_run (v := .bool false) (w' := w5) rfl (by go_simp) ?_
      simp only [Act.put, List.setIfInBounds_toArray, List.set_cons_zero, List.set_cons_succ]
      refine wpList_run (v := .bool false) rfl (exec_move rfl rfl) ?_
      simp only [Act.put, List.setIfInBounds_toArray, List.set_cons_zero, List.set_cons_succ]
      refine wpList_run (v := strV t) rfl (exec_move rfl rfl) ?_
      simp only [Act.put, List.setIfInBounds_toArray, List.set_cons_zero, List.set_cons_succ]
      refine wpList_run (v := strV t) rfl (exec_move rfl rfl) ?_
      simp only [Act.put, List.setIfInBounds_toArray, List.set_cons_zero, List.set_cons_succ]
      refine wpList_run (v := .bool false) (w' := w5) rfl (exec_nself rfl rfl rfl) ?_
      simp only [Act.put, List.setIfInBounds_toArray, List.set_cons_zero, List.set_cons_succ]
      go_wp2_with fail
      go_roundg (gk - 1)
      case measure => have := HKL.out; omega
      case rel => exact ⟨2, by have := HKL.out; omega, rfl, HB5.out, HT5.out⟩
    · obtain rfl : _ = Value.int .i64 2 := hi
      have hput : ∀ W', Turn nowhere W W' → Calls Tryd.prog 8 #[.slice none 0 0, .agg #[.int .i64 k0, .int .i64 s0, .int .i64 3], strV t] W' fun e w' => ∃ A n c, e = .returned (.tuple #[.slice A n c, .int .i64 0]) ∧ Own w' W'.heap.size 5 (.slice A n c) (Fm.put ⟨k0, s0, 3⟩ t) ∧ Turn nowhere W' w' := fun W' hT => put_own (f := ⟨k0, s0, 3⟩) (HCK.out 3 (by decide)) (HR.out.turn hT)
      have htake : ∀ W' A n c, Turn nowhere W W' → n ≤ c → Bs W' A n (Fm.put ⟨k0, s0, 3⟩ t) → Calls Tryd.prog 9 #[.slice A n c, .agg #[.int .i64 k0, .int .i64 s0, .int .i64 3]] W' fun e w' => ∃ A' c', e = .returned (.tuple #[strV t, .slice A' 0 c', .int .i64 0]) ∧ Turn nowhere W' w' := fun W' A n c hT hn hb => take_put (f := ⟨k0, s0, 3⟩) (HCK.out 3 (by decide)) (HR.out.turn hT) hb hn
      have HPUT := Lib.hid hput
      have HTAKE := Lib.hid htake
      clear hput htake
      generalize hpv : Fm.put ⟨k0, s0, 3⟩ t = pv at *
      clear hpv
      have HBLK := Lib.hid hblk
      have HTR := Lib.hid htr
      clear hblk htr
      go_upto_region 6 with fail
      refine wp_region_lit ?_
      refine wpList_run (v := .int .i64 k0) rfl (exec_move rfl rfl) ?_
      simp only [Act.put, List.setIfInBounds_toArray, List.set_cons_zero, List.set_cons_succ]
      refine wpList_run (v := .int .i64 s0) rfl (exec_move rfl rfl) ?_
      simp only [Act.put, List.setIfInBounds_toArray, List.set_cons_zero, List.set_cons_succ]
      refine wpList_run (v := .int .i64 2) rfl (exec_move rfl rfl) ?_
      simp only [Act.put, List.setIfInBounds_toArray, List.set_cons_zero, List.set_cons_succ]
      refine wpList_run (v := .int .i64 3) (w' := wr) rfl (by go_simp; rfl) ?_
      simp only [Act.put, List.setIfInBounds_toArray, List.set_cons_zero, List.set_cons_succ]
      refine wpList_run (v := .agg #[.int .i64 k0, .int .i64 s0, .int .i64 3]) rfl (exec_build3 rfl rfl rfl rfl (build_form3 _ _ _ _)) ?_
      simp only [Act.put, List.setIfInBounds_toArray, List.set_cons_zero, List.set_cons_succ]
      refine wpList_run (v := _) rfl (exec_alloc rfl (zero_form _)) ?_
      simp only [Act.put, List.setIfInBounds_toArray, List.set_cons_zero, List.set_cons_succ]
      have hq := Blk.new wr 23 #[.int .i64 0, .int .i64 0, .int .i64 0]
      have hb1 := HBLK.out.alloc (.cells #[.int .i64 0, .int .i64 0, .int .i64 0] 23)
      have ht1 := HTR.out.alloc (.cells #[.int .i64 0, .int .i64 0, .int .i64 0] 23)
      have hlt := HBLK.out.lt
      have hle := HTR.out.size
      generalize (wr.alloc (.cells #[.int .i64 0, .int .i64 0, .int .i64 0] 23)) = w1 at *
      generalize wr.heap.size = q at *
      refine wpList_store_row rfl 23 (.tmp 10) (.tmp 25) rfl #[.int .i64 k0, .int .i64 s0, .int .i64 3] hq rfl rfl rfl size_form (by simp [Value.oneCell']) ?_
      intro w2 hq2 ht2
      have HQ := Lib.hid hq2
      have HB2 := Lib.hid (hb1.turn ht2 (fun e => by have h2 : b8 = q := e; omega))
      have HT2 := Lib.hid (show Turn nowhere W w2 from ht1.trans ht2 (fun j hj e => by have h2 : j = q := e; omega))
      have HNE := Lib.hid (show q ≠ b8 by omega)
      clear hq hb1 ht1 hlt hle hq2 ht2
      simp only [Act.put]
      go_upto_region 7 with fail
      refine wp_region_lit ?_
      refine wpList_run (v := .agg #[.int .i64 k0, .int .i64 s0, .int .i64 3]) rfl (exec_load rfl rfl (load_blkForm HQ.out)) ?_
      simp only [Act.put, List.setIfInBounds_toArray, List.set_cons_zero, List.set_cons_succ]
      refine wpList_run (v := strV t) rfl (exec_move rfl rfl) ?_
      simp only [Act.put, List.setIfInBounds_toArray, List.set_cons_zero, List.set_cons_succ]
      go_upto_region 8 with (go_at_call 8; refine (HPUT.out _ HT2.out).mono ?_; rintro e w3 ⟨A3, n3, c3, rfl, ho3, ht3⟩)
      have HO3 := Lib.hid (row_keep (w' := w3.setCell ⟨b8, 2, none⟩ (.bool true)) ho3 (fun g hg => heap_setCell_other w3 ⟨b8, 2, none⟩ g _ (by
        have h1 := (ho3.lt g hg).1
        have h2 := HB2.out.lt
        show g ≠ b8
        omega)))
      have HQ3 := Lib.hid ((HQ.out.turn ht3 (fun e => e)).far (p := ⟨b8, 2, none⟩) HNE.out (.bool true))
      have hb3 := HB2.out.turn ht3 (fun e => e)
      have ht3' := HT2.out.trans ht3 (fun _ _ e => e)
      have g0 : ∃ u, w3.cell? ⟨b8, 2, none⟩ = some u := ⟨_, hb3.cell 2⟩
      obtain ⟨u, g0⟩ := g0
      have g1 := hb3.frozen 2
      have HB4 := Lib.hid (show Blk (w3.setCell ⟨b8, 2, none⟩ (.bool true)) b8 30 (arrC true 3) from hb3.set_ 2 (.bool true))
      have HT4 := Lib.hid (ht3'.setCell (p := ⟨b8, 2, none⟩) (fun hb => by have := HGE.out; have hb' : b8 < W.heap.size := hb; omega) (.bool true))
      clear ht3 ht3' hb3
      go_upto_region 10 with fail
      generalize (w3.setCell ⟨b8, 2, none⟩ (.bool true)) = w4 at *
      refine wp_region_lit ?_
      refine wpList_run (v := .slice A3 n3 c3) rfl (exec_move rfl rfl) ?_
      simp only [Act.put, List.setIfInBounds_toArray, List.set_cons_zero, List.set_cons_succ]
      refine wpList_run (v := .agg #[.int .i64 k0, .int .i64 s0, .int .i64 3]) rfl (exec_load rfl rfl (load_blkForm HQ3.out)) ?_
      simp only [Act.put, List.setIfInBounds_toArray, List.set_cons_zero, List.set_cons_succ]
      go_upto_region 11 with (go_at_call 9; refine (HTAKE.out _ A3 n3 c3 HT4.out (own_bs HO3.out).2.1 (own_bs HO3.out).1).mono ?_; rintro e w5 ⟨A5, c5, rfl, ht5⟩)
      have HB5 := Lib.hid (HB4.out.turn ht5 (fun e => e))
      have HT5 := Lib.hid (HT4.out.trans ht5 (fun _ _ e => e))
      clear ht5
      refine wp_region_lit ?_
      refine wpList_run (v := .int .i64 0) rfl (exec_move rfl rfl) ?_
      simp only [Act.put, List.setIfInBounds_toArray, List.set_cons_zero, List.set_cons_succ]
      refine wpList_run (v := .bool false) (w' := w5) rfl (by go_simp) ?_
      simp only [Act.put, List.setIfInBounds_toArray, List.set_cons_zero, List.set_cons_succ]
      refine wpList_run (v := .bool false) rfl (exec_move rfl rfl) ?_
      simp only [Act.put, List.setIfInBounds_toArray, List.set_cons_zero, List.set_cons_succ]
      refine wpList_run (v := strV t) rfl (exec_move rfl rfl) ?_
      simp only [Act.put, List.setIfInBounds_toArray, List.set_cons_zero, List.set_cons_succ]
      refine wpList_run (v := strV t) rfl (exec_move rfl rfl) ?_
      simp only [Act.put, List.setIfInBounds_toArray, List.set_cons_zero, List.set_cons_succ]
      refine wpList_run (v := .bool false) (w' := w5) rfl (exec_nself rfl rfl rfl) ?_
      simp only [Act.put, List.setIfInBounds_toArray, List.set_cons_zero, List.set_cons_succ]
      go_wp2_with fail
      go_roundg (gk - 1)
      case measure => have := HKL.out; omega
      case rel => exact ⟨3, by have := HKL.out; omega, rfl, HB5.out, HT5.out⟩
    · obtain rfl : _ = Value.int .i64 3 := hi
      have HBLK := Lib.hid hblk
      have HTR := Lib.hid htr
      have c0 : wr.cell? ⟨b8, 0, none⟩ = some (.bool true) := hblk.cell 0
      have c1 : wr.cell? ⟨b8, 1, none⟩ = some (.bool true) := hblk.cell 1
      have c2 : wr.cell? ⟨b8, 2, none⟩ = some (.bool true) := hblk.cell 2
      clear hblk htr
      go_wp2_with fail
      go_ret
      exact ⟨rfl, HTR.out.below (Nat.le_refl _) (fun _ _ e => e)⟩
  · have y0 : (ck == 0) = false := by simpa using hz
    have HNZ := Lib.hid hz
    clear hz
    go_wp2_with fail
    go_loopg [9] 3 (fun gk i wr => ∃ k : Nat, k + gk = 3 ∧ i = .int .i64 (k : Int) ∧ Blk wr b8 30 (arrC false k) ∧ Turn nowhere W wr)
    case atStart => exact ⟨0, rfl, rfl, HB1.out, HT1.out⟩
    obtain ⟨k, hkl, hi, hblk, htr⟩ := hrel
    have HKL := Lib.hid hkl
    have hkk : k = 0 ∨ k = 1 ∨ k = 2 ∨ k = 3 := by omega
    clear hkl
    rcases hkk with rfl | rfl | rfl | rfl
    · obtain rfl : _ = Value.int .i64 0 := hi
      have hput : ∀ W', Turn nowhere W W' → Calls Tryd.prog 8 #[.slice none 0 0, .agg #[.int .i64 k0, .int .i64 s0, .int .i64 1], strV t] W' fun e w' => e = .returned (.tuple #[.slice none 0 0, .int .i64 ck]) ∧ Turn nowhere W' w' := by
        intro W' hT
        have h1 := HCK.out 1 (by decide)
        have h2 := put_bad (f := ⟨k0, s0, 1⟩) (A := none) (n := 0) (cap := 0) (t := t) (by rw [show Fm.check ⟨k0, s0, 1⟩ t = ck from h1]; exact HNZ.out) (HR.out.turn hT)
        rwa [show Fm.check ⟨k0, s0, 1⟩ t = ck from h1] at h2
      have HPUT := Lib.hid hput
      clear hput
      have HBLK := Lib.hid hblk
      have HTR := Lib.hid htr
      clear hblk htr
      go_upto_region 6 with fail
      refine wp_region_lit ?_
      refine wpList_run (v := .int .i64 k0) rfl (exec_move rfl rfl) ?_
      simp only [Act.put, List.setIfInBounds_toArray, List.set_cons_zero, List.set_cons_succ]
      refine wpList_run (v := .int .i64 s0) rfl (exec_move rfl rfl) ?_
      simp only [Act.put, List.setIfInBounds_toArray, List.set_cons_zero, List.set_cons_succ]
      refine wpList_run (v := .int .i64 0) rfl (exec_move rfl rfl) ?_
      simp only [Act.put, List.setIfInBounds_toArray, List.set_cons_zero, List.set_cons_succ]
      refine wpList_run (v := .int .i64 1) (w' := wr) rfl (by go_simp; rfl) ?_
      simp only [Act.put, List.setIfInBounds_toArray, List.set_cons_zero, List.set_cons_succ]
      refine wpList_run (v := .agg #[.int .i64 k0, .int .i64 s0, .int .i64 1]) rfl (exec_build3 rfl rfl rfl rfl (build_form3 _ _ _ _)) ?_
      simp only [Act.put, List.setIfInBounds_toArray, List.set_cons_zero, List.set_cons_succ]
      refine wpList_run (v := _) rfl (exec_alloc rfl (zero_form _)) ?_
      simp only [Act.put, List.setIfInBounds_toArray, List.set_cons_zero, List.set_cons_succ]
      have hq := Blk.new wr 23 #[.int .i64 0, .int .i64 0, .int .i64 0]
      have hb1 := HBLK.out.alloc (.cells #[.int .i64 0, .int .i64 0, .int .i64 0] 23)
      have ht1 := HTR.out.alloc (.cells #[.int .i64 0, .int .i64 0, .int .i64 0] 23)
      have hlt := HBLK.out.lt
      have hle := HTR.out.size
      generalize (wr.alloc (.cells #[.int .i64 0, .int .i64 0, .int .i64 0] 23)) = w1 at *
      generalize wr.heap.size = q at *
      refine wpList_store_row rfl 23 (.tmp 10) (.tmp 25) rfl #[.int .i64 k0, .int .i64 s0, .int .i64 1] hq rfl rfl rfl size_form (by simp [Value.oneCell']) ?_
      intro w2 hq2 ht2
      have HQ := Lib.hid hq2
      have HB2 := Lib.hid (hb1.turn ht2 (fun e => by have h2 : b8 = q := e; omega))
      have HT2 := Lib.hid (show Turn nowhere W w2 from ht1.trans ht2 (fun j hj e => by have h2 : j = q := e; omega))
      have HNE := Lib.hid (show q ≠ b8 by omega)
      clear hq hb1 ht1 hlt hle hq2 ht2
      simp only [Act.put]
      go_upto_region 7 with fail
      refine wp_region_lit ?_
      refine wpList_run (v := .agg #[.int .i64 k0, .int .i64 s0, .int .i64 1]) rfl (exec_load rfl rfl (load_blkForm HQ.out)) ?_
      simp only [Act.put, List.setIfInBounds_toArray, List.set_cons_zero, List.set_cons_succ]
      refine wpList_run (v := strV t) rfl (exec_move rfl rfl) ?_
      simp only [Act.put, List.setIfInBounds_toArray, List.set_cons_zero, List.set_cons_succ]
      go_upto_region 8 with (go_at_call 8; refine (HPUT.out _ HT2.out).mono ?_; rintro e w3 ⟨rfl, ht3⟩)
      have hb3 := HB2.out.turn ht3 (fun e => e)
      have ht3' := HT2.out.trans ht3 (fun _ _ e => e)
      have g0 : ∃ u, w3.cell? ⟨b8, 0, none⟩ = some u := ⟨_, hb3.cell 0⟩
      obtain ⟨u, g0⟩ := g0
      have g1 := hb3.frozen 0
      have HB4 := Lib.hid (show Blk (w3.setCell ⟨b8, 0, none⟩ (.bool false)) b8 30 (arrC false 1) from hb3.set_ 0 (.bool false))
      have HT4 := Lib.hid (ht3'.setCell (p := ⟨b8, 0, none⟩) (fun hb => by have := HGE.out; have hb' : b8 < W.heap.size := hb; omega) (.bool false))
      clear ht3 ht3' hb3
      go_wp2_with fail
      go_roundg (gk - 1)
      case measure => have := HKL.out; omega
      case rel => exact ⟨1, by have := HKL.out; omega, rfl, HB4.out, HT4.out⟩
    · obtain rfl : _ = Value.int .i64 1 := hi
      have hput : ∀ W', Turn nowhere W W' → Calls Tryd.prog 8 #[.slice none 0 0, .agg #[.int .i64 k0, .int .i64 s0, .int .i64 2], strV t] W' fun e w' => e = .returned (.tuple #[.slice none 0 0, .int .i64 ck]) ∧ Turn nowhere W' w' := by
        intro W' hT
        have h1 := HCK.out 2 (by decide)
        have h2 := put_bad (f := ⟨k0, s0, 2⟩) (A := none) (n := 0) (cap := 0) (t := t) (by rw [show Fm.check ⟨k0, s0, 2⟩ t = ck from h1]; exact HNZ.out) (HR.out.turn hT)
        rwa [show Fm.check ⟨k0, s0, 2⟩ t = ck from h1] at h2
      have HPUT := Lib.hid hput
      clear hput
      have HBLK := Lib.hid hblk
      have HTR := Lib.hid htr
      clear hblk htr
      go_upto_region 6 with fail
      refine wp_region_lit ?_
      refine wpList_run (v := .int .i64 k0) rfl (exec_move rfl rfl) ?_
      simp only [Act.put, List.setIfInBounds_toArray, List.set_cons_zero, List.set_cons_succ]
      refine wpList_run (v := .int .i64 s0) rfl (exec_move rfl rfl) ?_
      simp only [Act.put, List.setIfInBounds_toArray, List.set_cons_zero, List.set_cons_succ]
      refine wpList_run (v := .int .i64 1) rfl (exec_move rfl rfl) ?_
      simp only [Act.put, List.setIfInBounds_toArray, List.set_cons_zero, List.set_cons_succ]
      refine wpList_run (v := .int .i64 2) (w' := wr) rfl (by go_simp; rfl) ?_
      simp only [Act.put, List.setIfInBounds_toArray, List.set_cons_zero, List.set_cons_succ]
      refine wpList_run (v := .agg #[.int .i64 k0, .int .i64 s0, .int .i64 2]) rfl (exec_build3 rfl rfl rfl rfl (build_form3 _ _ _ _)) ?_
      simp only [Act.put, List.setIfInBounds_toArray, List.set_cons_zero, List.set_cons_succ]
      refine wpList_run (v := _) rfl (exec_alloc rfl (zero_form _)) ?_
      simp only [Act.put, List.setIfInBounds_toArray, List.set_cons_zero, List.set_cons_succ]
      have hq := Blk.new wr 23 #[.int .i64 0, .int .i64 0, .int .i64 0]
      have hb1 := HBLK.out.alloc (.cells #[.int .i64 0, .int .i64 0, .int .i64 0] 23)
      have ht1 := HTR.out.alloc (.cells #[.int .i64 0, .int .i64 0, .int .i64 0] 23)
      have hlt := HBLK.out.lt
      have hle := HTR.out.size
      generalize (wr.alloc (.cells #[.int .i64 0, .int .i64 0, .int .i64 0] 23)) = w1 at *
      generalize wr.heap.size = q at *
      refine wpList_store_row rfl 23 (.tmp 10) (.tmp 25) rfl #[.int .i64 k0, .int .i64 s0, .int .i64 2] hq rfl rfl rfl size_form (by simp [Value.oneCell']) ?_
      intro w2 hq2 ht2
      have HQ := Lib.hid hq2
      have HB2 := Lib.hid (hb1.turn ht2 (fun e => by have h2 : b8 = q := e; omega))
      have HT2 := Lib.hid (show Turn nowhere W w2 from ht1.trans ht2 (fun j hj e => by have h2 : j = q := e; omega))
      have HNE := Lib.hid (show q ≠ b8 by omega)
      clear hq hb1 ht1 hlt hle hq2 ht2
      simp only [Act.put]
      go_upto_region 7 with fail
      refine wp_region_lit ?_
      refine wpList_run (v := .agg #[.int .i64 k0, .int .i64 s0, .int .i64 2]) rfl (exec_load rfl rfl (load_blkForm HQ.out)) ?_
      simp only [Act.put, List.setIfInBounds_toArray, List.set_cons_zero, List.set_cons_succ]
      refine wpList_run (v := strV t) rfl (exec_move rfl rfl) ?_
      simp only [Act.put, List.setIfInBounds_toArray, List.set_cons_zero, List.set_cons_succ]
      go_upto_region 8 with (go_at_call 8; refine (HPUT.out _ HT2.out).mono ?_; rintro e w3 ⟨rfl, ht3⟩)
      have hb3 := HB2.out.turn ht3 (fun e => e)
      have ht3' := HT2.out.trans ht3 (fun _ _ e => e)
      have g0 : ∃ u, w3.cell? ⟨b8, 1, none⟩ = some u := ⟨_, hb3.cell 1⟩
      obtain ⟨u, g0⟩ := g0
      have g1 := hb3.frozen 1
      have HB4 := Lib.hid (show Blk (w3.setCell ⟨b8, 1, none⟩ (.bool false)) b8 30 (arrC false 2) from hb3.set_ 1 (.bool false))
      have HT4 := Lib.hid (ht3'.setCell (p := ⟨b8, 1, none⟩) (fun hb => by have := HGE.out; have hb' : b8 < W.heap.size := hb; omega) (.bool false))
      clear ht3 ht3' hb3
      go_wp2_with fail
      go_roundg (gk - 1)
      case measure => have := HKL.out; omega
      case rel => exact ⟨2, by have := HKL.out; omega, rfl, HB4.out, HT4.out⟩
    · obtain rfl : _ = Value.int .i64 2 := hi
      have hput : ∀ W', Turn nowhere W W' → Calls Tryd.prog 8 #[.slice none 0 0, .agg #[.int .i64 k0, .int .i64 s0, .int .i64 3], strV t] W' fun e w' => e = .returned (.tuple #[.slice none 0 0, .int .i64 ck]) ∧ Turn nowhere W' w' := by
        intro W' hT
        have h1 := HCK.out 3 (by decide)
        have h2 := put_bad (f := ⟨k0, s0, 3⟩) (A := none) (n := 0) (cap := 0) (t := t) (by rw [show Fm.check ⟨k0, s0, 3⟩ t = ck from h1]; exact HNZ.out) (HR.out.turn hT)
        rwa [show Fm.check ⟨k0, s0, 3⟩ t = ck from h1] at h2
      have HPUT := Lib.hid hput
      clear hput
      have HBLK := Lib.hid hblk
      have HTR := Lib.hid htr
      clear hblk htr
      go_upto_region 6 with fail
      refine wp_region_lit ?_
      refine wpList_run (v := .int .i64 k0) rfl (exec_move rfl rfl) ?_
      simp only [Act.put, List.setIfInBounds_toArray, List.set_cons_zero, List.set_cons_succ]
      refine wpList_run (v := .int .i64 s0) rfl (exec_move rfl rfl) ?_
      simp only [Act.put, List.setIfInBounds_toArray, List.set_cons_zero, List.set_cons_succ]
      refine wpList_run (v := .int .i64 2) rfl (exec_move rfl rfl) ?_
      simp only [Act.put, List.setIfInBounds_toArray, List.set_cons_zero, List.set_cons_succ]
      refine wpList_run (v := .int .i64 3) (w' := wr) rfl (by go_simp; rfl) ?_
      simp only [Act.put, List.setIfInBounds_toArray, List.set_cons_zero, List.set_cons_succ]
      refine wpList_run (v := .agg #[.int .i64 k0, .int .i64 s0, .int .i64 3]) rfl (exec_build3 rfl rfl rfl rfl (build_form3 _ _ _ _)) ?_
      simp only [Act.put, List.setIfInBounds_toArray, List.set_cons_zero, List.set_cons_succ]
      refine wpList_run (v := _) rfl (exec_alloc rfl (zero_form _)) ?_
      simp only [Act.put, List.setIfInBounds_toArray, List.set_cons_zero, List.set_cons_succ]
      have hq := Blk.new wr 23 #[.int .i64 0, .int .i64 0, .int .i64 0]
      have hb1 := HBLK.out.alloc (.cells #[.int .i64 0, .int .i64 0, .int .i64 0] 23)
      have ht1 := HTR.out.alloc (.cells #[.int .i64 0, .int .i64 0, .int .i64 0] 23)
      have hlt := HBLK.out.lt
      have hle := HTR.out.size
      generalize (wr.alloc (.cells #[.int .i64 0, .int .i64 0, .int .i64 0] 23)) = w1 at *
      generalize wr.heap.size = q at *
      refine wpList_store_row rfl 23 (.tmp 10) (.tmp 25) rfl #[.int .i64 k0, .int .i64 s0, .int .i64 3] hq rfl rfl rfl size_form (by simp [Value.oneCell']) ?_
      intro w2 hq2 ht2
      have HQ := Lib.hid hq2
      have HB2 := Lib.hid (hb1.turn ht2 (fun e => by have h2 : b8 = q := e; omega))
      have HT2 := Lib.hid (show Turn nowhere W w2 from ht1.trans ht2 (fun j hj e => by have h2 : j = q := e; omega))
      have HNE := Lib.hid (show q ≠ b8 by omega)
      clear hq hb1 ht1 hlt hle hq2 ht2
      simp only [Act.put]
      go_upto_region 7 with fail
      refine wp_region_lit ?_
      refine wpList_run (v := .agg #[.int .i64 k0, .int .i64 s0, .int .i64 3]) rfl (exec_load rfl rfl (load_blkForm HQ.out)) ?_
      simp only [Act.put, List.setIfInBounds_toArray, List.set_cons_zero, List.set_cons_succ]
      refine wpList_run (v := strV t) rfl (exec_move rfl rfl) ?_
      simp only [Act.put, List.setIfInBounds_toArray, List.set_cons_zero, List.set_cons_succ]
      go_upto_region 8 with (go_at_call 8; refine (HPUT.out _ HT2.out).mono ?_; rintro e w3 ⟨rfl, ht3⟩)
      have hb3 := HB2.out.turn ht3 (fun e => e)
      have ht3' := HT2.out.trans ht3 (fun _ _ e => e)
      have g0 : ∃ u, w3.cell? ⟨b8, 2, none⟩ = some u := ⟨_, hb3.cell 2⟩
      obtain ⟨u, g0⟩ := g0
      have g1 := hb3.frozen 2
      have HB4 := Lib.hid (show Blk (w3.setCell ⟨b8, 2, none⟩ (.bool false)) b8 30 (arrC false 3) from hb3.set_ 2 (.bool false))
      have HT4 := Lib.hid (ht3'.setCell (p := ⟨b8, 2, none⟩) (fun hb => by have := HGE.out; have hb' : b8 < W.heap.size := hb; omega) (.bool false))
      clear ht3 ht3' hb3
      go_wp2_with fail
      go_roundg (gk - 1)
      case measure => have := HKL.out; omega
      case rel => exact ⟨3, by have := HKL.out; omega, rfl, HB4.out, HT4.out⟩
    · obtain rfl : _ = Value.int .i64 3 := hi
      have HBLK := Lib.hid hblk
      have HTR := Lib.hid htr
      have c0 : wr.cell? ⟨b8, 0, none⟩ = some (.bool false) := hblk.cell 0
      have c1 : wr.cell? ⟨b8, 1, none⟩ = some (.bool false) := hblk.cell 1
      have c2 : wr.cell? ⟨b8, 2, none⟩ = some (.bool false) := hblk.cell 2
      clear hblk htr
      go_wp2_with fail
      go_ret
      exact ⟨rfl, HTR.out.below (Nat.le_refl _) (fun _ _ e => e)⟩
end Go.Proofs.YtaabiconfgcnfabDoor
