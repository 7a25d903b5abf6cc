/-
  Routes: the table's Find, Clone, New, List: the walks. No conditions.
-/
import Derived.Test.YtihmpbilbnajpaaRtS
namespace Go.Proofs.Ytihmpbilbnajpaa
open Go.RowKit Go.Maps
open Ix
open Rt (R)
set_option linter.unusedVariables false
set_option linter.unusedSimpArgs false
theorem gx_min {a : Act} {o : Oper} {W : World} {x y : Operand} {t u : TypeId} {i j r : Int} (ho : o.op = .call { callee := .builtin .min, args := #[x, y], argTypes := #[t, u] }) (hx : a.eval x = .int .i64 i) (hy : a.eval y = .int .i64 j) (ht : o.type = 3) (hr : (if j < i then j else i) = r) : (execOp a.eval o).run Try.prog W = .ok (.value (.int .i64 r)) W := by
  subst hr
  unfold execOp
  simp only [ho, ht, resolve, invoke, builtin, List.map_toArray, List.map_cons, List.map_nil, hx, hy]
  by_cases h : j < i
  · rw [if_pos h]; go_simp; try omega
  · rw [if_neg h]; go_simp; try omega
theorem take_pre {p pan : Key} (h : p <+: pan) : pan.take p.length = p := by
  obtain ⟨s, rfl⟩ := h
  exact List.take_left
set_option maxRecDepth 20000 in
set_option maxHeartbeats 4000000 in
theorem Find_walk {w : World} {t mb : Nat} {m : Int} {es : List RtV} {p : Key} (h : Tb w t mb m es) (hp : p.length ≤ 9223372036854775807) :
    Calls Try.prog 18 #[.pointer (some ⟨t, 0, none⟩), strV p] w fun e w' => FindQ w (es.map RtV.plain) p e w' := by
  obtain ⟨n, hn⟩ : ∃ n, n = p.length := ⟨_, rfl⟩
  obtain ⟨k0, hk0⟩ : ∃ k, k = if 8 < n then 8 else n := ⟨_, rfl⟩
  have HT := Lib.hid h
  have HN := Lib.hid hn
  have HK0 := Lib.hid hk0
  have yn : (n : Int) ≤ 9223372036854775807 := by omega
  have yk0 : (k0 : Int) ≤ 8 := by rw [hk0]; split <;> omega
  have yk1 : (k0 : Int) ≤ (n : Int) := by rw [hk0]; split <;> omega
  have HIF := Lib.hid (show (if (8 : Int) < (n : Int) then (8 : Int) else (n : Int)) = (k0 : Int) from by
    rw [hk0]
    by_cases h : 8 < n
    · rw [if_pos h, if_pos (by omega)]; rfl
    · rw [if_neg h, if_neg (by omega)])
  clear h hp hn hk0
  go_enter Try.func18, Try.ntmps18
  go_upto_region 0 with fail
  refine wp_region_lit ?_
  refine wpList_run (v := .slice none 0 0) (wanted_none rfl) (gx_assign rfl rfl) ?_
  simp only [Act.put, List.setIfInBounds_toArray, List.set_cons_zero, List.set_cons_succ]
  refine wpList_run (v := .bool false) (wanted_none rfl) (gx_assign rfl rfl) ?_
  simp only [Act.put, List.setIfInBounds_toArray, List.set_cons_zero, List.set_cons_succ]
  go_upto_region 1 with fail
  refine wp_region_lit ?_
  refine wpList_run (v := strV p) (wanted_none rfl) (exec_move rfl rfl) ?_
  simp only [Act.put, List.setIfInBounds_toArray, List.set_cons_zero, List.set_cons_succ]
  refine wpList_run (v := .int .i64 (n : Int)) (wanted_none rfl) (by rw [HN.out]; exact exec_slen rfl rfl) ?_
  simp only [Act.put, List.setIfInBounds_toArray, List.set_cons_zero, List.set_cons_succ]
  refine wpList_run (v := .int .i64 (k0 : Int)) (wanted_none rfl) (gx_min rfl rfl rfl rfl HIF.out) ?_
  simp only [Act.put, List.setIfInBounds_toArray, List.set_cons_zero, List.set_cons_succ]
  refine wpList_run (v := .int .i64 (k0 : Int)) (wanted_none rfl) (gx_assign rfl rfl) ?_
  simp only [Act.put, List.setIfInBounds_toArray, List.set_cons_zero, List.set_cons_succ]
  go_wp2_with fail
  go_loopg [6, 7, 8, 16] k0 (fun gk iv av bv cv wr => ∃ k : Nat, iv = .int .i64 (k : Int) ∧ k = gk ∧ k ≤ k0 ∧ (∀ x ∈ es.map RtV.plain, x.1 <+: p → x.1.length ≤ k) ∧ Turn nowhere w wr)
  case atStart => exact ⟨k0, rfl, rfl, Nat.le_refl _, fun x hx hp => by
    obtain ⟨y, hy, rfl⟩ := List.mem_map.1 hx
    have h1 := prefLen (HT.out.pok y hy)
    have h2 := hp.length_le
    have h3 := HK0.out
    have h4 := HN.out
    have h1 : y.plain.1.length ≤ 8 := h1
    rw [h3]
    split <;> omega, Turn.refl _ _⟩
  obtain ⟨k, rfl, hgk, hkk, hbest, htr⟩ := hrel
  subst hgk
  have HKK := Lib.hid hkk
  have HBE := Lib.hid hbest
  have HTR := Lib.hid htr
  have HTW := Lib.hid (HT.out.still htr)
  have yk : (k : Int) ≤ (k0 : Int) := by omega
  clear hkk hbest htr
  by_cases hk : 0 < k
  · have HKP := Lib.hid hk
    have y3 : 0 < (k : Int) := by omega
    have HKN := Lib.hid (show k ≤ p.length from by have := HN.out; omega)
    clear hk
    go_upto_region 2 with fail
    refine wp_region_lit ?_
    refine wpList_run (v := .int .i64 (k : Int)) (wanted_none rfl) (exec_move rfl rfl) ?_
    simp only [Act.put, List.setIfInBounds_toArray, List.set_cons_zero, List.set_cons_succ]
    refine wpList_run (v := .bool true) (wanted_none rfl) (ix_gtr rfl rfl rfl (decide_eq_true y3)) ?_
    simp only [Act.put, List.setIfInBounds_toArray, List.set_cons_zero, List.set_cons_succ]
    go_upto_region 4 with fail
    refine wp_region_alw (fun W => Tb W t mb m es) (by kernel_rfl) ?_
    have hS0 := HTW.out.still ((Turn.refl nowhere wr).drew)
    refine alw_take (i := 0) (v := .pointer (some ⟨t, 0, none⟩)) rfl (by kernel_rfl) (by kernel_rfl) (fun _ _ _ h => h) (.inl ⟨by rfl, fun W hW => exec_move rfl rfl⟩) hS0 ?_
    simp only [Act.put, List.setIfInBounds_toArray, List.set_cons_zero, List.set_cons_succ]
    refine alw_take (i := 1) (v := .pointer (some ⟨t, 0, none⟩)) rfl (by kernel_rfl) (by kernel_rfl) (fun _ _ _ h => h) (.inl ⟨by rfl, fun W hW => exec_nil rfl rfl⟩) hS0 ?_
    simp only [Act.put, List.setIfInBounds_toArray, List.set_cons_zero, List.set_cons_succ]
    refine alw_take (i := 2) (v := .pointer (some ⟨t, 1, none⟩)) rfl (by kernel_rfl) (by kernel_rfl) (fun _ _ _ h => h) (.inl ⟨by rfl, fun W hW => exec_field (off := 0) (d := 1) rfl rfl (by kernel_rfl)⟩) hS0 ?_
    simp only [Act.put, List.setIfInBounds_toArray, List.set_cons_zero, List.set_cons_succ]
    refine alw_take (i := 3) (v := .map (some mb)) rfl (by kernel_rfl) (by kernel_rfl) (fun _ _ _ h => h) (.inl ⟨by rfl, fun W hW => exec_load1 rfl rfl (by kernel_rfl) (hW.blk.cell 1)⟩) hS0 ?_
    simp only [Act.put, List.setIfInBounds_toArray, List.set_cons_zero, List.set_cons_succ]
    refine alw_take (i := 4) (v := strV p) rfl (by kernel_rfl) (by kernel_rfl) (fun _ _ _ h => h) (.inl ⟨by rfl, fun W hW => exec_move rfl rfl⟩) hS0 ?_
    simp only [Act.put, List.setIfInBounds_toArray, List.set_cons_zero, List.set_cons_succ]
    refine alw_take (i := 5) (v := .int .i64 (k : Int)) rfl (by kernel_rfl) (by kernel_rfl) (fun _ _ _ h => h) (.inl ⟨by rfl, fun W hW => exec_move rfl rfl⟩) hS0 ?_
    simp only [Act.put, List.setIfInBounds_toArray, List.set_cons_zero, List.set_cons_succ]
    refine alw_take (i := 6) (v := (strV (p.take k))) rfl (by kernel_rfl) (by kernel_rfl) (fun _ _ _ h => h) (.inl ⟨by rfl, fun W hW => exec_sto rfl rfl rfl HKN.out⟩) hS0 ?_
    simp only [Act.put, List.setIfInBounds_toArray, List.set_cons_zero, List.set_cons_succ]
    by_cases hh : Rt.has (p.take k) (es.map RtV.plain)
    · obtain ⟨x, hx, hxp⟩ := thas hh
      have HX := Lib.hid hx
      have HXP := Lib.hid hxp
      clear hh hx hxp
      refine alw_take (i := 7) (v := .tuple #[x.val, .bool true]) rfl (by kernel_rfl) (by kernel_rfl) (fun _ _ _ h => h) (.inl ⟨by rfl, fun W hW => exec_lookup rfl rfl rfl (hW.look HX.out HXP.out)⟩) hS0 ?_
      simp only [Act.put, List.setIfInBounds_toArray, List.set_cons_zero, List.set_cons_succ]
      refine alw_take (i := 8) (v := .tuple #[x.val, .bool true]) rfl (by kernel_rfl) (by kernel_rfl) (fun _ _ _ h => h) (.inl ⟨by rfl, fun W hW => exec_move rfl rfl⟩) hS0 ?_
      simp only [Act.put, List.setIfInBounds_toArray, List.set_cons_zero, List.set_cons_succ]
      refine alw_take (i := 9) (v := x.val) rfl (by kernel_rfl) (by kernel_rfl) (fun _ _ _ h => h) (.inl ⟨by rfl, fun W hW => ix_extract rfl rfl rfl⟩) hS0 ?_
      simp only [Act.put, List.setIfInBounds_toArray, List.set_cons_zero, List.set_cons_succ]
      refine alw_take (i := 10) (v := .bool true) rfl (by kernel_rfl) (by kernel_rfl) (fun _ _ _ h => h) (.inl ⟨by rfl, fun W hW => ix_extract rfl rfl rfl⟩) hS0 ?_
      simp only [Act.put, List.setIfInBounds_toArray, List.set_cons_zero, List.set_cons_succ]
      refine alw_take (i := 11) (v := x.val) rfl (by kernel_rfl) (by kernel_rfl) (fun _ _ _ h => h) (.inl ⟨by rfl, fun W hW => gx_assign rfl rfl⟩) hS0 ?_
      simp only [Act.put, List.setIfInBounds_toArray, List.set_cons_zero, List.set_cons_succ]
      refine alw_take (i := 12) (v := .bool true) rfl (by kernel_rfl) (by kernel_rfl) (fun _ _ _ h => h) (.inl ⟨by rfl, fun W hW => gx_assign rfl rfl⟩) hS0 ?_
      simp only [Act.put, List.setIfInBounds_toArray, List.set_cons_zero, List.set_cons_succ]
      refine alw_done rfl ?_
      refine NoPanic.normal ?_
      clear hS0
      try simp only [Act.put, List.setIfInBounds_toArray, List.set_cons_zero, List.set_cons_succ]
      have HTD := Lib.hid (HTR.out.drew)
      have HTX := Lib.hid ((HTW.out.still ((Turn.refl nowhere wr).drew)).its x HX.out)
      obtain ⟨wd, hwd⟩ : ∃ v, v = wr.drew := ⟨_, rfl⟩
      rw [← hwd] at HTD HTX ⊢
      clear hwd
      have HIC := Lib.hid (iclone_walk HTX.out.1)
      have HB := Lib.hid (show Rt.Best (es.map RtV.plain) p (some x.to_) from ⟨x.pre, List.mem_map.2 ⟨x, HX.out, rfl⟩, by rw [HXP.out]; exact List.take_prefix _ _, fun y hy hp => by
        have h1 := HBE.out y hy hp
        have h2 : x.pre.length = k := by rw [HXP.out, List.length_take]; have := HKN.out; omega
        omega⟩)
      go_upto_region 5 with fail
      refine wp_region_lit ?_
      refine wpList_run (v := .bool true) (wanted_none rfl) (exec_move rfl rfl) ?_
      simp only [Act.put, List.setIfInBounds_toArray, List.set_cons_zero, List.set_cons_succ]
      go_upto_region 6 with fail
      refine wp_region_lit ?_
      refine wpList_run (v := x.val) (wanted_none rfl) (exec_move rfl rfl) ?_
      simp only [Act.put, List.setIfInBounds_toArray, List.set_cons_zero, List.set_cons_succ]
      refine wpList_op rfl fun K9 HK9 => ?_
      go_wp2_with fail
      refine (HIC.out).mono ?_
      rintro e w4 ⟨A4, c4, rfl, how, ht4, hok⟩
      refine HK9.out _ _ ?_
      clear HK9
      try simp only [Act.put, List.setIfInBounds_toArray, List.set_cons_zero, List.set_cons_succ]
      have HF := Lib.hid (show FindQ w (es.map RtV.plain) p (.returned (.tuple #[.slice A4 x.n c4, .bool true])) w4 from ⟨some x.to_, A4, x.n, c4, HB.out, HTD.out.trans ht4 fun _ _ e => e, rfl, HTX.out.1.ia.len, how.less HTD.out.size⟩)
      clear how ht4 hok
      refine wpList_run (v := .slice A4 x.n c4) (wanted_none rfl) (gx_assign rfl rfl) ?_
      simp only [Act.put, List.setIfInBounds_toArray, List.set_cons_zero, List.set_cons_succ]
      refine wpList_run (v := .bool true) (wanted_none rfl) (gx_assign rfl rfl) ?_
      simp only [Act.put, List.setIfInBounds_toArray, List.set_cons_zero, List.set_cons_succ]
      go_wp2_with fail
      go_ret2
      exact HF.out
    · have HH := Lib.hid hh
      clear hh
      refine alw_take (i := 7) (v := .tuple #[.slice none 0 0, .bool false]) rfl (by kernel_rfl) (by kernel_rfl) (fun _ _ _ h => h) (.inl ⟨by rfl, fun W hW => exec_lookup rfl rfl rfl (hW.lookNo (by rw [List.length_take]; unfold maxLen; omega) HH.out)⟩) hS0 ?_
      simp only [Act.put, List.setIfInBounds_toArray, List.set_cons_zero, List.set_cons_succ]
      refine alw_take (i := 8) (v := .tuple #[.slice none 0 0, .bool false]) rfl (by kernel_rfl) (by kernel_rfl) (fun _ _ _ h => h) (.inl ⟨by rfl, fun W hW => exec_move rfl rfl⟩) hS0 ?_
      simp only [Act.put, List.setIfInBounds_toArray, List.set_cons_zero, List.set_cons_succ]
      refine alw_take (i := 9) (v := .slice none 0 0) rfl (by kernel_rfl) (by kernel_rfl) (fun _ _ _ h => h) (.inl ⟨by rfl, fun W hW => ix_extract rfl rfl rfl⟩) hS0 ?_
      simp only [Act.put, List.setIfInBounds_toArray, List.set_cons_zero, List.set_cons_succ]
      refine alw_take (i := 10) (v := .bool false) rfl (by kernel_rfl) (by kernel_rfl) (fun _ _ _ h => h) (.inl ⟨by rfl, fun W hW => ix_extract rfl rfl rfl⟩) hS0 ?_
      simp only [Act.put, List.setIfInBounds_toArray, List.set_cons_zero, List.set_cons_succ]
      refine alw_take (i := 11) (v := .slice none 0 0) rfl (by kernel_rfl) (by kernel_rfl) (fun _ _ _ h => h) (.inl ⟨by rfl, fun W hW => gx_assign rfl rfl⟩) hS0 ?_
      simp only [Act.put, List.setIfInBounds_toArray, List.set_cons_zero, List.set_cons_succ]
      refine alw_take (i := 12) (v := .bool false) rfl (by kernel_rfl) (by kernel_rfl) (fun _ _ _ h => h) (.inl ⟨by rfl, fun W hW => gx_assign rfl rfl⟩) hS0 ?_
      simp only [Act.put, List.setIfInBounds_toArray, List.set_cons_zero, List.set_cons_succ]
      refine alw_done rfl ?_
      refine NoPanic.normal ?_
      clear hS0
      try simp only [Act.put, List.setIfInBounds_toArray, List.set_cons_zero, List.set_cons_succ]
      have HTD := Lib.hid (HTR.out.drew)
      obtain ⟨wd, hwd⟩ : ∃ v, v = wr.drew := ⟨_, rfl⟩
      rw [← hwd] at HTD ⊢
      clear hwd
      go_upto_region 5 with fail
      refine wp_region_lit ?_
      refine wpList_run (v := .bool false) (wanted_none rfl) (exec_move rfl rfl) ?_
      simp only [Act.put, List.setIfInBounds_toArray, List.set_cons_zero, List.set_cons_succ]
      go_upto_region 3 with fail
      refine wp_region_lit ?_
      refine wpList_run (v := .int .i64 (k : Int)) (wanted_none rfl) (exec_move rfl rfl) ?_
      simp only [Act.put, List.setIfInBounds_toArray, List.set_cons_zero, List.set_cons_succ]
      refine wpList_run (v := .int .i64 ((k - 1 : Nat) : Int)) (wanted_none rfl) (ix_sub rfl rfl rfl (by have := HKP.out; omega) (by omega)) ?_
      simp only [Act.put, List.setIfInBounds_toArray, List.set_cons_zero, List.set_cons_succ]
      refine wpList_run (v := .int .i64 ((k - 1 : Nat) : Int)) (wanted_none rfl) (gx_assign rfl rfl) ?_
      simp only [Act.put, List.setIfInBounds_toArray, List.set_cons_zero, List.set_cons_succ]
      go_wp2_with fail
      go_roundg (k - 1)
      case measure => have := HKP.out; omega
      case rel => exact ⟨k - 1, rfl, rfl, by omega, fun x hx hp => by
        have h1 := HBE.out x hx hp
        rcases Nat.lt_or_ge x.1.length k with h | h
        · omega
        · exact absurd ⟨x, hx, by rw [show k = x.1.length by omega, take_pre hp]⟩ HH.out, HTD.out⟩
  · have hz : k = 0 := by omega
    have HF := Lib.hid (show FindQ w (es.map RtV.plain) p (.returned (.tuple #[.slice none 0 0, .bool false])) wr from ⟨none, none, 0, 0, fun x hx hp => by
      have h1 := HBE.out x hx hp
      obtain ⟨y, hy, rfl⟩ := List.mem_map.1 hx
      have h2 := HT.out.pok y hy
      unfold Rt.prefOk at h2
      simp only [Bool.and_eq_true, decide_eq_true_eq] at h2
      have h3 : 1 ≤ y.plain.1.length := h2.2.1
      omega, HTR.out, rfl, rfl, Orw.nil _ _ _ _⟩)
    have y3 : ¬ 0 < (k : Int) := by omega
    clear hz hk
    go_upto_region 2 with fail
    refine wp_region_lit ?_
    refine wpList_run (v := .int .i64 (k : Int)) (wanted_none rfl) (exec_move rfl rfl) ?_
    simp only [Act.put, List.setIfInBounds_toArray, List.set_cons_zero, List.set_cons_succ]
    refine wpList_run (v := .bool false) (wanted_none rfl) (ix_gtr rfl rfl rfl (decide_eq_false y3)) ?_
    simp only [Act.put, List.setIfInBounds_toArray, List.set_cons_zero, List.set_cons_succ]
    go_upto_region 7 with fail
    refine wp_region_lit ?_
    refine wpList_run (v := .slice none 0 0) (wanted_none rfl) (gx_assign rfl rfl) ?_
    simp only [Act.put, List.setIfInBounds_toArray, List.set_cons_zero, List.set_cons_succ]
    refine wpList_run (v := .bool false) (wanted_none rfl) (gx_assign rfl rfl) ?_
    simp only [Act.put, List.setIfInBounds_toArray, List.set_cons_zero, List.set_cons_succ]
    go_wp2_with fail
    go_ret2
    exact HF.out
theorem buildTb (m : Int) (mb : Nat) (W : World) : (Instr.build 57 #[(0, .int .i64 m), (1, .map (some mb))]).run Try.prog W = .ok (.agg #[.int .i64 m, .map (some mb)]) W := by kernel_rfl
theorem boxTb (m : Int) (mb : Nat) (w : World) : (Instr.box 57 (.agg #[.int .i64 m, .map (some mb)])).run Try.prog w = .ok (.pointer (some ⟨w.heap.size, 0, none⟩)) (w.alloc (.cells #[.int .i64 m, .map (some mb)] 57)) := by kernel_rfl
set_option maxRecDepth 20000 in
set_option maxHeartbeats 4000000 in
theorem Clone_walk {w : World} {t mb : Nat} {m : Int} {es : List RtV} (h : Tb w t mb m es) :
    Calls Try.prog 12 #[.pointer (some ⟨t, 0, none⟩)] w fun e w' => ∃ t2 mb2, e = .returned (.pointer (some ⟨t2, 0, none⟩)) ∧ Tb w' t2 mb2 m es ∧ w.heap.size ≤ t2 ∧ w.heap.size ≤ mb2 ∧ Turn nowhere w w' := by
  have HT := Lib.hid h
  clear h
  go_enter Try.func12, Try.ntmps12
  go_upto_region 0 with fail
  refine wp_region_lit ?_
  refine wpList_run (v := .pointer none) (wanted_none rfl) (gx_assign rfl rfl) ?_
  simp only [Act.put, List.setIfInBounds_toArray, List.set_cons_zero, List.set_cons_succ]
  obtain ⟨w0, hw0⟩ : ∃ v, v = w.drew := ⟨_, rfl⟩
  have HT0 := Lib.hid (show Turn nowhere w w0 from by rw [hw0]; exact (Turn.refl _ _).drew)
  have HB0 := Lib.hid (HT.out.still HT0.out)
  obtain ⟨ens, clock, hb, hent⟩ := HB0.out.mp.entries
  have HMC := Lib.hid (mclone_walk mb ens clock w0 hb)
  obtain ⟨mb2, hmb⟩ : ∃ x, x = w0.heap.size := ⟨_, rfl⟩
  have hmp := hent (w0.alloc (.map ens clock)) mb2 (by rw [hmb]; exact heap_alloc_new w0 _)
  have ht1 := (Turn.refl nowhere w0).alloc (.map ens clock)
  rw [← hmb] at HMC
  obtain ⟨w1, hw1⟩ : ∃ v, v = w0.alloc (.map ens clock) := ⟨_, rfl⟩
  rw [← hw1] at hmp ht1 HMC
  have HMP := Lib.hid hmp
  have HT1 := Lib.hid (HT0.out.trans ht1 fun _ _ e => e)
  have HMB := Lib.hid (show w.heap.size ≤ mb2 by rw [hmb]; exact HT0.out.size)
  have hbn := Blk.new w1 57 #[.int .i64 m, .map (some mb2)]
  have ht2 := (Turn.refl nowhere w1).alloc (.cells #[.int .i64 m, .map (some mb2)] 57)
  have hbx := boxTb m mb2 w1
  have hsz := HT1.out.size
  obtain ⟨t2, ht⟩ : ∃ y, y = w1.heap.size := ⟨_, rfl⟩
  rw [← ht] at hbn hbx
  generalize w1.alloc (.cells #[.int .i64 m, .map (some mb2)] 57) = w2 at *
  have HBN := Lib.hid hbn
  have HBX := Lib.hid hbx
  have HT2 := Lib.hid (HT1.out.trans ht2 fun _ _ e => e)
  have HT12 := Lib.hid ht2
  have HTN := Lib.hid (show w.heap.size ≤ t2 by omega)
  clear hb hent hmb hmp ht1 hw1 hbn ht2 hbx hsz ht
  go_upto_region 1 with fail
  refine wp_region_alw (fun W => Blk W t 57 #[.int .i64 m, .map (some mb)]) (by kernel_rfl) ?_
  rw [← hw0]
  have hS0 := HB0.out.blk
  clear hw0
  refine alw_take (i := 0) (v := .pointer (some ⟨t, 0, none⟩)) rfl (by kernel_rfl) (by kernel_rfl) (fun _ _ _ h => h) (.inl ⟨by rfl, fun W hW => exec_move rfl rfl⟩) hS0 ?_
  simp only [Act.put, List.setIfInBounds_toArray, List.set_cons_zero, List.set_cons_succ]
  refine alw_take (i := 1) (v := .pointer (some ⟨t, 0, none⟩)) rfl (by kernel_rfl) (by kernel_rfl) (fun _ _ _ h => h) (.inl ⟨by rfl, fun W hW => exec_nil rfl rfl⟩) hS0 ?_
  simp only [Act.put, List.setIfInBounds_toArray, List.set_cons_zero, List.set_cons_succ]
  refine alw_take (i := 2) (v := .pointer (some ⟨t, 0, none⟩)) rfl (by kernel_rfl) (by kernel_rfl) (fun _ _ _ h => h) (.inl ⟨by rfl, fun W hW => exec_field (off := 0) (d := 0) rfl rfl (by kernel_rfl)⟩) hS0 ?_
  simp only [Act.put, List.setIfInBounds_toArray, List.set_cons_zero, List.set_cons_succ]
  refine alw_take (i := 3) (v := .int .i64 m) rfl (by kernel_rfl) (by kernel_rfl) (fun _ _ _ h => h) (.inl ⟨by rfl, fun W hW => exec_load1 rfl rfl (by kernel_rfl) (hW.cell 0)⟩) hS0 ?_
  simp only [Act.put, List.setIfInBounds_toArray, List.set_cons_zero, List.set_cons_succ]
  refine alw_take (i := 4) (v := .pointer (some ⟨t, 0, none⟩)) rfl (by kernel_rfl) (by kernel_rfl) (fun _ _ _ h => h) (.inl ⟨by rfl, fun W hW => exec_move rfl rfl⟩) hS0 ?_
  simp only [Act.put, List.setIfInBounds_toArray, List.set_cons_zero, List.set_cons_succ]
  refine alw_take (i := 5) (v := .pointer (some ⟨t, 0, none⟩)) rfl (by kernel_rfl) (by kernel_rfl) (fun _ _ _ h => h) (.inl ⟨by rfl, fun W hW => exec_nil rfl rfl⟩) hS0 ?_
  simp only [Act.put, List.setIfInBounds_toArray, List.set_cons_zero, List.set_cons_succ]
  refine alw_take (i := 6) (v := .pointer (some ⟨t, 1, none⟩)) rfl (by kernel_rfl) (by kernel_rfl) (fun _ _ _ h => h) (.inl ⟨by rfl, fun W hW => exec_field (off := 0) (d := 1) rfl rfl (by kernel_rfl)⟩) hS0 ?_
  simp only [Act.put, List.setIfInBounds_toArray, List.set_cons_zero, List.set_cons_succ]
  refine alw_take (i := 7) (v := .map (some mb)) rfl (by kernel_rfl) (by kernel_rfl) (fun _ _ _ h => h) (.inl ⟨by rfl, fun W hW => exec_load1 rfl rfl (by kernel_rfl) (hW.cell 1)⟩) hS0 ?_
  simp only [Act.put, List.setIfInBounds_toArray, List.set_cons_zero, List.set_cons_succ]
  clear hS0
  refine alw_step (i := 8) (by kernel_rfl) rfl rfl ?_
  intro K1 HK1
  go_wp2_with fail
  refine (HMC.out).mono ?_
  rintro e w1 ⟨rfl, rfl⟩

  refine HK1.out _ _ ⟨HT.out.blk.turn HT1.out (fun e => e), ?_⟩
  clear HK1
  try simp only [Act.put, List.setIfInBounds_toArray, List.set_cons_zero, List.set_cons_succ]
  have hS0 := HT.out.blk.turn HT1.out (fun e => e)
  refine alw_take (i := 9) (v := .agg #[.int .i64 m, .map (some mb2)]) rfl (by kernel_rfl) (by kernel_rfl) (fun _ _ _ h => h) (.inl ⟨by rfl, fun W hW => gx_build2 rfl rfl rfl (buildTb m mb2 _)⟩) hS0 ?_
  simp only [Act.put, List.setIfInBounds_toArray, List.set_cons_zero, List.set_cons_succ]
  clear hS0
  refine alw_step (i := 10) (by kernel_rfl) rfl rfl ?_
  intro K1 HK1
  refine wp_run (v := .pointer (some ⟨t2, 0, none⟩)) (w' := w2) (gx_box rfl rfl HBX.out) ?_
  refine HK1.out _ _ ⟨HT.out.blk.turn HT2.out (fun e => e), ?_⟩
  clear HK1
  try simp only [Act.put, List.setIfInBounds_toArray, List.set_cons_zero, List.set_cons_succ]
  have hS0 := HT.out.blk.turn HT2.out (fun e => e)
  refine alw_take (i := 11) (v := .pointer (some ⟨t2, 0, none⟩)) rfl (by kernel_rfl) (by kernel_rfl) (fun _ _ _ h => h) (.inl ⟨by rfl, fun W hW => gx_assign rfl rfl⟩) hS0 ?_
  simp only [Act.put, List.setIfInBounds_toArray, List.set_cons_zero, List.set_cons_succ]
  refine alw_done rfl ?_
  refine NoPanic.normal ?_
  clear hS0
  try simp only [Act.put, List.setIfInBounds_toArray, List.set_cons_zero, List.set_cons_succ]
  go_wp2_with fail
  go_ret
  exact ⟨t2, mb2, rfl, ⟨HBN.out, HMP.out.still HT12.out, fun e he => (HT.out.still HT2.out).its e he, HT.out.srt, HT.out.len, HT.out.short, HT.out.pok⟩, HTN.out, HMB.out, HT2.out⟩
theorem zero_rt (w : World) : (zeroValue 38).run Try.prog w = .ok (.agg #[.string ByteArray.empty, .slice none 0 0]) w := by kernel_rfl
def TNewP (w : World) (m : Int) (rs : List R) (e : Ending) (w' : World) : Prop :=
    (¬ (1 ≤ m ∧ m ≤ 6) ∧ e = .returned (.tuple #[.pointer none, .int .i64 130]) ∧ Turn nowhere w w') ∨
    ((1 ≤ m ∧ m ≤ 6) ∧ Rt.newE m [] rs ≠ 0 ∧ e = .returned (.tuple #[.pointer none, .int .i64 (Rt.newE m [] rs)]) ∧ Turn nowhere w w') ∨
    ((1 ≤ m ∧ m ≤ 6) ∧ Rt.newE m [] rs = 0 ∧ ∃ t mb es, e = .returned (.tuple #[.pointer (some ⟨t, 0, none⟩), .int .i64 0]) ∧ Tb w' t mb m es ∧ es.map RtV.plain = Rt.newL m [] rs ∧ w.heap.size ≤ t ∧ w.heap.size ≤ mb ∧ (∀ b, LB es b → w.heap.size ≤ b) ∧ Turn nowhere w w')
set_option maxRecDepth 20000 in
set_option maxHeartbeats 4000000 in
theorem New_walk {w : World} {A : Option Addr} {n c : Nat} {us : List RtV} {m : Int} (ha : RtsAt w A n us) (hr : n * 40 ≤ 140737488355328) : Calls Try.prog 9 #[.slice A n c, .int .i64 m] w (TNewP w m (us.map RtV.plain)) := by
  obtain ⟨rs, hrs⟩ : ∃ rs, rs = us.map RtV.plain := ⟨_, rfl⟩
  rw [← hrs]
  have HA := Lib.hid ha
  have HRS := Lib.hid hrs
  have yn : (n : Int) ≤ 140737488355328 := by omega
  clear ha hr hrs
  go_enter Try.func9, Try.ntmps9
  go_upto_region 0 with fail
  refine wp_region_lit ?_
  refine wpList_run (v := .pointer none) (wanted_none rfl) (gx_assign rfl rfl) ?_
  simp only [Act.put, List.setIfInBounds_toArray, List.set_cons_zero, List.set_cons_succ]
  refine wpList_run (v := .int .i64 0) (wanted_none rfl) (gx_assign rfl rfl) ?_
  simp only [Act.put, List.setIfInBounds_toArray, List.set_cons_zero, List.set_cons_succ]
  by_cases hm1 : m < 1
  · have HM := Lib.hid (show ¬ (1 ≤ m ∧ m ≤ 6) from by omega)
    go_upto_region 1 with fail
    first
    | (rename_i K9 hK9; have HKC := Lib.hid hK9; clear hK9)
    | (rename_i K9 hK9 K8; have HKC := Lib.hid hK9; clear hK9)
    refine wp_region_lit ?_
    refine wpList_run (v := .int .i64 m) (wanted_none rfl) (exec_move rfl rfl) ?_
    simp only [Act.put, List.setIfInBounds_toArray, List.set_cons_zero, List.set_cons_succ]
    refine wpList_run (v := .bool true) (wanted_none rfl) (ix_lss rfl rfl rfl (decide_eq_true hm1)) ?_
    simp only [Act.put, List.setIfInBounds_toArray, List.set_cons_zero, List.set_cons_succ]
    refine wpList_run (v := .bool true) (wanted_none rfl) (exec_move rfl rfl) ?_
    simp only [Act.put, List.setIfInBounds_toArray, List.set_cons_zero, List.set_cons_succ]
    go_wp2_with fail
    refine HKC.out _ _ ?_
    clear HKC
    go_upto_region 2 with fail
    refine wp_region_lit ?_
    refine wpList_run (v := .pointer none) (wanted_none rfl) (gx_assign rfl rfl) ?_
    simp only [Act.put, List.setIfInBounds_toArray, List.set_cons_zero, List.set_cons_succ]
    refine wpList_run (v := .int .i64 130) (wanted_none rfl) (gx_assign rfl rfl) ?_
    simp only [Act.put, List.setIfInBounds_toArray, List.set_cons_zero, List.set_cons_succ]
    go_wp2_with fail
    go_ret2
    exact .inl ⟨HM.out, rfl, Turn.refl _ _⟩
  · have ym1 : 1 ≤ m := by omega
    by_cases hm6 : 6 < m
    · have HM := Lib.hid (show ¬ (1 ≤ m ∧ m ≤ 6) from by omega)
      go_upto_region 1 with fail
      refine wp_region_lit ?_
      refine wpList_run (v := .int .i64 m) (wanted_none rfl) (exec_move rfl rfl) ?_
      simp only [Act.put, List.setIfInBounds_toArray, List.set_cons_zero, List.set_cons_succ]
      refine wpList_run (v := .bool false) (wanted_none rfl) (ix_lss rfl rfl rfl (decide_eq_false (by omega))) ?_
      simp only [Act.put, List.setIfInBounds_toArray, List.set_cons_zero, List.set_cons_succ]
      refine wpList_run (v := .bool false) (wanted_none rfl) (exec_move rfl rfl) ?_
      simp only [Act.put, List.setIfInBounds_toArray, List.set_cons_zero, List.set_cons_succ]
      refine wpList_run (v := .int .i64 m) rfl (exec_move rfl rfl) ?_
      simp only [Act.put, List.setIfInBounds_toArray, List.set_cons_zero, List.set_cons_succ]
      refine wpList_run (v := .bool true) rfl (ix_gtr rfl rfl rfl (decide_eq_true hm6)) ?_
      simp only [Act.put, List.setIfInBounds_toArray, List.set_cons_zero, List.set_cons_succ]
      refine wpList_run (v := .bool true) (wanted_none rfl) (ix_pickF rfl rfl rfl) ?_
      simp only [Act.put, List.setIfInBounds_toArray, List.set_cons_zero, List.set_cons_succ]
      go_upto_region 2 with fail
      refine wp_region_lit ?_
      refine wpList_run (v := .pointer none) (wanted_none rfl) (gx_assign rfl rfl) ?_
      simp only [Act.put, List.setIfInBounds_toArray, List.set_cons_zero, List.set_cons_succ]
      refine wpList_run (v := .int .i64 130) (wanted_none rfl) (gx_assign rfl rfl) ?_
      simp only [Act.put, List.setIfInBounds_toArray, List.set_cons_zero, List.set_cons_succ]
      go_wp2_with fail
      go_ret2
      exact .inl ⟨HM.out, rfl, Turn.refl _ _⟩
    · have HM := Lib.hid (show 1 ≤ m ∧ m ≤ 6 from by omega)
      go_upto_region 1 with fail
      refine wp_region_lit ?_
      refine wpList_run (v := .int .i64 m) (wanted_none rfl) (exec_move rfl rfl) ?_
      simp only [Act.put, List.setIfInBounds_toArray, List.set_cons_zero, List.set_cons_succ]
      refine wpList_run (v := .bool false) (wanted_none rfl) (ix_lss rfl rfl rfl (decide_eq_false (by omega))) ?_
      simp only [Act.put, List.setIfInBounds_toArray, List.set_cons_zero, List.set_cons_succ]
      refine wpList_run (v := .bool false) (wanted_none rfl) (exec_move rfl rfl) ?_
      simp only [Act.put, List.setIfInBounds_toArray, List.set_cons_zero, List.set_cons_succ]
      refine wpList_run (v := .int .i64 m) rfl (exec_move rfl rfl) ?_
      simp only [Act.put, List.setIfInBounds_toArray, List.set_cons_zero, List.set_cons_succ]
      refine wpList_run (v := .bool false) rfl (ix_gtr rfl rfl rfl (decide_eq_false (by omega))) ?_
      simp only [Act.put, List.setIfInBounds_toArray, List.set_cons_zero, List.set_cons_succ]
      refine wpList_run (v := .bool false) (wanted_none rfl) (ix_pickF rfl rfl rfl) ?_
      simp only [Act.put, List.setIfInBounds_toArray, List.set_cons_zero, List.set_cons_succ]
      clear hm1 hm6 ym1
      have hmp := Mp.made (tK : KK Try.prog 9 Key) w
      have ht1 := (Turn.refl nowhere w).alloc (.map #[] 0)
      obtain ⟨mb, hmb⟩ : ∃ x, x = w.heap.size := ⟨_, rfl⟩
      obtain ⟨w1, hw1⟩ : ∃ v, v = w.alloc (.map #[] 0) := ⟨_, rfl⟩
      have HMK := Lib.hid (show ∀ (a : Act) (o : Oper) (t : TypeId), o.op = .makeMap t none → (execOp a.eval o).run Try.prog w = .ok (.value (.map (some mb))) w1 from fun a o t ho => by rw [hmb, hw1]; exact exec_makeMap ho)
      rw [← hmb, ← hw1] at hmp
      rw [← hw1] at ht1
      have hbn := Blk.new w1 57 #[.int .i64 m, .map (some mb)]
      have ht2 := (Turn.refl nowhere w1).alloc (.cells #[.int .i64 m, .map (some mb)] 57)
      have hbx := boxTb m mb w1
      have hsz := ht1.size
      obtain ⟨t, ht⟩ : ∃ y, y = w1.heap.size := ⟨_, rfl⟩
      rw [← ht] at hbn hbx
      generalize w1.alloc (.cells #[.int .i64 m, .map (some mb)] 57) = w2 at *
      have HTB := Lib.hid (show Tb w2 t mb m [] from ⟨hbn, hmp.still ht2, fun e h => (by cases h), List.Pairwise.nil, by decide, fun e h => (by cases h), fun e h => (by cases h)⟩)
      have HBX := Lib.hid hbx
      have HT := Lib.hid (ht1.trans ht2 fun _ _ e => e)
      have HY := Lib.hid (show w.heap.size ≤ t by omega)
      have HMB := Lib.hid (show w.heap.size ≤ mb by omega)
      clear hmp ht1 hmb hw1 hbn ht2 hbx hsz ht
      go_upto_region 3 with fail
      refine wp_region_lit ?_
      refine wpList_run (v := .int .i64 m) (wanted_none rfl) (exec_move rfl rfl) ?_
      simp only [Act.put, List.setIfInBounds_toArray, List.set_cons_zero, List.set_cons_succ]
      refine wpList_run (v := .map (some mb)) (w' := w1) (wanted_none rfl) (HMK.out _ _ _ rfl) ?_
      simp only [Act.put, List.setIfInBounds_toArray, List.set_cons_zero, List.set_cons_succ]
      refine wpList_run (v := .agg #[.int .i64 m, .map (some mb)]) (wanted_none rfl) (gx_build2 rfl rfl rfl (buildTb m mb _)) ?_
      simp only [Act.put, List.setIfInBounds_toArray, List.set_cons_zero, List.set_cons_succ]
      refine wpList_run (v := .pointer (some ⟨t, 0, none⟩)) (w' := w2) (wanted_none rfl) (gx_box rfl rfl HBX.out) ?_
      simp only [Act.put, List.setIfInBounds_toArray, List.set_cons_zero, List.set_cons_succ]
      refine wpList_run (v := .pointer (some ⟨t, 0, none⟩)) (wanted_none rfl) (gx_assign rfl rfl) ?_
      simp only [Act.put, List.setIfInBounds_toArray, List.set_cons_zero, List.set_cons_succ]
      go_upto_region 4 with fail
      refine wp_region_lit ?_
      refine wpList_run (v := .slice A n c) (wanted_none rfl) (exec_move rfl rfl) ?_
      simp only [Act.put, List.setIfInBounds_toArray, List.set_cons_zero, List.set_cons_succ]
      refine wpList_run (v := .int .i64 (n : Int)) (wanted_none rfl) (gx_len rfl rfl Try.underlying22) ?_
      simp only [Act.put, List.setIfInBounds_toArray, List.set_cons_zero, List.set_cons_succ]
      refine wpList_run (v := .int .i64 0) (wanted_none rfl) (exec_move rfl rfl) ?_
      simp only [Act.put, List.setIfInBounds_toArray, List.set_cons_zero, List.set_cons_succ]
      go_wp2_with fail
      go_loopg [8, 9, 22] n (fun gk ov ev iv wr => ∃ (i : Nat) (es : List RtV), iv = .int .i64 (i : Int) ∧ i + gk = n ∧ Tb wr t mb m es ∧ (∀ b, LB es b → w.heap.size ≤ b) ∧ Rt.newE m (es.map RtV.plain) (rs.drop i) = Rt.newE m [] rs ∧ Rt.newL m (es.map RtV.plain) (rs.drop i) = Rt.newL m [] rs ∧ Turn nowhere w wr)
      case atStart => exact ⟨0, [], rfl, by omega, HTB.out, fun b ⟨e, h, _⟩ => (by cases h), rfl, rfl, HT.out⟩
      obtain ⟨i, es, rfl, hgk, htb, hlb, hne, hnl, htr⟩ := hrel
      have HGK := Lib.hid hgk
      have HTW := Lib.hid htb
      have HLB := Lib.hid hlb
      have HNE := Lib.hid hne
      have HNL := Lib.hid hnl
      have HTR := Lib.hid htr
      have yi : (i : Int) ≤ (n : Int) := by omega
      clear hgk htb hlb hne hnl htr
      by_cases hlt : i < n
      · have HLT := Lib.hid hlt
        have y3 : (i : Int) < (n : Int) := by omega
        have HA1 := Lib.hid (HA.out.still HTR.out)
        obtain ⟨b1, o1, e1, h1⟩ := HA1.out.at_ (by omega)
        subst e1
        obtain ⟨z, hz⟩ := getQ (l := us) (i := i) (by have := HA.out.len; omega)
        have HZ := Lib.hid hz
        have HRG := Lib.hid (HA1.out.rng hz)
        have HZR := Lib.hid (show rs[i]? = some z.plain from by rw [HRS.out]; exact plain_at hz)
        have HZO := Lib.hid (HA1.out.2 z (List.mem_of_getElem? hz))
        clear h1 hz hlt
        go_upto_region 5 with fail
        refine wp_region_lit ?_
        refine wpList_run (v := .bool true) (wanted_none rfl) (ix_lss rfl rfl rfl (decide_eq_true y3)) ?_
        simp only [Act.put, List.setIfInBounds_toArray, List.set_cons_zero, List.set_cons_succ]
        go_upto_region 6 with fail
        refine wp_region_lit ?_
        refine wpList_run (v := .pointer (some ⟨b1, o1 + i * 2, none⟩)) (wanted_none rfl) (gx_iaddr (i := i) (sz := 2) rfl rfl rfl Try.underlying22 size_rt HLT.out rfl) ?_
        simp only [Act.put, List.setIfInBounds_toArray, List.set_cons_zero, List.set_cons_succ]
        refine wpList_run (v := .agg z.cells.toArray) (wanted_none rfl) (gx_loads rfl rfl HRG.out Try.underlying38 rfl (by rw [size_rt]; rfl)) ?_
        simp only [Act.put, List.setIfInBounds_toArray, List.set_cons_zero, List.set_cons_succ]
        refine wpList_new 38 (.tmp 8) (.tmp 25) z.cells.toArray rfl rfl (zero_rt _) rfl rfl rfl rfl rfl rfl (by rw [size_rt]; rfl) (by simpa using z.one) ?_
        intro w3 g hge hbg ht3
        simp only [Act.put, List.setIfInBounds_toArray, List.set_cons_zero, List.set_cons_succ]
        have HBG := Lib.hid (show Blk w3 g 38 z.cells.toArray from hbg)
        have HT3 := Lib.hid (HTR.out.trans ht3 fun _ _ e => e)
        have HTB3 := Lib.hid (HTW.out.still ht3)
        have HAD := Lib.hid (Add_walk HTB3.out (HZO.out.still ht3))
        clear hge hbg ht3
        go_upto_region 7 with fail
        refine wp_region_lit ?_
        refine wpList_run (v := .pointer (some ⟨t, 0, none⟩)) (wanted_none rfl) (exec_move rfl rfl) ?_
        simp only [Act.put, List.setIfInBounds_toArray, List.set_cons_zero, List.set_cons_succ]
        refine wpList_run (v := .agg z.cells.toArray) (wanted_none rfl) (gx_loads rfl rfl (blk_range HBG.out) Try.underlying38 rfl (by rw [size_rt]; rfl)) ?_
        simp only [Act.put, List.setIfInBounds_toArray, List.set_cons_zero, List.set_cons_succ]
        refine wpList_op rfl fun K9 HK9 => ?_
        go_wp2_with fail
        refine (HAD.out).mono ?_
        rintro e w4 ⟨rfl, es4, htb4, hpl4, hlb4, ht4⟩
        refine HK9.out _ _ ?_
        clear HK9
        try simp only [Act.put, List.setIfInBounds_toArray, List.set_cons_zero, List.set_cons_succ]
        have HTB4 := Lib.hid htb4
        have HPL4 := Lib.hid (show es4.map RtV.plain = Rt.addL m (es.map RtV.plain) z.plain.1 z.plain.2 from hpl4)
        have HLB4 := Lib.hid (show ∀ b, LB es4 b → w.heap.size ≤ b from fun b hb => (hlb4 b hb).elim (HLB.out b) fun h => Nat.le_trans HT3.out.size h)
        have HT4 := Lib.hid (Turn.own HT3.out (fun b e => by rw [show b = mb from e]; exact HMB.out) ht4)
        obtain ⟨E, hE⟩ : ∃ E, E = Rt.addE m (es.map RtV.plain) z.pre z.to_ := ⟨_, rfl⟩
        rw [← hE]
        have HE := Lib.hid hE
        clear htb4 hpl4 hlb4 ht4 hE HAD
        by_cases h0 : E = 0
        · have HZ0 := Lib.hid (show Rt.addE m (es.map RtV.plain) z.plain.1 z.plain.2 = 0 from HE.out.symm.trans h0)
          have HE0 := Lib.hid h0
          clear h0
          refine wpList_run (v := .int .i64 E) (wanted_none rfl) (gx_assign rfl rfl) ?_
          simp only [Act.put, List.setIfInBounds_toArray, List.set_cons_zero, List.set_cons_succ]
          go_upto_region 8 with fail
          refine wp_region_lit ?_
          refine wpList_run (v := .int .i64 E) (wanted_none rfl) (exec_move rfl rfl) ?_
          simp only [Act.put, List.setIfInBounds_toArray, List.set_cons_zero, List.set_cons_succ]
          refine wpList_run (v := .bool false) (wanted_none rfl) (ix_neq rfl rfl rfl (decide_eq_false (fun h => h HE0.out))) ?_
          simp only [Act.put, List.setIfInBounds_toArray, List.set_cons_zero, List.set_cons_succ]
          go_upto_region 10 with fail
          refine wp_region_lit ?_
          refine wpList_run (v := .int .i64 ((i + 1 : Nat) : Int)) (wanted_none rfl) (ix_add rfl rfl rfl (by omega) (by omega)) ?_
          simp only [Act.put, List.setIfInBounds_toArray, List.set_cons_zero, List.set_cons_succ]
          refine wpList_run (v := .int .i64 ((i + 1 : Nat) : Int)) (wanted_none rfl) (exec_move rfl rfl) ?_
          simp only [Act.put, List.setIfInBounds_toArray, List.set_cons_zero, List.set_cons_succ]
          go_wp2_with fail
          go_roundg (n - (i + 1))
          case measure => have := HGK.out; have := HLT.out; omega
          case rel => exact ⟨i + 1, es4, rfl, by have := HLT.out; omega, HTB4.out, HLB4.out, by rw [HPL4.out, ← HNE.out]; exact (new_step HZR.out HZ0.out).symm, by rw [HPL4.out, ← HNL.out]; exact (new_more HZR.out).symm, HT4.out⟩
        · have HZ0 := Lib.hid (show ¬ Rt.addE m (es.map RtV.plain) z.plain.1 z.plain.2 = 0 from fun h => h0 (HE.out.trans h))
          have HE0 := Lib.hid h0
          clear h0
          refine wpList_run (v := .int .i64 E) (wanted_none rfl) (gx_assign rfl rfl) ?_
          simp only [Act.put, List.setIfInBounds_toArray, List.set_cons_zero, List.set_cons_succ]
          go_upto_region 8 with fail
          refine wp_region_lit ?_
          refine wpList_run (v := .int .i64 E) (wanted_none rfl) (exec_move rfl rfl) ?_
          simp only [Act.put, List.setIfInBounds_toArray, List.set_cons_zero, List.set_cons_succ]
          refine wpList_run (v := .bool true) (wanted_none rfl) (ix_neq rfl rfl rfl (decide_eq_true HE0.out)) ?_
          simp only [Act.put, List.setIfInBounds_toArray, List.set_cons_zero, List.set_cons_succ]
          go_upto_region 9 with fail
          refine wp_region_lit ?_
          refine wpList_run (v := .int .i64 E) (wanted_none rfl) (exec_move rfl rfl) ?_
          simp only [Act.put, List.setIfInBounds_toArray, List.set_cons_zero, List.set_cons_succ]
          refine wpList_run (v := .pointer none) (wanted_none rfl) (gx_assign rfl rfl) ?_
          simp only [Act.put, List.setIfInBounds_toArray, List.set_cons_zero, List.set_cons_succ]
          refine wpList_run (v := .int .i64 E) (wanted_none rfl) (gx_assign rfl rfl) ?_
          simp only [Act.put, List.setIfInBounds_toArray, List.set_cons_zero, List.set_cons_succ]
          go_wp2_with fail
          go_ret2
          have hE : Rt.newE m [] rs = E := by rw [← HNE.out, new_stop HZR.out HZ0.out]; exact HE.out.symm
          exact .inr (.inl ⟨HM.out, by rw [hE]; exact HE0.out, by rw [hE]; rfl, HT4.out⟩)
      · obtain rfl : n = i := by have := HGK.out; omega
        have HD := Lib.hid (show rs.drop n = [] from List.drop_of_length_le (by rw [HRS.out, List.length_map]; have := HA.out.len; omega))
        clear hlt
        go_upto_region 5 with fail
        refine wp_region_lit ?_
        refine wpList_run (v := .bool false) (wanted_none rfl) (ix_lss rfl rfl rfl (decide_eq_false (by omega))) ?_
        simp only [Act.put, List.setIfInBounds_toArray, List.set_cons_zero, List.set_cons_succ]
        go_upto_region 11 with fail
        refine wp_region_lit ?_
        refine wpList_run (v := .pointer (some ⟨t, 0, none⟩)) (wanted_none rfl) (exec_move rfl rfl) ?_
        simp only [Act.put, List.setIfInBounds_toArray, List.set_cons_zero, List.set_cons_succ]
        refine wpList_run (v := .pointer (some ⟨t, 0, none⟩)) (wanted_none rfl) (gx_assign rfl rfl) ?_
        simp only [Act.put, List.setIfInBounds_toArray, List.set_cons_zero, List.set_cons_succ]
        refine wpList_run (v := .int .i64 0) (wanted_none rfl) (gx_assign rfl rfl) ?_
        simp only [Act.put, List.setIfInBounds_toArray, List.set_cons_zero, List.set_cons_succ]
        go_wp2_with fail
        go_ret2
        have h1 := HNE.out
        have h2 := HNL.out
        rw [HD.out] at h1 h2
        exact .inr (.inr ⟨HM.out, h1.symm, t, mb, es, rfl, HTW.out, h2, HY.out, HMB.out, HLB.out, HTR.out⟩)
end Go.Proofs.Ytihmpbilbnajpaa
