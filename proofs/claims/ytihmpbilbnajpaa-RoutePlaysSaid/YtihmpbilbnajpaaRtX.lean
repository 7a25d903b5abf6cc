/-
  Routes: a table and the reference beside each other: the law's walk. No conditions.
-/
import Derived.Test.YtihmpbilbnajpaaRtW
import Derived.Deep.CutBlock
namespace Go.Proofs.Ytihmpbilbnajpaa
open Go.RowKit
open Ix
open Rt (R)
set_option linter.unusedVariables false
set_option linter.unusedSimpArgs false
section
theorem ix_negq {a : Act} {o : Oper} {W : World} {x : Operand} {i r : Int} (ho : o.op = .unOp .neg 3 x) (hx : a.eval x = .int .i64 i) (h : -i = r) (hb : -9223372036854775808 ≤ r ∧ r ≤ 9223372036854775807) : (execOp a.eval o).run Try.prog W = .ok (.value (.int .i64 r)) W := by
  subst h
  have hw : IntKind.i64.wrap (-i) = -i := by rw [IntKind.wrap_i64]; omega
  unfold execOp
  simp only [ho, hx]
  go_simp
  try exact hw
theorem zero_opr (w : World) : (zeroValue 40).run Try.prog w = .ok (.agg #[.int .i64 0, .string ByteArray.empty, .slice none 0 0, .string ByteArray.empty]) w := by kernel_rfl
theorem OpR.one (o : OpR) : ∀ u ∈ o.cells, u.oneCell' = true := fun u hu => by
  simp only [OpR.cells, RtV.cells, List.cons_append, List.nil_append, List.mem_cons, List.not_mem_nil, or_false] at hu
  rcases hu with rfl | rfl | rfl | rfl <;> rfl
theorem opr_rng {w : World} {g : Nat} {o : OpR} (h : Blk w g 40 #[.int .i64 o.kind, strV o.r.pre, .slice o.r.A o.r.n o.r.c, strV o.pan]) : w.rangeAt g 1 o.r.cells := fun j u hu => by
  rw [h.cell]
  match j, hu with
  | 0, hu => exact hu
  | 1, hu => exact hu
theorem Spl.off {F : Nat → Prop} {w w' : World} {A : Option Addr} {vs : List RtV} (h : Spl w A vs) (ht : Turn F w w') (hn : ∀ b, SplF A vs b → ¬ F b) : Spl w' A vs :=
  ⟨fun h0 => by obtain ⟨b, cur, e, hb, h1, h2⟩ := h.row h0; exact ⟨b, cur, e, hb.turn ht (hn b (.inl e)), h1, h2⟩, fun r hr h0 => by obtain ⟨b, cur, e, hb, h1⟩ := h.its r hr h0; exact ⟨b, cur, e, hb.turn ht (hn b (.inr ⟨r, hr, e⟩)), h1⟩⟩
theorem rfind_is {w : World} {B y : Nat} {m : Int} {v : Value} {vs : List RtV} {p : Key} {o : Option (List Int)} {s : Bool} {zs : List Int} (h : RefT w B y m v vs) (hB : B ≤ w.heap.size) (hs : Rt.Srt (vs.map RtV.plain)) (hl : vs.length ≤ 32) (hp : p.length ≤ 9223372036854775807) (hb : Rt.Best (vs.map RtV.plain) p o) (hi : s = o.isSome) (hz : zs = o.getD []) :
    Calls Try.prog 19 #[.pointer (some ⟨y, 0, none⟩), strV p] w fun e w' => ∃ A n c, e = .returned (.tuple #[.slice A n c, .bool s]) ∧ n = zs.length ∧ Orw w' w.heap.size 3 1 (.slice A n c) (zs.map one1) ∧ Turn nowhere w w' := by
  subst hi hz
  refine (rFind_walk h hB hs hl hp).mono ?_
  intro e w' hf
  obtain ⟨o2, A, n, c, h1, h2, rfl, h3, h4⟩ := hf.q
  obtain rfl := Rt.best_one hs h1 hb
  exact ⟨A, n, c, rfl, h3, h4, h2⟩
theorem rnew_bad {w : World} {A : Option Addr} {n c : Nat} {us : List RtV} {m E : Int} (ha : RtsAt w A n us) (hE : E = if 1 ≤ m ∧ m ≤ 6 then Rt.newE m [] (us.map RtV.plain) else 130) (h0 : E ≠ 0) :
    Calls Try.prog 11 #[.slice A n c, .int .i64 m] w fun e w' => e = .returned (.tuple #[.pointer none, .int .i64 E]) ∧ Turn nowhere w w' := (rNew_walk ha).mono fun e w' h => by
  subst hE
  rcases h with ⟨h, h2⟩ | ⟨h, _, h2⟩ | ⟨h, h3, _⟩
  · rw [if_neg h]
    exact h2
  · rw [if_pos h]
    exact h2
  · rw [if_pos h] at h0
    exact absurd h3 h0
theorem rnew_ok {w : World} {A : Option Addr} {n c : Nat} {us : List RtV} {m : Int} {l : List R} (ha : RtsAt w A n us) (hm : 1 ≤ m ∧ m ≤ 6) (h0 : Rt.newE m [] (us.map RtV.plain) = 0) (hl : l = Rt.newL m [] (us.map RtV.plain)) :
    Calls Try.prog 11 #[.slice A n c, .int .i64 m] w fun e w' => ∃ y, e = .returned (.tuple #[.pointer (some ⟨y, 0, none⟩), .int .i64 0]) ∧ RefNew w y m l w' := (rNew_walk ha).mono fun e w' h => by
  subst hl
  rcases h with ⟨h, _⟩ | ⟨_, h, _⟩ | ⟨_, _, h⟩
  · exact absurd hm h
  · exact absurd h0 h
  · exact h
set_option maxRecDepth 20000 in
set_option maxHeartbeats 4000000 in
theorem plays_walk {w : World} {A : Option Addr} {n c : Nat} {us : List RtV} {m : Int} {A2 : Option Addr} {n2 c2 : Nat} {os : List OpR} (ha : RtsAt w A n us) (hr : n * 40 ≤ 140737488355328) (hk : OpsAt w A2 n2 os) :
    Calls Try.prog 3 #[.slice A n c, .int .i64 m, .slice A2 n2 c2] w fun e w' => e = .returned (.bool true) ∧ Turn nowhere w w' := by
  have HA := Lib.hid apiX
  have HU := Lib.hid ha
  have HRM := Lib.hid hr
  have HUN := Lib.hid ha.len
  have HK := Lib.hid hk
  have yn : (n : Int) ≤ 3518437208883 := by omega
  have yn2 : (n2 : Int) ≤ 140737488355328 := by have := hk.1.2.2.1; omega
  have HKN := Lib.hid hk.len
  obtain ⟨rs, hrs⟩ : ∃ x, x = us.map RtV.plain := ⟨_, rfl⟩
  have HRS := Lib.hid hrs
  clear ha hr hk hrs
  go_enter Try.func3, Try.ntmps3
  go_upto_region 0 with fail
  refine wp_region_lit ?_
  refine wpList_run (v := .bool false) (wanted_none rfl) (gx_assign rfl rfl) ?_
  simp only [Act.put, List.setIfInBounds_toArray, List.set_cons_zero, List.set_cons_succ]
  go_upto_region 1 with fail
  refine wp_region_lit ?_
  refine wpList_op rfl fun K9 HK9 => ?_
  go_wp2_with fail
  refine (shown_walk (w := w) HA.out).mono ?_
  rintro e w1 ⟨rfl, ht⟩
  refine HK9.out _ _ ?_
  clear HK9
  try simp only [Act.put, List.setIfInBounds_toArray, List.set_cons_zero, List.set_cons_succ]
  have HT1 := Lib.hid ht
  have HLE := Lib.hid (lent_walk (c := c) (HU.out.still ht) HRM.out)
  clear ht
  refine wpList_run (v := .bool true) (wanted_none rfl) (gx_assign rfl rfl) ?_
  simp only [Act.put, List.setIfInBounds_toArray, List.set_cons_zero, List.set_cons_succ]
  go_upto_region 2 with fail
  refine wp_region_lit ?_
  refine wpList_run (v := .slice A n c) (wanted_none rfl) (exec_move rfl rfl) ?_
  simp only [Act.put, List.setIfInBounds_toArray, List.set_cons_zero, List.set_cons_succ]
  refine wpList_op rfl fun K9 HK9 => ?_
  go_wp2_with fail
  refine (HLE.out).mono ?_
  rintro e w2 ⟨A3, c3, us3, rfl, ho, hp, ht⟩
  refine HK9.out _ _ ?_
  clear HK9
  try simp only [Act.put, List.setIfInBounds_toArray, List.set_cons_zero, List.set_cons_succ]
  have HT2 := Lib.hid (HT1.out.trans ht fun _ _ e => e)
  have HOW2 := Lib.hid ho
  have HP3 := Lib.hid (show us3.map RtV.plain = rs from hp.trans HRS.out.symm)
  have HN3 := Lib.hid (show n = us3.length from by have h := congrArg List.length hp; rw [List.length_map, List.length_map] at h; have := HUN.out; omega)
  have HS12 := Lib.hid ht.size
  have HRA := Lib.hid (ho.rts (by have := HN3.out; omega))
  clear ho hp ht HLE
  refine wpList_run (v := .slice A3 n c3) (wanted_none rfl) (gx_assign rfl rfl) ?_
  simp only [Act.put, List.setIfInBounds_toArray, List.set_cons_zero, List.set_cons_succ]
  by_cases he : (1 ≤ m ∧ m ≤ 6) ∧ Rt.newE m [] rs = 0
  · have HM := Lib.hid he.1
    have HNE := Lib.hid he.2
    obtain ⟨L, hL⟩ : ∃ x, x = Rt.newL m [] rs := ⟨_, rfl⟩
    have HLL := Lib.hid hL
    have HNW := Lib.hid (Ax.new_ok (m := m) (l := L) (c := c3) HRA.out HRM.out he.1 (by rw [HP3.out]; exact he.2) (by rw [HP3.out]; exact hL))
    clear he hL
    go_upto_region 3 with fail
    refine wp_region_lit ?_
    refine wpList_run (v := .slice A3 n c3) (wanted_none rfl) (exec_move rfl rfl) ?_
    simp only [Act.put, List.setIfInBounds_toArray, List.set_cons_zero, List.set_cons_succ]
    refine wpList_run (v := .int .i64 m) (wanted_none rfl) (exec_move rfl rfl) ?_
    simp only [Act.put, List.setIfInBounds_toArray, List.set_cons_zero, List.set_cons_succ]
    refine wpList_op rfl fun K9 HK9 => ?_
    go_wp2_with fail
    refine (HNW.out).mono ?_
    rintro e w3 ⟨x, F, LF, rfl, hat, hF, ht⟩
    refine HK9.out _ _ ?_
    clear HK9
    try simp only [Act.put, List.setIfInBounds_toArray, List.set_cons_zero, List.set_cons_succ]
    have HAT3 := Lib.hid hat
    have HF3 := Lib.hid hF
    have HT3 := Lib.hid (HT2.out.trans ht fun _ _ e => e)
    have HSPW := Lib.hid (spoil_walk (c := c3) (HOW2.out.still ht).spl HN3.out (fun r hr => by have := (HOW2.out.its r hr).1.room; omega) (by omega))
    have HSF := Lib.hid (fun b (hb : SplF A3 us3 b) => HOW2.out.splF hb)
    clear hat hF ht HNW
    refine wpList_run (v := .tuple #[.pointer (some ⟨x, 0, none⟩), .int .i64 0]) (wanted_none rfl) (exec_move rfl rfl) ?_
    simp only [Act.put, List.setIfInBounds_toArray, List.set_cons_zero, List.set_cons_succ]
    refine wpList_run (v := .pointer (some ⟨x, 0, none⟩)) (wanted_none rfl) (ix_extract rfl rfl rfl) ?_
    simp only [Act.put, List.setIfInBounds_toArray, List.set_cons_zero, List.set_cons_succ]
    refine wpList_run (v := .int .i64 0) (wanted_none rfl) (ix_extract rfl rfl rfl) ?_
    simp only [Act.put, List.setIfInBounds_toArray, List.set_cons_zero, List.set_cons_succ]
    refine wpList_run (v := .pointer (some ⟨x, 0, none⟩)) (wanted_none rfl) (gx_assign rfl rfl) ?_
    simp only [Act.put, List.setIfInBounds_toArray, List.set_cons_zero, List.set_cons_succ]
    refine wpList_run (v := .int .i64 0) (wanted_none rfl) (gx_assign rfl rfl) ?_
    simp only [Act.put, List.setIfInBounds_toArray, List.set_cons_zero, List.set_cons_succ]
    go_upto_region 4 with fail
    refine wp_region_lit ?_
    refine wpList_run (v := .slice A3 n c3) (wanted_none rfl) (exec_move rfl rfl) ?_
    simp only [Act.put, List.setIfInBounds_toArray, List.set_cons_zero, List.set_cons_succ]
    refine wpList_op rfl fun K9 HK9 => ?_
    go_wp2_with fail
    refine (HSPW.out).mono ?_
    rintro e w4 ⟨rfl, ht⟩
    refine HK9.out _ _ ?_
    clear HK9
    try simp only [Act.put, List.setIfInBounds_toArray, List.set_cons_zero, List.set_cons_succ]
    have HT4 := Lib.hid (show Turn nowhere w w4 from Turn.own HT3.out (fun b e => by have := (HSF.out b e).1; have := HT1.out.size; omega) ht)
    have HAT4 := Lib.hid (HAT3.out.turn ht (fun b hb e => by have h1 := HF3.out b (.inl hb); have h2 := (HSF.out b e).2; omega) fun b hb e => by have h1 := HF3.out b (.inr hb); have h2 := (HSF.out b e).2; omega)
    have HRN := Lib.hid (rnew_ok (m := m) (l := L) (c := c) (HU.out.still HT4.out) HM.out (by rw [← HRS.out]; exact HNE.out) (by rw [← HRS.out]; exact HLL.out))
    clear ht HSPW
    go_upto_region 5 with fail
    refine wp_region_lit ?_
    refine wpList_run (v := .slice A n c) (wanted_none rfl) (exec_move rfl rfl) ?_
    simp only [Act.put, List.setIfInBounds_toArray, List.set_cons_zero, List.set_cons_succ]
    refine wpList_run (v := .int .i64 m) (wanted_none rfl) (exec_move rfl rfl) ?_
    simp only [Act.put, List.setIfInBounds_toArray, List.set_cons_zero, List.set_cons_succ]
    refine wpList_op rfl fun K9 HK9 => ?_
    go_wp2_with fail
    refine (HRN.out).mono ?_
    rintro e w5 ⟨y, rfl, hy, ht, v, vs, href, hpl⟩
    refine HK9.out _ _ ?_
    clear HK9
    try simp only [Act.put, List.setIfInBounds_toArray, List.set_cons_zero, List.set_cons_succ]
    have HT5 := Lib.hid (HT4.out.trans ht fun _ _ e => e)
    have HAT5 := Lib.hid (HAT4.out.still ht)
    have HRF5 := Lib.hid href
    have HPL5 := Lib.hid hpl
    have HFY := Lib.hid (show ∀ b, F b → ¬ RefG y v vs b from fun b hb e => by
      have h1 := HAT4.out.lt hb
      rcases (href.low e).1 with h | h <;> omega)
    have HSG := Lib.hid (HAT5.out.srt)
    have HCL := Lib.hid (HAT5.out.clone)
    have HB5 := Lib.hid ht.size
    have HFW := Lib.hid (show ∀ b, F b ∨ LF b → w.heap.size ≤ b from fun b hb => Nat.le_trans HT2.out.size (HF3.out b hb))
    have HYW := Lib.hid (show ∀ b, RefG y v vs b → w.heap.size ≤ b from fun b hb => by
      have := HT4.out.size
      rcases (href.low hb).1 with h | h <;> omega)
    clear hy ht href hpl HRN
    refine wpList_run (v := .tuple #[.pointer (some ⟨y, 0, none⟩), .int .i64 0]) (wanted_none rfl) (exec_move rfl rfl) ?_
    simp only [Act.put, List.setIfInBounds_toArray, List.set_cons_zero, List.set_cons_succ]
    refine wpList_run (v := .pointer (some ⟨y, 0, none⟩)) (wanted_none rfl) (ix_extract rfl rfl rfl) ?_
    simp only [Act.put, List.setIfInBounds_toArray, List.set_cons_zero, List.set_cons_succ]
    refine wpList_run (v := .int .i64 0) (wanted_none rfl) (ix_extract rfl rfl rfl) ?_
    simp only [Act.put, List.setIfInBounds_toArray, List.set_cons_zero, List.set_cons_succ]
    refine wpList_run (v := .pointer (some ⟨y, 0, none⟩)) (wanted_none rfl) (gx_assign rfl rfl) ?_
    simp only [Act.put, List.setIfInBounds_toArray, List.set_cons_zero, List.set_cons_succ]
    refine wpList_run (v := .int .i64 0) (wanted_none rfl) (gx_assign rfl rfl) ?_
    simp only [Act.put, List.setIfInBounds_toArray, List.set_cons_zero, List.set_cons_succ]
    go_upto_region 6 with fail
    refine wp_region_lit ?_
    refine wpList_run (v := .bool true) (wanted_none rfl) (exec_move rfl rfl) ?_
    simp only [Act.put, List.setIfInBounds_toArray, List.set_cons_zero, List.set_cons_succ]
    refine wpList_run (v := .bool false) (wanted_none rfl) (ix_not (b := true) rfl rfl) ?_
    simp only [Act.put, List.setIfInBounds_toArray, List.set_cons_zero, List.set_cons_succ]
    refine wpList_run (v := .bool false) (wanted_none rfl) (exec_move rfl rfl) ?_
    simp only [Act.put, List.setIfInBounds_toArray, List.set_cons_zero, List.set_cons_succ]
    refine wpList_run (v := .int .i64 0) rfl (exec_move rfl rfl) ?_
    simp only [Act.put, List.setIfInBounds_toArray, List.set_cons_zero, List.set_cons_succ]
    refine wpList_run (v := .int .i64 0) rfl (exec_move rfl rfl) ?_
    simp only [Act.put, List.setIfInBounds_toArray, List.set_cons_zero, List.set_cons_succ]
    refine wpList_run (v := .bool false) rfl (ix_neq rfl rfl rfl (by decide)) ?_
    simp only [Act.put, List.setIfInBounds_toArray, List.set_cons_zero, List.set_cons_succ]
    refine wpList_run (v := .bool false) (wanted_none rfl) (ix_pickF rfl rfl rfl) ?_
    simp only [Act.put, List.setIfInBounds_toArray, List.set_cons_zero, List.set_cons_succ]
    refine wpList_run (v := .bool false) (wanted_none rfl) (exec_move rfl rfl) ?_
    simp only [Act.put, List.setIfInBounds_toArray, List.set_cons_zero, List.set_cons_succ]
    refine wpList_run (v := .pointer (some ⟨x, 0, none⟩)) rfl (exec_move rfl rfl) ?_
    simp only [Act.put, List.setIfInBounds_toArray, List.set_cons_zero, List.set_cons_succ]
    refine wpList_run (v := .bool false) rfl (ptr_nnR rfl rfl rfl rfl) ?_
    simp only [Act.put, List.setIfInBounds_toArray, List.set_cons_zero, List.set_cons_succ]
    refine wpList_run (v := .pointer (some ⟨y, 0, none⟩)) rfl (exec_move rfl rfl) ?_
    simp only [Act.put, List.setIfInBounds_toArray, List.set_cons_zero, List.set_cons_succ]
    refine wpList_run (v := .bool false) rfl (ptr_nnF rfl rfl rfl rfl) ?_
    simp only [Act.put, List.setIfInBounds_toArray, List.set_cons_zero, List.set_cons_succ]
    refine wpList_run (v := .bool false) rfl (bx_neb rfl rfl rfl (by simp) rfl) ?_
    simp only [Act.put, List.setIfInBounds_toArray, List.set_cons_zero, List.set_cons_succ]
    refine wpList_run (v := .bool false) (wanted_none rfl) (ix_pickF rfl rfl rfl) ?_
    simp only [Act.put, List.setIfInBounds_toArray, List.set_cons_zero, List.set_cons_succ]
    go_upto_region 8 with fail
    refine wp_region_lit ?_
    refine wpList_run (v := .pointer (some ⟨y, 0, none⟩)) (wanted_none rfl) (exec_move rfl rfl) ?_
    simp only [Act.put, List.setIfInBounds_toArray, List.set_cons_zero, List.set_cons_succ]
    refine wpList_run (v := .bool false) (wanted_none rfl) (ptr_nnF rfl rfl rfl rfl) ?_
    simp only [Act.put, List.setIfInBounds_toArray, List.set_cons_zero, List.set_cons_succ]
    go_upto_region 10 with fail
    refine wp_region_lit ?_
    refine wpList_run (v := .pointer (some ⟨x, 0, none⟩)) (wanted_none rfl) (exec_move rfl rfl) ?_
    simp only [Act.put, List.setIfInBounds_toArray, List.set_cons_zero, List.set_cons_succ]
    refine wpList_op rfl fun K9 HK9 => ?_
    go_wp2_with fail
    refine (HCL.out).mono ?_
    rintro e w6 ⟨z, F2, rfl, hat, hF, ht⟩
    refine HK9.out _ _ ?_
    clear HK9
    try simp only [Act.put, List.setIfInBounds_toArray, List.set_cons_zero, List.set_cons_succ]
    have HT6 := Lib.hid (HT5.out.trans ht fun _ _ e => e)
    have HAZ6 := Lib.hid hat
    have HF6 := Lib.hid hF
    have HS56 := Lib.hid ht
    have HRC := Lib.hid (rClone_walk (HRF5.out.still ht) (Nat.le_trans HB5.out ht.size) (by have h := HSG.out.2; rw [← HPL5.out, List.length_map] at h; exact h))
    clear hat hF ht HCL
    refine wpList_run (v := .pointer (some ⟨z, 0, none⟩)) (wanted_none rfl) (gx_assign rfl rfl) ?_
    simp only [Act.put, List.setIfInBounds_toArray, List.set_cons_zero, List.set_cons_succ]
    go_upto_region 11 with fail
    refine wp_region_lit ?_
    refine wpList_run (v := .pointer (some ⟨y, 0, none⟩)) (wanted_none rfl) (exec_move rfl rfl) ?_
    simp only [Act.put, List.setIfInBounds_toArray, List.set_cons_zero, List.set_cons_succ]
    refine wpList_op rfl fun K9 HK9 => ?_
    go_wp2_with fail
    refine (HRC.out).mono ?_
    rintro e w7 ⟨u, v2, rfl, hu, ht, href, hG⟩
    refine HK9.out _ _ ?_
    clear HK9
    try simp only [Act.put, List.setIfInBounds_toArray, List.set_cons_zero, List.set_cons_succ]
    have HT7 := Lib.hid (HT6.out.trans ht fun _ _ e => e)
    have h4 := Four.init HAT5.out HRF5.out HPL5.out HFY.out HB5.out HAZ6.out HF6.out HS56.out (fun e => by have h1 := (HRF5.out.low (.inl rfl)).2; have h2 := HS56.out.size; omega) href hG ht
    have HPW := Lib.hid (show ∀ b, (F b ∨ LF b ∨ F2 b ∨ RefG y v vs b ∨ RefG u v2 vs b) → w.heap.size ≤ b from fun b hb => by
      have s5 := HT5.out.size
      have s6 := HT6.out.size
      rcases hb with h | h | h | h | h
      · exact HFW.out b (.inl h)
      · exact HFW.out b (.inr h)
      · have := HF6.out b h; omega
      · exact HYW.out b h
      · rcases hG b h with h | h
        · exact HYW.out b h
        · omega)
    obtain ⟨P, hP⟩ : ∃ P, P = (fun b => F b ∨ LF b ∨ F2 b ∨ RefG y v vs b ∨ RefG u v2 vs b) := ⟨_, rfl⟩
    rw [← hP] at h4
    have H4 := Lib.hid h4
    have HPW2 := Lib.hid (show ∀ b, P b → w.heap.size ≤ b from fun b hb => HPW.out b (by rw [hP] at hb; exact hb))
    clear hu ht href hG HRC h4 hP
    refine wpList_run (v := .pointer (some ⟨u, 0, none⟩)) (wanted_none rfl) (gx_assign rfl rfl) ?_
    simp only [Act.put, List.setIfInBounds_toArray, List.set_cons_zero, List.set_cons_succ]
    go_upto_region 12 with fail
    refine wp_region_lit ?_
    refine wpList_run (v := .pointer (some ⟨z, 0, none⟩)) (wanted_none rfl) (exec_move rfl rfl) ?_
    simp only [Act.put, List.setIfInBounds_toArray, List.set_cons_zero, List.set_cons_succ]
    refine wpList_run (v := .bool false) (wanted_none rfl) (ptr_nnR rfl rfl rfl rfl) ?_
    simp only [Act.put, List.setIfInBounds_toArray, List.set_cons_zero, List.set_cons_succ]
    go_upto_region 14 with fail
    refine wp_region_lit ?_
    refine wpList_run (v := .int .i64 0) (wanted_none rfl) (gx_assign rfl rfl) ?_
    simp only [Act.put, List.setIfInBounds_toArray, List.set_cons_zero, List.set_cons_succ]
    obtain ⟨B4, hB4⟩ : ∃ B, B = w4.heap.size := ⟨_, rfl⟩
    rw [← hB4] at H4
    clear hB4
    clear HU HUN HRS HRM HOW2 HP3 HN3 HS12 HRA HT1 HT2 HLL HAT3 HF3 HT3 HSF HT4 HAT4 HT5 HAT5 HRF5 HPL5 HFY HSG HB5 HFW HYW HT6 HAZ6 HF6 HS56 HPW HNE HA
    go_wp2_with fail
    go_loopg [9, 11, 13, 14, 15, 16, 17, 18, 19, 20, 21, 22, 23, 24, 25, 26, 27, 28, 29, 30, 31] n2 (fun gk xv yv zv uv iv s16 s17 s18 s19 s20 s21 s22 s23 s24 s25 s26 s27 s28 s29 s30 s31 wr => ∃ (i x y z u : Nat) (l l2 : List R) (P : Nat → Prop), iv = .int .i64 (i : Int) ∧ xv = .pointer (some ⟨x, 0, none⟩) ∧ yv = .pointer (some ⟨y, 0, none⟩) ∧ zv = .pointer (some ⟨z, 0, none⟩) ∧ uv = .pointer (some ⟨u, 0, none⟩) ∧ i + gk = n2 ∧ i ≤ 100 ∧ Four wr B4 m x y z u l l l2 l2 P ∧ (∀ b, P b → w.heap.size ≤ b) ∧ Turn nowhere w wr)
    case atStart => exact ⟨0, x, y, z, u, L, L, P, rfl, rfl, rfl, rfl, rfl, by omega, by omega, H4.out, HPW2.out, HT7.out⟩
    clear H4 HPW2 HT7
    obtain ⟨i, x, y, z, u, l, l2, P, rfl, rfl, rfl, rfl, rfl, hgk, hi100, h4, hpw, htr⟩ := hrel
    have HGK := Lib.hid hgk
    have H4 := Lib.hid h4
    have HPW := Lib.hid hpw
    have HTR := Lib.hid htr
    have yi : (i : Int) ≤ (n2 : Int) := by omega
    have yi1 : (i : Int) ≤ 100 := by omega
    clear hgk hi100 h4 hpw htr
    by_cases hlt : i < n2
    · by_cases h100 : i < 100
      · have HLT := Lib.hid hlt
        have y3 : (i : Int) < (n2 : Int) := by omega
        have y4 : (i : Int) < 100 := by omega
        have HK1 := Lib.hid (HK.out.still HTR.out)
        obtain ⟨o, ho⟩ := getQ (l := os) (i := i) (by have := HKN.out; omega)
        obtain ⟨b2, o2, e2, _⟩ := HK1.out.1.at_ (i := i) (r := o.cells) (by rw [List.getElem?_map, ho]; rfl)
        subst e2
        have HRG := Lib.hid (HK1.out.rng ho)
        have HOM := Lib.hid (List.mem_of_getElem? ho)
        have HOO := Lib.hid (HK1.out.2 o HOM.out)
        clear ho hlt h100
        go_upto_region 15 with fail
        refine wp_region_lit ?_
        refine wpList_run (v := .int .i64 (i : Int)) (wanted_none rfl) (exec_move rfl rfl) ?_
        simp only [Act.put, List.setIfInBounds_toArray, List.set_cons_zero, List.set_cons_succ]
        refine wpList_run (v := .slice (some ⟨b2, o2, none⟩) n2 c2) (wanted_none rfl) (exec_move rfl rfl) ?_
        simp only [Act.put, List.setIfInBounds_toArray, List.set_cons_zero, List.set_cons_succ]
        refine wpList_run (v := .int .i64 (n2 : Int)) (wanted_none rfl) (gx_len rfl rfl Try.underlying23) ?_
        simp only [Act.put, List.setIfInBounds_toArray, List.set_cons_zero, List.set_cons_succ]
        refine wpList_run (v := .bool true) (wanted_none rfl) (ix_lss rfl rfl rfl (decide_eq_true y3)) ?_
        simp only [Act.put, List.setIfInBounds_toArray, List.set_cons_zero, List.set_cons_succ]
        refine wpList_run (v := .bool true) (wanted_none rfl) (exec_move rfl rfl) ?_
        simp only [Act.put, List.setIfInBounds_toArray, List.set_cons_zero, List.set_cons_succ]
        refine wpList_run (v := .int .i64 (i : Int)) rfl (exec_move rfl rfl) ?_
        simp only [Act.put, List.setIfInBounds_toArray, List.set_cons_zero, List.set_cons_succ]
        refine wpList_run (v := .bool true) rfl (ix_lss rfl rfl rfl (decide_eq_true y4)) ?_
        simp only [Act.put, List.setIfInBounds_toArray, List.set_cons_zero, List.set_cons_succ]
        refine wpList_run (v := .bool true) (wanted_none rfl) (ix_pickT rfl rfl rfl) ?_
        simp only [Act.put, List.setIfInBounds_toArray, List.set_cons_zero, List.set_cons_succ]
        go_upto_region 17 with fail
        refine wp_region_lit ?_
        refine wpList_run (v := .slice (some ⟨b2, o2, none⟩) n2 c2) (wanted_none rfl) (exec_move rfl rfl) ?_
        simp only [Act.put, List.setIfInBounds_toArray, List.set_cons_zero, List.set_cons_succ]
        refine wpList_run (v := .int .i64 (i : Int)) (wanted_none rfl) (exec_move rfl rfl) ?_
        simp only [Act.put, List.setIfInBounds_toArray, List.set_cons_zero, List.set_cons_succ]
        refine wpList_run (v := .pointer (some ⟨b2, o2 + i * 4, none⟩)) (wanted_none rfl) (gx_iaddr (i := i) (sz := 4) rfl rfl rfl Try.underlying23 size_opr HLT.out rfl) ?_
        simp only [Act.put, List.setIfInBounds_toArray, List.set_cons_zero, List.set_cons_succ]
        refine wpList_run (v := .agg o.cells.toArray) (wanted_none rfl) (gx_loads rfl rfl HRG.out Try.underlying40 rfl (by rw [size_opr]; rfl)) ?_
        simp only [Act.put, List.setIfInBounds_toArray, List.set_cons_zero, List.set_cons_succ]
        refine wpList_new 40 (.tmp 16) (.tmp 84) o.cells.toArray rfl rfl (zero_opr _) rfl rfl rfl rfl rfl rfl (by rw [size_opr]; rfl) (by simpa using o.one) ?_
        intro w8 g7 hge hbg ht8
        simp only [Act.put, List.setIfInBounds_toArray, List.set_cons_zero, List.set_cons_succ]
        have HB7 := Lib.hid (show Blk w8 g7 40 #[.int .i64 o.kind, strV o.r.pre, .slice o.r.A o.r.n o.r.c, strV o.pan] from hbg)
        have HT8 := Lib.hid (HTR.out.trans ht8 fun _ _ e => e)
        have H48 := Lib.hid (H4.out.still ht8)
        have HGP := Lib.hid (show ¬ P g7 from fun e => by have := H4.out.lt e; omega)
        have HO8 := Lib.hid (HOO.out.still ht8)
        clear hge hbg ht8 H4 HTR HRG HK1 HOO
        go_upto_region 18 with fail
        refine wp_region_lit ?_
        refine wpList_run (v := .pointer (some ⟨g7, 0, none⟩)) (wanted_none rfl) (exec_field (off := 0) (d := 0) rfl rfl (by kernel_rfl)) ?_
        simp only [Act.put, List.setIfInBounds_toArray, List.set_cons_zero, List.set_cons_succ]
        refine wpList_run (v := .int .i64 o.kind) (wanted_none rfl) (exec_load1 rfl rfl (by kernel_rfl) (HB7.out.cell 0)) ?_
        simp only [Act.put, List.setIfInBounds_toArray, List.set_cons_zero, List.set_cons_succ]
        refine wpList_run (v := .int .i64 o.kind) (wanted_none rfl) (gx_assign rfl rfl) ?_
        simp only [Act.put, List.setIfInBounds_toArray, List.set_cons_zero, List.set_cons_succ]
        have yk1 : -9223372036854775808 ≤ o.kind := HO8.out.k.1
        have yk2 : o.kind ≤ 9223372036854775807 := HO8.out.k.2
        go_upto_region 19 with fail
        refine wp_region_lit ?_
        refine wpList_run (v := .int .i64 o.kind) (wanted_none rfl) (exec_move rfl rfl) ?_
        simp only [Act.put, List.setIfInBounds_toArray, List.set_cons_zero, List.set_cons_succ]
        refine wpList_run (v := .bool (decide (o.kind < 0))) (wanted_none rfl) (ix_lss rfl rfl rfl rfl) ?_
        simp only [Act.put, List.setIfInBounds_toArray, List.set_cons_zero, List.set_cons_succ]
        go_upto_if 88 with fail
        go_cut [17] from 88 to 91 (fun kv wx => ∃ q : Nat, kv = .int .i64 (q : Int) ∧ (q : Int) ≤ 9223372036854775807 ∧ w8 = wx)
        case first =>
          by_cases hneg : o.kind < 0
          · rw [decide_eq_true hneg]
            obtain ⟨q, hq⟩ : ∃ q : Nat, (q : Int) = -(o.kind + 1) := ⟨(-(o.kind + 1)).toNat, by omega⟩
            have HQ := Lib.hid hq
            clear hq
            go_upto_region 20 with fail
            refine wp_region_lit ?_
            refine wpList_run (v := .int .i64 o.kind) (wanted_none rfl) (exec_move rfl rfl) ?_
            simp only [Act.put, List.setIfInBounds_toArray, List.set_cons_zero, List.set_cons_succ]
            refine wpList_run (v := .int .i64 (o.kind + 1)) (wanted_none rfl) (ix_add rfl rfl rfl rfl (by omega)) ?_
            simp only [Act.put, List.setIfInBounds_toArray, List.set_cons_zero, List.set_cons_succ]
            refine wpList_run (v := .int .i64 (q : Int)) (wanted_none rfl) (ix_negq rfl rfl (by have := HQ.out; omega) (by have := HQ.out; omega)) ?_
            simp only [Act.put, List.setIfInBounds_toArray, List.set_cons_zero, List.set_cons_succ]
            refine wpList_run (v := .int .i64 (q : Int)) (wanted_none rfl) (gx_assign rfl rfl) ?_
            simp only [Act.put, List.setIfInBounds_toArray, List.set_cons_zero, List.set_cons_succ]
            go_wp2_with fail
            go_meet
            exact ⟨q, rfl, by have := HQ.out; omega, rfl⟩
          · rw [decide_eq_false hneg]
            obtain ⟨q, hq⟩ : ∃ q : Nat, (q : Int) = o.kind := ⟨o.kind.toNat, by omega⟩
            have HQ := Lib.hid hq
            clear hq
            go_wp2_with fail
            go_meet
            exact ⟨q, by rw [HQ.out], by have := HQ.out; omega, rfl⟩
        obtain ⟨q, rfl, yq, hw⟩ := hcut
        subst hw
        go_upto_region 21 with fail
        refine wp_region_lit ?_
        refine wpList_run (v := .int .i64 (q : Int)) (wanted_none rfl) (exec_move rfl rfl) ?_
        simp only [Act.put, List.setIfInBounds_toArray, List.set_cons_zero, List.set_cons_succ]
        refine wpList_run (v := .int .i64 ((q % 5 : Nat) : Int)) (wanted_none rfl) (ix_rem (m := 5) rfl rfl rfl (by decide) (by omega)) ?_
        simp only [Act.put, List.setIfInBounds_toArray, List.set_cons_zero, List.set_cons_succ]
        obtain ⟨r5, hr5⟩ : ∃ r, r = q % 5 := ⟨_, rfl⟩
        rw [← hr5]
        have yr5 : r5 < 5 := by omega
        clear hr5
        go_upto_block 2 with fail
        go_cut [9, 11, 13, 14, 18, 19, 20, 21, 22] from 94 to 139 (fun xv yv zv uv s18 s19 s20 s21 s22 wx => ∃ (x y z u : Nat) (l l2 : List R) (P : Nat → Prop), xv = .pointer (some ⟨x, 0, none⟩) ∧ yv = .pointer (some ⟨y, 0, none⟩) ∧ zv = .pointer (some ⟨z, 0, none⟩) ∧ uv = .pointer (some ⟨u, 0, none⟩) ∧ Four wx B4 m x y z u l l l2 l2 P ∧ (∀ b, P b → w.heap.size ≤ b) ∧ ¬ P g7 ∧ Blk wx g7 40 #[.int .i64 o.kind, strV o.r.pre, .slice o.r.A o.r.n o.r.c, strV o.pan] ∧ o.ok wx ∧ Turn nowhere w wx)
        case first =>
          rcases (by omega : r5 = 0 ∨ r5 = 1 ∨ r5 = 2 ∨ r5 = 3 ∨ r5 = 4) with rfl | rfl | rfl | rfl | rfl
          · go_upto_region 22 with fail
            refine wp_region_lit ?_
            refine wpList_run (v := .bool true) (wanted_none rfl) (ix_eql rfl rfl rfl (by decide)) ?_
            simp only [Act.put, List.setIfInBounds_toArray, List.set_cons_zero, List.set_cons_succ]
            refine wpList_run (v := .bool true) (wanted_none rfl) (gx_assign rfl rfl) ?_
            simp only [Act.put, List.setIfInBounds_toArray, List.set_cons_zero, List.set_cons_succ]
            have HBO := Lib.hid (build_one elmRt o.r.cells rfl (by decide) (.agg o.r.cells.toArray) rfl w8)
            have ha := (Turn.refl nowhere w8).alloc (.cells o.r.cells.toArray 38)
            have hr1 := rws_one (w := w8) (et := 38) (r := o.r.cells) rfl fun _ => trivial
            have hrk : o.r.ok (w8.alloc (.cells o.r.cells.toArray 38)) := HO8.out.r.still ha
            have HLE := Lib.hid (lent_walk (c := 1) (vs := [o.r]) (show RtsAt (w8.alloc (.cells o.r.cells.toArray 38)) (some ⟨w8.heap.size, 0, none⟩) 1 [o.r] from ⟨hr1, fun v hv => by rw [List.mem_singleton.1 hv]; exact hrk⟩) (by decide))
            have HA8 := Lib.hid ha
            clear ha hr1 hrk
            go_upto_region 24 with fail
            refine wp_region_lit ?_
            refine wpList_run (v := .pointer (some ⟨g7, 1, none⟩)) (wanted_none rfl) (exec_field (off := 0) (d := 1) rfl rfl (by kernel_rfl)) ?_
            simp only [Act.put, List.setIfInBounds_toArray, List.set_cons_zero, List.set_cons_succ]
            refine wpList_run (v := .agg o.r.cells.toArray) (wanted_none rfl) (gx_loads rfl rfl (opr_rng HB7.out) Try.underlying38 rfl (by rw [size_rt]; rfl)) ?_
            simp only [Act.put, List.setIfInBounds_toArray, List.set_cons_zero, List.set_cons_succ]
            refine wpList_run (v := .slice (some ⟨w8.heap.size, 0, none⟩) 1 1) (w' := w8.alloc (.cells o.r.cells.toArray 38)) (wanted_none rfl) (exec_buildSlice1 rfl rfl HBO.out) ?_
            simp only [Act.put, List.setIfInBounds_toArray, List.set_cons_zero, List.set_cons_succ]
            refine wpList_op rfl fun K9 HK9 => ?_
            go_wp2_with fail
            refine (HLE.out).mono ?_
            rintro e w10 ⟨A10, c10, us, rfl, how, hpl, ht⟩
            refine HK9.out _ _ ?_
            clear HK9
            try simp only [Act.put, List.setIfInBounds_toArray, List.set_cons_zero, List.set_cons_succ]
            obtain ⟨r1, rfl⟩ : ∃ r1, us = [r1] := by
              match us, hpl with
              | [r1], _ => exact ⟨r1, rfl⟩
            have hp1 : r1.plain = o.r.plain := by simpa using hpl
            have HPE := Lib.hid (show r1.pre = o.r.pre ∧ r1.to_ = o.r.to_ from by injection hp1 with h1 h2; exact ⟨h1, h2⟩)
            have HOW := Lib.hid how
            have HS8 := Lib.hid HA8.out.size
            have htw := HA8.out.trans ht fun _ _ e => e
            have HTA := Lib.hid (HT8.out.trans htw fun _ _ e => e)
            have HBA := Lib.hid (HB7.out.turn htw fun e => e)
            have H4A := Lib.hid (H48.out.still htw)
            have HSZ := Lib.hid (show ∀ b, SplF A10 [r1] b → w8.heap.size ≤ b ∧ b < w10.heap.size from fun b hb => by
              have h1 := how.splF hb
              have := HS8.out
              exact ⟨by omega, h1.2⟩)
            obtain ⟨b10, c11, e10, _, _⟩ := how.row.some_ (by rw [List.length_map]; exact Nat.one_pos)
            injection e10 with e10 e10b e10c
            clear e10b e10c
            subst e10
            have HEL := Lib.hid (show w10.rangeAt b10 (0 + 0 * 2) r1.cells from how.row.el0 (i := 0) (r := r1.cells) rfl)
            have HAD := Lib.hid (H4A.out.add (how.its r1 (List.mem_cons_self ..)).1)
            rw [HPE.out.1, HPE.out.2] at HAD
            obtain ⟨E, hE⟩ : ∃ E, E = Rt.addE m l o.r.pre o.r.to_ := ⟨_, rfl⟩
            obtain ⟨L9, hL9⟩ : ∃ E, E = Rt.addL m l o.r.pre o.r.to_ := ⟨_, rfl⟩
            rw [← hE, ← hL9] at HAD
            have HEE := Lib.hid hE
            have HLE9 := Lib.hid hL9
            clear how hpl ht hp1 htw hE hL9
            refine wpList_run (v := .slice (some ⟨b10, 0, none⟩) 1 c10) (wanted_none rfl) (gx_assign rfl rfl) ?_
            simp only [Act.put, List.setIfInBounds_toArray, List.set_cons_zero, List.set_cons_succ]
            go_upto_region 25 with fail
            refine wp_region_lit ?_
            refine wpList_run (v := .pointer (some ⟨x, 0, none⟩)) (wanted_none rfl) (exec_move rfl rfl) ?_
            simp only [Act.put, List.setIfInBounds_toArray, List.set_cons_zero, List.set_cons_succ]
            refine wpList_run (v := .slice (some ⟨b10, 0, none⟩) 1 c10) (wanted_none rfl) (exec_move rfl rfl) ?_
            simp only [Act.put, List.setIfInBounds_toArray, List.set_cons_zero, List.set_cons_succ]
            refine wpList_run (v := .pointer (some ⟨b10, 0 + 0 * 2, none⟩)) (wanted_none rfl) (gx_iaddr (i := 0) (sz := 2) rfl rfl rfl Try.underlying22 size_rt (by decide) rfl) ?_
            simp only [Act.put, List.setIfInBounds_toArray, List.set_cons_zero, List.set_cons_succ]
            refine wpList_run (v := .agg r1.cells.toArray) (wanted_none rfl) (gx_loads rfl rfl HEL.out Try.underlying38 rfl (by rw [size_rt]; rfl)) ?_
            simp only [Act.put, List.setIfInBounds_toArray, List.set_cons_zero, List.set_cons_succ]
            refine wpList_op rfl fun K9 HK9 => ?_
            go_wp2_with fail
            refine (HAD.out).mono ?_
            rintro e w11 ⟨rfl, hf⟩
            refine HK9.out _ _ ?_
            clear HK9
            try simp only [Act.put, List.setIfInBounds_toArray, List.set_cons_zero, List.set_cons_succ]
            obtain ⟨P11, hf1, hf2, hf3⟩ := hf
            have H4b := Lib.hid hf1
            have HPPb := Lib.hid (show ∀ b, P11 b → w.heap.size ≤ b from fun b hb => (hf2 b hb).elim (HPW.out b) fun h => Nat.le_trans HTA.out.size h)
            have HGPb := Lib.hid (show ¬ P11 g7 from fun e => (hf2 _ e).elim HGP.out fun h => by have := HBA.out.lt; omega)
            have HTb := Lib.hid (Turn.own HTA.out HPW.out hf3)
            have HBb := Lib.hid (HBA.out.turn hf3 HGP.out)
            have HSPL := Lib.hid (Spl.off (HOW.out.spl) hf3 fun b hb e => by have h1 := (HSZ.out b hb).1; have h2 := H48.out.lt e; omega)
            have HPD := Lib.hid (show ∀ b, P11 b → ¬ SplF (some ⟨b10, 0, none⟩) [r1] b from fun b hb e => (hf2 b hb).elim (fun h => by have h1 := (HSZ.out b e).1; have h2 := H48.out.lt h; omega) fun h => by have := (HSZ.out b e).2; omega)
            have HSPW := Lib.hid (spoil_walk (c := c10) HSPL.out (n := 1) rfl (fun r hr => by rw [List.mem_singleton.1 hr]; have := (HOW.out.its r1 (List.mem_cons_self ..)).1.room; omega) (by decide))
            clear hf1 hf2 hf3 HAD
            refine wpList_run (v := .int .i64 E) (wanted_none rfl) (gx_assign rfl rfl) ?_
            simp only [Act.put, List.setIfInBounds_toArray, List.set_cons_zero, List.set_cons_succ]
            go_upto_region 26 with fail
            refine wp_region_lit ?_
            refine wpList_run (v := .slice (some ⟨b10, 0, none⟩) 1 c10) (wanted_none rfl) (exec_move rfl rfl) ?_
            simp only [Act.put, List.setIfInBounds_toArray, List.set_cons_zero, List.set_cons_succ]
            refine wpList_op rfl fun K9 HK9 => ?_
            go_wp2_with fail
            refine (HSPW.out).mono ?_
            rintro e w12 ⟨rfl, ht⟩
            refine HK9.out _ _ ?_
            clear HK9
            try simp only [Act.put, List.setIfInBounds_toArray, List.set_cons_zero, List.set_cons_succ]
            have HTc := Lib.hid (Turn.own HTb.out (fun b e => Nat.le_trans HT8.out.size (HSZ.out b e).1) ht)
            have H4c := Lib.hid (H4b.out.off ht HPD.out)
            have HBc := Lib.hid (HBb.out.turn ht fun e => by have h1 := (HSZ.out _ e).1; have h2 := HB7.out.lt; omega)
            have HOc := Lib.hid ((HK.out.still HTc.out).2 o HOM.out)
            have HRA := Lib.hid (H4c.out.radd HOc.out.r)
            rw [← HEE.out, ← HLE9.out] at HRA
            clear ht HSPW
            go_upto_region 27 with fail
            refine wp_region_lit ?_
            refine wpList_run (v := .pointer (some ⟨y, 0, none⟩)) (wanted_none rfl) (exec_move rfl rfl) ?_
            simp only [Act.put, List.setIfInBounds_toArray, List.set_cons_zero, List.set_cons_succ]
            refine wpList_run (v := .pointer (some ⟨g7, 1, none⟩)) (wanted_none rfl) (exec_field (off := 0) (d := 1) rfl rfl (by kernel_rfl)) ?_
            simp only [Act.put, List.setIfInBounds_toArray, List.set_cons_zero, List.set_cons_succ]
            refine wpList_run (v := .agg o.r.cells.toArray) (wanted_none rfl) (gx_loads rfl rfl (opr_rng HBc.out) Try.underlying38 rfl (by rw [size_rt]; rfl)) ?_
            simp only [Act.put, List.setIfInBounds_toArray, List.set_cons_zero, List.set_cons_succ]
            refine wpList_op rfl fun K9 HK9 => ?_
            go_wp2_with fail
            refine (HRA.out).mono ?_
            rintro e w13 ⟨rfl, hf⟩
            refine HK9.out _ _ ?_
            clear HK9
            try simp only [Act.put, List.setIfInBounds_toArray, List.set_cons_zero, List.set_cons_succ]
            obtain ⟨P13, hf1, hf2, hf3⟩ := hf
            have H4d := Lib.hid hf1
            have HPPd := Lib.hid (show ∀ b, P13 b → w.heap.size ≤ b from fun b hb => (hf2 b hb).elim (HPPb.out b) fun h => Nat.le_trans HTc.out.size h)
            have HGPd := Lib.hid (show ¬ P13 g7 from fun e => (hf2 _ e).elim HGPb.out fun h => by have := HBc.out.lt; omega)
            have HTd := Lib.hid (Turn.own HTc.out HPPb.out hf3)
            have HBd := Lib.hid (HBc.out.turn hf3 HGPb.out)
            clear hf1 hf2 hf3 HRA
            refine wpList_run (v := .int .i64 E) (wanted_none rfl) (gx_assign rfl rfl) ?_
            simp only [Act.put, List.setIfInBounds_toArray, List.set_cons_zero, List.set_cons_succ]
            go_upto_region 28 with fail
            refine wp_region_lit ?_
            refine wpList_run (v := .int .i64 E) (wanted_none rfl) (exec_move rfl rfl) ?_
            simp only [Act.put, List.setIfInBounds_toArray, List.set_cons_zero, List.set_cons_succ]
            refine wpList_run (v := .int .i64 E) (wanted_none rfl) (exec_move rfl rfl) ?_
            simp only [Act.put, List.setIfInBounds_toArray, List.set_cons_zero, List.set_cons_succ]
            refine wpList_run (v := .bool false) (wanted_none rfl) (ix_neq rfl rfl rfl (decide_eq_false (fun h => h rfl))) ?_
            simp only [Act.put, List.setIfInBounds_toArray, List.set_cons_zero, List.set_cons_succ]
            go_wp2_with fail
            go_meet
            exact ⟨x, y, z, u, L9, l2, P13, rfl, rfl, rfl, rfl, H4d.out, HPPd.out, HGPd.out, HBd.out, (HK.out.still HTd.out).2 o HOM.out, HTd.out⟩
          · go_upto_region 22 with fail
            refine wp_region_lit ?_
            refine wpList_run (v := .bool false) (wanted_none rfl) (ix_eql rfl rfl rfl (by decide)) ?_
            simp only [Act.put, List.setIfInBounds_toArray, List.set_cons_zero, List.set_cons_succ]
            refine wpList_run (v := .bool false) (wanted_none rfl) (gx_assign rfl rfl) ?_
            simp only [Act.put, List.setIfInBounds_toArray, List.set_cons_zero, List.set_cons_succ]
            go_upto_region 23 with fail
            refine wp_region_lit ?_
            refine wpList_run (v := .bool true) (wanted_none rfl) (ix_eql rfl rfl rfl (by decide)) ?_
            simp only [Act.put, List.setIfInBounds_toArray, List.set_cons_zero, List.set_cons_succ]
            refine wpList_run (v := .bool true) (wanted_none rfl) (gx_assign rfl rfl) ?_
            simp only [Act.put, List.setIfInBounds_toArray, List.set_cons_zero, List.set_cons_succ]
            have HBO := Lib.hid (build_one elmRt o.r.cells rfl (by decide) (.agg o.r.cells.toArray) rfl w8)
            have ha := (Turn.refl nowhere w8).alloc (.cells o.r.cells.toArray 38)
            have hr1 := rws_one (w := w8) (et := 38) (r := o.r.cells) rfl fun _ => trivial
            have hrk : o.r.ok (w8.alloc (.cells o.r.cells.toArray 38)) := HO8.out.r.still ha
            have HLE := Lib.hid (lent_walk (c := 1) (vs := [o.r]) (show RtsAt (w8.alloc (.cells o.r.cells.toArray 38)) (some ⟨w8.heap.size, 0, none⟩) 1 [o.r] from ⟨hr1, fun v hv => by rw [List.mem_singleton.1 hv]; exact hrk⟩) (by decide))
            have HA8 := Lib.hid ha
            clear ha hr1 hrk
            go_upto_region 24 with fail
            refine wp_region_lit ?_
            refine wpList_run (v := .pointer (some ⟨g7, 1, none⟩)) (wanted_none rfl) (exec_field (off := 0) (d := 1) rfl rfl (by kernel_rfl)) ?_
            simp only [Act.put, List.setIfInBounds_toArray, List.set_cons_zero, List.set_cons_succ]
            refine wpList_run (v := .agg o.r.cells.toArray) (wanted_none rfl) (gx_loads rfl rfl (opr_rng HB7.out) Try.underlying38 rfl (by rw [size_rt]; rfl)) ?_
            simp only [Act.put, List.setIfInBounds_toArray, List.set_cons_zero, List.set_cons_succ]
            refine wpList_run (v := .slice (some ⟨w8.heap.size, 0, none⟩) 1 1) (w' := w8.alloc (.cells o.r.cells.toArray 38)) (wanted_none rfl) (exec_buildSlice1 rfl rfl HBO.out) ?_
            simp only [Act.put, List.setIfInBounds_toArray, List.set_cons_zero, List.set_cons_succ]
            refine wpList_op rfl fun K9 HK9 => ?_
            go_wp2_with fail
            refine (HLE.out).mono ?_
            rintro e w10 ⟨A10, c10, us, rfl, how, hpl, ht⟩
            refine HK9.out _ _ ?_
            clear HK9
            try simp only [Act.put, List.setIfInBounds_toArray, List.set_cons_zero, List.set_cons_succ]
            obtain ⟨r1, rfl⟩ : ∃ r1, us = [r1] := by
              match us, hpl with
              | [r1], _ => exact ⟨r1, rfl⟩
            have hp1 : r1.plain = o.r.plain := by simpa using hpl
            have HPE := Lib.hid (show r1.pre = o.r.pre ∧ r1.to_ = o.r.to_ from by injection hp1 with h1 h2; exact ⟨h1, h2⟩)
            have HOW := Lib.hid how
            have HS8 := Lib.hid HA8.out.size
            have htw := HA8.out.trans ht fun _ _ e => e
            have HTA := Lib.hid (HT8.out.trans htw fun _ _ e => e)
            have HBA := Lib.hid (HB7.out.turn htw fun e => e)
            have H4A := Lib.hid (H48.out.still htw)
            have HSZ := Lib.hid (show ∀ b, SplF A10 [r1] b → w8.heap.size ≤ b ∧ b < w10.heap.size from fun b hb => by
              have h1 := how.splF hb
              have := HS8.out
              exact ⟨by omega, h1.2⟩)
            obtain ⟨b10, c11, e10, _, _⟩ := how.row.some_ (by rw [List.length_map]; exact Nat.one_pos)
            injection e10 with e10 e10b e10c
            clear e10b e10c
            subst e10
            have HEL := Lib.hid (show w10.rangeAt b10 (0 + 0 * 2) r1.cells from how.row.el0 (i := 0) (r := r1.cells) rfl)
            have HAD := Lib.hid (H4A.out.add (how.its r1 (List.mem_cons_self ..)).1)
            rw [HPE.out.1, HPE.out.2] at HAD
            obtain ⟨E, hE⟩ : ∃ E, E = Rt.addE m l o.r.pre o.r.to_ := ⟨_, rfl⟩
            obtain ⟨L9, hL9⟩ : ∃ E, E = Rt.addL m l o.r.pre o.r.to_ := ⟨_, rfl⟩
            rw [← hE, ← hL9] at HAD
            have HEE := Lib.hid hE
            have HLE9 := Lib.hid hL9
            clear how hpl ht hp1 htw hE hL9
            refine wpList_run (v := .slice (some ⟨b10, 0, none⟩) 1 c10) (wanted_none rfl) (gx_assign rfl rfl) ?_
            simp only [Act.put, List.setIfInBounds_toArray, List.set_cons_zero, List.set_cons_succ]
            go_upto_region 25 with fail
            refine wp_region_lit ?_
            refine wpList_run (v := .pointer (some ⟨x, 0, none⟩)) (wanted_none rfl) (exec_move rfl rfl) ?_
            simp only [Act.put, List.setIfInBounds_toArray, List.set_cons_zero, List.set_cons_succ]
            refine wpList_run (v := .slice (some ⟨b10, 0, none⟩) 1 c10) (wanted_none rfl) (exec_move rfl rfl) ?_
            simp only [Act.put, List.setIfInBounds_toArray, List.set_cons_zero, List.set_cons_succ]
            refine wpList_run (v := .pointer (some ⟨b10, 0 + 0 * 2, none⟩)) (wanted_none rfl) (gx_iaddr (i := 0) (sz := 2) rfl rfl rfl Try.underlying22 size_rt (by decide) rfl) ?_
            simp only [Act.put, List.setIfInBounds_toArray, List.set_cons_zero, List.set_cons_succ]
            refine wpList_run (v := .agg r1.cells.toArray) (wanted_none rfl) (gx_loads rfl rfl HEL.out Try.underlying38 rfl (by rw [size_rt]; rfl)) ?_
            simp only [Act.put, List.setIfInBounds_toArray, List.set_cons_zero, List.set_cons_succ]
            refine wpList_op rfl fun K9 HK9 => ?_
            go_wp2_with fail
            refine (HAD.out).mono ?_
            rintro e w11 ⟨rfl, hf⟩
            refine HK9.out _ _ ?_
            clear HK9
            try simp only [Act.put, List.setIfInBounds_toArray, List.set_cons_zero, List.set_cons_succ]
            obtain ⟨P11, hf1, hf2, hf3⟩ := hf
            have H4b := Lib.hid hf1
            have HPPb := Lib.hid (show ∀ b, P11 b → w.heap.size ≤ b from fun b hb => (hf2 b hb).elim (HPW.out b) fun h => Nat.le_trans HTA.out.size h)
            have HGPb := Lib.hid (show ¬ P11 g7 from fun e => (hf2 _ e).elim HGP.out fun h => by have := HBA.out.lt; omega)
            have HTb := Lib.hid (Turn.own HTA.out HPW.out hf3)
            have HBb := Lib.hid (HBA.out.turn hf3 HGP.out)
            have HSPL := Lib.hid (Spl.off (HOW.out.spl) hf3 fun b hb e => by have h1 := (HSZ.out b hb).1; have h2 := H48.out.lt e; omega)
            have HPD := Lib.hid (show ∀ b, P11 b → ¬ SplF (some ⟨b10, 0, none⟩) [r1] b from fun b hb e => (hf2 b hb).elim (fun h => by have h1 := (HSZ.out b e).1; have h2 := H48.out.lt h; omega) fun h => by have := (HSZ.out b e).2; omega)
            have HSPW := Lib.hid (spoil_walk (c := c10) HSPL.out (n := 1) rfl (fun r hr => by rw [List.mem_singleton.1 hr]; have := (HOW.out.its r1 (List.mem_cons_self ..)).1.room; omega) (by decide))
            clear hf1 hf2 hf3 HAD
            refine wpList_run (v := .int .i64 E) (wanted_none rfl) (gx_assign rfl rfl) ?_
            simp only [Act.put, List.setIfInBounds_toArray, List.set_cons_zero, List.set_cons_succ]
            go_upto_region 26 with fail
            refine wp_region_lit ?_
            refine wpList_run (v := .slice (some ⟨b10, 0, none⟩) 1 c10) (wanted_none rfl) (exec_move rfl rfl) ?_
            simp only [Act.put, List.setIfInBounds_toArray, List.set_cons_zero, List.set_cons_succ]
            refine wpList_op rfl fun K9 HK9 => ?_
            go_wp2_with fail
            refine (HSPW.out).mono ?_
            rintro e w12 ⟨rfl, ht⟩
            refine HK9.out _ _ ?_
            clear HK9
            try simp only [Act.put, List.setIfInBounds_toArray, List.set_cons_zero, List.set_cons_succ]
            have HTc := Lib.hid (Turn.own HTb.out (fun b e => Nat.le_trans HT8.out.size (HSZ.out b e).1) ht)
            have H4c := Lib.hid (H4b.out.off ht HPD.out)
            have HBc := Lib.hid (HBb.out.turn ht fun e => by have h1 := (HSZ.out _ e).1; have h2 := HB7.out.lt; omega)
            have HOc := Lib.hid ((HK.out.still HTc.out).2 o HOM.out)
            have HRA := Lib.hid (H4c.out.radd HOc.out.r)
            rw [← HEE.out, ← HLE9.out] at HRA
            clear ht HSPW
            go_upto_region 27 with fail
            refine wp_region_lit ?_
            refine wpList_run (v := .pointer (some ⟨y, 0, none⟩)) (wanted_none rfl) (exec_move rfl rfl) ?_
            simp only [Act.put, List.setIfInBounds_toArray, List.set_cons_zero, List.set_cons_succ]
            refine wpList_run (v := .pointer (some ⟨g7, 1, none⟩)) (wanted_none rfl) (exec_field (off := 0) (d := 1) rfl rfl (by kernel_rfl)) ?_
            simp only [Act.put, List.setIfInBounds_toArray, List.set_cons_zero, List.set_cons_succ]
            refine wpList_run (v := .agg o.r.cells.toArray) (wanted_none rfl) (gx_loads rfl rfl (opr_rng HBc.out) Try.underlying38 rfl (by rw [size_rt]; rfl)) ?_
            simp only [Act.put, List.setIfInBounds_toArray, List.set_cons_zero, List.set_cons_succ]
            refine wpList_op rfl fun K9 HK9 => ?_
            go_wp2_with fail
            refine (HRA.out).mono ?_
            rintro e w13 ⟨rfl, hf⟩
            refine HK9.out _ _ ?_
            clear HK9
            try simp only [Act.put, List.setIfInBounds_toArray, List.set_cons_zero, List.set_cons_succ]
            obtain ⟨P13, hf1, hf2, hf3⟩ := hf
            have H4d := Lib.hid hf1
            have HPPd := Lib.hid (show ∀ b, P13 b → w.heap.size ≤ b from fun b hb => (hf2 b hb).elim (HPPb.out b) fun h => Nat.le_trans HTc.out.size h)
            have HGPd := Lib.hid (show ¬ P13 g7 from fun e => (hf2 _ e).elim HGPb.out fun h => by have := HBc.out.lt; omega)
            have HTd := Lib.hid (Turn.own HTc.out HPPb.out hf3)
            have HBd := Lib.hid (HBc.out.turn hf3 HGPb.out)
            clear hf1 hf2 hf3 HRA
            refine wpList_run (v := .int .i64 E) (wanted_none rfl) (gx_assign rfl rfl) ?_
            simp only [Act.put, List.setIfInBounds_toArray, List.set_cons_zero, List.set_cons_succ]
            go_upto_region 28 with fail
            refine wp_region_lit ?_
            refine wpList_run (v := .int .i64 E) (wanted_none rfl) (exec_move rfl rfl) ?_
            simp only [Act.put, List.setIfInBounds_toArray, List.set_cons_zero, List.set_cons_succ]
            refine wpList_run (v := .int .i64 E) (wanted_none rfl) (exec_move rfl rfl) ?_
            simp only [Act.put, List.setIfInBounds_toArray, List.set_cons_zero, List.set_cons_succ]
            refine wpList_run (v := .bool false) (wanted_none rfl) (ix_neq rfl rfl rfl (decide_eq_false (fun h => h rfl))) ?_
            simp only [Act.put, List.setIfInBounds_toArray, List.set_cons_zero, List.set_cons_succ]
            go_wp2_with fail
            go_meet
            exact ⟨x, y, z, u, L9, l2, P13, rfl, rfl, rfl, rfl, H4d.out, HPPd.out, HGPd.out, HBd.out, (HK.out.still HTd.out).2 o HOM.out, HTd.out⟩
          · go_upto_region 22 with fail
            refine wp_region_lit ?_
            refine wpList_run (v := .bool false) (wanted_none rfl) (ix_eql rfl rfl rfl (by decide)) ?_
            simp only [Act.put, List.setIfInBounds_toArray, List.set_cons_zero, List.set_cons_succ]
            refine wpList_run (v := .bool false) (wanted_none rfl) (gx_assign rfl rfl) ?_
            simp only [Act.put, List.setIfInBounds_toArray, List.set_cons_zero, List.set_cons_succ]
            go_upto_region 23 with fail
            refine wp_region_lit ?_
            refine wpList_run (v := .bool false) (wanted_none rfl) (ix_eql rfl rfl rfl (by decide)) ?_
            simp only [Act.put, List.setIfInBounds_toArray, List.set_cons_zero, List.set_cons_succ]
            refine wpList_run (v := .bool false) (wanted_none rfl) (gx_assign rfl rfl) ?_
            simp only [Act.put, List.setIfInBounds_toArray, List.set_cons_zero, List.set_cons_succ]
            go_upto_region 30 with fail
            refine wp_region_lit ?_
            refine wpList_run (v := .bool true) (wanted_none rfl) (ix_eql rfl rfl rfl (by decide)) ?_
            simp only [Act.put, List.setIfInBounds_toArray, List.set_cons_zero, List.set_cons_succ]
            refine wpList_run (v := .bool true) (wanted_none rfl) (gx_assign rfl rfl) ?_
            simp only [Act.put, List.setIfInBounds_toArray, List.set_cons_zero, List.set_cons_succ]
            have HDR := Lib.hid (H48.out.drop (p := o.r.pre) HO8.out.r.pl)
            obtain ⟨E, hE⟩ : ∃ E, E = Rt.dropE l o.r.pre := ⟨_, rfl⟩
            obtain ⟨L9, hL9⟩ : ∃ E, E = Rt.dropL l o.r.pre := ⟨_, rfl⟩
            rw [← hE, ← hL9] at HDR
            have HEE := Lib.hid hE
            have HLE9 := Lib.hid hL9
            clear hE hL9
            go_upto_region 31 with fail
            refine wp_region_lit ?_
            refine wpList_run (v := .pointer (some ⟨x, 0, none⟩)) (wanted_none rfl) (exec_move rfl rfl) ?_
            simp only [Act.put, List.setIfInBounds_toArray, List.set_cons_zero, List.set_cons_succ]
            refine wpList_run (v := .pointer (some ⟨g7, 1, none⟩)) (wanted_none rfl) (exec_field (off := 0) (d := 1) rfl rfl (by kernel_rfl)) ?_
            simp only [Act.put, List.setIfInBounds_toArray, List.set_cons_zero, List.set_cons_succ]
            refine wpList_run (v := .pointer (some ⟨g7, 1, none⟩)) (wanted_none rfl) (exec_field (off := 1) (d := 0) rfl rfl (by kernel_rfl)) ?_
            simp only [Act.put, List.setIfInBounds_toArray, List.set_cons_zero, List.set_cons_succ]
            refine wpList_run (v := strV o.r.pre) (wanted_none rfl) (exec_load1 rfl rfl (by kernel_rfl) (HB7.out.cell 1)) ?_
            simp only [Act.put, List.setIfInBounds_toArray, List.set_cons_zero, List.set_cons_succ]
            refine wpList_op rfl fun K9 HK9 => ?_
            go_wp2_with fail
            refine (HDR.out).mono ?_
            rintro e w11 ⟨rfl, hf⟩
            refine HK9.out _ _ ?_
            clear HK9
            try simp only [Act.put, List.setIfInBounds_toArray, List.set_cons_zero, List.set_cons_succ]
            obtain ⟨P11, hf1, hf2, hf3⟩ := hf
            have H4b := Lib.hid hf1
            have HPPb := Lib.hid (show ∀ b, P11 b → w.heap.size ≤ b from fun b hb => (hf2 b hb).elim (HPW.out b) fun h => Nat.le_trans HT8.out.size h)
            have HGPb := Lib.hid (show ¬ P11 g7 from fun e => (hf2 _ e).elim HGP.out fun h => by have := HB7.out.lt; omega)
            have HTb := Lib.hid (Turn.own HT8.out HPW.out hf3)
            have HBb := Lib.hid (HB7.out.turn hf3 HGP.out)
            have HRD := Lib.hid (H4b.out.rdrop (p := o.r.pre))
            rw [← HEE.out, ← HLE9.out] at HRD
            clear hf1 hf2 hf3 HDR
            refine wpList_run (v := .int .i64 E) (wanted_none rfl) (gx_assign rfl rfl) ?_
            simp only [Act.put, List.setIfInBounds_toArray, List.set_cons_zero, List.set_cons_succ]
            go_upto_region 32 with fail
            refine wp_region_lit ?_
            refine wpList_run (v := .pointer (some ⟨y, 0, none⟩)) (wanted_none rfl) (exec_move rfl rfl) ?_
            simp only [Act.put, List.setIfInBounds_toArray, List.set_cons_zero, List.set_cons_succ]
            refine wpList_run (v := .pointer (some ⟨g7, 1, none⟩)) (wanted_none rfl) (exec_field (off := 0) (d := 1) rfl rfl (by kernel_rfl)) ?_
            simp only [Act.put, List.setIfInBounds_toArray, List.set_cons_zero, List.set_cons_succ]
            refine wpList_run (v := .pointer (some ⟨g7, 1, none⟩)) (wanted_none rfl) (exec_field (off := 1) (d := 0) rfl rfl (by kernel_rfl)) ?_
            simp only [Act.put, List.setIfInBounds_toArray, List.set_cons_zero, List.set_cons_succ]
            refine wpList_run (v := strV o.r.pre) (wanted_none rfl) (exec_load1 rfl rfl (by kernel_rfl) (HBb.out.cell 1)) ?_
            simp only [Act.put, List.setIfInBounds_toArray, List.set_cons_zero, List.set_cons_succ]
            refine wpList_op rfl fun K9 HK9 => ?_
            go_wp2_with fail
            refine (HRD.out).mono ?_
            rintro e w13 ⟨rfl, hf⟩
            refine HK9.out _ _ ?_
            clear HK9
            try simp only [Act.put, List.setIfInBounds_toArray, List.set_cons_zero, List.set_cons_succ]
            obtain ⟨P13, hf1, hf2, hf3⟩ := hf
            have H4d := Lib.hid hf1
            have HPPd := Lib.hid (show ∀ b, P13 b → w.heap.size ≤ b from fun b hb => (hf2 b hb).elim (HPPb.out b) fun h => Nat.le_trans HTb.out.size h)
            have HGPd := Lib.hid (show ¬ P13 g7 from fun e => (hf2 _ e).elim HGPb.out fun h => by have := HBb.out.lt; omega)
            have HTd := Lib.hid (Turn.own HTb.out HPPb.out hf3)
            have HBd := Lib.hid (HBb.out.turn hf3 HGPb.out)
            clear hf1 hf2 hf3 HRD
            refine wpList_run (v := .int .i64 E) (wanted_none rfl) (gx_assign rfl rfl) ?_
            simp only [Act.put, List.setIfInBounds_toArray, List.set_cons_zero, List.set_cons_succ]
            go_upto_region 33 with fail
            refine wp_region_lit ?_
            refine wpList_run (v := .int .i64 E) (wanted_none rfl) (exec_move rfl rfl) ?_
            simp only [Act.put, List.setIfInBounds_toArray, List.set_cons_zero, List.set_cons_succ]
            refine wpList_run (v := .int .i64 E) (wanted_none rfl) (exec_move rfl rfl) ?_
            simp only [Act.put, List.setIfInBounds_toArray, List.set_cons_zero, List.set_cons_succ]
            refine wpList_run (v := .bool false) (wanted_none rfl) (ix_neq rfl rfl rfl (decide_eq_false (fun h => h rfl))) ?_
            simp only [Act.put, List.setIfInBounds_toArray, List.set_cons_zero, List.set_cons_succ]
            go_wp2_with fail
            go_meet
            exact ⟨x, y, z, u, L9, l2, P13, rfl, rfl, rfl, rfl, H4d.out, HPPd.out, HGPd.out, HBd.out, (HK.out.still HTd.out).2 o HOM.out, HTd.out⟩
          · go_upto_region 22 with fail
            refine wp_region_lit ?_
            refine wpList_run (v := .bool false) (wanted_none rfl) (ix_eql rfl rfl rfl (by decide)) ?_
            simp only [Act.put, List.setIfInBounds_toArray, List.set_cons_zero, List.set_cons_succ]
            refine wpList_run (v := .bool false) (wanted_none rfl) (gx_assign rfl rfl) ?_
            simp only [Act.put, List.setIfInBounds_toArray, List.set_cons_zero, List.set_cons_succ]
            go_upto_region 23 with fail
            refine wp_region_lit ?_
            refine wpList_run (v := .bool false) (wanted_none rfl) (ix_eql rfl rfl rfl (by decide)) ?_
            simp only [Act.put, List.setIfInBounds_toArray, List.set_cons_zero, List.set_cons_succ]
            refine wpList_run (v := .bool false) (wanted_none rfl) (gx_assign rfl rfl) ?_
            simp only [Act.put, List.setIfInBounds_toArray, List.set_cons_zero, List.set_cons_succ]
            go_upto_region 30 with fail
            refine wp_region_lit ?_
            refine wpList_run (v := .bool false) (wanted_none rfl) (ix_eql rfl rfl rfl (by decide)) ?_
            simp only [Act.put, List.setIfInBounds_toArray, List.set_cons_zero, List.set_cons_succ]
            refine wpList_run (v := .bool false) (wanted_none rfl) (gx_assign rfl rfl) ?_
            simp only [Act.put, List.setIfInBounds_toArray, List.set_cons_zero, List.set_cons_succ]
            go_upto_region 35 with fail
            refine wp_region_lit ?_
            refine wpList_run (v := .bool false) (wanted_none rfl) (ix_eql rfl rfl rfl (by decide)) ?_
            simp only [Act.put, List.setIfInBounds_toArray, List.set_cons_zero, List.set_cons_succ]
            refine wpList_run (v := .bool false) (wanted_none rfl) (gx_assign rfl rfl) ?_
            simp only [Act.put, List.setIfInBounds_toArray, List.set_cons_zero, List.set_cons_succ]
            go_wp2_with fail
            go_meet
            exact ⟨x, y, z, u, l, l2, P, rfl, rfl, rfl, rfl, H48.out, HPW.out, HGP.out, HB7.out, HO8.out, HT8.out⟩
          · go_upto_region 22 with fail
            refine wp_region_lit ?_
            refine wpList_run (v := .bool false) (wanted_none rfl) (ix_eql rfl rfl rfl (by decide)) ?_
            simp only [Act.put, List.setIfInBounds_toArray, List.set_cons_zero, List.set_cons_succ]
            refine wpList_run (v := .bool false) (wanted_none rfl) (gx_assign rfl rfl) ?_
            simp only [Act.put, List.setIfInBounds_toArray, List.set_cons_zero, List.set_cons_succ]
            go_upto_region 23 with fail
            refine wp_region_lit ?_
            refine wpList_run (v := .bool false) (wanted_none rfl) (ix_eql rfl rfl rfl (by decide)) ?_
            simp only [Act.put, List.setIfInBounds_toArray, List.set_cons_zero, List.set_cons_succ]
            refine wpList_run (v := .bool false) (wanted_none rfl) (gx_assign rfl rfl) ?_
            simp only [Act.put, List.setIfInBounds_toArray, List.set_cons_zero, List.set_cons_succ]
            go_upto_region 30 with fail
            refine wp_region_lit ?_
            refine wpList_run (v := .bool false) (wanted_none rfl) (ix_eql rfl rfl rfl (by decide)) ?_
            simp only [Act.put, List.setIfInBounds_toArray, List.set_cons_zero, List.set_cons_succ]
            refine wpList_run (v := .bool false) (wanted_none rfl) (gx_assign rfl rfl) ?_
            simp only [Act.put, List.setIfInBounds_toArray, List.set_cons_zero, List.set_cons_succ]
            go_upto_region 35 with fail
            refine wp_region_lit ?_
            refine wpList_run (v := .bool true) (wanted_none rfl) (ix_eql rfl rfl rfl (by decide)) ?_
            simp only [Act.put, List.setIfInBounds_toArray, List.set_cons_zero, List.set_cons_succ]
            refine wpList_run (v := .bool true) (wanted_none rfl) (gx_assign rfl rfl) ?_
            simp only [Act.put, List.setIfInBounds_toArray, List.set_cons_zero, List.set_cons_succ]
            have HCL := Lib.hid H48.out.clone
            go_upto_region 36 with fail
            refine wp_region_lit ?_
            refine wpList_run (v := .pointer (some ⟨x, 0, none⟩)) (wanted_none rfl) (exec_move rfl rfl) ?_
            simp only [Act.put, List.setIfInBounds_toArray, List.set_cons_zero, List.set_cons_succ]
            refine wpList_run (v := .pointer (some ⟨x, 0, none⟩)) (wanted_none rfl) (gx_assign rfl rfl) ?_
            simp only [Act.put, List.setIfInBounds_toArray, List.set_cons_zero, List.set_cons_succ]
            go_upto_region 37 with fail
            refine wp_region_lit ?_
            refine wpList_run (v := .pointer (some ⟨x, 0, none⟩)) (wanted_none rfl) (exec_move rfl rfl) ?_
            simp only [Act.put, List.setIfInBounds_toArray, List.set_cons_zero, List.set_cons_succ]
            refine wpList_op rfl fun K9 HK9 => ?_
            go_wp2_with fail
            refine (HCL.out).mono ?_
            rintro e w11 ⟨x2, rfl, hf⟩
            refine HK9.out _ _ ?_
            clear HK9
            try simp only [Act.put, List.setIfInBounds_toArray, List.set_cons_zero, List.set_cons_succ]
            obtain ⟨P11, hf1, hf2, hf3⟩ := hf
            have H4b := Lib.hid hf1
            have HPPb := Lib.hid (show ∀ b, P11 b → w.heap.size ≤ b from fun b hb => (hf2 b hb).elim (HPW.out b) fun h => Nat.le_trans HT8.out.size h)
            have HGPb := Lib.hid (show ¬ P11 g7 from fun e => (hf2 _ e).elim HGP.out fun h => by have := HB7.out.lt; omega)
            have HTb := Lib.hid (Turn.own HT8.out HPW.out hf3)
            have HBb := Lib.hid (HB7.out.turn hf3 HGP.out)
            have HRC := Lib.hid H4b.out.rclone
            clear hf1 hf2 hf3 HCL
            refine wpList_run (v := .pointer (some ⟨x2, 0, none⟩)) (wanted_none rfl) (gx_assign rfl rfl) ?_
            simp only [Act.put, List.setIfInBounds_toArray, List.set_cons_zero, List.set_cons_succ]
            go_upto_region 38 with fail
            refine wp_region_lit ?_
            refine wpList_run (v := .pointer (some ⟨y, 0, none⟩)) (wanted_none rfl) (exec_move rfl rfl) ?_
            simp only [Act.put, List.setIfInBounds_toArray, List.set_cons_zero, List.set_cons_succ]
            refine wpList_run (v := .pointer (some ⟨y, 0, none⟩)) (wanted_none rfl) (gx_assign rfl rfl) ?_
            simp only [Act.put, List.setIfInBounds_toArray, List.set_cons_zero, List.set_cons_succ]
            go_upto_region 39 with fail
            refine wp_region_lit ?_
            refine wpList_run (v := .pointer (some ⟨y, 0, none⟩)) (wanted_none rfl) (exec_move rfl rfl) ?_
            simp only [Act.put, List.setIfInBounds_toArray, List.set_cons_zero, List.set_cons_succ]
            refine wpList_op rfl fun K9 HK9 => ?_
            go_wp2_with fail
            refine (HRC.out).mono ?_
            rintro e w13 ⟨y2, rfl, hf⟩
            refine HK9.out _ _ ?_
            clear HK9
            try simp only [Act.put, List.setIfInBounds_toArray, List.set_cons_zero, List.set_cons_succ]
            obtain ⟨P13, hf1, hf2, hf3⟩ := hf
            have H4d := Lib.hid hf1
            have HPPd := Lib.hid (show ∀ b, P13 b → w.heap.size ≤ b from fun b hb => (hf2 b hb).elim (HPPb.out b) fun h => Nat.le_trans HTb.out.size h)
            have HGPd := Lib.hid (show ¬ P13 g7 from fun e => (hf2 _ e).elim HGPb.out fun h => by have := HBb.out.lt; omega)
            have HTd := Lib.hid (Turn.own HTb.out HPPb.out hf3)
            have HBd := Lib.hid (HBb.out.turn hf3 HGPb.out)
            clear hf1 hf2 hf3 HRC
            refine wpList_run (v := .pointer (some ⟨y2, 0, none⟩)) (wanted_none rfl) (gx_assign rfl rfl) ?_
            simp only [Act.put, List.setIfInBounds_toArray, List.set_cons_zero, List.set_cons_succ]
            go_upto_region 40 with fail
            refine wp_region_lit ?_
            refine wpList_run (v := .pointer (some ⟨x2, 0, none⟩)) (wanted_none rfl) (exec_move rfl rfl) ?_
            simp only [Act.put, List.setIfInBounds_toArray, List.set_cons_zero, List.set_cons_succ]
            refine wpList_run (v := .bool false) (wanted_none rfl) (ptr_nnR rfl rfl rfl rfl) ?_
            simp only [Act.put, List.setIfInBounds_toArray, List.set_cons_zero, List.set_cons_succ]
            go_wp2_with fail
            go_meet
            exact ⟨x2, y2, x, y, l, l, P13, rfl, rfl, rfl, rfl, H4d.out, HPPd.out, HGPd.out, HBd.out, (HK.out.still HTd.out).2 o HOM.out, HTd.out⟩
        clear H48 HGP HB7 HPW HT8 HO8
        obtain ⟨x, y, z, u, l, l2, P, rfl, rfl, rfl, rfl, h4, hpw, hgp, hb7, ho9, htr⟩ := hcut
        have H49 := Lib.hid h4
        have HPW := Lib.hid hpw
        have HB9 := Lib.hid hb7
        have HO9 := Lib.hid ho9
        have HT9 := Lib.hid htr
        clear h4 hpw hgp hb7 ho9 htr
        generalize hw9 : wc = w9 at *
        clear hw9
        obtain ⟨F9, LF9, hax⟩ := H49.out.atx
        have HFD := Lib.hid (hax.find (p := o.pan) HO9.out.p)
        have HSH := Lib.hid hax.short
        clear hax
        go_upto_region 42 with fail
        refine wp_region_lit ?_
        refine wpList_run (v := .pointer (some ⟨x, 0, none⟩)) (wanted_none rfl) (exec_move rfl rfl) ?_
        simp only [Act.put, List.setIfInBounds_toArray, List.set_cons_zero, List.set_cons_succ]
        refine wpList_run (v := .pointer (some ⟨g7, 3, none⟩)) (wanted_none rfl) (exec_field (off := 0) (d := 3) rfl rfl (by kernel_rfl)) ?_
        simp only [Act.put, List.setIfInBounds_toArray, List.set_cons_zero, List.set_cons_succ]
        refine wpList_run (v := strV o.pan) (wanted_none rfl) (exec_load1 rfl rfl (by kernel_rfl) (HB9.out.cell 3)) ?_
        simp only [Act.put, List.setIfInBounds_toArray, List.set_cons_zero, List.set_cons_succ]
        refine wpList_op rfl fun K9 HK9 => ?_
        go_wp2_with fail
        refine (HFD.out).mono ?_
        rintro e w10 ⟨oo, A7, n7, c7, hb, ht, rfl, hn, ho⟩
        refine HK9.out _ _ ?_
        clear HK9
        try simp only [Act.put, List.setIfInBounds_toArray, List.set_cons_zero, List.set_cons_succ]
        obtain ⟨s7, his⟩ : ∃ x, x = oo.isSome := ⟨_, rfl⟩
        rw [← his]
        obtain ⟨zs, hzs⟩ : ∃ x, x = oo.getD [] := ⟨_, rfl⟩
        have HZL := Lib.hid (show zs.length ≤ 6 from by rw [hzs]; exact best_len hb HSH.out)
        rw [← hzs] at ho hn
        have yn7 : n7 ≤ 140737488355328 := by have := HZL.out; omega
        have HN7 := Lib.hid hn
        have HO7 := Lib.hid ho
        have HT10 := Lib.hid (HT9.out.trans ht fun _ _ e => e)
        have H410 := Lib.hid (H49.out.still ht)
        have HB10 := Lib.hid (HB9.out.turn ht fun e => e)
        obtain ⟨v10, vs10, hrf, hpl, hrs, hrl, hrb⟩ := H410.out.refy
        have HFD2 := Lib.hid (rfind_is (s := s7) (zs := zs) hrf hrb (by rw [hpl]; exact hrs) (by have h := congrArg List.length hpl; rw [List.length_map] at h; omega) HO9.out.p (by rw [hpl]; exact hb) his hzs)
        clear hb hn ho ht his hzs HFD hrf hpl hrs hrl hrb
        refine wpList_run (v := .tuple #[.slice A7 n7 c7, .bool s7]) (wanted_none rfl) (exec_move rfl rfl) ?_
        simp only [Act.put, List.setIfInBounds_toArray, List.set_cons_zero, List.set_cons_succ]
        refine wpList_run (v := .slice A7 n7 c7) (wanted_none rfl) (ix_extract rfl rfl rfl) ?_
        simp only [Act.put, List.setIfInBounds_toArray, List.set_cons_zero, List.set_cons_succ]
        refine wpList_run (v := .bool s7) (wanted_none rfl) (ix_extract rfl rfl rfl) ?_
        simp only [Act.put, List.setIfInBounds_toArray, List.set_cons_zero, List.set_cons_succ]
        refine wpList_run (v := .slice A7 n7 c7) (wanted_none rfl) (gx_assign rfl rfl) ?_
        simp only [Act.put, List.setIfInBounds_toArray, List.set_cons_zero, List.set_cons_succ]
        refine wpList_run (v := .bool s7) (wanted_none rfl) (gx_assign rfl rfl) ?_
        simp only [Act.put, List.setIfInBounds_toArray, List.set_cons_zero, List.set_cons_succ]
        go_upto_region 43 with fail
        refine wp_region_lit ?_
        refine wpList_run (v := .pointer (some ⟨y, 0, none⟩)) (wanted_none rfl) (exec_move rfl rfl) ?_
        simp only [Act.put, List.setIfInBounds_toArray, List.set_cons_zero, List.set_cons_succ]
        refine wpList_run (v := .pointer (some ⟨g7, 3, none⟩)) (wanted_none rfl) (exec_field (off := 0) (d := 3) rfl rfl (by kernel_rfl)) ?_
        simp only [Act.put, List.setIfInBounds_toArray, List.set_cons_zero, List.set_cons_succ]
        refine wpList_run (v := strV o.pan) (wanted_none rfl) (exec_load1 rfl rfl (by kernel_rfl) (HB10.out.cell 3)) ?_
        simp only [Act.put, List.setIfInBounds_toArray, List.set_cons_zero, List.set_cons_succ]
        refine wpList_op rfl fun K9 HK9 => ?_
        go_wp2_with fail
        refine (HFD2.out).mono ?_
        rintro e w11 ⟨A8, n8, c8, rfl, hn, ho, ht⟩
        refine HK9.out _ _ ?_
        clear HK9
        try simp only [Act.put, List.setIfInBounds_toArray, List.set_cons_zero, List.set_cons_succ]
        have yn8 : n8 ≤ 140737488355328 := by have := HZL.out; omega
        have HT11 := Lib.hid (HT10.out.trans ht fun _ _ e => e)
        have H411 := Lib.hid (H410.out.still ht)
        have hin := ints_walk (w := w11) (c := c7) (c2 := c8) (orI (HO7.out.still ht) yn7) (orI ho yn8)
        rw [decide_eq_true rfl] at hin
        have HIN := Lib.hid hin
        have HO11 := Lib.hid (HO7.out.still ht)
        clear hn ho ht hin HFD2
        refine wpList_run (v := .tuple #[.slice A8 n8 c8, .bool s7]) (wanted_none rfl) (exec_move rfl rfl) ?_
        simp only [Act.put, List.setIfInBounds_toArray, List.set_cons_zero, List.set_cons_succ]
        refine wpList_run (v := .slice A8 n8 c8) (wanted_none rfl) (ix_extract rfl rfl rfl) ?_
        simp only [Act.put, List.setIfInBounds_toArray, List.set_cons_zero, List.set_cons_succ]
        refine wpList_run (v := .bool s7) (wanted_none rfl) (ix_extract rfl rfl rfl) ?_
        simp only [Act.put, List.setIfInBounds_toArray, List.set_cons_zero, List.set_cons_succ]
        refine wpList_run (v := .slice A8 n8 c8) (wanted_none rfl) (gx_assign rfl rfl) ?_
        simp only [Act.put, List.setIfInBounds_toArray, List.set_cons_zero, List.set_cons_succ]
        refine wpList_run (v := .bool s7) (wanted_none rfl) (gx_assign rfl rfl) ?_
        simp only [Act.put, List.setIfInBounds_toArray, List.set_cons_zero, List.set_cons_succ]
        go_upto_region 44 with fail
        refine wp_region_lit ?_
        refine wpList_run (v := .slice A7 n7 c7) (wanted_none rfl) (exec_move rfl rfl) ?_
        simp only [Act.put, List.setIfInBounds_toArray, List.set_cons_zero, List.set_cons_succ]
        refine wpList_run (v := .slice A8 n8 c8) (wanted_none rfl) (exec_move rfl rfl) ?_
        simp only [Act.put, List.setIfInBounds_toArray, List.set_cons_zero, List.set_cons_succ]
        refine wpList_op rfl fun K9 HK9 => ?_
        go_wp2_with fail
        refine (HIN.out).mono ?_
        rintro e w12 ⟨rfl, ht⟩
        refine HK9.out _ _ ?_
        clear HK9
        try simp only [Act.put, List.setIfInBounds_toArray, List.set_cons_zero, List.set_cons_succ]
        have HT12 := Lib.hid (HT11.out.trans ht fun _ _ e => e)
        have H412 := Lib.hid (H411.out.still ht)
        have HO12 := Lib.hid (HO11.out.still ht)
        have HA7 := Lib.hid (show 0 < n7 → ∃ ga cur, A7 = some ⟨ga, 0, none⟩ ∧ Blk w12 ga 3 cur ∧ n7 ≤ cur.size from fun h0 => by
          have ho := HO12.out
          obtain ⟨b, c, e, _, _⟩ := ho.some_ (by rw [List.length_map, ← HN7.out]; exact h0)
          injection e with e1 e2 e3
          rw [e1, e3] at ho
          obtain ⟨cur, hb, hs, _, hn, hnc, _, _⟩ := orw_block ho
          exact ⟨b, cur, e1, hb, by omega⟩)
        have HA9 := Lib.hid (show ∀ b, A7 = some ⟨b, 0, none⟩ → w9.heap.size ≤ b from fun b e => (HO12.out.lt (b := b) (by rw [e]; rfl)).1)
        clear ht HIN HO7 HO11 HT10 HT11 H410 H411 HB10
        refine wpList_run (v := .bool true) (wanted_none rfl) (gx_assign rfl rfl) ?_
        simp only [Act.put, List.setIfInBounds_toArray, List.set_cons_zero, List.set_cons_succ]
        go_upto_region 45 with fail
        refine wp_region_lit ?_
        refine wpList_run (v := .bool true) (wanted_none rfl) (exec_move rfl rfl) ?_
        simp only [Act.put, List.setIfInBounds_toArray, List.set_cons_zero, List.set_cons_succ]
        refine wpList_run (v := .bool false) (wanted_none rfl) (ix_not (b := true) rfl rfl) ?_
        simp only [Act.put, List.setIfInBounds_toArray, List.set_cons_zero, List.set_cons_succ]
        refine wpList_run (v := .bool false) (wanted_none rfl) (exec_move rfl rfl) ?_
        simp only [Act.put, List.setIfInBounds_toArray, List.set_cons_zero, List.set_cons_succ]
        refine wpList_run (v := .bool s7) rfl (exec_move rfl rfl) ?_
        simp only [Act.put, List.setIfInBounds_toArray, List.set_cons_zero, List.set_cons_succ]
        refine wpList_run (v := .bool s7) rfl (exec_move rfl rfl) ?_
        simp only [Act.put, List.setIfInBounds_toArray, List.set_cons_zero, List.set_cons_succ]
        refine wpList_run (v := .bool false) rfl (bx_neb rfl rfl rfl (by simp) rfl) ?_
        simp only [Act.put, List.setIfInBounds_toArray, List.set_cons_zero, List.set_cons_succ]
        refine wpList_run (v := .bool false) (wanted_none rfl) (ix_pickF rfl rfl rfl) ?_
        simp only [Act.put, List.setIfInBounds_toArray, List.set_cons_zero, List.set_cons_succ]
        go_upto_region 47 with fail
        refine wp_region_lit ?_
        refine wpList_run (v := .int .i64 0) (wanted_none rfl) (gx_assign rfl rfl) ?_
        simp only [Act.put, List.setIfInBounds_toArray, List.set_cons_zero, List.set_cons_succ]
        generalize gk = gk0 at *
        generalize hwr0 : wr = wr0 at *
        clear hwr0
        go_wp2_with fail
        go_loopg [28] n7 (fun gk jv wr => ∃ j : Nat, jv = .int .i64 (j : Int) ∧ j + gk = n7 ∧ Turn (fun b => A7 = some ⟨b, 0, none⟩) w12 wr ∧ (0 < n7 → ∃ ga cur, A7 = some ⟨ga, 0, none⟩ ∧ Blk wr ga 3 cur ∧ n7 ≤ cur.size))
        case atStart => exact ⟨0, rfl, by omega, Turn.refl _ _, HA7.out⟩
        obtain ⟨j, rfl, hgk2, htr2, ha7⟩ := hrel
        have HGK2 := Lib.hid hgk2
        have HTR2 := Lib.hid htr2
        have HA7r := Lib.hid ha7
        have yj : (j : Int) ≤ (n7 : Int) := by omega
        clear hgk2 htr2 ha7
        by_cases hjl : j < n7
        · have HJL := Lib.hid hjl
          have y6 : (j : Int) < (n7 : Int) := by omega
          obtain ⟨ga, cur, e7, hb, hs⟩ := HA7r.out (by omega)
          have HBC := Lib.hid hb
          have HSC := Lib.hid hs
          subst e7
          clear hjl hb hs
          go_upto_region 48 with fail
          refine wp_region_lit ?_
          refine wpList_run (v := .int .i64 (j : Int)) (wanted_none rfl) (exec_move rfl rfl) ?_
          simp only [Act.put, List.setIfInBounds_toArray, List.set_cons_zero, List.set_cons_succ]
          refine wpList_run (v := .slice (some ⟨ga, 0, none⟩) n7 c7) (wanted_none rfl) (exec_move rfl rfl) ?_
          simp only [Act.put, List.setIfInBounds_toArray, List.set_cons_zero, List.set_cons_succ]
          refine wpList_run (v := .int .i64 (n7 : Int)) (wanted_none rfl) (gx_len rfl rfl Try.underlying36) ?_
          simp only [Act.put, List.setIfInBounds_toArray, List.set_cons_zero, List.set_cons_succ]
          refine wpList_run (v := .bool true) (wanted_none rfl) (ix_lss rfl rfl rfl (decide_eq_true y6)) ?_
          simp only [Act.put, List.setIfInBounds_toArray, List.set_cons_zero, List.set_cons_succ]
          go_upto_region 50 with fail
          refine wp_region_lit ?_
          refine wpList_run (v := .slice (some ⟨ga, 0, none⟩) n7 c7) (wanted_none rfl) (exec_move rfl rfl) ?_
          simp only [Act.put, List.setIfInBounds_toArray, List.set_cons_zero, List.set_cons_succ]
          refine wpList_run (v := .int .i64 (j : Int)) (wanted_none rfl) (exec_move rfl rfl) ?_
          simp only [Act.put, List.setIfInBounds_toArray, List.set_cons_zero, List.set_cons_succ]
          refine wpList_run (v := .pointer (some ⟨ga, 0 + j * 1, none⟩)) (wanted_none rfl) (gx_iaddr (i := j) (sz := 1) rfl rfl rfl Try.underlying36 size_int HJL.out rfl) ?_
          simp only [Act.put, List.setIfInBounds_toArray, List.set_cons_zero, List.set_cons_succ]
          refine wpList_storeU (0 + j * 1) (.int .i64 99) (wanted_none rfl) 3 _ _ rfl HBC.out rfl rfl (by have := HSC.out; have := HJL.out; omega) ⟨rfl, rfl⟩ (by kernel_rfl) ?_
          intro w14 hb14 ht14
          simp only [Act.put, List.setIfInBounds_toArray, List.set_cons_zero, List.set_cons_succ]
          have HX14 := Lib.hid (HTR2.out.trans (ht14.mono fun k _ e => (show (some ⟨ga, 0, none⟩ : Option Addr) = some ⟨k, 0, none⟩ by rw [show k = ga from e])) fun _ _ e => e)
          have HB14 := Lib.hid hb14
          clear hb14 ht14
          go_upto_region 49 with fail
          refine wp_region_lit ?_
          refine wpList_run (v := .int .i64 (j : Int)) (wanted_none rfl) (exec_move rfl rfl) ?_
          simp only [Act.put, List.setIfInBounds_toArray, List.set_cons_zero, List.set_cons_succ]
          refine wpList_run (v := .int .i64 ((j + 1 : Nat) : Int)) (wanted_none rfl) (ix_add rfl rfl rfl (by omega) (by omega)) ?_
          simp only [Act.put, List.setIfInBounds_toArray, List.set_cons_zero, List.set_cons_succ]
          refine wpList_run (v := .int .i64 ((j + 1 : Nat) : Int)) (wanted_none rfl) (gx_assign rfl rfl) ?_
          simp only [Act.put, List.setIfInBounds_toArray, List.set_cons_zero, List.set_cons_succ]
          go_wp2_with fail
          go_roundg (n7 - (j + 1))
          case measure => have := HGK2.out; have := HJL.out; omega
          case rel => exact ⟨j + 1, rfl, by have := HJL.out; omega, HX14.out, fun _ => ⟨ga, _, rfl, HB14.out, by have := HSC.out; simpa using this⟩⟩
        · go_upto_region 48 with fail
          refine wp_region_lit ?_
          refine wpList_run (v := .int .i64 (j : Int)) (wanted_none rfl) (exec_move rfl rfl) ?_
          simp only [Act.put, List.setIfInBounds_toArray, List.set_cons_zero, List.set_cons_succ]
          refine wpList_run (v := .slice A7 n7 c7) (wanted_none rfl) (exec_move rfl rfl) ?_
          simp only [Act.put, List.setIfInBounds_toArray, List.set_cons_zero, List.set_cons_succ]
          refine wpList_run (v := .int .i64 (n7 : Int)) (wanted_none rfl) (gx_len rfl rfl Try.underlying36) ?_
          simp only [Act.put, List.setIfInBounds_toArray, List.set_cons_zero, List.set_cons_succ]
          refine wpList_run (v := .bool false) (wanted_none rfl) (ix_lss rfl rfl rfl (decide_eq_false (by omega))) ?_
          simp only [Act.put, List.setIfInBounds_toArray, List.set_cons_zero, List.set_cons_succ]
          have HT14 := Lib.hid (Turn.own HT12.out (fun b e => Nat.le_trans HT9.out.size (HA9.out b e)) HTR2.out)
          have H414 := Lib.hid (H412.out.off HTR2.out fun b hb e => by have h1 := HA9.out b e; have h2 := H49.out.lt hb; omega)
          clear hjl
          generalize hwq : wr = w14 at *
          clear hwq
          obtain ⟨F14, LF14, hax⟩ := H414.out.atx
          have HLS := Lib.hid hax.list
          have HSR14 := Lib.hid hax.srt
          clear hax
          go_upto_region 51 with fail
          refine wp_region_lit ?_
          refine wpList_run (v := .pointer (some ⟨x, 0, none⟩)) (wanted_none rfl) (exec_move rfl rfl) ?_
          simp only [Act.put, List.setIfInBounds_toArray, List.set_cons_zero, List.set_cons_succ]
          refine wpList_op rfl fun K9 HK9 => ?_
          go_wp2_with fail
          refine (HLS.out).mono ?_
          rintro e w15 ⟨A15, n15, c15, us, rfl, how, hpl, ht⟩
          refine HK9.out _ _ ?_
          clear HK9
          try simp only [Act.put, List.setIfInBounds_toArray, List.set_cons_zero, List.set_cons_succ]
          have HOW := Lib.hid how
          have HUS := Lib.hid (show us.length = n15 from by obtain ⟨_, _, e, _⟩ := how.row.form; injection e with _ e _; rw [List.length_map] at e; omega)
          have yu : n15 ≤ 32 := by have h := congrArg List.length hpl; rw [List.length_map] at h; have := HSR14.out.2; have := HUS.out; omega
          have HT15 := Lib.hid (HT14.out.trans ht fun _ _ e => e)
          have H415 := Lib.hid (H414.out.still ht)
          obtain ⟨v15, vs15, hrf, hpl15, hrs, hrl, hrb⟩ := H415.out.refy
          have hl15 : vs15.length = n15 := by have h := congrArg List.length (hpl15.trans hpl.symm); rw [List.length_map, List.length_map] at h; have := HUS.out; omega
          obtain ⟨B15, c16, rfl, hlc15, _, _, _⟩ := hrf.own.row.form
          rw [List.length_map, hl15] at hrf
          have HRF := Lib.hid hrf
          have HSW := Lib.hid (same_walk (c := c15) (c2 := c16) (how.rts (by have := HUS.out; omega)) (hrf.own.rts (by omega)) (hpl.trans hpl15.symm))
          clear how hpl ht hpl15 hrs hrl hrb hlc15 hrf hl15 HLS
          refine wpList_run (v := .slice A15 n15 c15) (wanted_none rfl) (gx_assign rfl rfl) ?_
          simp only [Act.put, List.setIfInBounds_toArray, List.set_cons_zero, List.set_cons_succ]
          go_upto_region 52 with fail
          refine wp_region_lit ?_
          refine wpList_run (v := .slice A15 n15 c15) (wanted_none rfl) (exec_move rfl rfl) ?_
          simp only [Act.put, List.setIfInBounds_toArray, List.set_cons_zero, List.set_cons_succ]
          refine wpList_run (v := .pointer (some ⟨y, 0, none⟩)) (wanted_none rfl) (exec_move rfl rfl) ?_
          simp only [Act.put, List.setIfInBounds_toArray, List.set_cons_zero, List.set_cons_succ]
          refine wpList_run (v := .pointer (some ⟨y, 0, none⟩)) (wanted_none rfl) (exec_nil rfl rfl) ?_
          simp only [Act.put, List.setIfInBounds_toArray, List.set_cons_zero, List.set_cons_succ]
          refine wpList_run (v := .pointer (some ⟨y, 1, none⟩)) (wanted_none rfl) (exec_field (off := 0) (d := 1) rfl rfl (by kernel_rfl)) ?_
          simp only [Act.put, List.setIfInBounds_toArray, List.set_cons_zero, List.set_cons_succ]
          refine wpList_run (v := .slice B15 n15 c16) (wanted_none rfl) (exec_load1 rfl rfl (by kernel_rfl) (HRF.out.blk.cell 1)) ?_
          simp only [Act.put, List.setIfInBounds_toArray, List.set_cons_zero, List.set_cons_succ]
          refine wpList_op rfl fun K9 HK9 => ?_
          go_wp2_with fail
          refine (HSW.out).mono ?_
          rintro e w16 ⟨rfl, ht⟩
          refine HK9.out _ _ ?_
          clear HK9
          try simp only [Act.put, List.setIfInBounds_toArray, List.set_cons_zero, List.set_cons_succ]
          have HT16 := Lib.hid (HT15.out.trans ht fun _ _ e => e)
          have H416 := Lib.hid (H415.out.still ht)
          have HSP16 := Lib.hid (HOW.out.still ht).spl
          have HSFO := Lib.hid (fun b (hb : SplF A15 us b) => HOW.out.splF hb)
          have HROOM := Lib.hid (show ∀ r ∈ us, r.n ≤ 140737488355328 from fun r hr => by have := (HOW.out.its r hr).1.room; omega)
          clear ht HSW
          obtain ⟨w17, hw17⟩ : ∃ v, v = w16.drew := ⟨_, rfl⟩
          have htd : Turn nowhere w16 w17 := by rw [hw17]; exact (Turn.refl _ _).drew
          have HT17 := Lib.hid (HT16.out.trans htd fun _ _ e => e)
          have H417 := Lib.hid (H416.out.still htd)
          have HSP17 := Lib.hid (HSP16.out.turn htd)
          obtain ⟨F17, LF17, haz⟩ := H417.out.atz
          have HLZ := Lib.hid haz.list
          have HSRZ := Lib.hid haz.srt
          obtain ⟨v17, vs17, hrf, hpl17, hrs, hrl, hrb⟩ := H417.out.refu
          have hl17 : vs17.length ≤ 32 := by have h := congrArg List.length hpl17; rw [List.length_map] at h; omega
          obtain ⟨n17, hn17⟩ : ∃ n, n = vs17.length := ⟨_, rfl⟩
          obtain ⟨B18, c19, e17, _, _, _, _⟩ := hrf.own.row.form
          rw [List.length_map, ← hn17] at e17
          rw [e17] at hrf
          have HN17 := Lib.hid hn17
          have HL17 := Lib.hid hl17
          have HRF17 := Lib.hid hrf
          have HPL17 := Lib.hid hpl17
          have HRB := Lib.hid (show ∀ W : World, Turn nowhere w17 W → Blk W u 49 #[.int .i64 m, .slice B18 n17 c19] from fun W ht => HRF17.out.blk.turn ht fun e => e)
          clear htd haz hrf hpl17 hrs hrl hrb hn17 hl17 e17
          refine wpList_run (v := .bool true) (wanted_none rfl) (gx_assign rfl rfl) ?_
          simp only [Act.put, List.setIfInBounds_toArray, List.set_cons_zero, List.set_cons_succ]
          go_upto_region 53 with fail
          refine wp_region_alw (fun W => Blk W u 49 #[.int .i64 m, .slice B18 n17 c19]) (by kernel_rfl) ?_
          rw [← hw17]
          have hS0 := HRB.out w17 (Turn.refl _ _)
          clear hw17
          refine alw_take (i := 0) (v := .pointer (some ⟨z, 0, none⟩)) rfl (by kernel_rfl) (by kernel_rfl) (fun _ _ _ h => h) (.inl ⟨by rfl, fun W hW => exec_move rfl rfl⟩) hS0 ?_
          simp only [Act.put, List.setIfInBounds_toArray, List.set_cons_zero, List.set_cons_succ]
          refine alw_take (i := 2) (v := .pointer (some ⟨u, 0, none⟩)) rfl (by kernel_rfl) (by kernel_rfl) (fun _ _ _ h => h) (.inl ⟨by rfl, fun W hW => exec_move rfl rfl⟩) hS0 ?_
          simp only [Act.put, List.setIfInBounds_toArray, List.set_cons_zero, List.set_cons_succ]
          refine alw_take (i := 3) (v := .pointer (some ⟨u, 0, none⟩)) rfl (by kernel_rfl) (by kernel_rfl) (fun _ _ _ h => h) (.inl ⟨by rfl, fun W hW => exec_nil rfl rfl⟩) hS0 ?_
          simp only [Act.put, List.setIfInBounds_toArray, List.set_cons_zero, List.set_cons_succ]
          refine alw_take (i := 4) (v := .pointer (some ⟨u, 1, none⟩)) rfl (by kernel_rfl) (by kernel_rfl) (fun _ _ _ h => h) (.inl ⟨by rfl, fun W hW => exec_field (off := 0) (d := 1) rfl rfl (by kernel_rfl)⟩) hS0 ?_
          simp only [Act.put, List.setIfInBounds_toArray, List.set_cons_zero, List.set_cons_succ]
          refine alw_take (i := 5) (v := .slice B18 n17 c19) rfl (by kernel_rfl) (by kernel_rfl) (fun _ _ _ h => h) (.inl ⟨by rfl, fun W hW => exec_load1 rfl rfl (by kernel_rfl) (hW.cell 1)⟩) hS0 ?_
          simp only [Act.put, List.setIfInBounds_toArray, List.set_cons_zero, List.set_cons_succ]
          clear hS0
          refine alw_step (i := 1) (by kernel_rfl) rfl rfl ?_
          intro K1 HK1
          go_wp2_with fail
          refine (HLZ.out).mono ?_
          rintro e w18 ⟨A18, n18, c18, us2, rfl, how, hpl, ht⟩

          refine HK1.out _ _ ⟨HRB.out _ ht, ?_⟩
          clear HK1
          try simp only [Act.put, List.setIfInBounds_toArray, List.set_cons_zero, List.set_cons_succ]
          have HT18 := Lib.hid (HT17.out.trans ht fun _ _ e => e)
          have H418 := Lib.hid (H417.out.still ht)
          have HSP18 := Lib.hid (HSP17.out.turn ht)
          have HT1718 := Lib.hid ht
          have hl18 : us2.length = n18 := by obtain ⟨_, _, e, _⟩ := how.row.form; injection e with _ e _; rw [List.length_map] at e; omega
          obtain rfl : n18 = n17 := by have h := congrArg List.length (HPL17.out.trans hpl.symm); rw [List.length_map, List.length_map] at h; have := HN17.out; omega
          have HSW2 := Lib.hid (same_walk (c := c18) (c2 := c19) (how.rts (by have := HL17.out; have := HN17.out; omega)) ((HRF17.out.still ht).own.rts (by have := HL17.out; omega)) (hpl.trans HPL17.out.symm))
          clear how hpl ht hl18 HLZ
          refine alw_step (i := 6) (by kernel_rfl) rfl rfl ?_
          intro K1 HK1
          go_wp2_with fail
          refine (HSW2.out).mono ?_
          rintro e w19 ⟨rfl, ht⟩

          refine HK1.out _ _ ⟨HRB.out _ (HT1718.out.trans ht fun _ _ e => e), ?_⟩
          clear HK1
          try simp only [Act.put, List.setIfInBounds_toArray, List.set_cons_zero, List.set_cons_succ]
          have HT19 := Lib.hid (HT18.out.trans ht fun _ _ e => e)
          have H419 := Lib.hid (H418.out.still ht)
          have HSP19 := Lib.hid (HSP18.out.turn ht)
          have hS0 := HRB.out _ (HT1718.out.trans ht fun _ _ e => e)
          clear ht HSW2
          refine alw_take (i := 7) (v := .bool true) rfl (by kernel_rfl) (by kernel_rfl) (fun _ _ _ h => h) (.inl ⟨by rfl, fun W hW => gx_assign rfl rfl⟩) hS0 ?_
          simp only [Act.put, List.setIfInBounds_toArray, List.set_cons_zero, List.set_cons_succ]
          refine alw_done rfl ?_
          refine NoPanic.normal ?_
          clear hS0
          try simp only [Act.put, List.setIfInBounds_toArray, List.set_cons_zero, List.set_cons_succ]
          have HSPW := Lib.hid (spoil_walk (c := c15) HSP19.out HUS.out.symm HROOM.out (by omega))
          go_upto_region 54 with fail
          refine wp_region_lit ?_
          refine wpList_run (v := .slice A15 n15 c15) (wanted_none rfl) (exec_move rfl rfl) ?_
          simp only [Act.put, List.setIfInBounds_toArray, List.set_cons_zero, List.set_cons_succ]
          refine wpList_op rfl fun K9 HK9 => ?_
          go_wp2_with fail
          refine (HSPW.out).mono ?_
          rintro e w20 ⟨rfl, ht⟩
          refine HK9.out _ _ ?_
          clear HK9
          try simp only [Act.put, List.setIfInBounds_toArray, List.set_cons_zero, List.set_cons_succ]
          have HT20 := Lib.hid (Turn.own HT19.out (fun b e => by have h1 := (HSFO.out b e).1; have := HT14.out.size; omega) ht)
          have H420 := Lib.hid (H419.out.off ht fun b hb e => by have h1 := (HSFO.out b e).1; have h2 := H414.out.lt hb; omega)
          clear ht HSPW
          go_upto_region 55 with fail
          refine wp_region_lit ?_
          refine wpList_run (v := .bool true) (wanted_none rfl) (exec_move rfl rfl) ?_
          simp only [Act.put, List.setIfInBounds_toArray, List.set_cons_zero, List.set_cons_succ]
          refine wpList_run (v := .bool false) (wanted_none rfl) (ix_not (b := true) rfl rfl) ?_
          simp only [Act.put, List.setIfInBounds_toArray, List.set_cons_zero, List.set_cons_succ]
          refine wpList_run (v := .bool false) (wanted_none rfl) (exec_move rfl rfl) ?_
          simp only [Act.put, List.setIfInBounds_toArray, List.set_cons_zero, List.set_cons_succ]
          refine wpList_run (v := .bool true) rfl (exec_move rfl rfl) ?_
          simp only [Act.put, List.setIfInBounds_toArray, List.set_cons_zero, List.set_cons_succ]
          refine wpList_run (v := .bool false) rfl (ix_not (b := true) rfl rfl) ?_
          simp only [Act.put, List.setIfInBounds_toArray, List.set_cons_zero, List.set_cons_succ]
          refine wpList_run (v := .bool false) (wanted_none rfl) (ix_pickF rfl rfl rfl) ?_
          simp only [Act.put, List.setIfInBounds_toArray, List.set_cons_zero, List.set_cons_succ]
          go_upto_region 16 with fail
          refine wp_region_lit ?_
          refine wpList_run (v := .int .i64 (i : Int)) (wanted_none rfl) (exec_move rfl rfl) ?_
          simp only [Act.put, List.setIfInBounds_toArray, List.set_cons_zero, List.set_cons_succ]
          refine wpList_run (v := .int .i64 ((i + 1 : Nat) : Int)) (wanted_none rfl) (ix_add rfl rfl rfl (by omega) (by omega)) ?_
          simp only [Act.put, List.setIfInBounds_toArray, List.set_cons_zero, List.set_cons_succ]
          refine wpList_run (v := .int .i64 ((i + 1 : Nat) : Int)) (wanted_none rfl) (gx_assign rfl rfl) ?_
          simp only [Act.put, List.setIfInBounds_toArray, List.set_cons_zero, List.set_cons_succ]
          go_wp2_with fail
          go_roundg (n2 - (i + 1))
          case measure => have := HGK.out; have := HLT.out; omega
          case rel => exact ⟨i + 1, x, y, z, u, l, l2, P, rfl, rfl, rfl, rfl, rfl, by have := HLT.out; omega, by omega, H420.out, HPW.out, HT20.out⟩
      · have y3 : (i : Int) < (n2 : Int) := by omega
        have y4 : ¬ (i : Int) < 100 := by omega
        clear hlt h100
        go_upto_region 15 with fail
        refine wp_region_lit ?_
        refine wpList_run (v := .int .i64 (i : Int)) (wanted_none rfl) (exec_move rfl rfl) ?_
        simp only [Act.put, List.setIfInBounds_toArray, List.set_cons_zero, List.set_cons_succ]
        refine wpList_run (v := .slice A2 n2 c2) (wanted_none rfl) (exec_move rfl rfl) ?_
        simp only [Act.put, List.setIfInBounds_toArray, List.set_cons_zero, List.set_cons_succ]
        refine wpList_run (v := .int .i64 (n2 : Int)) (wanted_none rfl) (gx_len rfl rfl Try.underlying23) ?_
        simp only [Act.put, List.setIfInBounds_toArray, List.set_cons_zero, List.set_cons_succ]
        refine wpList_run (v := .bool true) (wanted_none rfl) (ix_lss rfl rfl rfl (decide_eq_true y3)) ?_
        simp only [Act.put, List.setIfInBounds_toArray, List.set_cons_zero, List.set_cons_succ]
        refine wpList_run (v := .bool true) (wanted_none rfl) (exec_move rfl rfl) ?_
        simp only [Act.put, List.setIfInBounds_toArray, List.set_cons_zero, List.set_cons_succ]
        refine wpList_run (v := .int .i64 (i : Int)) rfl (exec_move rfl rfl) ?_
        simp only [Act.put, List.setIfInBounds_toArray, List.set_cons_zero, List.set_cons_succ]
        refine wpList_run (v := .bool false) rfl (ix_lss rfl rfl rfl (decide_eq_false y4)) ?_
        simp only [Act.put, List.setIfInBounds_toArray, List.set_cons_zero, List.set_cons_succ]
        refine wpList_run (v := .bool false) (wanted_none rfl) (ix_pickT rfl rfl rfl) ?_
        simp only [Act.put, List.setIfInBounds_toArray, List.set_cons_zero, List.set_cons_succ]
        go_upto_region 57 with fail
        refine wp_region_lit ?_
        refine wpList_run (v := .bool true) (wanted_none rfl) (gx_assign rfl rfl) ?_
        simp only [Act.put, List.setIfInBounds_toArray, List.set_cons_zero, List.set_cons_succ]
        go_wp2_with fail
        go_ret
        exact ⟨rfl, HTR.out⟩
    · have y3 : ¬ (i : Int) < (n2 : Int) := by omega
      clear hlt
      go_upto_region 15 with fail
      first
      | (rename_i K9 hK9; have HKC := Lib.hid hK9; clear hK9)
      | (rename_i K9 hK9 K8; have HKC := Lib.hid hK9; clear hK9)
      refine wp_region_lit ?_
      refine wpList_run (v := .int .i64 (i : Int)) (wanted_none rfl) (exec_move rfl rfl) ?_
      simp only [Act.put, List.setIfInBounds_toArray, List.set_cons_zero, List.set_cons_succ]
      refine wpList_run (v := .slice A2 n2 c2) (wanted_none rfl) (exec_move rfl rfl) ?_
      simp only [Act.put, List.setIfInBounds_toArray, List.set_cons_zero, List.set_cons_succ]
      refine wpList_run (v := .int .i64 (n2 : Int)) (wanted_none rfl) (gx_len rfl rfl Try.underlying23) ?_
      simp only [Act.put, List.setIfInBounds_toArray, List.set_cons_zero, List.set_cons_succ]
      refine wpList_run (v := .bool false) (wanted_none rfl) (ix_lss rfl rfl rfl (decide_eq_false y3)) ?_
      simp only [Act.put, List.setIfInBounds_toArray, List.set_cons_zero, List.set_cons_succ]
      refine wpList_run (v := .bool false) (wanted_none rfl) (exec_move rfl rfl) ?_
      simp only [Act.put, List.setIfInBounds_toArray, List.set_cons_zero, List.set_cons_succ]
      go_wp2_with fail
      refine HKC.out _ _ ?_
      clear HKC
      go_upto_region 57 with fail
      refine wp_region_lit ?_
      refine wpList_run (v := .bool true) (wanted_none rfl) (gx_assign rfl rfl) ?_
      simp only [Act.put, List.setIfInBounds_toArray, List.set_cons_zero, List.set_cons_succ]
      go_wp2_with fail
      go_ret
      exact ⟨rfl, HTR.out⟩
  · obtain ⟨E, hE⟩ : ∃ x : Int, x = if 1 ≤ m ∧ m ≤ 6 then Rt.newE m [] rs else 130 := ⟨_, rfl⟩
    have h0 : E ≠ 0 := by
      rw [hE]
      split
      · exact fun e => he ⟨‹_›, e⟩
      · decide
    have HNE := Lib.hid h0
    have HEE := Lib.hid hE
    have HNW := Lib.hid (HA.out.new_no (m := m) (E := E) (c := c3) HRA.out HRM.out (by rw [HP3.out]; exact hE) h0)
    clear he hE h0
    go_upto_region 3 with fail
    refine wp_region_lit ?_
    refine wpList_run (v := .slice A3 n c3) (wanted_none rfl) (exec_move rfl rfl) ?_
    simp only [Act.put, List.setIfInBounds_toArray, List.set_cons_zero, List.set_cons_succ]
    refine wpList_run (v := .int .i64 m) (wanted_none rfl) (exec_move rfl rfl) ?_
    simp only [Act.put, List.setIfInBounds_toArray, List.set_cons_zero, List.set_cons_succ]
    refine wpList_op rfl fun K9 HK9 => ?_
    go_wp2_with fail
    refine (HNW.out).mono ?_
    rintro e w3 ⟨rfl, ht⟩
    refine HK9.out _ _ ?_
    clear HK9
    try simp only [Act.put, List.setIfInBounds_toArray, List.set_cons_zero, List.set_cons_succ]
    have HT3 := Lib.hid (HT2.out.trans ht fun _ _ e => e)
    have HSPW := Lib.hid (spoil_walk (c := c3) (HOW2.out.still ht).spl HN3.out (fun r hr => by have := (HOW2.out.its r hr).1.room; omega) (by omega))
    have HSF := Lib.hid (fun b (hb : SplF A3 us3 b) => HOW2.out.splF hb)
    clear ht HNW
    refine wpList_run (v := .tuple #[.pointer none, .int .i64 E]) (wanted_none rfl) (exec_move rfl rfl) ?_
    simp only [Act.put, List.setIfInBounds_toArray, List.set_cons_zero, List.set_cons_succ]
    refine wpList_run (v := .pointer none) (wanted_none rfl) (ix_extract rfl rfl rfl) ?_
    simp only [Act.put, List.setIfInBounds_toArray, List.set_cons_zero, List.set_cons_succ]
    refine wpList_run (v := .int .i64 E) (wanted_none rfl) (ix_extract rfl rfl rfl) ?_
    simp only [Act.put, List.setIfInBounds_toArray, List.set_cons_zero, List.set_cons_succ]
    refine wpList_run (v := .pointer none) (wanted_none rfl) (gx_assign rfl rfl) ?_
    simp only [Act.put, List.setIfInBounds_toArray, List.set_cons_zero, List.set_cons_succ]
    refine wpList_run (v := .int .i64 E) (wanted_none rfl) (gx_assign rfl rfl) ?_
    simp only [Act.put, List.setIfInBounds_toArray, List.set_cons_zero, List.set_cons_succ]
    go_upto_region 4 with fail
    refine wp_region_lit ?_
    refine wpList_run (v := .slice A3 n c3) (wanted_none rfl) (exec_move rfl rfl) ?_
    simp only [Act.put, List.setIfInBounds_toArray, List.set_cons_zero, List.set_cons_succ]
    refine wpList_op rfl fun K9 HK9 => ?_
    go_wp2_with fail
    refine (HSPW.out).mono ?_
    rintro e w4 ⟨rfl, ht⟩
    refine HK9.out _ _ ?_
    clear HK9
    try simp only [Act.put, List.setIfInBounds_toArray, List.set_cons_zero, List.set_cons_succ]
    have HT4 := Lib.hid (show Turn nowhere w w4 from Turn.own HT3.out (fun b e => by have := (HSF.out b e).1; have := HT1.out.size; omega) ht)
    have HRN := Lib.hid (rnew_bad (m := m) (E := E) (c := c) (HU.out.still HT4.out) (by rw [← HRS.out]; exact HEE.out) HNE.out)
    clear ht HSPW
    go_upto_region 5 with fail
    refine wp_region_lit ?_
    refine wpList_run (v := .slice A n c) (wanted_none rfl) (exec_move rfl rfl) ?_
    simp only [Act.put, List.setIfInBounds_toArray, List.set_cons_zero, List.set_cons_succ]
    refine wpList_run (v := .int .i64 m) (wanted_none rfl) (exec_move rfl rfl) ?_
    simp only [Act.put, List.setIfInBounds_toArray, List.set_cons_zero, List.set_cons_succ]
    refine wpList_op rfl fun K9 HK9 => ?_
    go_wp2_with fail
    refine (HRN.out).mono ?_
    rintro e w5 ⟨rfl, ht⟩
    refine HK9.out _ _ ?_
    clear HK9
    try simp only [Act.put, List.setIfInBounds_toArray, List.set_cons_zero, List.set_cons_succ]
    have HT5 := Lib.hid (HT4.out.trans ht fun _ _ e => e)
    clear ht HRN
    refine wpList_run (v := .tuple #[.pointer none, .int .i64 E]) (wanted_none rfl) (exec_move rfl rfl) ?_
    simp only [Act.put, List.setIfInBounds_toArray, List.set_cons_zero, List.set_cons_succ]
    refine wpList_run (v := .pointer none) (wanted_none rfl) (ix_extract rfl rfl rfl) ?_
    simp only [Act.put, List.setIfInBounds_toArray, List.set_cons_zero, List.set_cons_succ]
    refine wpList_run (v := .int .i64 E) (wanted_none rfl) (ix_extract rfl rfl rfl) ?_
    simp only [Act.put, List.setIfInBounds_toArray, List.set_cons_zero, List.set_cons_succ]
    refine wpList_run (v := .pointer none) (wanted_none rfl) (gx_assign rfl rfl) ?_
    simp only [Act.put, List.setIfInBounds_toArray, List.set_cons_zero, List.set_cons_succ]
    refine wpList_run (v := .int .i64 E) (wanted_none rfl) (gx_assign rfl rfl) ?_
    simp only [Act.put, List.setIfInBounds_toArray, List.set_cons_zero, List.set_cons_succ]
    go_upto_region 6 with fail
    refine wp_region_lit ?_
    refine wpList_run (v := .bool true) (wanted_none rfl) (exec_move rfl rfl) ?_
    simp only [Act.put, List.setIfInBounds_toArray, List.set_cons_zero, List.set_cons_succ]
    refine wpList_run (v := .bool false) (wanted_none rfl) (ix_not (b := true) rfl rfl) ?_
    simp only [Act.put, List.setIfInBounds_toArray, List.set_cons_zero, List.set_cons_succ]
    refine wpList_run (v := .bool false) (wanted_none rfl) (exec_move rfl rfl) ?_
    simp only [Act.put, List.setIfInBounds_toArray, List.set_cons_zero, List.set_cons_succ]
    refine wpList_run (v := .int .i64 E) rfl (exec_move rfl rfl) ?_
    simp only [Act.put, List.setIfInBounds_toArray, List.set_cons_zero, List.set_cons_succ]
    refine wpList_run (v := .int .i64 E) rfl (exec_move rfl rfl) ?_
    simp only [Act.put, List.setIfInBounds_toArray, List.set_cons_zero, List.set_cons_succ]
    refine wpList_run (v := .bool false) rfl (ix_neq rfl rfl rfl (decide_eq_false (fun h => h rfl))) ?_
    simp only [Act.put, List.setIfInBounds_toArray, List.set_cons_zero, List.set_cons_succ]
    refine wpList_run (v := .bool false) (wanted_none rfl) (ix_pickF rfl rfl rfl) ?_
    simp only [Act.put, List.setIfInBounds_toArray, List.set_cons_zero, List.set_cons_succ]
    refine wpList_run (v := .bool false) (wanted_none rfl) (exec_move rfl rfl) ?_
    simp only [Act.put, List.setIfInBounds_toArray, List.set_cons_zero, List.set_cons_succ]
    refine wpList_run (v := .pointer none) rfl (exec_move rfl rfl) ?_
    simp only [Act.put, List.setIfInBounds_toArray, List.set_cons_zero, List.set_cons_succ]
    refine wpList_run (v := .bool true) rfl (ptr_zzR rfl rfl rfl rfl) ?_
    simp only [Act.put, List.setIfInBounds_toArray, List.set_cons_zero, List.set_cons_succ]
    refine wpList_run (v := .pointer none) rfl (exec_move rfl rfl) ?_
    simp only [Act.put, List.setIfInBounds_toArray, List.set_cons_zero, List.set_cons_succ]
    refine wpList_run (v := .bool true) rfl (ptr_zzF rfl rfl rfl rfl) ?_
    simp only [Act.put, List.setIfInBounds_toArray, List.set_cons_zero, List.set_cons_succ]
    refine wpList_run (v := .bool false) rfl (bx_neb rfl rfl rfl (by simp) rfl) ?_
    simp only [Act.put, List.setIfInBounds_toArray, List.set_cons_zero, List.set_cons_succ]
    refine wpList_run (v := .bool false) (wanted_none rfl) (ix_pickF rfl rfl rfl) ?_
    simp only [Act.put, List.setIfInBounds_toArray, List.set_cons_zero, List.set_cons_succ]
    go_upto_region 8 with fail
    refine wp_region_lit ?_
    refine wpList_run (v := .pointer none) (wanted_none rfl) (exec_move rfl rfl) ?_
    simp only [Act.put, List.setIfInBounds_toArray, List.set_cons_zero, List.set_cons_succ]
    refine wpList_run (v := .bool true) (wanted_none rfl) (ptr_zzF rfl rfl rfl rfl) ?_
    simp only [Act.put, List.setIfInBounds_toArray, List.set_cons_zero, List.set_cons_succ]
    go_upto_region 9 with fail
    refine wp_region_lit ?_
    refine wpList_run (v := .bool true) (wanted_none rfl) (gx_assign rfl rfl) ?_
    simp only [Act.put, List.setIfInBounds_toArray, List.set_cons_zero, List.set_cons_succ]
    go_wp2_with fail
    go_ret
    exact ⟨rfl, HT5.out⟩
end
end Go.Proofs.Ytihmpbilbnajpaa
