/-
  Routes: each route is found by its own prefix: the law's walk. No conditions.
-/
import Derived.Test.YtihmpbilbnajpaaRtK
namespace Go.Proofs.Ytihmpbilbnajpaa
open Go.RowKit
open Ix
open Rt (R)
set_option linter.unusedVariables false
set_option linter.unusedSimpArgs false
theorem bx_eqb {a : Act} {o : Oper} {W : World} {x y : Operand} {t u : TypeId} {p q r : Bool} (ho : o.op = .binOp .eql t x y u) (hx : a.eval x = .bool p) (hy : a.eval y = .bool q) (hr : (p == q) = r) (ht : t = 4) : (execOp a.eval o).run Try.prog W = .ok (.value (.bool r)) W := by
  subst ht
  unfold execOp
  simp only [ho, hx, hy]
  go_simp
  try exact hr
theorem bx_neb {a : Act} {o : Oper} {W : World} {x y : Operand} {t u : TypeId} {p q r : Bool} (ho : o.op = .binOp .neq t x y u) (hx : a.eval x = .bool p) (hy : a.eval y = .bool q) (hr : (!(p == q)) = r) (ht : t = 4) : (execOp a.eval o).run Try.prog W = .ok (.value (.bool r)) W := by
  subst ht
  unfold execOp
  simp only [ho, hx, hy]
  go_simp
  try exact hr
section
variable {At : World → Nat → (Nat → Prop) → Int → List R → Prop}
theorem Api.new_bad (H : Api At) {w : World} {A : Option Addr} {n c : Nat} {us : List RtV} {m E : Int} (ha : RtsAt w A n us) (hr : n * 40 ≤ 140737488355328) (hm : 1 ≤ m ∧ m ≤ 6) (hE : E = Rt.newE m [] (us.map RtV.plain)) (h0 : E ≠ 0) :
    Calls Try.prog 9 #[.slice A n c, .int .i64 m] w fun e w' => e = .returned (.tuple #[.pointer none, .int .i64 E]) ∧ Turn nowhere w w' := (H.new ha hr).mono fun e w' h => by
  subst hE
  rcases h with ⟨h, _⟩ | ⟨_, _, h⟩ | ⟨_, h, _⟩
  · exact absurd hm h
  · exact h
  · exact absurd h h0
theorem Api.new_ok (H : Api At) {w : World} {A : Option Addr} {n c : Nat} {us : List RtV} {m : Int} {l : List R} (ha : RtsAt w A n us) (hr : n * 40 ≤ 140737488355328) (hm : 1 ≤ m ∧ m ≤ 6) (h0 : Rt.newE m [] (us.map RtV.plain) = 0) (hl : l = Rt.newL m [] (us.map RtV.plain)) :
    Calls Try.prog 9 #[.slice A n c, .int .i64 m] w fun e w' => ∃ t F, e = .returned (.tuple #[.pointer (some ⟨t, 0, none⟩), .int .i64 0]) ∧ At w' t F m l ∧ (∀ b, F b → w.heap.size ≤ b) ∧ Turn nowhere w w' := (H.new ha hr).mono fun e w' h => by
  subst hl
  rcases h with ⟨h, _⟩ | ⟨_, h, _⟩ | ⟨_, _, h⟩
  · exact absurd hm h
  · exact absurd h0 h
  · exact h
/-- whether a card is found -/
theorem Api.is (H : Api At) {w : World} {t : Nat} {F : Nat → Prop} {m : Int} {l : List R} {p : Key} {sb : Bool} (h : At w t F m l) (hp : p.length ≤ 9223372036854775807) (hs : sb = true ↔ ∃ x ∈ l, x.1 <+: p) :
    Calls Try.prog 18 #[.pointer (some ⟨t, 0, none⟩), strV p] w fun e w' => ∃ A n c, e = .returned (.tuple #[.slice A n c, .bool sb]) ∧ Turn nowhere w w' := by
  refine (H.find h hp).mono ?_
  rintro e w' ⟨o, A, n, c, h1, h2, rfl, rfl, h4⟩
  obtain rfl : sb = o.isSome := by
    rw [Bool.eq_iff_iff, hs]
    cases o with
    | none =>
      constructor
      · rintro ⟨x, hx, e⟩
        exact absurd e (h1 x hx)
      · intro e
        cases e
    | some t =>
      obtain ⟨q, g1, g2, _⟩ := h1
      exact ⟨fun _ => rfl, fun _ => ⟨_, g1, g2⟩⟩
  exact ⟨A, _, c, rfl, h2⟩
/-- a list as long as it is -/
theorem Api.long (H : Api At) {w : World} {t n : Nat} {F : Nat → Prop} {m : Int} {l : List R} (h : At w t F m l) (hn : n = l.length) :
    Calls Try.prog 21 #[.pointer (some ⟨t, 0, none⟩)] w fun e w' => ∃ A c, e = .returned (.slice A n c) ∧ Turn nowhere w w' := (H.list h).mono fun e w' h => by
  obtain ⟨A, k, c, vs, rfl, h1, h2, h3⟩ := h
  obtain ⟨A9, c9, e, _⟩ := h1.row.form
  injection e with e1 e2 e3
  rw [List.length_map] at e2
  have : k = n := by rw [hn, ← h2, List.length_map]; exact e2
  subst this
  exact ⟨A, c, rfl, h3⟩
set_option maxRecDepth 20000 in
set_option maxHeartbeats 4000000 in
theorem own_walk (H : Api At) {w : World} {A : Option Addr} {n c : Nat} {us : List RtV} {p : Key} (ha : RtsAt w A n us) (hr : n * 40 ≤ 140737488355328) (hp : p.length ≤ 9223372036854775807) :
    Calls Try.prog 6 #[.slice A n c, strV p] w fun e w' => e = .returned (.bool true) ∧ Turn nowhere w w' := by
  have HA := Lib.hid H
  have HU := Lib.hid ha
  have HRM := Lib.hid hr
  have HPP := Lib.hid hp
  have HUN := Lib.hid ha.len
  have yn : (n : Int) ≤ 140737488355328 := by omega
  obtain ⟨rs, hrs⟩ : ∃ x, x = us.map RtV.plain := ⟨_, rfl⟩
  have HRS := Lib.hid hrs
  obtain ⟨pn, hpn⟩ : ∃ x, x = p.length := ⟨_, rfl⟩
  have HPN := Lib.hid hpn
  have ypn : (pn : Int) ≤ 9223372036854775807 := by omega
  clear H ha hr hp hrs hpn
  go_enter Try.func6, Try.ntmps6
  go_upto_region 0 with fail
  refine wp_region_lit ?_
  refine wpList_run (v := .bool false) (wanted_none rfl) (gx_assign rfl rfl) ?_
  simp only [Act.put, List.setIfInBounds_toArray, List.set_cons_zero, List.set_cons_succ]
  go_upto_region 1 with fail
  refine wp_region_lit ?_
  refine wpList_op rfl fun K9 HK9 => ?_
  go_wp2_with fail
  refine (shown_walk (w := w) HA.out).mono ?_
  rintro e w1 ⟨rfl, ht⟩
  refine HK9.out _ _ ?_
  clear HK9
  try simp only [Act.put, List.setIfInBounds_toArray, List.set_cons_zero, List.set_cons_succ]
  have HT1 := Lib.hid ht
  have HU1 := Lib.hid (HU.out.still ht)
  clear ht
  refine wpList_run (v := .bool true) (wanted_none rfl) (gx_assign rfl rfl) ?_
  simp only [Act.put, List.setIfInBounds_toArray, List.set_cons_zero, List.set_cons_succ]
  by_cases he : Rt.newE 6 [] rs = 0
  · have HNE := Lib.hid he
    obtain ⟨L, hL⟩ : ∃ x, x = Rt.newL 6 [] rs := ⟨_, rfl⟩
    have HLL := Lib.hid hL
    have HNW := Lib.hid (HA.out.new_ok (m := 6) (l := L) (c := c) HU1.out HRM.out ⟨by omega, by omega⟩ (by rw [← HRS.out]; exact he) (by rw [← HRS.out]; exact hL))
    have hok := Rt.newE_ok (l := []) (by simp) he
    have hof := Rt.newE_of hok
    rw [← hL] at hof
    have HLN := Lib.hid (show n = L.length from by rw [hof.2.1, HRS.out, List.length_map, List.length_nil, Nat.zero_add]; exact HUN.out)
    have HLM := Lib.hid (show ∀ y, y ∈ L ↔ y ∈ rs from fun y => by rw [hof.2.2]; simp)
    have HEA := Lib.hid (show ∀ x ∈ rs, Rt.toOk 6 x.2 from fun x hx => (hok.each x hx).2)
    clear he hL hok hof
    go_upto_region 2 with fail
    refine wp_region_lit ?_
    refine wpList_run (v := .slice A n c) (wanted_none rfl) (exec_move rfl rfl) ?_
    simp only [Act.put, List.setIfInBounds_toArray, List.set_cons_zero, List.set_cons_succ]
    refine wpList_op rfl fun K9 HK9 => ?_
    go_wp2_with fail
    refine (HNW.out).mono ?_
    rintro e w2 ⟨t, F, rfl, hat, hF, ht⟩
    refine HK9.out _ _ ?_
    clear HK9
    try simp only [Act.put, List.setIfInBounds_toArray, List.set_cons_zero, List.set_cons_succ]
    have HAT := Lib.hid hat
    have HT2 := Lib.hid (HT1.out.trans ht fun _ _ e => e)
    clear hat hF ht HNW
    refine wpList_run (v := .tuple #[.pointer (some ⟨t, 0, none⟩), .int .i64 0]) (wanted_none rfl) (exec_move rfl rfl) ?_
    simp only [Act.put, List.setIfInBounds_toArray, List.set_cons_zero, List.set_cons_succ]
    refine wpList_run (v := .pointer (some ⟨t, 0, none⟩)) (wanted_none rfl) (ix_extract rfl rfl rfl) ?_
    simp only [Act.put, List.setIfInBounds_toArray, List.set_cons_zero, List.set_cons_succ]
    refine wpList_run (v := .int .i64 0) (wanted_none rfl) (ix_extract rfl rfl rfl) ?_
    simp only [Act.put, List.setIfInBounds_toArray, List.set_cons_zero, List.set_cons_succ]
    refine wpList_run (v := .pointer (some ⟨t, 0, none⟩)) (wanted_none rfl) (gx_assign rfl rfl) ?_
    simp only [Act.put, List.setIfInBounds_toArray, List.set_cons_zero, List.set_cons_succ]
    refine wpList_run (v := .int .i64 0) (wanted_none rfl) (gx_assign rfl rfl) ?_
    simp only [Act.put, List.setIfInBounds_toArray, List.set_cons_zero, List.set_cons_succ]
    go_upto_region 3 with fail
    refine wp_region_lit ?_
    refine wpList_run (v := .bool true) (wanted_none rfl) (exec_move rfl rfl) ?_
    simp only [Act.put, List.setIfInBounds_toArray, List.set_cons_zero, List.set_cons_succ]
    refine wpList_run (v := .bool false) (wanted_none rfl) (ix_not (b := true) rfl rfl) ?_
    simp only [Act.put, List.setIfInBounds_toArray, List.set_cons_zero, List.set_cons_succ]
    refine wpList_run (v := .bool false) (wanted_none rfl) (exec_move rfl rfl) ?_
    simp only [Act.put, List.setIfInBounds_toArray, List.set_cons_zero, List.set_cons_succ]
    refine wpList_run (v := .int .i64 0) rfl (exec_move rfl rfl) ?_
    simp only [Act.put, List.setIfInBounds_toArray, List.set_cons_zero, List.set_cons_succ]
    refine wpList_run (v := .bool false) rfl (ix_neq rfl rfl rfl (by decide)) ?_
    simp only [Act.put, List.setIfInBounds_toArray, List.set_cons_zero, List.set_cons_succ]
    refine wpList_run (v := .bool false) (wanted_none rfl) (ix_pickF rfl rfl rfl) ?_
    simp only [Act.put, List.setIfInBounds_toArray, List.set_cons_zero, List.set_cons_succ]
    go_upto_region 5 with fail
    refine wp_region_lit ?_
    refine wpList_run (v := .bool false) (wanted_none rfl) (gx_assign rfl rfl) ?_
    simp only [Act.put, List.setIfInBounds_toArray, List.set_cons_zero, List.set_cons_succ]
    go_upto_region 6 with fail
    refine wp_region_lit ?_
    refine wpList_run (v := .int .i64 0) (wanted_none rfl) (gx_assign rfl rfl) ?_
    simp only [Act.put, List.setIfInBounds_toArray, List.set_cons_zero, List.set_cons_succ]
    go_wp2_with fail
    go_loopg [8, 9, 10, 11, 12, 13] n (fun gk sv iv av bv cv dv wr => ∃ (i : Nat) (sb : Bool), sv = .bool sb ∧ iv = .int .i64 (i : Int) ∧ i + gk = n ∧ (sb = true ↔ ∃ j x, j < i ∧ us[j]? = some x ∧ x.pre <+: p) ∧ Turn nowhere w2 wr)
    case atStart => exact ⟨0, false, rfl, rfl, by omega, ⟨fun e => (by cases e), fun ⟨j, x, h, _⟩ => absurd h (by omega)⟩, Turn.refl _ _⟩
    obtain ⟨i, sb, rfl, rfl, hgk, hsb, htr⟩ := hrel
    have HGK := Lib.hid hgk
    have HSB := Lib.hid hsb
    have HTR := Lib.hid htr
    have HATr := Lib.hid (HA.out.still HAT.out htr)
    have HUr := Lib.hid ((HU.out.still HT2.out).still htr)
    have yi : (i : Int) ≤ (n : Int) := by omega
    clear hgk hsb htr
    by_cases hlt : i < n
    · have HLT := Lib.hid hlt
      have y3 : (i : Int) < (n : Int) := by omega
      obtain ⟨b1, o1, e1, h1⟩ := HUr.out.at_ (by omega)
      subst e1
      obtain ⟨z, hz⟩ := getQ (l := us) (i := i) (by have := HUN.out; omega)
      have HZ := Lib.hid hz
      have HC := Lib.hid (h1 i z hz)
      have hzo := HUr.out.2 z (List.mem_of_getElem? hz)
      have HZO := Lib.hid hzo
      have hzm : z.plain ∈ rs := by rw [HRS.out]; exact List.mem_map.2 ⟨z, List.mem_of_getElem? hz, rfl⟩
      obtain ⟨zl, hzl⟩ : ∃ x, x = z.to_.length := ⟨_, rfl⟩
      have HZL := Lib.hid hzl
      have h0 : 0 < z.to_.length := (HEA.out _ hzm).1.1
      have hfd := HA.out.f_some (p := z.pre) HATr.out hzo.pl (Rt.best_own ((HLM.out _).2 hzm)) (by exact h0)
      rw [show z.plain.2.length = zl from hzl.symm, show z.plain.2 = z.to_ from rfl] at hfd
      have HFD := Lib.hid hfd
      obtain ⟨zn, hzn⟩ : ∃ x, x = z.pre.length := ⟨_, rfl⟩
      have HZN := Lib.hid hzn
      have yzn : (zn : Int) ≤ 9223372036854775807 := by have := hzo.pl; omega
      clear h1 hz hzo hzm hzl h0 hfd hzn hlt
      go_upto_region 7 with fail
      refine wp_region_lit ?_
      refine wpList_run (v := .int .i64 (i : Int)) (wanted_none rfl) (exec_move rfl rfl) ?_
      simp only [Act.put, List.setIfInBounds_toArray, List.set_cons_zero, List.set_cons_succ]
      refine wpList_run (v := .slice (some ⟨b1, o1, none⟩) n c) (wanted_none rfl) (exec_move rfl rfl) ?_
      simp only [Act.put, List.setIfInBounds_toArray, List.set_cons_zero, List.set_cons_succ]
      refine wpList_run (v := .int .i64 (n : Int)) (wanted_none rfl) (gx_len rfl rfl Try.underlying22) ?_
      simp only [Act.put, List.setIfInBounds_toArray, List.set_cons_zero, List.set_cons_succ]
      refine wpList_run (v := .bool true) (wanted_none rfl) (ix_lss rfl rfl rfl (decide_eq_true y3)) ?_
      simp only [Act.put, List.setIfInBounds_toArray, List.set_cons_zero, List.set_cons_succ]
      go_upto_region 9 with fail
      refine wp_region_lit ?_
      refine wpList_run (v := .pointer (some ⟨t, 0, none⟩)) (wanted_none rfl) (exec_move rfl rfl) ?_
      simp only [Act.put, List.setIfInBounds_toArray, List.set_cons_zero, List.set_cons_succ]
      refine wpList_run (v := .slice (some ⟨b1, o1, none⟩) n c) (wanted_none rfl) (exec_move rfl rfl) ?_
      simp only [Act.put, List.setIfInBounds_toArray, List.set_cons_zero, List.set_cons_succ]
      refine wpList_run (v := .int .i64 (i : Int)) (wanted_none rfl) (exec_move rfl rfl) ?_
      simp only [Act.put, List.setIfInBounds_toArray, List.set_cons_zero, List.set_cons_succ]
      refine wpList_run (v := .pointer (some ⟨b1, o1 + i * 2, none⟩)) (wanted_none rfl) (gx_iaddr (i := i) (sz := 2) rfl rfl rfl Try.underlying22 size_rt HLT.out rfl) ?_
      simp only [Act.put, List.setIfInBounds_toArray, List.set_cons_zero, List.set_cons_succ]
      refine wpList_run (v := .pointer (some ⟨b1, o1 + i * 2 + 0, none⟩)) (wanted_none rfl) (exec_field (off := o1 + i * 2) (d := 0) rfl rfl (by kernel_rfl)) ?_
      simp only [Act.put, List.setIfInBounds_toArray, List.set_cons_zero, List.set_cons_succ]
      refine wpList_run (v := strV z.pre) (wanted_none rfl) (exec_load1 rfl rfl (by kernel_rfl) HC.out.1) ?_
      simp only [Act.put, List.setIfInBounds_toArray, List.set_cons_zero, List.set_cons_succ]
      refine wpList_op rfl fun K9 HK9 => ?_
      go_wp2_with fail
      refine (HFD.out).mono ?_
      rintro e w3 ⟨b7, c7, rfl, ho, ht⟩
      refine HK9.out _ _ ?_
      clear HK9
      try simp only [Act.put, List.setIfInBounds_toArray, List.set_cons_zero, List.set_cons_succ]
      have HT3 := Lib.hid ht
      have HC3 := Lib.hid (show w3.cell? ⟨b1, o1 + i * 2 + 0, none⟩ = some (strV z.pre) ∧ w3.cell? ⟨b1, o1 + i * 2 + 1, none⟩ = some (.slice z.A z.n z.c) from
        ⟨(ht.cell (World.block_lt_of_cell? _ _ HC.out.1) fun e => e).trans HC.out.1, (ht.cell (World.block_lt_of_cell? _ _ HC.out.2) fun e => e).trans HC.out.2⟩)
      have hin := ints_walk (w := w3) (c := c7) (c2 := z.c) (orI ho (by have h1 := HZO.out.ia.len; have h2 := HZO.out.room; have h3 := HZL.out; omega)) (HZO.out.ia.still ht)
      rw [decide_eq_true rfl] at hin
      have HIN := Lib.hid hin
      clear ho ht hin HFD
      refine wpList_run (v := .tuple #[.slice (some ⟨b7, 0, none⟩) zl c7, .bool true]) (wanted_none rfl) (exec_move rfl rfl) ?_
      simp only [Act.put, List.setIfInBounds_toArray, List.set_cons_zero, List.set_cons_succ]
      refine wpList_run (v := .slice (some ⟨b7, 0, none⟩) zl c7) (wanted_none rfl) (ix_extract rfl rfl rfl) ?_
      simp only [Act.put, List.setIfInBounds_toArray, List.set_cons_zero, List.set_cons_succ]
      refine wpList_run (v := .bool true) (wanted_none rfl) (ix_extract rfl rfl rfl) ?_
      simp only [Act.put, List.setIfInBounds_toArray, List.set_cons_zero, List.set_cons_succ]
      refine wpList_run (v := .slice (some ⟨b7, 0, none⟩) zl c7) (wanted_none rfl) (gx_assign rfl rfl) ?_
      simp only [Act.put, List.setIfInBounds_toArray, List.set_cons_zero, List.set_cons_succ]
      refine wpList_run (v := .bool true) (wanted_none rfl) (gx_assign rfl rfl) ?_
      simp only [Act.put, List.setIfInBounds_toArray, List.set_cons_zero, List.set_cons_succ]
      go_upto_region 10 with fail
      refine wp_region_lit ?_
      refine wpList_run (v := .slice (some ⟨b7, 0, none⟩) zl c7) (wanted_none rfl) (exec_move rfl rfl) ?_
      simp only [Act.put, List.setIfInBounds_toArray, List.set_cons_zero, List.set_cons_succ]
      refine wpList_run (v := .slice (some ⟨b1, o1, none⟩) n c) (wanted_none rfl) (exec_move rfl rfl) ?_
      simp only [Act.put, List.setIfInBounds_toArray, List.set_cons_zero, List.set_cons_succ]
      refine wpList_run (v := .int .i64 (i : Int)) (wanted_none rfl) (exec_move rfl rfl) ?_
      simp only [Act.put, List.setIfInBounds_toArray, List.set_cons_zero, List.set_cons_succ]
      refine wpList_run (v := .pointer (some ⟨b1, o1 + i * 2, none⟩)) (wanted_none rfl) (gx_iaddr (i := i) (sz := 2) rfl rfl rfl Try.underlying22 size_rt HLT.out rfl) ?_
      simp only [Act.put, List.setIfInBounds_toArray, List.set_cons_zero, List.set_cons_succ]
      refine wpList_run (v := .pointer (some ⟨b1, o1 + i * 2 + 1, none⟩)) (wanted_none rfl) (exec_field (off := o1 + i * 2) (d := 1) rfl rfl (by kernel_rfl)) ?_
      simp only [Act.put, List.setIfInBounds_toArray, List.set_cons_zero, List.set_cons_succ]
      refine wpList_run (v := .slice z.A z.n z.c) (wanted_none rfl) (exec_load1 rfl rfl (by kernel_rfl) HC3.out.2) ?_
      simp only [Act.put, List.setIfInBounds_toArray, List.set_cons_zero, List.set_cons_succ]
      refine wpList_op rfl fun K9 HK9 => ?_
      go_wp2_with fail
      refine (HIN.out).mono ?_
      rintro e w4 ⟨rfl, ht⟩
      refine HK9.out _ _ ?_
      clear HK9
      try simp only [Act.put, List.setIfInBounds_toArray, List.set_cons_zero, List.set_cons_succ]
      have HT4 := Lib.hid (HT3.out.trans ht fun _ _ e => e)
      have HC4 := Lib.hid ((ht.cell (World.block_lt_of_cell? _ _ HC3.out.1) fun e => e).trans HC3.out.1)
      clear ht HIN
      refine wpList_run (v := .bool true) (wanted_none rfl) (gx_assign rfl rfl) ?_
      simp only [Act.put, List.setIfInBounds_toArray, List.set_cons_zero, List.set_cons_succ]
      go_upto_region 11 with fail
      refine wp_region_lit ?_
      refine wpList_run (v := .bool true) (wanted_none rfl) (exec_move rfl rfl) ?_
      simp only [Act.put, List.setIfInBounds_toArray, List.set_cons_zero, List.set_cons_succ]
      refine wpList_run (v := .bool false) (wanted_none rfl) (ix_not (b := true) rfl rfl) ?_
      simp only [Act.put, List.setIfInBounds_toArray, List.set_cons_zero, List.set_cons_succ]
      refine wpList_run (v := .bool false) (wanted_none rfl) (exec_move rfl rfl) ?_
      simp only [Act.put, List.setIfInBounds_toArray, List.set_cons_zero, List.set_cons_succ]
      refine wpList_run (v := .bool true) rfl (exec_move rfl rfl) ?_
      simp only [Act.put, List.setIfInBounds_toArray, List.set_cons_zero, List.set_cons_succ]
      refine wpList_run (v := .bool false) rfl (ix_not (b := true) rfl rfl) ?_
      simp only [Act.put, List.setIfInBounds_toArray, List.set_cons_zero, List.set_cons_succ]
      refine wpList_run (v := .bool false) (wanted_none rfl) (ix_pickF rfl rfl rfl) ?_
      simp only [Act.put, List.setIfInBounds_toArray, List.set_cons_zero, List.set_cons_succ]
      go_upto_region 13 with fail
      refine wp_region_lit ?_
      refine wpList_run (v := .slice (some ⟨b1, o1, none⟩) n c) (wanted_none rfl) (exec_move rfl rfl) ?_
      simp only [Act.put, List.setIfInBounds_toArray, List.set_cons_zero, List.set_cons_succ]
      refine wpList_run (v := .int .i64 (i : Int)) (wanted_none rfl) (exec_move rfl rfl) ?_
      simp only [Act.put, List.setIfInBounds_toArray, List.set_cons_zero, List.set_cons_succ]
      refine wpList_run (v := .pointer (some ⟨b1, o1 + i * 2, none⟩)) (wanted_none rfl) (gx_iaddr (i := i) (sz := 2) rfl rfl rfl Try.underlying22 size_rt HLT.out rfl) ?_
      simp only [Act.put, List.setIfInBounds_toArray, List.set_cons_zero, List.set_cons_succ]
      refine wpList_run (v := .pointer (some ⟨b1, o1 + i * 2 + 0, none⟩)) (wanted_none rfl) (exec_field (off := o1 + i * 2) (d := 0) rfl rfl (by kernel_rfl)) ?_
      simp only [Act.put, List.setIfInBounds_toArray, List.set_cons_zero, List.set_cons_succ]
      refine wpList_run (v := strV z.pre) (wanted_none rfl) (exec_load1 rfl rfl (by kernel_rfl) HC4.out) ?_
      simp only [Act.put, List.setIfInBounds_toArray, List.set_cons_zero, List.set_cons_succ]
      refine wpList_run (v := strV z.pre) (wanted_none rfl) (gx_assign rfl rfl) ?_
      simp only [Act.put, List.setIfInBounds_toArray, List.set_cons_zero, List.set_cons_succ]
      cases sb with
      | true =>
        go_upto_region 14 with fail
        rename_i K9 hK9 K8
        have HKC := Lib.hid hK9
        clear hK9
        refine wp_region_lit ?_
        refine wpList_run (v := .bool true) (wanted_none rfl) (exec_move rfl rfl) ?_
        simp only [Act.put, List.setIfInBounds_toArray, List.set_cons_zero, List.set_cons_succ]
        refine wpList_run (v := .bool true) (wanted_none rfl) (exec_move rfl rfl) ?_
        simp only [Act.put, List.setIfInBounds_toArray, List.set_cons_zero, List.set_cons_succ]
        go_wp2_with fail
        refine HKC.out _ _ ?_
        clear HKC
        go_upto_region 8 with fail
        refine wp_region_lit ?_
        refine wpList_run (v := .int .i64 (i : Int)) (wanted_none rfl) (exec_move rfl rfl) ?_
        simp only [Act.put, List.setIfInBounds_toArray, List.set_cons_zero, List.set_cons_succ]
        refine wpList_run (v := .int .i64 ((i + 1 : Nat) : Int)) (wanted_none rfl) (ix_add rfl rfl rfl (by omega) (by omega)) ?_
        simp only [Act.put, List.setIfInBounds_toArray, List.set_cons_zero, List.set_cons_succ]
        refine wpList_run (v := .int .i64 ((i + 1 : Nat) : Int)) (wanted_none rfl) (gx_assign rfl rfl) ?_
        simp only [Act.put, List.setIfInBounds_toArray, List.set_cons_zero, List.set_cons_succ]
        go_wp2_with fail
        go_roundg (n - (i + 1))
        case measure => have := HGK.out; have := HLT.out; omega
        case rel => exact ⟨i + 1, true, rfl, rfl, by have := HLT.out; omega, ⟨fun _ => by obtain ⟨j, x, h, h2⟩ := HSB.out.1 (by simp); exact ⟨j, x, by omega, h2⟩, fun _ => rfl⟩, HTR.out.trans HT4.out fun _ _ e => e⟩
      | false =>
        by_cases hle : zn ≤ pn
        · have HLE := Lib.hid hle
          have y5 : (zn : Int) ≤ (pn : Int) := by omega
          have HPI := Lib.hid (pre_iff (p := z.pre) (pan := p) (by have := HZN.out; have := HPN.out; omega))
          clear hle
          by_cases hpx : z.pre <+: p
          · have HPX := Lib.hid hpx
            clear hpx
            go_upto_region 14 with fail
            refine wp_region_lit ?_
            refine wpList_run (v := .bool false) (wanted_none rfl) (exec_move rfl rfl) ?_
            simp only [Act.put, List.setIfInBounds_toArray, List.set_cons_zero, List.set_cons_succ]
            refine wpList_run (v := .bool false) (wanted_none rfl) (exec_move rfl rfl) ?_
            simp only [Act.put, List.setIfInBounds_toArray, List.set_cons_zero, List.set_cons_succ]
            refine wpList_run (v := strV p) rfl (exec_move rfl rfl) ?_
            simp only [Act.put, List.setIfInBounds_toArray, List.set_cons_zero, List.set_cons_succ]
            refine wpList_run (v := .int .i64 (pn : Int)) rfl (by rw [HPN.out]; exact exec_slen rfl rfl) ?_
            simp only [Act.put, List.setIfInBounds_toArray, List.set_cons_zero, List.set_cons_succ]
            refine wpList_run (v := strV z.pre) rfl (exec_move rfl rfl) ?_
            simp only [Act.put, List.setIfInBounds_toArray, List.set_cons_zero, List.set_cons_succ]
            refine wpList_run (v := .int .i64 (zn : Int)) rfl (by rw [HZN.out]; exact exec_slen rfl rfl) ?_
            simp only [Act.put, List.setIfInBounds_toArray, List.set_cons_zero, List.set_cons_succ]
            refine wpList_run (v := .bool true) rfl (ix_geq rfl rfl rfl (decide_eq_true y5)) ?_
            simp only [Act.put, List.setIfInBounds_toArray, List.set_cons_zero, List.set_cons_succ]
            refine wpList_run (v := .bool true) rfl (exec_move rfl rfl) ?_
            simp only [Act.put, List.setIfInBounds_toArray, List.set_cons_zero, List.set_cons_succ]
            refine wpList_run (v := strV p) rfl (exec_move rfl rfl) ?_
            simp only [Act.put, List.setIfInBounds_toArray, List.set_cons_zero, List.set_cons_succ]
            refine wpList_run (v := strV z.pre) rfl (exec_move rfl rfl) ?_
            simp only [Act.put, List.setIfInBounds_toArray, List.set_cons_zero, List.set_cons_succ]
            refine wpList_run (v := .int .i64 (zn : Int)) rfl (by rw [HZN.out]; exact exec_slen rfl rfl) ?_
            simp only [Act.put, List.setIfInBounds_toArray, List.set_cons_zero, List.set_cons_succ]
            refine wpList_run (v := strV (p.take zn)) rfl (exec_sto rfl rfl rfl (by have := HLE.out; have := HPN.out; omega)) ?_
            simp only [Act.put, List.setIfInBounds_toArray, List.set_cons_zero, List.set_cons_succ]
            refine wpList_run (v := strV z.pre) rfl (exec_move rfl rfl) ?_
            simp only [Act.put, List.setIfInBounds_toArray, List.set_cons_zero, List.set_cons_succ]
            refine wpList_run (v := .bool true) rfl (exec_seqlr rfl rfl rfl (by rw [HZN.out, HPI.out]; exact decide_eq_true HPX.out)) ?_
            simp only [Act.put, List.setIfInBounds_toArray, List.set_cons_zero, List.set_cons_succ]
            refine wpList_run (v := .bool true) rfl (ix_pickT rfl rfl rfl) ?_
            simp only [Act.put, List.setIfInBounds_toArray, List.set_cons_zero, List.set_cons_succ]
            refine wpList_run (v := .bool true) (wanted_none rfl) (ix_pickF rfl rfl rfl) ?_
            simp only [Act.put, List.setIfInBounds_toArray, List.set_cons_zero, List.set_cons_succ]
            refine wpList_run (v := .bool true) (wanted_none rfl) (gx_assign rfl rfl) ?_
            simp only [Act.put, List.setIfInBounds_toArray, List.set_cons_zero, List.set_cons_succ]
            go_upto_region 8 with fail
            refine wp_region_lit ?_
            refine wpList_run (v := .int .i64 (i : Int)) (wanted_none rfl) (exec_move rfl rfl) ?_
            simp only [Act.put, List.setIfInBounds_toArray, List.set_cons_zero, List.set_cons_succ]
            refine wpList_run (v := .int .i64 ((i + 1 : Nat) : Int)) (wanted_none rfl) (ix_add rfl rfl rfl (by omega) (by omega)) ?_
            simp only [Act.put, List.setIfInBounds_toArray, List.set_cons_zero, List.set_cons_succ]
            refine wpList_run (v := .int .i64 ((i + 1 : Nat) : Int)) (wanted_none rfl) (gx_assign rfl rfl) ?_
            simp only [Act.put, List.setIfInBounds_toArray, List.set_cons_zero, List.set_cons_succ]
            go_wp2_with fail
            go_roundg (n - (i + 1))
            case measure => have := HGK.out; have := HLT.out; omega
            case rel => exact ⟨i + 1, true, rfl, rfl, by have := HLT.out; omega, ⟨fun _ => ⟨i, z, by omega, HZ.out, HPX.out⟩, fun _ => rfl⟩, HTR.out.trans HT4.out fun _ _ e => e⟩
          · have HPX := Lib.hid hpx
            clear hpx
            go_upto_region 14 with fail
            refine wp_region_lit ?_
            refine wpList_run (v := .bool false) (wanted_none rfl) (exec_move rfl rfl) ?_
            simp only [Act.put, List.setIfInBounds_toArray, List.set_cons_zero, List.set_cons_succ]
            refine wpList_run (v := .bool false) (wanted_none rfl) (exec_move rfl rfl) ?_
            simp only [Act.put, List.setIfInBounds_toArray, List.set_cons_zero, List.set_cons_succ]
            refine wpList_run (v := strV p) rfl (exec_move rfl rfl) ?_
            simp only [Act.put, List.setIfInBounds_toArray, List.set_cons_zero, List.set_cons_succ]
            refine wpList_run (v := .int .i64 (pn : Int)) rfl (by rw [HPN.out]; exact exec_slen rfl rfl) ?_
            simp only [Act.put, List.setIfInBounds_toArray, List.set_cons_zero, List.set_cons_succ]
            refine wpList_run (v := strV z.pre) rfl (exec_move rfl rfl) ?_
            simp only [Act.put, List.setIfInBounds_toArray, List.set_cons_zero, List.set_cons_succ]
            refine wpList_run (v := .int .i64 (zn : Int)) rfl (by rw [HZN.out]; exact exec_slen rfl rfl) ?_
            simp only [Act.put, List.setIfInBounds_toArray, List.set_cons_zero, List.set_cons_succ]
            refine wpList_run (v := .bool true) rfl (ix_geq rfl rfl rfl (decide_eq_true y5)) ?_
            simp only [Act.put, List.setIfInBounds_toArray, List.set_cons_zero, List.set_cons_succ]
            refine wpList_run (v := .bool true) rfl (exec_move rfl rfl) ?_
            simp only [Act.put, List.setIfInBounds_toArray, List.set_cons_zero, List.set_cons_succ]
            refine wpList_run (v := strV p) rfl (exec_move rfl rfl) ?_
            simp only [Act.put, List.setIfInBounds_toArray, List.set_cons_zero, List.set_cons_succ]
            refine wpList_run (v := strV z.pre) rfl (exec_move rfl rfl) ?_
            simp only [Act.put, List.setIfInBounds_toArray, List.set_cons_zero, List.set_cons_succ]
            refine wpList_run (v := .int .i64 (zn : Int)) rfl (by rw [HZN.out]; exact exec_slen rfl rfl) ?_
            simp only [Act.put, List.setIfInBounds_toArray, List.set_cons_zero, List.set_cons_succ]
            refine wpList_run (v := strV (p.take zn)) rfl (exec_sto rfl rfl rfl (by have := HLE.out; have := HPN.out; omega)) ?_
            simp only [Act.put, List.setIfInBounds_toArray, List.set_cons_zero, List.set_cons_succ]
            refine wpList_run (v := strV z.pre) rfl (exec_move rfl rfl) ?_
            simp only [Act.put, List.setIfInBounds_toArray, List.set_cons_zero, List.set_cons_succ]
            refine wpList_run (v := .bool false) rfl (exec_seqlr rfl rfl rfl (by rw [HZN.out, HPI.out]; exact decide_eq_false HPX.out)) ?_
            simp only [Act.put, List.setIfInBounds_toArray, List.set_cons_zero, List.set_cons_succ]
            refine wpList_run (v := .bool false) rfl (ix_pickT rfl rfl rfl) ?_
            simp only [Act.put, List.setIfInBounds_toArray, List.set_cons_zero, List.set_cons_succ]
            refine wpList_run (v := .bool false) (wanted_none rfl) (ix_pickF rfl rfl rfl) ?_
            simp only [Act.put, List.setIfInBounds_toArray, List.set_cons_zero, List.set_cons_succ]
            refine wpList_run (v := .bool false) (wanted_none rfl) (gx_assign rfl rfl) ?_
            simp only [Act.put, List.setIfInBounds_toArray, List.set_cons_zero, List.set_cons_succ]
            go_upto_region 8 with fail
            refine wp_region_lit ?_
            refine wpList_run (v := .int .i64 (i : Int)) (wanted_none rfl) (exec_move rfl rfl) ?_
            simp only [Act.put, List.setIfInBounds_toArray, List.set_cons_zero, List.set_cons_succ]
            refine wpList_run (v := .int .i64 ((i + 1 : Nat) : Int)) (wanted_none rfl) (ix_add rfl rfl rfl (by omega) (by omega)) ?_
            simp only [Act.put, List.setIfInBounds_toArray, List.set_cons_zero, List.set_cons_succ]
            refine wpList_run (v := .int .i64 ((i + 1 : Nat) : Int)) (wanted_none rfl) (gx_assign rfl rfl) ?_
            simp only [Act.put, List.setIfInBounds_toArray, List.set_cons_zero, List.set_cons_succ]
            go_wp2_with fail
            go_roundg (n - (i + 1))
            case measure => have := HGK.out; have := HLT.out; omega
            case rel => exact ⟨i + 1, false, rfl, rfl, by have := HLT.out; omega, ⟨fun e => (by cases e), fun ⟨j, x, hj, hx, hp⟩ => by
                rcases Nat.lt_or_ge j i with h | h
                · exact HSB.out.2 ⟨j, x, h, hx, hp⟩
                · obtain rfl : j = i := by omega
                  have e := HZ.out
                  rw [hx] at e
                  obtain rfl := Option.some.inj e
                  exact absurd hp HPX.out⟩, HTR.out.trans HT4.out fun _ _ e => e⟩
        · have HPX := Lib.hid (show ¬ z.pre <+: p from fun e => by have := e.length_le; have := HZN.out; have := HPN.out; omega)
          have y5 : ¬ (zn : Int) ≤ (pn : Int) := by omega
          clear hle
          go_upto_region 14 with fail
          rename_i K9 hK9 K8
          have HKC := Lib.hid hK9
          clear hK9
          refine wp_region_lit ?_
          refine wpList_run (v := .bool false) (wanted_none rfl) (exec_move rfl rfl) ?_
          simp only [Act.put, List.setIfInBounds_toArray, List.set_cons_zero, List.set_cons_succ]
          refine wpList_run (v := .bool false) (wanted_none rfl) (exec_move rfl rfl) ?_
          simp only [Act.put, List.setIfInBounds_toArray, List.set_cons_zero, List.set_cons_succ]
          refine wpList_run (v := strV p) rfl (exec_move rfl rfl) ?_
          simp only [Act.put, List.setIfInBounds_toArray, List.set_cons_zero, List.set_cons_succ]
          refine wpList_run (v := .int .i64 (pn : Int)) rfl (by rw [HPN.out]; exact exec_slen rfl rfl) ?_
          simp only [Act.put, List.setIfInBounds_toArray, List.set_cons_zero, List.set_cons_succ]
          refine wpList_run (v := strV z.pre) rfl (exec_move rfl rfl) ?_
          simp only [Act.put, List.setIfInBounds_toArray, List.set_cons_zero, List.set_cons_succ]
          refine wpList_run (v := .int .i64 (zn : Int)) rfl (by rw [HZN.out]; exact exec_slen rfl rfl) ?_
          simp only [Act.put, List.setIfInBounds_toArray, List.set_cons_zero, List.set_cons_succ]
          refine wpList_run (v := .bool false) rfl (ix_geq rfl rfl rfl (decide_eq_false (by omega))) ?_
          simp only [Act.put, List.setIfInBounds_toArray, List.set_cons_zero, List.set_cons_succ]
          refine wpList_run (v := .bool false) rfl (exec_move rfl rfl) ?_
          simp only [Act.put, List.setIfInBounds_toArray, List.set_cons_zero, List.set_cons_succ]
          go_wp2_with fail
          refine HKC.out _ _ ?_
          clear HKC
          go_upto_region 8 with fail
          refine wp_region_lit ?_
          refine wpList_run (v := .int .i64 (i : Int)) (wanted_none rfl) (exec_move rfl rfl) ?_
          simp only [Act.put, List.setIfInBounds_toArray, List.set_cons_zero, List.set_cons_succ]
          refine wpList_run (v := .int .i64 ((i + 1 : Nat) : Int)) (wanted_none rfl) (ix_add rfl rfl rfl (by omega) (by omega)) ?_
          simp only [Act.put, List.setIfInBounds_toArray, List.set_cons_zero, List.set_cons_succ]
          refine wpList_run (v := .int .i64 ((i + 1 : Nat) : Int)) (wanted_none rfl) (gx_assign rfl rfl) ?_
          simp only [Act.put, List.setIfInBounds_toArray, List.set_cons_zero, List.set_cons_succ]
          go_wp2_with fail
          go_roundg (n - (i + 1))
          case measure => have := HGK.out; have := HLT.out; omega
          case rel => exact ⟨i + 1, false, rfl, rfl, by have := HLT.out; omega, ⟨fun e => (by cases e), fun ⟨j, x, hj, hx, hp⟩ => by
              rcases Nat.lt_or_ge j i with h | h
              · exact HSB.out.2 ⟨j, x, h, hx, hp⟩
              · obtain rfl : j = i := by omega
                have e := HZ.out
                rw [hx] at e
                obtain rfl := Option.some.inj e
                exact absurd hp HPX.out⟩, HTR.out.trans HT4.out fun _ _ e => e⟩
    · obtain rfl : n = i := by have := HGK.out; omega
      have HSL := Lib.hid (show sb = true ↔ ∃ x ∈ L, x.1 <+: p from HSB.out.trans ⟨fun ⟨j, x, _, hx, h⟩ => ⟨x.plain, (HLM.out _).2 (by rw [HRS.out]; exact List.mem_map.2 ⟨x, List.mem_of_getElem? hx, rfl⟩), h⟩, fun ⟨y, hy, h⟩ => by
        have hy := (HLM.out _).1 hy
        rw [HRS.out] at hy
        obtain ⟨x, hx, rfl⟩ := List.mem_map.1 hy
        obtain ⟨j, hj⟩ := List.mem_iff_getElem?.1 hx
        exact ⟨j, x, by have := (List.getElem?_eq_some_iff.1 hj).1; have := HUN.out; omega, hj, h⟩⟩)
      have HFD := Lib.hid (HA.out.is HATr.out HPP.out HSL.out)
      clear hlt
      go_upto_region 7 with fail
      refine wp_region_lit ?_
      refine wpList_run (v := .int .i64 (n : Int)) (wanted_none rfl) (exec_move rfl rfl) ?_
      simp only [Act.put, List.setIfInBounds_toArray, List.set_cons_zero, List.set_cons_succ]
      refine wpList_run (v := .slice A n c) (wanted_none rfl) (exec_move rfl rfl) ?_
      simp only [Act.put, List.setIfInBounds_toArray, List.set_cons_zero, List.set_cons_succ]
      refine wpList_run (v := .int .i64 (n : Int)) (wanted_none rfl) (gx_len rfl rfl Try.underlying22) ?_
      simp only [Act.put, List.setIfInBounds_toArray, List.set_cons_zero, List.set_cons_succ]
      refine wpList_run (v := .bool false) (wanted_none rfl) (ix_lss rfl rfl rfl (decide_eq_false (by omega))) ?_
      simp only [Act.put, List.setIfInBounds_toArray, List.set_cons_zero, List.set_cons_succ]
      go_upto_region 15 with fail
      refine wp_region_lit ?_
      refine wpList_run (v := .pointer (some ⟨t, 0, none⟩)) (wanted_none rfl) (exec_move rfl rfl) ?_
      simp only [Act.put, List.setIfInBounds_toArray, List.set_cons_zero, List.set_cons_succ]
      refine wpList_run (v := strV p) (wanted_none rfl) (exec_move rfl rfl) ?_
      simp only [Act.put, List.setIfInBounds_toArray, List.set_cons_zero, List.set_cons_succ]
      refine wpList_op rfl fun K9 HK9 => ?_
      go_wp2_with fail
      refine (HFD.out).mono ?_
      rintro e w3 ⟨A7, n7, c7, rfl, ht⟩
      refine HK9.out _ _ ?_
      clear HK9
      try simp only [Act.put, List.setIfInBounds_toArray, List.set_cons_zero, List.set_cons_succ]
      have HT3 := Lib.hid ((HT2.out.trans HTR.out fun _ _ e => e).trans ht fun _ _ e => e)
      have HLG := Lib.hid (HA.out.long (HA.out.still HATr.out ht) HLN.out)
      clear ht HFD
      refine wpList_run (v := .tuple #[.slice A7 n7 c7, .bool sb]) (wanted_none rfl) (exec_move rfl rfl) ?_
      simp only [Act.put, List.setIfInBounds_toArray, List.set_cons_zero, List.set_cons_succ]
      refine wpList_run (v := .slice A7 n7 c7) (wanted_none rfl) (ix_extract rfl rfl rfl) ?_
      simp only [Act.put, List.setIfInBounds_toArray, List.set_cons_zero, List.set_cons_succ]
      refine wpList_run (v := .bool sb) (wanted_none rfl) (ix_extract rfl rfl rfl) ?_
      simp only [Act.put, List.setIfInBounds_toArray, List.set_cons_zero, List.set_cons_succ]
      refine wpList_run (v := .slice A7 n7 c7) (wanted_none rfl) (gx_assign rfl rfl) ?_
      simp only [Act.put, List.setIfInBounds_toArray, List.set_cons_zero, List.set_cons_succ]
      refine wpList_run (v := .bool sb) (wanted_none rfl) (gx_assign rfl rfl) ?_
      simp only [Act.put, List.setIfInBounds_toArray, List.set_cons_zero, List.set_cons_succ]
      go_upto_region 16 with fail
      refine wp_region_lit ?_
      refine wpList_run (v := .bool sb) (wanted_none rfl) (exec_move rfl rfl) ?_
      simp only [Act.put, List.setIfInBounds_toArray, List.set_cons_zero, List.set_cons_succ]
      refine wpList_run (v := .bool sb) (wanted_none rfl) (exec_move rfl rfl) ?_
      simp only [Act.put, List.setIfInBounds_toArray, List.set_cons_zero, List.set_cons_succ]
      refine wpList_run (v := .bool true) (wanted_none rfl) (bx_eqb rfl rfl rfl (by simp) rfl) ?_
      simp only [Act.put, List.setIfInBounds_toArray, List.set_cons_zero, List.set_cons_succ]
      refine wpList_run (v := .bool true) (wanted_none rfl) (exec_move rfl rfl) ?_
      simp only [Act.put, List.setIfInBounds_toArray, List.set_cons_zero, List.set_cons_succ]
      refine wpList_run (v := .pointer (some ⟨t, 0, none⟩)) rfl (exec_move rfl rfl) ?_
      simp only [Act.put, List.setIfInBounds_toArray, List.set_cons_zero, List.set_cons_succ]
      refine wpList_op rfl fun K9 HK9 => ?_
      go_wp2_with fail
      refine (HLG.out).mono ?_
      rintro e w4 ⟨A8, c8, rfl, ht⟩
      refine HK9.out _ _ ?_
      clear HK9
      try simp only [Act.put, List.setIfInBounds_toArray, List.set_cons_zero, List.set_cons_succ]
      have HT4 := Lib.hid (HT3.out.trans ht fun _ _ e => e)
      clear ht HLG
      refine wpList_run (v := .int .i64 (n : Int)) rfl (gx_len rfl rfl Try.underlying22) ?_
      simp only [Act.put, List.setIfInBounds_toArray, List.set_cons_zero, List.set_cons_succ]
      refine wpList_run (v := .slice A n c) rfl (exec_move rfl rfl) ?_
      simp only [Act.put, List.setIfInBounds_toArray, List.set_cons_zero, List.set_cons_succ]
      refine wpList_run (v := .int .i64 (n : Int)) rfl (gx_len rfl rfl Try.underlying22) ?_
      simp only [Act.put, List.setIfInBounds_toArray, List.set_cons_zero, List.set_cons_succ]
      refine wpList_run (v := .bool true) rfl (ix_eql rfl rfl rfl (decide_eq_true rfl)) ?_
      simp only [Act.put, List.setIfInBounds_toArray, List.set_cons_zero, List.set_cons_succ]
      refine wpList_run (v := .bool true) (wanted_none rfl) (ix_pickT rfl rfl rfl) ?_
      simp only [Act.put, List.setIfInBounds_toArray, List.set_cons_zero, List.set_cons_succ]
      refine wpList_run (v := .bool true) (wanted_none rfl) (gx_assign rfl rfl) ?_
      simp only [Act.put, List.setIfInBounds_toArray, List.set_cons_zero, List.set_cons_succ]
      go_wp2_with fail
      go_ret
      exact ⟨rfl, HT4.out⟩
  · obtain ⟨E, hE⟩ : ∃ x, x = Rt.newE 6 [] rs := ⟨_, rfl⟩
    rw [← hE] at he
    have HNE := Lib.hid he
    have HNW := Lib.hid (HA.out.new_bad (m := 6) (E := E) (c := c) HU1.out HRM.out ⟨by omega, by omega⟩ (by rw [← HRS.out]; exact hE) he)
    clear he hE
    go_upto_region 2 with fail
    refine wp_region_lit ?_
    refine wpList_run (v := .slice A n c) (wanted_none rfl) (exec_move rfl rfl) ?_
    simp only [Act.put, List.setIfInBounds_toArray, List.set_cons_zero, List.set_cons_succ]
    refine wpList_op rfl fun K9 HK9 => ?_
    go_wp2_with fail
    refine (HNW.out).mono ?_
    rintro e w2 ⟨rfl, ht⟩
    refine HK9.out _ _ ?_
    clear HK9
    try simp only [Act.put, List.setIfInBounds_toArray, List.set_cons_zero, List.set_cons_succ]
    have HT2 := Lib.hid (HT1.out.trans ht fun _ _ e => e)
    clear ht HNW
    refine wpList_run (v := .tuple #[.pointer none, .int .i64 E]) (wanted_none rfl) (exec_move rfl rfl) ?_
    simp only [Act.put, List.setIfInBounds_toArray, List.set_cons_zero, List.set_cons_succ]
    refine wpList_run (v := .pointer none) (wanted_none rfl) (ix_extract rfl rfl rfl) ?_
    simp only [Act.put, List.setIfInBounds_toArray, List.set_cons_zero, List.set_cons_succ]
    refine wpList_run (v := .int .i64 E) (wanted_none rfl) (ix_extract rfl rfl rfl) ?_
    simp only [Act.put, List.setIfInBounds_toArray, List.set_cons_zero, List.set_cons_succ]
    refine wpList_run (v := .pointer none) (wanted_none rfl) (gx_assign rfl rfl) ?_
    simp only [Act.put, List.setIfInBounds_toArray, List.set_cons_zero, List.set_cons_succ]
    refine wpList_run (v := .int .i64 E) (wanted_none rfl) (gx_assign rfl rfl) ?_
    simp only [Act.put, List.setIfInBounds_toArray, List.set_cons_zero, List.set_cons_succ]
    go_upto_region 3 with fail
    refine wp_region_lit ?_
    refine wpList_run (v := .bool true) (wanted_none rfl) (exec_move rfl rfl) ?_
    simp only [Act.put, List.setIfInBounds_toArray, List.set_cons_zero, List.set_cons_succ]
    refine wpList_run (v := .bool false) (wanted_none rfl) (ix_not (b := true) rfl rfl) ?_
    simp only [Act.put, List.setIfInBounds_toArray, List.set_cons_zero, List.set_cons_succ]
    refine wpList_run (v := .bool false) (wanted_none rfl) (exec_move rfl rfl) ?_
    simp only [Act.put, List.setIfInBounds_toArray, List.set_cons_zero, List.set_cons_succ]
    refine wpList_run (v := .int .i64 E) rfl (exec_move rfl rfl) ?_
    simp only [Act.put, List.setIfInBounds_toArray, List.set_cons_zero, List.set_cons_succ]
    refine wpList_run (v := .bool true) rfl (ix_neq rfl rfl rfl (decide_eq_true HNE.out)) ?_
    simp only [Act.put, List.setIfInBounds_toArray, List.set_cons_zero, List.set_cons_succ]
    refine wpList_run (v := .bool true) (wanted_none rfl) (ix_pickF rfl rfl rfl) ?_
    simp only [Act.put, List.setIfInBounds_toArray, List.set_cons_zero, List.set_cons_succ]
    go_upto_region 4 with fail
    refine wp_region_lit ?_
    refine wpList_run (v := .bool true) (wanted_none rfl) (exec_move rfl rfl) ?_
    simp only [Act.put, List.setIfInBounds_toArray, List.set_cons_zero, List.set_cons_succ]
    refine wpList_run (v := .bool true) (wanted_none rfl) (gx_assign rfl rfl) ?_
    simp only [Act.put, List.setIfInBounds_toArray, List.set_cons_zero, List.set_cons_succ]
    go_wp2_with fail
    go_ret
    exact ⟨rfl, HT2.out⟩
end
end Go.Proofs.Ytihmpbilbnajpaa
