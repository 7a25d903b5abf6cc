/-
  Several texts in one file, in their order:
  - message's takeMap. Conditions: the tables and the errors read as the program's text lays them.
  - message's takeFields: its first loop (the forms). Conditions: the tables and the errors read as the program's text lays them; at most 200 numbers.
  - message's takeFields. Conditions: the tables and the errors read as the program's text lays them; at most 200 numbers.
  - message's decode. Conditions: the tables and the errors read as the program's text lays them.
  - message's Decode. Conditions: the tables and the errors read as the program's text lays them.
  - The reference's tests of bytes and texts. No conditions.
  - The reference's right. No conditions.
  - The reference's Same.
  - FROM THE CARD's LIST TO THE ROWS' CELLS: where field's rows read as the program's text lays them, their cells hold their strings.
  - FROM THE CARD's LIST TO THE TABLE OF POWERS. No conditions of its own.
  - FROM THE CARD's LIST TO THE WALKS' FACTS: where the listed variables read as the program's text lays them, the errors are nine places of their own, and the tables hold their numbers and texts. No further conditions.
  - A message that came in, opened to its fields. Its conditions are those of the reading of an argument.
  - 'There is an input that fits', at a world that is laid by a function. No conditions.
  - 'There is an input that fits', at a world that is laid by a function, with the handle of a type among the laid variables. No conditions.
  - How many fields a message that came in may have. Its conditions are those of the reading of an argument.
  - Fields in a row of the call's own, that grows. No conditions.
  - Fields set into the middle of a row: copies of cells from row to row. No conditions.
  - Operations in general, more of them: a new variable that is stored into at once, slices built of some elements, worlds one behind the other. No conditions; it imports nothing of the program.
  - slices.Insert of one field into a row of fields of the call's own. No conditions.
  - slices.Insert of one field into a row of fields of the call's own: the walk. No conditions.
  - The reference's Check, and general parts. Conditions: the rows read as the program's text lays them.
-/
import Derived.Test.YticofobhkmabiaaGreatDoorJa2
import Derived.Test.YticofobhkmabiaaGreatDoorJa1
import Derived.Test.YticofobhkmabiaaGreatDoorRows
import Derived.Test.YticofobhkmabiaaGreatDoorJa0
import Derived.LaidSub
import Derived.MakeChecks
import Derived.Lib.SmallJoins
import Derived.Lib.LaidTab
import Derived.OpenShut
import Derived.Stop.LaidTwo
import Derived.Deep.Slices
import Derived.Deep.SlicePairs
import Derived.SizedLaws
import Derived.WalkKit
import Derived.ProofKit
import Derived.Lay
import Derived.LaidMore
import Derived.Deep.DeepHandedRow
import Derived.Stop.Joined
import Derived.LaidHandle
import Derived.Laws.CopyRow
import Derived.Lib.AppendZerosOnto
import Derived.Lib.Overlaps
import Derived.Laws.Externs
namespace Go.Proofs.YticofobhkmabiaaGreatDoor
open Go.RowKit
open Fdd
set_option linter.unusedVariables false
set_option linter.unusedSimpArgs false
theorem irow_base {w : World} {B B' : Nat} {v : Value} {l : List Int} (h : IRow w B v l) (hB : B' ≤ B) : IRow w B' v l := by
  refine ⟨h.1, ?_⟩
  rcases h.2 with h0 | ⟨g, cap, cur, rfl, hb1, rest⟩
  · exact .inl h0
  · exact .inr ⟨g, cap, cur, rfl, Nat.le_trans hB hb1, rest⟩
theorem irow_turn {w w' : World} {B : Nat} {v : Value} {l : List Int} {F : Nat → Prop} (h : IRow w B v l) (ht : Turn F w w') (hF : ∀ k, v.ownBlock = some k → ¬ F k) : IRow w' B v l := by
  refine ⟨h.1, ?_⟩
  rcases h.2 with h0 | ⟨g, cap, cur, rfl, hb1, hgg, rest⟩
  · exact .inl h0
  · exact .inr ⟨g, cap, cur, rfl, hb1, (ht.block g (Array.getElem?_eq_some_iff.1 hgg).1 (hF g rfl)).trans hgg, rest⟩
def MapP (s : Sents) (g d : Nat) (r : Except Int (List Int × List UInt8)) (w0 w : World) (e : Ending) (w' : World) : Prop :=
  (match r with
    | .ok (l, rest) => ∃ A c, e = .returned (.tuple #[.slice A l.length c, .nilIface]) ∧ IRow w' w0.heap.size (.slice A l.length c) l ∧ Rd w0 w' g d rest
    | .error k => ∃ v, e = .returned (.tuple #[.slice none 0 0, v]) ∧ ErrV s v k ∧ k ≠ 0) ∧ Turn (only g) w w' ∧ Turn nowhere w0 w'
theorem half_lt {d h : Nat} {b rest : List UInt8} (hd : 1 ≤ d ∧ d ≤ 3) (hk : takeHalf d b = .ok (h, rest)) : h < 2 ^ 64 := (takeHalf_one hd hk).2
theorem and_top {h : Nat} : h &&& 2 ^ 63 = if h.testBit 63 = true then 2 ^ 63 else 0 := by
  refine Nat.eq_of_testBit_eq fun i => ?_
  rw [Nat.testBit_and, Nat.testBit_two_pow]
  by_cases hi : 63 = i
  · subst hi
    cases hb : h.testBit 63
    · simp
    · rw [if_pos rfl, Nat.testBit_two_pow]
      simp
  · cases hb : h.testBit 63
    · simp [hi]
    · rw [if_pos rfl, Nat.testBit_two_pow]
      simp [hi]
set_option maxRecDepth 20000 in
set_option maxHeartbeats 1000000 in
theorem takeMap_walk {s : Sents} {w0 w : World} {g d : Nat} {b : List UInt8} (hd : 1 ≤ d ∧ d ≤ 3) (he : Env s w0) (h0 : Turn nowhere w0 w) (hg0 : w0.heap.size ≤ g) (hr : Rd w0 w g d b) :
    Calls Tryz.prog 51 #[.pointer (some ⟨g, 0, none⟩)] w (MapP s g d (takeMap d b) w0 w) := by
  have HD := Lib.hid hd
  have HE := Lib.hid he
  have H0 := Lib.hid h0
  have HG0 := Lib.hid hg0
  have hb1 := takeBits_walk (s := s) hd he h0 hg0 hr
  cases hk : takeHalf d b with
  | error k =>
    rw [hk] at hb1
    have HB1 := Lib.hid hb1
    have HF := Lib.hid (show takeMap d b = .error k from by unfold takeMap; rw [hk])
    clear hd he h0 hg0 hr hk hb1
    go_enter Tryz.func51, Tryz.ntmps51
    go_upto_region 1 with fail
    refine wp_region_lit ?_
    refine wR (v := .pointer (some ⟨g, 0, none⟩)) rfl (exec_move rfl rfl) ?_
    simp only [Act.put, zzA, zz0, zz1]
    refine wpList_op rfl fun K9 HK9 => ?_
    go_wp2_with fail
    refine (HB1.out).mono ?_
    rintro e w1 ⟨⟨v, rfl, hv, hk0⟩, ho1, h1⟩
    refine HK9.out _ _ ?_
    clear HK9
    try simp only [Act.put, zzA, zz0, zz1]
    have HV := Lib.hid hv
    have HK0 := Lib.hid hk0
    have HO1 := Lib.hid ho1
    have H1 := Lib.hid h1
    obtain ⟨t9, x9, rfl⟩ := errV_some hv hk0
    clear hv hk0 ho1 h1
    refine wR (v := .tuple #[.int .u64 0, .iface t9 x9]) rfl (exec_move rfl rfl) ?_
    simp only [Act.put, zzA, zz0, zz1]
    refine wR (v := .int .u64 0) rfl (ix_extract rfl rfl rfl) ?_
    simp only [Act.put, zzA, zz0, zz1]
    refine wR (v := .iface t9 x9) rfl (ix_extract rfl rfl rfl) ?_
    simp only [Act.put, zzA, zz0, zz1]
    refine wR (v := .int .u64 0) rfl (gx_assign rfl rfl) ?_
    simp only [Act.put, zzA, zz0, zz1]
    refine wR (v := .iface t9 x9) rfl (gx_assign rfl rfl) ?_
    simp only [Act.put, zzA, zz0, zz1]
    go_wp2_with fail
    go_ret2
    unfold MapP
    rw [HF.out]
    exact ⟨⟨_, rfl, HV.out, HK0.out⟩, HO1.out, H1.out⟩
  | ok p =>
    obtain ⟨h, r1⟩ := p
    rw [hk] at hb1
    have HB1 := Lib.hid hb1
    have HL := Lib.hid (half_lt hd hk)
    have HF := Lib.hid (show takeMap d b = if h.testBit 63 = false then .ok (nums h 0, r1) else match takeHalf d r1 with
      | .error e => .error e
      | .ok (h2, r2) => if h2 = 0 then .error 53 else .ok (nums (h % 2 ^ 63) 0 ++ nums h2 64, r2) from by unfold takeMap; rw [hk]; rfl)
    clear hd he h0 hg0 hr hk hb1
    go_enter Tryz.func51, Tryz.ntmps51
    go_upto_region 1 with fail
    refine wp_region_lit ?_
    refine wR (v := .pointer (some ⟨g, 0, none⟩)) rfl (exec_move rfl rfl) ?_
    simp only [Act.put, zzA, zz0, zz1]
    refine wpList_op rfl fun K9 HK9 => ?_
    go_wp2_with fail
    refine (HB1.out).mono ?_
    rintro e w1 ⟨⟨rfl, hr1⟩, ho1, h1⟩
    refine HK9.out _ _ ?_
    clear HK9
    try simp only [Act.put, zzA, zz0, zz1]
    have HR1 := Lib.hid hr1
    have HO1 := Lib.hid ho1
    have H1 := Lib.hid h1
    clear hr1 ho1 h1 HB1
    refine wR (v := .tuple #[.int .u64 (h : Int), .nilIface]) rfl (exec_move rfl rfl) ?_
    simp only [Act.put, zzA, zz0, zz1]
    refine wR (v := .int .u64 (h : Int)) rfl (ix_extract rfl rfl rfl) ?_
    simp only [Act.put, zzA, zz0, zz1]
    refine wR (v := .nilIface) rfl (ix_extract rfl rfl rfl) ?_
    simp only [Act.put, zzA, zz0, zz1]
    refine wR (v := .int .u64 (h : Int)) rfl (gx_assign rfl rfl) ?_
    simp only [Act.put, zzA, zz0, zz1]
    refine wR (v := .nilIface) rfl (gx_assign rfl rfl) ?_
    simp only [Act.put, zzA, zz0, zz1]
    go_upto_region 4 with fail
    refine wp_region_lit ?_
    refine wR (v := .int .u64 (h : Int)) rfl (exec_move rfl rfl) ?_
    simp only [Act.put, zzA, zz0, zz1]
    refine wpList_op rfl fun K9 HK9 => ?_
    go_wp2_with fail
    refine (bit_walk (n := 1) (by decide)).mono ?_
    rintro e w1 ⟨rfl, rfl⟩
    refine HK9.out _ _ ?_
    clear HK9
    try simp only [Act.put, zzA, zz0, zz1]
    obtain ⟨q, hq⟩ : ∃ q, q = h &&& 2 ^ 63 := ⟨_, rfl⟩
    have HQ := Lib.hid hq
    have HQA := Lib.hid (show q = if h.testBit 63 = true then 2 ^ 63 else 0 from by rw [hq]; exact and_top)
    clear hq
    refine wR (v := .int .u64 (q : Int)) rfl (ux_and (m := 2 ^ 63) rfl rfl rfl HL.out (by decide) HQ.out.symm) ?_
    simp only [Act.put, zzA, zz0, zz1]
    cases hb : h.testBit 63 with
    | false =>
      have hq0 : q = 0 := by rw [HQA.out, hb]; rfl
      subst hq0
      have HF2 := Lib.hid (show takeMap d b = .ok (nums h 0, r1) from by rw [HF.out, if_pos hb])
      refine wR (v := .bool true) rfl (ux_eql (m := 0) rfl rfl rfl rfl) ?_
      simp only [Act.put, zzA, zz0, zz1]
      clear hb HF HQ HQA
      go_upto_region 5 with fail
      refine wp_region_lit ?_
      refine wR (v := .int .u64 (h : Int)) rfl (exec_move rfl rfl) ?_
      simp only [Act.put, zzA, zz0, zz1]
      refine wpList_op rfl fun K9 HK9 => ?_
      go_wp2_with fail
      refine (numbers_walk (a := 0) HL.out (by decide)).mono ?_
      rintro e w2 ⟨A2, c2, rfl, hrow, ht2⟩
      refine HK9.out _ _ ?_
      clear HK9
      try simp only [Act.put, zzA, zz0, zz1]
      have HRW := Lib.hid (irow_base hrow H1.out.size)
      have HT2 := Lib.hid ht2
      clear hrow ht2
      refine wR (v := .slice A2 (nums h 0).length c2) rfl (gx_assign rfl rfl) ?_
      simp only [Act.put, zzA, zz0, zz1]
      refine wR (v := .nilIface) rfl (gx_assign rfl rfl) ?_
      simp only [Act.put, zzA, zz0, zz1]
      go_wp2_with fail
      go_ret2
      unfold MapP
      rw [HF2.out]
      exact ⟨⟨_, _, rfl, HRW.out, HR1.out.still HT2.out⟩, only_still HO1.out HT2.out, H1.out.next HT2.out⟩
    | true =>
      have hq0 : q = 2 ^ 63 := by rw [HQA.out, hb]; rfl
      have HF2 := Lib.hid (show takeMap d b = match takeHalf d r1 with
        | .error e => .error e
        | .ok (h2, r2) => if h2 = 0 then .error 53 else .ok (nums (h % 2 ^ 63) 0 ++ nums h2 64, r2) from by rw [HF.out, if_neg (by rw [hb]; decide)])
      have HGE := Lib.hid (show 2 ^ 63 ≤ h from Nat.ge_two_pow_of_testBit hb)
      refine wR (v := .bool false) rfl (ux_eql (m := 0) rfl rfl rfl (by rw [hq0]; rfl)) ?_
      simp only [Act.put, zzA, zz0, zz1]
      clear hb hq0 HF HQ HQA
      have hb2 := takeBits_walk (s := s) HD.out HE.out H1.out HG0.out HR1.out
      go_upto_region 6 with fail
      refine wp_region_lit ?_
      refine wR (v := .pointer (some ⟨g, 0, none⟩)) rfl (exec_move rfl rfl) ?_
      simp only [Act.put, zzA, zz0, zz1]
      cases hk2 : takeHalf d r1 with
      | error k =>
        rw [hk2] at hb2
        have HB2 := Lib.hid hb2
        have HF3 := Lib.hid (show takeMap d b = .error k from by rw [HF2.out, hk2])
        clear hk2 hb2
        refine wpList_op rfl fun K9 HK9 => ?_
        go_wp2_with fail
        refine (HB2.out).mono ?_
        rintro e w2 ⟨⟨v, rfl, hv, hk0⟩, ho2, h2⟩
        refine HK9.out _ _ ?_
        clear HK9
        try simp only [Act.put, zzA, zz0, zz1]
        have HV := Lib.hid hv
        have HK0 := Lib.hid hk0
        have HO2 := Lib.hid (only_trans HO1.out ho2)
        have H2 := Lib.hid h2
        obtain ⟨t9, x9, rfl⟩ := errV_some hv hk0
        clear hv hk0 ho2 h2
        refine wR (v := .tuple #[.int .u64 0, .iface t9 x9]) rfl (exec_move rfl rfl) ?_
        simp only [Act.put, zzA, zz0, zz1]
        refine wR (v := .int .u64 0) rfl (ix_extract rfl rfl rfl) ?_
        simp only [Act.put, zzA, zz0, zz1]
        refine wR (v := .iface t9 x9) rfl (ix_extract rfl rfl rfl) ?_
        simp only [Act.put, zzA, zz0, zz1]
        refine wR (v := .int .u64 0) rfl (gx_assign rfl rfl) ?_
        simp only [Act.put, zzA, zz0, zz1]
        refine wR (v := .iface t9 x9) rfl (gx_assign rfl rfl) ?_
        simp only [Act.put, zzA, zz0, zz1]
        go_wp2_with fail
        go_ret2
        unfold MapP
        rw [HF3.out]
        exact ⟨⟨_, rfl, HV.out, HK0.out⟩, HO2.out, H2.out⟩
      | ok p2 =>
        obtain ⟨h2n, r2⟩ := p2
        rw [hk2] at hb2
        have HB2 := Lib.hid hb2
        have HL2 := Lib.hid (half_lt HD.out hk2)
        have HF3 := Lib.hid (show takeMap d b = if h2n = 0 then .error 53 else .ok (nums (h % 2 ^ 63) 0 ++ nums h2n 64, r2) from by rw [HF2.out, hk2])
        clear hk2 hb2
        refine wpList_op rfl fun K9 HK9 => ?_
        go_wp2_with fail
        refine (HB2.out).mono ?_
        rintro e w2 ⟨⟨rfl, hr2⟩, ho2, h2⟩
        refine HK9.out _ _ ?_
        clear HK9
        try simp only [Act.put, zzA, zz0, zz1]
        have HR2 := Lib.hid hr2
        have HO2 := Lib.hid (only_trans HO1.out ho2)
        have H2 := Lib.hid h2
        clear hr2 ho2 h2 HB2 HR1 HO1
        refine wR (v := .tuple #[.int .u64 (h2n : Int), .nilIface]) rfl (exec_move rfl rfl) ?_
        simp only [Act.put, zzA, zz0, zz1]
        refine wR (v := .int .u64 (h2n : Int)) rfl (ix_extract rfl rfl rfl) ?_
        simp only [Act.put, zzA, zz0, zz1]
        refine wR (v := .nilIface) rfl (ix_extract rfl rfl rfl) ?_
        simp only [Act.put, zzA, zz0, zz1]
        refine wR (v := .int .u64 (h2n : Int)) rfl (gx_assign rfl rfl) ?_
        simp only [Act.put, zzA, zz0, zz1]
        refine wR (v := .nilIface) rfl (gx_assign rfl rfl) ?_
        simp only [Act.put, zzA, zz0, zz1]
        by_cases hz : h2n = 0
        · have HF4 := Lib.hid (show takeMap d b = .error 53 from by rw [HF3.out, if_pos hz])
          have y1 : (h2n : Int) = 0 := by omega
          have g4 : w2.cell? ⟨3, 0, none⟩ = some (errS s.map) := (HE.out.turn H2.out).sen.map.1
          clear hz
          go_upto_region 10 with fail
          have hS0 : w2.drew.cell? ⟨3, 0, none⟩ = some (errS s.map) := g4
          have H5 : Hid (Turn nowhere w0 w2.drew) := Lib.hid H2.out.drew
          have HO5 : Hid (Turn (only g) w w2.drew) := Lib.hid HO2.out.drew
          clear HR2 g4 H2 HO2
          refine wp_region_alw (fun W => W.cell? ⟨3, 0, none⟩ = some (errS s.map)) (by kernel_rfl) ?_
          generalize w2.drew = w5 at *
          refine alw_take (i := 0) (v := errS s.map) rfl (by kernel_rfl) (by kernel_rfl) (fun _ _ _ h => h) (.inl ⟨by rfl, fun W hW => exec_load1 rfl rfl (by kernel_rfl) hW⟩) hS0 ?_
          simp only [Act.put, zzA, zz0, zz1]
          refine alw_take (i := 1) (v := .slice none 0 0) rfl (by kernel_rfl) (by kernel_rfl) (fun _ _ _ h => h) (.inl ⟨by rfl, fun W hW => gx_assign rfl rfl⟩) hS0 ?_
          simp only [Act.put, zzA, zz0, zz1]
          refine alw_take (i := 2) (v := errS s.map) rfl (by kernel_rfl) (by kernel_rfl) (fun _ _ _ h => h) (.inl ⟨by rfl, fun W hW => gx_assign rfl rfl⟩) hS0 ?_
          simp only [Act.put, zzA, zz0, zz1]
          refine alw_done rfl ?_
          clear hS0
          refine NoPanic.normal ?_
          go_wp2_with fail
          go_ret2
          unfold MapP
          rw [HF4.out]
          exact ⟨⟨_, rfl, ErrV.map, by decide⟩, HO5.out, H5.out⟩
        · have HF4 := Lib.hid (show takeMap d b = .ok (nums (h % 2 ^ 63) 0 ++ nums h2n 64, r2) from by rw [HF3.out, if_neg hz])
          have y1 : ¬ ((h2n : Int) = 0) := by omega
          have HNN := Lib.hid (show nums h2n 64 ≠ [] from by
            obtain ⟨L, _, hL, a1, a2⟩ := bitLen_rng hz HL2.out
            rw [nums_top (a := 64) hL a1 a2]
            exact fun h => by cases h)
          clear hz
          go_upto_region 11 with fail
          refine wp_region_lit ?_
          refine wR (v := .int .u64 (h : Int)) rfl (exec_move rfl rfl) ?_
          simp only [Act.put, zzA, zz0, zz1]
          refine wpList_op rfl fun K9 HK9 => ?_
          go_wp2_with fail
          refine (bit_walk (n := 1) (by decide)).mono ?_
          rintro e w2 ⟨rfl, rfl⟩
          refine HK9.out _ _ ?_
          clear HK9
          try simp only [Act.put, zzA, zz0, zz1]
          obtain ⟨q9, hq9⟩ : ∃ q9, q9 = h % 2 ^ 63 := ⟨_, rfl⟩
          have HQ9 := Lib.hid (show h &&& (18446744073709551615 - 2 ^ 63) = q9 from by rw [hq9]; exact andNot_top (by decide) HGE.out HL.out HL.out)
          have HQL := Lib.hid (show q9 < 2 ^ 64 from by rw [hq9]; omega)
          rw [← hq9] at HF4
          clear hq9
          refine wR (v := .int .u64 (q9 : Int)) rfl (ux_andNot (m := 2 ^ 63) rfl rfl rfl HL.out (by decide) HQ9.out) ?_
          simp only [Act.put, zzA, zz0, zz1]
          refine wpList_op rfl fun K9 HK9 => ?_
          go_wp2_with fail
          refine (numbers_walk (a := 0) HQL.out (by decide)).mono ?_
          rintro e w3 ⟨A3, c3, rfl, hrow3, ht3⟩
          refine HK9.out _ _ ?_
          clear HK9
          try simp only [Act.put, zzA, zz0, zz1]
          have HRW3 := Lib.hid hrow3
          have HT3 := Lib.hid ht3
          clear hrow3 ht3
          refine wR (v := .int .u64 (h2n : Int)) rfl (exec_move rfl rfl) ?_
          simp only [Act.put, zzA, zz0, zz1]
          refine wpList_op rfl fun K9 HK9 => ?_
          go_wp2_with fail
          refine (numbers_walk (a := 64) HL2.out (by decide)).mono ?_
          rintro e w4 ⟨A4, c4, rfl, hrow4, ht4⟩
          refine HK9.out _ _ ?_
          clear HK9
          try simp only [Act.put, zzA, zz0, zz1]
          have HRW4 := Lib.hid hrow4
          have HRW34 := Lib.hid (irow_turn HRW3.out ht4 (fun _ _ e=>e))
          have HT4 := Lib.hid (HT3.out.next ht4)
          clear hrow4 ht4
          obtain ⟨l3, hl3⟩ : ∃ l3, l3 = nums q9 0 := ⟨_, rfl⟩
          obtain ⟨l4, hl4⟩ : ∃ l4, l4 = nums h2n 64 := ⟨_, rfl⟩
          have HLS := Lib.hid (show l3.length + l4.length ≤ 1000 from by
            have a1 := nums_len q9 0
            have a2 := nums_len h2n 64
            rw [hl3, hl4]
            omega)
          rw [← hl3] at HF4 HRW3 HRW34 ⊢
          rw [← hl4] at HF4 HRW4 HNN ⊢
          clear hl3 hl4
          have hform : ∃ g4, A4 = some ⟨g4, 0, none⟩ := by
            rcases HRW4.out.2 with ⟨e, h0⟩ | ⟨g4, cap, cur, e, _⟩
            · exact absurd (List.eq_nil_of_length_eq_zero h0) HNN.out
            · injection e with e _ _
              exact ⟨g4, e⟩
          obtain ⟨g4, rfl⟩ := hform
          have hap := ints_append (W1 := w2) (w := w4) (ty := 63) (c := c4) (m := l4.length) (news := l4) (A := ⟨g4, 0, none⟩) HRW34.out HT4.out rfl (fun j u hj => World.ownsRow.cells (g := g4) HRW4.out rfl j u hj) HLS.out
          obtain ⟨A5, c5, w5, hrun, hrow5, ht5⟩ := hap
          have HRUN := Lib.hid hrun
          have HRW5 := Lib.hid (irow_base hrow5 H2.out.size)
          have HT5 := Lib.hid ht5
          clear hrun hrow5 ht5
          refine wR (v := .slice A5 (l3.length + l4.length) c5) (w' := w5) rfl (exec_append rfl rfl rfl HRUN.out) ?_
          simp only [Act.put, zzA, zz0, zz1]
          refine wR (v := .slice A5 (l3.length + l4.length) c5) rfl (gx_assign rfl rfl) ?_
          simp only [Act.put, zzA, zz0, zz1]
          refine wR (v := .nilIface) rfl (gx_assign rfl rfl) ?_
          simp only [Act.put, zzA, zz0, zz1]
          clear HRUN
          go_wp2_with fail
          go_ret2
          unfold MapP
          rw [HF4.out]
          have HLN : (l3 ++ l4).length = l3.length + l4.length := List.length_append
          simp only []
          rw [HLN]
          exact ⟨⟨_, _, rfl, HRW5.out, HR2.out.still HT5.out⟩, only_still HO2.out HT5.out, H2.out.next HT5.out⟩
end Go.Proofs.YticofobhkmabiaaGreatDoor
namespace Go.Proofs.YticofobhkmabiaaGreatDoor
open Go.RowKit
open Fdd
set_option linter.unusedVariables false
set_option linter.unusedSimpArgs false
theorem make_forms (n : Nat) (hn : n ≤ 200) (w : World) : (Instr.makeSlice 140 (.int .i64 (n : Int)) (.int .i64 (n : Int))).run Tryz.prog w = .ok (.slice (some ⟨w.heap.size, 0, none⟩) n n) (w.alloc (.cells (madeCells #[.int .i64 0, .int .i64 0, .int .i64 0] (n * 3)) 49)) := by
  have hi : (Tryz.prog.info? 49).map (fun i => (i.zero, i.size, i.bytes)) = some (some (.agg #[.int .i64 0, .int .i64 0, .int .i64 0]), 3, 24) := by kernel_rfl
  obtain ⟨j0, hj0, hjz, hj1, hj2⟩ := info_parts hi
  have h := run_makeSlice (P := Tryz.prog) w 140 49 j0 _ Tryz.underlying140 hj0 hjz .i64 .i64 (n : Int) (n : Int) (by omega) (by omega) (by rw [hj1]; omega) (by rw [hj2]; omega) (by omega)
  rw [h, hj1]
  rfl
theorem make_fields (n : Nat) (hn : n ≤ 200) (w : World) : (Instr.makeSlice 22 (.int .i64 (n : Int)) (.int .i64 (n : Int))).run Tryz.prog w = .ok (.slice (some ⟨w.heap.size, 0, none⟩) n n) (w.alloc (.cells (madeCells #[.int .i64 0, strV []] (n * 2)) 40)) := by
  have hi : (Tryz.prog.info? 40).map (fun i => (i.zero, i.size, i.bytes)) = some (some (.agg #[.int .i64 0, strV []]), 2, 24) := by kernel_rfl
  obtain ⟨j0, hj0, hjz, hj1, hj2⟩ := info_parts hi
  have h := run_makeSlice (P := Tryz.prog) w 22 40 j0 _ Tryz.underlying22 hj0 hjz .i64 .i64 (n : Int) (n : Int) (by omega) (by omega) (by rw [hj1]; omega) (by rw [hj2]; omega) (by omega)
  rw [h, hj1]
  rfl
/-- forms in a row, the first of them set -/
def Fms (w : World) (gf d n : Nat) (l : List Int) (j : Nat) : Prop := ∃ C, Blk w gf 49 C ∧ C.size = n * 3 ∧ ∀ i no, i < j → l[i]? = some no → ∃ m, mform d no = some m ∧ C[i * 3]? = some (.int .i64 m.kind) ∧ C[i * 3 + 1]? = some (.int .i64 m.size) ∧ C[i * 3 + 2]? = some (.int .i64 m.code)
theorem Fms.turn {w w' : World} {gf d n j : Nat} {l : List Int} {F : Nat → Prop} (h : Fms w gf d n l j) (ht : Turn F w w') (hF : ¬ F gf) : Fms w' gf d n l j := by
  obtain ⟨C, h1, h2, h3⟩ := h
  exact ⟨C, h1.turn ht hF, h2, h3⟩
theorem Fms.range {w : World} {gf d n j i : Nat} {l : List Int} {no : Int} {m : Fm} (h : Fms w gf d n l j) (hi : i < j) (hn : l[i]? = some no) (hm : mform d no = some m) : w.rangeAt gf (i * 3) [.int .i64 m.kind, .int .i64 m.size, .int .i64 m.code] := by
  obtain ⟨C, h1, h2, h3⟩ := h
  obtain ⟨m', hm', a0, a1, a2⟩ := h3 i no hi hn
  rw [hm] at hm'
  injection hm' with hm'
  subst hm'
  intro k u hk
  rw [h1.cell]
  match k, hk with
  | 0, hk => injection hk with hk; subst hk; exact a0
  | 1, hk => injection hk with hk; subst hk; exact a1
  | 2, hk => injection hk with hk; subst hk; exact a2
theorem irow_cell {w : World} {B n c : Nat} {A : Option Addr} {l : List Int} (h : IRow w B (.slice A n c) l) {j : Nat} {x : Int} (hx : l[j]? = some x) : ∃ gl, A = some ⟨gl, 0, none⟩ ∧ w.cell? ⟨gl, j, none⟩ = some (.int .i64 x) := by
  have hj := (List.getElem?_eq_some_iff.1 hx).1
  rcases id h.2 with ⟨e, h0⟩ | ⟨g, cap, cur, e, _⟩
  · omega
  · injection e with e _ _
    subst e
    refine ⟨g, rfl, ?_⟩
    have := World.ownsRow.cells (g := g) h rfl j (.int .i64 x) (by rw [List.getElem?_map, hx]; rfl)
    rwa [add_nat, Nat.zero_add] at this
theorem irow_ne {w : World} {B n c g : Nat} {A : Option Addr} {l : List Int} {t : TypeId} {cs : Array Value} (h : IRow w B (.slice A n c) l) (hg : Blk w g t cs) (ht : t ≠ 3) : ∀ k, (Value.slice A n c).ownBlock = some k → k ≠ g := by
  intro k hk e
  subst e
  rcases h.2 with ⟨e, _⟩ | ⟨g', cap, cur, e, _, hg', _⟩
  · injection e with e _ _
    subst e
    cases hk
  · injection e with e _ _
    subst e
    have hk' : g' = k := Option.some.inj hk
    subst hk'
    exact (show Blk w g' 3 cur from hg').ne_ hg (fun h => ht h.symm) rfl
end Go.Proofs.YticofobhkmabiaaGreatDoor
namespace Go.Proofs.YticofobhkmabiaaGreatDoor
open Go.RowKit
open Fdd
set_option linter.unusedVariables false
set_option linter.unusedSimpArgs false
def FsP (s : Sents) (g d : Nat) (r : Except Int (List Fld × List UInt8)) (w0 w : World) (e : Ending) (w' : World) : Prop :=
  (match r with
    | .ok (fs, rest) => ∃ gF, e = .returned (.tuple #[.slice (some ⟨gF, 0, none⟩) fs.length fs.length, .nilIface]) ∧ Fl w' (some ⟨gF, 0, none⟩) fs.length fs ∧ w0.heap.size ≤ gF ∧ w.heap.size ≤ gF ∧ Rd w0 w' g d rest
    | .error k => ∃ v, e = .returned (.tuple #[.slice none 0 0, v]) ∧ ErrV s v k ∧ k ≠ 0) ∧ Turn (only g) w w' ∧ Turn nowhere w0 w'
theorem build_fld (no : Int) (x : List UInt8) (W : World) : (Instr.build 40 #[(0, .int .i64 no), (1, strV x)]).run Tryz.prog W = .ok (.agg (fldA (no, x))) W := by kernel_rfl
def contF (fs : List Fld) : Except Int (List Fld × List UInt8) → Except Int (List Fld × List UInt8)
  | .ok (fs2, r) => .ok (fs ++ fs2, r)
  | .error e => .error e
def fsR (d : Nat) (l : List Int) (b : List UInt8) : Except Int (List Fld × List UInt8) := if allForms d l = true then takeFs d l b else .error 52
theorem takeFs_at {d : Nat} {l : List Int} {j : Nat} {no : Int} {m : Fm} {b : List UInt8} {fs : List Fld} {X : Except Int (List Fld × List UInt8)} (hn : l[j]? = some no) (hm : mform d no = some m) (h : contF fs (takeFs d (l.drop j) b) = X) :
    (∀ e, m.take b = .error e → X = .error e) ∧ ∀ t r, m.take b = .ok (t, r) → contF (fs ++ [(no, unsaid d no ++ t)]) (takeFs d (l.drop (j + 1)) r) = X := by
  obtain ⟨hj, hnj⟩ := List.getElem?_eq_some_iff.1 hn
  have hd : l.drop j = no :: l.drop (j + 1) := by rw [← hnj]; exact List.drop_eq_getElem_cons hj
  rw [hd] at h
  unfold takeFs at h
  rw [hm] at h
  simp only [] at h
  refine ⟨fun e he => ?_, fun t r hr => ?_⟩
  · rw [he] at h
    exact h.symm
  · rw [hr] at h
    simp only [] at h
    rw [← h]
    cases takeFs d (l.drop (j + 1)) r with
    | error e => rfl
    | ok p =>
      obtain ⟨fs2, r2⟩ := p
      simp [contF]
theorem right_small {k s c : Nat} {t : List UInt8} (hk : 1 ≤ k ∧ k ≤ 5) (hs : 1 ≤ s ∧ s ≤ 64) (h : (nf k s c).right t = true) : t.length ≤ 130 := by
  by_cases h2 : k = 2
  · subst h2
    obtain ⟨hl, _⟩ := ll_right h
    omega
  · rw [right_nl h2] at h
    rw [right_len _ _ h]
    exact pts_sum (c := c) (by omega) hs.2
set_option maxRecDepth 40000 in
set_option maxHeartbeats 2000000 in
theorem takeFields_walk {s : Sents} {w0 w : World} {g d B n c : Nat} {A : Option Addr} {l : List Int} {b : List UInt8} (hd : 1 ≤ d ∧ d ≤ 3) (he : Env s w0) (h0 : Turn nowhere w0 w) (hg0 : w0.heap.size ≤ g) (hr : Rd w0 w g d b) (hn : l.length = n) (hl : IRow w B (.slice A n c) l) (hn2 : n ≤ 200) :
    Calls Tryz.prog 52 #[.pointer (some ⟨g, 0, none⟩), .slice A n c] w (FsP s g d (fsR d l b) w0 w) := by
  have HD := Lib.hid hd
  have HE := Lib.hid he
  have H0 := Lib.hid h0
  have HG0 := Lib.hid hg0
  have HR := Lib.hid hr
  have HN := Lib.hid hn
  have HL := Lib.hid hl
  have HN2 := Lib.hid hn2
  have y9 : (n : Int) ≤ 200 := by omega
  clear hd he h0 hg0 hr hn hl hn2
  go_enter Tryz.func52, Tryz.ntmps52
  go_upto_region 1 with fail
  refine wp_region_lit ?_
  refine wR (v := .slice A n c) rfl (exec_move rfl rfl) ?_
  simp only [Act.put, zzA, zz0, zz1]
  refine wR (v := .int .i64 (n : Int)) rfl (gx_len rfl rfl Tryz.underlying63) ?_
  simp only [Act.put, zzA, zz0, zz1]
  refine wR (v := .slice (some ⟨w.heap.size, 0, none⟩) n n) (w' := w.alloc (.cells (madeCells #[.int .i64 0, .int .i64 0, .int .i64 0] (n * 3)) 49)) rfl (gx_make rfl rfl rfl (make_forms n HN2.out w)) ?_
  simp only [Act.put, zzA, zz0, zz1]
  refine wR (v := .slice (some ⟨w.heap.size, 0, none⟩) n n) rfl (gx_assign rfl rfl) ?_
  simp only [Act.put, zzA, zz0, zz1]
  have hms : (madeCells #[.int .i64 0, .int .i64 0, .int .i64 0] (n * 3)).size = n * 3 := size_madeCells _ _
  generalize madeCells #[.int .i64 0, .int .i64 0, .int .i64 0] (n * 3) = CS at *
  have hbF := Blk.new w 49 CS
  have huF := (Turn.refl nowhere w).alloc (.cells CS 49)
  obtain ⟨gf, hgf⟩ : ∃ gf, gf = w.heap.size := ⟨_, rfl⟩
  rw [← hgf] at hbF ⊢
  have HGF := Lib.hid hgf
  have HNG := Lib.hid (show g ≠ gf from by
    obtain ⟨_, _, _, h, _⟩ := HR.out
    have := h.lt
    omega)
  clear hgf
  generalize w.alloc (.cells CS 49) = w1 at *
  have HF1 := Lib.hid (show Fms w1 gf d n l 0 from ⟨CS, hbF, hms, fun i no hi => by omega⟩)
  have HU1 := Lib.hid huF
  clear hbF huF hms
  go_wp2_with fail
  go_loopg [21] n (fun gk jv wr => ∃ j : Nat, j + gk = n ∧ jv = .int .i64 (j : Int) ∧ Fms wr gf d n l j ∧ Turn (only gf) w1 wr)
  case atStart => exact ⟨0, by omega, rfl, HF1.out, Turn.refl _ _⟩
  obtain ⟨j, hjl, rfl, hfm, htr⟩ := hrel
  have HJL := Lib.hid hjl
  have HFM := Lib.hid hfm
  have HTW := Lib.hid (show Turn nowhere w wr from HU1.out.trans htr (fun k hk e => by
    have := HGF.out
    have e : k = gf := e
    omega))
  have HT0 := Lib.hid (H0.out.next HTW.out)
  have HTR := Lib.hid htr
  clear hjl hfm htr
  by_cases hlt : j < n
  · have y1 : (j : Int) < (n : Int) := by omega
    have HLT := Lib.hid hlt
    obtain ⟨no, hno⟩ : ∃ no, l[j]? = some no := ⟨_, List.getElem?_eq_getElem (show j < l.length from by rw [HN.out]; exact hlt)⟩
    obtain ⟨gl, rfl, cno⟩ := irow_cell (irow_turn HL.out HTW.out (fun _ _ e=>e)) hno
    have HNO := Lib.hid hno
    clear hlt hno
    go_upto_region 4 with fail
    refine wp_region_lit ?_
    refine wR (v := .int .i64 (j : Int)) rfl (exec_move rfl rfl) ?_
    simp only [Act.put, zzA, zz0, zz1]
    refine wR (v := .pointer (some ⟨gl, j, none⟩)) rfl (gx_iaddr (i := j) (sz := 1) rfl rfl rfl Tryz.underlying63 (by kernel_rfl) HLT.out (by omega)) ?_
    simp only [Act.put, zzA, zz0, zz1]
    refine wR (v := .int .i64 no) rfl (exec_load1 rfl rfl (by kernel_rfl) cno) ?_
    simp only [Act.put, zzA, zz0, zz1]
    refine wR (v := .int .i64 (j : Int)) rfl (gx_assign rfl rfl) ?_
    simp only [Act.put, zzA, zz0, zz1]
    refine wR (v := .int .i64 no) rfl (gx_assign rfl rfl) ?_
    simp only [Act.put, zzA, zz0, zz1]
    obtain ⟨Ar, nr, cr, hgr, _⟩ := id (HR.out.still HTW.out)
    have HGR := Lib.hid hgr
    clear cno hgr
    go_upto_region 5 with fail
    refine wp_region_lit ?_
    refine wR (v := .pointer (some ⟨g, 0, none⟩)) rfl (exec_move rfl rfl) ?_
    simp only [Act.put, zzA, zz0, zz1]
    refine wR (v := .pointer (some ⟨g, 0, none⟩)) rfl (exec_nil rfl rfl) ?_
    simp only [Act.put, zzA, zz0, zz1]
    refine wR (v := .pointer (some ⟨g, 0, none⟩)) rfl (exec_field (off := 0) (d := 0) rfl rfl (by kernel_rfl)) ?_
    simp only [Act.put, zzA, zz0, zz1]
    refine wR (v := tongV d) rfl (gx_loads rfl rfl (rd_range HGR.out) Tryz.underlying70 rfl (by rw [size_tongue]; rfl)) ?_
    simp only [Act.put, zzA, zz0, zz1]
    refine wR (v := .int .i64 no) rfl (exec_move rfl rfl) ?_
    simp only [Act.put, zzA, zz0, zz1]
    refine wpList_op rfl fun K9 HK9 => ?_
    go_wp2_with fail
    refine (form_walk (s := s) (d := d) (HE.out.turn HT0.out).tab (HE.out.turn HT0.out).sen).mono ?_
    rintro e w2 ⟨rfl, ht2⟩
    refine HK9.out _ _ ?_
    clear HK9
    try simp only [Act.put, zzA, zz0, zz1]
    have HU2 := Lib.hid (HTW.out.next ht2)
    have HR2 := Lib.hid (only_still HTR.out ht2)
    have HF2 := Lib.hid (HFM.out.turn ht2 (fun e => e))
    clear ht2 HGR HFM HTW HT0 HTR
    cases hm : mform d no with
    | none =>
      have hfr : formR s d no = .tuple #[.agg #[.int .i64 0, .int .i64 0, .int .i64 0], feV no s.field] := by unfold formR; rw [hm]; rfl
      have HAF := Lib.hid (show fsR d l b = .error 52 from by
        unfold fsR
        rw [if_neg]
        intro h
        unfold allForms at h
        rw [List.all_eq_true] at h
        have := h no (List.mem_of_getElem? HNO.out)
        rw [hm] at this
        cases this)
      rw [hfr]
      clear hfr hm
      refine wR (v := .tuple #[.agg #[.int .i64 0, .int .i64 0, .int .i64 0], feV no s.field]) rfl (exec_move rfl rfl) ?_
      simp only [Act.put, zzA, zz0, zz1]
      refine wR (v := .agg #[.int .i64 0, .int .i64 0, .int .i64 0]) rfl (ix_extract rfl rfl rfl) ?_
      simp only [Act.put, zzA, zz0, zz1]
      refine wR (v := feV no s.field) rfl (ix_extract rfl rfl rfl) ?_
      simp only [Act.put, zzA, zz0, zz1]
      refine wR (v := .pointer (some ⟨w2.heap.size, 0, none⟩)) (w' := w2.alloc (.cells #[.int .i64 0, .int .i64 0, .int .i64 0] 49)) rfl (gx_alloc rfl (mzero_form _)) ?_
      simp only [Act.put, zzA, zz0, zz1]
      have hb8 := Blk.new w2 49 #[.int .i64 0, .int .i64 0, .int .i64 0]
      have hu8 := HU2.out.alloc (.cells #[.int .i64 0, .int .i64 0, .int .i64 0] 49)
      have hr8 := HR2.out.alloc (.cells #[.int .i64 0, .int .i64 0, .int .i64 0] 49)
      have hf8 := HF2.out.turn ((Turn.refl nowhere w2).alloc (.cells #[.int .i64 0, .int .i64 0, .int .i64 0] 49)) (fun e => e)
      have hlt8 : gf < w2.heap.size := by
        obtain ⟨_, h, _⟩ := HF2.out
        exact h.lt
      obtain ⟨g8, hg8⟩ : ∃ g8, g8 = w2.heap.size := ⟨_, rfl⟩
      rw [← hg8] at hb8 ⊢
      have HG8 := Lib.hid (show w.heap.size ≤ g8 from by rw [hg8]; exact HU2.out.size)
      have HG81 := Lib.hid (show w1.heap.size ≤ g8 from by rw [hg8]; exact HR2.out.size)
      have HN8 := Lib.hid (show gf ≠ g8 from by omega)
      clear hg8 hlt8
      generalize w2.alloc (.cells #[.int .i64 0, .int .i64 0, .int .i64 0] 49) = w3 at *
      refine wpList_store_row rfl 49 (.tmp 9) (.tmp 33) rfl #[.int .i64 0, .int .i64 0, .int .i64 0] hb8 rfl rfl rfl (by rw [size_form]; rfl) (fm3_one _ _ _) ?_
      intro w4 hb4 hu4
      have HB4 := Lib.hid hb4
      have HF4 := Lib.hid (hf8.turn hu4 (fun e => HN8.out e))
      have HU4 := Lib.hid (hu8.trans hu4 (fun k hk e => by
        have := HG8.out
        have e : k = g8 := e
        omega))
      have HR4 := Lib.hid (hr8.trans (hu4.mono (G := fun k => k = g8) (fun _ _ e=>e)) (fun k hk e => by
        have := HG81.out
        omega))
      clear hb8 hu8 hr8 hf8 hb4 hu4 HU2 HR2 HF2
      simp only [Act.put, zzA, zz0, zz1]
      unfold feV
      go_wp2_with fail
      go_ret2
      unfold FsP
      rw [HAF.out]
      exact ⟨⟨_, rfl, ErrV.field no, by decide⟩, still_only HU4.out, H0.out.next HU4.out⟩
    | some m =>
      have hfr : formR s d no = .tuple #[fmV m, .nilIface] := by unfold formR; rw [hm]
      rw [hfr]
      have HM := Lib.hid hm
      clear hfr hm
      refine wR (v := .tuple #[fmV m, .nilIface]) rfl (exec_move rfl rfl) ?_
      simp only [Act.put, zzA, zz0, zz1]
      refine wR (v := fmV m) rfl (ix_extract rfl rfl rfl) ?_
      simp only [Act.put, zzA, zz0, zz1]
      refine wR (v := .nilIface) rfl (ix_extract rfl rfl rfl) ?_
      simp only [Act.put, zzA, zz0, zz1]
      refine wR (v := .pointer (some ⟨w2.heap.size, 0, none⟩)) (w' := w2.alloc (.cells #[.int .i64 0, .int .i64 0, .int .i64 0] 49)) rfl (gx_alloc rfl (mzero_form _)) ?_
      simp only [Act.put, zzA, zz0, zz1]
      have hb8 := Blk.new w2 49 #[.int .i64 0, .int .i64 0, .int .i64 0]
      have hu8 := HU2.out.alloc (.cells #[.int .i64 0, .int .i64 0, .int .i64 0] 49)
      have hr8 := HR2.out.alloc (.cells #[.int .i64 0, .int .i64 0, .int .i64 0] 49)
      have hf8 := HF2.out.turn ((Turn.refl nowhere w2).alloc (.cells #[.int .i64 0, .int .i64 0, .int .i64 0] 49)) (fun e => e)
      have hlt8 : gf < w2.heap.size := by
        obtain ⟨_, h, _⟩ := HF2.out
        exact h.lt
      obtain ⟨g8, hg8⟩ : ∃ g8, g8 = w2.heap.size := ⟨_, rfl⟩
      rw [← hg8] at hb8 ⊢
      have HG8 := Lib.hid (show w.heap.size ≤ g8 from by rw [hg8]; exact HU2.out.size)
      have HG81 := Lib.hid (show w1.heap.size ≤ g8 from by rw [hg8]; exact HR2.out.size)
      have HN8 := Lib.hid (show gf ≠ g8 from by omega)
      clear hg8 hlt8
      generalize w2.alloc (.cells #[.int .i64 0, .int .i64 0, .int .i64 0] 49) = w3 at *
      refine wpList_store_row rfl 49 (.tmp 9) (.tmp 33) rfl #[.int .i64 m.kind, .int .i64 m.size, .int .i64 m.code] hb8 rfl rfl rfl (by rw [size_form]; rfl) (fm3_one _ _ _) ?_
      intro w4 hb4 hu4
      have HB4 := Lib.hid hb4
      have HF4 := Lib.hid (hf8.turn hu4 (fun e => HN8.out e))
      have HU4 := Lib.hid (hu8.trans hu4 (fun k hk e => by
        have := HG8.out
        have e : k = g8 := e
        omega))
      have HR4 := Lib.hid (hr8.trans (hu4.mono (G := fun k => k = g8) (fun _ _ e=>e)) (fun k hk e => by
        have := HG81.out
        omega))
      clear hb8 hu8 hr8 hf8 hb4 hu4 HU2 HR2 HF2
      simp only [Act.put, zzA, zz0, zz1]
      go_upto_region 8 with fail
      refine wp_region_lit ?_
      refine wR (v := .slice (some ⟨gf, 0, none⟩) n n) rfl (exec_move rfl rfl) ?_
      simp only [Act.put, zzA, zz0, zz1]
      refine wR (v := .int .i64 (j : Int)) rfl (exec_move rfl rfl) ?_
      simp only [Act.put, zzA, zz0, zz1]
      refine wR (v := fmV m) rfl (gx_loads rfl rfl (blk_range HB4.out) Tryz.underlying49 rfl (by rw [size_form]; rfl)) ?_
      simp only [Act.put, zzA, zz0, zz1]
      refine wR (v := .pointer (some ⟨gf, j * 3, none⟩)) rfl (gx_iaddr (i := j) (sz := 3) rfl rfl rfl Tryz.underlying140 size_form HLT.out (by omega)) ?_
      simp only [Act.put, zzA, zz0, zz1]
      obtain ⟨C4, hC4, hsz4, hall4⟩ := HF4.out
      refine wpList_store_mid rfl 49 (.tmp 41) (.tmp 40) rfl #[.int .i64 m.kind, .int .i64 m.size, .int .i64 m.code] hC4 rfl rfl (show j * 3 + 3 ≤ C4.size from by have := HLT.out; omega) (by rw [size_form]; rfl) (fm3_one _ _ _) ?_
      intro w5 C5 hb5 hs5 hc5 hu5
      have HF5 := Lib.hid (show Fms w5 gf d n l (j + 1) from ⟨C5, hb5, by omega, fun i no2 hi hno2 => by
        by_cases hij : i < j
        · obtain ⟨m2, q0, q1, q2, q3⟩ := hall4 i no2 hij hno2
          refine ⟨m2, q0, ?_, ?_, ?_⟩
          · rw [hc5, if_neg (by omega)]; exact q1
          · rw [hc5, if_neg (by omega)]; exact q2
          · rw [hc5, if_neg (by omega)]; exact q3
        · have hij2 : i = j := by omega
          subst hij2
          have e2 : no2 = no := by
            have := HNO.out
            rw [hno2] at this
            exact Option.some.inj this
          subst e2
          refine ⟨m, HM.out, ?_, ?_, ?_⟩
          · rw [hc5, if_pos ⟨by omega, by simp; try omega⟩, Nat.sub_self]; rfl
          · rw [hc5, if_pos ⟨by omega, by simp; try omega⟩, show i * 3 + 1 - i * 3 = 1 from by omega]; rfl
          · rw [hc5, if_pos ⟨by omega, by simp; try omega⟩, show i * 3 + 2 - i * 3 = 2 from by omega]; rfl⟩)
      have HR5 := Lib.hid (HR4.out.next hu5)
      clear hC4 hsz4 hall4 hb5 hs5 hc5 hu5 HF4 HR4
      simp only [Act.put, zzA, zz0, zz1]
      go_wp2_with fail
      go_roundg (gk - 1)
      case measure => have := HJL.out; have := HLT.out; omega
      case rel => exact ⟨j + 1, by have := HJL.out; have := HLT.out; omega, by go_num, HF5.out, HR5.out⟩
  · have y1 : ¬ ((j : Int) < (n : Int)) := by omega
    have hjn : j = n := by have := HJL.out; omega
    have HAF := Lib.hid (show fsR d l b = takeFs d l b from by
      unfold fsR
      rw [if_pos]
      unfold allForms
      rw [List.all_eq_true]
      intro x hx
      obtain ⟨i, hi⟩ := List.mem_iff_getElem?.1 hx
      obtain ⟨C, _, _, h⟩ := HFM.out
      obtain ⟨m, hm, _⟩ := h i x (by have := (List.getElem?_eq_some_iff.1 hi).1; have := HN.out; omega) hi
      rw [hm]
      rfl)
    have HFA : Hid (Fms wr gf d n l n) := Lib.hid (by rw [← hjn]; rw [hjn]; have := HFM.out; rw [hjn] at this; exact this)
    clear hlt hjn HFM HJL
    go_upto_region 10 with fail
    refine wp_region_lit ?_
    refine wR (v := .slice A n c) rfl (exec_move rfl rfl) ?_
    simp only [Act.put, zzA, zz0, zz1]
    refine wR (v := .int .i64 (n : Int)) rfl (gx_len rfl rfl Tryz.underlying63) ?_
    simp only [Act.put, zzA, zz0, zz1]
    refine wR (v := .slice (some ⟨wr.heap.size, 0, none⟩) n n) (w' := wr.alloc (.cells (madeCells #[.int .i64 0, strV []] (n * 2)) 40)) rfl (gx_make rfl rfl rfl (make_fields n HN2.out wr)) ?_
    simp only [Act.put, zzA, zz0, zz1]
    refine wR (v := .slice (some ⟨wr.heap.size, 0, none⟩) n n) rfl (gx_assign rfl rfl) ?_
    simp only [Act.put, zzA, zz0, zz1]
    have hms : (madeCells #[.int .i64 0, strV []] (n * 2)).size = n * 2 := size_madeCells _ _
    generalize madeCells #[.int .i64 0, strV []] (n * 2) = CS at *
    have hbF := Blk.new wr 40 CS
    have huF := (Turn.refl nowhere wr).alloc (.cells CS 40)
    obtain ⟨gF, hgF⟩ : ∃ gF, gF = wr.heap.size := ⟨_, rfl⟩
    rw [← hgF] at hbF ⊢
    have HGFF := Lib.hid (show w.heap.size ≤ gF from by rw [hgF]; exact HTW.out.size)
    have HGF0 := Lib.hid (show w0.heap.size ≤ gF from by rw [hgF]; exact HT0.out.size)
    have HNGF := Lib.hid (show g ≠ gF from by
      obtain ⟨_, _, _, h, _⟩ := HR.out.still HTW.out
      have := h.lt
      omega)
    have HNFF := Lib.hid (show gf ≠ gF from by
      obtain ⟨_, h, _⟩ := HFA.out
      have := h.lt
      omega)
    clear hgF
    generalize wr.alloc (.cells CS 40) = w3 at *
    have HU3 := Lib.hid (HTW.out.next huF)
    have HR3 := Lib.hid (HR.out.still HU3.out)
    have HF3 := Lib.hid (HFA.out.turn huF (fun e => e))
    have HB3 := Lib.hid (show ∃ C, Blk w3 gF 40 C ∧ C.size = n * 2 from ⟨CS, hbF, hms⟩)
    clear hbF huF hms HTW HT0 HTR HFA HF1 HU1
    go_wp2_with fail
    go_loopg [48] n (fun gk jv wr => ∃ (j : Nat) (fs : List Fld) (bj : List UInt8) (C : Array Value), j + gk = n ∧ jv = .int .i64 (j : Int) ∧ fs.length = j ∧ Blk wr gF 40 C ∧ C.size = n * 2 ∧ (∀ i f, fs[i]? = some f → C[i * 2]? = some (.int .i64 f.1) ∧ C[i * 2 + 1]? = some (strV f.2)) ∧ contF fs (takeFs d (l.drop j) bj) = takeFs d l b ∧ Rd w0 wr g d bj ∧ Fms wr gf d n l n ∧ Turn (only g) w wr)
    case atStart =>
      obtain ⟨C, h1, h2⟩ := HB3.out
      refine ⟨0, [], b, C, by omega, rfl, rfl, h1, h2, fun i f hf => by simp at hf, ?_, HR3.out, HF3.out, still_only HU3.out⟩
      show contF [] (takeFs d l b) = takeFs d l b
      cases takeFs d l b with
      | error e => rfl
      | ok p => rfl
    obtain ⟨j, fs, bj, C, hjl, rfl, hfl, hbC, hCs, hCa, hco, hrd, hfm, htr⟩ := hrel
    have HJL := Lib.hid hjl
    have HFL := Lib.hid hfl
    have HBC := Lib.hid hbC
    have HCS := Lib.hid hCs
    have HCA := Lib.hid hCa
    have HCO := Lib.hid hco
    have HRD := Lib.hid hrd
    have HFM := Lib.hid hfm
    have HTR := Lib.hid htr
    have HT0 := Lib.hid (above H0.out HG0.out htr)
    clear hjl hfl hbC hCs hCa hco hrd hfm htr
    by_cases hlt : j < n
    · have y1 : (j : Int) < (n : Int) := by omega
      have HLT := Lib.hid hlt
      obtain ⟨no, hno⟩ : ∃ no, l[j]? = some no := ⟨_, List.getElem?_eq_getElem (show j < l.length from by rw [HN.out]; exact hlt)⟩
      have hir := irow_turn HL.out HTR.out (fun k hk e => by
        obtain ⟨_, _, _, hg, _⟩ := HR.out
        exact irow_ne HL.out hg (by decide) k hk e)
      obtain ⟨gl, rfl, cno⟩ := irow_cell hir hno
      obtain ⟨m, hm⟩ : ∃ m, mform d no = some m := by
        obtain ⟨_, _, _, h⟩ := HFM.out
        obtain ⟨m, hm, _⟩ := h j no hlt hno
        exact ⟨m, hm⟩
      have HM := Lib.hid hm
      have HRG := Lib.hid (HFM.out.range hlt hno hm)
      have HAT := Lib.hid (takeFs_at hno hm HCO.out)
      clear hlt hno hir hm
      go_upto_region 13 with fail
      refine wp_region_lit ?_
      refine wR (v := .int .i64 (j : Int)) rfl (exec_move rfl rfl) ?_
      simp only [Act.put, zzA, zz0, zz1]
      refine wR (v := .pointer (some ⟨gl, j, none⟩)) rfl (gx_iaddr (i := j) (sz := 1) rfl rfl rfl Tryz.underlying63 (by kernel_rfl) HLT.out (by omega)) ?_
      simp only [Act.put, zzA, zz0, zz1]
      refine wR (v := .int .i64 no) rfl (exec_load1 rfl rfl (by kernel_rfl) cno) ?_
      simp only [Act.put, zzA, zz0, zz1]
      refine wR (v := .int .i64 (j : Int)) rfl (gx_assign rfl rfl) ?_
      simp only [Act.put, zzA, zz0, zz1]
      refine wR (v := .int .i64 no) rfl (gx_assign rfl rfl) ?_
      simp only [Act.put, zzA, zz0, zz1]
      clear cno
      go_upto_region 14 with fail
      refine wp_region_lit ?_
      refine wR (v := .pointer (some ⟨g, 0, none⟩)) rfl (exec_move rfl rfl) ?_
      simp only [Act.put, zzA, zz0, zz1]
      refine wR (v := .int .i64 no) rfl (exec_move rfl rfl) ?_
      simp only [Act.put, zzA, zz0, zz1]
      refine wR (v := .slice (some ⟨gf, 0, none⟩) n n) rfl (exec_move rfl rfl) ?_
      simp only [Act.put, zzA, zz0, zz1]
      refine wR (v := .int .i64 (j : Int)) rfl (exec_move rfl rfl) ?_
      simp only [Act.put, zzA, zz0, zz1]
      refine wR (v := .pointer (some ⟨gf, j * 3, none⟩)) rfl (gx_iaddr (i := j) (sz := 3) rfl rfl rfl Tryz.underlying140 size_form HLT.out (by omega)) ?_
      simp only [Act.put, zzA, zz0, zz1]
      refine wR (v := fmV m) rfl (gx_loads rfl rfl HRG.out Tryz.underlying49 rfl (by rw [size_form]; rfl)) ?_
      simp only [Act.put, zzA, zz0, zz1]
      refine wpList_op rfl fun K9 HK9 => ?_
      go_wp2_with fail
      refine (mtake_walk (s := s) (no := no) (f := m) HE.out HT0.out HG0.out HRD.out).mono ?_
      rintro e w5 ⟨rfl, hr5, ho5, h5⟩
      refine HK9.out _ _ ?_
      clear HK9
      try simp only [Act.put, zzA, zz0, zz1]
      have HR5 := Lib.hid hr5
      have HT5 := Lib.hid (only_trans HTR.out ho5)
      have H5 := Lib.hid h5
      have HF5 := Lib.hid (HFM.out.turn ho5 (fun e => by
        have e : gf = g := e
        exact HNG.out e.symm))
      have HB5 := Lib.hid (HBC.out.turn ho5 (fun e => by
        have e : gF = g := e
        exact HNGF.out e.symm))
      clear hr5 ho5 h5 HRG HRD HFM HBC HTR HT0
      cases hk : m.take bj with
      | error k =>
        obtain ⟨k1, s1, hm1, hk1, hs1, _⟩ := form_nf HM.out
        have hk4 : k = 42 ∨ k = 43 := take_err (k := k1) (s := s1) (c := d) (may_nf hk1 HD.out hs1) (by rw [← hm1]; exact hk)
        have HK := Lib.hid hk4
        have HX := Lib.hid (show fsR d l b = .error k from by rw [HAF.out]; exact HAT.out.1 k hk)
        have HV := Lib.hid (errV_wrap (s := s) (no := no) hk4)
        obtain ⟨t9, x9, hv9⟩ := errV_some HV.out (by omega)
        rw [show tk (.error k) = (([] : List UInt8), ([] : List UInt8), k) from rfl]
        simp only []
        rw [hv9] at HV ⊢
        clear hk hk4 hv9 hm1 hk1 hs1
        refine wR (v := .tuple #[strV [], .iface t9 x9]) rfl (exec_move rfl rfl) ?_
        simp only [Act.put, zzA, zz0, zz1]
        refine wR (v := strV []) rfl (ix_extract rfl rfl rfl) ?_
        simp only [Act.put, zzA, zz0, zz1]
        refine wR (v := .iface t9 x9) rfl (ix_extract rfl rfl rfl) ?_
        simp only [Act.put, zzA, zz0, zz1]
        refine wR (v := strV []) rfl (gx_assign rfl rfl) ?_
        simp only [Act.put, zzA, zz0, zz1]
        refine wR (v := .iface t9 x9) rfl (gx_assign rfl rfl) ?_
        simp only [Act.put, zzA, zz0, zz1]
        go_wp2_with fail
        go_ret2
        unfold FsP
        rw [HX.out]
        exact ⟨⟨_, rfl, HV.out, by have := HK.out; omega⟩, HT5.out, H5.out⟩
      | ok p =>
        obtain ⟨t, rest⟩ := p
        have HX := Lib.hid (HAT.out.2 t rest hk)
        have HTL := Lib.hid (show t.length ≤ 130 from by
          obtain ⟨k1, s1, hm1, hk1, hs1, _⟩ := form_nf HM.out
          obtain ⟨h1, _⟩ := fm_one (k := k1) (s := s1) (c := d) hk1 HD.out hs1 (by rw [← hm1]; exact hk)
          exact right_small hk1 hs1 h1)
        have HR6 : Hid (Rd w0 w5 g d rest) := Lib.hid (by have := HR5.out; rw [hk] at this; exact this)
        rw [show wrapV s no (tk (.ok (t, rest))).2.2 = .nilIface from rfl, show (tk (.ok (t, rest))).1 = t from rfl]
        obtain ⟨Ar, nr, cr, hgr, _⟩ := id HR6.out
        have HGR := Lib.hid hgr
        clear hk HR5 hgr
        refine wR (v := .tuple #[strV t, .nilIface]) rfl (exec_move rfl rfl) ?_
        simp only [Act.put, zzA, zz0, zz1]
        refine wR (v := strV t) rfl (ix_extract rfl rfl rfl) ?_
        simp only [Act.put, zzA, zz0, zz1]
        refine wR (v := .nilIface) rfl (ix_extract rfl rfl rfl) ?_
        simp only [Act.put, zzA, zz0, zz1]
        refine wR (v := strV t) rfl (gx_assign rfl rfl) ?_
        simp only [Act.put, zzA, zz0, zz1]
        refine wR (v := .nilIface) rfl (gx_assign rfl rfl) ?_
        simp only [Act.put, zzA, zz0, zz1]
        go_upto_region 17 with fail
        refine wp_region_lit ?_
        refine wR (v := .slice (some ⟨gF, 0, none⟩) n n) rfl (exec_move rfl rfl) ?_
        simp only [Act.put, zzA, zz0, zz1]
        refine wR (v := .int .i64 (j : Int)) rfl (exec_move rfl rfl) ?_
        simp only [Act.put, zzA, zz0, zz1]
        refine wR (v := .int .i64 no) rfl (exec_move rfl rfl) ?_
        simp only [Act.put, zzA, zz0, zz1]
        refine wR (v := .pointer (some ⟨g, 0, none⟩)) rfl (exec_move rfl rfl) ?_
        simp only [Act.put, zzA, zz0, zz1]
        refine wR (v := .pointer (some ⟨g, 0, none⟩)) rfl (exec_nil rfl rfl) ?_
        simp only [Act.put, zzA, zz0, zz1]
        refine wR (v := .pointer (some ⟨g, 0, none⟩)) rfl (exec_field (off := 0) (d := 0) rfl rfl (by kernel_rfl)) ?_
        simp only [Act.put, zzA, zz0, zz1]
        refine wR (v := tongV d) rfl (gx_loads rfl rfl (rd_range HGR.out) Tryz.underlying70 rfl (by rw [size_tongue]; rfl)) ?_
        simp only [Act.put, zzA, zz0, zz1]
        refine wR (v := .int .i64 no) rfl (exec_move rfl rfl) ?_
        simp only [Act.put, zzA, zz0, zz1]
        refine wpList_op rfl fun K9 HK9 => ?_
        go_wp2_with fail
        refine (unsaid_walk d no _).mono ?_
        rintro e w6 ⟨rfl, ht6⟩
        refine HK9.out _ _ ?_
        clear HK9
        try simp only [Act.put, zzA, zz0, zz1]
        refine wR (v := strV t) rfl (exec_move rfl rfl) ?_
        simp only [Act.put, zzA, zz0, zz1]
        refine wR (v := strV (unsaid d no ++ t)) rfl (exec_sadd rfl rfl rfl (by have := HTL.out; rcases unsaid_len d no with h | ⟨h, _⟩ <;> rw [h] <;> simp only [List.length_nil, List.length_cons] <;> omega)) ?_
        simp only [Act.put, zzA, zz0, zz1]
        refine wR (v := .agg (fldA (no, unsaid d no ++ t))) rfl (gx_build2 rfl rfl rfl (build_fld _ _ _)) ?_
        simp only [Act.put, zzA, zz0, zz1]
        refine wR (v := .pointer (some ⟨gF, j * 2, none⟩)) rfl (gx_iaddr (i := j) (sz := 2) rfl rfl rfl Tryz.underlying22 size_field HLT.out (by omega)) ?_
        simp only [Act.put, zzA, zz0, zz1]
        have HB6 := Lib.hid (HB5.out.turn ht6 (fun e => e))
        have HT6 := Lib.hid (only_still HT5.out ht6)
        have HR7 := Lib.hid (HR6.out.still ht6)
        have HF6 := Lib.hid (HF5.out.turn ht6 (fun e => e))
        clear ht6 HB5 HT5 HR6 HF5 HGR
        refine wpList_store_mid rfl 40 (.tmp 78) (.tmp 77) rfl (fldA (no, unsaid d no ++ t)) HB6.out rfl rfl (show j * 2 + 2 ≤ C.size from by have := HLT.out; have := HCS.out; omega) (by rw [size_field]; rfl) (fldA_one _) ?_
        intro w7 C7 hb7 hs7 hc7 hu7
        have HB7 := Lib.hid hb7
        have HS7 := Lib.hid (show C7.size = n * 2 from by rw [hs7]; exact HCS.out)
        have HC7 := Lib.hid (show ∀ i f, (fs ++ [(no, unsaid d no ++ t)])[i]? = some f → C7[i * 2]? = some (.int .i64 f.1) ∧ C7[i * 2 + 1]? = some (strV f.2) from fun i f hf => by
          by_cases hij : i < fs.length
          · rw [List.getElem?_append_left hij] at hf
            obtain ⟨q1, q2⟩ := HCA.out i f hf
            have := HFL.out
            exact ⟨by rw [hc7, if_neg (by omega)]; exact q1, by rw [hc7, if_neg (by omega)]; exact q2⟩
          · have hfl := HFL.out
            have hil := (List.getElem?_eq_some_iff.1 hf).1
            rw [List.length_append] at hil
            have hij2 : i = j := by have := HFL.out; simp at hil; omega
            subst hij2
            rw [List.getElem?_append_right (by omega), show i - fs.length = 0 from by omega] at hf
            simp only [List.getElem?_cons_zero, Option.some.injEq] at hf
            subst hf
            have hsz : (fldA (no, unsaid d no ++ t)).size = 2 := rfl
            refine ⟨?_, ?_⟩
            · rw [hc7, if_pos ⟨by omega, by omega⟩, Nat.sub_self]; rfl
            · rw [hc7, if_pos ⟨by omega, by omega⟩, show i * 2 + 1 - i * 2 = 1 from by omega]; rfl)
        have HR8 := Lib.hid (show Rd w0 w7 g d rest from rd_turn HR7.out hu7 HNGF.out HGF0.out HB6.out (by decide))
        have HF7 := Lib.hid (HF6.out.turn hu7 (fun e => HNFF.out e))
        have HT7 := Lib.hid (show Turn (only g) w w7 from HT6.out.trans hu7 (fun k hk e => by
          have := HGFF.out
          have e : k = gF := e
          omega))
        clear hb7 hs7 hc7 hu7 HB6 HT6 HR7 HF6
        simp only [Act.put, zzA, zz0, zz1]
        go_wp2_with fail
        go_roundg (gk - 1)
        case measure => have := HJL.out; have := HLT.out; omega
        case rel => exact ⟨j + 1, _, rest, C7, by have := HJL.out; have := HLT.out; omega, by go_num, by rw [List.length_append]; have := HFL.out; simp; omega, HB7.out, HS7.out, HC7.out, HX.out, HR8.out, HF7.out, HT7.out⟩
    · have y1 : ¬ ((j : Int) < (n : Int)) := by omega
      have hjn : j = n := by have := HJL.out; omega
      have HX := Lib.hid (show fsR d l b = .ok (fs, bj) from by
        have h := HCO.out
        rw [List.drop_eq_nil_iff.2 (by rw [HN.out]; omega)] at h
        rw [HAF.out, ← h]
        show contF fs (.ok ([], bj)) = _
        simp [contF])
      have HFN := Lib.hid (show fs.length = n from by rw [HFL.out, hjn])
      clear hlt hjn
      go_wp2_with fail
      go_ret2
      unfold FsP
      rw [HX.out]
      refine ⟨⟨gF, by rw [HFN.out]; rfl, ⟨rfl, by rw [HFN.out]; have := HN2.out; omega, fun _ => ⟨gF, 0, rfl, fun i f hf k u hk => ?_⟩⟩, HGF0.out, HGFF.out, HRD.out⟩, HTR.out, HT0.out⟩
      obtain ⟨q1, q2⟩ := HCA.out i f hf
      rw [HBC.out.cell]
      match k, hk with
      | 0, hk => injection hk with hk; subst hk; rw [Nat.zero_add]; exact q1
      | 1, hk => injection hk with hk; subst hk; rw [Nat.zero_add]; exact q2
end Go.Proofs.YticofobhkmabiaaGreatDoor
namespace Go.Proofs.YticofobhkmabiaaGreatDoor
open Go.RowKit
open Fdd
set_option linter.unusedVariables false
set_option linter.unusedSimpArgs false
theorem zero_msg (w : World) : (zeroValue 24).run Tryz.prog w = .ok (.agg #[.int .i64 0, .slice none 0 0]) w := by kernel_rfl
theorem build_msg0 (W : World) : (Instr.build 24 #[]).run Tryz.prog W = .ok (.agg #[.int .i64 0, .slice none 0 0]) W := by kernel_rfl
theorem zero_rd (w : World) : (zeroValue 91).run Tryz.prog w = .ok (.agg #[.int .i64 0, strV [], strV [], .slice none 0 0]) w := by kernel_rfl
theorem build_rd (d m c : Nat) (A : Option Addr) (W : World) : (Instr.build 91 #[(0, tongV d), (1, .slice A m c)]).run Tryz.prog W = .ok (.agg (rdA d (.slice A m c))) W := by kernel_rfl
theorem size_rd : (Tryz.prog.info? 91).map (·.size) = some 4 := by kernel_rfl
theorem msg0_one : ∀ v ∈ (#[.int .i64 0, .slice none 0 0] : Array Value).toList, v.oneCell' = true := fun v hv => by
  simp only [List.mem_cons, List.not_mem_nil, or_false] at hv
  rcases hv with rfl | rfl <;> rfl
theorem msgA_one (ty : Int) (A : Option Addr) (n c : Nat) : ∀ v ∈ (#[.int .i64 ty, .slice A n c] : Array Value).toList, v.oneCell' = true := fun v hv => by
  simp only [List.mem_cons, List.not_mem_nil, or_false] at hv
  rcases hv with rfl | rfl <;> rfl
theorem rdA_one (d m c : Nat) (A : Option Addr) : ∀ v ∈ (rdA d (.slice A m c)).toList, v.oneCell' = true := fun v hv => by
  unfold rdA at hv
  simp only [List.mem_cons, List.not_mem_nil, or_false] at hv
  rcases hv with rfl | rfl | rfl | rfl <;> rfl
theorem gx_min {a : Act} {o : Oper} {W : World} {x y : Operand} {t1 t2 : TypeId} {n m : Nat} {r : Nat} (ho : o.op = .call { callee := .builtin .min, args := #[x, y], argTypes := #[t1, t2] }) (hx : a.eval x = .int .i64 (n : Int)) (hy : a.eval y = .int .i64 (m : Int)) (hr : r = min n m) : (execOp a.eval o).run Tryz.prog W = .ok (.value (.int .i64 (r : Int))) W := by
  have e : (if m < n then (m : Int) else (n : Int)) = (r : Int) := by split <;> omega
  unfold execOp
  simp [ho, hx, hy, resolve, invoke, builtin, Builtin.min_, Builtin.min2, Result.andThen, e]
theorem bs_take8 {W : World} {A : Option Addr} {n i : Nat} {l : List UInt8} (h : Bs W A n l) (hi : i ≤ n) : Bs W A i (l.take i) := by
  obtain ⟨h1, h2, h3⟩ := h
  refine ⟨by rw [List.length_take]; omega, Nat.le_trans hi h2, fun h0 => ?_⟩
  obtain ⟨b, off, rfl, hc⟩ := h3 (by omega)
  refine ⟨b, off, rfl, fun j hj => ?_⟩
  rw [hc j (by omega)]
  have : (l.take i).getD j 0 = l.getD j 0 := by
    simp only [List.getD_eq_getElem?_getD, List.getElem?_take]
    rw [if_pos hj]
  rw [this]
theorem bs_low {W : World} {A : Option Addr} {n : Nat} {l : List UInt8} (h : Bs W A n l) (hn : 0 < n) : ∀ b9 o9 s9, A = some ⟨b9, o9, s9⟩ → b9 < W.heap.size := fun b9 o9 s9 e => by
  obtain ⟨b, off, e2, hc⟩ := h.2.2 hn
  rw [e2] at e
  cases e
  exact World.block_lt_of_cell? _ _ (hc 0 hn)
theorem takeMap_cap {d : Nat} {b r : List UInt8} {l : List Int} (h : takeMap d b = .ok (l, r)) : l.length ≤ 200 := by
  unfold takeMap at h
  cases h1 : takeHalf d b with
  | error e => rw [h1] at h; cases h
  | ok p =>
    obtain ⟨h9, r1⟩ := p
    rw [h1] at h
    simp only [] at h
    split at h
    · injection h with h
      injection h with h h2
      have := nums_len h9 0
      rw [← h]
      omega
    · cases h3 : takeHalf d r1 with
      | error e => rw [h3] at h; cases h
      | ok p =>
        obtain ⟨h8, r2⟩ := p
        rw [h3] at h
        simp only [] at h
        split at h
        · cases h
        · injection h with h
          injection h with h h2
          have a1 := nums_len (h9 % 2 ^ 63) 0
          have a2 := nums_len h8 64
          rw [← h, List.length_append]
          omega
def DecP (s : Sents) (r : Except Int (Int × List Fld)) (w : World) (e : Ending) (w' : World) : Prop :=
  (match r with
    | .ok (ty, fs) => ∃ gF, e = .returned (.tuple #[msgV ty (some ⟨gF, 0, none⟩) fs.length fs.length, .nilIface]) ∧ Fl w' (some ⟨gF, 0, none⟩) fs.length fs ∧ w.heap.size ≤ gF
    | .error k => ∃ v, e = .returned (.tuple #[msgV 0 none 0 0, v]) ∧ ErrV s v k ∧ k ≠ 0) ∧ Turn nowhere w w'
theorem decP_err {s : Sents} {r : Except Int (Int × List Fld)} {k : Int} {w w' : World} {v : Value} (hr : r = .error k) (hv : ErrV s v k) (hk : k ≠ 0) (ht : Turn nowhere w w') : DecP s r w (.returned (.tuple #[msgV 0 none 0 0, v])) w' := by
  subst hr
  exact ⟨⟨v, rfl, hv, hk⟩, ht⟩
set_option maxRecDepth 20000 in
set_option maxHeartbeats 1000000 in
theorem decode_walk {s : Sents} {w : World} {dd : Int} {A : Option Addr} {n c : Nat} {b : List UInt8} (he : Env s w) (hbs : Bs w A n b) (hnc : n ≤ c) (hnm : n ≤ 140737488355328) :
    Calls Tryz.prog 28 #[.int .i64 dd, .slice A n c] w (DecP s (mdecode dd b) w) := by
  have hu := (Turn.refl nowhere w).alloc (.cells #[.int .i64 0, .slice none 0 0] 24)
  have hb := Blk.new w 24 #[.int .i64 0, .slice none 0 0]
  obtain ⟨gr, hgr⟩ : ∃ gr, gr = w.heap.size := ⟨_, rfl⟩
  rw [← hgr] at hb
  have HGRE := Lib.hid hgr
  have HGR := Lib.hid (show w.heap.size ≤ gr from by omega)
  have HE := Lib.hid he
  have HBS := Lib.hid hbs
  have HNC := Lib.hid hnc
  have HNM := Lib.hid hnm
  have HU := Lib.hid hu
  have HB := Lib.hid hb
  clear he hbs hnc hnm hu hb hgr
  go_enter Tryz.func28, Tryz.ntmps28
  go_upto_region 1 with fail
  have e2 := HGRE.out
  rw [← e2]
  clear e2 HGRE
  change Code.wp _ _ _ _ (w.alloc (.cells #[.int .i64 0, .slice none 0 0] 24))
  generalize World.alloc w (.cells #[.int .i64 0, .slice none 0 0] 24) = w1 at *
  refine wp_region_lit ?_
  refine wR (v := .int .i64 dd) rfl (exec_move rfl rfl) ?_
  simp only [Act.put, zzA, zz0, zz1]
  by_cases hd : 1 ≤ dd ∧ dd ≤ 3
  · obtain ⟨d, hdn⟩ : ∃ d : Nat, dd = (d : Int) := ⟨dd.toNat, by omega⟩
    subst hdn
    have hd2 : 1 ≤ d ∧ d ≤ 3 := by omega
    have HD := Lib.hid hd2
    have HX := Lib.hid (show mdecode (d : Int) b = match takeType d (b.take 512) with
      | .error e => .error e
      | .ok (ty, b1) => match takeMap d b1 with
        | .error e => .error e
        | .ok (l, b2) => match fsR d l b2 with
          | .error e => .error e
          | .ok (fs, b3) => if b3 = [] then .ok (ty, fs) else .error 54 from by
      unfold mdecode fsR
      rw [if_pos hd, Int.toNat_natCast]
      cases takeType d (b.take 512) with
      | error e => rfl
      | ok p =>
        obtain ⟨ty, b1⟩ := p
        simp only []
        cases takeMap d b1 with
        | error e => rfl
        | ok p =>
          obtain ⟨l, b2⟩ := p
          simp only []
          by_cases hl : allForms d l = true
          · rw [if_pos hl, if_pos hl]
            cases takeFs d l b2 <;> rfl
          · rw [if_neg hl, if_neg hl])
    clear hd hd2
    refine wpList_op rfl fun K9 HK9 => ?_
    go_wp2_with fail
    refine (tongueOf_ok (s := s) HD.out (HE.out.turn HU.out).tab).mono ?_
    rintro e w2 ⟨rfl, ht2⟩
    refine HK9.out _ _ ?_
    clear HK9
    try simp only [Act.put, zzA, zz0, zz1]
    have HU2 := Lib.hid (HU.out.next ht2)
    have HB2 := Lib.hid (HB.out.turn ht2 (fun e => e))
    clear ht2 HB HU
    refine wR (v := .tuple #[tongV d, .nilIface]) rfl (exec_move rfl rfl) ?_
    simp only [Act.put, zzA, zz0, zz1]
    refine wR (v := tongV d) rfl (ix_extract rfl rfl rfl) ?_
    simp only [Act.put, zzA, zz0, zz1]
    refine wR (v := .nilIface) rfl (ix_extract rfl rfl rfl) ?_
    simp only [Act.put, zzA, zz0, zz1]
    refine wR (v := .pointer (some ⟨w2.heap.size, 0, none⟩)) (w' := w2.alloc (.cells #[.int .i64 0, strV [], strV []] 70)) rfl (gx_alloc rfl (zero_tongue _)) ?_
    simp only [Act.put, zzA, zz0, zz1]
    have hb8 := Blk.new w2 70 #[.int .i64 0, strV [], strV []]
    have hu8 := HU2.out.alloc (.cells #[.int .i64 0, strV [], strV []] 70)
    have hbm8 := HB2.out.alloc (.cells #[.int .i64 0, strV [], strV []] 70)
    obtain ⟨bt, hbt⟩ : ∃ bt, bt = w2.heap.size := ⟨_, rfl⟩
    rw [← hbt] at hb8 ⊢
    have HG8 := Lib.hid (show w.heap.size ≤ bt from by rw [hbt]; exact HU2.out.size)
    have HN8 := Lib.hid (show gr ≠ bt from by have := HB2.out.lt; omega)
    clear hbt
    generalize w2.alloc (.cells #[.int .i64 0, strV [], strV []] 70) = w5 at *
    refine wpList_store_row rfl 70 (.tmp 6) (.tmp 14) rfl (tongA d) hb8 rfl rfl rfl (by rw [size_tongue]; rfl) (tongA_one d) ?_
    intro w6 hb6 hu6
    have HBT := Lib.hid hb6
    have HBM := Lib.hid (hbm8.turn hu6 (fun e => HN8.out e))
    have HU6 := Lib.hid (hu8.trans hu6 (fun k hk e => by
      have := HG8.out
      have e : k = bt := e
      omega))
    clear hb8 hu8 hbm8 hb6 hu6 HB2 HU2
    simp only [Act.put, zzA, zz0, zz1]
    refine wR (v := .nilIface) rfl (gx_assign rfl rfl) ?_
    simp only [Act.put, zzA, zz0, zz1]
    obtain ⟨m, hm⟩ : ∃ m, m = min n 512 := ⟨_, rfl⟩
    have HM := Lib.hid hm
    have HMN := Lib.hid (show m ≤ n from by omega)
    have HBS5 := Lib.hid (show Bs w A m (b.take 512) from by
      have h := bs_take8 HBS.out (show m ≤ n from by omega)
      have e : b.take 512 = b.take m := by
        have := HBS.out.1
        rw [List.take_eq_take_min, show min 512 b.length = m from by omega]
      rw [e]
      exact h)
    clear hm
    go_upto_region 4 with fail
    have hS0 : Blk w6.drew bt 70 (tongA d) := HBT.out.drew
    have HBMd := Lib.hid HBM.out.drew
    have HUd := Lib.hid HU6.out.drew
    clear HBT HBM HU6
    refine wp_region_alw (fun W => Blk W bt 70 (tongA d)) (by kernel_rfl) ?_
    generalize w6.drew = w7 at *
    refine alw_take (i := 0) (v := tongV d) rfl (by kernel_rfl) (by kernel_rfl) (fun _ _ _ h => h) (.inl ⟨by rfl, fun W hW => gx_loads rfl rfl (blk_range hW) Tryz.underlying70 rfl (by rw [size_tongue]; rfl)⟩) hS0 ?_
    simp only [Act.put, zzA, zz0, zz1]
    refine alw_take (i := 1) (v := .slice A n c) rfl (by kernel_rfl) (by kernel_rfl) (fun _ _ _ h => h) (.inl ⟨by rfl, fun W hW => exec_move rfl rfl⟩) hS0 ?_
    simp only [Act.put, zzA, zz0, zz1]
    refine alw_take (i := 2) (v := .slice A n c) rfl (by kernel_rfl) (by kernel_rfl) (fun _ _ _ h => h) (.inl ⟨by rfl, fun W hW => exec_move rfl rfl⟩) hS0 ?_
    simp only [Act.put, zzA, zz0, zz1]
    refine alw_take (i := 3) (v := .int .i64 (n : Int)) rfl (by kernel_rfl) (by kernel_rfl) (fun _ _ _ h => h) (.inl ⟨by rfl, fun W hW => gx_len rfl rfl Tryz.underlying26⟩) hS0 ?_
    simp only [Act.put, zzA, zz0, zz1]
    refine alw_take (i := 4) (v := .int .i64 (m : Int)) rfl (by kernel_rfl) (by kernel_rfl) (fun _ _ _ h => h) (.inl ⟨by rfl, fun W hW => gx_min (n := n) (m := 512) rfl rfl rfl HM.out⟩) hS0 ?_
    simp only [Act.put, zzA, zz0, zz1]
    refine alw_take (i := 5) (v := .slice A m c) rfl (by kernel_rfl) (by kernel_rfl) (fun _ _ _ h => h) (.inl ⟨by rfl, fun W hW => exec_slice rfl rfl rfl rfl rfl (slice_to_any A n c m HMN.out HNC.out W)⟩) hS0 ?_
    simp only [Act.put, zzA, zz0, zz1]
    refine alw_take (i := 6) (v := .agg (rdA d (.slice A m c))) rfl (by kernel_rfl) (by kernel_rfl) (fun _ _ _ h => h) (.inl ⟨by rfl, fun W hW => gx_build2 rfl rfl rfl (build_rd d m c A _)⟩) hS0 ?_
    simp only [Act.put, zzA, zz0, zz1]
    refine alw_step (i := 7) (by kernel_rfl) rfl rfl ?_
    intro K1 HK1
    refine wp_run (v := .pointer (some ⟨w7.heap.size, 0, none⟩)) (w' := w7.alloc (.cells #[.int .i64 0, strV [], strV [], .slice none 0 0] 91)) (gx_alloc rfl (zero_rd _)) ?_
    have hb9 := Blk.new w7 91 #[.int .i64 0, strV [], strV [], .slice none 0 0]
    have hu9 := HUd.out.alloc (.cells #[.int .i64 0, strV [], strV [], .slice none 0 0] 91)
    have hbm9 := HBMd.out.alloc (.cells #[.int .i64 0, strV [], strV [], .slice none 0 0] 91)
    have hS1 := hS0.alloc (.cells #[.int .i64 0, strV [], strV [], .slice none 0 0] 91)
    refine HK1.out _ _ ⟨hS1, ?_⟩
    obtain ⟨gR, hgR⟩ : ∃ gR, gR = w7.heap.size := ⟨_, rfl⟩
    rw [← hgR] at hb9 ⊢
    have HGd := Lib.hid (show w.heap.size ≤ gR from by rw [hgR]; exact HUd.out.size)
    have HNR := Lib.hid (show gR ≠ gr from by have := HBMd.out.lt; omega)
    have HNT := Lib.hid (show bt ≠ gR from by have := hS0.lt; omega)
    clear hgR HK1 hS0 HBMd HUd
    generalize w7.alloc (.cells #[.int .i64 0, strV [], strV [], .slice none 0 0] 91) = w8 at *
    simp only [Act.put, zzA, zz0, zz1]
    refine alw_step (i := 8) (by kernel_rfl) rfl rfl ?_
    intro K1 HK1
    refine wp_store_rowU 91 (.tmp 8) (.tmp 26) rfl (rdA d (.slice A m c)) hb9 rfl rfl rfl (by rw [size_rd]; rfl) (rdA_one d m c A) ?_
    intro w9 hb10 hu10
    have HU9 := Lib.hid (above hu9 HGd.out hu10)
    have HR9 := Lib.hid (show Rd w w9 gR d (b.take 512) from ⟨A, m, c, hb10, bs_still HBS5.out HU9.out, by have := HMN.out; have := HNC.out; omega, by have := HMN.out; have := HNM.out; omega, fun hp b9 o9 s9 e => .inl (bs_low HBS5.out hp b9 o9 s9 e)⟩)
    have HB9 := Lib.hid (hbm9.turn hu10 (fun e => HNR.out e.symm))
    refine HK1.out _ _ ⟨hS1.turn hu10 (fun e => HNT.out e), ?_⟩
    clear HK1 hS1 hb9 hu9 hbm9 hb10 hu10 HM HMN HBS5 HBS HNC HNM
    simp only [Act.put, zzA, zz0, zz1]
    refine alw_done rfl ?_
    refine NoPanic.normal ?_
    go_upto_region 5 with fail
    refine wp_region_lit ?_
    refine wR (v := .pointer (some ⟨w9.heap.size, 0, none⟩)) (w' := w9.alloc (.cells #[.int .i64 0, .slice none 0 0] 24)) rfl (gx_alloc rfl (zero_msg _)) ?_
    simp only [Act.put, zzA, zz0, zz1]
    have hb11 := Blk.new w9 24 #[.int .i64 0, .slice none 0 0]
    have hu11 := (Turn.refl nowhere w9).alloc (.cells #[.int .i64 0, .slice none 0 0] 24)
    obtain ⟨gm, hgm⟩ : ∃ gm, gm = w9.heap.size := ⟨_, rfl⟩
    rw [← hgm] at hb11 ⊢
    have HGM := Lib.hid (show w.heap.size ≤ gm from by rw [hgm]; exact HU9.out.size)
    have HNM := Lib.hid (show gm ≠ gr from by have := HB9.out.lt; omega)
    have HNMR := Lib.hid (show gR ≠ gm from by
      obtain ⟨_, _, _, h, _⟩ := HR9.out
      have := h.lt
      omega)
    clear hgm
    generalize w9.alloc (.cells #[.int .i64 0, .slice none 0 0] 24) = w10 at *
    have HBM := Lib.hid hb11
    have HU := Lib.hid (HU9.out.next hu11)
    have HBR := Lib.hid (HB9.out.turn hu11 (fun e => e))
    have HR := Lib.hid (HR9.out.still hu11)
    clear hb11 hu11 HU9 HB9 HR9
    have hp1 := takeType_walk (s := s) HD.out HE.out HU.out HGd.out HR.out
    cases hk : takeType d (b.take 512) with
    | error k =>
      rw [hk] at hp1
      have HP := Lib.hid hp1
      have HX1 := Lib.hid (show mdecode (d : Int) b = .error k from by rw [HX.out, hk])
      clear hk hp1 HX HR
      go_upto_region 6 with fail
      refine wp_region_lit ?_
      refine wpList_op rfl fun K9 HK9 => ?_
      go_wp2_with fail
      refine (HP.out).mono ?_
      rintro e w2 ⟨⟨v, rfl, hv, hk0⟩, ho1, h1⟩
      refine HK9.out _ _ ?_
      clear HK9
      try simp only [Act.put, zzA, zz0, zz1]
      have HV := Lib.hid hv
      have HK := Lib.hid hk0
      obtain ⟨t9, x9, rfl⟩ := errV_some hv hk0
      have HU2 := Lib.hid h1
      have HB2 := Lib.hid (HBM.out.turn ho1 (fun e => HNMR.out e.symm))
      have HB3 := Lib.hid (HBR.out.turn ho1 (fun e => HNR.out e.symm))
      clear hv hk0 ho1 h1
      refine wR (v := .tuple #[.int .i64 0, .iface t9 x9]) rfl (exec_move rfl rfl) ?_
      simp only [Act.put, zzA, zz0, zz1]
      refine wR (v := .int .i64 0) rfl (ix_extract rfl rfl rfl) ?_
      simp only [Act.put, zzA, zz0, zz1]
      refine wR (v := .iface t9 x9) rfl (ix_extract rfl rfl rfl) ?_
      simp only [Act.put, zzA, zz0, zz1]
      refine wR (v := .pointer (some ⟨gm, 0, none⟩)) rfl (exec_field (off := 0) (d := 0) rfl rfl (by kernel_rfl)) ?_
      simp only [Act.put, zzA, zz0, zz1]
      refine wpList_store1 (v := .int .i64 0) rfl 3 (.tmp 31) (.tmp 29) rfl (i := 0) HB2.out rfl rfl (show 0 < 2 by decide) rfl rfl (by kernel_rfl) ?_
      intro hb3 hu3
      obtain ⟨w3, hwn⟩ : ∃ wn, wn = w2.setCell ⟨gm, 0, none⟩ (.int .i64 0) := ⟨_, rfl⟩
      rw [← hwn] at hb3 hu3 ⊢
      clear hwn
      have HU3 := Lib.hid (above HU2.out HGM.out hu3)
      have HBR3 := Lib.hid (HB3.out.turn hu3 (fun e => HNM.out e.symm))
      clear hb3 hu3 HB2 HB3 HU2 HBM HBR HU
      simp only [Act.put, zzA, zz0, zz1]
      refine wR (v := .iface t9 x9) rfl (gx_assign rfl rfl) ?_
      simp only [Act.put, zzA, zz0, zz1]
      go_upto_region 8 with fail
      refine wp_region_lit ?_
      refine wR (v := .agg #[.int .i64 0, .slice none 0 0]) rfl (exec_bld rfl (build_msg0 _)) ?_
      simp only [Act.put, zzA, zz0, zz1]
      refine wR (v := .iface t9 x9) rfl (exec_move rfl rfl) ?_
      simp only [Act.put, zzA, zz0, zz1]
      refine wpList_store_row rfl 24 (.tmp 4) (.tmp 34) rfl #[.int .i64 0, .slice none 0 0] HBR3.out rfl rfl rfl (by rw [size_msg]; rfl) msg0_one ?_
      intro wz hbz huz
      have HBZ := Lib.hid hbz
      have HUZ := Lib.hid (above HU3.out HGR.out huz)
      clear hbz huz
      simp only [Act.put, zzA, zz0, zz1]
      refine wR (v := .iface t9 x9) rfl (gx_assign rfl rfl) ?_
      simp only [Act.put, zzA, zz0, zz1]
      go_wp2_with fail
      refine bodyPost_ret (v := .tuple #[.agg #[.int .i64 0, .slice none 0 0], .iface t9 x9]) (ret_cell2 rfl _ _ gr _ _ _ rfl rfl HBZ.out Tryz.underlying24 rfl (by rw [size_msg]; rfl)) rfl ?_
      exact decP_err HX1.out HV.out HK.out HUZ.out
    | ok p =>
      obtain ⟨ty, b1⟩ := p
      rw [hk] at hp1
      have HP := Lib.hid hp1
      have HX1 := Lib.hid (show mdecode (d : Int) b = match takeMap d b1 with
        | .error e => .error e
        | .ok (l, b2) => match fsR d l b2 with
          | .error e => .error e
          | .ok (fs, b3) => if b3 = [] then .ok (ty, fs) else .error 54 from by rw [HX.out, hk])
      clear hk hp1 HX HR
      go_upto_region 6 with fail
      refine wp_region_lit ?_
      refine wpList_op rfl fun K9 HK9 => ?_
      go_wp2_with fail
      refine (HP.out).mono ?_
      rintro e w2 ⟨⟨rfl, hr2⟩, ho1, h1⟩
      refine HK9.out _ _ ?_
      clear HK9
      try simp only [Act.put, zzA, zz0, zz1]
      have HU2 := Lib.hid h1
      have HR2 := Lib.hid hr2
      have HB2 := Lib.hid (HBM.out.turn ho1 (fun e => HNMR.out e.symm))
      have HB3 := Lib.hid (HBR.out.turn ho1 (fun e => HNR.out e.symm))
      clear hr2 ho1 h1
      refine wR (v := .tuple #[.int .i64 ty, .nilIface]) rfl (exec_move rfl rfl) ?_
      simp only [Act.put, zzA, zz0, zz1]
      refine wR (v := .int .i64 ty) rfl (ix_extract rfl rfl rfl) ?_
      simp only [Act.put, zzA, zz0, zz1]
      refine wR (v := .nilIface) rfl (ix_extract rfl rfl rfl) ?_
      simp only [Act.put, zzA, zz0, zz1]
      refine wR (v := .pointer (some ⟨gm, 0, none⟩)) rfl (exec_field (off := 0) (d := 0) rfl rfl (by kernel_rfl)) ?_
      simp only [Act.put, zzA, zz0, zz1]
      refine wpList_store1 (v := .int .i64 ty) rfl 3 (.tmp 31) (.tmp 29) rfl (i := 0) HB2.out rfl rfl (show 0 < 2 by decide) rfl rfl (by kernel_rfl) ?_
      intro hb3 hu3
      obtain ⟨w3, hwn⟩ : ∃ wn, wn = w2.setCell ⟨gm, 0, none⟩ (.int .i64 ty) := ⟨_, rfl⟩
      rw [← hwn] at hb3 hu3 ⊢
      clear hwn
      have HU3 := Lib.hid (above HU2.out HGM.out hu3)
      have HBR3 := Lib.hid (HB3.out.turn hu3 (fun e => HNM.out e.symm))
      have HBM3 := Lib.hid (show Blk w3 gm 24 #[.int .i64 ty, .slice none 0 0] from hb3)
      have HR3 := Lib.hid (rd_turn HR2.out hu3 HNMR.out HGM.out HB2.out (by decide))
      clear hb3 hu3 HB2 HB3 HU2 HR2 HBM HBR HU HP
      simp only [Act.put, zzA, zz0, zz1]
      refine wR (v := .nilIface) rfl (gx_assign rfl rfl) ?_
      simp only [Act.put, zzA, zz0, zz1]
      have hp1 := takeMap_walk (s := s) HD.out HE.out HU3.out HGd.out HR3.out
      cases hk : takeMap d b1 with
      | error k =>
        rw [hk] at hp1
        have HP := Lib.hid hp1
        have HX2 := Lib.hid (show mdecode (d : Int) b = .error k from by rw [HX1.out, hk])
        clear hk hp1 HX1 HR3
        go_upto_region 9 with fail
        refine wp_region_lit ?_
        refine wpList_op rfl fun K9 HK9 => ?_
        go_wp2_with fail
        refine (HP.out).mono ?_
        rintro e w4 ⟨⟨v, rfl, hv, hk0⟩, ho1, h1⟩
        refine HK9.out _ _ ?_
        clear HK9
        try simp only [Act.put, zzA, zz0, zz1]
        have HV := Lib.hid hv
        have HK := Lib.hid hk0
        obtain ⟨t9, x9, rfl⟩ := errV_some hv hk0
        have H4U := Lib.hid h1
        have H4M := Lib.hid (HBM3.out.turn ho1 (fun e => HNMR.out e.symm))
        have H4R := Lib.hid (HBR3.out.turn ho1 (fun e => HNR.out e.symm))
        clear hv hk0 ho1 h1
        refine wR (v := .tuple #[.slice none 0 0, .iface t9 x9]) rfl (exec_move rfl rfl) ?_
        simp only [Act.put, zzA, zz0, zz1]
        refine wR (v := .slice none 0 0) rfl (ix_extract rfl rfl rfl) ?_
        simp only [Act.put, zzA, zz0, zz1]
        refine wR (v := .iface t9 x9) rfl (ix_extract rfl rfl rfl) ?_
        simp only [Act.put, zzA, zz0, zz1]
        refine wR (v := .slice none 0 0) rfl (gx_assign rfl rfl) ?_
        simp only [Act.put, zzA, zz0, zz1]
        refine wR (v := .iface t9 x9) rfl (gx_assign rfl rfl) ?_
        simp only [Act.put, zzA, zz0, zz1]
        go_upto_region 11 with fail
        refine wp_region_lit ?_
        refine wR (v := .agg #[.int .i64 0, .slice none 0 0]) rfl (exec_bld rfl (build_msg0 _)) ?_
        simp only [Act.put, zzA, zz0, zz1]
        refine wR (v := .iface t9 x9) rfl (exec_move rfl rfl) ?_
        simp only [Act.put, zzA, zz0, zz1]
        refine wpList_store_row rfl 24 (.tmp 4) (.tmp 42) rfl #[.int .i64 0, .slice none 0 0] H4R.out rfl rfl rfl (by rw [size_msg]; rfl) msg0_one ?_
        intro wz hbz huz
        have HBZ := Lib.hid hbz
        have HUZ := Lib.hid (above H4U.out HGR.out huz)
        clear hbz huz
        simp only [Act.put, zzA, zz0, zz1]
        refine wR (v := .iface t9 x9) rfl (gx_assign rfl rfl) ?_
        simp only [Act.put, zzA, zz0, zz1]
        go_wp2_with fail
        refine bodyPost_ret (v := .tuple #[.agg #[.int .i64 0, .slice none 0 0], .iface t9 x9]) (ret_cell2 rfl _ _ gr _ _ _ rfl rfl HBZ.out Tryz.underlying24 rfl (by rw [size_msg]; rfl)) rfl ?_
        exact decP_err HX2.out HV.out HK.out HUZ.out
      | ok p =>
        obtain ⟨l, b2⟩ := p
        have HCP := Lib.hid (takeMap_cap hk)
        rw [hk] at hp1
        have HP := Lib.hid hp1
        have HX2 := Lib.hid (show mdecode (d : Int) b = match fsR d l b2 with
          | .error e => .error e
          | .ok (fs, b3) => if b3 = [] then .ok (ty, fs) else .error 54 from by rw [HX1.out, hk])
        clear hk hp1 HX1 HR3
        go_upto_region 9 with fail
        refine wp_region_lit ?_
        refine wpList_op rfl fun K9 HK9 => ?_
        go_wp2_with fail
        refine (HP.out).mono ?_
        rintro e w4 ⟨⟨AL, cl, rfl, hrow, hr4⟩, ho1, h1⟩
        refine HK9.out _ _ ?_
        clear HK9
        try simp only [Act.put, zzA, zz0, zz1]
        have H4U := Lib.hid h1
        have H4D := Lib.hid hr4
        have HRW := Lib.hid hrow
        have H4M := Lib.hid (HBM3.out.turn ho1 (fun e => HNMR.out e.symm))
        have H4R := Lib.hid (HBR3.out.turn ho1 (fun e => HNR.out e.symm))
        clear hr4 ho1 h1 hrow HP
        refine wR (v := .tuple #[.slice AL l.length cl, .nilIface]) rfl (exec_move rfl rfl) ?_
        simp only [Act.put, zzA, zz0, zz1]
        refine wR (v := .slice AL l.length cl) rfl (ix_extract rfl rfl rfl) ?_
        simp only [Act.put, zzA, zz0, zz1]
        refine wR (v := .nilIface) rfl (ix_extract rfl rfl rfl) ?_
        simp only [Act.put, zzA, zz0, zz1]
        refine wR (v := .slice AL l.length cl) rfl (gx_assign rfl rfl) ?_
        simp only [Act.put, zzA, zz0, zz1]
        refine wR (v := .nilIface) rfl (gx_assign rfl rfl) ?_
        simp only [Act.put, zzA, zz0, zz1]
        have hp1 := takeFields_walk (s := s) HD.out HE.out H4U.out HGd.out H4D.out rfl HRW.out HCP.out
        cases hk : fsR d l b2 with
        | error k =>
          rw [hk] at hp1
          have HP := Lib.hid hp1
          have HX3 := Lib.hid (show mdecode (d : Int) b = .error k from by rw [HX2.out, hk])
          clear hk hp1 HX2 H4D
          go_upto_region 12 with fail
          refine wp_region_lit ?_
          refine wR (v := .slice AL l.length cl) rfl (exec_move rfl rfl) ?_
          simp only [Act.put, zzA, zz0, zz1]
          refine wpList_op rfl fun K9 HK9 => ?_
          go_wp2_with fail
          refine (HP.out).mono ?_
          rintro e w5 ⟨⟨v, rfl, hv, hk0⟩, ho1, h1⟩
          refine HK9.out _ _ ?_
          clear HK9
          try simp only [Act.put, zzA, zz0, zz1]
          have HV := Lib.hid hv
          have HK := Lib.hid hk0
          obtain ⟨t9, x9, rfl⟩ := errV_some hv hk0
          have H5U := Lib.hid h1
          have H5M := Lib.hid (H4M.out.turn ho1 (fun e => HNMR.out e.symm))
          have H5R := Lib.hid (H4R.out.turn ho1 (fun e => HNR.out e.symm))
          clear hv hk0 ho1 h1
          refine wR (v := .tuple #[.slice none 0 0, .iface t9 x9]) rfl (exec_move rfl rfl) ?_
          simp only [Act.put, zzA, zz0, zz1]
          refine wR (v := .slice none 0 0) rfl (ix_extract rfl rfl rfl) ?_
          simp only [Act.put, zzA, zz0, zz1]
          refine wR (v := .iface t9 x9) rfl (ix_extract rfl rfl rfl) ?_
          simp only [Act.put, zzA, zz0, zz1]
          refine wR (v := .pointer (some ⟨gm, 1, none⟩)) rfl (exec_field (off := 0) (d := 1) rfl rfl (by kernel_rfl)) ?_
          simp only [Act.put, zzA, zz0, zz1]
          refine wpList_store1 (v := .slice none 0 0) rfl 22 (.tmp 49) (.tmp 47) rfl (i := 1) H5M.out rfl rfl (show 1 < 2 by decide) rfl rfl (by kernel_rfl) ?_
          intro hb3 hu3
          obtain ⟨w6, hwn⟩ : ∃ wn, wn = w5.setCell ⟨gm, 1, none⟩ (.slice none 0 0) := ⟨_, rfl⟩
          rw [← hwn] at hb3 hu3 ⊢
          clear hwn
          have HU6 := Lib.hid (above H5U.out HGM.out hu3)
          have HBR6 := Lib.hid (H5R.out.turn hu3 (fun e => HNM.out e.symm))
          clear hb3 hu3 H5M H5R H5U
          simp only [Act.put, zzA, zz0, zz1]
          refine wR (v := .iface t9 x9) rfl (gx_assign rfl rfl) ?_
          simp only [Act.put, zzA, zz0, zz1]
          go_upto_region 14 with fail
          refine wp_region_lit ?_
          refine wR (v := .agg #[.int .i64 0, .slice none 0 0]) rfl (exec_bld rfl (build_msg0 _)) ?_
          simp only [Act.put, zzA, zz0, zz1]
          refine wR (v := .iface t9 x9) rfl (exec_move rfl rfl) ?_
          simp only [Act.put, zzA, zz0, zz1]
          refine wpList_store_row rfl 24 (.tmp 4) (.tmp 52) rfl #[.int .i64 0, .slice none 0 0] HBR6.out rfl rfl rfl (by rw [size_msg]; rfl) msg0_one ?_
          intro wz hbz huz
          have HBZ := Lib.hid hbz
          have HUZ := Lib.hid (above HU6.out HGR.out huz)
          clear hbz huz
          simp only [Act.put, zzA, zz0, zz1]
          refine wR (v := .iface t9 x9) rfl (gx_assign rfl rfl) ?_
          simp only [Act.put, zzA, zz0, zz1]
          go_wp2_with fail
          refine bodyPost_ret (v := .tuple #[.agg #[.int .i64 0, .slice none 0 0], .iface t9 x9]) (ret_cell2 rfl _ _ gr _ _ _ rfl rfl HBZ.out Tryz.underlying24 rfl (by rw [size_msg]; rfl)) rfl ?_
          exact decP_err HX3.out HV.out HK.out HUZ.out
        | ok p =>
          obtain ⟨fs, b3⟩ := p
          rw [hk] at hp1
          have HP := Lib.hid hp1
          have HX3 := Lib.hid (show mdecode (d : Int) b = if b3 = [] then .ok (ty, fs) else .error 54 from by rw [HX2.out, hk])
          clear hk hp1 HX2 H4D
          go_upto_region 12 with fail
          refine wp_region_lit ?_
          refine wR (v := .slice AL l.length cl) rfl (exec_move rfl rfl) ?_
          simp only [Act.put, zzA, zz0, zz1]
          refine wpList_op rfl fun K9 HK9 => ?_
          go_wp2_with fail
          refine (HP.out).mono ?_
          rintro e w5 ⟨⟨gF, rfl, hfl, hgF, hgF2, hr5⟩, ho1, h1⟩
          refine HK9.out _ _ ?_
          clear HK9
          try simp only [Act.put, zzA, zz0, zz1]
          have H5U := Lib.hid h1
          have H5D := Lib.hid hr5
          have HFL := Lib.hid hfl
          have HGF := Lib.hid hgF
          have HNF := Lib.hid (show gm ≠ gF from by have := H4M.out.lt; omega)
          have HNF2 := Lib.hid (show gr ≠ gF from by have := H4R.out.lt; omega)
          have H5M := Lib.hid (H4M.out.turn ho1 (fun e => HNMR.out e.symm))
          have H5R := Lib.hid (H4R.out.turn ho1 (fun e => HNR.out e.symm))
          clear hfl hgF hgF2 hr5 ho1 h1 HP
          refine wR (v := .tuple #[.slice (some ⟨gF, 0, none⟩) fs.length fs.length, .nilIface]) rfl (exec_move rfl rfl) ?_
          simp only [Act.put, zzA, zz0, zz1]
          refine wR (v := .slice (some ⟨gF, 0, none⟩) fs.length fs.length) rfl (ix_extract rfl rfl rfl) ?_
          simp only [Act.put, zzA, zz0, zz1]
          refine wR (v := .nilIface) rfl (ix_extract rfl rfl rfl) ?_
          simp only [Act.put, zzA, zz0, zz1]
          refine wR (v := .pointer (some ⟨gm, 1, none⟩)) rfl (exec_field (off := 0) (d := 1) rfl rfl (by kernel_rfl)) ?_
          simp only [Act.put, zzA, zz0, zz1]
          refine wpList_store1 (v := .slice (some ⟨gF, 0, none⟩) fs.length fs.length) rfl 22 (.tmp 49) (.tmp 47) rfl (i := 1) H5M.out rfl rfl (show 1 < 2 by decide) rfl rfl (by kernel_rfl) ?_
          intro hb3 hu3
          obtain ⟨w6, hwn⟩ : ∃ wn, wn = w5.setCell ⟨gm, 1, none⟩ (.slice (some ⟨gF, 0, none⟩) fs.length fs.length) := ⟨_, rfl⟩
          rw [← hwn] at hb3 hu3 ⊢
          clear hwn
          have HU6 := Lib.hid (above H5U.out HGM.out hu3)
          have HBR6 := Lib.hid (H5R.out.turn hu3 (fun e => HNM.out e.symm))
          have HBM6 := Lib.hid (show Blk w6 gm 24 #[.int .i64 ty, .slice (some ⟨gF, 0, none⟩) fs.length fs.length] from hb3)
          have HR6 := Lib.hid (rd_turn H5D.out hu3 HNMR.out HGM.out H5M.out (by decide))
          have HFL6 := Lib.hid (show Fl w6 (some ⟨gF, 0, none⟩) fs.length fs from by
            obtain ⟨q1, q2, q3⟩ := HFL.out
            refine ⟨q1, q2, fun hp => ?_⟩
            obtain ⟨b9, o9, e9, h9⟩ := q3 hp
            refine ⟨b9, o9, e9, fun i f hf j v hv => ?_⟩
            have hc := h9 i f hf j v hv
            have hne : b9 ≠ gm := fun e3 => by
              cases e9
              exact HNF.out e3.symm
            exact (hu3.cell (World.block_lt_of_cell? _ _ hc) (fun e => hne e)).trans hc)
          clear hb3 hu3 H5M H5R H5U H5D HFL
          simp only [Act.put, zzA, zz0, zz1]
          refine wR (v := .nilIface) rfl (gx_assign rfl rfl) ?_
          simp only [Act.put, zzA, zz0, zz1]
          obtain ⟨A7, n7, c7, hg7, hb7, _⟩ := id HR6.out
          have HB7 := Lib.hid hb7
          have HG7 := Lib.hid hg7
          clear hg7 hb7
          go_upto_region 15 with fail
          refine wp_region_lit ?_
          refine wR (v := .pointer (some ⟨gR, 3, none⟩)) rfl (exec_field (off := 0) (d := 3) rfl rfl fieldOff_rest) ?_
          simp only [Act.put, zzA, zz0, zz1]
          refine wR (v := .slice A7 n7 c7) rfl (exec_load1 rfl rfl (by kernel_rfl) (HG7.out.cell 3)) ?_
          simp only [Act.put, zzA, zz0, zz1]
          refine wR (v := .int .i64 (n7 : Int)) rfl (gx_len rfl rfl Tryz.underlying26) ?_
          simp only [Act.put, zzA, zz0, zz1]
          by_cases hb30 : b3 = []
          · have hn7 : n7 = 0 := by rw [← HB7.out.1, hb30]; rfl
            subst hn7
            have HX4 := Lib.hid (show mdecode (d : Int) b = .ok (ty, fs) from by rw [HX3.out, if_pos hb30])
            clear hb30 HX3 HB7 HG7 HR6
            refine wR (v := .bool false) rfl (ix_gtr rfl rfl rfl (by decide)) ?_
            simp only [Act.put, zzA, zz0, zz1]
            go_upto_region 17 with fail
            refine wp_region_lit ?_
            refine wR (v := msgV ty (some ⟨gF, 0, none⟩) fs.length fs.length) rfl (gx_loads rfl rfl (blk_range HBM6.out) Tryz.underlying24 rfl (by rw [size_msg]; rfl)) ?_
            simp only [Act.put, zzA, zz0, zz1]
            refine wpList_store_row rfl 24 (.tmp 4) (.tmp 60) rfl #[.int .i64 ty, .slice (some ⟨gF, 0, none⟩) fs.length fs.length] HBR6.out rfl rfl rfl (by rw [size_msg]; rfl) (msgA_one ty _ _ _) ?_
            intro wz hbz huz
            have HBZ := Lib.hid hbz
            have HUZ := Lib.hid (above HU6.out HGR.out huz)
            have HFZ := Lib.hid (show Fl wz (some ⟨gF, 0, none⟩) fs.length fs from by
              obtain ⟨q1, q2, q3⟩ := HFL6.out
              refine ⟨q1, q2, fun hp => ?_⟩
              obtain ⟨b9, o9, e9, h9⟩ := q3 hp
              refine ⟨b9, o9, e9, fun i f hf j v hv => ?_⟩
              have hc := h9 i f hf j v hv
              have hne : b9 ≠ gr := fun e3 => by
                cases e9
                exact HNF2.out e3.symm
              exact (huz.cell (World.block_lt_of_cell? _ _ hc) (fun e => hne e)).trans hc)
            clear hbz huz HFL6
            simp only [Act.put, zzA, zz0, zz1]
            refine wR (v := .nilIface) rfl (gx_assign rfl rfl) ?_
            simp only [Act.put, zzA, zz0, zz1]
            go_wp2_with fail
            refine bodyPost_ret (v := .tuple #[.agg #[.int .i64 ty, .slice (some ⟨gF, 0, none⟩) fs.length fs.length], .nilIface]) (ret_cell2 rfl _ _ gr _ _ _ rfl rfl HBZ.out Tryz.underlying24 rfl (by rw [size_msg]; rfl)) rfl ?_
            unfold DecP
            rw [HX4.out]
            exact ⟨⟨gF, rfl, HFZ.out, HGF.out⟩, HUZ.out⟩
          · have hn7 : (0 : Int) < (n7 : Int) := by
              have h1 := HB7.out.1
              have h2 := List.length_pos_iff.2 hb30
              omega
            have HX4 := Lib.hid (show mdecode (d : Int) b = .error 54 from by rw [HX3.out, if_neg hb30])
            have HLE := Lib.hid (show 4 < w.heap.size from World.block_lt_of_cell? _ _ HE.out.sen.more.1)
            clear hb30 HX3 HB7 HG7 HR6
            refine wR (v := .bool true) rfl (ix_gtr rfl rfl rfl (by simpa using hn7)) ?_
            simp only [Act.put, zzA, zz0, zz1]
            go_upto_region 16 with fail
            have hS0 : w6.drew.cell? ⟨4, 0, none⟩ = some (errS s.more) := (HE.out.turn HU6.out).sen.more.1
            have HBd := Lib.hid HBR6.out.drew
            have HUd := Lib.hid HU6.out.drew
            clear HBR6 HU6 HBM6 HFL6
            refine wp_region_alw (fun W => W.cell? ⟨4, 0, none⟩ = some (errS s.more)) (by kernel_rfl) ?_
            generalize w6.drew = w7 at *
            refine alw_take (i := 0) (v := .agg #[.int .i64 0, .slice none 0 0]) rfl (by kernel_rfl) (by kernel_rfl) (fun _ _ _ h => h) (.inl ⟨by rfl, fun W hW => exec_bld rfl (build_msg0 _)⟩) hS0 ?_
            simp only [Act.put, zzA, zz0, zz1]
            refine alw_take (i := 1) (v := errS s.more) rfl (by kernel_rfl) (by kernel_rfl) (fun _ _ _ h => h) (.inl ⟨by rfl, fun W hW => exec_load1 rfl rfl (by kernel_rfl) hW⟩) hS0 ?_
            simp only [Act.put, zzA, zz0, zz1]
            refine alw_step (i := 2) (by kernel_rfl) rfl rfl ?_
            intro K1 HK1
            refine wp_store_rowU 24 (.tmp 4) (.tmp 58) rfl #[.int .i64 0, .slice none 0 0] HBd.out rfl rfl rfl (by rw [size_msg]; rfl) msg0_one ?_
            intro wz hbz huz
            have hS1 : wz.cell? ⟨4, 0, none⟩ = some (errS s.more) := (huz.cell (World.block_lt_of_cell? _ _ hS0) (fun e => by
              have e : 4 = gr := e
              have := HLE.out
              have := HGR.out
              omega)).trans hS0
            have HBZ := Lib.hid hbz
            have HUZ := Lib.hid (above HUd.out HGR.out huz)
            clear hbz huz HUd HBd hS0
            refine HK1.out _ _ ⟨hS1, ?_⟩
            clear HK1
            simp only [Act.put, zzA, zz0, zz1]
            refine alw_take (i := 3) (v := errS s.more) rfl (by kernel_rfl) (by kernel_rfl) (fun _ _ _ h => h) (.inl ⟨by rfl, fun W hW => gx_assign rfl rfl⟩) hS1 ?_
            simp only [Act.put, zzA, zz0, zz1]
            refine alw_done rfl ?_
            clear hS1
            refine NoPanic.normal ?_
            go_wp2_with fail
            refine bodyPost_ret (v := .tuple #[.agg #[.int .i64 0, .slice none 0 0], errS s.more]) (ret_cell2 rfl _ _ gr _ _ _ rfl rfl HBZ.out Tryz.underlying24 rfl (by rw [size_msg]; rfl)) rfl ?_
            exact decP_err HX4.out ErrV.more (by decide) HUZ.out
  · have HX := Lib.hid (show mdecode dd b = .error 50 from by unfold mdecode; rw [if_neg hd])
    refine wpList_op rfl fun K9 HK9 => ?_
    go_wp2_with fail
    refine (tongueOf_bad (s := s) hd (HE.out.turn HU.out).sen).mono ?_
    rintro e w2 ⟨rfl, ht2⟩
    refine HK9.out _ _ ?_
    clear HK9
    try simp only [Act.put, zzA, zz0, zz1]
    have HU2 := Lib.hid (HU.out.next ht2)
    have HB2 := Lib.hid (HB.out.turn ht2 (fun e => e))
    clear ht2 HB HU hd
    refine wR (v := .tuple #[.agg #[.int .i64 0, strV [], strV []], errS s.dialect]) rfl (exec_move rfl rfl) ?_
    simp only [Act.put, zzA, zz0, zz1]
    refine wR (v := .agg #[.int .i64 0, strV [], strV []]) rfl (ix_extract rfl rfl rfl) ?_
    simp only [Act.put, zzA, zz0, zz1]
    refine wR (v := errS s.dialect) rfl (ix_extract rfl rfl rfl) ?_
    simp only [Act.put, zzA, zz0, zz1]
    refine wR (v := .pointer (some ⟨w2.heap.size, 0, none⟩)) (w' := w2.alloc (.cells #[.int .i64 0, strV [], strV []] 70)) rfl (gx_alloc rfl (zero_tongue _)) ?_
    simp only [Act.put, zzA, zz0, zz1]
    have hb8 := Blk.new w2 70 #[.int .i64 0, strV [], strV []]
    have hu8 := HU2.out.alloc (.cells #[.int .i64 0, strV [], strV []] 70)
    have hbm8 := HB2.out.alloc (.cells #[.int .i64 0, strV [], strV []] 70)
    obtain ⟨bt, hbt⟩ : ∃ bt, bt = w2.heap.size := ⟨_, rfl⟩
    rw [← hbt] at hb8 ⊢
    have HG8 := Lib.hid (show w.heap.size ≤ bt from by rw [hbt]; exact HU2.out.size)
    have HN8 := Lib.hid (show gr ≠ bt from by have := HB2.out.lt; omega)
    clear hbt
    generalize w2.alloc (.cells #[.int .i64 0, strV [], strV []] 70) = w5 at *
    refine wpList_store_row rfl 70 (.tmp 6) (.tmp 14) rfl #[.int .i64 0, strV [], strV []] hb8 rfl rfl rfl (by rw [size_tongue]; rfl) zeroT_one ?_
    intro w6 hb6 hu6
    have HBT := Lib.hid hb6
    have HBM := Lib.hid (hbm8.turn hu6 (fun e => HN8.out e))
    have HU6 := Lib.hid (hu8.trans hu6 (fun k hk e => by
      have := HG8.out
      have e : k = bt := e
      omega))
    clear hb8 hu8 hbm8 hb6 hu6 HB2 HU2
    simp only [Act.put, zzA, zz0, zz1]
    refine wR (v := errS s.dialect) rfl (gx_assign rfl rfl) ?_
    simp only [Act.put, zzA, zz0, zz1]
    unfold errS
    go_upto_region 3 with fail
    refine wp_region_lit ?_
    refine wR (v := .agg #[.int .i64 0, .slice none 0 0]) rfl (exec_bld rfl (build_msg0 _)) ?_
    simp only [Act.put, zzA, zz0, zz1]
    refine wR (v := .iface 236 (.pointer (some s.dialect))) rfl (exec_move rfl rfl) ?_
    simp only [Act.put, zzA, zz0, zz1]
    refine wpList_store_row rfl 24 (.tmp 4) (.tmp 18) rfl #[.int .i64 0, .slice none 0 0] HBM.out rfl rfl rfl (by rw [size_msg]; rfl) msg0_one ?_
    intro wz hbz huz
    have HBZ := Lib.hid hbz
    have HUZ := Lib.hid (above HU6.out HGR.out huz)
    clear hbz huz
    simp only [Act.put, zzA, zz0, zz1]
    refine wR (v := .iface 236 (.pointer (some s.dialect))) rfl (gx_assign rfl rfl) ?_
    simp only [Act.put, zzA, zz0, zz1]
    go_wp2_with fail
    refine bodyPost_ret (v := .tuple #[.agg #[.int .i64 0, .slice none 0 0], .iface 236 (.pointer (some s.dialect))]) (ret_cell2 rfl _ _ gr _ _ _ rfl rfl HBZ.out Tryz.underlying24 rfl (by rw [size_msg]; rfl)) rfl ?_
    exact decP_err HX.out ErrV.dialect (by decide) HUZ.out
end Go.Proofs.YticofobhkmabiaaGreatDoor
namespace Go.Proofs.YticofobhkmabiaaGreatDoor
open Go.RowKit
open Fdd
set_option linter.unusedVariables false
set_option linter.unusedSimpArgs false
def msgE (r : Except Int (Int × List Fld)) : Int × List Fld := match r with
  | .ok p => p
  | .error _ => (0, [])
theorem fl_nil (w : World) : Fl w none 0 [] := ⟨rfl, by decide, fun h => absurd h (by decide)⟩
/-- what decode answers, in either case -/
theorem decP_any {s : Sents} {r : Except Int (Int × List Fld)} {w w' : World} {e : Ending} (h : DecP s r w e w') :
    ∃ A n c v, e = .returned (.tuple #[msgV (msgE r).1 A n c, v]) ∧ ErrV s v (codeE r) ∧ Fl w' A n (msgE r).2 ∧ (∀ b o t, A = some ⟨b, o, t⟩ → w.heap.size ≤ b) ∧ Turn nowhere w w' := by
  obtain ⟨h, ht⟩ := h
  cases r with
  | error k =>
    obtain ⟨v, rfl, hv, _⟩ := h
    exact ⟨none, 0, 0, v, rfl, hv, fl_nil w', fun _ _ _ e => (by cases e), ht⟩
  | ok p =>
    obtain ⟨ty, fs⟩ := p
    obtain ⟨gF, rfl, hf, hg⟩ := h
    exact ⟨_, _, _, _, rfl, ErrV.nil, hf, fun b o t e => (by cases e; exact hg), ht⟩
/-- a block that is none of a row of fields turns -/
theorem fl_turn {w w' : World} {A : Option Addr} {n g : Nat} {fs : List Fld} (h : Fl w A n fs) (ht : Turn (only g) w w') (hA : ∀ b o t, A = some ⟨b, o, t⟩ → b ≠ g) : Fl w' A n fs := by
  obtain ⟨q1, q2, q3⟩ := h
  refine ⟨q1, q2, fun hp => ?_⟩
  obtain ⟨b9, o9, e9, h9⟩ := q3 hp
  refine ⟨b9, o9, e9, fun i f hf j v hv => ?_⟩
  have hc := h9 i f hf j v hv
  exact (ht.cell (World.block_lt_of_cell? _ _ hc) (fun e => hA b9 o9 none e9 e)).trans hc
def DecodeP (r : Except Int (Int × List Fld)) (w : World) (e : Ending) (w' : World) : Prop :=
  ∃ A n c, e = .returned (.tuple #[msgV (msgE r).1 A n c, .int .i64 (codeE r)]) ∧ Fl w' A n (msgE r).2 ∧ (∀ b o t, A = some ⟨b, o, t⟩ → w.heap.size ≤ b) ∧ Turn nowhere w w'
set_option maxRecDepth 20000 in
set_option maxHeartbeats 1000000 in
theorem Decode_walk {s : Sents} {w : World} {dd : Int} {A : Option Addr} {n c : Nat} {b : List UInt8} (he : Env s w) (hbs : Bs w A n b) (hnc : n ≤ c) (hnm : n ≤ 140737488355328) :
    Calls Tryz.prog 13 #[.int .i64 dd, .slice A n c] w (DecodeP (mdecode dd b) w) := by
  have hu := (Turn.refl nowhere w).alloc (.cells #[.int .i64 0, .slice none 0 0] 24)
  have hb := Blk.new w 24 #[.int .i64 0, .slice none 0 0]
  obtain ⟨gr, hgr⟩ : ∃ gr, gr = w.heap.size := ⟨_, rfl⟩
  rw [← hgr] at hb
  have HGRE := Lib.hid hgr
  have HGR := Lib.hid (show w.heap.size ≤ gr from by omega)
  have HE := Lib.hid he
  have HBS := Lib.hid hbs
  have HNC := Lib.hid hnc
  have HNM := Lib.hid hnm
  have HU := Lib.hid hu
  have HB := Lib.hid hb
  clear he hbs hnc hnm hu hb hgr
  go_enter Tryz.func13, Tryz.ntmps13
  go_upto_region 1 with fail
  have e2 := HGRE.out
  rw [← e2]
  clear e2 HGRE
  change Code.wp _ _ _ _ (w.alloc (.cells #[.int .i64 0, .slice none 0 0] 24))
  generalize World.alloc w (.cells #[.int .i64 0, .slice none 0 0] 24) = w1 at *
  refine wp_region_lit ?_
  refine wR (v := .int .i64 dd) rfl (exec_move rfl rfl) ?_
  simp only [Act.put, zzA, zz0, zz1]
  refine wR (v := .slice A n c) rfl (exec_move rfl rfl) ?_
  simp only [Act.put, zzA, zz0, zz1]
  have hD := (decode_walk (s := s) (dd := dd) (HE.out.turn HU.out) (bs_still HBS.out HU.out) HNC.out HNM.out).mono (fun _ _ h => decP_any h)
  generalize mdecode dd b = r at *
  have HDD := Lib.hid hD
  clear hD
  refine wpList_op rfl fun K9 HK9 => ?_
  go_wp2_with fail
  refine (HDD.out).mono ?_
  rintro e w2 ⟨A2, n2, c2, v2, rfl, hv2, hf2, hg2, ht2⟩
  refine HK9.out _ _ ?_
  clear HK9
  try simp only [Act.put, zzA, zz0, zz1]
  have HV := Lib.hid hv2
  have HF2 := Lib.hid hf2
  have HG2 := Lib.hid hg2
  have HU2 := Lib.hid (HU.out.next ht2)
  have HB2 := Lib.hid (HB.out.turn ht2 (fun e => e))
  have HL1 := Lib.hid HB.out.lt
  clear hv2 hf2 hg2 ht2 HDD HB HU HBS HNC HNM
  unfold msgV
  refine wR (v := .tuple #[.agg #[.int .i64 (msgE r).1, .slice A2 n2 c2], v2]) rfl (exec_move rfl rfl) ?_
  simp only [Act.put, zzA, zz0, zz1]
  refine wR (v := .agg #[.int .i64 (msgE r).1, .slice A2 n2 c2]) rfl (ix_extract rfl rfl rfl) ?_
  simp only [Act.put, zzA, zz0, zz1]
  refine wR (v := v2) rfl (ix_extract rfl rfl rfl) ?_
  simp only [Act.put, zzA, zz0, zz1]
  refine wR (v := .pointer (some ⟨w2.heap.size, 0, none⟩)) (w' := w2.alloc (.cells #[.int .i64 0, .slice none 0 0] 24)) rfl (gx_alloc rfl (zero_msg _)) ?_
  simp only [Act.put, zzA, zz0, zz1]
  have hb8 := Blk.new w2 24 #[.int .i64 0, .slice none 0 0]
  have hu8 := HU2.out.alloc (.cells #[.int .i64 0, .slice none 0 0] 24)
  have hv8 := (Turn.refl nowhere w2).alloc (.cells #[.int .i64 0, .slice none 0 0] 24)
  have hbm8 := HB2.out.alloc (.cells #[.int .i64 0, .slice none 0 0] 24)
  obtain ⟨gm, hgm⟩ : ∃ gm, gm = w2.heap.size := ⟨_, rfl⟩
  rw [← hgm] at hb8 ⊢
  have HG8 := Lib.hid (show w.heap.size ≤ gm from by rw [hgm]; exact HU2.out.size)
  have HG9 := Lib.hid (show w2.heap.size ≤ gm from by omega)
  have HN8 := Lib.hid (show gm ≠ gr from by have := HB2.out.lt; omega)
  clear hgm
  generalize w2.alloc (.cells #[.int .i64 0, .slice none 0 0] 24) = w5 at *
  refine wpList_store_row rfl 24 (.tmp 6) (.tmp 12) rfl #[.int .i64 (msgE r).1, .slice A2 n2 c2] hb8 rfl rfl rfl (by rw [size_msg]; rfl) (msgA_one _ _ _ _) ?_
  intro w6 hb6 hu6
  have HBM := Lib.hid hb6
  have HBR := Lib.hid (hbm8.turn hu6 (fun e => HN8.out e.symm))
  have HU6 := Lib.hid (above hu8 HG8.out hu6)
  have HF6 := Lib.hid (HF2.out.still (above hv8 HG9.out hu6))
  clear hb8 hu8 hbm8 hb6 hu6 HB2 HU2 hv8 HF2
  simp only [Act.put, zzA, zz0, zz1]
  refine wR (v := v2) rfl (gx_assign rfl rfl) ?_
  simp only [Act.put, zzA, zz0, zz1]
  go_upto_region 2 with fail
  have hS0 : Blk w6.drew gm 24 #[.int .i64 (msgE r).1, .slice A2 n2 c2] := HBM.out.drew
  have HBd := Lib.hid HBR.out.drew
  have HUd := Lib.hid HU6.out.drew
  have HFd := Lib.hid (HF6.out.still ((Turn.refl nowhere w6).drew))
  clear HBM HBR HU6 HF6
  refine wp_region_alw (fun W => Blk W gm 24 #[.int .i64 (msgE r).1, .slice A2 n2 c2]) (by kernel_rfl) ?_
  generalize w6.drew = w7 at *
  refine alw_take (i := 0) (v := .agg #[.int .i64 (msgE r).1, .slice A2 n2 c2]) rfl (by kernel_rfl) (by kernel_rfl) (fun _ _ _ h => h) (.inl ⟨by rfl, fun W hW => gx_loads rfl rfl (blk_range hW) Tryz.underlying24 rfl (by rw [size_msg]; rfl)⟩) hS0 ?_
  simp only [Act.put, zzA, zz0, zz1]
  refine alw_take (i := 1) (v := v2) rfl (by kernel_rfl) (by kernel_rfl) (fun _ _ _ h => h) (.inl ⟨by rfl, fun W hW => exec_move rfl rfl⟩) hS0 ?_
  simp only [Act.put, zzA, zz0, zz1]
  refine alw_step (i := 2) (by kernel_rfl) rfl rfl ?_
  intro K1 HK1
  go_wp2_with fail
  refine (tell_walk HV.out (HE.out.turn HUd.out).sen).mono ?_
  rintro e w8 ⟨rfl, ht8⟩
  have hS1 := hS0.turn ht8 (fun e => e)
  refine HK1.out _ _ ⟨hS1, ?_⟩
  have HB8 := Lib.hid (HBd.out.turn ht8 (fun e => e))
  have HU8 := Lib.hid (HUd.out.next ht8)
  have HF8 := Lib.hid (HFd.out.still ht8)
  clear HK1 hS0 ht8 HBd HUd HFd
  try simp only [Act.put, zzA, zz0, zz1]
  refine alw_step (i := 3) (by kernel_rfl) rfl rfl ?_
  intro K1 HK1
  refine wp_store_rowU 24 (.tmp 4) (.tmp 14) rfl #[.int .i64 (msgE r).1, .slice A2 n2 c2] HB8.out rfl rfl rfl (by rw [size_msg]; rfl) (msgA_one _ _ _ _) ?_
  intro wz hbz huz
  have hS2 := hS1.turn huz (fun e => HN8.out e)
  have HBZ := Lib.hid hbz
  have HUZ := Lib.hid (above HU8.out HGR.out huz)
  have HFZ := Lib.hid (fl_turn HF8.out huz (fun b o t e => by
    have := HG2.out b o t e
    have := HL1.out
    omega))
  clear hbz huz HU8 HB8 HF8 hS1
  refine HK1.out _ _ ⟨hS2, ?_⟩
  clear HK1
  simp only [Act.put, zzA, zz0, zz1]
  refine alw_take (i := 4) (v := .int .i64 (codeE r)) rfl (by kernel_rfl) (by kernel_rfl) (fun _ _ _ h => h) (.inl ⟨by rfl, fun W hW => gx_assign rfl rfl⟩) hS2 ?_
  simp only [Act.put, zzA, zz0, zz1]
  refine alw_done rfl ?_
  clear hS2
  refine NoPanic.normal ?_
  go_wp2_with fail
  refine bodyPost_ret (v := .tuple #[.agg #[.int .i64 (msgE r).1, .slice A2 n2 c2], .int .i64 (codeE r)]) (ret_cell2 rfl _ _ gr _ _ _ rfl rfl HBZ.out Tryz.underlying24 rfl (by rw [size_msg]; rfl)) rfl ?_
  exact ⟨A2, n2, c2, rfl, HFZ.out, fun b o t e => by
    have := HG2.out b o t e
    have := HL1.out
    have := HGR.out
    omega, HUZ.out⟩
end Go.Proofs.YticofobhkmabiaaGreatDoor
namespace Go.Proofs.YticofobhkmabiaaGreatDoor
open Go.RowKit
open Fdd
set_option linter.unusedVariables false
set_option linter.unusedSimpArgs false
theorem byte_of {P : UInt8 → Prop} (h : ∀ n : Nat, n < 256 → P (UInt8.ofNat n)) (b : UInt8) : P b := by
  have h2 := h b.toNat b.toNat_lt
  rwa [show UInt8.ofNat b.toNat = b by simp] at h2
theorem dec_byte (b : UInt8) : dec.contains b = decide (48 ≤ b.toNat ∧ b.toNat ≤ 57) := byte_of (P := fun b => dec.contains b = decide (48 ≤ b.toNat ∧ b.toNat ≤ 57)) (by decide +kernel) b
theorem hex_byte (b : UInt8) : hexs.contains b = decide ((48 ≤ b.toNat ∧ b.toNat ≤ 57) ∨ (97 ≤ b.toNat ∧ b.toNat ≤ 102)) := byte_of (P := fun b => hexs.contains b = decide ((48 ≤ b.toNat ∧ b.toNat ≤ 57) ∨ (97 ≤ b.toNat ∧ b.toNat ≤ 102))) (by decide +kernel) b
theorem sgn_byte (b : UInt8) : sgn.contains b = decide ((48 ≤ b.toNat ∧ b.toNat ≤ 57) ∨ (65 ≤ b.toNat ∧ b.toNat ≤ 90) ∨ b.toNat = 32) := byte_of (P := fun b => sgn.contains b = decide ((48 ≤ b.toNat ∧ b.toNat ≤ 57) ∨ (65 ≤ b.toNat ∧ b.toNat ≤ 90) ∨ b.toNat = 32)) (by decide +kernel) b
theorem digit_walk (b : UInt8) (w : World) :
    Calls Tryz.prog 85 #[.int .u8 (b.toNat : Int)] w fun e w' => e = .returned (.bool (dec.contains b)) ∧ w' = w := by
  rw [dec_byte]
  have hb := b.toNat_lt
  generalize b.toNat = n at *
  go_enter Tryz.func85, Tryz.ntmps85
  go_wp2
  all_goals (try go_ret)
  all_goals
    refine ⟨ret_bool ?_, rfl⟩
    rw [Bool.eq_iff_iff]
    simp only [Bool.and_eq_true, decide_eq_true_eq, Bool.false_eq_true]
    refine ⟨fun h => ?_, fun h => ?_⟩ <;> (first | omega | contradiction)
theorem hex_walk (b : UInt8) (w : World) :
    Calls Tryz.prog 78 #[.int .u8 (b.toNat : Int)] w fun e w' => e = .returned (.bool (hexs.contains b)) ∧ w' = w := by
  have hd := digit_walk b
  have HD := Lib.hid hd
  clear hd
  rw [hex_byte]
  rw [dec_byte] at HD
  have hb := b.toNat_lt
  generalize b.toNat = n at *
  go_enter Tryz.func78, Tryz.ntmps78
  by_cases h0 : 48 ≤ n ∧ n ≤ 57
  · rw [decide_eq_true h0] at HD
    rw [decide_eq_true (show (48 ≤ n ∧ n ≤ 57) ∨ (97 ≤ n ∧ n ≤ 102) from .inl h0)]
    go_wp2_with (go_at_call 85; refine (HD.out _).mono ?_; rintro e w1 ⟨rfl, rfl⟩)
    go_ret
    exact ⟨rfl, rfl⟩
  · rw [decide_eq_false h0] at HD
    go_wp2_with (go_at_call 85; refine (HD.out _).mono ?_; rintro e w1 ⟨rfl, rfl⟩)
    all_goals (try go_ret)
    all_goals
      refine ⟨ret_bool ?_, rfl⟩
      rw [Bool.eq_iff_iff]
      simp only [Bool.and_eq_true, decide_eq_true_eq, Bool.false_eq_true]
      refine ⟨fun h => ?_, fun h => ?_⟩ <;> (first | omega | contradiction)
theorem sign_walk (b : UInt8) (w : World) :
    Calls Tryz.prog 77 #[.int .u8 (b.toNat : Int)] w fun e w' => e = .returned (.bool (sgn.contains b)) ∧ w' = w := by
  have hd := digit_walk b
  have HD := Lib.hid hd
  clear hd
  rw [sgn_byte]
  rw [dec_byte] at HD
  have hb := b.toNat_lt
  generalize b.toNat = n at *
  go_enter Tryz.func77, Tryz.ntmps77
  by_cases h0 : 48 ≤ n ∧ n ≤ 57
  · rw [decide_eq_true h0] at HD
    rw [decide_eq_true (show (48 ≤ n ∧ n ≤ 57) ∨ (65 ≤ n ∧ n ≤ 90) ∨ n = 32 from .inl h0)]
    go_wp2_with (go_at_call 85; refine (HD.out _).mono ?_; rintro e w1 ⟨rfl, rfl⟩)
    go_ret
    exact ⟨rfl, rfl⟩
  · rw [decide_eq_false h0] at HD
    go_wp2_with (go_at_call 85; refine (HD.out _).mono ?_; rintro e w1 ⟨rfl, rfl⟩)
    all_goals (try go_ret)
    all_goals
      refine ⟨ret_bool ?_, rfl⟩
      rw [Bool.eq_iff_iff]
      simp only [Bool.and_eq_true, Bool.or_eq_true, decide_eq_true_eq, Bool.false_eq_true, beq_iff_eq]
      refine ⟨fun h => ?_, fun h => ?_⟩ <;> (first | omega | contradiction | trivial)
theorem rmay_walk (f : Fm) (w : World) :
    Calls Tryz.prog 48 #[fmV f] w fun e w' => e = .returned (.bool f.may) ∧ Turn nowhere w w' := by
  obtain ⟨k, s, c⟩ := f
  unfold fmV
  go_enter Tryz.func48, Tryz.ntmps48
  go_wp2
  all_goals (try go_ret)
  all_goals
    refine ⟨ret_bool ?_, (Turn.refl _ w).alloc _⟩
    try simp only [beq_iff_eq, beq_eq_false_iff_ne, ne_eq] at *
    rw [Bool.eq_iff_iff]
    simp only [Fm.may, Bool.and_eq_true, decide_eq_true_eq, Bool.false_eq_true]
    refine ⟨fun h => ?_, fun h => ?_⟩ <;> (try dsimp only at h ⊢) <;> omega
theorem only_part {l cs : List UInt8} {k : Nat} (hk : k < l.length) (h : cs.contains (l.getD k 0) = false) : onlyOf l cs = false := by
  cases hq : onlyOf l cs with
  | false => rfl
  | true =>
    have := onlyOf_mem hq (c := l.getD k 0) (by
      rw [List.getD_eq_getElem?_getD, List.getElem?_eq_getElem hk]
      exact List.getElem_mem _)
    rw [← List.contains_iff_mem, h] at this
    cases this
theorem only_step {l cs : List UInt8} {k : Nat} (hk : k < l.length) (h0 : onlyOf (l.take k) cs = true) (h : cs.contains (l.getD k 0) = true) : onlyOf (l.take (k + 1)) cs = true := by
  unfold onlyOf at *
  rw [List.take_add_one, List.all_append, h0, List.getElem?_eq_getElem hk]
  rw [List.getD_eq_getElem?_getD, List.getElem?_eq_getElem hk] at h
  simpa using h
set_option maxRecDepth 20000 in
theorem all_walk (t : List UInt8) (w : World) (hl : t.length ≤ 9223372036854775807) :
    Calls Tryz.prog 76 #[strV t] w fun e w' => e = .returned (.bool (onlyOf t dec)) ∧ w' = w := by
  have HL := Lib.hid hl
  clear hl
  go_enter Tryz.func76, Tryz.ntmps76
  go_wp2_with fail
  obtain ⟨n, hn⟩ : ∃ n, n = t.length := ⟨_, rfl⟩
  have HN := Lib.hid hn
  clear hn
  go_loopg [3] n (fun gk i wr => ∃ k : Nat, k + gk = n ∧ i = .int .i64 (k : Int) ∧ wr = w ∧ onlyOf (t.take k) dec = true)
  case atStart => exact ⟨0, by omega, rfl, rfl, rfl⟩
  obtain ⟨k, hkl, rfl, rfl, hin⟩ := hrel
  have HKL := Lib.hid hkl
  have HIN := Lib.hid hin
  clear hkl hin
  go_upto_region 2 with fail
  refine wp_region_lit ?_
  refine wR (v := .int .i64 (k : Int)) rfl (exec_move rfl rfl) ?_
  simp only [Act.put, zzA, zz0, zz1]
  refine wR (v := strV t) rfl (exec_move rfl rfl) ?_
  simp only [Act.put, zzA, zz0, zz1]
  refine wR (v := .int .i64 (n : Int)) (w' := wr) rfl (by rw [HN.out]; exact exec_slen rfl rfl) ?_
  simp only [Act.put, zzA, zz0, zz1]
  by_cases hlt : k < n
  · have y1 : (k : Int) < (n : Int) := by omega
    have y3 : (n : Int) ≤ 9223372036854775807 := by have := HN.out; have := HL.out; omega
    go_upto_region 4 with fail
    refine wp_region_lit ?_
    refine wR (v := strV t) rfl (exec_move rfl rfl) ?_
    simp only [Act.put, zzA, zz0, zz1]
    refine wR (v := .int .i64 (k : Int)) rfl (exec_move rfl rfl) ?_
    simp only [Act.put, zzA, zz0, zz1]
    refine wR (v := .int .u8 ((t.getD k 0).toNat : Int)) (w' := wr) rfl (exec_sidx rfl rfl rfl (by rw [← HN.out]; exact hlt)) ?_
    simp only [Act.put, zzA, zz0, zz1]
    have HLT := Lib.hid hlt
    clear hlt
    have hd := digit_walk (t.getD k 0) wr
    have hp : dec.contains (t.getD k 0) = false → onlyOf t dec = false := only_part (by rw [← HN.out]; exact HLT.out)
    have hs : dec.contains (t.getD k 0) = true → onlyOf (t.take (k + 1)) dec = true := only_step (by rw [← HN.out]; exact HLT.out) HIN.out
    have HP := Lib.hid hp
    have HS := Lib.hid hs
    clear hp hs HIN
    generalize t.getD k 0 = b at *
    cases hq : dec.contains b with
    | true =>
      rw [hq] at hd
      have HIN := Lib.hid (HS.out hq)
      go_wp2_with (go_at_call 85; refine hd.mono ?_; rintro e w1 ⟨rfl, rfl⟩)
      go_roundg (gk - 1)
      case measure => have := HKL.out; have := HLT.out; omega
      case rel => exact ⟨k + 1, by have := HKL.out; have := HLT.out; omega, by go_num, rfl, HIN.out⟩
    | false =>
      rw [hq] at hd
      have HIN := Lib.hid (HP.out hq)
      go_wp2_with (go_at_call 85; refine hd.mono ?_; rintro e w1 ⟨rfl, rfl⟩)
      go_ret
      rw [HIN.out]
      exact ⟨rfl, rfl⟩
  · have hke : k = n := by have := HKL.out; omega
    have y1 : ¬ ((k : Int) < (n : Int)) := by omega
    have HALL := Lib.hid (show onlyOf t dec = true by
      have := HIN.out
      rwa [List.take_of_length_le (by rw [← HN.out]; omega)] at this)
    clear hlt hke
    go_wp2_with fail
    go_ret
    rw [HALL.out]
    exact ⟨rfl, rfl⟩
end Go.Proofs.YticofobhkmabiaaGreatDoor
namespace Go.Proofs.YticofobhkmabiaaGreatDoor
open Go.RowKit
open Fdd
set_option linter.unusedVariables false
set_option linter.unusedSimpArgs false
theorem wrap_small {x : Int} (h0 : 0 ≤ x) (h1 : x ≤ 1000000) : IntKind.i64.wrap x = x := by
  simp [IntKind.wrap, IntKind.bits, IntKind.signed]
  omega
theorem wpList_skip {P : Program} {ops : Array Oper} {rest : List Oper} {o : Oper} {a : Act} {w : World} {Q : Exit → Act → World → Prop} (hgd : Region.wanted o (yielded ops a.tmps) = false) (h : wpList P ops Q rest (a.put o.dst undef) w) : wpList P ops Q (o :: rest) a w :=
  wpList_step fun K hK => by
    rw [if_neg (by rw [hgd]; decide)]
    exact hK _ _ h
theorem only_take_len {l cs : List UInt8} {n : Nat} {st : List UInt8} : rightAll [⟨n, cs, st⟩] l = (decide (l.length = n) && onlyOf l cs) := by
  show (decide (n ≤ l.length) && (onlyOf (l.take n) cs && (l.drop n == []))) = _
  by_cases h : l.length = n
  · rw [List.take_of_length_le (by omega), List.drop_of_length_le (by omega), decide_eq_true h, decide_eq_true (by omega)]
    simp
  · rw [decide_eq_false h]
    by_cases h2 : n ≤ l.length
    · have h3 : (l.drop n == []) = false := by
        cases hd : l.drop n with
        | nil =>
          have := congrArg List.length hd
          simp at this
          omega
        | cons a r => rfl
      rw [h3]
      simp
    · rw [decide_eq_false h2]
      simp
theorem right_n {s : Nat} {c : Int} {t : List UInt8} : Fm.right ⟨1, (s : Int), c⟩ t = (decide (t.length = s) && onlyOf t dec) := only_take_len
theorem right_an {s : Nat} {c : Int} {t : List UInt8} : Fm.right ⟨3, (s : Int), c⟩ t = (decide (t.length = s) && onlyOf t sgn) := only_take_len
theorem right_b {s : Nat} {c : Int} {t : List UInt8} : Fm.right ⟨4, (s : Int), c⟩ t = (decide (t.length = 2 * s) && onlyOf t hexs) := only_take_len
theorem right_l {s : Nat} {c : Int} {t : List UInt8} : Fm.right ⟨2, (s : Int), c⟩ t = (decide (1 ≤ t.length ∧ t.length ≤ s) && onlyOf t dec) := by
  show (decide (1 ≤ t.length ∧ (t.length : Int) ≤ (s : Int)) && rightAll [⟨t.length, dec, _⟩] t) = _
  rw [only_take_len, decide_eq_true (show t.length = t.length from rfl), Bool.true_and]
  congr 1
  exact decide_eq_decide.2 ⟨fun h => ⟨h.1, by omega⟩, fun h => ⟨h.1, by omega⟩⟩
theorem right_x {s : Nat} {c : Int} {t : List UInt8} : Fm.right ⟨5, (s : Int), c⟩ t = (decide (t.length = s + 1) && (mk.contains (t.getD 0 0) && onlyOf (t.drop 1) dec)) := by
  show (decide (1 ≤ t.length) && (onlyOf (t.take 1) mk && rightAll [⟨s, dec, _⟩] (t.drop 1))) = _
  rw [only_take_len]
  cases t with
  | nil => simp
  | cons b r =>
    simp only [List.length_cons, List.take_succ_cons, List.take_zero, List.drop_succ_cons, List.drop_zero, List.getD_cons_zero]
    unfold onlyOf
    simp only [List.all_cons, List.all_nil, Bool.and_true]
    rw [decide_eq_true (show 1 ≤ r.length + 1 by omega), Bool.true_and]
    rw [show decide (r.length + 1 = s + 1) = decide (r.length = s) from decide_eq_decide.2 (by omega)]
    cases mk.contains b <;> cases decide (r.length = s) <;> simp
theorem mk_byte (b : UInt8) : mk.contains b = (decide (b.toNat = 67) || decide (b.toNat = 68)) := byte_of (P := fun b => mk.contains b = (decide (b.toNat = 67) || decide (b.toNat = 68))) (by decide +kernel) b
set_option maxRecDepth 20000 in
set_option maxHeartbeats 2000000 in
theorem rright_walk {k : Int} {s : Nat} {c : Int} {t : List UInt8} (w : World) (hk : 1 ≤ k ∧ k ≤ 5) (hs : 1 ≤ s ∧ s ≤ 64) (hl : t.length ≤ 9223372036854775807) :
    Calls Tryz.prog 49 #[fmV ⟨k, (s : Int), c⟩, strV t] w fun e w' => e = .returned (.bool (Fm.right ⟨k, (s : Int), c⟩ t)) ∧ Turn nowhere w w' := by
  have HL := Lib.hid hl
  have HS := Lib.hid hs
  clear hl hs
  unfold fmV
  go_enter Tryz.func49, Tryz.ntmps49
  go_upto_region 1 with fail
  have hb0 := Blk.new w 49 #[.int .i64 k, .int .i64 (s : Int), .int .i64 c]
  have ht0 := (Turn.refl nowhere w).alloc (.cells #[.int .i64 k, .int .i64 (s : Int), .int .i64 c] 49)
  generalize (w.alloc (.cells #[.int .i64 k, .int .i64 (s : Int), .int .i64 c] 49)) = w1 at *
  generalize w.heap.size = b2 at *
  have c0 : w1.cell? ⟨b2, 0, none⟩ = some (.int .i64 k) := hb0.cell 0
  have c1 : w1.cell? ⟨b2, 1, none⟩ = some (.int .i64 (s : Int)) := hb0.cell 1
  have HT1 := Lib.hid ht0
  clear hb0 ht0
  obtain ⟨n, hn⟩ : ∃ n, n = t.length := ⟨_, rfl⟩
  have HN := Lib.hid hn
  clear hn
  have hck : k = 1 ∨ k = 2 ∨ k = 3 ∨ k = 4 ∨ k = 5 := by omega
  clear hk
  rcases hck with rfl | rfl | rfl | rfl | rfl
  · have HD := Lib.hid (show Fm.right ⟨1, (s : Int), c⟩ t = (decide (n = s) && onlyOf t dec) from by rw [HN.out]; exact right_n)
    go_upto_region 3 with fail
    refine wp_region_lit ?_
    refine wR (v := strV t) rfl (exec_move rfl rfl) ?_
    simp only [Act.put, zzA, zz0, zz1]
    refine wR (v := .int .i64 (n : Int)) (w' := w1) rfl (by rw [HN.out]; exact exec_slen rfl rfl) ?_
    simp only [Act.put, zzA, zz0, zz1]
    by_cases he : n = s
    · have HE := Lib.hid (show decide (n = s) = true from decide_eq_true he)
      have y5 : (n : Int) = (s : Int) := by omega
      clear he
      go_wp2_with (go_at_call 76; refine (all_walk t _ HL.out).mono ?_; rintro e w2 ⟨rfl, rfl⟩)
      go_ret
      rw [HD.out, HE.out]
      exact ⟨by simp, HT1.out⟩
    · have HE := Lib.hid (show decide (n = s) = false from decide_eq_false he)
      have y5 : ¬ ((n : Int) = (s : Int)) := by omega
      clear he
      go_wp2_with fail
      go_ret
      rw [HD.out, HE.out]
      exact ⟨by simp, HT1.out⟩
  · have HD := Lib.hid (show Fm.right ⟨2, (s : Int), c⟩ t = (decide (1 ≤ n ∧ n ≤ s) && onlyOf t dec) from by rw [HN.out]; exact right_l)
    go_upto_region 5 with fail
    refine wp_region_lit ?_
    refine wR (v := strV t) rfl (exec_move rfl rfl) ?_
    simp only [Act.put, zzA, zz0, zz1]
    refine wR (v := .int .i64 (n : Int)) (w' := w1) rfl (by rw [HN.out]; exact exec_slen rfl rfl) ?_
    simp only [Act.put, zzA, zz0, zz1]
    by_cases h1 : 1 ≤ n
    · refine wR (v := .bool true) (w' := w1) rfl (by go_simp <;> omega) ?_
      simp only [Act.put, zzA, zz0, zz1]
      refine wR (v := .bool true) rfl (exec_move rfl rfl) ?_
      simp only [Act.put, zzA, zz0, zz1]
      refine wR (v := strV t) rfl (exec_move rfl rfl) ?_
      simp only [Act.put, zzA, zz0, zz1]
      refine wR (v := .int .i64 (n : Int)) (w' := w1) rfl (by rw [HN.out]; exact exec_slen rfl rfl) ?_
      simp only [Act.put, zzA, zz0, zz1]
      by_cases h2 : n ≤ s
      · have HE := Lib.hid (show decide (1 ≤ n ∧ n ≤ s) = true from decide_eq_true ⟨h1, h2⟩)
        have y5 : (n : Int) ≤ (s : Int) := by omega
        clear h1 h2
        go_wp2_with (go_at_call 76; refine (all_walk t _ HL.out).mono ?_; rintro e w2 ⟨rfl, rfl⟩)
        go_ret
        rw [HD.out, HE.out]
        exact ⟨by simp, HT1.out⟩
      · have HE := Lib.hid (show decide (1 ≤ n ∧ n ≤ s) = false from decide_eq_false (by omega))
        have y5 : ¬ ((n : Int) ≤ (s : Int)) := by omega
        clear h1 h2
        go_wp2_with fail
        go_ret
        rw [HD.out, HE.out]
        exact ⟨by simp, HT1.out⟩
    · have HE := Lib.hid (show decide (1 ≤ n ∧ n ≤ s) = false from decide_eq_false (by omega))
      have y5 : ¬ (1 ≤ (n : Int)) := by omega
      clear h1
      go_wp2_with fail
      go_ret
      rw [HD.out, HE.out]
      exact ⟨by simp, HT1.out⟩
  · have HD := Lib.hid (show Fm.right ⟨3, (s : Int), c⟩ t = (decide (n = s) && onlyOf t sgn) from by rw [HN.out]; exact right_an)
    go_upto_region 9 with fail
    go_wp2_with fail
    go_loopg [5] n (fun gk i wr => ∃ k : Nat, k + gk = n ∧ i = .int .i64 (k : Int) ∧ wr = w1 ∧ onlyOf (t.take k) sgn = true)
    case atStart => exact ⟨0, by omega, rfl, rfl, rfl⟩
    obtain ⟨k, hkl, rfl, rfl, hin⟩ := hrel
    have HKL := Lib.hid hkl
    have HIN := Lib.hid hin
    clear hkl hin
    go_upto_region 10 with fail
    refine wp_region_lit ?_
    refine wR (v := .int .i64 (k : Int)) rfl (exec_move rfl rfl) ?_
    simp only [Act.put, zzA, zz0, zz1]
    refine wR (v := strV t) rfl (exec_move rfl rfl) ?_
    simp only [Act.put, zzA, zz0, zz1]
    refine wR (v := .int .i64 (n : Int)) (w' := wr) rfl (by rw [HN.out]; exact exec_slen rfl rfl) ?_
    simp only [Act.put, zzA, zz0, zz1]
    by_cases hlt : k < n
    · have y1 : (k : Int) < (n : Int) := by omega
      have y3 : (n : Int) ≤ 9223372036854775807 := by have := HN.out; have := HL.out; omega
      go_upto_region 12 with fail
      refine wp_region_lit ?_
      refine wR (v := strV t) rfl (exec_move rfl rfl) ?_
      simp only [Act.put, zzA, zz0, zz1]
      refine wR (v := .int .i64 (k : Int)) rfl (exec_move rfl rfl) ?_
      simp only [Act.put, zzA, zz0, zz1]
      refine wR (v := .int .u8 ((t.getD k 0).toNat : Int)) (w' := wr) rfl (exec_sidx rfl rfl rfl (by rw [← HN.out]; exact hlt)) ?_
      simp only [Act.put, zzA, zz0, zz1]
      have HLT := Lib.hid hlt
      clear hlt
      have hd := sign_walk (t.getD k 0) wr
      have hp : sgn.contains (t.getD k 0) = false → onlyOf t sgn = false := only_part (by rw [← HN.out]; exact HLT.out)
      have hs : sgn.contains (t.getD k 0) = true → onlyOf (t.take (k + 1)) sgn = true := only_step (by rw [← HN.out]; exact HLT.out) HIN.out
      have HP := Lib.hid hp
      have HSS := Lib.hid hs
      clear hp hs HIN
      generalize t.getD k 0 = b at *
      cases hq : sgn.contains b with
      | true =>
        rw [hq] at hd
        have HIN := Lib.hid (HSS.out hq)
        go_wp2_with (go_at_call 77; refine hd.mono ?_; rintro e w2 ⟨rfl, rfl⟩)
        go_roundg (gk - 1)
        case measure => have := HKL.out; have := HLT.out; omega
        case rel => exact ⟨k + 1, by have := HKL.out; have := HLT.out; omega, by go_num, rfl, HIN.out⟩
      | false =>
        rw [hq] at hd
        have HIN := Lib.hid (HP.out hq)
        go_wp2_with (go_at_call 77; refine hd.mono ?_; rintro e w2 ⟨rfl, rfl⟩)
        go_ret
        rw [HD.out, HIN.out, Bool.and_false]
        exact ⟨rfl, HT1.out⟩
    · have hke : k = n := by have := HKL.out; omega
      have y1 : ¬ ((k : Int) < (n : Int)) := by omega
      have HALL := Lib.hid (show onlyOf t sgn = true by
        have := HIN.out
        rwa [List.take_of_length_le (by rw [← HN.out]; omega)] at this)
      clear hlt hke
      go_upto_region 14 with fail
      refine wp_region_lit ?_
      refine wR (v := strV t) rfl (exec_move rfl rfl) ?_
      simp only [Act.put, zzA, zz0, zz1]
      refine wR (v := .int .i64 (n : Int)) (w' := wr) rfl (by rw [HN.out]; exact exec_slen rfl rfl) ?_
      simp only [Act.put, zzA, zz0, zz1]
      refine wR (v := .pointer (some ⟨b2, 1, none⟩)) (w' := wr) rfl (by go_simp) ?_
      simp only [Act.put, zzA, zz0, zz1]
      refine wR (v := .int .i64 (s : Int)) rfl (exec_load1 rfl rfl (by kernel_rfl) c1) ?_
      simp only [Act.put, zzA, zz0, zz1]
      by_cases he : n = s
      · have HE := Lib.hid (show decide (n = s) = true from decide_eq_true he)
        refine wR (v := .bool true) (w' := wr) rfl (by go_simp <;> omega) ?_
        simp only [Act.put, zzA, zz0, zz1]
        clear he
        go_wp2_with fail
        go_ret
        rw [HD.out, HALL.out, HE.out]
        exact ⟨rfl, HT1.out⟩
      · have HE := Lib.hid (show decide (n = s) = false from decide_eq_false he)
        refine wR (v := .bool false) (w' := wr) rfl (by go_simp <;> omega) ?_
        simp only [Act.put, zzA, zz0, zz1]
        clear he
        go_wp2_with fail
        go_ret
        rw [HD.out, HE.out, Bool.false_and]
        exact ⟨rfl, HT1.out⟩
  · have HD := Lib.hid (show Fm.right ⟨4, (s : Int), c⟩ t = (decide (n = 2 * s) && onlyOf t hexs) from by rw [HN.out]; exact right_b)
    go_upto_region 15 with fail
    go_wp2_with fail
    go_loopg [6] n (fun gk i wr => ∃ k : Nat, k + gk = n ∧ i = .int .i64 (k : Int) ∧ wr = w1 ∧ onlyOf (t.take k) hexs = true)
    case atStart => exact ⟨0, by omega, rfl, rfl, rfl⟩
    obtain ⟨k, hkl, rfl, rfl, hin⟩ := hrel
    have HKL := Lib.hid hkl
    have HIN := Lib.hid hin
    clear hkl hin
    go_upto_region 16 with fail
    refine wp_region_lit ?_
    refine wR (v := .int .i64 (k : Int)) rfl (exec_move rfl rfl) ?_
    simp only [Act.put, zzA, zz0, zz1]
    refine wR (v := strV t) rfl (exec_move rfl rfl) ?_
    simp only [Act.put, zzA, zz0, zz1]
    refine wR (v := .int .i64 (n : Int)) (w' := wr) rfl (by rw [HN.out]; exact exec_slen rfl rfl) ?_
    simp only [Act.put, zzA, zz0, zz1]
    by_cases hlt : k < n
    · have y1 : (k : Int) < (n : Int) := by omega
      have y3 : (n : Int) ≤ 9223372036854775807 := by have := HN.out; have := HL.out; omega
      go_upto_region 18 with fail
      refine wp_region_lit ?_
      refine wR (v := strV t) rfl (exec_move rfl rfl) ?_
      simp only [Act.put, zzA, zz0, zz1]
      refine wR (v := .int .i64 (k : Int)) rfl (exec_move rfl rfl) ?_
      simp only [Act.put, zzA, zz0, zz1]
      refine wR (v := .int .u8 ((t.getD k 0).toNat : Int)) (w' := wr) rfl (exec_sidx rfl rfl rfl (by rw [← HN.out]; exact hlt)) ?_
      simp only [Act.put, zzA, zz0, zz1]
      have HLT := Lib.hid hlt
      clear hlt
      have hd := hex_walk (t.getD k 0) wr
      have hp : hexs.contains (t.getD k 0) = false → onlyOf t hexs = false := only_part (by rw [← HN.out]; exact HLT.out)
      have hs : hexs.contains (t.getD k 0) = true → onlyOf (t.take (k + 1)) hexs = true := only_step (by rw [← HN.out]; exact HLT.out) HIN.out
      have HP := Lib.hid hp
      have HSS := Lib.hid hs
      clear hp hs HIN
      generalize t.getD k 0 = b at *
      cases hq : hexs.contains b with
      | true =>
        rw [hq] at hd
        have HIN := Lib.hid (HSS.out hq)
        go_wp2_with (go_at_call 78; refine hd.mono ?_; rintro e w2 ⟨rfl, rfl⟩)
        go_roundg (gk - 1)
        case measure => have := HKL.out; have := HLT.out; omega
        case rel => exact ⟨k + 1, by have := HKL.out; have := HLT.out; omega, by go_num, rfl, HIN.out⟩
      | false =>
        rw [hq] at hd
        have HIN := Lib.hid (HP.out hq)
        go_wp2_with (go_at_call 78; refine hd.mono ?_; rintro e w2 ⟨rfl, rfl⟩)
        go_ret
        rw [HD.out, HIN.out, Bool.and_false]
        exact ⟨rfl, HT1.out⟩
    · have hke : k = n := by have := HKL.out; omega
      have y1 : ¬ ((k : Int) < (n : Int)) := by omega
      have HALL := Lib.hid (show onlyOf t hexs = true by
        have := HIN.out
        rwa [List.take_of_length_le (by rw [← HN.out]; omega)] at this)
      clear hlt hke
      go_upto_region 20 with fail
      refine wp_region_lit ?_
      refine wR (v := strV t) rfl (exec_move rfl rfl) ?_
      simp only [Act.put, zzA, zz0, zz1]
      refine wR (v := .int .i64 (n : Int)) (w' := wr) rfl (by rw [HN.out]; exact exec_slen rfl rfl) ?_
      simp only [Act.put, zzA, zz0, zz1]
      refine wR (v := .pointer (some ⟨b2, 1, none⟩)) (w' := wr) rfl (by go_simp) ?_
      simp only [Act.put, zzA, zz0, zz1]
      refine wR (v := .int .i64 (s : Int)) rfl (exec_load1 rfl rfl (by kernel_rfl) c1) ?_
      simp only [Act.put, zzA, zz0, zz1]
      refine wR (v := .int .i64 ((2 * s : Nat) : Int)) (w' := wr) rfl (by have := HS.out; go_simp; rw [wrap_small (by omega) (by omega)]; try omega) ?_
      simp only [Act.put, zzA, zz0, zz1]
      by_cases he : n = 2 * s
      · have HE := Lib.hid (show decide (n = 2 * s) = true from decide_eq_true he)
        refine wR (v := .bool true) (w' := wr) rfl (by go_simp <;> omega) ?_
        simp only [Act.put, zzA, zz0, zz1]
        clear he
        go_wp2_with fail
        go_ret
        rw [HD.out, HALL.out, HE.out]
        exact ⟨rfl, HT1.out⟩
      · have HE := Lib.hid (show decide (n = 2 * s) = false from decide_eq_false he)
        refine wR (v := .bool false) (w' := wr) rfl (by go_simp <;> omega) ?_
        simp only [Act.put, zzA, zz0, zz1]
        clear he
        go_wp2_with fail
        go_ret
        rw [HD.out, HE.out, Bool.false_and]
        exact ⟨rfl, HT1.out⟩
  · have HD := Lib.hid (show Fm.right ⟨5, (s : Int), c⟩ t = (decide (n = s + 1) && (mk.contains (t.getD 0 0) && onlyOf (t.drop 1) dec)) from by rw [HN.out]; exact right_x)
    go_upto_region 7 with fail
    refine wp_region_lit ?_
    refine wR (v := strV t) rfl (exec_move rfl rfl) ?_
    simp only [Act.put, zzA, zz0, zz1]
    refine wR (v := .int .i64 (n : Int)) (w' := w1) rfl (by rw [HN.out]; exact exec_slen rfl rfl) ?_
    simp only [Act.put, zzA, zz0, zz1]
    refine wR (v := .pointer (some ⟨b2, 1, none⟩)) (w' := w1) rfl (by go_simp) ?_
    simp only [Act.put, zzA, zz0, zz1]
    refine wR (v := .int .i64 (s : Int)) rfl (exec_load1 rfl rfl (by kernel_rfl) c1) ?_
    simp only [Act.put, zzA, zz0, zz1]
    refine wR (v := .int .i64 ((s + 1 : Nat) : Int)) (w' := w1) rfl (by have := HS.out; go_simp; rw [wrap_small (by omega) (by omega)]; try omega) ?_
    simp only [Act.put, zzA, zz0, zz1]
    by_cases he : n = s + 1
    · have HE := Lib.hid (show decide (n = s + 1) = true from decide_eq_true he)
      refine wR (v := .bool true) (w' := w1) rfl (by go_simp <;> omega) ?_
      simp only [Act.put, zzA, zz0, zz1]
      refine wR (v := .bool true) rfl (exec_move rfl rfl) ?_
      simp only [Act.put, zzA, zz0, zz1]
      refine wR (v := strV t) rfl (exec_move rfl rfl) ?_
      simp only [Act.put, zzA, zz0, zz1]
      refine wR (v := .int .u8 ((t.getD 0 0).toNat : Int)) (w' := w1) rfl (exec_sidx rfl rfl rfl (by rw [← HN.out]; omega)) ?_
      simp only [Act.put, zzA, zz0, zz1]
      have HN1 := Lib.hid (show 1 ≤ t.length by rw [← HN.out]; omega)
      clear he
      have hm := mk_byte (t.getD 0 0)
      obtain ⟨b, hbe⟩ : ∃ b, b = t.getD 0 0 := ⟨_, rfl⟩
      rw [← hbe] at hm HD ⊢
      have HBE := Lib.hid hbe
      clear hbe
      have HM := Lib.hid hm
      clear hm
      have hx : ∀ W : World, Calls Tryz.prog 76 #[strV (t.drop 1)] W fun e w' => e = .returned (.bool (onlyOf (t.drop 1) dec)) ∧ w' = W := fun W => all_walk (t.drop 1) W (by have := HL.out; simp; omega)
      obtain ⟨td, htd⟩ : ∃ td, td = t.drop 1 := ⟨_, rfl⟩
      rw [← htd] at hx HD
      have HTD := Lib.hid htd
      have HX := Lib.hid hx
      clear hx htd
      generalize hq : onlyOf td dec = q at *
      clear hq
      by_cases h7 : b.toNat = 67
      · have HM2 := Lib.hid (show mk.contains b = true from by rw [HM.out, decide_eq_true h7]; rfl)
        refine wR (v := .bool true) (w' := w1) rfl (by go_simp <;> omega) ?_
        simp only [Act.put, zzA, zz0, zz1]
        refine wR (v := .bool true) rfl (exec_move rfl rfl) ?_
        simp only [Act.put, zzA, zz0, zz1]
        refine wpList_skip rfl ?_
        simp only [Act.put, zzA, zz0, zz1]
        refine wpList_skip rfl ?_
        simp only [Act.put, zzA, zz0, zz1]
        refine wpList_skip rfl ?_
        simp only [Act.put, zzA, zz0, zz1]
        refine wR (v := .bool true) (w' := w1) rfl (by go_simp) ?_
        simp only [Act.put, zzA, zz0, zz1]
        refine wR (v := .bool true) (w' := w1) rfl (by go_simp) ?_
        simp only [Act.put, zzA, zz0, zz1]
        refine wR (v := .bool true) rfl (exec_move rfl rfl) ?_
        simp only [Act.put, zzA, zz0, zz1]
        refine wR (v := strV t) rfl (exec_move rfl rfl) ?_
        simp only [Act.put, zzA, zz0, zz1]
        refine wR (v := strV td) (w' := w1) rfl (by rw [HTD.out]; exact exec_sfrom (n := 1) rfl rfl rfl HN1.out) ?_
        simp only [Act.put, zzA, zz0, zz1]
        go_wp2_with (go_at_call 76; refine (HX.out _).mono ?_; rintro e w2 ⟨rfl, rfl⟩)
        go_ret
        rw [HD.out, HE.out, HM2.out]
        exact ⟨by simp, HT1.out⟩
      · by_cases h8 : b.toNat = 68
        · have HM2 := Lib.hid (show mk.contains b = true from by rw [HM.out, decide_eq_true h8, Bool.or_true])
          refine wR (v := .bool false) (w' := w1) rfl (by go_simp <;> omega) ?_
          simp only [Act.put, zzA, zz0, zz1]
          refine wR (v := .bool false) rfl (exec_move rfl rfl) ?_
          simp only [Act.put, zzA, zz0, zz1]
          refine wR (v := strV t) rfl (exec_move rfl rfl) ?_
          simp only [Act.put, zzA, zz0, zz1]
          refine wR (v := .int .u8 (b.toNat : Int)) (w' := w1) rfl (by rw [HBE.out]; exact exec_sidx rfl rfl rfl (by have := HN1.out; omega)) ?_
          simp only [Act.put, zzA, zz0, zz1]
          refine wR (v := .bool true) (w' := w1) rfl (by go_simp <;> omega) ?_
          simp only [Act.put, zzA, zz0, zz1]
          refine wR (v := .bool true) (w' := w1) rfl (by go_simp) ?_
          simp only [Act.put, zzA, zz0, zz1]
          refine wR (v := .bool true) (w' := w1) rfl (by go_simp) ?_
          simp only [Act.put, zzA, zz0, zz1]
          refine wR (v := .bool true) rfl (exec_move rfl rfl) ?_
          simp only [Act.put, zzA, zz0, zz1]
          refine wR (v := strV t) rfl (exec_move rfl rfl) ?_
          simp only [Act.put, zzA, zz0, zz1]
          refine wR (v := strV td) (w' := w1) rfl (by rw [HTD.out]; exact exec_sfrom (n := 1) rfl rfl rfl HN1.out) ?_
          simp only [Act.put, zzA, zz0, zz1]
          go_wp2_with (go_at_call 76; refine (HX.out _).mono ?_; rintro e w2 ⟨rfl, rfl⟩)
          go_ret
          rw [HD.out, HE.out, HM2.out]
          exact ⟨by simp, HT1.out⟩
        · have HM2 := Lib.hid (show mk.contains b = false from by rw [HM.out]; simp only [decide_eq_false h7, decide_eq_false h8]; rfl)
          refine wR (v := .bool false) (w' := w1) rfl (by go_simp <;> omega) ?_
          simp only [Act.put, zzA, zz0, zz1]
          refine wR (v := .bool false) rfl (exec_move rfl rfl) ?_
          simp only [Act.put, zzA, zz0, zz1]
          refine wR (v := strV t) rfl (exec_move rfl rfl) ?_
          simp only [Act.put, zzA, zz0, zz1]
          refine wR (v := .int .u8 (b.toNat : Int)) (w' := w1) rfl (by rw [HBE.out]; exact exec_sidx rfl rfl rfl (by have := HN1.out; omega)) ?_
          simp only [Act.put, zzA, zz0, zz1]
          refine wR (v := .bool false) (w' := w1) rfl (by go_simp <;> omega) ?_
          simp only [Act.put, zzA, zz0, zz1]
          go_wp2_with fail
          go_ret
          rw [HD.out, HM2.out, Bool.false_and, Bool.and_false]
          exact ⟨rfl, HT1.out⟩
    · have HE := Lib.hid (show decide (n = s + 1) = false from decide_eq_false he)
      have y5 : ¬ ((n : Int) = ((s + 1 : Nat) : Int)) := by omega
      clear he
      go_wp2_with fail
      go_ret
      rw [HD.out, HE.out]
      exact ⟨by simp, HT1.out⟩
end Go.Proofs.YticofobhkmabiaaGreatDoor
namespace Go.Proofs.YticofobhkmabiaaGreatDoor
open Go.RowKit
open Fdd
set_option linter.unusedVariables false
set_option linter.unusedSimpArgs false
set_option maxRecDepth 20000 in
theorem fld_neq {a : Act} {o : Oper} {W : World} {x y : Operand} {u : TypeId} {f g : Fld} (ho : o.op = .binOp .neq 40 x y u) (hx : a.eval x = .agg (fldA f)) (hy : a.eval y = .agg (fldA g)) : (execOp a.eval o).run Tryz.prog W = .ok (.value (.bool (!(decide (f = g))))) W := by
  unfold execOp
  simp only [ho, hx, hy, fldA, strV]
  go_simp
  obtain ⟨a1, a2⟩ := f
  obtain ⟨b1, b2⟩ := g
  by_cases h : a1 = b1 <;> by_cases h2 : a2 = b2 <;> simp [h, h2]
theorem fsame_step {fs gs : List Fld} {k : Nat} {f g : Fld} (h : fs.take k = gs.take k) (hf : fs[k]? = some f) (hg : gs[k]? = some g) (e : f = g) : fs.take (k + 1) = gs.take (k + 1) := by
  rw [List.take_add_one, List.take_add_one, h, hf, hg, e]
theorem fsame_not {fs gs : List Fld} {k : Nat} {f g : Fld} (hf : fs[k]? = some f) (hg : gs[k]? = some g) (e : ¬ f = g) : ¬ fs = gs := by
  rintro rfl
  rw [hf] at hg
  injection hg with hg
  exact e hg
set_option maxRecDepth 20000 in
set_option maxHeartbeats 1000000 in
theorem Same_walk {w : World} {ty1 ty2 : Int} {A1 A2 : Option Addr} {n1 c1 n2 c2 : Nat} {fs1 fs2 : List Fld} (h1 : Fl w A1 n1 fs1) (h2 : Fl w A2 n2 fs2) :
    Calls Tryz.prog 12 #[msgV ty1 A1 n1 c1, msgV ty2 A2 n2 c2] w fun e w' => e = .returned (.bool (decide (ty1 = ty2 ∧ fs1 = fs2))) ∧ Turn nowhere w w' := by
  unfold msgV
  have hb1 := (Blk.new w 24 #[.int .i64 ty1, .slice A1 n1 c1]).alloc (.cells #[.int .i64 ty2, .slice A2 n2 c2] 24)
  have hb2 := Blk.new (w.alloc (.cells #[.int .i64 ty1, .slice A1 n1 c1] 24)) 24 #[.int .i64 ty2, .slice A2 n2 c2]
  have hu := ((Turn.refl nowhere w).alloc (.cells #[.int .i64 ty1, .slice A1 n1 c1] 24)).alloc (.cells #[.int .i64 ty2, .slice A2 n2 c2] 24)
  rw [show (w.alloc (.cells #[.int .i64 ty1, .slice A1 n1 c1] 24)).heap.size = w.heap.size + 1 from by simp] at hb2
  have HF1 := Lib.hid (h1.still hu)
  have HF2 := Lib.hid (h2.still hu)
  have HN1 := Lib.hid h1.1
  have HN2 := Lib.hid h2.1
  have HNM := Lib.hid h1.2.1
  have y9 : (n1 : Int) ≤ 140737488355328 := by
    have := h1.2.1
    omega
  have HU := Lib.hid hu
  have HB1 := Lib.hid hb1
  have HB2 := Lib.hid hb2
  clear h1 h2 hb1 hb2 hu
  go_enter Tryz.func12, Tryz.ntmps12
  go_upto_region 1 with fail
  generalize (w.alloc (.cells #[.int .i64 ty1, .slice A1 n1 c1] 24)).alloc (.cells #[.int .i64 ty2, .slice A2 n2 c2] 24) = w1 at *
  obtain ⟨p2, hp2⟩ : ∃ p, p = w.heap.size + 1 := ⟨_, rfl⟩
  obtain ⟨p1, hp1⟩ : ∃ p, p = w.heap.size := ⟨_, rfl⟩
  rw [← hp2] at HB2 ⊢
  rw [← hp1] at HB1 ⊢
  clear hp1 hp2
  refine wp_region_lit ?_
  refine wR (v := .pointer (some ⟨p1, 0, none⟩)) rfl (exec_field (off := 0) (d := 0) rfl rfl (by kernel_rfl)) ?_
  simp only [Act.put, zzA, zz0, zz1]
  refine wR (v := .int .i64 ty1) rfl (exec_load1 rfl rfl (by kernel_rfl) (HB1.out.cell 0)) ?_
  simp only [Act.put, zzA, zz0, zz1]
  refine wR (v := .pointer (some ⟨p2, 0, none⟩)) rfl (exec_field (off := 0) (d := 0) rfl rfl (by kernel_rfl)) ?_
  simp only [Act.put, zzA, zz0, zz1]
  refine wR (v := .int .i64 ty2) rfl (exec_load1 rfl rfl (by kernel_rfl) (HB2.out.cell 0)) ?_
  simp only [Act.put, zzA, zz0, zz1]
  by_cases ht : ty1 = ty2
  case neg =>
    have HR := Lib.hid (show decide (ty1 = ty2 ∧ fs1 = fs2) = false from decide_eq_false (fun h => ht h.1))
    refine wR (v := .bool true) rfl (ix_neq rfl rfl rfl (decide_eq_true ht)) ?_
    simp only [Act.put, zzA, zz0, zz1]
    refine wR (v := .bool true) rfl (exec_move rfl rfl) ?_
    simp only [Act.put, zzA, zz0, zz1]
    refine wpList_skip rfl ?_
    simp only [Act.put, zzA, zz0, zz1]
    refine wpList_skip rfl ?_
    simp only [Act.put, zzA, zz0, zz1]
    refine wpList_skip rfl ?_
    simp only [Act.put, zzA, zz0, zz1]
    refine wpList_skip rfl ?_
    simp only [Act.put, zzA, zz0, zz1]
    refine wpList_skip rfl ?_
    simp only [Act.put, zzA, zz0, zz1]
    refine wpList_skip rfl ?_
    simp only [Act.put, zzA, zz0, zz1]
    refine wpList_skip rfl ?_
    simp only [Act.put, zzA, zz0, zz1]
    refine wR (v := .bool true) rfl (ix_pickT rfl rfl rfl) ?_
    simp only [Act.put, zzA, zz0, zz1]
    clear ht
    go_wp2_with fail
    go_ret
    rw [HR.out]
    exact ⟨rfl, HU.out⟩
  refine wR (v := .bool false) rfl (ix_neq rfl rfl rfl (decide_eq_false (fun h => h ht))) ?_
  simp only [Act.put, zzA, zz0, zz1]
  refine wR (v := .bool false) rfl (exec_move rfl rfl) ?_
  simp only [Act.put, zzA, zz0, zz1]
  refine wR (v := .pointer (some ⟨p1, 1, none⟩)) rfl (exec_field (off := 0) (d := 1) rfl rfl (by kernel_rfl)) ?_
  simp only [Act.put, zzA, zz0, zz1]
  refine wR (v := .slice A1 n1 c1) rfl (exec_load1 rfl rfl (by kernel_rfl) (HB1.out.cell 1)) ?_
  simp only [Act.put, zzA, zz0, zz1]
  refine wR (v := .int .i64 (n1 : Int)) rfl (gx_len rfl rfl Tryz.underlying22) ?_
  simp only [Act.put, zzA, zz0, zz1]
  refine wR (v := .pointer (some ⟨p2, 1, none⟩)) rfl (exec_field (off := 0) (d := 1) rfl rfl (by kernel_rfl)) ?_
  simp only [Act.put, zzA, zz0, zz1]
  refine wR (v := .slice A2 n2 c2) rfl (exec_load1 rfl rfl (by kernel_rfl) (HB2.out.cell 1)) ?_
  simp only [Act.put, zzA, zz0, zz1]
  refine wR (v := .int .i64 (n2 : Int)) rfl (gx_len rfl rfl Tryz.underlying22) ?_
  simp only [Act.put, zzA, zz0, zz1]
  by_cases hn : n1 = n2
  case neg =>
    have HR := Lib.hid (show decide (ty1 = ty2 ∧ fs1 = fs2) = false from decide_eq_false (fun h => hn (by rw [← HN1.out, ← HN2.out, h.2])))
    refine wR (v := .bool true) rfl (ix_neq rfl rfl rfl (decide_eq_true (by omega))) ?_
    simp only [Act.put, zzA, zz0, zz1]
    refine wR (v := .bool true) rfl (ix_pickF rfl rfl rfl) ?_
    simp only [Act.put, zzA, zz0, zz1]
    clear ht hn
    go_wp2_with fail
    go_ret
    rw [HR.out]
    exact ⟨rfl, HU.out⟩
  subst hn
  subst ht
  refine wR (v := .bool false) rfl (ix_neq rfl rfl rfl (by simp)) ?_
  simp only [Act.put, zzA, zz0, zz1]
  refine wR (v := .bool false) rfl (ix_pickF rfl rfl rfl) ?_
  simp only [Act.put, zzA, zz0, zz1]
  go_wp2_with fail
  go_loopg [5] n1 (fun gk i wr => ∃ k : Nat, k + gk = n1 ∧ i = .int .i64 (k : Int) ∧ Turn nowhere w1 wr ∧ fs1.take k = fs2.take k)
  case atStart => exact ⟨0, by omega, rfl, Turn.refl _ _, rfl⟩
  obtain ⟨k, hkl, rfl, htr, htk⟩ := hrel
  have HKL := Lib.hid hkl
  have HTR := Lib.hid htr
  have HTK := Lib.hid htk
  have HB3 := Lib.hid (HB1.out.turn htr (fun e => e))
  have HB4 := Lib.hid (HB2.out.turn htr (fun e => e))
  clear hkl htr htk
  go_upto_region 4 with fail
  refine wp_region_lit ?_
  refine wR (v := .int .i64 (k : Int)) rfl (exec_move rfl rfl) ?_
  simp only [Act.put, zzA, zz0, zz1]
  refine wR (v := .pointer (some ⟨p1, 1, none⟩)) rfl (exec_field (off := 0) (d := 1) rfl rfl (by kernel_rfl)) ?_
  simp only [Act.put, zzA, zz0, zz1]
  refine wR (v := .slice A1 n1 c1) rfl (exec_load1 rfl rfl (by kernel_rfl) (HB3.out.cell 1)) ?_
  simp only [Act.put, zzA, zz0, zz1]
  refine wR (v := .int .i64 (n1 : Int)) rfl (gx_len rfl rfl Tryz.underlying22) ?_
  simp only [Act.put, zzA, zz0, zz1]
  by_cases hlt : k < n1
  · have HLT := Lib.hid hlt
    have y1 : (k : Int) < (n1 : Int) := by omega
    obtain ⟨B1, O1, rfl, hr1⟩ := HF1.out.2.2 (by omega)
    obtain ⟨B2, O2, rfl, hr2⟩ := HF2.out.2.2 (by omega)
    obtain ⟨f1, hf1⟩ : ∃ f, fs1[k]? = some f := ⟨_, List.getElem?_eq_getElem (show k < fs1.length from by rw [HN1.out]; exact hlt)⟩
    obtain ⟨f2, hf2⟩ : ∃ f, fs2[k]? = some f := ⟨_, List.getElem?_eq_getElem (show k < fs2.length from by rw [HN2.out]; exact hlt)⟩
    have hq1 : wr.rangeAt B1 (O1 + k * 2) (fldA f1).toList := fun j v hv => (HTR.out.cell (World.block_lt_of_cell? _ _ (hr1 k f1 hf1 j v hv)) (fun e => e)).trans (hr1 k f1 hf1 j v hv)
    have hq2 : wr.rangeAt B2 (O2 + k * 2) (fldA f2).toList := fun j v hv => (HTR.out.cell (World.block_lt_of_cell? _ _ (hr2 k f2 hf2 j v hv)) (fun e => e)).trans (hr2 k f2 hf2 j v hv)
    have HF3 := Lib.hid hf1
    have HF4 := Lib.hid hf2
    refine wR (v := .bool true) rfl (ix_lss rfl rfl rfl (decide_eq_true (by omega))) ?_
    simp only [Act.put, zzA, zz0, zz1]
    have hS0 : (fun W : World => Blk W p1 24 #[.int .i64 ty1, .slice (some ⟨B1, O1, none⟩) n1 c1] ∧ Blk W p2 24 #[.int .i64 ty1, .slice (some ⟨B2, O2, none⟩) n1 c2] ∧ W.rangeAt B1 (O1 + k * 2) (fldA f1).toList ∧ W.rangeAt B2 (O2 + k * 2) (fldA f2).toList) wr.drew := ⟨HB3.out.drew, HB4.out.drew, hq1, hq2⟩
    have HTD := Lib.hid (HTR.out.next (Turn.drew (Turn.refl nowhere wr)))
    clear hr1 hr2 hf1 hf2 hq1 hq2 hlt HB3 HB4 HTR
    go_upto_region 6 with fail
    refine wp_region_alw (fun W => Blk W p1 24 #[.int .i64 ty1, .slice (some ⟨B1, O1, none⟩) n1 c1] ∧ Blk W p2 24 #[.int .i64 ty1, .slice (some ⟨B2, O2, none⟩) n1 c2] ∧ W.rangeAt B1 (O1 + k * 2) (fldA f1).toList ∧ W.rangeAt B2 (O2 + k * 2) (fldA f2).toList) (by kernel_rfl) ?_
    generalize wr.drew = w3 at *
    refine alw_take (i := 0) (v := .pointer (some ⟨p1, 1, none⟩)) rfl (by kernel_rfl) (by kernel_rfl) (fun _ _ _ h => h) (.inl ⟨by rfl, fun W hW => exec_field (off := 0) (d := 1) rfl rfl (by kernel_rfl)⟩) hS0 ?_
    simp only [Act.put, zzA, zz0, zz1]
    refine alw_take (i := 1) (v := .slice (some ⟨B1, O1, none⟩) n1 c1) rfl (by kernel_rfl) (by kernel_rfl) (fun _ _ _ h => h) (.inl ⟨by rfl, fun W hW => exec_load1 rfl rfl (by kernel_rfl) (hW.1.cell 1)⟩) hS0 ?_
    simp only [Act.put, zzA, zz0, zz1]
    refine alw_take (i := 2) (v := .int .i64 (k : Int)) rfl (by kernel_rfl) (by kernel_rfl) (fun _ _ _ h => h) (.inl ⟨by rfl, fun W hW => exec_move rfl rfl⟩) hS0 ?_
    simp only [Act.put, zzA, zz0, zz1]
    refine alw_take (i := 3) (v := .pointer (some ⟨B1, O1 + k * 2, none⟩)) rfl (by kernel_rfl) (by kernel_rfl) (fun _ _ _ h => h) (.inl ⟨by rfl, fun W hW => gx_iaddr (i := k) (sz := 2) rfl rfl rfl Tryz.underlying22 size_field HLT.out (by omega)⟩) hS0 ?_
    simp only [Act.put, zzA, zz0, zz1]
    refine alw_take (i := 4) (v := .agg (fldA f1)) rfl (by kernel_rfl) (by kernel_rfl) (fun _ _ _ h => h) (.inl ⟨by rfl, fun W hW => gx_loads rfl rfl hW.2.2.1 Tryz.underlying40 rfl (by rw [size_field]; rfl)⟩) hS0 ?_
    simp only [Act.put, zzA, zz0, zz1]
    refine alw_take (i := 5) (v := .pointer (some ⟨p2, 1, none⟩)) rfl (by kernel_rfl) (by kernel_rfl) (fun _ _ _ h => h) (.inl ⟨by rfl, fun W hW => exec_field (off := 0) (d := 1) rfl rfl (by kernel_rfl)⟩) hS0 ?_
    simp only [Act.put, zzA, zz0, zz1]
    refine alw_take (i := 6) (v := .slice (some ⟨B2, O2, none⟩) n1 c2) rfl (by kernel_rfl) (by kernel_rfl) (fun _ _ _ h => h) (.inl ⟨by rfl, fun W hW => exec_load1 rfl rfl (by kernel_rfl) (hW.2.1.cell 1)⟩) hS0 ?_
    simp only [Act.put, zzA, zz0, zz1]
    refine alw_take (i := 7) (v := .int .i64 (k : Int)) rfl (by kernel_rfl) (by kernel_rfl) (fun _ _ _ h => h) (.inl ⟨by rfl, fun W hW => exec_move rfl rfl⟩) hS0 ?_
    simp only [Act.put, zzA, zz0, zz1]
    refine alw_take (i := 8) (v := .pointer (some ⟨B2, O2 + k * 2, none⟩)) rfl (by kernel_rfl) (by kernel_rfl) (fun _ _ _ h => h) (.inl ⟨by rfl, fun W hW => gx_iaddr (i := k) (sz := 2) rfl rfl rfl Tryz.underlying22 size_field HLT.out (by omega)⟩) hS0 ?_
    simp only [Act.put, zzA, zz0, zz1]
    refine alw_take (i := 9) (v := .agg (fldA f2)) rfl (by kernel_rfl) (by kernel_rfl) (fun _ _ _ h => h) (.inl ⟨by rfl, fun W hW => gx_loads rfl rfl hW.2.2.2 Tryz.underlying40 rfl (by rw [size_field]; rfl)⟩) hS0 ?_
    simp only [Act.put, zzA, zz0, zz1]
    refine alw_take (i := 10) (v := .bool (!(decide (f1 = f2)))) rfl (by kernel_rfl) (by kernel_rfl) (fun _ _ _ h => h) (.inl ⟨by rfl, fun W hW => fld_neq rfl rfl rfl⟩) hS0 ?_
    simp only [Act.put, zzA, zz0, zz1]
    refine alw_done rfl ?_
    clear hS0
    refine NoPanic.normal ?_
    by_cases heq : f1 = f2
    · have HTK2 := Lib.hid (fsame_step HTK.out HF3.out HF4.out heq)
      rw [decide_eq_true heq]
      clear heq
      go_wp2_with fail
      go_roundg (gk - 1)
      case measure => have := HKL.out; have := HLT.out; omega
      case rel => exact ⟨k + 1, by have := HKL.out; have := HLT.out; omega, by go_num, HTD.out, HTK2.out⟩
    · have HR := Lib.hid (show decide (fs1 = fs2) = false from decide_eq_false (fun h => fsame_not HF3.out HF4.out heq h))
      rw [decide_eq_false heq]
      clear heq
      go_wp2_with fail
      go_ret
      rw [HR.out]
      exact ⟨rfl, HU.out.next HTD.out⟩
  · have HR := Lib.hid (show decide (fs1 = fs2) = true from by
      have h1 := HTK.out
      rw [List.take_of_length_le (by rw [HN1.out]; omega), List.take_of_length_le (by rw [HN2.out]; omega)] at h1
      exact decide_eq_true h1)
    refine wR (v := .bool false) rfl (ix_lss rfl rfl rfl (decide_eq_false (by omega))) ?_
    simp only [Act.put, zzA, zz0, zz1]
    clear hlt
    go_wp2_with fail
    go_ret
    rw [HR.out]
    exact ⟨rfl, HU.out.next HTR.out⟩
end Go.Proofs.YticofobhkmabiaaGreatDoor
namespace Go.Proofs.YticofobhkmabiaaGreatDoor
open Go.RowKit Go.ChangeShapes Go.WideShapes Go.ChangeAt
open Fdd
set_option linter.unusedVariables false
def rowD (r : Rw) : DataW Unit := .agg [.lit (.string r.d), .lit (.string r.h), .lit (.string r.s), .lit (.string r.m)]
theorem rows_datum : (Rows.laid_groat_field_rows : DataW Unit) = .agg [rowD (rws 0), rowD (rws 1), rowD (rws 2), rowD (rws 3)] := rfl
theorem gRows : Tryz.prog.globalNamed "groat/field.rows" = some 12 := by kernel_rfl
theorem gRowsType : (Tryz.prog.globals[12]?).map (·.type) = some 190 := by kernel_rfl
theorem cells_rows : Tryz.prog.cellsOf 190 = 16 := by kernel_rfl
theorem cells_row : Tryz.prog.cellsOf 189 = 4 := by kernel_rfl
theorem list4 {l : List Value} (h : l.length = 4) : ∃ a b c d, l = [a, b, c, d] := by
  match l, h with
  | [a, b, c, d], _ => exact ⟨a, b, c, d, rfl⟩
section
variable {enc : TypeId × Value → Unit} {w : World} {base : Nat} {spare : Nat → Bool} {held : Bool}
theorem str_of {n : Nat} {v : Value} {y : DataW Unit × List MemPlace} {l : List UInt8} (h : DataW.trod enc Tryz.prog w base spare held n 9 [v] = some y) (hy : y.1 = .lit (.string l)) : v = strV l := by
  obtain ⟨s, hc, rfl, _⟩ := DataW.trod_string Tryz.underlying9 h
  injection hc with hc
  injection hy with hy
  injection hy with hy
  rw [hc, ← hy]
  rfl
theorem cells_str : Tryz.prog.cellsOf 9 = 1 := by kernel_rfl
theorem row_of {n : Nat} {cs : List Value} {y : DataW Unit × List MemPlace} {r : Rw} (h : DataW.trod enc Tryz.prog w base spare held n 189 cs = some y) (hy : y.1 = rowD r) : cs = rowV r := by
  obtain ⟨ys, m, _, hx, hl, hyl, hf⟩ := DataW.trod_struct Tryz.underlying189 h
  rw [cells_row] at hl
  obtain ⟨c0, c1, c2, c3, rfl⟩ := list4 hl
  have f0 : DataW.trod enc Tryz.prog w base spare held m 9 (([c0, c1, c2, c3].drop 0).take (Tryz.prog.cellsOf 9)) = ys[0]? := hf 0 _ rfl
  have f1 : DataW.trod enc Tryz.prog w base spare held m 9 (([c0, c1, c2, c3].drop 1).take (Tryz.prog.cellsOf 9)) = ys[1]? := hf 1 _ rfl
  have f2 : DataW.trod enc Tryz.prog w base spare held m 9 (([c0, c1, c2, c3].drop 2).take (Tryz.prog.cellsOf 9)) = ys[2]? := hf 2 _ rfl
  have f3 : DataW.trod enc Tryz.prog w base spare held m 9 (([c0, c1, c2, c3].drop 3).take (Tryz.prog.cellsOf 9)) = ys[3]? := hf 3 _ rfl
  rw [cells_str] at f0 f1 f2 f3
  have hyl4 : ys.length = 4 := hyl
  clear hf hl hyl
  match ys, hyl4 with
  | [y0, y1, y2, y3], _ =>
    have e0 : DataW.trod enc Tryz.prog w base spare held m 9 [c0] = some y0 := f0
    have e1 : DataW.trod enc Tryz.prog w base spare held m 9 [c1] = some y1 := f1
    have e2 : DataW.trod enc Tryz.prog w base spare held m 9 [c2] = some y2 := f2
    have e3 : DataW.trod enc Tryz.prog w base spare held m 9 [c3] = some y3 := f3
    rw [hx] at hy
    unfold rowD at hy
    simp only [List.map_cons, List.map_nil, DataW.agg.injEq, List.cons.injEq, and_true] at hy
    rw [str_of e0 hy.1, str_of e1 hy.2.1, str_of e2 hy.2.2.1, str_of e3 hy.2.2.2]
    rfl
end
theorem rows_of_laid {W : World} {l : List (String × DataW Unit)} (hl : l.filter (fun x => x.1 == "groat/field.rows") = [("groat/field.rows", Rows.laid_groat_field_rows)]) (h : laidMetH Tryz.prog l W) : RowsT W := by
  have h1 := h.filter (fun x => x.1 == "groat/field.rows")
  rw [hl, Go.MakeChecks.laidMetH_plain _ _ _ rfl] at h1
  obtain ⟨ps, ⟨g, t, cs, fuel, p, q, hg, ht, hv, hd, _, _⟩, _⟩ := h1
  obtain rfl := Option.some.inj (gRows.symm.trans hg)
  obtain rfl := Option.some.inj (gRowsType.symm.trans ht)
  rw [rows_datum] at hd
  obtain ⟨xs, m, _, hx, hlen, hxl, hf⟩ := DataW.trod_array Tryz.underlying190 hd
  have hm : xs.map (·.1) = [rowD (rws 0), rowD (rws 1), rowD (rws 2), rowD (rws 3)] := by
    have := congrArg Prod.fst hx
    injection this with this
    exact this.symm
  rw [cells_rows] at hlen
  intro k hk j v hj
  have hfk := hf k hk
  rw [cells_row] at hfk
  have hxk : xs[k]? = some xs[k] := List.getElem?_eq_getElem (by omega)
  rw [hxk] at hfk
  have hdk : xs[k].1 = rowD (rws k) := by
    have h2 := congrArg (fun l => l[k]?) hm
    simp only [List.getElem?_map, hxk, Option.map_some] at h2
    have hkk : k = 0 ∨ k = 1 ∨ k = 2 ∨ k = 3 := by omega
    rcases hkk with rfl | rfl | rfl | rfl <;> simpa using h2
  have hrow := row_of hfk hdk
  have hcell : W.cell? ⟨12, k * 4 + j, none⟩ = cs[k * 4 + j]? := World.var?_cell hg hv (k * 4 + j)
  rw [hcell]
  rw [← hrow] at hj
  have hj4 : j < 4 := by
    have := (List.getElem?_eq_some_iff.1 hj).1
    simp at this
    omega
  rw [List.getElem?_take, if_pos hj4, List.getElem?_drop] at hj
  rw [← Array.getElem?_toList]
  exact hj
end Go.Proofs.YticofobhkmabiaaGreatDoor
namespace Go.Proofs.YticofobhkmabiaaGreatDoor
open Go.RowKit Go.ChangeShapes Go.WideShapes Go.ChangeAt
set_option linter.unusedVariables false
theorem pow_datum : (Rows.laid_internal_strconv_uint64pow10 : DataW Unit) = Lib.tabData .u64 Lib.pow10Tab := by kernel_rfl
theorem pow_of_laid {W : World} {l : List (String × DataW Unit)} (hl : l.filter (fun x => x.1 == "internal/strconv.uint64pow10") = [("internal/strconv.uint64pow10", Rows.laid_internal_strconv_uint64pow10)]) (h : laidMetH Tryz.prog l W) : PowT W := by
  have h1 := h.filter (fun x => x.1 == "internal/strconv.uint64pow10")
  rw [hl, Go.MakeChecks.laidMetH_plain _ _ _ rfl, pow_datum] at h1
  exact Lib.tabIs_of_head (t := 232) (e := 135) (n := 20) gPow (by kernel_rfl) Tryz.underlying232 Tryz.underlying135 (by kernel_rfl) (by kernel_rfl) h1
end Go.Proofs.YticofobhkmabiaaGreatDoor
namespace Go.Proofs.YticofobhkmabiaaGreatDoor
open Go.RowKit Go.ChangeShapes Go.WideShapes Go.ChangeAt Go.Deep
open Fdd
set_option linter.unusedVariables false
theorem star : "*" ++ "errors.errorString" = "*errors.errorString" := by decide
theorem row_es (u : TypeId) (h : Tryz.prog.typeName? 3 u = some "*errors.errorString") : u = 236 :=
  typeName_ptr_named (nm := "errors.errorString") (by rw [star]; kernel_rfl) (by kernel_rfl) (by decide) u (by rw [star]; exact h)
def sentD (text : List UInt8) : DataW Unit := .iface "*errors.errorString" (.ptr (.agg [.lit (.string text)]))
theorem cells_es : Tryz.prog.cellsOf 238 = 1 := by kernel_rfl
theorem cells_s1 : Tryz.prog.cellsOf 9 = 1 := by kernel_rfl
set_option maxRecDepth 20000 in
/-- one of them -/
theorem sent1 {n : String} {text : List UInt8} {g : Nat} {W : World} {l : List (String × DataW Unit)} (hl : l.filter (fun x => x.1 == n) = [(n, sentD text)]) (h : laidMetH Tryz.prog l W)
    (hg : Tryz.prog.globalNamed n = some g) (ht : (Tryz.prog.globals[g]?).map (·.type) = some 43) : ∃ a, SenAt W g a := by
  have h1 := h.filter (fun x => x.1 == n)
  rw [hl, Go.MakeChecks.laidMetH_plain _ _ _ rfl] at h1
  obtain ⟨ps, ⟨g0, t0, cs0, f0, p0, q0, hg0, ht0, hv0, hd0, _, e0⟩, _, hrows⟩ := h1
  obtain rfl := Option.some.inj (hg.symm.trans hg0)
  obtain rfl := Option.some.inj (ht.symm.trans ht0)
  subst e0
  obtain ⟨l0⟩ := cs0
  have ok0 : ∀ u v, l0 = [.iface u v] → Value.okWide Tryz.prog W .any 0 u v := fun u v e => by
    subst e
    exact (hrows g 0 (by simp [MemPlace.row])).2 u v (by simpa using World.var?_cell hg0 hv0 0)
  obtain ⟨a0, s0, rfl, hc0, hs0, hz0, rfl⟩ := errorString_of_trod Tryz.underlying43 row_es Tryz.underlying236 Tryz.underlying238 rfl rfl Tryz.underlying9 cells_es cells_s1 hd0 ok0
  obtain ⟨c0, t0, hb0⟩ := (hrows a0.block a0.off (by simp [MemPlace.row])).1
  exact ⟨a0, by simpa using World.var?_cell hg0 hv0 0, c0, t0, hb0⟩
set_option maxRecDepth 20000 in
/-- two of them -/
theorem sent2 {n0 n1 : String} {x0 x1 : List UInt8} {g0 g1 : Nat} {a b : Addr} {W : World} {l : List (String × DataW Unit)} (h : laidMetH Tryz.prog l W) (hl : l.filter (fun x => x.1 == n0 || x.1 == n1) = [(n0, sentD x0), (n1, sentD x1)])
    (hg0 : Tryz.prog.globalNamed n0 = some g0) (ht0 : (Tryz.prog.globals[g0]?).map (·.type) = some 43) (hg1 : Tryz.prog.globalNamed n1 = some g1) (ht1 : (Tryz.prog.globals[g1]?).map (·.type) = some 43)
    (ha : SenAt W g0 a) (hb : SenAt W g1 b) : a ≠ b := by
  have h1 := h.filter (fun x => x.1 == n0 || x.1 == n1)
  rw [hl, Go.MakeChecks.laidMetH_plain _ _ _ rfl] at h1
  obtain ⟨a0, a1, s0, s1, c0, c1, t0, t1, hv0, hv1, _, _, _, _, _, _, hne, _, _⟩ := laid_sentinels2 h1 hg0 ht0 hg1 ht1 Tryz.underlying43 row_es Tryz.underlying236 Tryz.underlying238 rfl rfl Tryz.underlying9 cells_es cells_s1
  have e0 : W.cell? ⟨g0, 0, none⟩ = some (.iface 236 (.pointer (some a0))) := by simpa using World.var?_cell hg0 hv0 0
  have e1 : W.cell? ⟨g1, 0, none⟩ = some (.iface 236 (.pointer (some a1))) := by simpa using World.var?_cell hg1 hv1 0
  have ea : a = a0 := by
    have := ha.1.symm.trans e0
    injection this with this
    injection this with _ this
    injection this with this
    injection this
  have eb : b = a1 := by
    have := hb.1.symm.trans e1
    injection this with this
    injection this with _ this
    injection this with this
    injection this
  rw [ea, eb]
  exact hne
theorem g_errDialect : Tryz.prog.globalNamed "groat/message.errDialect" = some 0 := by kernel_rfl
theorem gt_errDialect : (Tryz.prog.globals[0]?).map (·.type) = some 43 := by kernel_rfl
theorem g_errType : Tryz.prog.globalNamed "groat/message.errType" = some 1 := by kernel_rfl
theorem gt_errType : (Tryz.prog.globals[1]?).map (·.type) = some 43 := by kernel_rfl
theorem g_errLong : Tryz.prog.globalNamed "groat/message.errLong" = some 2 := by kernel_rfl
theorem gt_errLong : (Tryz.prog.globals[2]?).map (·.type) = some 43 := by kernel_rfl
theorem g_errMap : Tryz.prog.globalNamed "groat/message.errMap" = some 3 := by kernel_rfl
theorem gt_errMap : (Tryz.prog.globals[3]?).map (·.type) = some 43 := by kernel_rfl
theorem g_errMore : Tryz.prog.globalNamed "groat/message.errMore" = some 4 := by kernel_rfl
theorem gt_errMore : (Tryz.prog.globals[4]?).map (·.type) = some 43 := by kernel_rfl
theorem g_errField : Tryz.prog.globalNamed "groat/message.errField" = some 6 := by kernel_rfl
theorem gt_errField : (Tryz.prog.globals[6]?).map (·.type) = some 43 := by kernel_rfl
theorem g_errText : Tryz.prog.globalNamed "groat/message.errText" = some 9 := by kernel_rfl
theorem gt_errText : (Tryz.prog.globals[9]?).map (·.type) = some 43 := by kernel_rfl
theorem g_errBytes : Tryz.prog.globalNamed "groat/message.errBytes" = some 10 := by kernel_rfl
theorem gt_errBytes : (Tryz.prog.globals[10]?).map (·.type) = some 43 := by kernel_rfl
theorem g_errShort : Tryz.prog.globalNamed "groat/message.errShort" = some 11 := by kernel_rfl
theorem gt_errShort : (Tryz.prog.globals[11]?).map (·.type) = some 43 := by kernel_rfl
theorem gEt : Tryz.prog.globalNamed "errors.errorType" = some 8 := by kernel_rfl
theorem rt_type : (Tryz.prog.cutTypes.find? (·.1 == "internal/reflectlite.rtype")).map (·.2) = some 151 := by kernel_rfl
theorem er_only : ((List.range Tryz.prog.types.size).all fun u => !(Tryz.prog.rowNamed u [101, 114, 114, 111, 114]) || u == 43) = true := by kernel_rfl
theorem etype_of_laid {W : World} {l : List (String × DataW Unit)} (hl : l.filter (fun x => x.1 == "errors.errorType") = [("errors.errorType", Rows.laid_errors_errorType)]) (h : laidMetH Tryz.prog l W) : W.cell? ⟨8, 0, none⟩ = some (.iface 151 (.agg #[.pointer (some ⟨21, 43, none⟩)])) := by
  have h1 := h.filter (fun x => x.1 == "errors.errorType")
  rw [hl] at h1
  obtain ⟨_, h2⟩ : laidMet Tryz.prog [] W ∧ handlesMet Tryz.prog [("errors.errorType", Rows.laid_errors_errorType)] W := h1
  have h3 := h2 _ (List.mem_singleton.2 rfl)
  obtain ⟨name, u, ty, hn, hu, hty, hr, hv⟩ : ∃ name u ty, (Rows.laid_errors_errorType : DataW Unit).handleName? = some name ∧ (Tryz.prog.cutTypes.find? (·.1 == "internal/reflectlite.rtype")).map (·.2) = some u ∧ ty < Tryz.prog.types.size ∧ Tryz.prog.rowNamed ty name = true ∧ W.var? Tryz.prog "errors.errorType" = some #[.iface u (.agg #[typeHandle Tryz.prog ty])] := h3
  obtain rfl : [101, 114, 114, 111, 114] = name := Option.some.inj ((show (Rows.laid_errors_errorType : DataW Unit).handleName? = some [101, 114, 114, 111, 114] from by kernel_rfl).symm.trans hn)
  obtain rfl := Option.some.inj (rt_type.symm.trans hu)
  have hq := List.all_eq_true.1 er_only ty (List.mem_range.2 hty)
  rw [hr] at hq
  obtain rfl : ty = 43 := by simpa using hq
  have := World.var?_cell gEt hv 0
  simpa [typeHandle, show Tryz.prog.globals.size = 21 from by kernel_rfl] using this
def zeros64s : List Int := [0,1,56,2,57,49,28,3,61,58,42,50,38,29,17,4,62,47,59,36,45,43,51,22,53,39,33,30,24,18,12,5,63,55,48,27,60,41,37,16,46,35,44,21,52,32,23,11,54,26,40,15,34,20,31,10,25,14,19,9,13,8,7,6]
theorem gZer : Tryz.prog.globalNamed "math/bits.deBruijn64tab" = some 20 := by kernel_rfl
theorem zer_datum : (Rows.laid_math_bits_deBruijn64tab : DataW Unit) = Lib.tabData .u8 zeros64s := by kernel_rfl
theorem zer_of_laid {W : World} {l : List (String × DataW Unit)} (hl : l.filter (fun x => x.1 == "math/bits.deBruijn64tab") = [("math/bits.deBruijn64tab", Rows.laid_math_bits_deBruijn64tab)]) (h : laidMetH Tryz.prog l W) : ZerT W := by
  have h1 := h.filter (fun x => x.1 == "math/bits.deBruijn64tab")
  rw [hl, Go.MakeChecks.laidMetH_plain _ _ _ rfl, zer_datum] at h1
  have h2 := Lib.tabIs_of_head (t := 247) (e := 5) (n := 64) gZer (by kernel_rfl) Tryz.underlying247 Tryz.underlying5 (by kernel_rfl) (by kernel_rfl) h1
  exact h2.cell gZer 15 (by decide)
theorem gTong : Tryz.prog.globalNamed "groat/message.tongues" = some 5 := by kernel_rfl
theorem gTongType : (Tryz.prog.globals[5]?).map (·.type) = some 86 := by kernel_rfl
theorem cells_tongs : Tryz.prog.cellsOf 86 = 12 := by kernel_rfl
theorem cells_tong : Tryz.prog.cellsOf 70 = 3 := by kernel_rfl
theorem cells_i : Tryz.prog.cellsOf 3 = 1 := by kernel_rfl
def tongD (k : Int) (v u : List UInt8) : DataW Unit := .agg [.lit (.int .i64 k), .lit (.string v), .lit (.string u)]
theorem tong_datum : (Rows.laid_groat_message_tongues : DataW Unit) = .agg [tongD 0 [] [], tongD 1 [48] [], tongD 2 [49] [], tongD 3 [57] [48, 48]] := rfl
theorem list3 {l : List Value} (h : l.length = 3) : ∃ a b c, l = [a, b, c] := by
  match l, h with
  | [a, b, c], _ => exact ⟨a, b, c, rfl⟩
section
variable {enc : TypeId × Value → Unit} {w : World} {base : Nat} {spare : Nat → Bool} {held : Bool}
theorem int_of {n : Nat} {v : Value} {y : DataW Unit × List MemPlace} {k : Int} (h : DataW.trod enc Tryz.prog w base spare held n 3 [v] = some y) (hy : y.1 = .lit (.int .i64 k)) : v = .int .i64 k := by
  obtain ⟨s, hc, rfl, _⟩ := DataW.trod_int Tryz.underlying3 h
  injection hc with hc
  injection hy with hy
  injection hy with _ hy
  rw [hc, ← hy]
theorem tong_of {n : Nat} {cs : List Value} {y : DataW Unit × List MemPlace} {k : Int} {v u : List UInt8} (h : DataW.trod enc Tryz.prog w base spare held n 70 cs = some y) (hy : y.1 = tongD k v u) : cs = [.int .i64 k, strV v, strV u] := by
  obtain ⟨ys, m, _, hx, hl, hyl, hf⟩ := DataW.trod_struct Tryz.underlying70 h
  rw [cells_tong] at hl
  obtain ⟨c0, c1, c2, rfl⟩ := list3 hl
  have f0 : DataW.trod enc Tryz.prog w base spare held m 3 (([c0, c1, c2].drop 0).take (Tryz.prog.cellsOf 3)) = ys[0]? := hf 0 _ rfl
  have f1 : DataW.trod enc Tryz.prog w base spare held m 9 (([c0, c1, c2].drop 1).take (Tryz.prog.cellsOf 9)) = ys[1]? := hf 1 _ rfl
  have f2 : DataW.trod enc Tryz.prog w base spare held m 9 (([c0, c1, c2].drop 2).take (Tryz.prog.cellsOf 9)) = ys[2]? := hf 2 _ rfl
  rw [cells_s1] at f1 f2
  rw [cells_i] at f0
  have hyl3 : ys.length = 3 := hyl
  clear hf hl hyl
  match ys, hyl3 with
  | [y0, y1, y2], _ =>
    have e0 : DataW.trod enc Tryz.prog w base spare held m 3 [c0] = some y0 := f0
    have e1 : DataW.trod enc Tryz.prog w base spare held m 9 [c1] = some y1 := f1
    have e2 : DataW.trod enc Tryz.prog w base spare held m 9 [c2] = some y2 := f2
    rw [hx] at hy
    unfold tongD at hy
    simp only [List.map_cons, List.map_nil, DataW.agg.injEq, List.cons.injEq, and_true] at hy
    rw [int_of e0 hy.1, str_of e1 hy.2.1, str_of e2 hy.2.2]
theorem row3_of {n : Nat} {cs : List Value} {y : DataW Unit × List MemPlace} {a b c : Int} (h : DataW.trod enc Tryz.prog w base spare held n 110 cs = some y) (hy : y.1 = .agg [.lit (.int .i64 a), .lit (.int .i64 b), .lit (.int .i64 c)]) : cs = [.int .i64 a, .int .i64 b, .int .i64 c] := by
  obtain ⟨ys, m, _, hx, hl, hyl, hf⟩ := DataW.trod_struct Tryz.underlying110 h
  rw [show Tryz.prog.cellsOf 110 = 3 from by kernel_rfl] at hl
  obtain ⟨c0, c1, c2, rfl⟩ := list3 hl
  have f0 : DataW.trod enc Tryz.prog w base spare held m 3 (([c0, c1, c2].drop 0).take (Tryz.prog.cellsOf 3)) = ys[0]? := hf 0 _ rfl
  have f1 : DataW.trod enc Tryz.prog w base spare held m 3 (([c0, c1, c2].drop 1).take (Tryz.prog.cellsOf 3)) = ys[1]? := hf 1 _ rfl
  have f2 : DataW.trod enc Tryz.prog w base spare held m 3 (([c0, c1, c2].drop 2).take (Tryz.prog.cellsOf 3)) = ys[2]? := hf 2 _ rfl
  rw [cells_i] at f0 f1 f2
  have hyl3 : ys.length = 3 := hyl
  clear hf hl hyl
  match ys, hyl3 with
  | [y0, y1, y2], _ =>
    have e0 : DataW.trod enc Tryz.prog w base spare held m 3 [c0] = some y0 := f0
    have e1 : DataW.trod enc Tryz.prog w base spare held m 3 [c1] = some y1 := f1
    have e2 : DataW.trod enc Tryz.prog w base spare held m 3 [c2] = some y2 := f2
    rw [hx] at hy
    simp only [List.map_cons, List.map_nil, DataW.agg.injEq, List.cons.injEq, and_true] at hy
    rw [int_of e0 hy.1, int_of e1 hy.2.1, int_of e2 hy.2.2]
end
set_option maxRecDepth 20000 in
theorem tong_of_laid {W : World} {l : List (String × DataW Unit)} (hl : l.filter (fun x => x.1 == "groat/message.tongues") = [("groat/message.tongues", Rows.laid_groat_message_tongues)]) (h : laidMetH Tryz.prog l W) : ∀ i v, tongCells[i]? = some v → W.cell? ⟨5, i, none⟩ = some v := by
  have h1 := h.filter (fun x => x.1 == "groat/message.tongues")
  rw [hl, Go.MakeChecks.laidMetH_plain _ _ _ rfl] at h1
  obtain ⟨ps, ⟨g, t, cs, fuel, p, q, hg, ht, hv, hd, _, _⟩, _⟩ := h1
  obtain rfl := Option.some.inj (gTong.symm.trans hg)
  obtain rfl := Option.some.inj (gTongType.symm.trans ht)
  rw [tong_datum] at hd
  obtain ⟨xs, m, _, hx, hlen, hxl, hf⟩ := DataW.trod_array Tryz.underlying86 hd
  have hm : xs.map (·.1) = [tongD 0 [] [], tongD 1 [48] [], tongD 2 [49] [], tongD 3 [57] [48, 48]] := by
    have := congrArg Prod.fst hx
    injection this with this
    exact this.symm
  rw [cells_tongs] at hlen
  obtain ⟨x0, x1, x2, x3, rfl⟩ : ∃ a b c d, xs = [a, b, c, d] := by
    match xs, hxl with
    | [a, b, c, d], _ => exact ⟨a, b, c, d, rfl⟩
  · simp only [List.map_cons, List.map_nil, List.cons.injEq, and_true] at hm
    have k0 := tong_of (hf 0 (by decide)) hm.1
    have k1 := tong_of (hf 1 (by decide)) hm.2.1
    have k2 := tong_of (hf 2 (by decide)) hm.2.2.1
    have k3 := tong_of (hf 3 (by decide)) hm.2.2.2
    rw [cells_tong] at k0 k1 k2 k3
    have hall : cs.toList = tongCells := by
      have e : cs.toList = ((cs.toList.drop (0 * 3)).take 3) ++ ((cs.toList.drop (1 * 3)).take 3) ++ ((cs.toList.drop (2 * 3)).take 3) ++ ((cs.toList.drop (3 * 3)).take 3) := by
        generalize cs.toList = L at hlen
        match L, hlen with
        | [b0, b1, b2, b3, b4, b5, b6, b7, b8, b9, b10, b11], _ => rfl
      rw [e, k0, k1, k2, k3]
      rfl
    intro i v hi
    rw [← hall] at hi
    have := World.var?_cell hg hv i
    rw [this, ← hi, Array.getElem?_toList]
theorem gMr : Tryz.prog.globalNamed "groat/message.rows" = some 7 := by kernel_rfl
theorem gMrType : (Tryz.prog.globals[7]?).map (·.type) = some 108 := by kernel_rfl
def row3D (r : Int × Int × Int) : DataW Unit := .agg [.lit (.int .i64 r.1), .lit (.int .i64 r.2.1), .lit (.int .i64 r.2.2)]
theorem mr_datum : (Rows.laid_groat_message_rows : DataW Unit) = .slice (mrows.map row3D) [] := rfl
theorem row_key (j i : Nat) (hj : j < 17) (hi : i < 3) : rowCells[j * 3 + i]? = ((mrows[j]?).map fun r => [Value.int .i64 r.1, .int .i64 r.2.1, .int .i64 r.2.2]).bind fun l => l[i]? := by
  have hjj : j = 0 ∨ j = 1 ∨ j = 2 ∨ j = 3 ∨ j = 4 ∨ j = 5 ∨ j = 6 ∨ j = 7 ∨ j = 8 ∨ j = 9 ∨ j = 10 ∨ j = 11 ∨ j = 12 ∨ j = 13 ∨ j = 14 ∨ j = 15 ∨ j = 16 := by omega
  have hii : i = 0 ∨ i = 1 ∨ i = 2 := by omega
  rcases hii with rfl | rfl | rfl <;> rcases hjj with rfl | rfl | rfl | rfl | rfl | rfl | rfl | rfl | rfl | rfl | rfl | rfl | rfl | rfl | rfl | rfl | rfl <;> rfl
set_option maxRecDepth 20000 in
theorem rows3_of_laid {W : World} {l : List (String × DataW Unit)} (hl : l.filter (fun x => x.1 == "groat/message.rows") = [("groat/message.rows", Rows.laid_groat_message_rows)]) (h : laidMetH Tryz.prog l W) : ∃ b off c, W.cell? ⟨7, 0, none⟩ = some (.slice (some ⟨b, off, none⟩) 17 c) ∧ ∀ i v, rowCells[i]? = some v → W.cell? ⟨b, off + i, none⟩ = some v := by
  have h1 := h.filter (fun x => x.1 == "groat/message.rows")
  rw [hl, Go.MakeChecks.laidMetH_plain _ _ _ rfl] at h1
  obtain ⟨ps, ⟨g, t, cs, fuel, p, q, hg, ht, hv, hd, _, _⟩, _⟩ := h1
  obtain rfl := Option.some.inj (gMr.symm.trans hg)
  obtain rfl := Option.some.inj (gMrType.symm.trans ht)
  rw [mr_datum] at hd
  rcases open_slice Tryz.underlying108 hd with ⟨_, hx⟩ | ⟨a, len, cap, m, n, D, Pl, hcs, hb, hlc, hm, hmm, hx, hi⟩
  · cases hx
  · have hx1 := congrArg Prod.fst hx
    injection hx1 with e1 e2
    have hlen : len = 17 := by
      have h17 : mrows.length = 17 := rfl
      have := congrArg List.length e1
      simp only [List.length_map, List.length_range] at this
      omega
    subst hlen
    have hlm : 17 ≤ m := by rw [hmm]; split <;> omega
    rw [show Tryz.prog.cellsOf 110 = 3 from by kernel_rfl] at hi
    have key : ∀ i r, mrows[i]? = some r → ∀ j v, [Value.int .i64 r.1, .int .i64 r.2.1, .int .i64 r.2.2][j]? = some v → W.cell? (a.add (i * 3 + j)) = some v := by
      intro i r hr j v hj
      have hi17 : i < 17 := (List.getElem?_eq_some_iff.1 hr).1
      obtain ⟨cs', hc, ht'⟩ := hi i (by omega)
      have hD : D i = row3D r := by
        have h2 := congrArg (fun l => l[i]?) e1
        simp only [List.getElem?_map, hr, Option.map_some, List.getElem?_range hi17] at h2
        exact (Option.some.inj h2).symm
      have := row3_of ht' hD
      subst this
      obtain ⟨_, _, hat⟩ := World.cells?_some hc
      have hj3 : j < 3 := (List.getElem?_eq_some_iff.1 hj).1
      rw [← Go.Deep.add_add, hat j hj3, hj]
    have hcell : W.cell? ⟨7, 0, none⟩ = some (.slice (some a) 17 cap) := by
      have := World.var?_cell hg hv 0
      rw [this, ← Array.getElem?_toList, hcs]
      rfl
    obtain ⟨b, off, spot⟩ := a
    have hsp : spot = none := by
      have := key 0 _ rfl 0 _ rfl
      simpa [Addr.add] using World.cell?_spot this
    subst hsp
    refine ⟨b, off, cap, hcell, fun i v hi => ?_⟩
    have hlt : i < 51 := (List.getElem?_eq_some_iff.1 hi).1
    have hq : ∃ r, mrows[i / 3]? = some r := ⟨_, List.getElem?_eq_getElem (show i / 3 < mrows.length from by show i / 3 < 17; omega)⟩
    obtain ⟨r, hr⟩ := hq
    have h9 := row_key (i / 3) (i % 3) (by omega) (by omega)
    rw [show i / 3 * 3 + i % 3 = i from by omega] at h9
    simp only [hr, Option.map_some, Option.bind_some] at h9
    have := key (i / 3) r hr (i % 3) v (h9.symm.trans hi)
    rw [show i / 3 * 3 + i % 3 = i from by omega] at this
    rw [show (⟨b, off, none⟩ : Addr).add i = ⟨b, off + i, none⟩ from by rw [add_nat]] at this
    exact this
set_option maxRecDepth 20000 in
theorem env_of_laid {W : World} {l : List (String × DataW Unit)} (hl : l = Rows.messageWritesRow.laid) (h : laidMetH Tryz.prog l W) : ∃ s, Env s W := by
  subst hl
  obtain ⟨a_dialect, h_dialect⟩ := sent1 (n := "groat/message.errDialect") rfl h g_errDialect gt_errDialect
  obtain ⟨a_type_, h_type_⟩ := sent1 (n := "groat/message.errType") rfl h g_errType gt_errType
  obtain ⟨a_long, h_long⟩ := sent1 (n := "groat/message.errLong") rfl h g_errLong gt_errLong
  obtain ⟨a_map, h_map⟩ := sent1 (n := "groat/message.errMap") rfl h g_errMap gt_errMap
  obtain ⟨a_more, h_more⟩ := sent1 (n := "groat/message.errMore") rfl h g_errMore gt_errMore
  obtain ⟨a_field, h_field⟩ := sent1 (n := "groat/message.errField") rfl h g_errField gt_errField
  obtain ⟨a_text, h_text⟩ := sent1 (n := "groat/message.errText") rfl h g_errText gt_errText
  obtain ⟨a_bytes, h_bytes⟩ := sent1 (n := "groat/message.errBytes") rfl h g_errBytes gt_errBytes
  obtain ⟨a_short, h_short⟩ := sent1 (n := "groat/message.errShort") rfl h g_errShort gt_errShort
  refine ⟨⟨a_dialect, a_type_, a_long, a_map, a_more, a_field, a_text, a_bytes, a_short⟩, ⟨h_dialect, h_type_, h_long, h_map, h_more, h_field, h_text, h_bytes, h_short, ⟨?_, ?_, ?_, ?_, ?_, ?_, ?_, ?_, ?_, ?_, ?_, ?_, ?_, ?_, ?_, ?_⟩, etype_of_laid rfl h⟩, ⟨rows3_of_laid rfl h, tong_of_laid rfl h⟩, rows_of_laid rfl h, pow_of_laid rfl h, zer_of_laid rfl h⟩
  · exact (sent2 (n0 := "groat/message.errDialect") (n1 := "groat/message.errMore") h rfl g_errDialect gt_errDialect g_errMore gt_errMore h_dialect h_more).symm
  · exact (sent2 (n0 := "groat/message.errType") (n1 := "groat/message.errMore") h rfl g_errType gt_errType g_errMore gt_errMore h_type_ h_more).symm
  · exact (sent2 (n0 := "groat/message.errLong") (n1 := "groat/message.errMore") h rfl g_errLong gt_errLong g_errMore gt_errMore h_long h_more).symm
  · exact (sent2 (n0 := "groat/message.errMap") (n1 := "groat/message.errMore") h rfl g_errMap gt_errMap g_errMore gt_errMore h_map h_more).symm
  · exact (sent2 (n0 := "groat/message.errDialect") (n1 := "groat/message.errMap") h rfl g_errDialect gt_errDialect g_errMap gt_errMap h_dialect h_map).symm
  · exact (sent2 (n0 := "groat/message.errType") (n1 := "groat/message.errMap") h rfl g_errType gt_errType g_errMap gt_errMap h_type_ h_map).symm
  · exact (sent2 (n0 := "groat/message.errLong") (n1 := "groat/message.errMap") h rfl g_errLong gt_errLong g_errMap gt_errMap h_long h_map).symm
  · exact (sent2 (n0 := "groat/message.errDialect") (n1 := "groat/message.errLong") h rfl g_errDialect gt_errDialect g_errLong gt_errLong h_dialect h_long).symm
  · exact (sent2 (n0 := "groat/message.errType") (n1 := "groat/message.errLong") h rfl g_errType gt_errType g_errLong gt_errLong h_type_ h_long).symm
  · exact (sent2 (n0 := "groat/message.errDialect") (n1 := "groat/message.errType") h rfl g_errDialect gt_errDialect g_errType gt_errType h_dialect h_type_).symm
  · exact sent2 (n0 := "groat/message.errField") (n1 := "groat/message.errText") h rfl g_errField gt_errField g_errText gt_errText h_field h_text
  · exact sent2 (n0 := "groat/message.errField") (n1 := "groat/message.errBytes") h rfl g_errField gt_errField g_errBytes gt_errBytes h_field h_bytes
  · exact sent2 (n0 := "groat/message.errField") (n1 := "groat/message.errShort") h rfl g_errField gt_errField g_errShort gt_errShort h_field h_short
  · exact (sent2 (n0 := "groat/message.errText") (n1 := "groat/message.errShort") h rfl g_errText gt_errText g_errShort gt_errShort h_text h_short).symm
  · exact (sent2 (n0 := "groat/message.errBytes") (n1 := "groat/message.errShort") h rfl g_errBytes gt_errBytes g_errShort gt_errShort h_bytes h_short).symm
  · exact (sent2 (n0 := "groat/message.errText") (n1 := "groat/message.errBytes") h rfl g_errText gt_errText g_errBytes gt_errBytes h_text h_bytes).symm
end Go.Proofs.YticofobhkmabiaaGreatDoor
namespace Go.Proofs.YticofobhkmabiaaGreatDoor
open Go.RowKit Go.Maps Go.ChangeShapes Go.WideShapes Go.Deep
open Fdd
set_option linter.unusedVariables false
theorem cells_msg : Tryz.prog.cellsOf 24 = 2 := by kernel_rfl
theorem cells_fld : Tryz.prog.cellsOf 40 = 2 := by kernel_rfl
theorem cells_int1 : Tryz.prog.cellsOf 3 = 1 := by kernel_rfl
theorem cells_str1 : Tryz.prog.cellsOf 9 = 1 := by kernel_rfl
theorem bytes_fld : Tryz.prog.bytesOf 40 = 24 := by kernel_rfl
section
variable {H : Type} {enc : TypeId × Value → H} {W : World} {base : Nat} {spare : Nat → Bool} {held : Bool}
set_option maxRecDepth 20000 in
theorem fl_of {A : Option Addr} {len cap fuel : Nat} {v : Value} {x : DataW H × List MemPlace} (h : DataW.trod enc Tryz.prog W base spare held fuel 22 [v] = some x) (hw : ∀ k ∈ x.1.weights Tryz.prog 22, k ≤ reachBytes) :
    ∃ A n c fs, v = .slice A n c ∧ Fl W A n fs ∧ n ≤ c ∧ (A = none → c = 0) ∧ ∀ f ∈ fs, (-9223372036854775808 ≤ f.1 ∧ f.1 ≤ 9223372036854775807) ∧ f.2.length ≤ 9223372036854775807 := by
  rcases open_slice_pairs Tryz.underlying22 Tryz.underlying40 cells_fld rfl rfl cells_int1 cells_str1 h with ⟨h0, _⟩ | ⟨a, len, cap, m, n, V0, V1, D0, D1, P0, P1, hcs, hb, hl, hm, hmm, rfl, hi⟩
  · injection h0 with h0
    exact ⟨none, 0, 0, [], h0, ⟨rfl, Nat.zero_le _, fun h => absurd h (by decide)⟩, Nat.le_refl _, fun _ => rfl, fun f hf => by cases hf⟩
  · injection hcs with hcs
    have hlm : len ≤ m := by rw [hmm]; split <;> omega
    have hb2 : len * 24 ≤ reachBytes := by
      have := hw ((((List.range len).map fun i => DataW.agg [D0 i, D1 i]).length + ((List.range (m - len)).map fun j => DataW.agg [D0 (len + j), D1 (len + j)]).length) * Tryz.prog.bytesOf 40) (by
        unfold DataW.weights
        simp only [Tryz.underlying22]
        exact List.mem_cons_self ..)
      rw [bytes_fld] at this
      simp only [List.length_map, List.length_range] at this
      omega
    have hn : len ≤ 140737488355328 := by
      have := reachBytes_lt
      omega
    have one : ∀ i, ∃ f : Fld, i < m → (V0 i = .int .i64 f.1 ∧ V1 i = strV f.2) ∧ (-9223372036854775808 ≤ f.1 ∧ f.1 ≤ 9223372036854775807) ∧ f.2.length ≤ 9223372036854775807 := by
      intro i
      by_cases him : i < m
      · obtain ⟨_, _, t0, t1⟩ := hi i him
        obtain ⟨k, e0, _, w0⟩ := DataW.trod_int Tryz.underlying3 t0
        obtain ⟨s, e1, _, ws⟩ := DataW.trod_string Tryz.underlying9 t1
        injection e0 with e0
        injection e1 with e1
        exact ⟨(k, s.data.toList), fun _ => ⟨⟨e0, e1⟩, i64_in w0, by
          have h9 : s.data.toList.length ≤ maxLen := ws
          unfold maxLen at h9
          omega⟩⟩
      · exact ⟨(0, []), fun h => absurd h him⟩
    obtain ⟨F, hF⟩ := Classical.axiomOfChoice one
    refine ⟨some a, len, cap, (List.range len).map F, hcs, ⟨by simp, hn, fun hp => ?_⟩, hl, (fun h => by cases h), fun f hf => ?_⟩
    · obtain ⟨b, off, spot⟩ := a
      have hc := (hi 0 (by omega)).1
      have hspot : spot = none := by simpa [Addr.add] using World.cell?_spot hc
      subst hspot
      refine ⟨b, off, rfl, fun i f hf j v hv => ?_⟩
      have hil : i < len := by
        have := (List.getElem?_eq_some_iff.1 hf).1
        simpa using this
      have hfe : f = F i := by
        rw [List.getElem?_map, List.getElem?_range hil] at hf
        exact (Option.some.inj hf).symm
      subst hfe
      obtain ⟨⟨q0, q1⟩, _⟩ := hF i (by omega)
      obtain ⟨k0, k1, _, _⟩ := hi i (by omega)
      have hj : j < 2 := by
        have := (List.getElem?_eq_some_iff.1 hv).1
        simpa [fldA] using this
      have h2 : j = 0 ∨ j = 1 := by omega
      rcases h2 with rfl | rfl
      · have e : v = .int .i64 (F i).1 := by
          have : some (Value.int .i64 (F i).1) = some v := hv
          exact (Option.some.inj this).symm
        rw [e, ← q0, ← k0, add_nat]
        rfl
      · have e : v = strV (F i).2 := by
          have : some (strV (F i).2) = some v := hv
          exact (Option.some.inj this).symm
        rw [e, ← q1, ← k1, add_nat, Nat.add_assoc]
    · obtain ⟨i, hi', rfl⟩ := List.mem_map.1 hf
      exact (hF i (by have := List.mem_range.1 hi'; omega)).2
set_option maxRecDepth 20000 in
theorem msg_of {b0 : Nat} {r : Reach} {v : Value} {d : DataW H} {p : List MemPlace} (hv : Value.okWide Tryz.prog W r b0 24 v) (h : DataW.Trod enc Tryz.prog W base spare held 24 v d p) (hw : ∀ k ∈ d.weights Tryz.prog 24, k ≤ reachBytes) :
    ∃ ty A n c fs, v = msgV ty A n c ∧ Fl W A n fs ∧ (-9223372036854775808 ≤ ty ∧ ty ≤ 9223372036854775807) ∧ n ≤ c ∧ (A = none → c = 0) ∧ ∀ f ∈ fs, (-9223372036854775808 ≤ f.1 ∧ f.1 ≤ 9223372036854775807) ∧ f.2.length ≤ 9223372036854775807 := by
  obtain ⟨v0, v1, y0, y1, n, rfl, rfl, _, t0, t1⟩ := Go.Joins.open_agg2 Tryz.underlying24 (by kernel_rfl) cells_msg hv h
  obtain ⟨k, e0, _, w0⟩ := DataW.trod_int Tryz.underlying3 t0
  injection e0 with e0
  subst e0
  obtain ⟨A, n, c, fs, rfl, hf, hnc, hz, hfs⟩ := fl_of (A := none) (len := 0) (cap := 0) t1 (fun k hk => hw k (by
    unfold DataW.weights
    simp only [Tryz.underlying24]
    show k ∈ DataW.weightsEach Tryz.prog [3, 22] [y0.1, y1.1]
    unfold DataW.weightsEach DataW.weightsEach
    exact List.mem_append_right _ (List.mem_append_left _ hk)))
  exact ⟨k, A, n, c, fs, rfl, hf, i64_in w0, hnc, hz, hfs⟩
end
end Go.Proofs.YticofobhkmabiaaGreatDoor
namespace Go.Proofs.YticofobhkmabiaaGreatDoor
open Go.RowKit Go.ChangeShapes Go.WideShapes Go.ChangeAt
theorem witness_zip {H : Type} {enc : TypeId × Value → H} {C : Checked} {os : Os} {f : FuncId} {fn : Func} {s : OpenSpec} {conds : List PathCond} {apart : Bool} {laid : List (String × DataW Unit)} (modest : Bool) (w0 : World) (args : Array Value) (hos : w0.os = os)
    (hsh : (w0.forCall (fun _ _ => 0) ⟨#[], args, []⟩).Shaped C.prog)
    (hok : Input.okWideB C.prog (w0.forCall (fun _ _ => 0) ⟨#[], args, []⟩) f ⟨#[], args, []⟩ = true)
    (hrow : s.preRow enc C.prog fn conds apart laid (w0.forCall (fun _ _ => 0) ⟨#[], args, []⟩).memory args) :
    ∃ (w : World) (tape : Tape) (i : Input), w.os = os ∧ (w.forCall tape i).Shaped C.prog ∧ i.vars = [] ∧ Input.okWide C.prog (w.forCall tape i) .any w.heap.size f i ∧
      s.preRow enc C.prog fn conds apart laid (w.forCall tape i).memory i.args ∧ ({ modest := modest } : Assume).holds C.prog (lone (Frame.enter C.prog f i.args .normal) [] (w.forCall tape i)) :=
  ⟨w0, fun _ _ => 0, ⟨#[], args, []⟩, hos, hsh, (Input.okWide_of_okWideB (base := 0) hok).1, (Input.okWide_of_okWideB hok).2, hrow, by
    simp only [Assume.holds]
    exact ⟨by simp, by simp, fun _ => Modest.zero, by simp, by simp⟩⟩
end Go.Proofs.YticofobhkmabiaaGreatDoor
namespace Go.Proofs.YticofobhkmabiaaGreatDoor
open Go.RowKit Go.ChangeShapes Go.WideShapes Go.ChangeAt
noncomputable def hbase (os : Os) : World := (World.holding Tryz.prog os ⟨#[], #[], []⟩).setCell ⟨8, 0, none⟩ (.iface 151 (.agg #[.pointer (some ⟨21, 43, none⟩)]))
noncomputable def hworld (os : Os) (laid : List (String × DataW Unit)) : World := (hbase os).layVars Tryz.prog (laid.filter fun x => x.2.handleName?.isNone)
theorem hworld_os (os : Os) (laid : List (String × DataW Unit)) : (hworld os laid).os = os := (World.layVars_os _ _ _).trans rfl
theorem laidH_hworld {os : Os} {laid : List (String × DataW Unit)} (args : Array Value)
    (hf : (hbase os).layFits Tryz.prog (laid.filter fun x => x.2.handleName?.isNone) [] = true)
    (hi : (hbase os).layIfaces Tryz.prog (laid.filter fun x => x.2.handleName?.isNone) (hworld os laid) = true)
    (hh : (laid.filter fun x => x.2.handleName?.isSome).all (handleAtB Tryz.prog ((hworld os laid).forCall (fun _ _ => 0) ⟨#[], args, []⟩).memory) = true) :
    laidMetH Tryz.prog laid ((hworld os laid).forCall (fun _ _ => 0) ⟨#[], args, []⟩).memory := by
  refine laidMetH_of_parts ?_ hh
  unfold hworld at hi ⊢
  generalize (laid.filter fun x => x.2.handleName?.isNone) = l at *
  have e1 : (l.filter fun x => (l.map (·.1)).contains x.1) = l := List.filter_eq_self.2 fun x hx => List.contains_iff_mem.2 (List.mem_map.2 ⟨x, hx, rfl⟩)
  have e2 : (l.filter fun x => !(l.map (·.1)).contains x.1) = [] := List.filter_eq_nil_iff.2 fun x hx => by rw [List.contains_iff_mem.2 (List.mem_map.2 ⟨x, hx, rfl⟩)]; simp
  have h : laidMet Tryz.prog l ((hbase os).layVars Tryz.prog l) := laidMet_layVars (w0 := hbase os) (l.map (·.1)) [] (by rw [e1]) (by rw [e1]; exact hf) (by rw [e1]; exact hi) (by rw [e2]; exact LaidIn.none)
  exact h.of_heap (by simp [World.memory, World.forCall, Input.heap])
end Go.Proofs.YticofobhkmabiaaGreatDoor
namespace Go.Proofs.YticofobhkmabiaaGreatDoor
open Go.RowKit Go.Maps Go.ChangeShapes Go.WideShapes Go.Deep
open Fdd
set_option linter.unusedVariables false
section
variable {H : Type} {enc : TypeId × Value → H} {W : World} {base : Nat} {spare : Nat → Bool} {held : Bool}
set_option maxRecDepth 20000 in
theorem fl_room {fuel : Nat} {v : Value} {x : DataW H × List MemPlace} (h : DataW.trod enc Tryz.prog W base spare held fuel 22 [v] = some x) (hw : ∀ k ∈ x.1.weights Tryz.prog 22, k ≤ reachBytes) :
    ∀ A n c, v = .slice A n c → n * 24 ≤ reachBytes := by
  rcases open_slice_pairs Tryz.underlying22 Tryz.underlying40 cells_fld rfl rfl cells_int1 cells_str1 h with ⟨h0, _⟩ | ⟨a, len, cap, m, n, V0, V1, D0, D1, P0, P1, hcs, hb, hl, hm, hmm, rfl, hi⟩
  · injection h0 with h0
    intro A n c e
    rw [h0] at e
    injection e with _ e2 _
    omega
  · injection hcs with hcs
    have hlm : len ≤ m := by rw [hmm]; split <;> omega
    have hb2 : len * 24 ≤ reachBytes := by
      have := hw ((((List.range len).map fun i => DataW.agg [D0 i, D1 i]).length + ((List.range (m - len)).map fun j => DataW.agg [D0 (len + j), D1 (len + j)]).length) * Tryz.prog.bytesOf 40) (by
        unfold DataW.weights
        simp only [Tryz.underlying22]
        exact List.mem_cons_self ..)
      rw [bytes_fld] at this
      simp only [List.length_map, List.length_range] at this
      omega
    intro A n c e
    rw [hcs] at e
    injection e with _ e2 _
    omega
set_option maxRecDepth 20000 in
theorem msg_room {b0 : Nat} {r : Reach} {v : Value} {d : DataW H} {p : List MemPlace} (hv : Value.okWide Tryz.prog W r b0 24 v) (h : DataW.Trod enc Tryz.prog W base spare held 24 v d p) (hw : ∀ k ∈ d.weights Tryz.prog 24, k ≤ reachBytes) :
    ∀ ty A n c, v = msgV ty A n c → n * 24 ≤ 140737488351232 := by
  obtain ⟨v0, v1, y0, y1, n, rfl, rfl, _, t0, t1⟩ := Go.Joins.open_agg2 Tryz.underlying24 (by kernel_rfl) cells_msg hv h
  have hr := fl_room t1 (fun k hk => hw k (by
    unfold DataW.weights
    simp only [Tryz.underlying24]
    show k ∈ DataW.weightsEach Tryz.prog [3, 22] [y0.1, y1.1]
    unfold DataW.weightsEach DataW.weightsEach
    exact List.mem_append_right _ (List.mem_append_left _ hk)))
  intro ty A n c e
  unfold msgV at e
  injection e with e
  have e2 : v1 = .slice A n c := by
    have : (#[v0, v1] : Array Value)[1]? = some (.slice A n c) := by rw [e]; rfl
    exact Option.some.inj this
  have := hr A n c e2
  have hrb : reachBytes = 140737488351232 := by decide
  omega
end
end Go.Proofs.YticofobhkmabiaaGreatDoor
namespace Go.Proofs.YticofobhkmabiaaGreatDoor
open Go.RowKit
open Fdd
set_option linter.unusedVariables false
set_option linter.unusedSimpArgs false
/-- the cells of fields in a row -/
def fcs (fs : List Fld) : List Value := fs.flatMap fun f => (fldA f).toList
theorem fcs_append (a b : List Fld) : fcs (a ++ b) = fcs a ++ fcs b := List.flatMap_append
theorem fcs_len : ∀ fs : List Fld, (fcs fs).length = fs.length * 2
  | [] => rfl
  | f :: r => by
    have := fcs_len r
    unfold fcs at this ⊢
    rw [List.flatMap_cons, List.length_append, this, List.length_cons]
    show 2 + r.length * 2 = _
    omega
theorem fcs_at : ∀ (fs : List Fld) (i j : Nat) (f : Fld), fs[i]? = some f → j < 2 → (fcs fs)[i * 2 + j]? = (fldA f).toList[j]?
  | [], i, j, f, h, _ => by simp at h
  | g :: r, 0, j, f, h, hj => by
    obtain rfl : g = f := by simpa using h
    rw [show 0 * 2 + j = j from by omega]
    show ((fldA g).toList ++ fcs r)[j]? = _
    rw [List.getElem?_append_left (show j < (fldA g).toList.length from hj)]
  | g :: r, i + 1, j, f, h, hj => by
    rw [show (i + 1) * 2 + j = (fldA g).toList.length + (i * 2 + j) from by show _ = 2 + _; omega]
    show ((fldA g).toList ++ fcs r)[(fldA g).toList.length + (i * 2 + j)]? = _
    rw [List.getElem?_append_right (by omega), Nat.add_sub_cancel_left]
    exact fcs_at r i j f (by simpa using h) hj
theorem fcs_one (fs : List Fld) : ∀ v ∈ fcs fs, v.oneCell' = true := fun v hv => by
  obtain ⟨f, _, h⟩ := List.mem_flatMap.1 hv
  exact fldA_one f v h
theorem fieldInfo : (Tryz.prog.info? 40).map (fun i => (i.zero, i.size, i.bytes)) = some (some (.agg #[.int .i64 0, strV []]), 2, 24) := by kernel_rfl
/-- a row of fields of the call's own -/
def FRow (w : World) (B : Nat) (v : Value) (fs : List Fld) : Prop := w.ownsRow B 40 2 v fs.length (fcs fs)
theorem FRow.nil (w : World) (B : Nat) : FRow w B (.slice none 0 0) [] := World.ownsRow_nil _ _ _ _
theorem FRow.still {w w' : World} {B : Nat} {v : Value} {fs : List Fld} (h : FRow w B v fs) (ht : Turn nowhere w w') : FRow w' B v fs := by
  refine ⟨h.1, ?_⟩
  rcases h.2 with h0 | ⟨g, cap, cur, rfl, hb1, hgg, rest⟩
  · exact .inl h0
  · have hlt : g < w.heap.size := (Array.getElem?_eq_some_iff.1 hgg).1
    exact .inr ⟨g, cap, cur, rfl, hb1, by rw [ht.block g hlt (fun e => e)]; exact hgg, rest⟩
theorem FRow.turn {F : Nat → Prop} {w w' : World} {B : Nat} {v : Value} {fs : List Fld} (h : FRow w B v fs) (ht : Turn F w w') (hF : ∀ k, v.ownBlock = some k → ¬ F k) : FRow w' B v fs := by
  refine ⟨h.1, ?_⟩
  rcases h.2 with h0 | ⟨g, cap, cur, rfl, hb1, hgg, rest⟩
  · exact .inl h0
  · have hlt : g < w.heap.size := (Array.getElem?_eq_some_iff.1 hgg).1
    exact .inr ⟨g, cap, cur, rfl, hb1, by rw [ht.block g hlt (hF g rfl)]; exact hgg, rest⟩
/-- a block of another sort is not its own -/
theorem FRow.ne {w : World} {B g : Nat} {v : Value} {fs : List Fld} {t : TypeId} {cs : Array Value} (h : FRow w B v fs) (hg : Blk w g t cs) (ht : t ≠ 40) : ∀ k, v.ownBlock = some k → k ≠ g := by
  intro k hk e
  subst e
  rcases h.2 with ⟨rfl, _⟩ | ⟨g', cap, cur, rfl, _, hg', _⟩
  · cases hk
  · have hk' : g' = k := Option.some.inj hk
    subst hk'
    exact (show Blk w g' 40 cur from hg').ne_ hg (fun h => ht h.symm) rfl
theorem FRow.less {w : World} {B C : Nat} {v : Value} {fs : List Fld} (h : FRow w B v fs) (hC : C ≤ B) : FRow w C v fs := by
  refine ⟨h.1, ?_⟩
  rcases h.2 with h0 | ⟨g, cap, cur, rfl, hb1, rest⟩
  · exact .inl h0
  · exact .inr ⟨g, cap, cur, rfl, Nat.le_trans hC hb1, rest⟩
theorem FRow.fl {w : World} {B n c : Nat} {A : Option Addr} {fs : List Fld} (h : FRow w B (.slice A n c) fs) (hn : fs.length * 24 ≤ 140737488355328) : Fl w A n fs ∧ fs.length = n ∧ n ≤ c ∧ c ≤ maxLen ∧ (A = none → c = 0) := by
  rcases id h.2 with ⟨e, h0⟩ | ⟨g, cap, cur, e, _, _, h1, h2, _⟩
  · injection e with e1 e2 e3
    subst e1 e2 e3
    have hfs : fs = [] := List.eq_nil_of_length_eq_zero h0
    subst hfs
    exact ⟨⟨rfl, by omega, fun h => absurd h (by decide)⟩, rfl, Nat.le_refl _, Nat.zero_le _, fun _ => rfl⟩
  · injection e with e1 e2 e3
    subst e1 e2 e3
    refine ⟨⟨rfl, by omega, fun hp => ⟨g, 0, rfl, fun i f hf j v hv => ?_⟩⟩, rfl, h1, h2, fun h => by cases h⟩
    have hj : j < 2 := (List.getElem?_eq_some_iff.1 hv).1
    have := World.ownsRow.cells (g := g) h rfl (i * 2 + j) v (by rw [fcs_at fs i j f hf hj]; exact hv)
    rw [add_nat] at this
    rw [Nat.zero_add] at this ⊢
    exact this
/-- what appends fields that lie anywhere -/
theorem frow_grow {B : Nat} {w : World} {v : Value} {fs news : List Fld} {A : Option Addr} {m c : Nat} {ty : TypeId} (hown : FRow w B v fs) (hB : B ≤ w.heap.size) (hb : Fl w A m news) (hc : A = none → c = 0) (hlen : (fs.length + m) * 24 ≤ 140737488355328) :
    ∃ A' c' w', (Builtin.append_ #[22, 22] ty #[v, .slice A m c]).run Tryz.prog w = .ok (.slice A' (fs.length + m) c') w' ∧ FRow w' B (.slice A' (fs.length + m) c') (fs ++ news) ∧ w.grownBy w' v.ownBlock := by
  obtain ⟨h1, h2, h3⟩ := hb
  obtain ⟨i0, hi0, hz0, hz1, hz2⟩ := info_parts fieldInfo
  have form : ∀ {w' : World} {v' : Value} {n : Nat} {xs : List Value}, w'.ownsRow B 40 2 v' n xs → ∃ A' c', v' = .slice A' n c' := by
    intro w' v' n xs h
    rcases h.2 with ⟨rfl, h0⟩ | ⟨g, cap, cur, rfl, _⟩
    · exact ⟨none, 0, by rw [h0]⟩
    · exact ⟨_, _, rfl⟩
  rcases A with _ | A
  · obtain rfl := hc rfl
    have hm0 : m = 0 := by
      rcases Nat.eq_zero_or_pos m with h0 | h0
      · exact h0
      · obtain ⟨_, _, h4, _⟩ := h3 h0; cases h4
    subst hm0
    have hn : news = [] := List.eq_nil_of_length_eq_zero h1
    subst hn
    have hrun := run_append_owned_none (P := Tryz.prog) (w := w) B 22 ty 40 i0 2 Tryz.underlying22 hi0 v _ _ hown
    obtain ⟨A', c', rfl⟩ := form hown
    exact ⟨A', c', w, hrun, by rw [List.append_nil]; exact hown, ⟨rfl, rfl, rfl, Nat.le_refl _, fun _ _ _ => rfl⟩⟩
  · obtain ⟨v', w', g1, g2, g3, _, _⟩ := run_append_own_at (P := Tryz.prog) w B 22 ty 40 i0 _ 2 24 Tryz.underlying22 hi0 hz0 hz1 hz2
      rfl (by omega) v fs.length _ hown A m c (fcs news) (by rw [fcs_len, h1]) (fun j u hj => by
        have hjl : j < news.length * 2 := by
          have := (List.getElem?_eq_some_iff.1 hj).1
          rwa [fcs_len] at this
        obtain ⟨b, off, e, hcell⟩ := h3 (by omega)
        obtain rfl := Option.some.inj e
        obtain ⟨f, hf⟩ : ∃ f, news[j / 2]? = some f := ⟨_, List.getElem?_eq_getElem (show j / 2 < news.length from by omega)⟩
        have hq := fcs_at news (j / 2) (j % 2) f hf (by omega)
        rw [show j / 2 * 2 + j % 2 = j from by omega, hj] at hq
        have := hcell (j / 2) f hf (j % 2) u hq.symm
        rw [add_nat]
        rwa [Nat.add_assoc, show j / 2 * 2 + j % 2 = j from by omega] at this) (fcs_one news) (by unfold maxLen; omega) (by omega) hB
    obtain ⟨A', c', rfl⟩ := form g2
    refine ⟨A', c', w', g1, ?_, g3⟩
    unfold FRow
    rw [List.length_append, h1, fcs_append]
    exact g2
theorem frow_more {F : Nat → Prop} {W1 w : World} {v : Value} {fs news : List Fld} {A : Option Addr} {m c : Nat} {ty : TypeId} (hown : FRow w W1.heap.size v fs) (hT : Turn F W1 w) (hb : Fl w A m news) (hc : A = none → c = 0) (hlen : (fs.length + m) * 24 ≤ 140737488355328) :
    ∃ A' c' w', (Builtin.append_ #[22, 22] ty #[v, .slice A m c]).run Tryz.prog w = .ok (.slice A' (fs.length + m) c') w' ∧ FRow w' W1.heap.size (.slice A' (fs.length + m) c') (fs ++ news) ∧ Turn F W1 w' := by
  obtain ⟨A', c', w', h1, h2, h3⟩ := frow_grow (ty := ty) hown hT.size hb hc hlen
  exact ⟨A', c', w', h1, h2, hT.grown h3 fun g e hg => by
    have := (hown.lt g e).1
    omega⟩
theorem build_f1 (f : Fld) (W : World) : (Instr.buildSlice 22 1 #[(0, .agg (fldA f))]).run Tryz.prog W = .ok (.slice (some ⟨W.heap.size, 0, none⟩) 1 1) (W.alloc (.cells (fldA f) 40)) := by
  obtain ⟨i0, hi0, hz0, hz1, hz2⟩ := info_parts fieldInfo
  exact run_buildSlice_one (P := Tryz.prog) (v := .agg (fldA f)) Tryz.underlying22 hi0 hz0 (by rw [hz1]; rfl) (by rw [hz1]; rfl) (by omega) (by omega) W
theorem build_f0 (W : World) : (Instr.buildSlice 22 0 #[]).run Tryz.prog W = .ok (.slice (some ⟨W.heap.size, 0, none⟩) 0 0) (W.alloc (.cells #[] 40)) := by kernel_rfl
/-- one field in a block of its own -/
theorem fl_one (f : Fld) (w : World) : Fl (w.alloc (.cells (fldA f) 40)) (some ⟨w.heap.size, 0, none⟩) 1 [f] := by
  refine ⟨rfl, by omega, fun _ => ⟨_, _, rfl, fun i g hg j v hv => ?_⟩⟩
  have hi : i = 0 := by
    have := (List.getElem?_eq_some_iff.1 hg).1
    simpa using this
  subst hi
  obtain rfl : f = g := by simpa using hg
  rw [(Blk.new w 40 (fldA f)).cell, Nat.zero_mul, Nat.zero_add]
  simpa using hv
/-- what appends one field -/
theorem frow_add {F : Nat → Prop} {W1 w : World} {v : Value} {fs : List Fld} {ty : TypeId} (hown : FRow w W1.heap.size v fs) (hT : Turn F W1 w) (f : Fld) (hlen : (fs.length + 1) * 24 ≤ 140737488355328) :
    ∃ A' c' w', (Builtin.append_ #[22, 22] ty #[v, .slice (some ⟨w.heap.size, 0, none⟩) 1 1]).run Tryz.prog (w.alloc (.cells (fldA f) 40)) = .ok (.slice A' (fs.length + 1) c') w' ∧ FRow w' W1.heap.size (.slice A' (fs.length + 1) c') (fs ++ [f]) ∧ Turn F W1 w' :=
  frow_more (c := 1) (hown.still ((Turn.refl nowhere w).alloc (.cells (fldA f) 40))) (hT.alloc _) (fl_one f w) (fun h => by cases h) hlen
/-- append([]api.Field{}, l...) -/
theorem copy_fs {w : World} {A : Option Addr} {m c : Nat} {fs : List Fld} {ty : TypeId} (hb : Fl w A m fs) (hc : A = none → c = 0) (hm : m * 24 ≤ 140737488355328) :
    ∃ A' c' w', (Builtin.append_ #[22, 22] ty #[.slice (some ⟨w.heap.size, 0, none⟩) 0 0, .slice A m c]).run Tryz.prog (w.alloc (.cells #[] 40)) = .ok (.slice A' m c') w' ∧ FRow w' w.heap.size (.slice A' m c') fs ∧ Turn nowhere w w' := by
  have hT := (Turn.refl nowhere w).alloc (.cells #[] 40)
  obtain ⟨A', c', w', h1, h2, h3⟩ := frow_more (ty := ty) (fs := []) (c := c) (W1 := w) (show FRow (w.alloc (.cells #[] 40)) w.heap.size (.slice (some ⟨w.heap.size, 0, none⟩) 0 0) [] from
    World.ownsRow_made w #[] 0 (Nat.le_refl _) (by unfold maxLen; omega) rfl) hT (hb.still hT) hc (by simp; omega)
  have hl : ([] : List Fld).length + m = m := by simp
  rw [hl] at h1 h2
  exact ⟨A', c', w', h1, h2, h3⟩
end Go.Proofs.YticofobhkmabiaaGreatDoor
namespace Go.Proofs.YticofobhkmabiaaGreatDoor
open Go.RowKit
open Fdd
set_option linter.unusedVariables false
set_option linter.unusedSimpArgs false
section
variable {α : Type}
theorem seg_take (l cs : List α) (o : Nat) (h : o + cs.length ≤ l.length) : (l.take o ++ cs ++ l.drop (o + cs.length)).take (o + cs.length) = l.take o ++ cs := by
  rw [List.take_append_of_le_length (by rw [List.length_append, List.length_take]; omega)]
  exact List.take_of_length_le (by rw [List.length_append, List.length_take]; omega)
theorem seg_drop (l cs : List α) (o : Nat) (h : o + cs.length ≤ l.length) : (l.take o ++ cs ++ l.drop (o + cs.length)).drop o = cs ++ l.drop (o + cs.length) := by
  rw [List.append_assoc]
  exact List.drop_left' (by rw [List.length_take]; omega)
theorem seg_less (l cs : List α) (o b : Nat) (h : o + cs.length ≤ l.length) (hb : b ≤ o) : (l.take o ++ cs ++ l.drop (o + cs.length)).take b = l.take b := by
  rw [List.append_assoc, List.take_append_of_le_length (by rw [List.length_take]; omega), List.take_take, Nat.min_eq_left hb]
theorem seg_len (l cs : List α) (o : Nat) (h : o + cs.length ≤ l.length) : (l.take o ++ cs ++ l.drop (o + cs.length)).length = l.length := by
  rw [List.length_append, List.length_append, List.length_take, List.length_drop]
  omega
/-- first the one at a, then the one behind it -/
theorem seg_up (l c1 c2 : List α) (a : Nat) (h : a + c1.length + c2.length ≤ l.length) :
    let l1 := l.take a ++ c1 ++ l.drop (a + c1.length)
    (l1.take (a + c1.length) ++ c2 ++ l1.drop (a + c1.length + c2.length)).take (a + c1.length + c2.length) = l.take a ++ c1 ++ c2 := by
  intro l1
  have hl : l1.length = l.length := seg_len l c1 a (by omega)
  rw [seg_take l1 c2 (a + c1.length) (by omega), seg_take l c1 a (by omega)]
/-- first the one behind, then the one ahead of it -/
theorem seg_down (l c1 c2 : List α) (a : Nat) (h : a + c1.length + c2.length ≤ l.length) :
    let l1 := l.take (a + c1.length) ++ c2 ++ l.drop (a + c1.length + c2.length)
    (l1.take a ++ c1 ++ l1.drop (a + c1.length)).take (a + c1.length + c2.length) = l.take a ++ c1 ++ c2 := by
  intro l1
  have hl : l1.length = l.length := seg_len l c2 (a + c1.length) h
  have h1 : l1.drop (a + c1.length) = c2 ++ l.drop (a + c1.length + c2.length) := seg_drop l c2 (a + c1.length) h
  have h2 : l1.take a = l.take a := seg_less l c2 (a + c1.length) a h (by omega)
  rw [h1, h2, ← List.append_assoc, List.take_append_of_le_length (by simp only [List.length_append, List.length_take]; omega)]
  exact List.take_of_length_le (by simp only [List.length_append, List.length_take]; omega)
end
theorem setRow_turn (w : World) (g : Nat) (cs : Array Value) : Turn (only g) w (w.setRow g cs) := ⟨rfl, rfl, rfl, by simp, fun k _ hk => setRow_other w g k cs hk⟩
/-- a copy of fields into the middle of a block -/
theorem run_copy2 {w : World} {ty : TypeId} {g o dLen dCap sLen sCap : Nat} {a : Addr} {cur : Array Value} {cs : List Value} (hg : Blk w g 40 cur) (hn : cs.length = Nat.min sLen dLen * 2)
    (hsrc : ∀ j v, cs[j]? = some v → w.cell? (a.add j) = some v) (hfit : o + cs.length ≤ cur.size) (h1 : ∀ v ∈ cs, v.oneCell' = true) :
    (Builtin.copy_ #[22, 22] ty #[.slice (some ⟨g, o, none⟩) dLen dCap, .slice (some a) sLen sCap]).run Tryz.prog w = .ok (goInt (Nat.min sLen dLen)) (w.setRow g (cur.toList.take o ++ cs ++ cur.toList.drop (o + cs.length)).toArray) := by
  obtain ⟨i0, hi0, hz0, hz1, hz2⟩ := info_parts fieldInfo
  have hl := run_loadCells_list (P := Tryz.prog) w a cs hsrc
  have hst := run_storeCells_at (P := Tryz.prog) g o 40 cs 0 cur w hg (by simpa using hfit) h1
  rw [hn] at hl
  simp [Builtin.copy_, run_underlying Tryz.underlying22, Builtin.lenOf, Builtin.firstCells, sizeOf, typeInfo, hi0, hz1, hl, hst]
theorem fcs_take (l : List Fld) (i : Nat) (h : i ≤ l.length) : (fcs l).take (i * 2) = fcs (l.take i) := by
  have e : fcs l = fcs (l.take i) ++ fcs (l.drop i) := by rw [← fcs_append, List.take_append_drop]
  rw [e, List.take_append_of_le_length (by rw [fcs_len, List.length_take]; omega)]
  exact List.take_of_length_le (by rw [fcs_len, List.length_take]; omega)
theorem fcs_drop (l : List Fld) (i : Nat) (h : i ≤ l.length) : (fcs l).drop (i * 2) = fcs (l.drop i) := by
  have e : fcs l = fcs (l.take i) ++ fcs (l.drop i) := by rw [← fcs_append, List.take_append_drop]
  rw [e]
  exact List.drop_left' (by rw [fcs_len, List.length_take]; omega)
end Go.Proofs.YticofobhkmabiaaGreatDoor
namespace Go.Proofs.YticofobhkmabiaaGreatDoor
open Go.RowKit
set_option linter.unusedVariables false
set_option linter.unusedSimpArgs false
theorem wpList_new {P : Program} {ops : Array Oper} {rest : List Oper} {o1 o2 : Oper} {a : Act} {w : World} {Q : Exit → Act → World → Prop} {zs : Array Value} (ty : TypeId) (x y : Operand) (cells : Array Value)
    (hg1 : Region.wanted o1 (yielded ops a.tmps) = true) (ho1 : o1.op = .alloc ty) (hz : (zeroValue ty).run P w = .ok (.agg zs) w) (hzs : (Value.agg zs).cells = zs)
    (hg2 : Region.wanted o2 (yielded ops (a.put o1.dst (.pointer (some ⟨w.heap.size, 0, none⟩))).tmps) = true) (ho2 : o2.op = .store ty x y)
    (hx : (a.put o1.dst (.pointer (some ⟨w.heap.size, 0, none⟩))).eval x = .pointer (some ⟨w.heap.size, 0, none⟩)) (hy : (a.put o1.dst (.pointer (some ⟨w.heap.size, 0, none⟩))).eval y = .agg cells)
    (hs : zs.size = cells.size) (hi : (P.info? ty).map (·.size) = some cells.size) (h1 : ∀ v ∈ cells.toList, v.oneCell' = true)
    (h : ∀ w' g, w.heap.size ≤ g → Blk w' g ty cells → Turn nowhere w w' → wpList P ops Q rest ((a.put o1.dst (.pointer (some ⟨g, 0, none⟩))).put o2.dst undef) w') : wpList P ops Q (o1 :: o2 :: rest) a w := by
  have hb := Blk.new w ty (Value.agg zs).cells
  have hu := (Turn.refl nowhere w).alloc (.cells (Value.agg zs).cells ty)
  refine wpList_run hg1 (gx_alloc ho1 hz) ?_
  refine wpList_store_row hg2 ty x y ho2 cells hb hx hy (by rw [hzs]; exact hs) hi h1 fun w' hb' hu' => ?_
  refine h w' _ (Nat.le_refl _) hb' (hu.trans hu' fun k hk e => ?_)
  have e : k = w.heap.size := e
  omega
theorem bx_slice3 {P : Program} {a : Act} {o : Oper} {t : TypeId} {x y z : Operand} {u v r q : Value} {W W' : World} (ho : o.op = .buildSlice t 3 #[(0, x), (1, y), (2, z)]) (hx : a.eval x = u) (hy : a.eval y = v) (hz : a.eval z = r)
    (h : (Instr.buildSlice t 3 #[(0, u), (1, v), (2, r)]).run P W = .ok q W') : (execOp a.eval o).run P W = .ok (.value q) W' := by
  unfold execOp
  simp only [ho, List.map_toArray, List.map_cons, List.map_nil, hx, hy, hz, h, Sem.run_bind, Sem.run_pure, Result.andThen_ok]
theorem bx_slice0 {P : Program} {a : Act} {o : Oper} {t : TypeId} {q : Value} {W W' : World} (ho : o.op = .buildSlice t 0 #[])
    (h : (Instr.buildSlice t 0 #[]).run P W = .ok q W') : (execOp a.eval o).run P W = .ok (.value q) W' := by
  unfold execOp
  simp only [ho, List.map_toArray, List.map_nil, h, Sem.run_bind, Sem.run_pure, Result.andThen_ok]
end Go.Proofs.YticofobhkmabiaaGreatDoor
namespace Go.Proofs.YticofobhkmabiaaGreatDoor
open Go.RowKit
open Fdd
set_option linter.unusedVariables false
set_option linter.unusedSimpArgs false
theorem fld_size2 : ∃ i, Tryz.prog.info? 40 = some i ∧ i.size = 2 := by
  have h := fieldInfo
  cases hq : Tryz.prog.info? 40 with
  | none => rw [hq] at h; cases h
  | some i => exact ⟨i, rfl, by rw [hq] at h; simp at h; exact h.2.1⟩
theorem sf_to (A : Option Addr) (n c e : Nat) (hc : e ≤ c) (W : World) : (Instr.sliceAt 22 (.slice A n c) none (some (.int .i64 (e : Int))) none).run Tryz.prog W = .ok (.slice A e c) W := by
  obtain ⟨i, hi1, hi2⟩ := fld_size2
  have b1 : (0 : Int) ≤ (e : Int) ∧ (e : Int) ≤ (c : Int) := ⟨by omega, by omega⟩
  have hu := Tryz.underlying22
  simp [Instr.sliceAt, Instr.slice, Instr.sliceBounds, Instr.sliceBound, asIntOf, run_underlying hu, sizeOf, typeInfo, hi1, b1]
  rw [if_pos (show e ≤ c by omega)]
  cases A <;> simp [Addr.add]
def fromF (A : Option Addr) (c d : Nat) : Option Addr := if c = d then A else A.map (·.add (d * 2))
theorem sf_from (A : Option Addr) (n c d : Nat) (h0 : d ≤ n) (hc : n ≤ c) (W : World) : (Instr.sliceAt 22 (.slice A n c) (some (.int .i64 (d : Int))) none none).run Tryz.prog W = .ok (.slice (fromF A c d) (n - d) (c - d)) W := by
  obtain ⟨i, hi1, hi2⟩ := fld_size2
  have b1 : (0 : Int) ≤ (d : Int) ∧ (d : Int) ≤ (n : Int) := ⟨by omega, by omega⟩
  have hu := Tryz.underlying22
  simp [Instr.sliceAt, Instr.slice, Instr.sliceBounds, Instr.sliceBound, asIntOf, run_underlying hu, sizeOf, typeInfo, hi1, hi2, b1, fromF]
  intro h
  omega
theorem fromF_at {g o c d : Nat} (h : d < c) : fromF (some ⟨g, o, none⟩) c d = some ⟨g, o + d * 2, none⟩ := by
  unfold fromF
  rw [if_neg (by omega)]
  show some ((⟨g, o, none⟩ : Addr).add (d * 2)) = _
  rw [add_nat]
section
variable {a : Act} {o : Oper} {W W' : World}
theorem gx_cap {x : Operand} {A : Option Addr} {n c : Nat} {t e : TypeId} (ho : o.op = .call { callee := .builtin .cap, args := #[x], argTypes := #[t] }) (hx : a.eval x = .slice A n c) (ht : Tryz.prog.underlying t = some (.slice e)) :
    (execOp a.eval o).run Tryz.prog W = .ok (.value (.int .i64 (c : Int))) W := by
  unfold execOp
  simp [ho, resolve, invoke, builtin, hx, Builtin.cap_, run_underlying ht, goInt]
theorem exec_copy {t : TypeId} {x y : Operand} {u v r : Value} (ho : o.op = .call { callee := .builtin .copy, args := #[x, y], argTypes := #[t, t] }) (hx : a.eval x = u) (hy : a.eval y = v) (hr : (Builtin.copy_ #[t, t] o.type #[u, v]).run Tryz.prog W = .ok r W') :
    (execOp a.eval o).run Tryz.prog W = .ok (.value r) W' := by
  unfold execOp
  simp only [ho, resolve, invoke, builtin, Sem.run_bind, Sem.run_pure, Result.andThen_ok, List.map_toArray, List.map_cons, List.map_nil, hx, hy, hr]
theorem exec_appz {t u : TypeId} {x y : Operand} {p v r : Value} (ho : o.op = .call { callee := .builtin .append, args := #[x, y], argTypes := #[t, u] }) (hx : a.eval x = p) (hy : a.eval y = v) (hr : (Builtin.append_ #[t, u] o.type #[p, v]).run Tryz.prog W = .ok r W') :
    (execOp a.eval o).run Tryz.prog W = .ok (.value r) W' := by
  unfold execOp
  simp only [ho, resolve, invoke, builtin, Sem.run_bind, Sem.run_pure, Result.andThen_ok, List.map_toArray, List.map_cons, List.map_nil, hx, hy, hr]
end
theorem fl_blk {w : World} {g : Nat} {x : Fld} (hx : Blk w g 40 (fldA x)) : Fl w (some ⟨g, 0, none⟩) 1 [x] := by
  refine ⟨rfl, by omega, fun _ => ⟨_, _, rfl, fun i y hy j v hv => ?_⟩⟩
  have hi : i = 0 := by
    have := (List.getElem?_eq_some_iff.1 hy).1
    simpa using this
  subst hi
  obtain rfl : x = y := by simpa using hy
  rw [hx.cell, Nat.zero_mul, Nat.zero_add]
  simpa using hv
/-- no room: a new row is made, the field and what stands behind it are copied into it -/
theorem ins_grow {W1 w : World} {b n c i g : Nat} {l : List Fld} {x : Fld} (hown : FRow w W1.heap.size (.slice (some ⟨b, 0, none⟩) n c) l) (hT : Turn nowhere W1 w) (hn : l.length = n) (hi : i < n) (hx : Blk w g 40 (fldA x)) (hc : n ≤ c) (hroom : c < n + 1) (hsz : (n + 1) * 24 ≤ 140737488355328) :
    ∃ g2 c2 w2, (Builtin.append_ #[22, 3] 22 #[.slice (some ⟨b, 0, none⟩) i c, .int .i64 ((n + 1 - i : Nat) : Int)]).run Tryz.prog w = .ok (.slice (some ⟨g2, 0, none⟩) (n + 1) c2) w2 ∧ n + 1 ≤ c2 ∧ c2 ≤ maxLen ∧
      ∃ w3, (Builtin.copy_ #[22, 22] 3 #[.slice (some ⟨g2, i * 2, none⟩) (n + 1 - i) (c2 - i), .slice (some ⟨g, 0, none⟩) 1 1]).run Tryz.prog w2 = .ok (goInt (Nat.min 1 (n + 1 - i))) w3 ∧
        ∃ w4, (Builtin.copy_ #[22, 22] 3 #[.slice (some ⟨g2, (i + 1) * 2, none⟩) (n + 1 - (i + 1)) (c2 - (i + 1)), .slice (some ⟨b, i * 2, none⟩) (n - i) (c - i)]).run Tryz.prog w3.drew = .ok (goInt (Nat.min (n - i) (n + 1 - (i + 1)))) w4 ∧
          FRow w4 W1.heap.size (.slice (some ⟨g2, 0, none⟩) (n + 1) c2) (l.take i ++ x :: l.drop i) ∧ Turn nowhere W1 w4 := by
  obtain ⟨i0, hi0, hz0, hz1, hz2⟩ := info_parts fieldInfo
  have hcells : ∀ j u, (fcs l)[j]? = some u → w.cell? ⟨b, j, none⟩ = some u := fun j u h => by
    have := World.ownsRow.cells (g := b) hown rfl j u h
    rwa [add_nat, Nat.zero_add] at this
  have hlen : (fcs l).length = n * 2 := by rw [fcs_len, hn]
  have hbw : b < w.heap.size := (hown.lt b rfl).2
  have htk : (fcs (l.take i)).length = i * 2 := by rw [fcs_len, List.length_take]; omega
  have hdk : (fcs (l.drop i)).length = (n - i) * 2 := by rw [fcs_len, List.length_drop, hn]
  have hold : (Builtin.firstCells i0.size i (.slice (some ⟨b, 0, none⟩) i c)).run Tryz.prog w.drew = .ok (fcs (l.take i)).toArray w.drew := by
    have hl := run_loadCells_list (P := Tryz.prog) w.drew ⟨b, 0, none⟩ (fcs (l.take i)) (fun j u h => by
      rw [add_nat, Nat.zero_add]
      rw [← fcs_take l i (by omega), List.getElem?_take] at h
      split at h
      · exact hcells j u h
      · cases h)
    rw [htk] at hl
    rw [hz1]
    exact hl
  have hap := Lib.run_append_grow_zeros (P := Tryz.prog) w 22 3 22 40 i0 _ .i64 .i64 Tryz.underlying22 Tryz.underlying3 hi0 hz0 (some ⟨b, 0, none⟩) i c (fcs (l.take i)) hold (n + 1 - i) (by omega) (by omega) (by omega) (by omega) (by rw [hz2]; omega)
    (by rw [hz2, show i + (n + 1 - i) = n + 1 from by omega]; exact growslice_fits hroom hsz)
  rw [show i + (n + 1 - i) = n + 1 from by omega] at hap
  have hGe : n + 1 ≤ grownCap w (n + 1) c 40 := grownCap_ge w _ _ _
  have hGm : grownCap w (n + 1) c 40 ≤ maxLen := grownCap_le_maxLen w (n + 1) c 40 (by unfold maxLen; omega)
  generalize grownCap w (n + 1) c 40 = G at *
  obtain ⟨ROW, hROW⟩ : ∃ ROW : Array Value, ROW = (fcs (l.take i)).toArray ++ Builtin.zeroCells (Value.agg #[.int .i64 0, strV []]).cells (n + 1 - i) ++ Builtin.zeroCells (Value.agg #[.int .i64 0, strV []]).cells (G - (n + 1)) := ⟨_, rfl⟩
  rw [← hROW] at hap
  have hRs : ROW.size = G * 2 := by
    rw [hROW]
    simp only [Array.size_append, Builtin.zeroCells, Array.size_map, Array.size_range, List.size_toArray, htk, Value.cells]
    show i * 2 + (n + 1 - i) * 2 + (G - (n + 1)) * 2 = G * 2
    omega
  have hRt : ROW.toList.take (i * 2) = fcs (l.take i) := by
    rw [hROW, Array.toList_append, Array.toList_append, List.append_assoc, List.take_append_of_le_length (by simp [htk])]
    exact List.take_of_length_le (by simp [htk])
  obtain ⟨g2, hg2⟩ : ∃ g2, g2 = w.heap.size := ⟨_, rfl⟩
  have hB2 : Blk (w.drew.alloc (.cells ROW 40)) g2 40 ROW := by rw [hg2]; exact Blk.new w.drew _ _
  have hT2 : Turn nowhere w (w.drew.alloc (.cells ROW 40)) := ((Turn.refl nowhere w).drew).alloc _
  rw [← hg2] at hap
  generalize w.drew.alloc (.cells ROW 40) = w2 at *
  have hg2b : b ≠ g2 := by omega
  have hgg : g ≠ g2 := by have := hx.lt; omega
  have hx2 := hx.turn hT2 (fun e => e)
  have hc3 := run_copy2 (w := w2) (ty := 3) (g := g2) (o := i * 2) (dLen := n + 1 - i) (dCap := G - i) (sLen := 1) (sCap := 1) (a := ⟨g, 0, none⟩) (cs := fcs [x]) hB2 (by
      rw [fcs_len]
      simp only [Nat.min_def, List.length_cons, List.length_nil]
      split <;> omega) (fun j u h => by
      have hj : j < 2 := (List.getElem?_eq_some_iff.1 h).1
      rw [add_nat, Nat.zero_add, hx2.cell]
      have := fcs_at [x] 0 j x rfl hj
      rw [Nat.zero_mul, Nat.zero_add, h] at this
      simpa using this.symm) (by rw [fcs_len, hRs]; simp; omega) (fcs_one _)
  have hl1 : (fcs [x]).length = 2 := rfl
  have hB3 : Blk (w2.setRow g2 (ROW.toList.take (i * 2) ++ fcs [x] ++ ROW.toList.drop (i * 2 + (fcs [x]).length)).toArray) g2 40 _ := setRow_heap w2 g2 _ _ _ _ hB2
  have hT3 := setRow_turn w2 g2 (ROW.toList.take (i * 2) ++ fcs [x] ++ ROW.toList.drop (i * 2 + (fcs [x]).length)).toArray
  generalize w2.setRow g2 (ROW.toList.take (i * 2) ++ fcs [x] ++ ROW.toList.drop (i * 2 + (fcs [x]).length)).toArray = w3 at *
  have hls : (ROW.toList.take (i * 2) ++ fcs [x] ++ ROW.toList.drop (i * 2 + (fcs [x]).length)).length = G * 2 := by
    rw [seg_len _ _ _ (by rw [hl1, Array.length_toList, hRs]; omega), Array.length_toList, hRs]
  have hc4 := run_copy2 (w := w3.drew) (ty := 3) (g := g2) (o := (i + 1) * 2) (dLen := n + 1 - (i + 1)) (dCap := G - (i + 1)) (sLen := n - i) (sCap := c - i) (a := ⟨b, i * 2, none⟩) (cs := fcs (l.drop i)) hB3.drew (by
      rw [hdk]
      simp only [Nat.min_def]
      split <;> omega) (fun j u h => by
      rw [add_nat]
      rw [← fcs_drop l i (by omega), List.getElem?_drop] at h
      have := hcells _ _ h
      show w3.cell? ⟨b, i * 2 + j, none⟩ = _
      rw [hT3.cell (p := ⟨b, i * 2 + j, none⟩) (by show b < w2.heap.size; have := hT2.size; omega) hg2b, hT2.cell (p := ⟨b, i * 2 + j, none⟩) hbw (fun e => e)]
      exact this) (by rw [hdk, List.size_toArray, hls]; omega) (fcs_one _)
  have hL : (l.take i ++ x :: l.drop i).length = n + 1 := by
    rw [List.length_append, List.length_cons, List.length_take, List.length_drop, hn]
    omega
  refine ⟨g2, G, w2, hap, hGe, hGm, w3, hc3, _, hc4, ?_, ?_⟩
  · refine ⟨by rw [fcs_len], .inr ⟨g2, G, _, ?_, by have := hT.size; omega, setRow_heap w3.drew g2 _ _ _ _ hB3.drew, ?_, hGm, ?_, ?_⟩⟩
    · rw [hL]
    · rw [hL]
      exact hGe
    · rw [List.size_toArray, List.toList_toArray, seg_len _ _ _ (by rw [hls, hdk]; omega), hls]
    · have h := seg_up ROW.toList (fcs [x]) (fcs (l.drop i)) (i * 2) (by rw [hl1, hdk, Array.length_toList, hRs]; omega)
      simp only at h
      rw [hl1] at h
      rw [show (l.take i ++ x :: l.drop i).length * 2 = i * 2 + 2 + (fcs (l.drop i)).length from by
        simp only [List.length_append, List.length_cons, List.length_take, List.length_drop, hdk, hn]
        omega, show (i + 1) * 2 = i * 2 + 2 from by omega]
      rw [List.toList_toArray, List.toList_toArray]
      rw [hl1]
      rw [h, hRt, show l.take i ++ x :: l.drop i = l.take i ++ ([x] ++ l.drop i) from rfl, fcs_append, fcs_append, List.append_assoc]
  · refine ((hT.trans hT2 fun _ _ e => e).trans hT3 fun k hk e => ?_).trans (((Turn.refl (only g2) w3).drew).trans (setRow_turn w3.drew g2 _) fun _ _ e => e) fun k hk e => ?_
    · have e : k = g2 := e
      have := hT.size
      omega
    · have e : k = g2 := e
      have := hT.size
      omega
/-- there is room: what stands behind is moved on by one, then the field is copied into its place -/
theorem ins_room {W1 w : World} {b n c i g : Nat} {l : List Fld} {x : Fld} (hown : FRow w W1.heap.size (.slice (some ⟨b, 0, none⟩) n c) l) (hT : Turn nowhere W1 w) (hn : l.length = n) (hi : i < n) (hx : Blk w g 40 (fldA x)) (hg : b ≠ g) (hroom : n + 1 ≤ c) (hc63 : c ≤ maxLen) :
    (∀ lb cb, (Extern.SlicesOverlaps.overlaps #[22, 22] #[4] #[.slice (some ⟨g, 0, none⟩) 1 1, .slice (some ⟨b, (i + 1) * 2, none⟩) lb cb]).run Tryz.prog w = .ok (.bool false) w) ∧
    ∃ w3, (Builtin.copy_ #[22, 22] 3 #[.slice (some ⟨b, (i + 1) * 2, none⟩) (n + 1 - (i + 1)) (c - (i + 1)), .slice (some ⟨b, i * 2, none⟩) (n + 1 - i) (c - i)]).run Tryz.prog w.drew = .ok (goInt (Nat.min (n + 1 - i) (n + 1 - (i + 1)))) w3 ∧
      ∃ w4, (Builtin.copy_ #[22, 22] 3 #[.slice (some ⟨b, i * 2, none⟩) (n + 1 - i) (c - i), .slice (some ⟨g, 0, none⟩) 1 1]).run Tryz.prog w3 = .ok (goInt (Nat.min 1 (n + 1 - i))) w4 ∧
        FRow w4 W1.heap.size (.slice (some ⟨b, 0, none⟩) (n + 1) c) (l.take i ++ x :: l.drop i) ∧ Turn nowhere W1 w4 := by
  have hcells : ∀ j u, (fcs l)[j]? = some u → w.cell? ⟨b, j, none⟩ = some u := fun j u h => by
    have := World.ownsRow.cells (g := b) hown rfl j u h
    rwa [add_nat, Nat.zero_add] at this
  have hlen : (fcs l).length = n * 2 := by rw [fcs_len, hn]
  have hdk : (fcs (l.drop i)).length = (n - i) * 2 := by rw [fcs_len, List.length_drop, hn]
  obtain ⟨hbw1, hbw⟩ := hown.lt b rfl
  obtain ⟨cur, hcur, hcs, htake⟩ : ∃ cur, Blk w b 40 cur ∧ cur.size = c * 2 ∧ cur.toList.take (n * 2) = fcs l := by
    rcases id hown.2 with ⟨e, _⟩ | ⟨g', cap, cur, e, _, hg', _, _, h1, h2⟩
    · cases e
    · injection e with e1 e2 e3
      injection e1 with e1
      injection e1 with e1 _ _
      subst e1 e3
      rw [hn] at h2
      exact ⟨cur, hg', h1, h2⟩
  have hl1 : (fcs [x]).length = 2 := rfl
  have hc3 := run_copy2 (w := w.drew) (ty := 3) (g := b) (o := (i + 1) * 2) (dLen := n + 1 - (i + 1)) (dCap := c - (i + 1)) (sLen := n + 1 - i) (sCap := c - i) (a := ⟨b, i * 2, none⟩) (cs := fcs (l.drop i)) hcur.drew (by
      rw [hdk]
      simp only [Nat.min_def]
      split <;> omega) (fun j u h => by
      rw [add_nat]
      rw [← fcs_drop l i (by omega), List.getElem?_drop] at h
      exact hcells _ _ h) (by rw [hdk, hcs]; omega) (fcs_one _)
  have hB3 : Blk (w.drew.setRow b (cur.toList.take ((i + 1) * 2) ++ fcs (l.drop i) ++ cur.toList.drop ((i + 1) * 2 + (fcs (l.drop i)).length)).toArray) b 40 _ := setRow_heap w.drew b _ _ _ _ hcur.drew
  have hT3 : Turn (only b) w (w.drew.setRow b (cur.toList.take ((i + 1) * 2) ++ fcs (l.drop i) ++ cur.toList.drop ((i + 1) * 2 + (fcs (l.drop i)).length)).toArray) := (Turn.refl (only b) w).drew.trans (setRow_turn w.drew b _) fun _ _ e => e
  generalize w.drew.setRow b (cur.toList.take ((i + 1) * 2) ++ fcs (l.drop i) ++ cur.toList.drop ((i + 1) * 2 + (fcs (l.drop i)).length)).toArray = w3 at *
  have hls : (cur.toList.take ((i + 1) * 2) ++ fcs (l.drop i) ++ cur.toList.drop ((i + 1) * 2 + (fcs (l.drop i)).length)).length = c * 2 := by
    rw [seg_len _ _ _ (by rw [hdk, Array.length_toList, hcs]; omega), Array.length_toList, hcs]
  have hx3 := hx.turn hT3 (fun e => hg (by have e : g = b := e; exact e.symm))
  have hc4 := run_copy2 (w := w3) (ty := 3) (g := b) (o := i * 2) (dLen := n + 1 - i) (dCap := c - i) (sLen := 1) (sCap := 1) (a := ⟨g, 0, none⟩) (cs := fcs [x]) hB3 (by
      rw [fcs_len]
      simp only [Nat.min_def, List.length_cons, List.length_nil]
      split <;> omega) (fun j u h => by
      have hj : j < 2 := (List.getElem?_eq_some_iff.1 h).1
      rw [add_nat, Nat.zero_add, hx3.cell]
      have := fcs_at [x] 0 j x rfl hj
      rw [Nat.zero_mul, Nat.zero_add, h] at this
      simpa using this.symm) (by rw [hl1, List.size_toArray, hls]; omega) (fcs_one _)
  have hL : (l.take i ++ x :: l.drop i).length = n + 1 := by
    rw [List.length_append, List.length_cons, List.length_take, List.length_drop, hn]
    omega
  refine ⟨fun lb cb => ?_, w3, hc3, _, hc4, ?_, ?_⟩
  · obtain ⟨i0, hi0, hz0, hz1, hz2⟩ := info_parts fieldInfo
    exact Lib.run_overlaps_apart w 22 4 40 Tryz.underlying22 2 (fun W => by simp [sizeOf, typeInfo, hi0, hz1]) ⟨g, 0, none⟩ ⟨b, (i + 1) * 2, none⟩ 1 1 lb cb (fun e => hg e.symm) 40 40 2 (c * 2)
      (by
        have h : w.heap[g]? = some (.cells (fldA x) 40 (0, 0)) := hx
        simp [World.shape?, h, fldA])
      (by
        have h : w.heap[b]? = some (.cells cur 40 (0, 0)) := hcur
        simp [World.shape?, h, hcs]) (by omega) (hx.frozen 0) (hx.frozen 2)
  · refine ⟨by rw [fcs_len], .inr ⟨b, c, _, ?_, hbw1, setRow_heap w3 b _ _ _ _ hB3, ?_, hc63, ?_, ?_⟩⟩
    · rw [hL]
    · rw [hL]
      exact hroom
    · rw [List.size_toArray, List.toList_toArray, seg_len _ _ _ (by rw [hls, hl1]; omega), hls]
    · have h := seg_down cur.toList (fcs [x]) (fcs (l.drop i)) (i * 2) (by rw [hl1, hdk, Array.length_toList, hcs]; omega)
      simp only at h
      rw [hl1] at h
      rw [show (l.take i ++ x :: l.drop i).length * 2 = i * 2 + 2 + (fcs (l.drop i)).length from by
        simp only [List.length_append, List.length_cons, List.length_take, List.length_drop, hdk, hn]
        omega, show (i + 1) * 2 = i * 2 + 2 from by omega]
      rw [List.toList_toArray, List.toList_toArray]
      rw [hl1]
      have hti : cur.toList.take (i * 2) = fcs (l.take i) := by
        rw [← fcs_take l i (by omega), ← htake, List.take_take, Nat.min_eq_left (by omega)]
      rw [h, hti, show l.take i ++ x :: l.drop i = l.take i ++ ([x] ++ l.drop i) from rfl, fcs_append, fcs_append, List.append_assoc]
  · refine (hT.trans hT3 fun k hk e => ?_).trans (setRow_turn w3 b _) fun k hk e => ?_
    · have e : k = b := e
      omega
    · have e : k = b := e
      omega
end Go.Proofs.YticofobhkmabiaaGreatDoor
namespace Go.Proofs.YticofobhkmabiaaGreatDoor
open Go.RowKit
open Fdd
set_option linter.unusedVariables false
set_option linter.unusedSimpArgs false
theorem exec_over {a : Act} {o : Oper} {W : World} {x y : Operand} {u v : Value} {ts : Array TypeId} (ho : o.op = .call { callee := .value (.func 56), args := #[x, y], argTypes := ts }) (hx : a.eval x = u) (hy : a.eval y = v)
    (hr : (Extern.SlicesOverlaps.overlaps #[22, 22] #[4] #[u, v]).run Tryz.prog W = .ok (.bool false) W) : (execOp a.eval o).run Tryz.prog W = .ok (.value (.bool false)) W := by
  have h : (callFunc 56 #[u, v]).run Tryz.prog W = .ok (.value (.bool false)) W := by
    rw [run_callFunc_extern Tryz.func56 (by kernel_rfl) (by kernel_rfl) (by kernel_rfl) (e := Extern.SlicesOverlaps.overlaps #[22, 22] #[4]) (by kernel_rfl), hr]
    rfl
  unfold execOp
  simp only [ho, resolve, invoke, Sem.run_bind, Sem.run_pure, Result.andThen_ok, List.map_toArray, List.map_cons, List.map_nil, hx, hy]
  rw [show a.eval (Operand.func 56) = .func (.func 56) #[] #[] from rfl]
  simp [Deferred.ofValue, h]
set_option maxRecDepth 20000 in
set_option maxHeartbeats 2000000 in
theorem Insert_walk {W1 w : World} {A : Option Addr} {n c i g : Nat} {l : List Fld} {x : Fld} (hown : FRow w W1.heap.size (.slice A n c) l) (hT : Turn nowhere W1 w) (hn : l.length = n) (hi : i ≤ n) (hx : Blk w g 40 (fldA x))
    (hg : ∀ b o t, A = some ⟨b, o, t⟩ → b ≠ g) (hsz : (n + 1) * 24 ≤ 140737488355328) :
    Calls Tryz.prog 34 #[.slice A n c, .int .i64 (i : Int), .slice (some ⟨g, 0, none⟩) 1 1] w fun e w' =>
      ∃ A' c', e = .returned (.slice A' (n + 1) c') ∧ FRow w' W1.heap.size (.slice A' (n + 1) c') (l.take i ++ x :: l.drop i) ∧ Turn nowhere W1 w' := by
  obtain ⟨hfl, _, hnc, hcm, hz⟩ := hown.fl (by rw [hn]; omega)
  have HO := Lib.hid hown
  have HT := Lib.hid hT
  have HN := Lib.hid hn
  have HI := Lib.hid hi
  have HX := Lib.hid hx
  have HG := Lib.hid hg
  have HS := Lib.hid hsz
  have HNC := Lib.hid hnc
  have HCM := Lib.hid hcm
  have y1 : (n : Int) ≤ 5864062014807 := by omega
  have y2 : (i : Int) ≤ (n : Int) := by omega
  have y3 : (c : Int) ≤ 9223372036854775807 := by unfold maxLen at hcm; omega
  clear hown hT hn hi hx hg hsz hnc hcm hz hfl
  go_enter Tryz.func34, Tryz.ntmps34
  go_upto_region 1 with fail
  refine wp_region_lit ?_
  refine wR (v := .slice A n c) rfl (exec_move rfl rfl) ?_
  simp only [Act.put, zzA, zz0, zz1]
  refine wR (v := .int .i64 (i : Int)) rfl (exec_move rfl rfl) ?_
  simp only [Act.put, zzA, zz0, zz1]
  refine wR (v := .slice (fromF A c i) (n - i) (c - i)) rfl (exec_slice rfl rfl rfl rfl rfl (sf_from A n c i HI.out HNC.out _)) ?_
  simp only [Act.put, zzA, zz0, zz1]
  go_upto_region 2 with fail
  refine wp_region_lit ?_
  refine wR (v := .slice (some ⟨g, 0, none⟩) 1 1) rfl (exec_move rfl rfl) ?_
  simp only [Act.put, zzA, zz0, zz1]
  refine wR (v := .int .i64 1) rfl (gx_len rfl rfl Tryz.underlying22) ?_
  simp only [Act.put, zzA, zz0, zz1]
  refine wR (v := .int .i64 1) rfl (gx_assign rfl rfl) ?_
  simp only [Act.put, zzA, zz0, zz1]
  go_upto_region 3 with fail
  refine wp_region_lit ?_
  refine wR (v := .int .i64 1) rfl (exec_move rfl rfl) ?_
  simp only [Act.put, zzA, zz0, zz1]
  refine wR (v := .bool false) rfl (ix_eql rfl rfl rfl (by decide)) ?_
  simp only [Act.put, zzA, zz0, zz1]
  go_upto_region 5 with fail
  refine wp_region_lit ?_
  refine wR (v := .slice A n c) rfl (exec_move rfl rfl) ?_
  simp only [Act.put, zzA, zz0, zz1]
  refine wR (v := .int .i64 (n : Int)) rfl (gx_len rfl rfl Tryz.underlying22) ?_
  simp only [Act.put, zzA, zz0, zz1]
  refine wR (v := .int .i64 (n : Int)) rfl (gx_assign rfl rfl) ?_
  simp only [Act.put, zzA, zz0, zz1]
  go_upto_region 6 with fail
  refine wp_region_lit ?_
  refine wR (v := .int .i64 (i : Int)) rfl (exec_move rfl rfl) ?_
  simp only [Act.put, zzA, zz0, zz1]
  refine wR (v := .int .i64 (n : Int)) rfl (exec_move rfl rfl) ?_
  simp only [Act.put, zzA, zz0, zz1]
  by_cases hin : i = n
  · refine wR (v := .bool true) rfl (ix_eql rfl rfl rfl (decide_eq_true (by omega))) ?_
    simp only [Act.put, zzA, zz0, zz1]
    subst hin
    obtain ⟨A7, c7, w7, hrun, hrow, ht7⟩ := frow_more (ty := 22) (c := 1) HO.out HT.out (fl_blk HX.out) (fun h => by cases h) (by rw [HN.out]; exact HS.out)
    rw [HN.out] at hrun hrow
    have HR7 := Lib.hid hrow
    have HT7 := Lib.hid ht7
    have HE := Lib.hid (show l.take i ++ x :: l.drop i = l ++ [x] from by rw [List.take_of_length_le (by rw [HN.out]; exact Nat.le_refl _), List.drop_of_length_le (by rw [HN.out]; exact Nat.le_refl _)])
    clear hrow ht7
    go_upto_region 7 with fail
    refine wp_region_lit ?_
    refine wR (v := .slice A i c) rfl (exec_move rfl rfl) ?_
    simp only [Act.put, zzA, zz0, zz1]
    refine wR (v := .slice (some ⟨g, 0, none⟩) 1 1) rfl (exec_move rfl rfl) ?_
    simp only [Act.put, zzA, zz0, zz1]
    refine wR (v := .slice A7 (i + 1) c7) (w' := w7) rfl (exec_append rfl rfl rfl hrun) ?_
    simp only [Act.put, zzA, zz0, zz1]
    refine wR (v := .slice A7 (i + 1) c7) rfl (gx_assign rfl rfl) ?_
    simp only [Act.put, zzA, zz0, zz1]
    clear hrun
    go_wp2_with fail
    go_ret
    rw [HE.out]
    exact ⟨_, _, rfl, HR7.out, HT7.out⟩
  · refine wR (v := .bool false) rfl (ix_eql rfl rfl rfl (decide_eq_false (by omega))) ?_
    simp only [Act.put, zzA, zz0, zz1]
    have hlt : i < n := by omega
    have y4 : (i : Int) < (n : Int) := by omega
    have HLT := Lib.hid hlt
    clear hin hlt
    obtain ⟨b, rfl⟩ : ∃ b, A = some ⟨b, 0, none⟩ := by
      rcases id HO.out.2 with ⟨e, h0⟩ | ⟨g', cap, cur, e, _⟩
      · have := HLT.out
        have := HN.out
        omega
      · injection e with e _ _
        exact ⟨g', e⟩
    go_upto_region 8 with fail
    refine wp_region_lit ?_
    refine wR (v := .int .i64 (n : Int)) rfl (exec_move rfl rfl) ?_
    simp only [Act.put, zzA, zz0, zz1]
    refine wR (v := .int .i64 1) rfl (exec_move rfl rfl) ?_
    simp only [Act.put, zzA, zz0, zz1]
    refine wR (v := .int .i64 ((n + 1 : Nat) : Int)) rfl (ix_add rfl rfl rfl (by omega) (by omega)) ?_
    simp only [Act.put, zzA, zz0, zz1]
    refine wR (v := .slice (some ⟨b, 0, none⟩) n c) rfl (exec_move rfl rfl) ?_
    simp only [Act.put, zzA, zz0, zz1]
    refine wR (v := .int .i64 (c : Int)) rfl (gx_cap rfl rfl Tryz.underlying22) ?_
    simp only [Act.put, zzA, zz0, zz1]
    by_cases hr : c < n + 1
    · refine wR (v := .bool true) rfl (ix_gtr rfl rfl rfl (decide_eq_true (by omega))) ?_
      simp only [Act.put, zzA, zz0, zz1]
      obtain ⟨g2, c2, w2, hap, hg2, hm2, w3, hc3, w4, hc4, hrow, ht4⟩ := ins_grow HO.out HT.out HN.out HLT.out HX.out HNC.out hr HS.out
      have HAP := Lib.hid hap
      have HC3 := Lib.hid hc3
      have HC4 := Lib.hid hc4
      have HR4 := Lib.hid hrow
      have HT4 := Lib.hid ht4
      have HG2 := Lib.hid hg2
      have y5 : (n : Int) + 1 ≤ (c2 : Int) := by omega
      have y6 : (c2 : Int) ≤ 9223372036854775807 := by unfold maxLen at hm2; omega
      clear hap hc3 hc4 hrow ht4 hg2 hm2 hr
      go_upto_region 9 with fail
      refine wp_region_lit ?_
      refine wR (v := .slice (some ⟨b, 0, none⟩) n c) rfl (exec_move rfl rfl) ?_
      simp only [Act.put, zzA, zz0, zz1]
      refine wR (v := .int .i64 (i : Int)) rfl (exec_move rfl rfl) ?_
      simp only [Act.put, zzA, zz0, zz1]
      refine wR (v := .slice (some ⟨b, 0, none⟩) i c) rfl (exec_slice rfl rfl rfl rfl rfl (sf_to _ n c i (by have := HNC.out; omega) _)) ?_
      simp only [Act.put, zzA, zz0, zz1]
      refine wR (v := .int .i64 (n : Int)) rfl (exec_move rfl rfl) ?_
      simp only [Act.put, zzA, zz0, zz1]
      refine wR (v := .int .i64 1) rfl (exec_move rfl rfl) ?_
      simp only [Act.put, zzA, zz0, zz1]
      refine wR (v := .int .i64 ((n + 1 : Nat) : Int)) rfl (ix_add rfl rfl rfl (by omega) (by omega)) ?_
      simp only [Act.put, zzA, zz0, zz1]
      refine wR (v := .int .i64 (i : Int)) rfl (exec_move rfl rfl) ?_
      simp only [Act.put, zzA, zz0, zz1]
      refine wR (v := .int .i64 ((n + 1 - i : Nat) : Int)) rfl (ix_sub rfl rfl rfl (by omega) (by omega)) ?_
      simp only [Act.put, zzA, zz0, zz1]
      refine wR (v := .slice (some ⟨g2, 0, none⟩) (n + 1) c2) (w' := w2) rfl (exec_appz rfl rfl rfl HAP.out) ?_
      simp only [Act.put, zzA, zz0, zz1]
      refine wR (v := .slice (some ⟨g2, 0, none⟩) (n + 1) c2) rfl (gx_assign rfl rfl) ?_
      simp only [Act.put, zzA, zz0, zz1]
      go_upto_region 10 with fail
      refine wp_region_lit ?_
      refine wR (v := .slice (some ⟨g2, 0, none⟩) (n + 1) c2) rfl (exec_move rfl rfl) ?_
      simp only [Act.put, zzA, zz0, zz1]
      refine wR (v := .int .i64 (i : Int)) rfl (exec_move rfl rfl) ?_
      simp only [Act.put, zzA, zz0, zz1]
      refine wR (v := .slice (some ⟨g2, i * 2, none⟩) (n + 1 - i) (c2 - i)) rfl (exec_slice rfl rfl rfl rfl rfl ((sf_from _ (n + 1) c2 i (by omega) HG2.out _).trans (by rw [fromF_at (by omega), Nat.zero_add]))) ?_
      simp only [Act.put, zzA, zz0, zz1]
      refine wR (v := .slice (some ⟨g, 0, none⟩) 1 1) rfl (exec_move rfl rfl) ?_
      simp only [Act.put, zzA, zz0, zz1]
      refine wR (v := goInt (Nat.min 1 (n + 1 - i))) (w' := w3) rfl (exec_copy rfl rfl rfl HC3.out) ?_
      simp only [Act.put, zzA, zz0, zz1]
      go_upto_region 11 with fail
      refine wp_region_alw (fun _ => True) (by kernel_rfl) ?_
      have hS0 : True := trivial
      refine alw_take (i := 0) (v := .slice (some ⟨g2, 0, none⟩) (n + 1) c2) rfl (by kernel_rfl) (by kernel_rfl) (fun _ _ _ h => h) (.inl ⟨by rfl, fun W hW => exec_move rfl rfl⟩) hS0 ?_
      simp only [Act.put, zzA, zz0, zz1]
      refine alw_take (i := 1) (v := .int .i64 (i : Int)) rfl (by kernel_rfl) (by kernel_rfl) (fun _ _ _ h => h) (.inl ⟨by rfl, fun W hW => exec_move rfl rfl⟩) hS0 ?_
      simp only [Act.put, zzA, zz0, zz1]
      refine alw_take (i := 2) (v := .int .i64 1) rfl (by kernel_rfl) (by kernel_rfl) (fun _ _ _ h => h) (.inl ⟨by rfl, fun W hW => exec_move rfl rfl⟩) hS0 ?_
      simp only [Act.put, zzA, zz0, zz1]
      refine alw_take (i := 3) (v := .int .i64 ((i + 1 : Nat) : Int)) rfl (by kernel_rfl) (by kernel_rfl) (fun _ _ _ h => h) (.inl ⟨by rfl, fun W hW => ix_add rfl rfl rfl (by omega) (by omega)⟩) hS0 ?_
      simp only [Act.put, zzA, zz0, zz1]
      refine alw_take (i := 4) (v := .slice (some ⟨g2, (i + 1) * 2, none⟩) (n + 1 - (i + 1)) (c2 - (i + 1))) rfl (by kernel_rfl) (by kernel_rfl) (fun _ _ _ h => h) (.inl ⟨by rfl, fun W hW => exec_slice rfl rfl rfl rfl rfl ((sf_from _ (n + 1) c2 (i + 1) (by omega) HG2.out _).trans (by by_cases hq : c2 = i + 1; exact absurd hq (by omega); rw [fromF_at (by omega), Nat.zero_add]))⟩) hS0 ?_
      simp only [Act.put, zzA, zz0, zz1]
      refine alw_take (i := 5) (v := .slice (some ⟨b, 0, none⟩) n c) rfl (by kernel_rfl) (by kernel_rfl) (fun _ _ _ h => h) (.inl ⟨by rfl, fun W hW => exec_move rfl rfl⟩) hS0 ?_
      simp only [Act.put, zzA, zz0, zz1]
      refine alw_take (i := 6) (v := .int .i64 (i : Int)) rfl (by kernel_rfl) (by kernel_rfl) (fun _ _ _ h => h) (.inl ⟨by rfl, fun W hW => exec_move rfl rfl⟩) hS0 ?_
      simp only [Act.put, zzA, zz0, zz1]
      refine alw_take (i := 7) (v := .slice (some ⟨b, i * 2, none⟩) (n - i) (c - i)) rfl (by kernel_rfl) (by kernel_rfl) (fun _ _ _ h => h) (.inl ⟨by rfl, fun W hW => exec_slice rfl rfl rfl rfl rfl ((sf_from _ n c i (by omega) HNC.out _).trans (by rw [fromF_at (by have := HNC.out; omega), Nat.zero_add]))⟩) hS0 ?_
      simp only [Act.put, zzA, zz0, zz1]
      refine alw_step (i := 8) (by kernel_rfl) rfl rfl ?_
      intro K1 HK1
      refine wp_run (exec_copy rfl rfl rfl HC4.out) ?_
      refine HK1.out _ _ ⟨trivial, ?_⟩
      clear HK1
      simp only [Act.put, zzA, zz0, zz1]
      refine alw_done rfl ?_
      clear hS0
      refine NoPanic.normal ?_
      go_upto_region 12 with fail
      refine wp_region_lit ?_
      refine wR (v := .slice (some ⟨g2, 0, none⟩) (n + 1) c2) rfl (exec_move rfl rfl) ?_
      simp only [Act.put, zzA, zz0, zz1]
      refine wR (v := .slice (some ⟨g2, 0, none⟩) (n + 1) c2) rfl (gx_assign rfl rfl) ?_
      simp only [Act.put, zzA, zz0, zz1]
      go_wp2_with fail
      go_ret
      exact ⟨_, _, rfl, HR4.out, HT4.out⟩
    · refine wR (v := .bool false) rfl (ix_gtr rfl rfl rfl (decide_eq_false (by omega))) ?_
      simp only [Act.put, zzA, zz0, zz1]
      have hr2 : n + 1 ≤ c := by omega
      obtain ⟨hov, w3, hc3, w4, hc4, hrow, ht4⟩ := ins_room HO.out HT.out HN.out HLT.out HX.out (HG.out b 0 none rfl) hr2 HCM.out
      have HOV := Lib.hid hov
      have HC3 := Lib.hid hc3
      have HC4 := Lib.hid hc4
      have HR4 := Lib.hid hrow
      have HT4 := Lib.hid ht4
      have HR2 := Lib.hid hr2
      clear hov hc3 hc4 hrow ht4 hr hr2
      go_upto_region 13 with fail
      refine wp_region_lit ?_
      refine wR (v := .slice (some ⟨b, 0, none⟩) n c) rfl (exec_move rfl rfl) ?_
      simp only [Act.put, zzA, zz0, zz1]
      refine wR (v := .int .i64 (n : Int)) rfl (exec_move rfl rfl) ?_
      simp only [Act.put, zzA, zz0, zz1]
      refine wR (v := .int .i64 1) rfl (exec_move rfl rfl) ?_
      simp only [Act.put, zzA, zz0, zz1]
      refine wR (v := .int .i64 ((n + 1 : Nat) : Int)) rfl (ix_add rfl rfl rfl (by omega) (by omega)) ?_
      simp only [Act.put, zzA, zz0, zz1]
      refine wR (v := .slice (some ⟨b, 0, none⟩) (n + 1) c) rfl (exec_slice rfl rfl rfl rfl rfl (sf_to _ n c (n + 1) HR2.out _)) ?_
      simp only [Act.put, zzA, zz0, zz1]
      refine wR (v := .slice (some ⟨b, 0, none⟩) (n + 1) c) rfl (gx_assign rfl rfl) ?_
      simp only [Act.put, zzA, zz0, zz1]
      go_upto_region 14 with fail
      refine wp_region_lit ?_
      refine wR (v := .slice (some ⟨g, 0, none⟩) 1 1) rfl (exec_move rfl rfl) ?_
      simp only [Act.put, zzA, zz0, zz1]
      refine wR (v := .slice (some ⟨b, 0, none⟩) (n + 1) c) rfl (exec_move rfl rfl) ?_
      simp only [Act.put, zzA, zz0, zz1]
      refine wR (v := .int .i64 (i : Int)) rfl (exec_move rfl rfl) ?_
      simp only [Act.put, zzA, zz0, zz1]
      refine wR (v := .int .i64 1) rfl (exec_move rfl rfl) ?_
      simp only [Act.put, zzA, zz0, zz1]
      refine wR (v := .int .i64 ((i + 1 : Nat) : Int)) rfl (ix_add rfl rfl rfl (by omega) (by omega)) ?_
      simp only [Act.put, zzA, zz0, zz1]
      refine wR (v := .slice (some ⟨b, (i + 1) * 2, none⟩) (n + 1 - (i + 1)) (c - (i + 1))) rfl (exec_slice rfl rfl rfl rfl rfl ((sf_from _ (n + 1) c (i + 1) (by omega) HR2.out _).trans (by have := HR2.out; rw [fromF_at (by omega), Nat.zero_add]))) ?_
      simp only [Act.put, zzA, zz0, zz1]
      refine wR (v := .bool false) rfl (exec_over rfl rfl rfl (HOV.out _ _)) ?_
      simp only [Act.put, zzA, zz0, zz1]
      refine wR (v := .bool true) rfl (ix_not (b := false) rfl rfl) ?_
      simp only [Act.put, zzA, zz0, zz1]
      go_upto_region 15 with fail
      refine wp_region_alw (fun _ => True) (by kernel_rfl) ?_
      have hS0 : True := trivial
      refine alw_take (i := 0) (v := .slice (some ⟨b, 0, none⟩) (n + 1) c) rfl (by kernel_rfl) (by kernel_rfl) (fun _ _ _ h => h) (.inl ⟨by rfl, fun W hW => exec_move rfl rfl⟩) hS0 ?_
      simp only [Act.put, zzA, zz0, zz1]
      refine alw_take (i := 1) (v := .int .i64 (i : Int)) rfl (by kernel_rfl) (by kernel_rfl) (fun _ _ _ h => h) (.inl ⟨by rfl, fun W hW => exec_move rfl rfl⟩) hS0 ?_
      simp only [Act.put, zzA, zz0, zz1]
      refine alw_take (i := 2) (v := .int .i64 1) rfl (by kernel_rfl) (by kernel_rfl) (fun _ _ _ h => h) (.inl ⟨by rfl, fun W hW => exec_move rfl rfl⟩) hS0 ?_
      simp only [Act.put, zzA, zz0, zz1]
      refine alw_take (i := 3) (v := .int .i64 ((i + 1 : Nat) : Int)) rfl (by kernel_rfl) (by kernel_rfl) (fun _ _ _ h => h) (.inl ⟨by rfl, fun W hW => ix_add rfl rfl rfl (by omega) (by omega)⟩) hS0 ?_
      simp only [Act.put, zzA, zz0, zz1]
      refine alw_take (i := 4) (v := .slice (some ⟨b, (i + 1) * 2, none⟩) (n + 1 - (i + 1)) (c - (i + 1))) rfl (by kernel_rfl) (by kernel_rfl) (fun _ _ _ h => h) (.inl ⟨by rfl, fun W hW => exec_slice rfl rfl rfl rfl rfl ((sf_from _ (n + 1) c (i + 1) (by omega) HR2.out _).trans (by have := HR2.out; rw [fromF_at (by omega), Nat.zero_add]))⟩) hS0 ?_
      simp only [Act.put, zzA, zz0, zz1]
      refine alw_take (i := 5) (v := .slice (some ⟨b, 0, none⟩) (n + 1) c) rfl (by kernel_rfl) (by kernel_rfl) (fun _ _ _ h => h) (.inl ⟨by rfl, fun W hW => exec_move rfl rfl⟩) hS0 ?_
      simp only [Act.put, zzA, zz0, zz1]
      refine alw_take (i := 6) (v := .int .i64 (i : Int)) rfl (by kernel_rfl) (by kernel_rfl) (fun _ _ _ h => h) (.inl ⟨by rfl, fun W hW => exec_move rfl rfl⟩) hS0 ?_
      simp only [Act.put, zzA, zz0, zz1]
      refine alw_take (i := 7) (v := .slice (some ⟨b, i * 2, none⟩) (n + 1 - i) (c - i)) rfl (by kernel_rfl) (by kernel_rfl) (fun _ _ _ h => h) (.inl ⟨by rfl, fun W hW => exec_slice rfl rfl rfl rfl rfl ((sf_from _ (n + 1) c i (by omega) HR2.out _).trans (by have := HR2.out; rw [fromF_at (by omega), Nat.zero_add]))⟩) hS0 ?_
      simp only [Act.put, zzA, zz0, zz1]
      refine alw_step (i := 8) (by kernel_rfl) rfl rfl ?_
      intro K1 HK1
      refine wp_run (exec_copy rfl rfl rfl HC3.out) ?_
      refine HK1.out _ _ ⟨trivial, ?_⟩
      clear HK1
      simp only [Act.put, zzA, zz0, zz1]
      refine alw_done rfl ?_
      clear hS0
      refine NoPanic.normal ?_
      go_upto_region 16 with fail
      refine wp_region_lit ?_
      refine wR (v := .slice (some ⟨b, 0, none⟩) (n + 1) c) rfl (exec_move rfl rfl) ?_
      simp only [Act.put, zzA, zz0, zz1]
      refine wR (v := .int .i64 (i : Int)) rfl (exec_move rfl rfl) ?_
      simp only [Act.put, zzA, zz0, zz1]
      refine wR (v := .slice (some ⟨b, i * 2, none⟩) (n + 1 - i) (c - i)) rfl (exec_slice rfl rfl rfl rfl rfl ((sf_from _ (n + 1) c i (by omega) HR2.out _).trans (by have := HR2.out; rw [fromF_at (by omega), Nat.zero_add]))) ?_
      simp only [Act.put, zzA, zz0, zz1]
      refine wR (v := .slice (some ⟨g, 0, none⟩) 1 1) rfl (exec_move rfl rfl) ?_
      simp only [Act.put, zzA, zz0, zz1]
      refine wR (v := goInt (Nat.min 1 (n + 1 - i))) (w' := w4) rfl (exec_copy rfl rfl rfl HC4.out) ?_
      simp only [Act.put, zzA, zz0, zz1]
      go_upto_region 17 with fail
      refine wp_region_lit ?_
      refine wR (v := .slice (some ⟨b, 0, none⟩) (n + 1) c) rfl (exec_move rfl rfl) ?_
      simp only [Act.put, zzA, zz0, zz1]
      refine wR (v := .slice (some ⟨b, 0, none⟩) (n + 1) c) rfl (gx_assign rfl rfl) ?_
      simp only [Act.put, zzA, zz0, zz1]
      go_wp2_with fail
      go_ret
      exact ⟨_, _, rfl, HR4.out, HT4.out⟩
end Go.Proofs.YticofobhkmabiaaGreatDoor
namespace Go.Proofs.YticofobhkmabiaaGreatDoor
open Go.RowKit
open Fdd
set_option linter.unusedVariables false
theorem rcheck_walk {f : Fm} {t : List UInt8} (w : World) (hl : t.length ≤ 9223372036854775807) :
    Calls Tryz.prog 27 #[fmV f, strV t] w fun e w' => e = .returned (.int .i64 (f.check t)) ∧ Turn nowhere w w' := by
  have HM := Lib.hid (fun W => rmay_walk f W)
  have hr : f.may = true → ∀ W, Calls Tryz.prog 49 #[fmV f, strV t] W fun e w' => e = .returned (.bool (f.right t)) ∧ Turn nowhere W w' := by
    intro hm W
    obtain ⟨k, s, c, rfl, h1, h2, h3⟩ := fm_exp hm
    exact rright_walk W (by omega) h3 hl
  have HR := Lib.hid hr
  clear hr hl
  have hck : f.check t = if f.may = true then if f.right t = true then 0 else 41 else 40 := rfl
  have HCK := Lib.hid hck
  clear hck
  obtain ⟨x0, x1, x2⟩ := f
  have hfv : fmV ⟨x0, x1, x2⟩ = .agg #[.int .i64 x0, .int .i64 x1, .int .i64 x2] := rfl
  rw [hfv] at HM HR ⊢
  clear hfv
  go_enter Tryz.func27, Tryz.ntmps27
  go_upto_region 1 with fail
  have hb0 := Blk.new w 49 #[.int .i64 x0, .int .i64 x1, .int .i64 x2]
  have ht0 := (Turn.refl nowhere w).alloc (.cells #[.int .i64 x0, .int .i64 x1, .int .i64 x2] 49)
  generalize (w.alloc (.cells #[.int .i64 x0, .int .i64 x1, .int .i64 x2] 49)) = w0 at *
  generalize w.heap.size = b2 at *
  have HB0 := Lib.hid hb0
  have HT0 := Lib.hid ht0
  clear hb0 ht0
  refine wp_region_lit ?_
  refine wR (v := .agg #[.int .i64 x0, .int .i64 x1, .int .i64 x2]) rfl (exec_load rfl rfl (load_blkForm HB0.out)) ?_
  simp only [Act.put, zzA, zz0, zz1]
  cases hm : Fm.may ⟨x0, x1, x2⟩ with
  | false =>
    rw [hm] at HM HCK
    go_wp2_with (go_at_call 48; refine (HM.out _).mono ?_; rintro e w1 ⟨rfl, ht1⟩)
    go_ret
    rw [HCK.out]
    exact ⟨rfl, HT0.out.next ht1⟩
  | true =>
    rw [hm] at HM HCK
    have HRR := Lib.hid (HR.out hm)
    clear HR
    go_upto_region 3 with (go_at_call 48; refine (HM.out _).mono ?_; rintro e w1 ⟨rfl, ht1⟩)
    have HT1 := Lib.hid (HT0.out.next ht1)
    have HB1 := Lib.hid (HB0.out.turn ht1 (fun e => e))
    clear ht1
    refine wp_region_lit ?_
    refine wR (v := .agg #[.int .i64 x0, .int .i64 x1, .int .i64 x2]) rfl (exec_load rfl rfl (load_blkForm HB1.out)) ?_
    simp only [Act.put, zzA, zz0, zz1]
    refine wR (v := strV t) rfl (exec_move rfl rfl) ?_
    simp only [Act.put, zzA, zz0, zz1]
    cases hrt : Fm.right ⟨x0, x1, x2⟩ t with
    | false =>
      rw [hrt] at HRR HCK
      go_wp2_with (go_at_call 49; refine (HRR.out _).mono ?_; rintro e w2 ⟨rfl, ht2⟩)
      go_ret
      rw [HCK.out]
      exact ⟨rfl, HT1.out.next ht2⟩
    | true =>
      rw [hrt] at HRR HCK
      go_wp2_with (go_at_call 49; refine (HRR.out _).mono ?_; rintro e w2 ⟨rfl, ht2⟩)
      go_ret
      rw [HCK.out]
      exact ⟨rfl, HT1.out.next ht2⟩
theorem put_own {f : Fm} {t : List UInt8} {W : World} (h : f.check t = 0) (hr : RowsT W) :
    Calls Tryz.prog 62 #[.slice none 0 0, fmV f, strV t] W fun e w' => ∃ A n c, e = .returned (.tuple #[.slice A n c, .int .i64 0]) ∧ Own w' W.heap.size 5 (.slice A n c) (f.put t) ∧ Turn nowhere W w' := by
  obtain ⟨hm, hrt⟩ := check_cases h
  obtain ⟨k, s, c, rfl, h1, h2, h3⟩ := fm_exp hm
  refine (put_main (cap := 0) h1 h2 h3 hrt hr (bs_nil W none) (by decide)).mono ?_
  rintro e w' ⟨A, n, c', rfl, ho, ht⟩
  rw [List.nil_append] at ho
  exact ⟨A, n, c', rfl, ho, ht⟩
theorem exec_nself {W : World} {a : Act} {o : Oper} {x y : Operand} {l : List UInt8} {t u : TypeId} (ho : o.op = .binOp .neq t x y u) (hx : a.eval x = strV l) (hy : a.eval y = strV l) : (execOp a.eval o).run Tryz.prog W = .ok (.value (.bool false)) W := by
  have h := exec_sneq (W := W) ho hx hy
  rwa [beq_self_eq_true] at h
/-- Take behind Put, and Take of less -/
theorem take_ok2 {f : Fm} {t rest : List UInt8} {W : World} {A : Option Addr} {n c : Nat} (h : f.check t = 0) (hr : RowsT W) (hb : Bs W A n (f.put t ++ rest)) (hn : n ≤ c) (hl : n ≤ 140737488355328) :
    Calls Tryz.prog 99 #[.slice A n c, fmV f] W fun e w' => ∃ A' n' c', e = .returned (.tuple #[strV t, .slice A' n' c', .int .i64 0]) ∧ Bs w' A' n' rest ∧ Turn nowhere W w' := by
  obtain ⟨hm, hrt⟩ := check_cases h
  obtain ⟨k, s, c', rfl, h1, h2, h3⟩ := fm_exp hm
  refine (take_main h1 h2 h3 hr hb hn hl).mono ?_
  rw [fm_back h1 h2 h3 hrt]
  rintro e w' ⟨⟨A', n', c'', rfl, ho⟩, ht⟩
  exact ⟨A', n', c'', rfl, (own_bs ho).1, ht⟩
theorem take_less {f : Fm} {t : List UInt8} {W : World} {A : Option Addr} {i c : Nat} (h : f.check t = 0) (hr : RowsT W) (hb : Bs W A i ((f.put t).take i)) (hi : i < (f.put t).length) (hn : i ≤ c) :
    Calls Tryz.prog 99 #[.slice A i c, fmV f] W fun e w' => e = .returned (.tuple #[strV [], .slice none 0 0, .int .i64 43]) ∧ Turn nowhere W w' := by
  have hsm := put_small h
  obtain ⟨hm, hrt⟩ := check_cases h
  obtain ⟨k, s, c', rfl, h1, h2, h3⟩ := fm_exp hm
  refine (take_main h1 h2 h3 hr hb hn (by omega)).mono ?_
  rw [fm_short h1 h2 h3 hrt hi]
  rintro e w' ⟨h4, ht⟩
  exact ⟨h4, ht⟩
theorem turn_below {w w1 w2 : World} (h : Turn nowhere w w1) (g : Below w.heap.size w1 w2) : Turn nowhere w w2 :=
  ⟨g.os.trans h.os, g.tape.trans h.tape, g.output.trans h.output, Nat.le_trans h.size g.size, fun k hk hn => (g.block k hk).trans (h.block k hk hn)⟩
theorem exec_make0 {a : Act} {o : Oper} {W : World} (ho : o.op = .buildSlice 26 0 #[]) : (execOp a.eval o).run Tryz.prog W = .ok (.value (.slice (some ⟨W.heap.size, 0, none⟩) 0 0)) (W.alloc (.cells #[] 5)) := by
  unfold execOp
  simp only [ho]
  kernel_rfl
theorem exec_ext {P : Program} {a : Act} {o : Oper} {x : Operand} {i : Nat} {xs : Array Value} {v : Value} {W : World} (ho : o.op = .extract x i) (hx : a.eval x = .tuple xs) (hv : xs[i]? = some v) : (execOp a.eval o).run P W = .ok (.value v) W := by
  unfold execOp
  simp [ho, hx, Instr.extract, hv]
set_option maxRecDepth 20000 in
theorem exec_bto {a : Act} {o : Oper} {x y : Operand} {A : Option Addr} {n c k : Nat} {W : World} (ho : o.op = .slice 26 x none (some y) none) (hx : a.eval x = .slice A n c) (hy : a.eval y = .int .i64 (k : Int)) (hk : k ≤ c) : (execOp a.eval o).run Tryz.prog W = .ok (.value (.slice A k c)) W := by
  have h := run_slice_h (P := Tryz.prog) (w := W) 26 A n c Tryz.underlying26 .i64 (k : Int) (by omega) (by omega)
  have hs : (sizeOf (Tryz.prog.elem 26)).run Tryz.prog W = .ok 1 W := by kernel_rfl
  rw [Int.toNat_natCast, hs] at h
  unfold execOp
  simp only [ho, Option.map, hx, hy, run_sliceAt_slice (P := Tryz.prog) W 26 _ _ _ _ Tryz.underlying26, h, Sem.run_bind, Sem.run_pure, Result.andThen_ok]
  cases A <;> simp [sliced, Addr.add]
theorem bs_take {W : World} {A : Option Addr} {n i : Nat} {l : List UInt8} (h : Bs W A n l) (hi : i ≤ n) : Bs W A i (l.take i) := by
  obtain ⟨h1, h2, h3⟩ := h
  refine ⟨by rw [List.length_take]; omega, Nat.le_trans hi h2, fun h0 => ?_⟩
  obtain ⟨b, off, rfl, hc⟩ := h3 (by omega)
  refine ⟨b, off, rfl, fun j hj => ?_⟩
  rw [hc j (by omega)]
  have : (l.take i).getD j 0 = l.getD j 0 := by
    simp only [List.getD_eq_getElem?_getD, List.getElem?_take]
    rw [if_pos hj]
  rw [this]
end Go.Proofs.YticofobhkmabiaaGreatDoor
