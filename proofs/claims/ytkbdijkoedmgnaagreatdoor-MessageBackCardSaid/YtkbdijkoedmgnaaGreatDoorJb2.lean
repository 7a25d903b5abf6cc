/-
  Several texts in one file, in their order:
  - The reference's Encode. Conditions: the tables and the errors read as the program's text lays them.
  - message's Get, and the reference's. No conditions.
  - groatlaw05's MessageBack: the walk. Conditions: the tables and the errors read as the program's text lays them.
  - FROM THE CARD's LIST TO THE ROWS' CELLS: where field's rows read as the program's text lays them, their cells hold their strings.
  - FROM THE CARD's LIST TO THE TABLE OF POWERS. No conditions of its own.
  - FROM THE CARD's LIST TO THE WALKS' FACTS: where the listed variables read as the program's text lays them, the errors are nine places of their own, and the tables hold their numbers and texts. No further conditions.
  - A message that came in, opened to its fields. Its conditions are those of the reading of an argument.
  - 'There is an input that fits', at a world that is laid by a function. No conditions.
  - 'There is an input that fits', at a world that is laid by a function, with the handle of a type among the laid variables. No conditions.
  - PROOF: groatlaw05: for every input the law MessageBack returns true, and each argument reads as it did. Its conditions are the row's own cells (the listed variables read as the program's text lays them: the card ties them).
-/
import Derived.Test.YtkbdijkoedmgnaaGreatDoorJb1
import Derived.Test.YtkbdijkoedmgnaaGreatDoorJb0
import Derived.Test.YtkbdijkoedmgnaaGreatDoorRows
import Derived.Test.YtkbdijkoedmgnaaGreatDoorJa0
import Derived.LaidSub
import Derived.MakeChecks
import Derived.Lib.SmallJoins
import Derived.Lib.LaidTab
import Derived.OpenShut
import Derived.Test.YtkbdijkoedmgnaaGreatDoorJa2
import Derived.Stop.LaidTwo
import Derived.Deep.Slices
import Derived.Deep.SlicePairs
import Derived.SizedLaws
import Derived.WalkKit
import Derived.ProofKit
import Derived.Lay
import Derived.LaidMore
import Derived.Deep.DeepHandedRow
import Derived.Stop.Joined
import Derived.LaidHandle
import Derived.Test.YtkbdijkoedmgnaaGreatDoorCards
import Derived.Test.YtkbdijkoedmgnaaGreatDoorTie
import Derived.ShutString
import Derived.ChangeOld
import Derived.Below
import Derived.Deep.DeepWitnessRowRef
namespace Go.Proofs.YtkbdijkoedmgnaaGreatDoor
open Go.RowKit
open Fdd
set_option linter.unusedVariables false
set_option linter.unusedSimpArgs false
theorem sneq_f {a : Act} {o : Oper} {W : World} {x y : Operand} {l m : List UInt8} {t u : TypeId} (ho : o.op = .binOp .neq t x y u) (hx : a.eval x = strV l) (hy : a.eval y = strV m) (h : l = m) : (execOp a.eval o).run Tryz.prog W = .ok (.value (.bool false)) W := by
  rw [exec_sneq ho hx hy, h]
  simp
theorem sneq_t {a : Act} {o : Oper} {W : World} {x y : Operand} {l m : List UInt8} {t u : TypeId} (ho : o.op = .binOp .neq t x y u) (hx : a.eval x = strV l) (hy : a.eval y = strV m) (h : ¬ l = m) : (execOp a.eval o).run Tryz.prog W = .ok (.value (.bool true)) W := by
  rw [exec_sneq ho hx hy]
  simp [h]
theorem enc_err {r : Except Int (List UInt8)} {k : Int} {w w' : World} (h : r = .error k) (ht : Turn nowhere w w') : EncodeP r w (.returned (.tuple #[.slice none 0 0, .int .i64 k])) w' := by
  subst h
  exact ⟨none, 0, 0, rfl, World.ownsRow_nil w' _ _ _, ht⟩
/-- what the first loop leaves: the map's bytes, whether a field is beyond the 64th one, and that all amounts can be said -/
def Bits1 (gb : Nat) (d : Nat) (wb : World) (fs : List Fld) (lv : Bool) (wr : World) : Prop := lv = far64 fs ∧ Blk wr gb 5 (bcs (B16 fs)).toArray ∧ Turn nowhere wb wr ∧ ∀ f ∈ fs, Amt d f
theorem head_ty {w : World} {d : Nat} {ty : Int} (hd : 1 ≤ d ∧ d ≤ 3) (h : mtypes.contains ty = true) :
    Calls Tryz.prog 34 #[.int .i64 (d : Int), .int .i64 ty] w fun e w' => e = .returned (strV (ver d ++ dig3 ty.toNat)) ∧ Turn nowhere w w' := by
  obtain ⟨t, rfl, h9⟩ := type_small h
  exact head_walk hd h9
theorem rput_ok {w : World} {f : Fm} {n cap : Nat} {A : Option Addr} {b t : List UInt8} (h : f.check t = 0) (hb : Bs w A n b) (hz : A = none → cap = 0) (hn : n ≤ 140737488351232) (hl : t.length ≤ 9223372036854775807) :
    Calls Tryz.prog 32 #[.slice A n cap, .agg (fmA f), strV t] w fun e w' => ∃ A n c, e = .returned (.tuple #[.slice A n c, .int .i64 0]) ∧ Own w' w.heap.size 5 (.slice A n c) (b ++ f.put t) ∧ Turn nowhere w w' := by
  refine (rput_walk (f := f) (cap := cap) hb hz hn hl).mono ?_
  rintro e w' ⟨A', n', c', rfl, ho, ht⟩
  rw [h]
  unfold putR at ho
  rw [if_pos h] at ho
  exact ⟨_, _, _, rfl, ho, ht⟩
theorem put_type {w : World} {d : Nat} {ty : Int} (hd : 1 ≤ d ∧ d ≤ 3) (h : mtypes.contains ty = true) :
    Calls Tryz.prog 32 #[.slice none 0 0, .agg (fmA ⟨1, 4, (d : Int)⟩), strV (ver d ++ dig3 ty.toNat)] w fun e w' => ∃ A n c, e = .returned (.tuple #[.slice A n c, .int .i64 0]) ∧ Own w' w.heap.size 5 (.slice A n c) ((typeFm d).put (ver d ++ dig3 ty.toNat)) ∧ Turn nowhere w w' := by
  have hr := (type_right hd h).1
  have hl := (Fdd.right_n.1 hr).1
  have := rput_ok (w := w) (f := typeFm d) (A := none) (n := 0) (cap := 0) (b := []) ((check_zero (by decide) hd (by decide)).2 hr) (bs_nil w none) (fun _ => rfl) (by decide) (by rw [hl]; decide)
  rw [List.nil_append] at this
  exact this
set_option maxRecDepth 40000 in
set_option maxHeartbeats 8000000 in
theorem rEncode_walk {w : World} {dd ty : Int} {A : Option Addr} {n c : Nat} {fs : List Fld} (hf : Fl w A n fs) (htx : Txts fs) :
    Calls Tryz.prog 17 #[.int .i64 dd, msgV ty A n c] w (EncodeP (mencode dd ty fs) w) := by
  have HF := Lib.hid hf
  have HTX := Lib.hid htx
  have HNL := Lib.hid hf.1
  have y9 : (n : Int) ≤ 140737488355328 := by
    have := hf.2.1
    omega
  clear hf htx
  unfold msgV
  go_enter Tryz.func17, Tryz.ntmps17
  go_upto_region 1 with fail
  have hb0 := Blk.new w 31 #[.int .i64 ty, .slice A n c]
  have hu0 := (Turn.refl nowhere w).alloc (.cells #[.int .i64 ty, .slice A n c] 31)
  obtain ⟨gm, hg0⟩ : ∃ g, g = w.heap.size := ⟨_, rfl⟩
  rw [← hg0] at hb0 ⊢
  clear hg0
  generalize w.alloc (.cells #[.int .i64 ty, .slice A n c] 31) = w1 at *
  have HBgm := Lib.hid hb0
  have HT0 := Lib.hid hu0
  clear hb0 hu0
  refine wp_region_lit ?_
  refine wR (v := .int .i64 dd) rfl (exec_move rfl rfl) ?_
  simp only [Act.put, zzA, zz0, zz1]
  by_cases h1 : dd < 1
  · have HX9 := Lib.hid (show mencode dd ty fs = .error 50 from by unfold mencode; rw [if_neg (by omega)])
    refine wR (v := .bool true) rfl (ix_lss rfl rfl rfl (decide_eq_true h1)) ?_
    simp only [Act.put, zzA, zz0, zz1]
    refine wR (v := .bool true) rfl (exec_move rfl rfl) ?_
    simp only [Act.put, zzA, zz0, zz1]
    refine wpList_skip (by go_simp) ?_
    simp only [Act.put, zzA, zz0, zz1]
    refine wpList_skip (by go_simp) ?_
    simp only [Act.put, zzA, zz0, zz1]
    refine wR (v := .bool true) rfl (ix_pickT rfl rfl rfl) ?_
    simp only [Act.put, zzA, zz0, zz1]
    clear h1
    go_wp2_with fail
    go_ret2
    exact enc_err HX9.out HT0.out
  · refine wR (v := .bool false) rfl (ix_lss rfl rfl rfl (decide_eq_false h1)) ?_
    simp only [Act.put, zzA, zz0, zz1]
    refine wR (v := .bool false) rfl (exec_move rfl rfl) ?_
    simp only [Act.put, zzA, zz0, zz1]
    refine wR (v := .int .i64 dd) rfl (exec_move rfl rfl) ?_
    simp only [Act.put, zzA, zz0, zz1]
    by_cases h2 : 3 < dd
    · have HX9 := Lib.hid (show mencode dd ty fs = .error 50 from by unfold mencode; rw [if_neg (by omega)])
      refine wR (v := .bool true) rfl (ix_gtr rfl rfl rfl (decide_eq_true h2)) ?_
      simp only [Act.put, zzA, zz0, zz1]
      refine wR (v := .bool true) rfl (ix_pickF rfl rfl rfl) ?_
      simp only [Act.put, zzA, zz0, zz1]
      clear h1 h2
      go_wp2_with fail
      go_ret2
      exact enc_err HX9.out HT0.out
    · refine wR (v := .bool false) rfl (ix_gtr rfl rfl rfl (decide_eq_false h2)) ?_
      simp only [Act.put, zzA, zz0, zz1]
      refine wR (v := .bool false) rfl (ix_pickF rfl rfl rfl) ?_
      simp only [Act.put, zzA, zz0, zz1]
      obtain ⟨d, rfl⟩ : ∃ d : Nat, dd = (d : Int) := ⟨dd.toNat, by omega⟩
      have HD := Lib.hid (show 1 ≤ d ∧ d ≤ 3 by omega)
      have HDI := Lib.hid (show 1 ≤ (d : Int) ∧ (d : Int) ≤ 3 by omega)
      clear h1 h2
      go_upto_region 3 with fail
      refine wp_region_lit ?_
      refine wR (v := msgV ty A n c) rfl (gx_loads rfl rfl (blk_range HBgm.out) Tryz.underlying31 rfl (by rw [size_msg]; rfl)) ?_
      simp only [Act.put, zzA, zz0, zz1]
      have hC := rCheck_walk (ty := ty) (c := c) (HF.out.still HT0.out) HTX.out
      refine wpList_op rfl fun K9 HK9 => ?_
      go_wp2_with fail
      refine (hC).mono ?_
      rintro e w2 ⟨rfl, htx⟩
      refine HK9.out _ _ ?_
      clear HK9
      try simp only [Act.put, zzA, zz0, zz1]
      clear hC
      have HT2 := Lib.hid htx
      clear htx
      refine wR (v := .int .i64 (mcheck ty fs)) rfl (gx_assign rfl rfl) ?_
      simp only [Act.put, zzA, zz0, zz1]
      go_upto_region 4 with fail
      refine wp_region_lit ?_
      refine wR (v := .int .i64 (mcheck ty fs)) rfl (exec_move rfl rfl) ?_
      simp only [Act.put, zzA, zz0, zz1]
      by_cases hck : mcheck ty fs = 0
      · refine wR (v := .bool false) rfl (ix_neq rfl rfl rfl (by rw [hck]; decide)) ?_
        simp only [Act.put, zzA, zz0, zz1]
        obtain ⟨hty, hn24, hgood⟩ := mcheck_zero.1 hck
        have HREF := Lib.hid (show ((∀ f ∈ fs, Amt d f) → mencode (d : Int) ty fs = .ok (wire d ty fs)) ∧ ((∃ f ∈ fs, ¬ Amt d f) → mencode (d : Int) ty fs = .error 41) from by
          have h := mencode_ref (d := (d : Int)) (ty := ty) (fs := fs) HDI.out hck
          rwa [Int.toNat_natCast] at h)
        have HTY := Lib.hid hty
        have HGD := Lib.hid hgood
        have HNO := Lib.hid (good_nos hgood).2
        clear hck hty hn24 hgood
        go_upto_region 6 with fail
        refine wp_region_lit ?_
        refine wR (v := .slice (some ⟨w2.heap.size, 0, none⟩) 16 16) (w' := w2.alloc (.cells (bcs (List.replicate 16 0)).toArray 5)) rfl (gx_make rfl rfl rfl (mk16 w2)) ?_
        simp only [Act.put, zzA, zz0, zz1]
        have hb5 := Blk.new w2 5 (bcs (List.replicate 16 0)).toArray
        rw [← B16_nil] at hb5 ⊢
        have hu5 := (Turn.refl nowhere w2).alloc (.cells (bcs (B16 [])).toArray 5)
        obtain ⟨gb, hgb⟩ : ∃ g, g = w2.heap.size := ⟨_, rfl⟩
        rw [← hgb] at hb5 ⊢
        have HGB := Lib.hid (show w2.heap.size ≤ gb from by omega)
        clear hgb
        generalize w2.alloc (.cells (bcs (B16 [])).toArray 5) = w3 at *
        have HB5 := Lib.hid hb5
        have HU5 := Lib.hid hu5
        clear hb5 hu5
        refine wR (v := .slice (some ⟨gb, 0, none⟩) 16 16) rfl (gx_assign rfl rfl) ?_
        simp only [Act.put, zzA, zz0, zz1]
        go_upto_region 7 with fail
        refine wp_region_lit ?_
        refine wR (v := .bool false) rfl (gx_assign rfl rfl) ?_
        simp only [Act.put, zzA, zz0, zz1]
        go_upto_region 8 with fail
        refine wp_region_lit ?_
        refine wR (v := .int .i64 0) rfl (gx_assign rfl rfl) ?_
        simp only [Act.put, zzA, zz0, zz1]
        go_wp2_with fail
        go_loopg [8, 9] n (fun gk lv jv wr => ∃ (j : Nat) (lb : Bool), j + gk = n ∧ jv = .int .i64 (j : Int) ∧ lv = .bool lb ∧ Bits1 gb d w2 (fs.take j) lb wr)
        case atStart => exact ⟨0, false, by omega, rfl, rfl, rfl, HB5.out, HU5.out, fun f hf => by cases hf⟩
        obtain ⟨j, lb, hjl, rfl, rfl, hb1, hb2, hb3, hb4⟩ := hrel
        have HJL := Lib.hid hjl
        have HLB := Lib.hid hb1
        have HB6 := Lib.hid hb2
        have HTR := Lib.hid hb3
        have HAM := Lib.hid hb4
        clear hjl hb1 hb2 hb3 hb4
        have HB2 := Lib.hid (HBgm.out.turn (HT2.out.next HTR.out) (fun e => e))
        go_upto_region 9 with fail
        refine wp_region_lit ?_
        refine wR (v := .int .i64 (j : Int)) rfl (exec_move rfl rfl) ?_
        simp only [Act.put, zzA, zz0, zz1]
        refine wR (v := .pointer (some ⟨gm, 1, none⟩)) rfl (exec_field (off := 0) (d := 1) rfl rfl (by kernel_rfl)) ?_
        simp only [Act.put, zzA, zz0, zz1]
        refine wR (v := .slice A n c) rfl (exec_load1 rfl rfl (by kernel_rfl) (HB2.out.cell 1)) ?_
        simp only [Act.put, zzA, zz0, zz1]
        refine wR (v := .int .i64 (n : Int)) rfl (gx_len rfl rfl Tryz.underlying29) ?_
        simp only [Act.put, zzA, zz0, zz1]
        by_cases hlt : j < n
        · have HLT := Lib.hid hlt
          have y1 : (j : Int) < (n : Int) := by omega
          obtain ⟨bF, oF, rfl, hr⟩ := (HF.out.still ((HT0.out.next HT2.out).next HTR.out)).2.2 (by omega)
          obtain ⟨f, hf⟩ : ∃ f, fs[j]? = some f := ⟨_, List.getElem?_eq_getElem (show j < fs.length from by rw [HNL.out]; exact hlt)⟩
          have hmem := List.mem_of_getElem? hf
          obtain ⟨q, hq⟩ : ∃ q : Nat, f.1 = (q : Int) := ⟨f.1.toNat, by have := HNO.out f hmem; omega⟩
          have HQ := Lib.hid hq
          have HQ2 := Lib.hid (show 2 ≤ q ∧ q ≤ 97 by have := HNO.out f hmem; omega)
          obtain ⟨p, hp⟩ : ∃ p, p = q - 1 := ⟨_, rfl⟩
          have HP := Lib.hid hp
          have y3 : p < 128 := by have := HQ2.out; omega
          have HRR := Lib.hid (hr j f hf)
          have HMEM := Lib.hid hmem
          have HSN := Lib.hid (take_snoc hf)
          clear hr hf hlt hmem hq hp
          refine wR (v := .bool true) rfl (ix_lss rfl rfl rfl (decide_eq_true y1)) ?_
          simp only [Act.put, zzA, zz0, zz1]
          go_upto_region 11 with fail
          refine wp_region_lit ?_
          refine wR (v := .pointer (some ⟨gm, 1, none⟩)) rfl (exec_field (off := 0) (d := 1) rfl rfl (by kernel_rfl)) ?_
          simp only [Act.put, zzA, zz0, zz1]
          refine wR (v := .slice (some ⟨bF, oF, none⟩) n c) rfl (exec_load1 rfl rfl (by kernel_rfl) (HB2.out.cell 1)) ?_
          simp only [Act.put, zzA, zz0, zz1]
          refine wR (v := .int .i64 (j : Int)) rfl (exec_move rfl rfl) ?_
          simp only [Act.put, zzA, zz0, zz1]
          refine wR (v := .pointer (some ⟨bF, oF + j * 2, none⟩)) rfl (gx_iaddr (i := j) (sz := 2) rfl rfl rfl Tryz.underlying29 size_field HLT.out (by omega)) ?_
          simp only [Act.put, zzA, zz0, zz1]
          refine wR (v := .pointer (some ⟨bF, oF + j * 2, none⟩)) rfl (exec_field (off := oF + j * 2) (d := 0) rfl rfl (by kernel_rfl)) ?_
          simp only [Act.put, zzA, zz0, zz1]
          refine wR (v := .int .i64 f.1) rfl (exec_load1 rfl rfl (by kernel_rfl) (HRR.out 0 _ rfl)) ?_
          simp only [Act.put, zzA, zz0, zz1]
          refine wR (v := .int .i64 (p : Int)) rfl (ix_sub rfl rfl rfl (by have := HQ.out; have := HP.out; have := HQ2.out; omega) (by omega)) ?_
          simp only [Act.put, zzA, zz0, zz1]
          refine wR (v := .int .i64 (p : Int)) rfl (gx_assign rfl rfl) ?_
          simp only [Act.put, zzA, zz0, zz1]
          go_upto_region 12 with fail
          have hS0 : Blk wr.drew gb 5 (bcs (B16 (fs.take j))).toArray := HB6.out.drew
          have HUd := Lib.hid (HTR.out.drew)
          refine wp_region_till (fun W => Blk W gb 5 (bcs (B16 (fs.take j))).toArray) 13 (by kernel_rfl) ?_
          generalize wr.drew = w4 at *
          refine till_take (i := 0) (v := .slice (some ⟨gb, 0, none⟩) 16 16) rfl (by kernel_rfl) (by kernel_rfl) (fun _ _ _ h => h) (.inl ⟨by rfl, fun W hW => exec_move rfl rfl⟩) hS0 ?_
          simp only [Act.put, zzA, zz0, zz1]
          refine till_take (i := 1) (v := .int .i64 (p : Int)) rfl (by kernel_rfl) (by kernel_rfl) (fun _ _ _ h => h) (.inl ⟨by rfl, fun W hW => exec_move rfl rfl⟩) hS0 ?_
          simp only [Act.put, zzA, zz0, zz1]
          refine till_take (i := 2) (v := .int .i64 ((p / 8 : Nat) : Int)) rfl (by kernel_rfl) (by kernel_rfl) (fun _ _ _ h => h) (.inl ⟨by rfl, fun W hW => ix_quo (n := p) (m := 8) rfl rfl rfl (by decide) (by omega)⟩) hS0 ?_
          simp only [Act.put, zzA, zz0, zz1]
          refine till_take (i := 3) (v := .slice (some ⟨gb, 0, none⟩) 16 16) rfl (by kernel_rfl) (by kernel_rfl) (fun _ _ _ h => h) (.inl ⟨by rfl, fun W hW => exec_move rfl rfl⟩) hS0 ?_
          simp only [Act.put, zzA, zz0, zz1]
          refine till_take (i := 4) (v := .int .i64 (p : Int)) rfl (by kernel_rfl) (by kernel_rfl) (fun _ _ _ h => h) (.inl ⟨by rfl, fun W hW => exec_move rfl rfl⟩) hS0 ?_
          simp only [Act.put, zzA, zz0, zz1]
          refine till_take (i := 5) (v := .int .i64 ((p / 8 : Nat) : Int)) rfl (by kernel_rfl) (by kernel_rfl) (fun _ _ _ h => h) (.inl ⟨by rfl, fun W hW => ix_quo (n := p) (m := 8) rfl rfl rfl (by decide) (by omega)⟩) hS0 ?_
          simp only [Act.put, zzA, zz0, zz1]
          refine till_take (i := 6) (v := .pointer (some ⟨gb, p / 8, none⟩)) rfl (by kernel_rfl) (by kernel_rfl) (fun _ _ _ h => h) (.inl ⟨by rfl, fun W hW => gx_iaddr (i := p / 8) (sz := 1) rfl rfl rfl Tryz.underlying32 size_byte1 (by omega) (by omega)⟩) hS0 ?_
          simp only [Act.put, zzA, zz0, zz1]
          refine till_take (i := 7) (v := .int .u8 (((B16 (fs.take j)).getD (p / 8) 0).toNat : Int)) rfl (by kernel_rfl) (by kernel_rfl) (fun _ _ _ h => h) (.inl ⟨by rfl, fun W hW => exec_load1 rfl rfl (by kernel_rfl) (blk_byte hW (by rw [B16_len]; omega))⟩) hS0 ?_
          simp only [Act.put, zzA, zz0, zz1]
          refine till_take (i := 8) (v := .int .i64 (p : Int)) rfl (by kernel_rfl) (by kernel_rfl) (fun _ _ _ h => h) (.inl ⟨by rfl, fun W hW => exec_move rfl rfl⟩) hS0 ?_
          simp only [Act.put, zzA, zz0, zz1]
          refine till_take (i := 9) (v := .int .i64 ((p % 8 : Nat) : Int)) rfl (by kernel_rfl) (by kernel_rfl) (fun _ _ _ h => h) (.inl ⟨by rfl, fun W hW => ix_rem (n := p) (m := 8) rfl rfl rfl (by decide) (by omega)⟩) hS0 ?_
          simp only [Act.put, zzA, zz0, zz1]
          refine till_take (i := 10) (v := .int .u8 ((128 / 2 ^ (p % 8) : Nat) : Int)) rfl (by kernel_rfl) (by kernel_rfl) (fun _ _ _ h => h) (.inl ⟨by rfl, fun W hW => b8_shr rfl rfl (Nat.mod_lt _ (by decide))⟩) hS0 ?_
          simp only [Act.put, zzA, zz0, zz1]
          refine till_take (i := 11) (v := .int .u8 (((B16 (fs.take j)).getD (p / 8) 0 ||| UInt8.ofNat (128 / 2 ^ (p % 8))).toNat : Int)) rfl (by kernel_rfl) (by kernel_rfl) (fun _ _ _ h => h) (.inl ⟨by rfl, fun W hW => b8_or rfl rfl rfl (by have := Nat.div_le_self 128 (2 ^ (p % 8)); omega)⟩) hS0 ?_
          simp only [Act.put, zzA, zz0, zz1]
          refine till_take (i := 12) (v := .pointer (some ⟨gb, p / 8, none⟩)) rfl (by kernel_rfl) (by kernel_rfl) (fun _ _ _ h => h) (.inl ⟨by rfl, fun W hW => gx_iaddr (i := p / 8) (sz := 1) rfl rfl rfl Tryz.underlying32 size_byte1 (by omega) (by omega)⟩) hS0 ?_
          simp only [Act.put, zzA, zz0, zz1]
          refine till_step (i := 13) (by kernel_rfl) rfl rfl ?_
          intro K1 HK1
          refine wp_store1 (v := .int .u8 (((B16 (fs.take j)).getD (p / 8) 0 ||| UInt8.ofNat (128 / 2 ^ (p % 8))).toNat : Int)) 5 (.tmp 56) (.tmp 55) rfl hS0 rfl rfl (by rw [bcs_size, B16_len]; omega) rfl rfl size_byte1 ?_
          intro hbz huz
          rw [mbcs_set] at hbz
          have HBZ := Lib.hid (show Blk _ gb 5 (bcs (B16 (fs.take (j + 1)))).toArray from by
            rw [HSN.out, B16_snoc _ _ HQ.out HQ2.out.1 HQ2.out.2, ← HP.out]
            exact hbz)
          have HTZ := Lib.hid (above HUd.out HGB.out huz)
          clear hbz huz hS0
          generalize w4.setCell ⟨gb, p / 8, none⟩ (.int .u8 (((B16 (fs.take j)).getD (p / 8) 0 ||| UInt8.ofNat (128 / 2 ^ (p % 8))).toNat : Int)) = w5 at *
          refine HK1.out _ _ ⟨fun h => absurd h (by decide), ?_⟩
          clear HK1
          simp only [Act.put, zzA, zz0, zz1]
          refine till_done (by kernel_rfl) ?_
          refine NoPanic.normal ?_
          cases lb with
          | true =>
            have HFN := Lib.hid (show (true) = far64 (fs.take (j + 1)) from by
              rw [HSN.out, far_snoc, ← HLB.out]
              rfl)
            have HB7 := Lib.hid (HBgm.out.turn (HT2.out.next HTZ.out) (fun e => e))
            obtain ⟨bG, oG, hgo, hr⟩ := (HF.out.still ((HT0.out.next HT2.out).next HTZ.out)).2.2 (by have := HLT.out; omega)
            injection hgo with hgo
            injection hgo with hgo1 hgo2
            subst hgo1 hgo2
            obtain ⟨f9, hf9⟩ : ∃ f, fs[j]? = some f := ⟨_, List.getElem?_eq_getElem (show j < fs.length from by rw [HNL.out]; exact HLT.out)⟩
            obtain rfl : f9 = f := by
              have := (take_snoc hf9).symm.trans HSN.out
              simpa using this
            have HR7 := Lib.hid (hr j f9 hf9)
            clear hr hf9
            go_upto_region 13 with fail
            refine wp_region_lit ?_
            refine wR (v := .bool true) rfl (exec_move rfl rfl) ?_
            simp only [Act.put, zzA, zz0, zz1]
            refine wR (v := .bool true) rfl (exec_move rfl rfl) ?_
            simp only [Act.put, zzA, zz0, zz1]
            refine wpList_skip (by go_simp) ?_
            simp only [Act.put, zzA, zz0, zz1]
            refine wpList_skip (by go_simp) ?_
            simp only [Act.put, zzA, zz0, zz1]
            refine wR (v := .bool true) rfl (ix_pickT rfl rfl rfl) ?_
            simp only [Act.put, zzA, zz0, zz1]
            refine wR (v := .bool true) rfl (gx_assign rfl rfl) ?_
            simp only [Act.put, zzA, zz0, zz1]
            go_upto_region 14 with fail
            refine wp_region_lit ?_
            refine wR (v := .int .i64 (d : Int)) rfl (exec_move rfl rfl) ?_
            simp only [Act.put, zzA, zz0, zz1]
            by_cases h3 : (d : Int) = 3
            · refine wR (v := .bool true) rfl (ix_eql rfl rfl rfl (decide_eq_true h3)) ?_
              simp only [Act.put, zzA, zz0, zz1]
              refine wR (v := .bool true) rfl (exec_move rfl rfl) ?_
              simp only [Act.put, zzA, zz0, zz1]
              refine wR (v := .pointer (some ⟨gm, 1, none⟩)) rfl (exec_field (off := 0) (d := 1) rfl rfl (by kernel_rfl)) ?_
              simp only [Act.put, zzA, zz0, zz1]
              refine wR (v := .slice (some ⟨bF, oF, none⟩) n c) rfl (exec_load1 rfl rfl (by kernel_rfl) (HB7.out.cell 1)) ?_
              simp only [Act.put, zzA, zz0, zz1]
              refine wR (v := .int .i64 (j : Int)) rfl (exec_move rfl rfl) ?_
              simp only [Act.put, zzA, zz0, zz1]
              refine wR (v := .pointer (some ⟨bF, oF + j * 2, none⟩)) rfl (gx_iaddr (i := j) (sz := 2) rfl rfl rfl Tryz.underlying29 size_field HLT.out (by omega)) ?_
              simp only [Act.put, zzA, zz0, zz1]
              refine wR (v := .pointer (some ⟨bF, oF + j * 2, none⟩)) rfl (exec_field (off := oF + j * 2) (d := 0) rfl rfl (by kernel_rfl)) ?_
              simp only [Act.put, zzA, zz0, zz1]
              refine wR (v := .int .i64 f9.1) rfl (exec_load1 rfl rfl (by kernel_rfl) (HR7.out 0 _ rfl)) ?_
              simp only [Act.put, zzA, zz0, zz1]
              by_cases h4 : f9.1 = 4
              · have HL12 := Lib.hid (amt_len HGD.out HMEM.out h4)
                refine wR (v := .bool true) rfl (ix_eql rfl rfl rfl (decide_eq_true h4)) ?_
                simp only [Act.put, zzA, zz0, zz1]
                refine wR (v := .bool true) rfl (ix_pickT rfl rfl rfl) ?_
                simp only [Act.put, zzA, zz0, zz1]
                refine wR (v := .bool true) rfl (exec_move rfl rfl) ?_
                simp only [Act.put, zzA, zz0, zz1]
                refine wR (v := .pointer (some ⟨gm, 1, none⟩)) rfl (exec_field (off := 0) (d := 1) rfl rfl (by kernel_rfl)) ?_
                simp only [Act.put, zzA, zz0, zz1]
                refine wR (v := .slice (some ⟨bF, oF, none⟩) n c) rfl (exec_load1 rfl rfl (by kernel_rfl) (HB7.out.cell 1)) ?_
                simp only [Act.put, zzA, zz0, zz1]
                refine wR (v := .int .i64 (j : Int)) rfl (exec_move rfl rfl) ?_
                simp only [Act.put, zzA, zz0, zz1]
                refine wR (v := .pointer (some ⟨bF, oF + j * 2, none⟩)) rfl (gx_iaddr (i := j) (sz := 2) rfl rfl rfl Tryz.underlying29 size_field HLT.out (by omega)) ?_
                simp only [Act.put, zzA, zz0, zz1]
                refine wR (v := .pointer (some ⟨bF, oF + j * 2 + 1, none⟩)) rfl (exec_field (off := oF + j * 2) (d := 1) rfl rfl (by kernel_rfl)) ?_
                simp only [Act.put, zzA, zz0, zz1]
                refine wR (v := strV f9.2) rfl (exec_load1 rfl rfl (by kernel_rfl) (HR7.out 1 _ rfl)) ?_
                simp only [Act.put, zzA, zz0, zz1]
                refine wR (v := strV (f9.2.take 2)) rfl (exec_sto (n := 2) rfl rfl rfl (by rw [HL12.out]; decide)) ?_
                simp only [Act.put, zzA, zz0, zz1]
                by_cases h5 : f9.2.take 2 = [48, 48]
                · refine wR (v := .bool false) rfl (sneq_f (l := f9.2.take 2) (m := [48, 48]) rfl rfl rfl h5) ?_
                  simp only [Act.put, zzA, zz0, zz1]
                  refine wR (v := .bool false) rfl (ix_pickT rfl rfl rfl) ?_
                  simp only [Act.put, zzA, zz0, zz1]
                  have HA5 := Lib.hid (show Amt d f9 from fun _ _ => h5)
                  clear h3 h4 h5
                  have HAN := Lib.hid (show ∀ f ∈ fs.take (j + 1), Amt d f from by
                    rw [HSN.out]
                    intro g hg
                    rcases List.mem_append.1 hg with hg | hg
                    · exact HAM.out g hg
                    · obtain rfl := List.mem_singleton.1 hg
                      exact HA5.out)
                  go_upto_region 10 with fail
                  refine wp_region_lit ?_
                  refine wR (v := .int .i64 (j : Int)) rfl (exec_move rfl rfl) ?_
                  simp only [Act.put, zzA, zz0, zz1]
                  refine wR (v := .int .i64 ((j + 1 : Nat) : Int)) rfl (ix_add rfl rfl rfl (by omega) (by omega)) ?_
                  simp only [Act.put, zzA, zz0, zz1]
                  refine wR (v := .int .i64 ((j + 1 : Nat) : Int)) rfl (gx_assign rfl rfl) ?_
                  simp only [Act.put, zzA, zz0, zz1]
                  go_wp2_with fail
                  go_roundg (gk - 1)
                  case measure => have := HJL.out; have := HLT.out; omega
                  case rel => exact ⟨j + 1, _, by have := HJL.out; have := HLT.out; omega, by go_num, rfl, HFN.out, HBZ.out, HTZ.out, HAN.out⟩
                · refine wR (v := .bool true) rfl (sneq_t (l := f9.2.take 2) (m := [48, 48]) rfl rfl rfl h5) ?_
                  simp only [Act.put, zzA, zz0, zz1]
                  refine wR (v := .bool true) rfl (ix_pickT rfl rfl rfl) ?_
                  simp only [Act.put, zzA, zz0, zz1]
                  have HX9 := Lib.hid (HREF.out.2 ⟨f9, HMEM.out, fun ha => h5 (ha (by omega) h4)⟩)
                  clear h3 h4 h5
                  go_wp2_with fail
                  go_ret2
                  exact enc_err HX9.out ((HT0.out.next HT2.out).next HTZ.out)
              · refine wR (v := .bool false) rfl (ix_eql rfl rfl rfl (decide_eq_false h4)) ?_
                simp only [Act.put, zzA, zz0, zz1]
                refine wR (v := .bool false) rfl (ix_pickT rfl rfl rfl) ?_
                simp only [Act.put, zzA, zz0, zz1]
                refine wR (v := .bool false) rfl (exec_move rfl rfl) ?_
                simp only [Act.put, zzA, zz0, zz1]
                have HA5 := Lib.hid (show Amt d f9 from fun _ h => absurd h h4)
                clear h3 h4
                go_upto_region 10 with fail
                refine wp_region_lit ?_
                have HAN := Lib.hid (show ∀ f ∈ fs.take (j + 1), Amt d f from by
                  rw [HSN.out]
                  intro g hg
                  rcases List.mem_append.1 hg with hg | hg
                  · exact HAM.out g hg
                  · obtain rfl := List.mem_singleton.1 hg
                    exact HA5.out)
                refine wR (v := .int .i64 (j : Int)) rfl (exec_move rfl rfl) ?_
                simp only [Act.put, zzA, zz0, zz1]
                refine wR (v := .int .i64 ((j + 1 : Nat) : Int)) rfl (ix_add rfl rfl rfl (by omega) (by omega)) ?_
                simp only [Act.put, zzA, zz0, zz1]
                refine wR (v := .int .i64 ((j + 1 : Nat) : Int)) rfl (gx_assign rfl rfl) ?_
                simp only [Act.put, zzA, zz0, zz1]
                go_wp2_with fail
                go_roundg (gk - 1)
                case measure => have := HJL.out; have := HLT.out; omega
                case rel => exact ⟨j + 1, _, by have := HJL.out; have := HLT.out; omega, by go_num, rfl, HFN.out, HBZ.out, HTZ.out, HAN.out⟩
            · refine wR (v := .bool false) rfl (ix_eql rfl rfl rfl (decide_eq_false h3)) ?_
              simp only [Act.put, zzA, zz0, zz1]
              refine wR (v := .bool false) rfl (exec_move rfl rfl) ?_
              simp only [Act.put, zzA, zz0, zz1]
              have HA5 := Lib.hid (show Amt d f9 from fun h => absurd (by omega) h3)
              clear h3
              go_upto_region 10 with fail
              refine wp_region_lit ?_
              have HAN := Lib.hid (show ∀ f ∈ fs.take (j + 1), Amt d f from by
                rw [HSN.out]
                intro g hg
                rcases List.mem_append.1 hg with hg | hg
                · exact HAM.out g hg
                · obtain rfl := List.mem_singleton.1 hg
                  exact HA5.out)
              refine wR (v := .int .i64 (j : Int)) rfl (exec_move rfl rfl) ?_
              simp only [Act.put, zzA, zz0, zz1]
              refine wR (v := .int .i64 ((j + 1 : Nat) : Int)) rfl (ix_add rfl rfl rfl (by omega) (by omega)) ?_
              simp only [Act.put, zzA, zz0, zz1]
              refine wR (v := .int .i64 ((j + 1 : Nat) : Int)) rfl (gx_assign rfl rfl) ?_
              simp only [Act.put, zzA, zz0, zz1]
              go_wp2_with fail
              go_roundg (gk - 1)
              case measure => have := HJL.out; have := HLT.out; omega
              case rel => exact ⟨j + 1, _, by have := HJL.out; have := HLT.out; omega, by go_num, rfl, HFN.out, HBZ.out, HTZ.out, HAN.out⟩
          | false =>
            have HFN := Lib.hid (show (decide ((64 : Int) ≤ (p : Int))) = far64 (fs.take (j + 1)) from by
              rw [HSN.out, far_snoc, ← HLB.out]
              rw [Bool.false_or, decide_eq_decide]
              have := HQ.out
              have := HP.out
              have := HQ2.out
              omega)
            have HB7 := Lib.hid (HBgm.out.turn (HT2.out.next HTZ.out) (fun e => e))
            obtain ⟨bG, oG, hgo, hr⟩ := (HF.out.still ((HT0.out.next HT2.out).next HTZ.out)).2.2 (by have := HLT.out; omega)
            injection hgo with hgo
            injection hgo with hgo1 hgo2
            subst hgo1 hgo2
            obtain ⟨f9, hf9⟩ : ∃ f, fs[j]? = some f := ⟨_, List.getElem?_eq_getElem (show j < fs.length from by rw [HNL.out]; exact HLT.out)⟩
            obtain rfl : f9 = f := by
              have := (take_snoc hf9).symm.trans HSN.out
              simpa using this
            have HR7 := Lib.hid (hr j f9 hf9)
            clear hr hf9
            go_upto_region 13 with fail
            refine wp_region_lit ?_
            refine wR (v := .bool false) rfl (exec_move rfl rfl) ?_
            simp only [Act.put, zzA, zz0, zz1]
            refine wR (v := .bool false) rfl (exec_move rfl rfl) ?_
            simp only [Act.put, zzA, zz0, zz1]
            refine wR (v := .int .i64 (p : Int)) rfl (exec_move rfl rfl) ?_
            simp only [Act.put, zzA, zz0, zz1]
            refine wR (v := .bool (decide ((64 : Int) ≤ (p : Int)))) rfl (ix_geq rfl rfl rfl rfl) ?_
            simp only [Act.put, zzA, zz0, zz1]
            refine wR (v := .bool (decide ((64 : Int) ≤ (p : Int)))) rfl (ix_pickF rfl rfl rfl) ?_
            simp only [Act.put, zzA, zz0, zz1]
            refine wR (v := .bool (decide ((64 : Int) ≤ (p : Int)))) rfl (gx_assign rfl rfl) ?_
            simp only [Act.put, zzA, zz0, zz1]
            go_upto_region 14 with fail
            refine wp_region_lit ?_
            refine wR (v := .int .i64 (d : Int)) rfl (exec_move rfl rfl) ?_
            simp only [Act.put, zzA, zz0, zz1]
            by_cases h3 : (d : Int) = 3
            · refine wR (v := .bool true) rfl (ix_eql rfl rfl rfl (decide_eq_true h3)) ?_
              simp only [Act.put, zzA, zz0, zz1]
              refine wR (v := .bool true) rfl (exec_move rfl rfl) ?_
              simp only [Act.put, zzA, zz0, zz1]
              refine wR (v := .pointer (some ⟨gm, 1, none⟩)) rfl (exec_field (off := 0) (d := 1) rfl rfl (by kernel_rfl)) ?_
              simp only [Act.put, zzA, zz0, zz1]
              refine wR (v := .slice (some ⟨bF, oF, none⟩) n c) rfl (exec_load1 rfl rfl (by kernel_rfl) (HB7.out.cell 1)) ?_
              simp only [Act.put, zzA, zz0, zz1]
              refine wR (v := .int .i64 (j : Int)) rfl (exec_move rfl rfl) ?_
              simp only [Act.put, zzA, zz0, zz1]
              refine wR (v := .pointer (some ⟨bF, oF + j * 2, none⟩)) rfl (gx_iaddr (i := j) (sz := 2) rfl rfl rfl Tryz.underlying29 size_field HLT.out (by omega)) ?_
              simp only [Act.put, zzA, zz0, zz1]
              refine wR (v := .pointer (some ⟨bF, oF + j * 2, none⟩)) rfl (exec_field (off := oF + j * 2) (d := 0) rfl rfl (by kernel_rfl)) ?_
              simp only [Act.put, zzA, zz0, zz1]
              refine wR (v := .int .i64 f9.1) rfl (exec_load1 rfl rfl (by kernel_rfl) (HR7.out 0 _ rfl)) ?_
              simp only [Act.put, zzA, zz0, zz1]
              by_cases h4 : f9.1 = 4
              · have HL12 := Lib.hid (amt_len HGD.out HMEM.out h4)
                refine wR (v := .bool true) rfl (ix_eql rfl rfl rfl (decide_eq_true h4)) ?_
                simp only [Act.put, zzA, zz0, zz1]
                refine wR (v := .bool true) rfl (ix_pickT rfl rfl rfl) ?_
                simp only [Act.put, zzA, zz0, zz1]
                refine wR (v := .bool true) rfl (exec_move rfl rfl) ?_
                simp only [Act.put, zzA, zz0, zz1]
                refine wR (v := .pointer (some ⟨gm, 1, none⟩)) rfl (exec_field (off := 0) (d := 1) rfl rfl (by kernel_rfl)) ?_
                simp only [Act.put, zzA, zz0, zz1]
                refine wR (v := .slice (some ⟨bF, oF, none⟩) n c) rfl (exec_load1 rfl rfl (by kernel_rfl) (HB7.out.cell 1)) ?_
                simp only [Act.put, zzA, zz0, zz1]
                refine wR (v := .int .i64 (j : Int)) rfl (exec_move rfl rfl) ?_
                simp only [Act.put, zzA, zz0, zz1]
                refine wR (v := .pointer (some ⟨bF, oF + j * 2, none⟩)) rfl (gx_iaddr (i := j) (sz := 2) rfl rfl rfl Tryz.underlying29 size_field HLT.out (by omega)) ?_
                simp only [Act.put, zzA, zz0, zz1]
                refine wR (v := .pointer (some ⟨bF, oF + j * 2 + 1, none⟩)) rfl (exec_field (off := oF + j * 2) (d := 1) rfl rfl (by kernel_rfl)) ?_
                simp only [Act.put, zzA, zz0, zz1]
                refine wR (v := strV f9.2) rfl (exec_load1 rfl rfl (by kernel_rfl) (HR7.out 1 _ rfl)) ?_
                simp only [Act.put, zzA, zz0, zz1]
                refine wR (v := strV (f9.2.take 2)) rfl (exec_sto (n := 2) rfl rfl rfl (by rw [HL12.out]; decide)) ?_
                simp only [Act.put, zzA, zz0, zz1]
                by_cases h5 : f9.2.take 2 = [48, 48]
                · refine wR (v := .bool false) rfl (sneq_f (l := f9.2.take 2) (m := [48, 48]) rfl rfl rfl h5) ?_
                  simp only [Act.put, zzA, zz0, zz1]
                  refine wR (v := .bool false) rfl (ix_pickT rfl rfl rfl) ?_
                  simp only [Act.put, zzA, zz0, zz1]
                  have HA5 := Lib.hid (show Amt d f9 from fun _ _ => h5)
                  clear h3 h4 h5
                  have HAN := Lib.hid (show ∀ f ∈ fs.take (j + 1), Amt d f from by
                    rw [HSN.out]
                    intro g hg
                    rcases List.mem_append.1 hg with hg | hg
                    · exact HAM.out g hg
                    · obtain rfl := List.mem_singleton.1 hg
                      exact HA5.out)
                  go_upto_region 10 with fail
                  refine wp_region_lit ?_
                  refine wR (v := .int .i64 (j : Int)) rfl (exec_move rfl rfl) ?_
                  simp only [Act.put, zzA, zz0, zz1]
                  refine wR (v := .int .i64 ((j + 1 : Nat) : Int)) rfl (ix_add rfl rfl rfl (by omega) (by omega)) ?_
                  simp only [Act.put, zzA, zz0, zz1]
                  refine wR (v := .int .i64 ((j + 1 : Nat) : Int)) rfl (gx_assign rfl rfl) ?_
                  simp only [Act.put, zzA, zz0, zz1]
                  go_wp2_with fail
                  go_roundg (gk - 1)
                  case measure => have := HJL.out; have := HLT.out; omega
                  case rel => exact ⟨j + 1, _, by have := HJL.out; have := HLT.out; omega, by go_num, rfl, HFN.out, HBZ.out, HTZ.out, HAN.out⟩
                · refine wR (v := .bool true) rfl (sneq_t (l := f9.2.take 2) (m := [48, 48]) rfl rfl rfl h5) ?_
                  simp only [Act.put, zzA, zz0, zz1]
                  refine wR (v := .bool true) rfl (ix_pickT rfl rfl rfl) ?_
                  simp only [Act.put, zzA, zz0, zz1]
                  have HX9 := Lib.hid (HREF.out.2 ⟨f9, HMEM.out, fun ha => h5 (ha (by omega) h4)⟩)
                  clear h3 h4 h5
                  go_wp2_with fail
                  go_ret2
                  exact enc_err HX9.out ((HT0.out.next HT2.out).next HTZ.out)
              · refine wR (v := .bool false) rfl (ix_eql rfl rfl rfl (decide_eq_false h4)) ?_
                simp only [Act.put, zzA, zz0, zz1]
                refine wR (v := .bool false) rfl (ix_pickT rfl rfl rfl) ?_
                simp only [Act.put, zzA, zz0, zz1]
                refine wR (v := .bool false) rfl (exec_move rfl rfl) ?_
                simp only [Act.put, zzA, zz0, zz1]
                have HA5 := Lib.hid (show Amt d f9 from fun _ h => absurd h h4)
                clear h3 h4
                go_upto_region 10 with fail
                refine wp_region_lit ?_
                have HAN := Lib.hid (show ∀ f ∈ fs.take (j + 1), Amt d f from by
                  rw [HSN.out]
                  intro g hg
                  rcases List.mem_append.1 hg with hg | hg
                  · exact HAM.out g hg
                  · obtain rfl := List.mem_singleton.1 hg
                    exact HA5.out)
                refine wR (v := .int .i64 (j : Int)) rfl (exec_move rfl rfl) ?_
                simp only [Act.put, zzA, zz0, zz1]
                refine wR (v := .int .i64 ((j + 1 : Nat) : Int)) rfl (ix_add rfl rfl rfl (by omega) (by omega)) ?_
                simp only [Act.put, zzA, zz0, zz1]
                refine wR (v := .int .i64 ((j + 1 : Nat) : Int)) rfl (gx_assign rfl rfl) ?_
                simp only [Act.put, zzA, zz0, zz1]
                go_wp2_with fail
                go_roundg (gk - 1)
                case measure => have := HJL.out; have := HLT.out; omega
                case rel => exact ⟨j + 1, _, by have := HJL.out; have := HLT.out; omega, by go_num, rfl, HFN.out, HBZ.out, HTZ.out, HAN.out⟩
            · refine wR (v := .bool false) rfl (ix_eql rfl rfl rfl (decide_eq_false h3)) ?_
              simp only [Act.put, zzA, zz0, zz1]
              refine wR (v := .bool false) rfl (exec_move rfl rfl) ?_
              simp only [Act.put, zzA, zz0, zz1]
              have HA5 := Lib.hid (show Amt d f9 from fun h => absurd (by omega) h3)
              clear h3
              go_upto_region 10 with fail
              refine wp_region_lit ?_
              have HAN := Lib.hid (show ∀ f ∈ fs.take (j + 1), Amt d f from by
                rw [HSN.out]
                intro g hg
                rcases List.mem_append.1 hg with hg | hg
                · exact HAM.out g hg
                · obtain rfl := List.mem_singleton.1 hg
                  exact HA5.out)
              refine wR (v := .int .i64 (j : Int)) rfl (exec_move rfl rfl) ?_
              simp only [Act.put, zzA, zz0, zz1]
              refine wR (v := .int .i64 ((j + 1 : Nat) : Int)) rfl (ix_add rfl rfl rfl (by omega) (by omega)) ?_
              simp only [Act.put, zzA, zz0, zz1]
              refine wR (v := .int .i64 ((j + 1 : Nat) : Int)) rfl (gx_assign rfl rfl) ?_
              simp only [Act.put, zzA, zz0, zz1]
              go_wp2_with fail
              go_roundg (gk - 1)
              case measure => have := HJL.out; have := HLT.out; omega
              case rel => exact ⟨j + 1, _, by have := HJL.out; have := HLT.out; omega, by go_num, rfl, HFN.out, HBZ.out, HTZ.out, HAN.out⟩
        · refine wR (v := .bool false) rfl (ix_lss rfl rfl rfl (decide_eq_false (by omega))) ?_
          simp only [Act.put, zzA, zz0, zz1]
          cases lb with
          | true =>
            have hall : fs.take j = fs := List.take_of_length_le (by rw [HNL.out]; omega)
            have hlb := HLB.out
            have hb6 := HB6.out
            have ham := HAM.out
            rw [hall] at hlb hb6 ham
            have HENC := Lib.hid (HREF.out.1 ham)
            have HSAID := Lib.hid ((mencode_ok.1 (HREF.out.1 ham)).2.1.2.2.2)
            have HWL := Lib.hid (wire_len HD.out (show Wr d ty fs from by
              have h := (mencode_ok.1 (HREF.out.1 ham)).2.1
              rwa [Int.toNat_natCast] at h))
            have HB9 := Lib.hid hb6
            have HFA := Lib.hid hlb
            clear hall hlb hb6 ham hlt HLB HB6 HAM HJL
            have HBM9 := Lib.hid (HBgm.out.turn (HT2.out.next HTR.out) (fun e => e))
            go_upto_region 16 with fail
            refine wp_region_lit ?_
            refine wR (v := .bool true) rfl (exec_move rfl rfl) ?_
            simp only [Act.put, zzA, zz0, zz1]
            have HH2 := Lib.hid ((far_half HNO.out).1 HFA.out.symm)
            go_upto_region 17 with fail
            refine wp_region_lit ?_
            refine wR (v := .slice (some ⟨gb, 0, none⟩) 16 16) rfl (exec_move rfl rfl) ?_
            simp only [Act.put, zzA, zz0, zz1]
            refine wR (v := .slice (some ⟨gb, 0, none⟩) 16 16) rfl (exec_move rfl rfl) ?_
            simp only [Act.put, zzA, zz0, zz1]
            refine wR (v := .pointer (some ⟨gb, 0, none⟩)) rfl (gx_iaddr (i := 0) (sz := 1) rfl rfl rfl Tryz.underlying32 size_byte1 (by decide) (by omega)) ?_
            simp only [Act.put, zzA, zz0, zz1]
            refine wR (v := .int .u8 (((B16 fs).getD 0 0).toNat : Int)) rfl (exec_load1 rfl rfl (by kernel_rfl) (blk_byte HB9.out (by rw [B16_len]; decide))) ?_
            simp only [Act.put, zzA, zz0, zz1]
            refine wR (v := .int .u8 (((B16 fs).getD 0 0 ||| UInt8.ofNat 128).toNat : Int)) rfl (b8_or rfl rfl rfl (by decide)) ?_
            simp only [Act.put, zzA, zz0, zz1]
            refine wR (v := .pointer (some ⟨gb, 0, none⟩)) rfl (gx_iaddr (i := 0) (sz := 1) rfl rfl rfl Tryz.underlying32 size_byte1 (by decide) (by omega)) ?_
            simp only [Act.put, zzA, zz0, zz1]
            refine wpList_store1 (v := .int .u8 (((B16 fs).getD 0 0 ||| UInt8.ofNat 128).toNat : Int)) rfl 5 (.tmp 89) (.tmp 88) rfl HB9.out rfl rfl (by rw [bcs_size, B16_len]; decide) rfl rfl size_byte1 ?_
            intro hbz huz
            rw [mbcs_set] at hbz
            have HBX := Lib.hid (show Blk _ gb 5 (bcs (bitsL fs)).toArray from by
              rw [← bits_far HH2.out]
              exact hbz)
            have HTL := Lib.hid (above HTR.out HGB.out huz)
            have HBM := Lib.hid (HBM9.out.turn huz (fun e => by
              have e : gm = gb := e
              have h1 := HBgm.out.lt
              have h2 := HT2.out.size
              have h3 := HGB.out
              omega))
            clear hbz huz
            generalize wr.setCell ⟨gb, 0, none⟩ (.int .u8 (((B16 fs).getD 0 0 ||| UInt8.ofNat 128).toNat : Int)) = w5 at *
            try simp only [Act.put, zzA, zz0, zz1]
            have HXT := Lib.hid (show (bitsL fs).take 16 = bitsL fs from List.take_of_length_le (by unfold bitsL; rw [if_neg HH2.out, List.length_append, be_len, be_len]; decide))
            have HXL := Lib.hid (show (bitsL fs).length = 16 from by unfold bitsL; rw [if_neg HH2.out, List.length_append, be_len, be_len])
            have HXM := Lib.hid (show (bitsL fs).length = 16 from by unfold bitsL; rw [if_neg HH2.out, List.length_append, be_len, be_len])
            clear HTR HB9 HBM9 HFA HREF
            obtain ⟨T, hT⟩ : ∃ T, T = (typeFm d).put (ver d ++ dig3 ty.toNat) := ⟨_, rfl⟩
            have HTT := Lib.hid hT
            have HPL := Lib.hid (show ∀ k, (T ++ mapB d ((bitsL fs).take k)).length ≤ 500 from fun k => by
              have h1 := HWL.out
              unfold wire at h1
              rw [← HTT.out, mapPut_bits HD.out, ← List.take_append_drop k (bitsL fs), mapB_append] at h1
              simp only [List.length_append] at h1 ⊢
              omega)
            have HBL := Lib.hid (show ∀ k, (T ++ mapPut d fs ++ body d (fs.take k)).length ≤ 500 from fun k => by
              have h1 := HWL.out
              have h2 := body_take_le d fs k
              unfold wire at h1
              rw [← HTT.out] at h1
              simp only [List.length_append] at h1 ⊢
              omega)
            have HWI := Lib.hid (show wire d ty fs = T ++ mapPut d fs ++ body d fs from by
              unfold wire
              rw [← HTT.out, List.append_assoc])
            clear hT
            go_upto_region 19 with fail
            have hS0 : Blk w5.drew gm 31 #[.int .i64 ty, .slice A n c] := HBM.out.drew
            have HTD := Lib.hid (Turn.drew (Turn.refl nowhere w5))
            refine wp_region_alw (fun W => Blk W gm 31 #[.int .i64 ty, .slice A n c]) (by kernel_rfl) ?_
            generalize w5.drew = w6 at *
            refine alw_take (i := 0) (v := .int .i64 (d : Int)) rfl (by kernel_rfl) (by kernel_rfl) (fun _ _ _ h => h) (.inl ⟨by rfl, fun W hW => exec_move rfl rfl⟩) hS0 ?_
            simp only [Act.put, zzA, zz0, zz1]
            refine alw_take (i := 2) (v := .int .i64 (d : Int)) rfl (by kernel_rfl) (by kernel_rfl) (fun _ _ _ h => h) (.inl ⟨by rfl, fun W hW => exec_move rfl rfl⟩) hS0 ?_
            simp only [Act.put, zzA, zz0, zz1]
            refine alw_take (i := 3) (v := .pointer (some ⟨gm, 0, none⟩)) rfl (by kernel_rfl) (by kernel_rfl) (fun _ _ _ h => h) (.inl ⟨by rfl, fun W hW => exec_field (off := 0) (d := 0) rfl rfl (by kernel_rfl)⟩) hS0 ?_
            simp only [Act.put, zzA, zz0, zz1]
            refine alw_take (i := 4) (v := .int .i64 ty) rfl (by kernel_rfl) (by kernel_rfl) (fun _ _ _ h => h) (.inl ⟨by rfl, fun W hW => exec_load1 rfl rfl (by kernel_rfl) (hW.cell 0)⟩) hS0 ?_
            simp only [Act.put, zzA, zz0, zz1]
            refine alw_step (i := 1) (by kernel_rfl) rfl rfl ?_
            intro K1 HK1
            go_wp2_with fail
            refine (number_walk (w := w6) (dd := (d : Int)) (sz := 4)).mono ?_
            rintro e w7 ⟨rfl, ht7⟩
            have hS1 := hS0.turn ht7 (fun e => e)
            refine HK1.out _ _ ⟨hS1, ?_⟩
            have HT7 := Lib.hid ht7
            clear HK1 hS0 ht7
            try simp only [Act.put, zzA, zz0, zz1]
            have hH := head_ty (w := w7) HD.out HTY.out
            refine alw_step (i := 5) (by kernel_rfl) rfl rfl ?_
            intro K1 HK1
            go_wp2_with fail
            refine hH.mono ?_
            rintro e w8 ⟨rfl, ht8⟩
            have hS2 := hS1.turn ht8 (fun e => e)
            refine HK1.out _ _ ⟨hS2, ?_⟩
            have HT8 := Lib.hid ht8
            clear HK1 hS1 ht8 hH
            try simp only [Act.put, zzA, zz0, zz1]
            have hP := put_type (w := w8) HD.out HTY.out
            rw [← HTT.out] at hP
            refine alw_step (i := 6) (by kernel_rfl) rfl rfl ?_
            intro K1 HK1
            go_wp2_with fail
            refine hP.mono ?_
            rintro e w9 ⟨A9, n9, c9, rfl, ho9, ht9⟩
            have hS3 := hS2.turn ht9 (fun e => e)
            refine HK1.out _ _ ⟨hS3, ?_⟩
            have HT9 := Lib.hid ht9
            have HO9 := Lib.hid ho9
            clear HK1 hS2 ht9 ho9 hP
            try simp only [Act.put, zzA, zz0, zz1]
            refine alw_take (i := 7) (v := .tuple #[.slice A9 n9 c9, .int .i64 0]) rfl (by kernel_rfl) (by kernel_rfl) (fun _ _ _ h => h) (.inl ⟨by rfl, fun W hW => exec_move rfl rfl⟩) hS3 ?_
            simp only [Act.put, zzA, zz0, zz1]
            refine alw_take (i := 8) (v := .slice A9 n9 c9) rfl (by kernel_rfl) (by kernel_rfl) (fun _ _ _ h => h) (.inl ⟨by rfl, fun W hW => ix_extract rfl rfl rfl⟩) hS3 ?_
            simp only [Act.put, zzA, zz0, zz1]
            refine alw_take (i := 9) (v := .int .i64 0) rfl (by kernel_rfl) (by kernel_rfl) (fun _ _ _ h => h) (.inl ⟨by rfl, fun W hW => ix_extract rfl rfl rfl⟩) hS3 ?_
            simp only [Act.put, zzA, zz0, zz1]
            refine alw_take (i := 10) (v := .slice A9 n9 c9) rfl (by kernel_rfl) (by kernel_rfl) (fun _ _ _ h => h) (.inl ⟨by rfl, fun W hW => gx_assign rfl rfl⟩) hS3 ?_
            simp only [Act.put, zzA, zz0, zz1]
            refine alw_take (i := 11) (v := .int .i64 0) rfl (by kernel_rfl) (by kernel_rfl) (fun _ _ _ h => h) (.inl ⟨by rfl, fun W hW => gx_assign rfl rfl⟩) hS3 ?_
            simp only [Act.put, zzA, zz0, zz1]
            refine alw_done rfl ?_
            clear hS3
            refine NoPanic.normal ?_
            have HGP := Lib.hid (show gb < w8.heap.size from by
              have h1 := HBX.out.lt
              have h2 := HTD.out.size
              have h3 := HT7.out.size
              have h4 := HT8.out.size
              omega)
            have HBX8 := Lib.hid (HBX.out.turn ((HTD.out.next HT7.out).next HT8.out) (fun e => e))
            go_upto_region 20 with fail
            refine wp_region_lit ?_
            refine wR (v := .int .i64 0) rfl (gx_assign rfl rfl) ?_
            simp only [Act.put, zzA, zz0, zz1]
            go_wp2_with fail
            go_loopg [11, 13] 16 (fun gk bv jv wr => ∃ (k : Nat) (A' : Option Addr) (n' c' : Nat), k + gk = 16 ∧ jv = .int .i64 (k : Int) ∧ bv = .slice A' n' c' ∧ Own wr w8.heap.size 5 (.slice A' n' c') (T ++ mapB d ((bitsL fs).take k)) ∧ Turn nowhere w8 wr)
            case atStart => exact ⟨0, _, _, _, by omega, rfl, rfl, by rw [List.take_zero, show mapB d [] = [] from by unfold mapB; split <;> rfl, List.append_nil]; exact HO9.out, HT9.out⟩
            obtain ⟨k, A', n', c', hkl, rfl, rfl, ho, htr⟩ := hrel
            have HKL := Lib.hid hkl
            have HO := Lib.hid ho
            have HTR := Lib.hid htr
            clear hkl ho htr
            go_upto_region 21 with fail
            refine wp_region_lit ?_
            refine wR (v := .int .i64 (k : Int)) rfl (exec_move rfl rfl) ?_
            simp only [Act.put, zzA, zz0, zz1]
            refine wR (v := .slice (some ⟨gb, 0, none⟩) 16 16) rfl (exec_move rfl rfl) ?_
            simp only [Act.put, zzA, zz0, zz1]
            refine wR (v := .int .i64 16) rfl (gx_len rfl rfl Tryz.underlying32) ?_
            simp only [Act.put, zzA, zz0, zz1]
            by_cases hk : k < 16
            · refine wR (v := .bool true) rfl (ix_lss rfl rfl rfl (decide_eq_true (by omega))) ?_
              simp only [Act.put, zzA, zz0, zz1]
              have HK := Lib.hid hk
              have y4 : (k : Int) < 16 := by omega
              obtain ⟨x, hx⟩ : ∃ x, x = (bitsL fs).getD k 0 := ⟨_, rfl⟩
              have HX := Lib.hid hx
              have HBK := Lib.hid (HBX8.out.turn HTR.out (fun e => e))
              have HMB := Lib.hid (show (bitsL fs).take (k + 1) = (bitsL fs).take k ++ [x] from by
                have h1 : (bitsL fs)[k]? = some x := by
                  rw [← HXT.out, List.getElem?_take, if_pos hk, hx, List.getD, List.getElem?_eq_getElem (by rw [HXL.out]; omega)]
                  rfl
                rw [List.take_add_one, h1]
                rfl)
              have hP0 := HPL.out k
              clear hk hx
              go_upto_region 23 with fail
              refine wp_region_lit ?_
              refine wR (v := .int .i64 (d : Int)) rfl (exec_move rfl rfl) ?_
              simp only [Act.put, zzA, zz0, zz1]
              by_cases h1 : (d : Int) = 1
              · refine wR (v := .bool true) rfl (ix_eql rfl rfl rfl (decide_eq_true h1)) ?_
                simp only [Act.put, zzA, zz0, zz1]
                have HD1 := Lib.hid (show d = 1 by omega)
                clear h1
                go_upto_region 24 with fail
                have hS0 : Blk wr.drew gb 5 (bcs (bitsL fs)).toArray := HBK.out.drew
                have HOd := Lib.hid (HO.out.drew)
                have HTd := Lib.hid (HTR.out.drew)
                refine wp_region_alw (fun W => Blk W gb 5 (bcs (bitsL fs)).toArray) (by kernel_rfl) ?_
                generalize wr.drew = wa at *
                refine alw_take (i := 0) (v := .slice A' n' c') rfl (by kernel_rfl) (by kernel_rfl) (fun _ _ _ h => h) (.inl ⟨by rfl, fun W hW => exec_move rfl rfl⟩) hS0 ?_
                simp only [Act.put, zzA, zz0, zz1]
                refine alw_take (i := 1) (v := .slice (some ⟨gb, 0, none⟩) 16 16) rfl (by kernel_rfl) (by kernel_rfl) (fun _ _ _ h => h) (.inl ⟨by rfl, fun W hW => exec_move rfl rfl⟩) hS0 ?_
                simp only [Act.put, zzA, zz0, zz1]
                refine alw_take (i := 2) (v := .int .i64 (k : Int)) rfl (by kernel_rfl) (by kernel_rfl) (fun _ _ _ h => h) (.inl ⟨by rfl, fun W hW => exec_move rfl rfl⟩) hS0 ?_
                simp only [Act.put, zzA, zz0, zz1]
                refine alw_take (i := 3) (v := .pointer (some ⟨gb, k, none⟩)) rfl (by kernel_rfl) (by kernel_rfl) (fun _ _ _ h => h) (.inl ⟨by rfl, fun W hW => gx_iaddr (i := k) (sz := 1) rfl rfl rfl Tryz.underlying32 size_byte1 (by have := HK.out; omega) (by omega)⟩) hS0 ?_
                simp only [Act.put, zzA, zz0, zz1]
                refine alw_take (i := 4) (v := .int .u8 (x.toNat : Int)) rfl (by kernel_rfl) (by kernel_rfl) (fun _ _ _ h => h) (.inl ⟨by rfl, fun W hW => exec_load1 rfl rfl (by kernel_rfl) (by rw [HX.out]; exact blk_byte hW (by rw [HXL.out]; have := HK.out; omega))⟩) hS0 ?_
                simp only [Act.put, zzA, zz0, zz1]
                refine alw_take (i := 5) (v := .int .u8 ((x.toNat / 16 : Nat) : Int)) rfl (by kernel_rfl) (by kernel_rfl) (fun _ _ _ h => h) (.inl ⟨by rfl, fun W hW => b8_quo rfl rfl (UInt8.toNat_lt _)⟩) hS0 ?_
                simp only [Act.put, zzA, zz0, zz1]
                refine alw_take (i := 6) (v := .int .u8 ((hexU.getD (x.toNat / 16) 0).toNat : Int)) rfl (by kernel_rfl) (by kernel_rfl) (fun _ _ _ h => h) (.inl ⟨by rfl, fun W hW => exec_sidx (l := hexU) (i := x.toNat / 16) rfl rfl rfl (by have := UInt8.toNat_lt x; show x.toNat / 16 < 16; omega)⟩) hS0 ?_
                simp only [Act.put, zzA, zz0, zz1]
                refine alw_take (i := 7) (v := .slice (some ⟨gb, 0, none⟩) 16 16) rfl (by kernel_rfl) (by kernel_rfl) (fun _ _ _ h => h) (.inl ⟨by rfl, fun W hW => exec_move rfl rfl⟩) hS0 ?_
                simp only [Act.put, zzA, zz0, zz1]
                refine alw_take (i := 8) (v := .int .i64 (k : Int)) rfl (by kernel_rfl) (by kernel_rfl) (fun _ _ _ h => h) (.inl ⟨by rfl, fun W hW => exec_move rfl rfl⟩) hS0 ?_
                simp only [Act.put, zzA, zz0, zz1]
                refine alw_take (i := 9) (v := .pointer (some ⟨gb, k, none⟩)) rfl (by kernel_rfl) (by kernel_rfl) (fun _ _ _ h => h) (.inl ⟨by rfl, fun W hW => gx_iaddr (i := k) (sz := 1) rfl rfl rfl Tryz.underlying32 size_byte1 (by have := HK.out; omega) (by omega)⟩) hS0 ?_
                simp only [Act.put, zzA, zz0, zz1]
                refine alw_take (i := 10) (v := .int .u8 (x.toNat : Int)) rfl (by kernel_rfl) (by kernel_rfl) (fun _ _ _ h => h) (.inl ⟨by rfl, fun W hW => exec_load1 rfl rfl (by kernel_rfl) (by rw [HX.out]; exact blk_byte hW (by rw [HXL.out]; have := HK.out; omega))⟩) hS0 ?_
                simp only [Act.put, zzA, zz0, zz1]
                refine alw_take (i := 11) (v := .int .u8 ((x.toNat % 16 : Nat) : Int)) rfl (by kernel_rfl) (by kernel_rfl) (fun _ _ _ h => h) (.inl ⟨by rfl, fun W hW => b8_rem rfl rfl⟩) hS0 ?_
                simp only [Act.put, zzA, zz0, zz1]
                refine alw_take (i := 12) (v := .int .u8 ((hexU.getD (x.toNat % 16) 0).toNat : Int)) rfl (by kernel_rfl) (by kernel_rfl) (fun _ _ _ h => h) (.inl ⟨by rfl, fun W hW => exec_sidx (l := hexU) (i := x.toNat % 16) rfl rfl rfl (by show x.toNat % 16 < 16; omega)⟩) hS0 ?_
                simp only [Act.put, zzA, zz0, zz1]
                have hu2 := (Turn.refl nowhere wa).alloc (.cells (bcs [hexU.getD (x.toNat / 16) 0, hexU.getD (x.toNat % 16) 0]).toArray 5)
                have hs2 := bs_blk (Blk.new wa 5 (bcs [hexU.getD (x.toNat / 16) 0, hexU.getD (x.toNat % 16) 0]).toArray) (n := 2) rfl (by unfold maxLen; omega)
                have ho2 := own_still HOd.out hu2
                have hS1 := hS0.turn hu2 (fun e => e)
                refine alw_step (i := 13) (by kernel_rfl) rfl rfl ?_
                intro K1 HK1
                refine wp_run (exec_two rfl rfl rfl) ?_
                refine HK1.out _ _ ⟨hS1, ?_⟩
                clear HK1 hS0
                obtain ⟨g2, hg2⟩ : ∃ g, g = wa.heap.size := ⟨_, rfl⟩
                rw [← hg2] at hs2 ⊢
                clear hg2
                generalize wa.alloc (.cells (bcs [hexU.getD (x.toNat / 16) 0, hexU.getD (x.toNat % 16) 0]).toArray 5) = wb at *
                try simp only [Act.put, zzA, zz0, zz1]
                refine alw_step (i := 14) (by kernel_rfl) rfl rfl ?_
                intro K1 HK1
                refine wp_append_bytes wb _ _ _ rfl w8.heap.size 5 byteInfo Tryz.underlying32 _ _ rfl ho2 _ 2 2 [hexU.getD (x.toNat / 16) 0, hexU.getD (x.toNat % 16) 0] rfl hs2 (fun h => by cases h) (by omega) (Nat.le_trans HTd.out.size hu2.size) ?_
                intro v5 w10 ho5 hb5
                obtain ⟨A5, n5, c5, rfl, _⟩ := ho5.form
                have hS2 : Blk w10 gb 5 (bcs (bitsL fs)).toArray := (hb5.block gb HGP.out).trans hS1
                refine HK1.out _ _ ⟨hS2, ?_⟩
                clear HK1 hS1
                try simp only [Act.put, zzA, zz0, zz1]
                have HON := Lib.hid (show Own w10 w8.heap.size 5 (.slice A5 n5 c5) (T ++ mapB d ((bitsL fs).take (k + 1))) from by
                  rw [HMB.out, mapB_append, ← List.append_assoc, show mapB d [x] = [hexU.getD (x.toNat / 16) 0, hexU.getD (x.toNat % 16) 0] from by unfold mapB; rw [if_pos HD1.out]; rfl]
                  exact ho5)
                have HTN := Lib.hid (Turn.of_below (((HTd.out.next hu2).below (Nat.le_refl _) (fun _ _ e=>e)).trans hb5) (Nat.le_refl _))
                clear ho5 hb5 ho2 hs2 hu2
                refine alw_take (i := 15) (v := .slice A5 n5 c5) rfl (by kernel_rfl) (by kernel_rfl) (fun _ _ _ h => h) (.inl ⟨by rfl, fun W hW => gx_assign rfl rfl⟩) hS2 ?_
                simp only [Act.put, zzA, zz0, zz1]
                refine alw_done rfl ?_
                clear hS2
                refine NoPanic.normal ?_
                go_upto_region 22 with fail
                refine wp_region_lit ?_
                refine wR (v := .int .i64 (k : Int)) rfl (exec_move rfl rfl) ?_
                simp only [Act.put, zzA, zz0, zz1]
                refine wR (v := .int .i64 ((k + 1 : Nat) : Int)) rfl (ix_add rfl rfl rfl (by omega) (by omega)) ?_
                simp only [Act.put, zzA, zz0, zz1]
                refine wR (v := .int .i64 ((k + 1 : Nat) : Int)) rfl (gx_assign rfl rfl) ?_
                simp only [Act.put, zzA, zz0, zz1]
                go_wp2_with fail
                go_roundg (gk - 1)
                case measure => have := HKL.out; have := HK.out; omega
                case rel => exact ⟨k + 1, _, _, _, by have := HKL.out; have := HK.out; omega, by go_num, rfl, HON.out, HTN.out⟩
              · refine wR (v := .bool false) rfl (ix_eql rfl rfl rfl (decide_eq_false h1)) ?_
                simp only [Act.put, zzA, zz0, zz1]
                have HD1 := Lib.hid (show ¬ d = 1 by omega)
                clear h1
                go_upto_region 25 with fail
                refine wp_region_lit ?_
                refine wR (v := .slice A' n' c') rfl (exec_move rfl rfl) ?_
                simp only [Act.put, zzA, zz0, zz1]
                refine wR (v := .slice (some ⟨gb, 0, none⟩) 16 16) rfl (exec_move rfl rfl) ?_
                simp only [Act.put, zzA, zz0, zz1]
                refine wR (v := .int .i64 (k : Int)) rfl (exec_move rfl rfl) ?_
                simp only [Act.put, zzA, zz0, zz1]
                refine wR (v := .pointer (some ⟨gb, k, none⟩)) rfl (gx_iaddr (i := k) (sz := 1) rfl rfl rfl Tryz.underlying32 size_byte1 (by have := HK.out; omega) (by omega)) ?_
                simp only [Act.put, zzA, zz0, zz1]
                refine wR (v := .int .u8 (x.toNat : Int)) rfl (exec_load1 rfl rfl (by kernel_rfl) (by rw [HX.out]; exact blk_byte HBK.out (by rw [HXL.out]; have := HK.out; omega))) ?_
                simp only [Act.put, zzA, zz0, zz1]
                refine wR (v := .slice (some ⟨wr.heap.size, 0, none⟩) 1 1) (w' := wr.alloc (.cells (bcs [x]).toArray 5)) rfl (exec_one (z := x) rfl rfl) ?_
                simp only [Act.put, zzA, zz0, zz1]
                have hu2 := (Turn.refl nowhere wr).alloc (.cells (bcs [x]).toArray 5)
                have hs2 := bs_blk (Blk.new wr 5 (bcs [x]).toArray) (n := 1) rfl (by unfold maxLen; omega)
                have ho2 := own_still HO.out hu2
                obtain ⟨g2, hg2⟩ : ∃ g, g = wr.heap.size := ⟨_, rfl⟩
                rw [← hg2] at hs2 ⊢
                clear hg2
                generalize wr.alloc (.cells (bcs [x]).toArray 5) = wb at *
                refine wpList_append_bytes wb rfl _ _ _ rfl w8.heap.size 5 byteInfo Tryz.underlying32 _ _ rfl ho2 _ 1 1 [x] rfl hs2 (fun h => by cases h) (by omega) (Nat.le_trans HTR.out.size hu2.size) ?_
                intro v5 w10 ho5 hb5
                obtain ⟨A5, n5, c5, rfl, _⟩ := ho5.form
                simp only [Act.put, zzA, zz0, zz1]
                have HON := Lib.hid (show Own w10 w8.heap.size 5 (.slice A5 n5 c5) (T ++ mapB d ((bitsL fs).take (k + 1))) from by
                  rw [HMB.out, mapB_append, ← List.append_assoc, show mapB d [x] = [x] from by unfold mapB; rw [if_neg HD1.out]]
                  exact ho5)
                have HTN := Lib.hid (Turn.of_below (((HTR.out.next hu2).below (Nat.le_refl _) (fun _ _ e=>e)).trans hb5) (Nat.le_refl _))
                clear ho5 hb5 ho2 hs2 hu2
                refine wR (v := .slice A5 n5 c5) rfl (gx_assign rfl rfl) ?_
                simp only [Act.put, zzA, zz0, zz1]
                go_upto_region 22 with fail
                refine wp_region_lit ?_
                refine wR (v := .int .i64 (k : Int)) rfl (exec_move rfl rfl) ?_
                simp only [Act.put, zzA, zz0, zz1]
                refine wR (v := .int .i64 ((k + 1 : Nat) : Int)) rfl (ix_add rfl rfl rfl (by omega) (by omega)) ?_
                simp only [Act.put, zzA, zz0, zz1]
                refine wR (v := .int .i64 ((k + 1 : Nat) : Int)) rfl (gx_assign rfl rfl) ?_
                simp only [Act.put, zzA, zz0, zz1]
                go_wp2_with fail
                go_roundg (gk - 1)
                case measure => have := HKL.out; have := HK.out; omega
                case rel => exact ⟨k + 1, _, _, _, by have := HKL.out; have := HK.out; omega, by go_num, rfl, HON.out, HTN.out⟩
            · refine wR (v := .bool false) rfl (ix_lss rfl rfl rfl (decide_eq_false (by omega))) ?_
              simp only [Act.put, zzA, zz0, zz1]
              have HOW := Lib.hid (show Own wr w8.heap.size 5 (.slice A' n' c') (T ++ mapPut d fs) from by
                have h1 := HO.out
                rw [List.take_of_length_le (by rw [HXM.out]; omega), ← mapPut_bits HD.out] at h1
                exact h1)
              have HTW := Lib.hid HTR.out
              clear hk HO HTR HKL
              go_upto_region 26 with fail
              refine wp_region_lit ?_
              refine wR (v := .int .i64 0) rfl (gx_assign rfl rfl) ?_
              simp only [Act.put, zzA, zz0, zz1]
              go_wp2_with fail
              go_loopg [11, 14] n (fun gk bv jv wq => ∃ (j : Nat) (A' : Option Addr) (n' c' : Nat), j + gk = n ∧ jv = .int .i64 (j : Int) ∧ bv = .slice A' n' c' ∧ Own wq w8.heap.size 5 (.slice A' n' c') (T ++ mapPut d fs ++ body d (fs.take j)) ∧ Turn nowhere w8 wq)
              case atStart => exact ⟨0, _, _, _, by omega, rfl, rfl, by rw [List.take_zero, show body d [] = [] from rfl, List.append_nil]; exact HOW.out, HTW.out⟩
              clear HOW HTW
              obtain ⟨j, A', n', c', hjl, rfl, rfl, ho, htr⟩ := hrel
              have HJL := Lib.hid hjl
              have HO := Lib.hid ho
              have HTR := Lib.hid htr
              clear hjl ho htr
              have HB2 := Lib.hid ((HBgm.out.turn (((((HT2.out.next HTL.out).next HTD.out).next HT7.out).next HT8.out).next HTR.out) (fun e => e)))
              go_upto_region 27 with fail
              refine wp_region_lit ?_
              refine wR (v := .int .i64 (j : Int)) rfl (exec_move rfl rfl) ?_
              simp only [Act.put, zzA, zz0, zz1]
              refine wR (v := .pointer (some ⟨gm, 1, none⟩)) rfl (exec_field (off := 0) (d := 1) rfl rfl (by kernel_rfl)) ?_
              simp only [Act.put, zzA, zz0, zz1]
              refine wR (v := .slice A n c) rfl (exec_load1 rfl rfl (by kernel_rfl) (HB2.out.cell 1)) ?_
              simp only [Act.put, zzA, zz0, zz1]
              refine wR (v := .int .i64 (n : Int)) rfl (gx_len rfl rfl Tryz.underlying29) ?_
              simp only [Act.put, zzA, zz0, zz1]
              by_cases hlt : j < n
              · have HLT := Lib.hid hlt
                have y1 : (j : Int) < (n : Int) := by omega
                obtain ⟨bF, oF, rfl, hr⟩ := (HF.out.still ((((((HT0.out.next HT2.out).next HTL.out).next HTD.out).next HT7.out).next HT8.out).next HTR.out)).2.2 (by omega)
                obtain ⟨f, hf⟩ : ∃ f, fs[j]? = some f := ⟨_, List.getElem?_eq_getElem (show j < fs.length from by rw [HNL.out]; exact hlt)⟩
                have hmem := List.mem_of_getElem? hf
                have HRR := Lib.hid (hr j f hf)
                have HSN := Lib.hid (take_snoc hf)
                have HTF := Lib.hid (HTX.out f hmem)
                have hsd := HSAID.out f hmem
                rw [Int.toNat_natCast] at hsd
                obtain ⟨m1, hm1, hc1⟩ := HGD.out.2 f hmem
                have HSAY := Lib.hid (say_amt ((said_amt HD.out hm1 hc1).1 hsd))
                obtain ⟨m, hm, hc⟩ := hsd
                have HM := Lib.hid hm
                have HC := Lib.hid hc
                have HL12 := Lib.hid (fun h4 => amt_len HGD.out hmem h4)
                have HB0 := Lib.hid (HBL.out j)
                clear hr hf hlt hmem hm1 hc1 hm hc
                refine wR (v := .bool true) rfl (ix_lss rfl rfl rfl (decide_eq_true y1)) ?_
                simp only [Act.put, zzA, zz0, zz1]
                go_upto_region 29 with fail
                refine wp_region_lit ?_
                refine wR (v := .int .i64 (d : Int)) rfl (exec_move rfl rfl) ?_
                simp only [Act.put, zzA, zz0, zz1]
                refine wR (v := .pointer (some ⟨gm, 1, none⟩)) rfl (exec_field (off := 0) (d := 1) rfl rfl (by kernel_rfl)) ?_
                simp only [Act.put, zzA, zz0, zz1]
                refine wR (v := .slice (some ⟨bF, oF, none⟩) n c) rfl (exec_load1 rfl rfl (by kernel_rfl) (HB2.out.cell 1)) ?_
                simp only [Act.put, zzA, zz0, zz1]
                refine wR (v := .int .i64 (j : Int)) rfl (exec_move rfl rfl) ?_
                simp only [Act.put, zzA, zz0, zz1]
                refine wR (v := .pointer (some ⟨bF, oF + j * 2, none⟩)) rfl (gx_iaddr (i := j) (sz := 2) rfl rfl rfl Tryz.underlying29 size_field HLT.out (by omega)) ?_
                simp only [Act.put, zzA, zz0, zz1]
                refine wR (v := .pointer (some ⟨bF, oF + j * 2, none⟩)) rfl (exec_field (off := oF + j * 2) (d := 0) rfl rfl (by kernel_rfl)) ?_
                simp only [Act.put, zzA, zz0, zz1]
                refine wR (v := .int .i64 f.1) rfl (exec_load1 rfl rfl (by kernel_rfl) (HRR.out 0 _ rfl)) ?_
                simp only [Act.put, zzA, zz0, zz1]
                have hFm := rForm_walk (w := wr) (dd := (d : Int)) (no := f.1)
                rw [show formE (d : Int) f.1 = (m, 0) from by
                  unfold formE
                  rw [if_pos HDI.out, Int.toNat_natCast, HM.out]] at hFm
                refine wpList_op rfl fun K9 HK9 => ?_
                go_wp2_with fail
                refine (hFm).mono ?_
                rintro e w10 ⟨rfl, htx⟩
                refine HK9.out _ _ ?_
                clear HK9
                try simp only [Act.put, zzA, zz0, zz1]
                clear hFm
                have HT10 := Lib.hid htx
                clear htx
                refine wR (v := .tuple #[.agg (fmA m), .int .i64 0]) rfl (exec_move rfl rfl) ?_
                simp only [Act.put, zzA, zz0, zz1]
                refine wR (v := .agg (fmA m)) rfl (ix_extract rfl rfl rfl) ?_
                simp only [Act.put, zzA, zz0, zz1]
                refine wR (v := .int .i64 0) rfl (ix_extract rfl rfl rfl) ?_
                simp only [Act.put, zzA, zz0, zz1]
                refine wpList_new 24 (.tmp 15) (.tmp 148) (fmA m) rfl rfl (zero_fm _) rfl rfl rfl rfl rfl rfl (by rw [size_form]; rfl) (fmA_one _) ?_
                intro w11 g11 _ hbx hux
                simp only [Act.put, zzA, zz0, zz1]
                have HBg11 := Lib.hid hbx
                have HT11 := Lib.hid hux
                clear hbx hux
                have HB3 := Lib.hid (HB2.out.turn (HT10.out.next HT11.out) (fun e => e))
                have HR3 := Lib.hid (show w11.rangeAt bF (oF + j * 2) (fldA f).toList from fun i v hv => ((HT10.out.next HT11.out).cell (World.block_lt_of_cell? _ _ (HRR.out i v hv)) (fun e => e)).trans (HRR.out i v hv))
                refine wR (v := .int .i64 0) rfl (gx_assign rfl rfl) ?_
                simp only [Act.put, zzA, zz0, zz1]
                go_upto_region 30 with fail
                refine wp_region_lit ?_
                refine wR (v := .pointer (some ⟨gm, 1, none⟩)) rfl (exec_field (off := 0) (d := 1) rfl rfl (by kernel_rfl)) ?_
                simp only [Act.put, zzA, zz0, zz1]
                refine wR (v := .slice (some ⟨bF, oF, none⟩) n c) rfl (exec_load1 rfl rfl (by kernel_rfl) (HB3.out.cell 1)) ?_
                simp only [Act.put, zzA, zz0, zz1]
                refine wR (v := .int .i64 (j : Int)) rfl (exec_move rfl rfl) ?_
                simp only [Act.put, zzA, zz0, zz1]
                refine wR (v := .pointer (some ⟨bF, oF + j * 2, none⟩)) rfl (gx_iaddr (i := j) (sz := 2) rfl rfl rfl Tryz.underlying29 size_field HLT.out (by omega)) ?_
                simp only [Act.put, zzA, zz0, zz1]
                refine wR (v := .pointer (some ⟨bF, oF + j * 2 + 1, none⟩)) rfl (exec_field (off := oF + j * 2) (d := 1) rfl rfl (by kernel_rfl)) ?_
                simp only [Act.put, zzA, zz0, zz1]
                refine wR (v := strV f.2) rfl (exec_load1 rfl rfl (by kernel_rfl) (HR3.out 1 _ rfl)) ?_
                simp only [Act.put, zzA, zz0, zz1]
                refine wR (v := strV f.2) rfl (gx_assign rfl rfl) ?_
                simp only [Act.put, zzA, zz0, zz1]
                go_upto_region 31 with fail
                refine wp_region_lit ?_
                refine wR (v := .int .i64 (d : Int)) rfl (exec_move rfl rfl) ?_
                simp only [Act.put, zzA, zz0, zz1]
                by_cases h3 : (d : Int) = 3
                · refine wR (v := .bool true) rfl (ix_eql rfl rfl rfl (decide_eq_true h3)) ?_
                  simp only [Act.put, zzA, zz0, zz1]
                  refine wR (v := .bool true) rfl (exec_move rfl rfl) ?_
                  simp only [Act.put, zzA, zz0, zz1]
                  refine wR (v := .pointer (some ⟨gm, 1, none⟩)) rfl (exec_field (off := 0) (d := 1) rfl rfl (by kernel_rfl)) ?_
                  simp only [Act.put, zzA, zz0, zz1]
                  refine wR (v := .slice (some ⟨bF, oF, none⟩) n c) rfl (exec_load1 rfl rfl (by kernel_rfl) (HB3.out.cell 1)) ?_
                  simp only [Act.put, zzA, zz0, zz1]
                  refine wR (v := .int .i64 (j : Int)) rfl (exec_move rfl rfl) ?_
                  simp only [Act.put, zzA, zz0, zz1]
                  refine wR (v := .pointer (some ⟨bF, oF + j * 2, none⟩)) rfl (gx_iaddr (i := j) (sz := 2) rfl rfl rfl Tryz.underlying29 size_field HLT.out (by omega)) ?_
                  simp only [Act.put, zzA, zz0, zz1]
                  refine wR (v := .pointer (some ⟨bF, oF + j * 2, none⟩)) rfl (exec_field (off := oF + j * 2) (d := 0) rfl rfl (by kernel_rfl)) ?_
                  simp only [Act.put, zzA, zz0, zz1]
                  refine wR (v := .int .i64 f.1) rfl (exec_load1 rfl rfl (by kernel_rfl) (HR3.out 0 _ rfl)) ?_
                  simp only [Act.put, zzA, zz0, zz1]
                  by_cases h4 : f.1 = 4
                  · refine wR (v := .bool true) rfl (ix_eql rfl rfl rfl (decide_eq_true h4)) ?_
                    simp only [Act.put, zzA, zz0, zz1]
                    refine wR (v := .bool true) rfl (ix_pickT rfl rfl rfl) ?_
                    simp only [Act.put, zzA, zz0, zz1]
                    have HL2 := Lib.hid (HL12.out h4)
                    have H3 := Lib.hid h3
                    have H4 := Lib.hid h4
                    clear h3 h4
                    go_upto_region 32 with fail
                    refine wp_region_lit ?_
                    refine wR (v := strV f.2) rfl (exec_move rfl rfl) ?_
                    simp only [Act.put, zzA, zz0, zz1]
                    refine wR (v := strV (f.2.drop 2)) rfl (exec_sfrom (n := 2) rfl rfl rfl (by rw [HL2.out]; decide)) ?_
                    simp only [Act.put, zzA, zz0, zz1]
                    refine wR (v := strV (f.2.drop 2)) rfl (gx_assign rfl rfl) ?_
                    simp only [Act.put, zzA, zz0, zz1]
                    have HSX := Lib.hid (show say d f = f.2.drop 2 from by rw [HSAY.out, if_pos ⟨by have := H3.out; omega, H4.out⟩])
                    clear H3 H4
                    obtain ⟨A6, n6, c6, hf6, hb6, hnc6, hz6⟩ := HO.out.form
                    injection hf6 with g1 g2 g3
                    subst g1 g2 g3
                    have HB6 := Lib.hid hb6
                    have HZ6 := Lib.hid hz6
                    have HN6 := Lib.hid (show n' ≤ 500 from by rw [← hb6.1]; exact HB0.out)
                    clear hb6 hnc6 hz6
                    go_upto_region 33 with fail
                    refine wp_region_lit ?_
                    refine wR (v := .slice A' n' c') rfl (exec_move rfl rfl) ?_
                    simp only [Act.put, zzA, zz0, zz1]
                    refine wR (v := .agg (fmA m)) rfl (gx_loads rfl rfl (blk_range HBg11.out) Tryz.underlying24 rfl (by rw [size_form]; rfl)) ?_
                    simp only [Act.put, zzA, zz0, zz1]
                    refine wR (v := strV (f.2.drop 2)) rfl (exec_move rfl rfl) ?_
                    simp only [Act.put, zzA, zz0, zz1]
                    have hP := rput_ok (w := w11) (cap := c') HC.out (bs_still HB6.out (HT10.out.next HT11.out)) HZ6.out (by have := HN6.out; omega) (by rw [HSX.out]; have := HTF.out; rw [List.length_drop]; omega)
                    rw [HSX.out] at hP
                    refine wpList_op rfl fun K9 HK9 => ?_
                    go_wp2_with fail
                    refine (hP).mono ?_
                    rintro e w12 ⟨A7, n7, c7, rfl, hox, htx⟩
                    refine HK9.out _ _ ?_
                    clear HK9
                    try simp only [Act.put, zzA, zz0, zz1]
                    clear hP
                    have HON := Lib.hid (show Own w12 w8.heap.size 5 (.slice A7 n7 c7) (T ++ mapPut d fs ++ body d (fs.take (j + 1))) from by
                      rw [HSN.out, body_snoc, ← List.append_assoc, show sayPut d f = m.put (f.2.drop 2) from by unfold sayPut; rw [HM.out]; show m.put (say d f) = _; rw [HSX.out]]
                      exact own_base hox (Nat.le_trans HTR.out.size (HT10.out.next HT11.out).size))
                    have HTN := Lib.hid (((HTR.out.next HT10.out).next HT11.out).next htx)
                    clear hox htx
                    refine wR (v := .tuple #[.slice A7 n7 c7, .int .i64 0]) rfl (exec_move rfl rfl) ?_
                    simp only [Act.put, zzA, zz0, zz1]
                    refine wR (v := .slice A7 n7 c7) rfl (ix_extract rfl rfl rfl) ?_
                    simp only [Act.put, zzA, zz0, zz1]
                    refine wR (v := .int .i64 0) rfl (ix_extract rfl rfl rfl) ?_
                    simp only [Act.put, zzA, zz0, zz1]
                    refine wR (v := .slice A7 n7 c7) rfl (gx_assign rfl rfl) ?_
                    simp only [Act.put, zzA, zz0, zz1]
                    go_upto_region 28 with fail
                    refine wp_region_lit ?_
                    refine wR (v := .int .i64 (j : Int)) rfl (exec_move rfl rfl) ?_
                    simp only [Act.put, zzA, zz0, zz1]
                    refine wR (v := .int .i64 ((j + 1 : Nat) : Int)) rfl (ix_add rfl rfl rfl (by omega) (by omega)) ?_
                    simp only [Act.put, zzA, zz0, zz1]
                    refine wR (v := .int .i64 ((j + 1 : Nat) : Int)) rfl (gx_assign rfl rfl) ?_
                    simp only [Act.put, zzA, zz0, zz1]
                    go_wp2_with fail
                    go_roundg (gk - 1)
                    case measure => have := HJL.out; have := HLT.out; omega
                    case rel => exact ⟨j + 1, _, _, _, by have := HJL.out; have := HLT.out; omega, by go_num, rfl, HON.out, HTN.out⟩
                  · refine wR (v := .bool false) rfl (ix_eql rfl rfl rfl (decide_eq_false h4)) ?_
                    simp only [Act.put, zzA, zz0, zz1]
                    refine wR (v := .bool false) rfl (ix_pickT rfl rfl rfl) ?_
                    simp only [Act.put, zzA, zz0, zz1]
                    have HSX := Lib.hid (show say d f = f.2 from by rw [HSAY.out, if_neg (fun h => h4 h.2)])
                    clear h3 h4
                    obtain ⟨A6, n6, c6, hf6, hb6, hnc6, hz6⟩ := HO.out.form
                    injection hf6 with g1 g2 g3
                    subst g1 g2 g3
                    have HB6 := Lib.hid hb6
                    have HZ6 := Lib.hid hz6
                    have HN6 := Lib.hid (show n' ≤ 500 from by rw [← hb6.1]; exact HB0.out)
                    clear hb6 hnc6 hz6
                    go_upto_region 33 with fail
                    refine wp_region_lit ?_
                    refine wR (v := .slice A' n' c') rfl (exec_move rfl rfl) ?_
                    simp only [Act.put, zzA, zz0, zz1]
                    refine wR (v := .agg (fmA m)) rfl (gx_loads rfl rfl (blk_range HBg11.out) Tryz.underlying24 rfl (by rw [size_form]; rfl)) ?_
                    simp only [Act.put, zzA, zz0, zz1]
                    refine wR (v := strV f.2) rfl (exec_move rfl rfl) ?_
                    simp only [Act.put, zzA, zz0, zz1]
                    have hP := rput_ok (w := w11) (cap := c') HC.out (bs_still HB6.out (HT10.out.next HT11.out)) HZ6.out (by have := HN6.out; omega) (by rw [HSX.out]; have := HTF.out; exact this)
                    rw [HSX.out] at hP
                    refine wpList_op rfl fun K9 HK9 => ?_
                    go_wp2_with fail
                    refine (hP).mono ?_
                    rintro e w12 ⟨A7, n7, c7, rfl, hox, htx⟩
                    refine HK9.out _ _ ?_
                    clear HK9
                    try simp only [Act.put, zzA, zz0, zz1]
                    clear hP
                    have HON := Lib.hid (show Own w12 w8.heap.size 5 (.slice A7 n7 c7) (T ++ mapPut d fs ++ body d (fs.take (j + 1))) from by
                      rw [HSN.out, body_snoc, ← List.append_assoc, show sayPut d f = m.put (f.2) from by unfold sayPut; rw [HM.out]; show m.put (say d f) = _; rw [HSX.out]]
                      exact own_base hox (Nat.le_trans HTR.out.size (HT10.out.next HT11.out).size))
                    have HTN := Lib.hid (((HTR.out.next HT10.out).next HT11.out).next htx)
                    clear hox htx
                    refine wR (v := .tuple #[.slice A7 n7 c7, .int .i64 0]) rfl (exec_move rfl rfl) ?_
                    simp only [Act.put, zzA, zz0, zz1]
                    refine wR (v := .slice A7 n7 c7) rfl (ix_extract rfl rfl rfl) ?_
                    simp only [Act.put, zzA, zz0, zz1]
                    refine wR (v := .int .i64 0) rfl (ix_extract rfl rfl rfl) ?_
                    simp only [Act.put, zzA, zz0, zz1]
                    refine wR (v := .slice A7 n7 c7) rfl (gx_assign rfl rfl) ?_
                    simp only [Act.put, zzA, zz0, zz1]
                    go_upto_region 28 with fail
                    refine wp_region_lit ?_
                    refine wR (v := .int .i64 (j : Int)) rfl (exec_move rfl rfl) ?_
                    simp only [Act.put, zzA, zz0, zz1]
                    refine wR (v := .int .i64 ((j + 1 : Nat) : Int)) rfl (ix_add rfl rfl rfl (by omega) (by omega)) ?_
                    simp only [Act.put, zzA, zz0, zz1]
                    refine wR (v := .int .i64 ((j + 1 : Nat) : Int)) rfl (gx_assign rfl rfl) ?_
                    simp only [Act.put, zzA, zz0, zz1]
                    go_wp2_with fail
                    go_roundg (gk - 1)
                    case measure => have := HJL.out; have := HLT.out; omega
                    case rel => exact ⟨j + 1, _, _, _, by have := HJL.out; have := HLT.out; omega, by go_num, rfl, HON.out, HTN.out⟩
                · refine wR (v := .bool false) rfl (ix_eql rfl rfl rfl (decide_eq_false h3)) ?_
                  simp only [Act.put, zzA, zz0, zz1]
                  have H3 := Lib.hid h3
                  clear h3
                  have HSX := Lib.hid (show say d f = f.2 from by rw [HSAY.out, if_neg (fun h => H3.out (by omega))])
                  clear H3
                  obtain ⟨A6, n6, c6, hf6, hb6, hnc6, hz6⟩ := HO.out.form
                  injection hf6 with g1 g2 g3
                  subst g1 g2 g3
                  have HB6 := Lib.hid hb6
                  have HZ6 := Lib.hid hz6
                  have HN6 := Lib.hid (show n' ≤ 500 from by rw [← hb6.1]; exact HB0.out)
                  clear hb6 hnc6 hz6
                  go_upto_region 33 with fail
                  refine wp_region_lit ?_
                  refine wR (v := .slice A' n' c') rfl (exec_move rfl rfl) ?_
                  simp only [Act.put, zzA, zz0, zz1]
                  refine wR (v := .agg (fmA m)) rfl (gx_loads rfl rfl (blk_range HBg11.out) Tryz.underlying24 rfl (by rw [size_form]; rfl)) ?_
                  simp only [Act.put, zzA, zz0, zz1]
                  refine wR (v := strV f.2) rfl (exec_move rfl rfl) ?_
                  simp only [Act.put, zzA, zz0, zz1]
                  have hP := rput_ok (w := w11) (cap := c') HC.out (bs_still HB6.out (HT10.out.next HT11.out)) HZ6.out (by have := HN6.out; omega) (by rw [HSX.out]; have := HTF.out; exact this)
                  rw [HSX.out] at hP
                  refine wpList_op rfl fun K9 HK9 => ?_
                  go_wp2_with fail
                  refine (hP).mono ?_
                  rintro e w12 ⟨A7, n7, c7, rfl, hox, htx⟩
                  refine HK9.out _ _ ?_
                  clear HK9
                  try simp only [Act.put, zzA, zz0, zz1]
                  clear hP
                  have HON := Lib.hid (show Own w12 w8.heap.size 5 (.slice A7 n7 c7) (T ++ mapPut d fs ++ body d (fs.take (j + 1))) from by
                    rw [HSN.out, body_snoc, ← List.append_assoc, show sayPut d f = m.put (f.2) from by unfold sayPut; rw [HM.out]; show m.put (say d f) = _; rw [HSX.out]]
                    exact own_base hox (Nat.le_trans HTR.out.size (HT10.out.next HT11.out).size))
                  have HTN := Lib.hid (((HTR.out.next HT10.out).next HT11.out).next htx)
                  clear hox htx
                  refine wR (v := .tuple #[.slice A7 n7 c7, .int .i64 0]) rfl (exec_move rfl rfl) ?_
                  simp only [Act.put, zzA, zz0, zz1]
                  refine wR (v := .slice A7 n7 c7) rfl (ix_extract rfl rfl rfl) ?_
                  simp only [Act.put, zzA, zz0, zz1]
                  refine wR (v := .int .i64 0) rfl (ix_extract rfl rfl rfl) ?_
                  simp only [Act.put, zzA, zz0, zz1]
                  refine wR (v := .slice A7 n7 c7) rfl (gx_assign rfl rfl) ?_
                  simp only [Act.put, zzA, zz0, zz1]
                  go_upto_region 28 with fail
                  refine wp_region_lit ?_
                  refine wR (v := .int .i64 (j : Int)) rfl (exec_move rfl rfl) ?_
                  simp only [Act.put, zzA, zz0, zz1]
                  refine wR (v := .int .i64 ((j + 1 : Nat) : Int)) rfl (ix_add rfl rfl rfl (by omega) (by omega)) ?_
                  simp only [Act.put, zzA, zz0, zz1]
                  refine wR (v := .int .i64 ((j + 1 : Nat) : Int)) rfl (gx_assign rfl rfl) ?_
                  simp only [Act.put, zzA, zz0, zz1]
                  go_wp2_with fail
                  go_roundg (gk - 1)
                  case measure => have := HJL.out; have := HLT.out; omega
                  case rel => exact ⟨j + 1, _, _, _, by have := HJL.out; have := HLT.out; omega, by go_num, rfl, HON.out, HTN.out⟩
              · refine wR (v := .bool false) rfl (ix_lss rfl rfl rfl (decide_eq_false (by omega))) ?_
                simp only [Act.put, zzA, zz0, zz1]
                have HOW := Lib.hid (show Own wr w8.heap.size 5 (.slice A' n' c') (wire d ty fs) from by
                  have h1 := HO.out
                  rw [List.take_of_length_le (by rw [HNL.out]; omega), ← HWI.out] at h1
                  exact h1)
                clear hlt
                go_upto_region 34 with fail
                refine wp_region_lit ?_
                refine wR (v := .slice A' n' c') rfl (exec_move rfl rfl) ?_
                simp only [Act.put, zzA, zz0, zz1]
                refine wR (v := .slice A' n' c') rfl (gx_assign rfl rfl) ?_
                simp only [Act.put, zzA, zz0, zz1]
                refine wR (v := .int .i64 0) rfl (gx_assign rfl rfl) ?_
                simp only [Act.put, zzA, zz0, zz1]
                go_wp2_with fail
                go_ret2
                rw [show mencode (d : Int) ty fs = .ok (wire d ty fs) from HENC.out]
                exact ⟨_, _, _, rfl, own_base HOW.out ((((((HT0.out.next HT2.out).next HTL.out).next HTD.out).next HT7.out).next HT8.out)).size, ((((((HT0.out.next HT2.out).next HTL.out).next HTD.out).next HT7.out).next HT8.out).next HTR.out)⟩
          | false =>
            have hall : fs.take j = fs := List.take_of_length_le (by rw [HNL.out]; omega)
            have hlb := HLB.out
            have hb6 := HB6.out
            have ham := HAM.out
            rw [hall] at hlb hb6 ham
            have HENC := Lib.hid (HREF.out.1 ham)
            have HSAID := Lib.hid ((mencode_ok.1 (HREF.out.1 ham)).2.1.2.2.2)
            have HWL := Lib.hid (wire_len HD.out (show Wr d ty fs from by
              have h := (mencode_ok.1 (HREF.out.1 ham)).2.1
              rwa [Int.toNat_natCast] at h))
            have HB9 := Lib.hid hb6
            have HFA := Lib.hid hlb
            clear hall hlb hb6 ham hlt HLB HB6 HAM HJL
            have HBM9 := Lib.hid (HBgm.out.turn (HT2.out.next HTR.out) (fun e => e))
            go_upto_region 16 with fail
            refine wp_region_lit ?_
            refine wR (v := .bool false) rfl (exec_move rfl rfl) ?_
            simp only [Act.put, zzA, zz0, zz1]
            have HH2 := Lib.hid (show half2 fs = 0 from Classical.byContradiction fun h => by
              have h1 := (far_half HNO.out).2 h
              rw [← HFA.out] at h1
              cases h1)
            go_upto_region 18 with fail
            refine wp_region_lit ?_
            refine wR (v := .slice (some ⟨gb, 0, none⟩) 16 16) rfl (exec_move rfl rfl) ?_
            simp only [Act.put, zzA, zz0, zz1]
            refine wR (v := .slice (some ⟨gb, 0, none⟩) 8 16) rfl (exec_slice rfl rfl rfl rfl rfl (slice_to_any (some ⟨gb, 0, none⟩) 16 16 8 (by decide) (by decide) _)) ?_
            simp only [Act.put, zzA, zz0, zz1]
            refine wR (v := .slice (some ⟨gb, 0, none⟩) 8 16) rfl (gx_assign rfl rfl) ?_
            simp only [Act.put, zzA, zz0, zz1]
            have HBX := Lib.hid HB9.out
            have HTL := Lib.hid HTR.out
            have HBM := Lib.hid HBM9.out
            have HXT := Lib.hid (bits_near HH2.out)
            have HXL := Lib.hid (B16_len fs)
            have HXM := Lib.hid (show (bitsL fs).length = 8 from by unfold bitsL; rw [if_pos HH2.out, be_len])
            generalize wr = w5 at *
            clear HTR HB9 HBM9 HFA HREF
            obtain ⟨T, hT⟩ : ∃ T, T = (typeFm d).put (ver d ++ dig3 ty.toNat) := ⟨_, rfl⟩
            have HTT := Lib.hid hT
            have HPL := Lib.hid (show ∀ k, (T ++ mapB d ((bitsL fs).take k)).length ≤ 500 from fun k => by
              have h1 := HWL.out
              unfold wire at h1
              rw [← HTT.out, mapPut_bits HD.out, ← List.take_append_drop k (bitsL fs), mapB_append] at h1
              simp only [List.length_append] at h1 ⊢
              omega)
            have HBL := Lib.hid (show ∀ k, (T ++ mapPut d fs ++ body d (fs.take k)).length ≤ 500 from fun k => by
              have h1 := HWL.out
              have h2 := body_take_le d fs k
              unfold wire at h1
              rw [← HTT.out] at h1
              simp only [List.length_append] at h1 ⊢
              omega)
            have HWI := Lib.hid (show wire d ty fs = T ++ mapPut d fs ++ body d fs from by
              unfold wire
              rw [← HTT.out, List.append_assoc])
            clear hT
            go_upto_region 19 with fail
            have hS0 : Blk w5.drew gm 31 #[.int .i64 ty, .slice A n c] := HBM.out.drew
            have HTD := Lib.hid (Turn.drew (Turn.refl nowhere w5))
            refine wp_region_alw (fun W => Blk W gm 31 #[.int .i64 ty, .slice A n c]) (by kernel_rfl) ?_
            generalize w5.drew = w6 at *
            refine alw_take (i := 0) (v := .int .i64 (d : Int)) rfl (by kernel_rfl) (by kernel_rfl) (fun _ _ _ h => h) (.inl ⟨by rfl, fun W hW => exec_move rfl rfl⟩) hS0 ?_
            simp only [Act.put, zzA, zz0, zz1]
            refine alw_take (i := 2) (v := .int .i64 (d : Int)) rfl (by kernel_rfl) (by kernel_rfl) (fun _ _ _ h => h) (.inl ⟨by rfl, fun W hW => exec_move rfl rfl⟩) hS0 ?_
            simp only [Act.put, zzA, zz0, zz1]
            refine alw_take (i := 3) (v := .pointer (some ⟨gm, 0, none⟩)) rfl (by kernel_rfl) (by kernel_rfl) (fun _ _ _ h => h) (.inl ⟨by rfl, fun W hW => exec_field (off := 0) (d := 0) rfl rfl (by kernel_rfl)⟩) hS0 ?_
            simp only [Act.put, zzA, zz0, zz1]
            refine alw_take (i := 4) (v := .int .i64 ty) rfl (by kernel_rfl) (by kernel_rfl) (fun _ _ _ h => h) (.inl ⟨by rfl, fun W hW => exec_load1 rfl rfl (by kernel_rfl) (hW.cell 0)⟩) hS0 ?_
            simp only [Act.put, zzA, zz0, zz1]
            refine alw_step (i := 1) (by kernel_rfl) rfl rfl ?_
            intro K1 HK1
            go_wp2_with fail
            refine (number_walk (w := w6) (dd := (d : Int)) (sz := 4)).mono ?_
            rintro e w7 ⟨rfl, ht7⟩
            have hS1 := hS0.turn ht7 (fun e => e)
            refine HK1.out _ _ ⟨hS1, ?_⟩
            have HT7 := Lib.hid ht7
            clear HK1 hS0 ht7
            try simp only [Act.put, zzA, zz0, zz1]
            have hH := head_ty (w := w7) HD.out HTY.out
            refine alw_step (i := 5) (by kernel_rfl) rfl rfl ?_
            intro K1 HK1
            go_wp2_with fail
            refine hH.mono ?_
            rintro e w8 ⟨rfl, ht8⟩
            have hS2 := hS1.turn ht8 (fun e => e)
            refine HK1.out _ _ ⟨hS2, ?_⟩
            have HT8 := Lib.hid ht8
            clear HK1 hS1 ht8 hH
            try simp only [Act.put, zzA, zz0, zz1]
            have hP := put_type (w := w8) HD.out HTY.out
            rw [← HTT.out] at hP
            refine alw_step (i := 6) (by kernel_rfl) rfl rfl ?_
            intro K1 HK1
            go_wp2_with fail
            refine hP.mono ?_
            rintro e w9 ⟨A9, n9, c9, rfl, ho9, ht9⟩
            have hS3 := hS2.turn ht9 (fun e => e)
            refine HK1.out _ _ ⟨hS3, ?_⟩
            have HT9 := Lib.hid ht9
            have HO9 := Lib.hid ho9
            clear HK1 hS2 ht9 ho9 hP
            try simp only [Act.put, zzA, zz0, zz1]
            refine alw_take (i := 7) (v := .tuple #[.slice A9 n9 c9, .int .i64 0]) rfl (by kernel_rfl) (by kernel_rfl) (fun _ _ _ h => h) (.inl ⟨by rfl, fun W hW => exec_move rfl rfl⟩) hS3 ?_
            simp only [Act.put, zzA, zz0, zz1]
            refine alw_take (i := 8) (v := .slice A9 n9 c9) rfl (by kernel_rfl) (by kernel_rfl) (fun _ _ _ h => h) (.inl ⟨by rfl, fun W hW => ix_extract rfl rfl rfl⟩) hS3 ?_
            simp only [Act.put, zzA, zz0, zz1]
            refine alw_take (i := 9) (v := .int .i64 0) rfl (by kernel_rfl) (by kernel_rfl) (fun _ _ _ h => h) (.inl ⟨by rfl, fun W hW => ix_extract rfl rfl rfl⟩) hS3 ?_
            simp only [Act.put, zzA, zz0, zz1]
            refine alw_take (i := 10) (v := .slice A9 n9 c9) rfl (by kernel_rfl) (by kernel_rfl) (fun _ _ _ h => h) (.inl ⟨by rfl, fun W hW => gx_assign rfl rfl⟩) hS3 ?_
            simp only [Act.put, zzA, zz0, zz1]
            refine alw_take (i := 11) (v := .int .i64 0) rfl (by kernel_rfl) (by kernel_rfl) (fun _ _ _ h => h) (.inl ⟨by rfl, fun W hW => gx_assign rfl rfl⟩) hS3 ?_
            simp only [Act.put, zzA, zz0, zz1]
            refine alw_done rfl ?_
            clear hS3
            refine NoPanic.normal ?_
            have HGP := Lib.hid (show gb < w8.heap.size from by
              have h1 := HBX.out.lt
              have h2 := HTD.out.size
              have h3 := HT7.out.size
              have h4 := HT8.out.size
              omega)
            have HBX8 := Lib.hid (HBX.out.turn ((HTD.out.next HT7.out).next HT8.out) (fun e => e))
            go_upto_region 20 with fail
            refine wp_region_lit ?_
            refine wR (v := .int .i64 0) rfl (gx_assign rfl rfl) ?_
            simp only [Act.put, zzA, zz0, zz1]
            go_wp2_with fail
            go_loopg [11, 13] 8 (fun gk bv jv wr => ∃ (k : Nat) (A' : Option Addr) (n' c' : Nat), k + gk = 8 ∧ jv = .int .i64 (k : Int) ∧ bv = .slice A' n' c' ∧ Own wr w8.heap.size 5 (.slice A' n' c') (T ++ mapB d ((bitsL fs).take k)) ∧ Turn nowhere w8 wr)
            case atStart => exact ⟨0, _, _, _, by omega, rfl, rfl, by rw [List.take_zero, show mapB d [] = [] from by unfold mapB; split <;> rfl, List.append_nil]; exact HO9.out, HT9.out⟩
            obtain ⟨k, A', n', c', hkl, rfl, rfl, ho, htr⟩ := hrel
            have HKL := Lib.hid hkl
            have HO := Lib.hid ho
            have HTR := Lib.hid htr
            clear hkl ho htr
            go_upto_region 21 with fail
            refine wp_region_lit ?_
            refine wR (v := .int .i64 (k : Int)) rfl (exec_move rfl rfl) ?_
            simp only [Act.put, zzA, zz0, zz1]
            refine wR (v := .slice (some ⟨gb, 0, none⟩) 8 16) rfl (exec_move rfl rfl) ?_
            simp only [Act.put, zzA, zz0, zz1]
            refine wR (v := .int .i64 8) rfl (gx_len rfl rfl Tryz.underlying32) ?_
            simp only [Act.put, zzA, zz0, zz1]
            by_cases hk : k < 8
            · refine wR (v := .bool true) rfl (ix_lss rfl rfl rfl (decide_eq_true (by omega))) ?_
              simp only [Act.put, zzA, zz0, zz1]
              have HK := Lib.hid hk
              have y4 : (k : Int) < 8 := by omega
              obtain ⟨x, hx⟩ : ∃ x, x = (B16 fs).getD k 0 := ⟨_, rfl⟩
              have HX := Lib.hid hx
              have HBK := Lib.hid (HBX8.out.turn HTR.out (fun e => e))
              have HMB := Lib.hid (show (bitsL fs).take (k + 1) = (bitsL fs).take k ++ [x] from by
                have h1 : (bitsL fs)[k]? = some x := by
                  rw [← HXT.out, List.getElem?_take, if_pos hk, hx, List.getD, List.getElem?_eq_getElem (by rw [HXL.out]; omega)]
                  rfl
                rw [List.take_add_one, h1]
                rfl)
              have hP0 := HPL.out k
              clear hk hx
              go_upto_region 23 with fail
              refine wp_region_lit ?_
              refine wR (v := .int .i64 (d : Int)) rfl (exec_move rfl rfl) ?_
              simp only [Act.put, zzA, zz0, zz1]
              by_cases h1 : (d : Int) = 1
              · refine wR (v := .bool true) rfl (ix_eql rfl rfl rfl (decide_eq_true h1)) ?_
                simp only [Act.put, zzA, zz0, zz1]
                have HD1 := Lib.hid (show d = 1 by omega)
                clear h1
                go_upto_region 24 with fail
                have hS0 : Blk wr.drew gb 5 (bcs (B16 fs)).toArray := HBK.out.drew
                have HOd := Lib.hid (HO.out.drew)
                have HTd := Lib.hid (HTR.out.drew)
                refine wp_region_alw (fun W => Blk W gb 5 (bcs (B16 fs)).toArray) (by kernel_rfl) ?_
                generalize wr.drew = wa at *
                refine alw_take (i := 0) (v := .slice A' n' c') rfl (by kernel_rfl) (by kernel_rfl) (fun _ _ _ h => h) (.inl ⟨by rfl, fun W hW => exec_move rfl rfl⟩) hS0 ?_
                simp only [Act.put, zzA, zz0, zz1]
                refine alw_take (i := 1) (v := .slice (some ⟨gb, 0, none⟩) 8 16) rfl (by kernel_rfl) (by kernel_rfl) (fun _ _ _ h => h) (.inl ⟨by rfl, fun W hW => exec_move rfl rfl⟩) hS0 ?_
                simp only [Act.put, zzA, zz0, zz1]
                refine alw_take (i := 2) (v := .int .i64 (k : Int)) rfl (by kernel_rfl) (by kernel_rfl) (fun _ _ _ h => h) (.inl ⟨by rfl, fun W hW => exec_move rfl rfl⟩) hS0 ?_
                simp only [Act.put, zzA, zz0, zz1]
                refine alw_take (i := 3) (v := .pointer (some ⟨gb, k, none⟩)) rfl (by kernel_rfl) (by kernel_rfl) (fun _ _ _ h => h) (.inl ⟨by rfl, fun W hW => gx_iaddr (i := k) (sz := 1) rfl rfl rfl Tryz.underlying32 size_byte1 (by have := HK.out; omega) (by omega)⟩) hS0 ?_
                simp only [Act.put, zzA, zz0, zz1]
                refine alw_take (i := 4) (v := .int .u8 (x.toNat : Int)) rfl (by kernel_rfl) (by kernel_rfl) (fun _ _ _ h => h) (.inl ⟨by rfl, fun W hW => exec_load1 rfl rfl (by kernel_rfl) (by rw [HX.out]; exact blk_byte hW (by rw [HXL.out]; have := HK.out; omega))⟩) hS0 ?_
                simp only [Act.put, zzA, zz0, zz1]
                refine alw_take (i := 5) (v := .int .u8 ((x.toNat / 16 : Nat) : Int)) rfl (by kernel_rfl) (by kernel_rfl) (fun _ _ _ h => h) (.inl ⟨by rfl, fun W hW => b8_quo rfl rfl (UInt8.toNat_lt _)⟩) hS0 ?_
                simp only [Act.put, zzA, zz0, zz1]
                refine alw_take (i := 6) (v := .int .u8 ((hexU.getD (x.toNat / 16) 0).toNat : Int)) rfl (by kernel_rfl) (by kernel_rfl) (fun _ _ _ h => h) (.inl ⟨by rfl, fun W hW => exec_sidx (l := hexU) (i := x.toNat / 16) rfl rfl rfl (by have := UInt8.toNat_lt x; show x.toNat / 16 < 16; omega)⟩) hS0 ?_
                simp only [Act.put, zzA, zz0, zz1]
                refine alw_take (i := 7) (v := .slice (some ⟨gb, 0, none⟩) 8 16) rfl (by kernel_rfl) (by kernel_rfl) (fun _ _ _ h => h) (.inl ⟨by rfl, fun W hW => exec_move rfl rfl⟩) hS0 ?_
                simp only [Act.put, zzA, zz0, zz1]
                refine alw_take (i := 8) (v := .int .i64 (k : Int)) rfl (by kernel_rfl) (by kernel_rfl) (fun _ _ _ h => h) (.inl ⟨by rfl, fun W hW => exec_move rfl rfl⟩) hS0 ?_
                simp only [Act.put, zzA, zz0, zz1]
                refine alw_take (i := 9) (v := .pointer (some ⟨gb, k, none⟩)) rfl (by kernel_rfl) (by kernel_rfl) (fun _ _ _ h => h) (.inl ⟨by rfl, fun W hW => gx_iaddr (i := k) (sz := 1) rfl rfl rfl Tryz.underlying32 size_byte1 (by have := HK.out; omega) (by omega)⟩) hS0 ?_
                simp only [Act.put, zzA, zz0, zz1]
                refine alw_take (i := 10) (v := .int .u8 (x.toNat : Int)) rfl (by kernel_rfl) (by kernel_rfl) (fun _ _ _ h => h) (.inl ⟨by rfl, fun W hW => exec_load1 rfl rfl (by kernel_rfl) (by rw [HX.out]; exact blk_byte hW (by rw [HXL.out]; have := HK.out; omega))⟩) hS0 ?_
                simp only [Act.put, zzA, zz0, zz1]
                refine alw_take (i := 11) (v := .int .u8 ((x.toNat % 16 : Nat) : Int)) rfl (by kernel_rfl) (by kernel_rfl) (fun _ _ _ h => h) (.inl ⟨by rfl, fun W hW => b8_rem rfl rfl⟩) hS0 ?_
                simp only [Act.put, zzA, zz0, zz1]
                refine alw_take (i := 12) (v := .int .u8 ((hexU.getD (x.toNat % 16) 0).toNat : Int)) rfl (by kernel_rfl) (by kernel_rfl) (fun _ _ _ h => h) (.inl ⟨by rfl, fun W hW => exec_sidx (l := hexU) (i := x.toNat % 16) rfl rfl rfl (by show x.toNat % 16 < 16; omega)⟩) hS0 ?_
                simp only [Act.put, zzA, zz0, zz1]
                have hu2 := (Turn.refl nowhere wa).alloc (.cells (bcs [hexU.getD (x.toNat / 16) 0, hexU.getD (x.toNat % 16) 0]).toArray 5)
                have hs2 := bs_blk (Blk.new wa 5 (bcs [hexU.getD (x.toNat / 16) 0, hexU.getD (x.toNat % 16) 0]).toArray) (n := 2) rfl (by unfold maxLen; omega)
                have ho2 := own_still HOd.out hu2
                have hS1 := hS0.turn hu2 (fun e => e)
                refine alw_step (i := 13) (by kernel_rfl) rfl rfl ?_
                intro K1 HK1
                refine wp_run (exec_two rfl rfl rfl) ?_
                refine HK1.out _ _ ⟨hS1, ?_⟩
                clear HK1 hS0
                obtain ⟨g2, hg2⟩ : ∃ g, g = wa.heap.size := ⟨_, rfl⟩
                rw [← hg2] at hs2 ⊢
                clear hg2
                generalize wa.alloc (.cells (bcs [hexU.getD (x.toNat / 16) 0, hexU.getD (x.toNat % 16) 0]).toArray 5) = wb at *
                try simp only [Act.put, zzA, zz0, zz1]
                refine alw_step (i := 14) (by kernel_rfl) rfl rfl ?_
                intro K1 HK1
                refine wp_append_bytes wb _ _ _ rfl w8.heap.size 5 byteInfo Tryz.underlying32 _ _ rfl ho2 _ 2 2 [hexU.getD (x.toNat / 16) 0, hexU.getD (x.toNat % 16) 0] rfl hs2 (fun h => by cases h) (by omega) (Nat.le_trans HTd.out.size hu2.size) ?_
                intro v5 w10 ho5 hb5
                obtain ⟨A5, n5, c5, rfl, _⟩ := ho5.form
                have hS2 : Blk w10 gb 5 (bcs (B16 fs)).toArray := (hb5.block gb HGP.out).trans hS1
                refine HK1.out _ _ ⟨hS2, ?_⟩
                clear HK1 hS1
                try simp only [Act.put, zzA, zz0, zz1]
                have HON := Lib.hid (show Own w10 w8.heap.size 5 (.slice A5 n5 c5) (T ++ mapB d ((bitsL fs).take (k + 1))) from by
                  rw [HMB.out, mapB_append, ← List.append_assoc, show mapB d [x] = [hexU.getD (x.toNat / 16) 0, hexU.getD (x.toNat % 16) 0] from by unfold mapB; rw [if_pos HD1.out]; rfl]
                  exact ho5)
                have HTN := Lib.hid (Turn.of_below (((HTd.out.next hu2).below (Nat.le_refl _) (fun _ _ e=>e)).trans hb5) (Nat.le_refl _))
                clear ho5 hb5 ho2 hs2 hu2
                refine alw_take (i := 15) (v := .slice A5 n5 c5) rfl (by kernel_rfl) (by kernel_rfl) (fun _ _ _ h => h) (.inl ⟨by rfl, fun W hW => gx_assign rfl rfl⟩) hS2 ?_
                simp only [Act.put, zzA, zz0, zz1]
                refine alw_done rfl ?_
                clear hS2
                refine NoPanic.normal ?_
                go_upto_region 22 with fail
                refine wp_region_lit ?_
                refine wR (v := .int .i64 (k : Int)) rfl (exec_move rfl rfl) ?_
                simp only [Act.put, zzA, zz0, zz1]
                refine wR (v := .int .i64 ((k + 1 : Nat) : Int)) rfl (ix_add rfl rfl rfl (by omega) (by omega)) ?_
                simp only [Act.put, zzA, zz0, zz1]
                refine wR (v := .int .i64 ((k + 1 : Nat) : Int)) rfl (gx_assign rfl rfl) ?_
                simp only [Act.put, zzA, zz0, zz1]
                go_wp2_with fail
                go_roundg (gk - 1)
                case measure => have := HKL.out; have := HK.out; omega
                case rel => exact ⟨k + 1, _, _, _, by have := HKL.out; have := HK.out; omega, by go_num, rfl, HON.out, HTN.out⟩
              · refine wR (v := .bool false) rfl (ix_eql rfl rfl rfl (decide_eq_false h1)) ?_
                simp only [Act.put, zzA, zz0, zz1]
                have HD1 := Lib.hid (show ¬ d = 1 by omega)
                clear h1
                go_upto_region 25 with fail
                refine wp_region_lit ?_
                refine wR (v := .slice A' n' c') rfl (exec_move rfl rfl) ?_
                simp only [Act.put, zzA, zz0, zz1]
                refine wR (v := .slice (some ⟨gb, 0, none⟩) 8 16) rfl (exec_move rfl rfl) ?_
                simp only [Act.put, zzA, zz0, zz1]
                refine wR (v := .int .i64 (k : Int)) rfl (exec_move rfl rfl) ?_
                simp only [Act.put, zzA, zz0, zz1]
                refine wR (v := .pointer (some ⟨gb, k, none⟩)) rfl (gx_iaddr (i := k) (sz := 1) rfl rfl rfl Tryz.underlying32 size_byte1 (by have := HK.out; omega) (by omega)) ?_
                simp only [Act.put, zzA, zz0, zz1]
                refine wR (v := .int .u8 (x.toNat : Int)) rfl (exec_load1 rfl rfl (by kernel_rfl) (by rw [HX.out]; exact blk_byte HBK.out (by rw [HXL.out]; have := HK.out; omega))) ?_
                simp only [Act.put, zzA, zz0, zz1]
                refine wR (v := .slice (some ⟨wr.heap.size, 0, none⟩) 1 1) (w' := wr.alloc (.cells (bcs [x]).toArray 5)) rfl (exec_one (z := x) rfl rfl) ?_
                simp only [Act.put, zzA, zz0, zz1]
                have hu2 := (Turn.refl nowhere wr).alloc (.cells (bcs [x]).toArray 5)
                have hs2 := bs_blk (Blk.new wr 5 (bcs [x]).toArray) (n := 1) rfl (by unfold maxLen; omega)
                have ho2 := own_still HO.out hu2
                obtain ⟨g2, hg2⟩ : ∃ g, g = wr.heap.size := ⟨_, rfl⟩
                rw [← hg2] at hs2 ⊢
                clear hg2
                generalize wr.alloc (.cells (bcs [x]).toArray 5) = wb at *
                refine wpList_append_bytes wb rfl _ _ _ rfl w8.heap.size 5 byteInfo Tryz.underlying32 _ _ rfl ho2 _ 1 1 [x] rfl hs2 (fun h => by cases h) (by omega) (Nat.le_trans HTR.out.size hu2.size) ?_
                intro v5 w10 ho5 hb5
                obtain ⟨A5, n5, c5, rfl, _⟩ := ho5.form
                simp only [Act.put, zzA, zz0, zz1]
                have HON := Lib.hid (show Own w10 w8.heap.size 5 (.slice A5 n5 c5) (T ++ mapB d ((bitsL fs).take (k + 1))) from by
                  rw [HMB.out, mapB_append, ← List.append_assoc, show mapB d [x] = [x] from by unfold mapB; rw [if_neg HD1.out]]
                  exact ho5)
                have HTN := Lib.hid (Turn.of_below (((HTR.out.next hu2).below (Nat.le_refl _) (fun _ _ e=>e)).trans hb5) (Nat.le_refl _))
                clear ho5 hb5 ho2 hs2 hu2
                refine wR (v := .slice A5 n5 c5) rfl (gx_assign rfl rfl) ?_
                simp only [Act.put, zzA, zz0, zz1]
                go_upto_region 22 with fail
                refine wp_region_lit ?_
                refine wR (v := .int .i64 (k : Int)) rfl (exec_move rfl rfl) ?_
                simp only [Act.put, zzA, zz0, zz1]
                refine wR (v := .int .i64 ((k + 1 : Nat) : Int)) rfl (ix_add rfl rfl rfl (by omega) (by omega)) ?_
                simp only [Act.put, zzA, zz0, zz1]
                refine wR (v := .int .i64 ((k + 1 : Nat) : Int)) rfl (gx_assign rfl rfl) ?_
                simp only [Act.put, zzA, zz0, zz1]
                go_wp2_with fail
                go_roundg (gk - 1)
                case measure => have := HKL.out; have := HK.out; omega
                case rel => exact ⟨k + 1, _, _, _, by have := HKL.out; have := HK.out; omega, by go_num, rfl, HON.out, HTN.out⟩
            · refine wR (v := .bool false) rfl (ix_lss rfl rfl rfl (decide_eq_false (by omega))) ?_
              simp only [Act.put, zzA, zz0, zz1]
              have HOW := Lib.hid (show Own wr w8.heap.size 5 (.slice A' n' c') (T ++ mapPut d fs) from by
                have h1 := HO.out
                rw [List.take_of_length_le (by rw [HXM.out]; omega), ← mapPut_bits HD.out] at h1
                exact h1)
              have HTW := Lib.hid HTR.out
              clear hk HO HTR HKL
              go_upto_region 26 with fail
              refine wp_region_lit ?_
              refine wR (v := .int .i64 0) rfl (gx_assign rfl rfl) ?_
              simp only [Act.put, zzA, zz0, zz1]
              go_wp2_with fail
              go_loopg [11, 14] n (fun gk bv jv wq => ∃ (j : Nat) (A' : Option Addr) (n' c' : Nat), j + gk = n ∧ jv = .int .i64 (j : Int) ∧ bv = .slice A' n' c' ∧ Own wq w8.heap.size 5 (.slice A' n' c') (T ++ mapPut d fs ++ body d (fs.take j)) ∧ Turn nowhere w8 wq)
              case atStart => exact ⟨0, _, _, _, by omega, rfl, rfl, by rw [List.take_zero, show body d [] = [] from rfl, List.append_nil]; exact HOW.out, HTW.out⟩
              clear HOW HTW
              obtain ⟨j, A', n', c', hjl, rfl, rfl, ho, htr⟩ := hrel
              have HJL := Lib.hid hjl
              have HO := Lib.hid ho
              have HTR := Lib.hid htr
              clear hjl ho htr
              have HB2 := Lib.hid ((HBgm.out.turn (((((HT2.out.next HTL.out).next HTD.out).next HT7.out).next HT8.out).next HTR.out) (fun e => e)))
              go_upto_region 27 with fail
              refine wp_region_lit ?_
              refine wR (v := .int .i64 (j : Int)) rfl (exec_move rfl rfl) ?_
              simp only [Act.put, zzA, zz0, zz1]
              refine wR (v := .pointer (some ⟨gm, 1, none⟩)) rfl (exec_field (off := 0) (d := 1) rfl rfl (by kernel_rfl)) ?_
              simp only [Act.put, zzA, zz0, zz1]
              refine wR (v := .slice A n c) rfl (exec_load1 rfl rfl (by kernel_rfl) (HB2.out.cell 1)) ?_
              simp only [Act.put, zzA, zz0, zz1]
              refine wR (v := .int .i64 (n : Int)) rfl (gx_len rfl rfl Tryz.underlying29) ?_
              simp only [Act.put, zzA, zz0, zz1]
              by_cases hlt : j < n
              · have HLT := Lib.hid hlt
                have y1 : (j : Int) < (n : Int) := by omega
                obtain ⟨bF, oF, rfl, hr⟩ := (HF.out.still ((((((HT0.out.next HT2.out).next HTL.out).next HTD.out).next HT7.out).next HT8.out).next HTR.out)).2.2 (by omega)
                obtain ⟨f, hf⟩ : ∃ f, fs[j]? = some f := ⟨_, List.getElem?_eq_getElem (show j < fs.length from by rw [HNL.out]; exact hlt)⟩
                have hmem := List.mem_of_getElem? hf
                have HRR := Lib.hid (hr j f hf)
                have HSN := Lib.hid (take_snoc hf)
                have HTF := Lib.hid (HTX.out f hmem)
                have hsd := HSAID.out f hmem
                rw [Int.toNat_natCast] at hsd
                obtain ⟨m1, hm1, hc1⟩ := HGD.out.2 f hmem
                have HSAY := Lib.hid (say_amt ((said_amt HD.out hm1 hc1).1 hsd))
                obtain ⟨m, hm, hc⟩ := hsd
                have HM := Lib.hid hm
                have HC := Lib.hid hc
                have HL12 := Lib.hid (fun h4 => amt_len HGD.out hmem h4)
                have HB0 := Lib.hid (HBL.out j)
                clear hr hf hlt hmem hm1 hc1 hm hc
                refine wR (v := .bool true) rfl (ix_lss rfl rfl rfl (decide_eq_true y1)) ?_
                simp only [Act.put, zzA, zz0, zz1]
                go_upto_region 29 with fail
                refine wp_region_lit ?_
                refine wR (v := .int .i64 (d : Int)) rfl (exec_move rfl rfl) ?_
                simp only [Act.put, zzA, zz0, zz1]
                refine wR (v := .pointer (some ⟨gm, 1, none⟩)) rfl (exec_field (off := 0) (d := 1) rfl rfl (by kernel_rfl)) ?_
                simp only [Act.put, zzA, zz0, zz1]
                refine wR (v := .slice (some ⟨bF, oF, none⟩) n c) rfl (exec_load1 rfl rfl (by kernel_rfl) (HB2.out.cell 1)) ?_
                simp only [Act.put, zzA, zz0, zz1]
                refine wR (v := .int .i64 (j : Int)) rfl (exec_move rfl rfl) ?_
                simp only [Act.put, zzA, zz0, zz1]
                refine wR (v := .pointer (some ⟨bF, oF + j * 2, none⟩)) rfl (gx_iaddr (i := j) (sz := 2) rfl rfl rfl Tryz.underlying29 size_field HLT.out (by omega)) ?_
                simp only [Act.put, zzA, zz0, zz1]
                refine wR (v := .pointer (some ⟨bF, oF + j * 2, none⟩)) rfl (exec_field (off := oF + j * 2) (d := 0) rfl rfl (by kernel_rfl)) ?_
                simp only [Act.put, zzA, zz0, zz1]
                refine wR (v := .int .i64 f.1) rfl (exec_load1 rfl rfl (by kernel_rfl) (HRR.out 0 _ rfl)) ?_
                simp only [Act.put, zzA, zz0, zz1]
                have hFm := rForm_walk (w := wr) (dd := (d : Int)) (no := f.1)
                rw [show formE (d : Int) f.1 = (m, 0) from by
                  unfold formE
                  rw [if_pos HDI.out, Int.toNat_natCast, HM.out]] at hFm
                refine wpList_op rfl fun K9 HK9 => ?_
                go_wp2_with fail
                refine (hFm).mono ?_
                rintro e w10 ⟨rfl, htx⟩
                refine HK9.out _ _ ?_
                clear HK9
                try simp only [Act.put, zzA, zz0, zz1]
                clear hFm
                have HT10 := Lib.hid htx
                clear htx
                refine wR (v := .tuple #[.agg (fmA m), .int .i64 0]) rfl (exec_move rfl rfl) ?_
                simp only [Act.put, zzA, zz0, zz1]
                refine wR (v := .agg (fmA m)) rfl (ix_extract rfl rfl rfl) ?_
                simp only [Act.put, zzA, zz0, zz1]
                refine wR (v := .int .i64 0) rfl (ix_extract rfl rfl rfl) ?_
                simp only [Act.put, zzA, zz0, zz1]
                refine wpList_new 24 (.tmp 15) (.tmp 148) (fmA m) rfl rfl (zero_fm _) rfl rfl rfl rfl rfl rfl (by rw [size_form]; rfl) (fmA_one _) ?_
                intro w11 g11 _ hbx hux
                simp only [Act.put, zzA, zz0, zz1]
                have HBg11 := Lib.hid hbx
                have HT11 := Lib.hid hux
                clear hbx hux
                have HB3 := Lib.hid (HB2.out.turn (HT10.out.next HT11.out) (fun e => e))
                have HR3 := Lib.hid (show w11.rangeAt bF (oF + j * 2) (fldA f).toList from fun i v hv => ((HT10.out.next HT11.out).cell (World.block_lt_of_cell? _ _ (HRR.out i v hv)) (fun e => e)).trans (HRR.out i v hv))
                refine wR (v := .int .i64 0) rfl (gx_assign rfl rfl) ?_
                simp only [Act.put, zzA, zz0, zz1]
                go_upto_region 30 with fail
                refine wp_region_lit ?_
                refine wR (v := .pointer (some ⟨gm, 1, none⟩)) rfl (exec_field (off := 0) (d := 1) rfl rfl (by kernel_rfl)) ?_
                simp only [Act.put, zzA, zz0, zz1]
                refine wR (v := .slice (some ⟨bF, oF, none⟩) n c) rfl (exec_load1 rfl rfl (by kernel_rfl) (HB3.out.cell 1)) ?_
                simp only [Act.put, zzA, zz0, zz1]
                refine wR (v := .int .i64 (j : Int)) rfl (exec_move rfl rfl) ?_
                simp only [Act.put, zzA, zz0, zz1]
                refine wR (v := .pointer (some ⟨bF, oF + j * 2, none⟩)) rfl (gx_iaddr (i := j) (sz := 2) rfl rfl rfl Tryz.underlying29 size_field HLT.out (by omega)) ?_
                simp only [Act.put, zzA, zz0, zz1]
                refine wR (v := .pointer (some ⟨bF, oF + j * 2 + 1, none⟩)) rfl (exec_field (off := oF + j * 2) (d := 1) rfl rfl (by kernel_rfl)) ?_
                simp only [Act.put, zzA, zz0, zz1]
                refine wR (v := strV f.2) rfl (exec_load1 rfl rfl (by kernel_rfl) (HR3.out 1 _ rfl)) ?_
                simp only [Act.put, zzA, zz0, zz1]
                refine wR (v := strV f.2) rfl (gx_assign rfl rfl) ?_
                simp only [Act.put, zzA, zz0, zz1]
                go_upto_region 31 with fail
                refine wp_region_lit ?_
                refine wR (v := .int .i64 (d : Int)) rfl (exec_move rfl rfl) ?_
                simp only [Act.put, zzA, zz0, zz1]
                by_cases h3 : (d : Int) = 3
                · refine wR (v := .bool true) rfl (ix_eql rfl rfl rfl (decide_eq_true h3)) ?_
                  simp only [Act.put, zzA, zz0, zz1]
                  refine wR (v := .bool true) rfl (exec_move rfl rfl) ?_
                  simp only [Act.put, zzA, zz0, zz1]
                  refine wR (v := .pointer (some ⟨gm, 1, none⟩)) rfl (exec_field (off := 0) (d := 1) rfl rfl (by kernel_rfl)) ?_
                  simp only [Act.put, zzA, zz0, zz1]
                  refine wR (v := .slice (some ⟨bF, oF, none⟩) n c) rfl (exec_load1 rfl rfl (by kernel_rfl) (HB3.out.cell 1)) ?_
                  simp only [Act.put, zzA, zz0, zz1]
                  refine wR (v := .int .i64 (j : Int)) rfl (exec_move rfl rfl) ?_
                  simp only [Act.put, zzA, zz0, zz1]
                  refine wR (v := .pointer (some ⟨bF, oF + j * 2, none⟩)) rfl (gx_iaddr (i := j) (sz := 2) rfl rfl rfl Tryz.underlying29 size_field HLT.out (by omega)) ?_
                  simp only [Act.put, zzA, zz0, zz1]
                  refine wR (v := .pointer (some ⟨bF, oF + j * 2, none⟩)) rfl (exec_field (off := oF + j * 2) (d := 0) rfl rfl (by kernel_rfl)) ?_
                  simp only [Act.put, zzA, zz0, zz1]
                  refine wR (v := .int .i64 f.1) rfl (exec_load1 rfl rfl (by kernel_rfl) (HR3.out 0 _ rfl)) ?_
                  simp only [Act.put, zzA, zz0, zz1]
                  by_cases h4 : f.1 = 4
                  · refine wR (v := .bool true) rfl (ix_eql rfl rfl rfl (decide_eq_true h4)) ?_
                    simp only [Act.put, zzA, zz0, zz1]
                    refine wR (v := .bool true) rfl (ix_pickT rfl rfl rfl) ?_
                    simp only [Act.put, zzA, zz0, zz1]
                    have HL2 := Lib.hid (HL12.out h4)
                    have H3 := Lib.hid h3
                    have H4 := Lib.hid h4
                    clear h3 h4
                    go_upto_region 32 with fail
                    refine wp_region_lit ?_
                    refine wR (v := strV f.2) rfl (exec_move rfl rfl) ?_
                    simp only [Act.put, zzA, zz0, zz1]
                    refine wR (v := strV (f.2.drop 2)) rfl (exec_sfrom (n := 2) rfl rfl rfl (by rw [HL2.out]; decide)) ?_
                    simp only [Act.put, zzA, zz0, zz1]
                    refine wR (v := strV (f.2.drop 2)) rfl (gx_assign rfl rfl) ?_
                    simp only [Act.put, zzA, zz0, zz1]
                    have HSX := Lib.hid (show say d f = f.2.drop 2 from by rw [HSAY.out, if_pos ⟨by have := H3.out; omega, H4.out⟩])
                    clear H3 H4
                    obtain ⟨A6, n6, c6, hf6, hb6, hnc6, hz6⟩ := HO.out.form
                    injection hf6 with g1 g2 g3
                    subst g1 g2 g3
                    have HB6 := Lib.hid hb6
                    have HZ6 := Lib.hid hz6
                    have HN6 := Lib.hid (show n' ≤ 500 from by rw [← hb6.1]; exact HB0.out)
                    clear hb6 hnc6 hz6
                    go_upto_region 33 with fail
                    refine wp_region_lit ?_
                    refine wR (v := .slice A' n' c') rfl (exec_move rfl rfl) ?_
                    simp only [Act.put, zzA, zz0, zz1]
                    refine wR (v := .agg (fmA m)) rfl (gx_loads rfl rfl (blk_range HBg11.out) Tryz.underlying24 rfl (by rw [size_form]; rfl)) ?_
                    simp only [Act.put, zzA, zz0, zz1]
                    refine wR (v := strV (f.2.drop 2)) rfl (exec_move rfl rfl) ?_
                    simp only [Act.put, zzA, zz0, zz1]
                    have hP := rput_ok (w := w11) (cap := c') HC.out (bs_still HB6.out (HT10.out.next HT11.out)) HZ6.out (by have := HN6.out; omega) (by rw [HSX.out]; have := HTF.out; rw [List.length_drop]; omega)
                    rw [HSX.out] at hP
                    refine wpList_op rfl fun K9 HK9 => ?_
                    go_wp2_with fail
                    refine (hP).mono ?_
                    rintro e w12 ⟨A7, n7, c7, rfl, hox, htx⟩
                    refine HK9.out _ _ ?_
                    clear HK9
                    try simp only [Act.put, zzA, zz0, zz1]
                    clear hP
                    have HON := Lib.hid (show Own w12 w8.heap.size 5 (.slice A7 n7 c7) (T ++ mapPut d fs ++ body d (fs.take (j + 1))) from by
                      rw [HSN.out, body_snoc, ← List.append_assoc, show sayPut d f = m.put (f.2.drop 2) from by unfold sayPut; rw [HM.out]; show m.put (say d f) = _; rw [HSX.out]]
                      exact own_base hox (Nat.le_trans HTR.out.size (HT10.out.next HT11.out).size))
                    have HTN := Lib.hid (((HTR.out.next HT10.out).next HT11.out).next htx)
                    clear hox htx
                    refine wR (v := .tuple #[.slice A7 n7 c7, .int .i64 0]) rfl (exec_move rfl rfl) ?_
                    simp only [Act.put, zzA, zz0, zz1]
                    refine wR (v := .slice A7 n7 c7) rfl (ix_extract rfl rfl rfl) ?_
                    simp only [Act.put, zzA, zz0, zz1]
                    refine wR (v := .int .i64 0) rfl (ix_extract rfl rfl rfl) ?_
                    simp only [Act.put, zzA, zz0, zz1]
                    refine wR (v := .slice A7 n7 c7) rfl (gx_assign rfl rfl) ?_
                    simp only [Act.put, zzA, zz0, zz1]
                    go_upto_region 28 with fail
                    refine wp_region_lit ?_
                    refine wR (v := .int .i64 (j : Int)) rfl (exec_move rfl rfl) ?_
                    simp only [Act.put, zzA, zz0, zz1]
                    refine wR (v := .int .i64 ((j + 1 : Nat) : Int)) rfl (ix_add rfl rfl rfl (by omega) (by omega)) ?_
                    simp only [Act.put, zzA, zz0, zz1]
                    refine wR (v := .int .i64 ((j + 1 : Nat) : Int)) rfl (gx_assign rfl rfl) ?_
                    simp only [Act.put, zzA, zz0, zz1]
                    go_wp2_with fail
                    go_roundg (gk - 1)
                    case measure => have := HJL.out; have := HLT.out; omega
                    case rel => exact ⟨j + 1, _, _, _, by have := HJL.out; have := HLT.out; omega, by go_num, rfl, HON.out, HTN.out⟩
                  · refine wR (v := .bool false) rfl (ix_eql rfl rfl rfl (decide_eq_false h4)) ?_
                    simp only [Act.put, zzA, zz0, zz1]
                    refine wR (v := .bool false) rfl (ix_pickT rfl rfl rfl) ?_
                    simp only [Act.put, zzA, zz0, zz1]
                    have HSX := Lib.hid (show say d f = f.2 from by rw [HSAY.out, if_neg (fun h => h4 h.2)])
                    clear h3 h4
                    obtain ⟨A6, n6, c6, hf6, hb6, hnc6, hz6⟩ := HO.out.form
                    injection hf6 with g1 g2 g3
                    subst g1 g2 g3
                    have HB6 := Lib.hid hb6
                    have HZ6 := Lib.hid hz6
                    have HN6 := Lib.hid (show n' ≤ 500 from by rw [← hb6.1]; exact HB0.out)
                    clear hb6 hnc6 hz6
                    go_upto_region 33 with fail
                    refine wp_region_lit ?_
                    refine wR (v := .slice A' n' c') rfl (exec_move rfl rfl) ?_
                    simp only [Act.put, zzA, zz0, zz1]
                    refine wR (v := .agg (fmA m)) rfl (gx_loads rfl rfl (blk_range HBg11.out) Tryz.underlying24 rfl (by rw [size_form]; rfl)) ?_
                    simp only [Act.put, zzA, zz0, zz1]
                    refine wR (v := strV f.2) rfl (exec_move rfl rfl) ?_
                    simp only [Act.put, zzA, zz0, zz1]
                    have hP := rput_ok (w := w11) (cap := c') HC.out (bs_still HB6.out (HT10.out.next HT11.out)) HZ6.out (by have := HN6.out; omega) (by rw [HSX.out]; have := HTF.out; exact this)
                    rw [HSX.out] at hP
                    refine wpList_op rfl fun K9 HK9 => ?_
                    go_wp2_with fail
                    refine (hP).mono ?_
                    rintro e w12 ⟨A7, n7, c7, rfl, hox, htx⟩
                    refine HK9.out _ _ ?_
                    clear HK9
                    try simp only [Act.put, zzA, zz0, zz1]
                    clear hP
                    have HON := Lib.hid (show Own w12 w8.heap.size 5 (.slice A7 n7 c7) (T ++ mapPut d fs ++ body d (fs.take (j + 1))) from by
                      rw [HSN.out, body_snoc, ← List.append_assoc, show sayPut d f = m.put (f.2) from by unfold sayPut; rw [HM.out]; show m.put (say d f) = _; rw [HSX.out]]
                      exact own_base hox (Nat.le_trans HTR.out.size (HT10.out.next HT11.out).size))
                    have HTN := Lib.hid (((HTR.out.next HT10.out).next HT11.out).next htx)
                    clear hox htx
                    refine wR (v := .tuple #[.slice A7 n7 c7, .int .i64 0]) rfl (exec_move rfl rfl) ?_
                    simp only [Act.put, zzA, zz0, zz1]
                    refine wR (v := .slice A7 n7 c7) rfl (ix_extract rfl rfl rfl) ?_
                    simp only [Act.put, zzA, zz0, zz1]
                    refine wR (v := .int .i64 0) rfl (ix_extract rfl rfl rfl) ?_
                    simp only [Act.put, zzA, zz0, zz1]
                    refine wR (v := .slice A7 n7 c7) rfl (gx_assign rfl rfl) ?_
                    simp only [Act.put, zzA, zz0, zz1]
                    go_upto_region 28 with fail
                    refine wp_region_lit ?_
                    refine wR (v := .int .i64 (j : Int)) rfl (exec_move rfl rfl) ?_
                    simp only [Act.put, zzA, zz0, zz1]
                    refine wR (v := .int .i64 ((j + 1 : Nat) : Int)) rfl (ix_add rfl rfl rfl (by omega) (by omega)) ?_
                    simp only [Act.put, zzA, zz0, zz1]
                    refine wR (v := .int .i64 ((j + 1 : Nat) : Int)) rfl (gx_assign rfl rfl) ?_
                    simp only [Act.put, zzA, zz0, zz1]
                    go_wp2_with fail
                    go_roundg (gk - 1)
                    case measure => have := HJL.out; have := HLT.out; omega
                    case rel => exact ⟨j + 1, _, _, _, by have := HJL.out; have := HLT.out; omega, by go_num, rfl, HON.out, HTN.out⟩
                · refine wR (v := .bool false) rfl (ix_eql rfl rfl rfl (decide_eq_false h3)) ?_
                  simp only [Act.put, zzA, zz0, zz1]
                  have H3 := Lib.hid h3
                  clear h3
                  have HSX := Lib.hid (show say d f = f.2 from by rw [HSAY.out, if_neg (fun h => H3.out (by omega))])
                  clear H3
                  obtain ⟨A6, n6, c6, hf6, hb6, hnc6, hz6⟩ := HO.out.form
                  injection hf6 with g1 g2 g3
                  subst g1 g2 g3
                  have HB6 := Lib.hid hb6
                  have HZ6 := Lib.hid hz6
                  have HN6 := Lib.hid (show n' ≤ 500 from by rw [← hb6.1]; exact HB0.out)
                  clear hb6 hnc6 hz6
                  go_upto_region 33 with fail
                  refine wp_region_lit ?_
                  refine wR (v := .slice A' n' c') rfl (exec_move rfl rfl) ?_
                  simp only [Act.put, zzA, zz0, zz1]
                  refine wR (v := .agg (fmA m)) rfl (gx_loads rfl rfl (blk_range HBg11.out) Tryz.underlying24 rfl (by rw [size_form]; rfl)) ?_
                  simp only [Act.put, zzA, zz0, zz1]
                  refine wR (v := strV f.2) rfl (exec_move rfl rfl) ?_
                  simp only [Act.put, zzA, zz0, zz1]
                  have hP := rput_ok (w := w11) (cap := c') HC.out (bs_still HB6.out (HT10.out.next HT11.out)) HZ6.out (by have := HN6.out; omega) (by rw [HSX.out]; have := HTF.out; exact this)
                  rw [HSX.out] at hP
                  refine wpList_op rfl fun K9 HK9 => ?_
                  go_wp2_with fail
                  refine (hP).mono ?_
                  rintro e w12 ⟨A7, n7, c7, rfl, hox, htx⟩
                  refine HK9.out _ _ ?_
                  clear HK9
                  try simp only [Act.put, zzA, zz0, zz1]
                  clear hP
                  have HON := Lib.hid (show Own w12 w8.heap.size 5 (.slice A7 n7 c7) (T ++ mapPut d fs ++ body d (fs.take (j + 1))) from by
                    rw [HSN.out, body_snoc, ← List.append_assoc, show sayPut d f = m.put (f.2) from by unfold sayPut; rw [HM.out]; show m.put (say d f) = _; rw [HSX.out]]
                    exact own_base hox (Nat.le_trans HTR.out.size (HT10.out.next HT11.out).size))
                  have HTN := Lib.hid (((HTR.out.next HT10.out).next HT11.out).next htx)
                  clear hox htx
                  refine wR (v := .tuple #[.slice A7 n7 c7, .int .i64 0]) rfl (exec_move rfl rfl) ?_
                  simp only [Act.put, zzA, zz0, zz1]
                  refine wR (v := .slice A7 n7 c7) rfl (ix_extract rfl rfl rfl) ?_
                  simp only [Act.put, zzA, zz0, zz1]
                  refine wR (v := .int .i64 0) rfl (ix_extract rfl rfl rfl) ?_
                  simp only [Act.put, zzA, zz0, zz1]
                  refine wR (v := .slice A7 n7 c7) rfl (gx_assign rfl rfl) ?_
                  simp only [Act.put, zzA, zz0, zz1]
                  go_upto_region 28 with fail
                  refine wp_region_lit ?_
                  refine wR (v := .int .i64 (j : Int)) rfl (exec_move rfl rfl) ?_
                  simp only [Act.put, zzA, zz0, zz1]
                  refine wR (v := .int .i64 ((j + 1 : Nat) : Int)) rfl (ix_add rfl rfl rfl (by omega) (by omega)) ?_
                  simp only [Act.put, zzA, zz0, zz1]
                  refine wR (v := .int .i64 ((j + 1 : Nat) : Int)) rfl (gx_assign rfl rfl) ?_
                  simp only [Act.put, zzA, zz0, zz1]
                  go_wp2_with fail
                  go_roundg (gk - 1)
                  case measure => have := HJL.out; have := HLT.out; omega
                  case rel => exact ⟨j + 1, _, _, _, by have := HJL.out; have := HLT.out; omega, by go_num, rfl, HON.out, HTN.out⟩
              · refine wR (v := .bool false) rfl (ix_lss rfl rfl rfl (decide_eq_false (by omega))) ?_
                simp only [Act.put, zzA, zz0, zz1]
                have HOW := Lib.hid (show Own wr w8.heap.size 5 (.slice A' n' c') (wire d ty fs) from by
                  have h1 := HO.out
                  rw [List.take_of_length_le (by rw [HNL.out]; omega), ← HWI.out] at h1
                  exact h1)
                clear hlt
                go_upto_region 34 with fail
                refine wp_region_lit ?_
                refine wR (v := .slice A' n' c') rfl (exec_move rfl rfl) ?_
                simp only [Act.put, zzA, zz0, zz1]
                refine wR (v := .slice A' n' c') rfl (gx_assign rfl rfl) ?_
                simp only [Act.put, zzA, zz0, zz1]
                refine wR (v := .int .i64 0) rfl (gx_assign rfl rfl) ?_
                simp only [Act.put, zzA, zz0, zz1]
                go_wp2_with fail
                go_ret2
                rw [show mencode (d : Int) ty fs = .ok (wire d ty fs) from HENC.out]
                exact ⟨_, _, _, rfl, own_base HOW.out ((((((HT0.out.next HT2.out).next HTL.out).next HTD.out).next HT7.out).next HT8.out)).size, ((((((HT0.out.next HT2.out).next HTL.out).next HTD.out).next HT7.out).next HT8.out).next HTR.out)⟩
      · have HX9 := Lib.hid (show mencode (d : Int) ty fs = .error (mcheck ty fs) from by unfold mencode; rw [if_pos HDI.out, if_neg hck])
        refine wR (v := .bool true) rfl (ix_neq rfl rfl rfl (decide_eq_true hck)) ?_
        simp only [Act.put, zzA, zz0, zz1]
        clear hck
        go_wp2_with fail
        go_ret2
        exact enc_err HX9.out (HT0.out.next HT2.out)
end Go.Proofs.YtkbdijkoedmgnaaGreatDoor
namespace Go.Proofs.YtkbdijkoedmgnaaGreatDoor
open Go.RowKit
open Fdd
set_option linter.unusedVariables false
set_option linter.unusedSimpArgs false
def gotV (o : Option (List UInt8)) : Value := match o with
  | some t => .tuple #[strV t, .bool true]
  | none => .tuple #[strV [], .bool false]
theorem get_at {fs : List Fld} {no : Int} {j : Nat} {f : Fld} (hf : fs[j]? = some f) : getM no (fs.drop j) = if f.1 = no then some f.2 else getM no (fs.drop (j + 1)) := by
  obtain ⟨hj, e⟩ := List.getElem?_eq_some_iff.1 hf
  rw [List.drop_eq_getElem_cons hj, e]
  rfl
set_option maxRecDepth 20000 in
set_option maxHeartbeats 1000000 in
theorem Get_walk {w : World} {ty no : Int} {A : Option Addr} {n c : Nat} {fs : List Fld} (hf : Fl w A n fs) :
    Calls Tryz.prog 23 #[msgV ty A n c, .int .i64 no] w fun e w' => e = .returned (gotV (getM no fs)) ∧ Turn nowhere w w' := by
  have HF := Lib.hid hf
  have HNL := Lib.hid hf.1
  have y9 : (n : Int) ≤ 140737488355328 := by
    have := hf.2.1
    omega
  clear hf
  unfold msgV
  go_enter Tryz.func23, Tryz.ntmps23
  go_upto_region 1 with fail
  have hb0 := Blk.new w 31 #[.int .i64 ty, .slice A n c]
  have hu0 := (Turn.refl nowhere w).alloc (.cells #[.int .i64 ty, .slice A n c] 31)
  obtain ⟨gm, hg0⟩ : ∃ g, g = w.heap.size := ⟨_, rfl⟩
  rw [← hg0] at hb0 ⊢
  clear hg0
  generalize w.alloc (.cells #[.int .i64 ty, .slice A n c] 31) = w1 at *
  have HBgm := Lib.hid hb0
  have HT0 := Lib.hid hu0
  clear hb0 hu0
  refine wp_region_lit ?_
  refine wR (v := .pointer (some ⟨gm, 1, none⟩)) rfl (exec_field (off := 0) (d := 1) rfl rfl (by kernel_rfl)) ?_
  simp only [Act.put, zzA, zz0, zz1]
  refine wR (v := .slice A n c) rfl (exec_load1 rfl rfl (by kernel_rfl) (HBgm.out.cell 1)) ?_
  simp only [Act.put, zzA, zz0, zz1]
  refine wR (v := .int .i64 (n : Int)) rfl (gx_len rfl rfl Tryz.underlying29) ?_
  simp only [Act.put, zzA, zz0, zz1]
  refine wR (v := .int .i64 0) rfl (exec_move rfl rfl) ?_
  simp only [Act.put, zzA, zz0, zz1]
  go_wp2_with fail
  go_loopg [11] n (fun gk jv wr => ∃ j : Nat, j + gk = n ∧ jv = .int .i64 (j : Int) ∧ Turn nowhere w1 wr ∧ getM no (fs.drop j) = getM no fs)
  case atStart => exact ⟨0, by omega, rfl, Turn.refl _ _, rfl⟩
  obtain ⟨j, hjl, rfl, htr, hgm⟩ := hrel
  have HJL := Lib.hid hjl
  have HTR := Lib.hid htr
  have HGM := Lib.hid hgm
  clear hjl htr hgm
  go_upto_region 2 with fail
  refine wp_region_lit ?_
  by_cases hlt : j < n
  · have HLT := Lib.hid hlt
    have y1 : (j : Int) < (n : Int) := by omega
    obtain ⟨bF, oF, rfl, hr⟩ := HF.out.2.2 (by omega)
    obtain ⟨f, hf⟩ : ∃ f, fs[j]? = some f := ⟨_, List.getElem?_eq_getElem (show j < fs.length from by rw [HNL.out]; exact hlt)⟩
    have HRR := Lib.hid (show wr.rangeAt bF (oF + j * 2) (fldA f).toList from fun i v hv => ((HT0.out.next HTR.out).cell (World.block_lt_of_cell? _ _ (hr j f hf i v hv)) (fun e => e)).trans (hr j f hf i v hv))
    have HGA := Lib.hid (get_at (no := no) hf)
    clear hr hf hlt
    refine wR (v := .bool true) rfl (ix_lss rfl rfl rfl (decide_eq_true y1)) ?_
    simp only [Act.put, zzA, zz0, zz1]
    go_upto_region 3 with fail
    refine wp_region_lit ?_
    refine wR (v := .pointer (some ⟨bF, oF + j * 2, none⟩)) rfl (gx_iaddr (i := j) (sz := 2) rfl rfl rfl Tryz.underlying29 size_field HLT.out (by omega)) ?_
    simp only [Act.put, zzA, zz0, zz1]
    refine wR (v := .agg (fldA f)) rfl (gx_loads rfl rfl HRR.out Tryz.underlying46 rfl (by rw [size_field]; rfl)) ?_
    simp only [Act.put, zzA, zz0, zz1]
    refine wpList_new 46 (.tmp 7) (.tmp 14) (fldA f) rfl rfl (zero_field _) rfl rfl rfl rfl rfl rfl (by rw [size_field]; rfl) (fldA_one f) ?_
    intro w3 g7 _ hbx hux
    simp only [Act.put, zzA, zz0, zz1]
    have HB7 := Lib.hid hbx
    have HT7 := Lib.hid hux
    clear hbx hux HRR
    go_upto_region 4 with fail
    refine wp_region_lit ?_
    refine wR (v := .pointer (some ⟨g7, 0, none⟩)) rfl (exec_field (off := 0) (d := 0) rfl rfl (by kernel_rfl)) ?_
    simp only [Act.put, zzA, zz0, zz1]
    refine wR (v := .int .i64 f.1) rfl (exec_load1 rfl rfl (by kernel_rfl) (HB7.out.cell 0)) ?_
    simp only [Act.put, zzA, zz0, zz1]
    refine wR (v := .int .i64 no) rfl (exec_move rfl rfl) ?_
    simp only [Act.put, zzA, zz0, zz1]
    by_cases heq : f.1 = no
    · refine wR (v := .bool true) rfl (ix_eql rfl rfl rfl (decide_eq_true heq)) ?_
      simp only [Act.put, zzA, zz0, zz1]
      go_upto_region 5 with fail
      refine wp_region_lit ?_
      refine wR (v := .pointer (some ⟨g7, 1, none⟩)) rfl (exec_field (off := 0) (d := 1) rfl rfl (by kernel_rfl)) ?_
      simp only [Act.put, zzA, zz0, zz1]
      refine wR (v := strV f.2) rfl (exec_load1 rfl rfl (by kernel_rfl) (HB7.out.cell 1)) ?_
      simp only [Act.put, zzA, zz0, zz1]
      refine wR (v := strV f.2) rfl (gx_assign rfl rfl) ?_
      simp only [Act.put, zzA, zz0, zz1]
      refine wR (v := .bool true) rfl (gx_assign rfl rfl) ?_
      simp only [Act.put, zzA, zz0, zz1]
      have HG2 := Lib.hid (show getM no fs = some f.2 from by rw [← HGM.out, HGA.out, if_pos heq])
      clear heq
      go_wp2_with fail
      go_ret2
      rw [HG2.out]
      exact ⟨rfl, (HT0.out.next HTR.out).next HT7.out⟩
    · refine wR (v := .bool false) rfl (ix_eql rfl rfl rfl (decide_eq_false heq)) ?_
      simp only [Act.put, zzA, zz0, zz1]
      have HG2 := Lib.hid (show getM no (fs.drop (j + 1)) = getM no fs from by rw [← HGM.out, HGA.out, if_neg heq])
      clear heq
      go_wp2_with fail
      go_roundg (gk - 1)
      case measure => have := HJL.out; have := HLT.out; omega
      case rel => exact ⟨j + 1, by have := HJL.out; have := HLT.out; omega, by go_num, HTR.out.next HT7.out, HG2.out⟩
  · refine wR (v := .bool false) rfl (ix_lss rfl rfl rfl (decide_eq_false (by omega))) ?_
    simp only [Act.put, zzA, zz0, zz1]
    have HGN := Lib.hid (show getM no fs = none from by
      rw [← HGM.out, List.drop_eq_nil_of_le (by rw [HNL.out]; omega)]
      rfl)
    clear hlt
    go_wp2_with fail
    go_ret2
    rw [HGN.out]
    exact ⟨rfl, HT0.out.next HTR.out⟩
set_option maxRecDepth 20000 in
set_option maxHeartbeats 1000000 in
theorem rGet_walk {w : World} {ty no : Int} {A : Option Addr} {n c : Nat} {fs : List Fld} (hf : Fl w A n fs) :
    Calls Tryz.prog 24 #[msgV ty A n c, .int .i64 no] w fun e w' => e = .returned (gotV (getM no fs)) ∧ Turn nowhere w w' := by
  have HF := Lib.hid hf
  have HNL := Lib.hid hf.1
  have y9 : (n : Int) ≤ 140737488355328 := by
    have := hf.2.1
    omega
  clear hf
  unfold msgV
  go_enter Tryz.func24, Tryz.ntmps24
  go_upto_region 1 with fail
  have hb0 := Blk.new w 31 #[.int .i64 ty, .slice A n c]
  have hu0 := (Turn.refl nowhere w).alloc (.cells #[.int .i64 ty, .slice A n c] 31)
  obtain ⟨gm, hg0⟩ : ∃ g, g = w.heap.size := ⟨_, rfl⟩
  rw [← hg0] at hb0 ⊢
  clear hg0
  generalize w.alloc (.cells #[.int .i64 ty, .slice A n c] 31) = w1 at *
  have HBgm := Lib.hid hb0
  have HT0 := Lib.hid hu0
  clear hb0 hu0
  refine wp_region_lit ?_
  refine wR (v := .int .i64 0) rfl (gx_assign rfl rfl) ?_
  simp only [Act.put, zzA, zz0, zz1]
  go_wp2_with fail
  go_loopg [6] n (fun gk jv wr => ∃ j : Nat, j + gk = n ∧ jv = .int .i64 (j : Int) ∧ Turn nowhere w1 wr ∧ getM no (fs.drop j) = getM no fs)
  case atStart => exact ⟨0, by omega, rfl, Turn.refl _ _, rfl⟩
  obtain ⟨j, hjl, rfl, htr, hgm⟩ := hrel
  have HJL := Lib.hid hjl
  have HTR := Lib.hid htr
  have HGM := Lib.hid hgm
  clear hjl htr hgm
  have HB2 := Lib.hid (HBgm.out.turn HTR.out (fun e => e))
  go_upto_region 2 with fail
  refine wp_region_lit ?_
  refine wR (v := .int .i64 (j : Int)) rfl (exec_move rfl rfl) ?_
  simp only [Act.put, zzA, zz0, zz1]
  refine wR (v := .pointer (some ⟨gm, 1, none⟩)) rfl (exec_field (off := 0) (d := 1) rfl rfl (by kernel_rfl)) ?_
  simp only [Act.put, zzA, zz0, zz1]
  refine wR (v := .slice A n c) rfl (exec_load1 rfl rfl (by kernel_rfl) (HB2.out.cell 1)) ?_
  simp only [Act.put, zzA, zz0, zz1]
  refine wR (v := .int .i64 (n : Int)) rfl (gx_len rfl rfl Tryz.underlying29) ?_
  simp only [Act.put, zzA, zz0, zz1]
  by_cases hlt : j < n
  · have HLT := Lib.hid hlt
    have y1 : (j : Int) < (n : Int) := by omega
    obtain ⟨bF, oF, rfl, hr⟩ := HF.out.2.2 (by omega)
    obtain ⟨f, hf⟩ : ∃ f, fs[j]? = some f := ⟨_, List.getElem?_eq_getElem (show j < fs.length from by rw [HNL.out]; exact hlt)⟩
    have HRR := Lib.hid (show wr.rangeAt bF (oF + j * 2) (fldA f).toList from fun i v hv => ((HT0.out.next HTR.out).cell (World.block_lt_of_cell? _ _ (hr j f hf i v hv)) (fun e => e)).trans (hr j f hf i v hv))
    have HGA := Lib.hid (get_at (no := no) hf)
    clear hr hf hlt
    refine wR (v := .bool true) rfl (ix_lss rfl rfl rfl (decide_eq_true y1)) ?_
    simp only [Act.put, zzA, zz0, zz1]
    go_upto_region 4 with fail
    refine wp_region_lit ?_
    refine wR (v := .pointer (some ⟨gm, 1, none⟩)) rfl (exec_field (off := 0) (d := 1) rfl rfl (by kernel_rfl)) ?_
    simp only [Act.put, zzA, zz0, zz1]
    refine wR (v := .slice (some ⟨bF, oF, none⟩) n c) rfl (exec_load1 rfl rfl (by kernel_rfl) (HB2.out.cell 1)) ?_
    simp only [Act.put, zzA, zz0, zz1]
    refine wR (v := .int .i64 (j : Int)) rfl (exec_move rfl rfl) ?_
    simp only [Act.put, zzA, zz0, zz1]
    refine wR (v := .pointer (some ⟨bF, oF + j * 2, none⟩)) rfl (gx_iaddr (i := j) (sz := 2) rfl rfl rfl Tryz.underlying29 size_field HLT.out (by omega)) ?_
    simp only [Act.put, zzA, zz0, zz1]
    refine wR (v := .pointer (some ⟨bF, oF + j * 2, none⟩)) rfl (exec_field (off := oF + j * 2) (d := 0) rfl rfl (by kernel_rfl)) ?_
    simp only [Act.put, zzA, zz0, zz1]
    refine wR (v := .int .i64 f.1) rfl (exec_load1 rfl rfl (by kernel_rfl) (HRR.out 0 _ rfl)) ?_
    simp only [Act.put, zzA, zz0, zz1]
    refine wR (v := .int .i64 no) rfl (exec_move rfl rfl) ?_
    simp only [Act.put, zzA, zz0, zz1]
    by_cases heq : f.1 = no
    · refine wR (v := .bool true) rfl (ix_eql rfl rfl rfl (decide_eq_true heq)) ?_
      simp only [Act.put, zzA, zz0, zz1]
      go_upto_region 5 with fail
      refine wp_region_lit ?_
      refine wR (v := .pointer (some ⟨gm, 1, none⟩)) rfl (exec_field (off := 0) (d := 1) rfl rfl (by kernel_rfl)) ?_
      simp only [Act.put, zzA, zz0, zz1]
      refine wR (v := .slice (some ⟨bF, oF, none⟩) n c) rfl (exec_load1 rfl rfl (by kernel_rfl) (HB2.out.cell 1)) ?_
      simp only [Act.put, zzA, zz0, zz1]
      refine wR (v := .int .i64 (j : Int)) rfl (exec_move rfl rfl) ?_
      simp only [Act.put, zzA, zz0, zz1]
      refine wR (v := .pointer (some ⟨bF, oF + j * 2, none⟩)) rfl (gx_iaddr (i := j) (sz := 2) rfl rfl rfl Tryz.underlying29 size_field HLT.out (by omega)) ?_
      simp only [Act.put, zzA, zz0, zz1]
      refine wR (v := .pointer (some ⟨bF, oF + j * 2 + 1, none⟩)) rfl (exec_field (off := oF + j * 2) (d := 1) rfl rfl (by kernel_rfl)) ?_
      simp only [Act.put, zzA, zz0, zz1]
      refine wR (v := strV f.2) rfl (exec_load1 rfl rfl (by kernel_rfl) (HRR.out 1 _ rfl)) ?_
      simp only [Act.put, zzA, zz0, zz1]
      refine wR (v := strV f.2) rfl (gx_assign rfl rfl) ?_
      simp only [Act.put, zzA, zz0, zz1]
      refine wR (v := .bool true) rfl (gx_assign rfl rfl) ?_
      simp only [Act.put, zzA, zz0, zz1]
      have HG2 := Lib.hid (show getM no fs = some f.2 from by rw [← HGM.out, HGA.out, if_pos heq])
      clear heq
      go_wp2_with fail
      go_ret2
      rw [HG2.out]
      exact ⟨rfl, HT0.out.next HTR.out⟩
    · refine wR (v := .bool false) rfl (ix_eql rfl rfl rfl (decide_eq_false heq)) ?_
      simp only [Act.put, zzA, zz0, zz1]
      have HG2 := Lib.hid (show getM no (fs.drop (j + 1)) = getM no fs from by rw [← HGM.out, HGA.out, if_neg heq])
      clear heq
      go_wp2_with fail
      go_roundg (gk - 1)
      case measure => have := HJL.out; have := HLT.out; omega
      case rel => exact ⟨j + 1, by have := HJL.out; have := HLT.out; omega, by go_num, HTR.out, HG2.out⟩
  · refine wR (v := .bool false) rfl (ix_lss rfl rfl rfl (decide_eq_false (by omega))) ?_
    simp only [Act.put, zzA, zz0, zz1]
    have HGN := Lib.hid (show getM no fs = none from by
      rw [← HGM.out, List.drop_eq_nil_of_le (by rw [HNL.out]; omega)]
      rfl)
    clear hlt
    go_wp2_with fail
    go_ret2
    rw [HGN.out]
    exact ⟨rfl, HT0.out.next HTR.out⟩
end Go.Proofs.YtkbdijkoedmgnaaGreatDoor
namespace Go.Proofs.YtkbdijkoedmgnaaGreatDoor
open Go.RowKit
open Fdd
set_option linter.unusedVariables false
set_option linter.unusedSimpArgs false
theorem renc_at {w : World} {dd ty : Int} {A : Option Addr} {n c : Nat} {fs : List Fld} {r : Except Int (List UInt8)} (h : mencode dd ty fs = r) (hf : Fl w A n fs) (ht : Txts fs) :
    Calls Tryz.prog 17 #[.int .i64 dd, msgV ty A n c] w fun e w' => ∃ A n c, e = .returned (.tuple #[.slice A n c, .int .i64 (codeE r)]) ∧ Turn nowhere w w' := by
  have := rEncode_walk (dd := dd) (ty := ty) (c := c) hf ht
  rw [h] at this
  refine this.mono ?_
  rintro e w' ⟨A, n, c, rfl, _, ht⟩
  exact ⟨_, _, _, rfl, ht⟩
theorem get_rise {fs : List Fld} {f : Fld} : ∀ (h : Rise (fs.map (·.1))) (hf : f ∈ fs), getM f.1 fs = some f.2 := by
  induction fs with
  | nil => intro _ hf; cases hf
  | cons x l ih =>
    intro h hf
    unfold getM
    rcases List.mem_cons.1 hf with rfl | hf
    · rw [if_pos rfl]
    · rw [List.map_cons] at h
      unfold Rise at h
      obtain ⟨h1, h2⟩ := List.pairwise_cons.1 h
      have := h1 f.1 (List.mem_map_of_mem hf)
      rw [if_neg (by omega)]
      exact ih h2 hf
/-- what another dialect can't tell -/
theorem back_err {one two ty : Int} {fs : List Fld} {b : List UInt8} {k : Int} (h1 : mencode one ty fs = .ok b) (h2 : mencode two ty fs = .error k) :
    (k = 50 ∧ (two < 1 ∨ 3 < two)) ∨ (k = 41 ∧ two = 3 ∧ ∃ t, getM 4 fs = some t ∧ t.length = 12 ∧ t.take 2 ≠ [48, 48]) := by
  obtain ⟨_, ⟨hty, hn, hg, _⟩, _⟩ := mencode_ok.1 h1
  by_cases hd : 1 ≤ two ∧ two ≤ 3
  · right
    have hck := mcheck_zero.2 ⟨hty, hn, hg⟩
    obtain ⟨ha, hb⟩ := mencode_ref (ty := ty) (fs := fs) hd hck
    by_cases hall : ∀ f ∈ fs, Amt two.toNat f
    · rw [ha hall] at h2
      cases h2
    · obtain ⟨f, hf, hna⟩ : ∃ f ∈ fs, ¬ Amt two.toNat f := by
        refine Classical.byContradiction fun hc => hall fun f hf => Classical.byContradiction fun hna => hc ⟨f, hf, hna⟩
      rw [hb ⟨f, hf, hna⟩] at h2
      injection h2 with h2
      have h3 : two.toNat = 3 := Classical.byContradiction fun h => hna fun h3 => absurd h3 h
      have h4 : f.1 = 4 := Classical.byContradiction fun h => hna fun _ h4 => absurd h4 h
      refine ⟨h2.symm, by omega, f.2, ?_, amt_len hg hf h4, fun h5 => hna fun _ _ => h5⟩
      rw [← h4]
      exact get_rise hg.1 hf
  · left
    unfold mencode at h2
    rw [if_neg hd] at h2
    injection h2 with h2
    exact ⟨h2.symm, by omega⟩
set_option maxRecDepth 20000 in
set_option maxHeartbeats 4000000 in
theorem messageBack_walk {s : Sents} {ty : Int} {A : Option Addr} {n c : Nat} {fs : List Fld} (x1 x2 : Int) (W : World) (he0 : Env s W) (hf0 : Fl W A n fs) (ht0 : Txts fs) :
    Calls Tryz.prog 6 #[msgV ty A n c, .int .i64 x1, .int .i64 x2] W fun e W' => e = .returned (.bool true) ∧ Below W.heap.size W W' := by
  have HE := Lib.hid he0
  have HF := Lib.hid hf0
  have HTX := Lib.hid ht0
  clear he0 hf0 ht0
  unfold msgV
  go_enter Tryz.func6, Tryz.ntmps6
  go_upto_region 1 with fail
  have hb0 := Blk.new (W) 31 #[.int .i64 ty, .slice A n c]
  have hu0 := (Turn.refl nowhere (W)).alloc (.cells #[.int .i64 ty, .slice A n c] 31)
  have hbz := hb0
  have huz := hu0
  clear hb0 hu0
  obtain ⟨gm, hg0⟩ : ∃ g, g = W.heap.size := ⟨_, rfl⟩
  rw [← hg0] at hbz ⊢
  clear hg0
  generalize W.alloc (.cells #[.int .i64 ty, .slice A n c] 31) = w0 at *
  have HBgm := Lib.hid hbz
  have HT0 := Lib.hid huz
  clear hbz huz
  refine wp_region_lit ?_
  have hS := shown_walk (s := s) w0 (HE.out.turn HT0.out)
  refine wpList_op rfl fun K9 HK9 => ?_
  go_wp2_with fail
  refine (hS).mono ?_
  rintro e w1 ⟨rfl, htx⟩
  refine HK9.out _ _ ?_
  clear HK9
  try simp only [Act.put, zzA, zz0, zz1]
  have HT1 := Lib.hid htx
  clear htx hS
  refine wR (v := .bool true) rfl (gx_assign rfl rfl) ?_
  simp only [Act.put, zzA, zz0, zz1]
  go_upto_region 2 with fail
  refine wp_region_lit ?_
  refine wR (v := .int .i64 x1) rfl (exec_move rfl rfl) ?_
  simp only [Act.put, zzA, zz0, zz1]
  refine wR (v := msgV ty A n c) rfl (gx_loads rfl rfl (blk_range (HBgm.out.turn HT1.out (fun e => e))) Tryz.underlying31 rfl (by rw [size_msg]; rfl)) ?_
  simp only [Act.put, zzA, zz0, zz1]
  cases he : mencode x1 ty fs with
  | error k =>
    have hE := enc_bad (s := s) (c := c) he (HE.out.turn (HT0.out.next HT1.out)) (HF.out.still (HT0.out.next HT1.out))
    refine wpList_op rfl fun K9 HK9 => ?_
    go_wp2_with fail
    refine (hE).mono ?_
    rintro e w2 ⟨A2, n2, c2, rfl, hox, htx⟩
    refine HK9.out _ _ ?_
    clear HK9
    try simp only [Act.put, zzA, zz0, zz1]
    clear hE
    have HT2 := Lib.hid htx
    clear htx
    obtain ⟨A9, n9, c9, hf9, hb9, hnc9, hz9⟩ := hox.form
    injection hf9 with g1 g2 g3
    subst g1 g2 g3
    have HS2 := Lib.hid hb9
    have HN2 := Lib.hid hnc9
    clear hox hb9 hnc9 hz9
    refine wR (v := .tuple #[.slice A2 n2 c2, .int .i64 k]) rfl (exec_move rfl rfl) ?_
    simp only [Act.put, zzA, zz0, zz1]
    refine wR (v := .slice A2 n2 c2) rfl (ix_extract rfl rfl rfl) ?_
    simp only [Act.put, zzA, zz0, zz1]
    refine wR (v := .int .i64 k) rfl (ix_extract rfl rfl rfl) ?_
    simp only [Act.put, zzA, zz0, zz1]
    refine wR (v := .slice A2 n2 c2) rfl (gx_assign rfl rfl) ?_
    simp only [Act.put, zzA, zz0, zz1]
    refine wR (v := .int .i64 k) rfl (gx_assign rfl rfl) ?_
    simp only [Act.put, zzA, zz0, zz1]
    go_upto_region 3 with fail
    refine wp_region_lit ?_
    refine wR (v := .int .i64 x1) rfl (exec_move rfl rfl) ?_
    simp only [Act.put, zzA, zz0, zz1]
    refine wR (v := msgV ty A n c) rfl (gx_loads rfl rfl (blk_range (HBgm.out.turn (HT1.out.next HT2.out) (fun e => e))) Tryz.underlying31 rfl (by rw [size_msg]; rfl)) ?_
    simp only [Act.put, zzA, zz0, zz1]
    have hR := renc_at (c := c) he (HF.out.still ((HT0.out.next HT1.out).next HT2.out)) HTX.out
    refine wpList_op rfl fun K9 HK9 => ?_
    go_wp2_with fail
    refine (hR).mono ?_
    rintro e w3 ⟨A3, n3, c3, rfl, htx⟩
    refine HK9.out _ _ ?_
    clear HK9
    try simp only [Act.put, zzA, zz0, zz1]
    clear hR
    have HT3 := Lib.hid htx
    clear htx
    refine wR (v := .tuple #[.slice A3 n3 c3, .int .i64 k]) rfl (exec_move rfl rfl) ?_
    simp only [Act.put, zzA, zz0, zz1]
    refine wR (v := .slice A3 n3 c3) rfl (ix_extract rfl rfl rfl) ?_
    simp only [Act.put, zzA, zz0, zz1]
    refine wR (v := .int .i64 k) rfl (ix_extract rfl rfl rfl) ?_
    simp only [Act.put, zzA, zz0, zz1]
    refine wR (v := .slice A3 n3 c3) rfl (gx_assign rfl rfl) ?_
    simp only [Act.put, zzA, zz0, zz1]
    refine wR (v := .int .i64 k) rfl (gx_assign rfl rfl) ?_
    simp only [Act.put, zzA, zz0, zz1]
    have hl2 : n2 = 0 := HS2.out.1.symm
    subst hl2
    have HK := Lib.hid (mencode_err he)
    clear he
    go_upto_region 4 with fail
    refine wp_region_lit ?_
    refine wR (v := .bool true) rfl (exec_move rfl rfl) ?_
    simp only [Act.put, zzA, zz0, zz1]
    refine wR (v := .bool false) rfl (ix_not (b := true) rfl rfl) ?_
    simp only [Act.put, zzA, zz0, zz1]
    refine wR (v := .bool false) rfl (exec_move rfl rfl) ?_
    simp only [Act.put, zzA, zz0, zz1]
    refine wR (v := .int .i64 k) rfl (exec_move rfl rfl) ?_
    simp only [Act.put, zzA, zz0, zz1]
    refine wR (v := .int .i64 k) rfl (exec_move rfl rfl) ?_
    simp only [Act.put, zzA, zz0, zz1]
    refine wR (v := .bool false) rfl (ix_neq rfl rfl rfl (by simp)) ?_
    simp only [Act.put, zzA, zz0, zz1]
    refine wR (v := .bool false) rfl (ix_pickF rfl rfl rfl) ?_
    simp only [Act.put, zzA, zz0, zz1]
    go_upto_region 6 with fail
    refine wp_region_lit ?_
    refine wR (v := .int .i64 k) rfl (exec_move rfl rfl) ?_
    simp only [Act.put, zzA, zz0, zz1]
    refine wR (v := .bool true) rfl (ix_neq rfl rfl rfl (decide_eq_true HK.out)) ?_
    simp only [Act.put, zzA, zz0, zz1]
    go_upto_region 7 with fail
    refine wp_region_lit ?_
    refine wR (v := .slice A2 0 c2) rfl (exec_move rfl rfl) ?_
    simp only [Act.put, zzA, zz0, zz1]
    refine wR (v := .int .i64 ((0 : Nat) : Int)) rfl (gx_len rfl rfl Tryz.underlying32) ?_
    simp only [Act.put, zzA, zz0, zz1]
    refine wR (v := .bool true) rfl (ix_eql rfl rfl rfl (by decide)) ?_
    simp only [Act.put, zzA, zz0, zz1]
    refine wR (v := .bool true) rfl (gx_assign rfl rfl) ?_
    simp only [Act.put, zzA, zz0, zz1]
    go_wp2_with fail
    go_ret
    exact ⟨rfl, ((((HT0.out.next HT1.out).next HT2.out).next HT3.out)).below (Nat.le_refl _) (fun _ _ e=>e)⟩
  | ok b =>
    have hE := enc_at (s := s) (c := c) he (HE.out.turn (HT0.out.next HT1.out)) (HF.out.still (HT0.out.next HT1.out))
    refine wpList_op rfl fun K9 HK9 => ?_
    go_wp2_with fail
    refine (hE).mono ?_
    rintro e w2 ⟨A2, n2, c2, rfl, hox, htx⟩
    refine HK9.out _ _ ?_
    clear HK9
    try simp only [Act.put, zzA, zz0, zz1]
    clear hE
    have HT2 := Lib.hid htx
    clear htx
    obtain ⟨A9, n9, c9, hf9, hb9, hnc9, hz9⟩ := hox.form
    injection hf9 with g1 g2 g3
    subst g1 g2 g3
    have HS2 := Lib.hid hb9
    have HN2 := Lib.hid hnc9
    clear hox hb9 hnc9 hz9
    refine wR (v := .tuple #[.slice A2 n2 c2, .int .i64 0]) rfl (exec_move rfl rfl) ?_
    simp only [Act.put, zzA, zz0, zz1]
    refine wR (v := .slice A2 n2 c2) rfl (ix_extract rfl rfl rfl) ?_
    simp only [Act.put, zzA, zz0, zz1]
    refine wR (v := .int .i64 0) rfl (ix_extract rfl rfl rfl) ?_
    simp only [Act.put, zzA, zz0, zz1]
    refine wR (v := .slice A2 n2 c2) rfl (gx_assign rfl rfl) ?_
    simp only [Act.put, zzA, zz0, zz1]
    refine wR (v := .int .i64 0) rfl (gx_assign rfl rfl) ?_
    simp only [Act.put, zzA, zz0, zz1]
    go_upto_region 3 with fail
    refine wp_region_lit ?_
    refine wR (v := .int .i64 x1) rfl (exec_move rfl rfl) ?_
    simp only [Act.put, zzA, zz0, zz1]
    refine wR (v := msgV ty A n c) rfl (gx_loads rfl rfl (blk_range (HBgm.out.turn (HT1.out.next HT2.out) (fun e => e))) Tryz.underlying31 rfl (by rw [size_msg]; rfl)) ?_
    simp only [Act.put, zzA, zz0, zz1]
    have hR := renc_at (c := c) he (HF.out.still ((HT0.out.next HT1.out).next HT2.out)) HTX.out
    refine wpList_op rfl fun K9 HK9 => ?_
    go_wp2_with fail
    refine (hR).mono ?_
    rintro e w3 ⟨A3, n3, c3, rfl, htx⟩
    refine HK9.out _ _ ?_
    clear HK9
    try simp only [Act.put, zzA, zz0, zz1]
    clear hR
    have HT3 := Lib.hid htx
    clear htx
    refine wR (v := .tuple #[.slice A3 n3 c3, .int .i64 0]) rfl (exec_move rfl rfl) ?_
    simp only [Act.put, zzA, zz0, zz1]
    refine wR (v := .slice A3 n3 c3) rfl (ix_extract rfl rfl rfl) ?_
    simp only [Act.put, zzA, zz0, zz1]
    refine wR (v := .int .i64 0) rfl (ix_extract rfl rfl rfl) ?_
    simp only [Act.put, zzA, zz0, zz1]
    refine wR (v := .slice A3 n3 c3) rfl (gx_assign rfl rfl) ?_
    simp only [Act.put, zzA, zz0, zz1]
    refine wR (v := .int .i64 0) rfl (gx_assign rfl rfl) ?_
    simp only [Act.put, zzA, zz0, zz1]
    have HDB := Lib.hid (mdecode_back he)
    have HBE := Lib.hid (fun k (h : mencode x2 ty fs = .error k) => back_err he h)
    have HLE := Lib.hid (show n2 ≤ 500 from by rw [← HS2.out.1]; exact menc_len he)
    clear he
    go_upto_region 4 with fail
    refine wp_region_lit ?_
    refine wR (v := .bool true) rfl (exec_move rfl rfl) ?_
    simp only [Act.put, zzA, zz0, zz1]
    refine wR (v := .bool false) rfl (ix_not (b := true) rfl rfl) ?_
    simp only [Act.put, zzA, zz0, zz1]
    refine wR (v := .bool false) rfl (exec_move rfl rfl) ?_
    simp only [Act.put, zzA, zz0, zz1]
    refine wR (v := .int .i64 0) rfl (exec_move rfl rfl) ?_
    simp only [Act.put, zzA, zz0, zz1]
    refine wR (v := .int .i64 0) rfl (exec_move rfl rfl) ?_
    simp only [Act.put, zzA, zz0, zz1]
    refine wR (v := .bool false) rfl (ix_neq rfl rfl rfl (by decide)) ?_
    simp only [Act.put, zzA, zz0, zz1]
    refine wR (v := .bool false) rfl (ix_pickF rfl rfl rfl) ?_
    simp only [Act.put, zzA, zz0, zz1]
    go_upto_region 6 with fail
    refine wp_region_lit ?_
    refine wR (v := .int .i64 0) rfl (exec_move rfl rfl) ?_
    simp only [Act.put, zzA, zz0, zz1]
    refine wR (v := .bool false) rfl (ix_neq rfl rfl rfl (by decide)) ?_
    simp only [Act.put, zzA, zz0, zz1]
    go_upto_region 8 with fail
    refine wp_region_lit ?_
    refine wR (v := .int .i64 x1) rfl (exec_move rfl rfl) ?_
    simp only [Act.put, zzA, zz0, zz1]
    refine wR (v := .slice A2 n2 c2) rfl (exec_move rfl rfl) ?_
    simp only [Act.put, zzA, zz0, zz1]
    have hD := dec_at (s := s) HDB.out (HE.out.turn (((HT0.out.next HT1.out).next HT2.out).next HT3.out)) (bs_still HS2.out HT3.out) HN2.out (by have := HLE.out; omega)
    refine wpList_op rfl fun K9 HK9 => ?_
    go_wp2_with fail
    refine (hD).mono ?_
    rintro e w4 ⟨A4, n4, c4, rfl, hfx, hgx, htx⟩
    refine HK9.out _ _ ?_
    clear HK9
    try simp only [Act.put, zzA, zz0, zz1]
    clear hD hgx
    have HT4 := Lib.hid htx
    have HF4 := Lib.hid hfx
    clear htx hfx
    refine wR (v := .tuple #[msgV ty A4 n4 c4, .int .i64 0]) rfl (exec_move rfl rfl) ?_
    simp only [Act.put, zzA, zz0, zz1]
    refine wR (v := msgV ty A4 n4 c4) rfl (ix_extract rfl rfl rfl) ?_
    simp only [Act.put, zzA, zz0, zz1]
    refine wR (v := .int .i64 0) rfl (ix_extract rfl rfl rfl) ?_
    simp only [Act.put, zzA, zz0, zz1]
    refine wpList_new 31 (.tmp 12) (.tmp 49) #[.int .i64 ty, .slice A4 n4 c4] rfl rfl (zero_msg _) rfl rfl rfl rfl rfl rfl (by rw [size_msg]; rfl) (msgA_one _ _ _ _) ?_
    intro w5 gx _ hbx hux
    simp only [Act.put, zzA, zz0, zz1]
    have HBgx := Lib.hid hbx
    have HTgx := Lib.hid hux
    clear hbx hux
    refine wR (v := .int .i64 0) rfl (gx_assign rfl rfl) ?_
    simp only [Act.put, zzA, zz0, zz1]
    go_upto_region 9 with fail
    refine wp_region_lit ?_
    refine wR (v := .int .i64 0) rfl (exec_move rfl rfl) ?_
    simp only [Act.put, zzA, zz0, zz1]
    refine wR (v := .bool false) rfl (ix_neq rfl rfl rfl (by decide)) ?_
    simp only [Act.put, zzA, zz0, zz1]
    refine wR (v := .bool false) rfl (exec_move rfl rfl) ?_
    simp only [Act.put, zzA, zz0, zz1]
    refine wR (v := msgV ty A4 n4 c4) rfl (gx_loads rfl rfl (blk_range HBgx.out) Tryz.underlying31 rfl (by rw [size_msg]; rfl)) ?_
    simp only [Act.put, zzA, zz0, zz1]
    refine wR (v := msgV ty A n c) rfl (gx_loads rfl rfl (blk_range (HBgm.out.turn ((((HT1.out.next HT2.out).next HT3.out).next HT4.out).next HTgx.out) (fun e => e))) Tryz.underlying31 rfl (by rw [size_msg]; rfl)) ?_
    simp only [Act.put, zzA, zz0, zz1]
    have hS := Same_walk (ty1 := ty) (ty2 := ty) (c1 := c4) (c2 := c) (HF4.out.still HTgx.out) (HF.out.still (((((HT0.out.next HT1.out).next HT2.out).next HT3.out).next HT4.out).next HTgx.out))
    rw [decide_eq_true (show ty = ty ∧ fs = fs from ⟨rfl, rfl⟩)] at hS
    refine wpList_op rfl fun K9 HK9 => ?_
    go_wp2_with fail
    refine (hS).mono ?_
    rintro e w6 ⟨rfl, htx⟩
    refine HK9.out _ _ ?_
    clear HK9
    try simp only [Act.put, zzA, zz0, zz1]
    have HT6 := Lib.hid htx
    clear htx hS
    refine wR (v := .bool false) rfl (ix_not (b := true) rfl rfl) ?_
    simp only [Act.put, zzA, zz0, zz1]
    refine wR (v := .bool false) rfl (ix_pickF rfl rfl rfl) ?_
    simp only [Act.put, zzA, zz0, zz1]
    go_upto_region 11 with fail
    refine wp_region_lit ?_
    refine wR (v := .int .i64 x2) rfl (exec_move rfl rfl) ?_
    simp only [Act.put, zzA, zz0, zz1]
    refine wR (v := msgV ty A4 n4 c4) rfl (gx_loads rfl rfl (blk_range (HBgx.out.turn HT6.out (fun e => e))) Tryz.underlying31 rfl (by rw [size_msg]; rfl)) ?_
    simp only [Act.put, zzA, zz0, zz1]
    cases he2 : mencode x2 ty fs with
    | error k =>
      have hE := enc_bad (s := s) (c := c4) he2 (HE.out.turn ((((((HT0.out.next HT1.out).next HT2.out).next HT3.out).next HT4.out).next HTgx.out).next HT6.out)) (HF4.out.still (HTgx.out.next HT6.out))
      refine wpList_op rfl fun K9 HK9 => ?_
      go_wp2_with fail
      refine (hE).mono ?_
      rintro e w7 ⟨A7, n7, c7, rfl, hox, htx⟩
      refine HK9.out _ _ ?_
      clear HK9
      try simp only [Act.put, zzA, zz0, zz1]
      clear hE hox
      have HT7 := Lib.hid htx
      clear htx
      refine wR (v := .tuple #[.slice A7 n7 c7, .int .i64 k]) rfl (exec_move rfl rfl) ?_
      simp only [Act.put, zzA, zz0, zz1]
      refine wR (v := .slice A7 n7 c7) rfl (ix_extract rfl rfl rfl) ?_
      simp only [Act.put, zzA, zz0, zz1]
      refine wR (v := .int .i64 k) rfl (ix_extract rfl rfl rfl) ?_
      simp only [Act.put, zzA, zz0, zz1]
      refine wR (v := .slice A7 n7 c7) rfl (gx_assign rfl rfl) ?_
      simp only [Act.put, zzA, zz0, zz1]
      refine wR (v := .int .i64 k) rfl (gx_assign rfl rfl) ?_
      simp only [Act.put, zzA, zz0, zz1]
      rcases HBE.out k he2 with ⟨rfl, hx⟩ | ⟨rfl, rfl, t, ht, hl, hne⟩
      · clear he2
        go_upto_region 12 with fail
        refine wp_region_lit ?_
        refine wR (v := .int .i64 50) rfl (exec_move rfl rfl) ?_
        simp only [Act.put, zzA, zz0, zz1]
        refine wR (v := .bool true) rfl (ix_eql rfl rfl rfl (by decide)) ?_
        simp only [Act.put, zzA, zz0, zz1]
        go_upto_region 13 with fail
        refine wp_region_lit ?_
        refine wR (v := .int .i64 x2) rfl (exec_move rfl rfl) ?_
        simp only [Act.put, zzA, zz0, zz1]
        by_cases h1 : x2 < 1
        · refine wR (v := .bool true) rfl (ix_lss rfl rfl rfl (decide_eq_true h1)) ?_
          simp only [Act.put, zzA, zz0, zz1]
          refine wR (v := .bool true) rfl (exec_move rfl rfl) ?_
          simp only [Act.put, zzA, zz0, zz1]
          clear h1 hx
          go_wp2_with fail
          go_ret
          exact ⟨rfl, ((((((((HT0.out.next HT1.out).next HT2.out).next HT3.out).next HT4.out).next HTgx.out).next HT6.out).next HT7.out)).below (Nat.le_refl _) (fun _ _ e=>e)⟩
        · have h3 : 3 < x2 := by omega
          refine wR (v := .bool false) rfl (ix_lss rfl rfl rfl (decide_eq_false h1)) ?_
          simp only [Act.put, zzA, zz0, zz1]
          refine wR (v := .bool false) rfl (exec_move rfl rfl) ?_
          simp only [Act.put, zzA, zz0, zz1]
          refine wR (v := .int .i64 x2) rfl (exec_move rfl rfl) ?_
          simp only [Act.put, zzA, zz0, zz1]
          refine wR (v := .bool true) rfl (ix_gtr rfl rfl rfl (decide_eq_true h3)) ?_
          simp only [Act.put, zzA, zz0, zz1]
          refine wR (v := .bool true) rfl (ix_pickF rfl rfl rfl) ?_
          simp only [Act.put, zzA, zz0, zz1]
          refine wR (v := .bool true) rfl (gx_assign rfl rfl) ?_
          simp only [Act.put, zzA, zz0, zz1]
          clear h1 h3 hx
          go_wp2_with fail
          go_ret
          exact ⟨rfl, ((((((((HT0.out.next HT1.out).next HT2.out).next HT3.out).next HT4.out).next HTgx.out).next HT6.out).next HT7.out)).below (Nat.le_refl _) (fun _ _ e=>e)⟩
      · have HNE := Lib.hid hne
        have HL := Lib.hid hl
        clear he2 hne hl
        go_upto_region 12 with fail
        refine wp_region_lit ?_
        refine wR (v := .int .i64 41) rfl (exec_move rfl rfl) ?_
        simp only [Act.put, zzA, zz0, zz1]
        refine wR (v := .bool false) rfl (ix_eql rfl rfl rfl (by decide)) ?_
        simp only [Act.put, zzA, zz0, zz1]
        go_upto_region 14 with fail
        refine wp_region_lit ?_
        refine wR (v := msgV ty A n c) rfl (gx_loads rfl rfl (blk_range (HBgm.out.turn ((((((HT1.out.next HT2.out).next HT3.out).next HT4.out).next HTgx.out).next HT6.out).next HT7.out) (fun e => e))) Tryz.underlying31 rfl (by rw [size_msg]; rfl)) ?_
        simp only [Act.put, zzA, zz0, zz1]
        have hG := Get_walk (ty := ty) (no := 4) (c := c) (HF.out.still (((((((HT0.out.next HT1.out).next HT2.out).next HT3.out).next HT4.out).next HTgx.out).next HT6.out).next HT7.out))
        rw [ht] at hG
        clear ht
        refine wpList_op rfl fun K9 HK9 => ?_
        go_wp2_with fail
        refine (hG).mono ?_
        rintro e w8 ⟨rfl, htx⟩
        refine HK9.out _ _ ?_
        clear HK9
        try simp only [Act.put, zzA, zz0, zz1]
        clear hG
        have HT8 := Lib.hid htx
        clear htx
        refine wR (v := .tuple #[strV t, .bool true]) rfl (exec_move rfl rfl) ?_
        simp only [Act.put, zzA, zz0, zz1]
        refine wR (v := strV t) rfl (ix_extract rfl rfl rfl) ?_
        simp only [Act.put, zzA, zz0, zz1]
        refine wR (v := .bool true) rfl (ix_extract rfl rfl rfl) ?_
        simp only [Act.put, zzA, zz0, zz1]
        refine wR (v := strV t) rfl (gx_assign rfl rfl) ?_
        simp only [Act.put, zzA, zz0, zz1]
        refine wR (v := .bool true) rfl (gx_assign rfl rfl) ?_
        simp only [Act.put, zzA, zz0, zz1]
        go_upto_region 15 with fail
        refine wp_region_lit ?_
        refine wR (v := .int .i64 41) rfl (exec_move rfl rfl) ?_
        simp only [Act.put, zzA, zz0, zz1]
        refine wR (v := .bool true) rfl (ix_neq rfl rfl rfl (by decide)) ?_
        simp only [Act.put, zzA, zz0, zz1]
        go_upto_region 16 with fail
        refine wp_region_lit ?_
        refine wR (v := .int .i64 41) rfl (exec_move rfl rfl) ?_
        simp only [Act.put, zzA, zz0, zz1]
        refine wR (v := .bool true) rfl (ix_eql rfl rfl rfl (by decide)) ?_
        simp only [Act.put, zzA, zz0, zz1]
        refine wR (v := .bool true) rfl (exec_move rfl rfl) ?_
        simp only [Act.put, zzA, zz0, zz1]
        refine wR (v := .int .i64 3) rfl (exec_move rfl rfl) ?_
        simp only [Act.put, zzA, zz0, zz1]
        refine wR (v := .bool true) rfl (ix_eql rfl rfl rfl (by decide)) ?_
        simp only [Act.put, zzA, zz0, zz1]
        refine wR (v := .bool true) rfl (ix_pickT rfl rfl rfl) ?_
        simp only [Act.put, zzA, zz0, zz1]
        refine wR (v := .bool true) rfl (exec_move rfl rfl) ?_
        simp only [Act.put, zzA, zz0, zz1]
        refine wR (v := .bool true) rfl (exec_move rfl rfl) ?_
        simp only [Act.put, zzA, zz0, zz1]
        refine wR (v := .bool true) rfl (ix_pickT rfl rfl rfl) ?_
        simp only [Act.put, zzA, zz0, zz1]
        refine wR (v := .bool true) rfl (exec_move rfl rfl) ?_
        simp only [Act.put, zzA, zz0, zz1]
        refine wR (v := strV t) rfl (exec_move rfl rfl) ?_
        simp only [Act.put, zzA, zz0, zz1]
        refine wR (v := strV (t.take 2)) rfl (exec_sto (n := 2) rfl rfl rfl (by rw [HL.out]; decide)) ?_
        simp only [Act.put, zzA, zz0, zz1]
        refine wR (v := .bool true) rfl (sneq_t (l := t.take 2) (m := [48, 48]) rfl rfl rfl HNE.out) ?_
        simp only [Act.put, zzA, zz0, zz1]
        refine wR (v := .bool true) rfl (ix_pickT rfl rfl rfl) ?_
        simp only [Act.put, zzA, zz0, zz1]
        refine wR (v := .bool true) rfl (gx_assign rfl rfl) ?_
        simp only [Act.put, zzA, zz0, zz1]
        go_wp2_with fail
        go_ret
        exact ⟨rfl, (((((((((HT0.out.next HT1.out).next HT2.out).next HT3.out).next HT4.out).next HTgx.out).next HT6.out).next HT7.out).next HT8.out)).below (Nat.le_refl _) (fun _ _ e=>e)⟩
    | ok b9 =>
      have hE := enc_at (s := s) (c := c4) he2 (HE.out.turn ((((((HT0.out.next HT1.out).next HT2.out).next HT3.out).next HT4.out).next HTgx.out).next HT6.out)) (HF4.out.still (HTgx.out.next HT6.out))
      refine wpList_op rfl fun K9 HK9 => ?_
      go_wp2_with fail
      refine (hE).mono ?_
      rintro e w7 ⟨A7, n7, c7, rfl, hox, htx⟩
      refine HK9.out _ _ ?_
      clear HK9
      try simp only [Act.put, zzA, zz0, zz1]
      clear hE
      have HT7 := Lib.hid htx
      clear htx
      obtain ⟨A9, n9, c8, hf9, hb9, hnc9, hz9⟩ := hox.form
      injection hf9 with g1 g2 g3
      subst g1 g2 g3
      have HS7 := Lib.hid hb9
      have HN7 := Lib.hid hnc9
      have HL7 := Lib.hid (show n7 ≤ 500 from by rw [← hb9.1]; exact menc_len he2)
      have HD2 := Lib.hid (mdecode_back he2)
      clear hox hb9 hnc9 hz9 he2
      refine wR (v := .tuple #[.slice A7 n7 c7, .int .i64 0]) rfl (exec_move rfl rfl) ?_
      simp only [Act.put, zzA, zz0, zz1]
      refine wR (v := .slice A7 n7 c7) rfl (ix_extract rfl rfl rfl) ?_
      simp only [Act.put, zzA, zz0, zz1]
      refine wR (v := .int .i64 0) rfl (ix_extract rfl rfl rfl) ?_
      simp only [Act.put, zzA, zz0, zz1]
      refine wR (v := .slice A7 n7 c7) rfl (gx_assign rfl rfl) ?_
      simp only [Act.put, zzA, zz0, zz1]
      refine wR (v := .int .i64 0) rfl (gx_assign rfl rfl) ?_
      simp only [Act.put, zzA, zz0, zz1]
      go_upto_region 12 with fail
      refine wp_region_lit ?_
      refine wR (v := .int .i64 0) rfl (exec_move rfl rfl) ?_
      simp only [Act.put, zzA, zz0, zz1]
      refine wR (v := .bool false) rfl (ix_eql rfl rfl rfl (by decide)) ?_
      simp only [Act.put, zzA, zz0, zz1]
      go_upto_region 14 with fail
      refine wp_region_lit ?_
      refine wR (v := msgV ty A n c) rfl (gx_loads rfl rfl (blk_range (HBgm.out.turn ((((((HT1.out.next HT2.out).next HT3.out).next HT4.out).next HTgx.out).next HT6.out).next HT7.out) (fun e => e))) Tryz.underlying31 rfl (by rw [size_msg]; rfl)) ?_
      simp only [Act.put, zzA, zz0, zz1]
      have hG := Get_walk (ty := ty) (no := 4) (c := c) (HF.out.still (((((((HT0.out.next HT1.out).next HT2.out).next HT3.out).next HT4.out).next HTgx.out).next HT6.out).next HT7.out))
      obtain ⟨gt, gb, hg⟩ : ∃ gt gb, gotV (getM 4 fs) = .tuple #[strV gt, .bool gb] := by
        cases getM 4 fs with
        | none => exact ⟨_, _, rfl⟩
        | some t => exact ⟨_, _, rfl⟩
      rw [hg] at hG
      clear hg
      refine wpList_op rfl fun K9 HK9 => ?_
      go_wp2_with fail
      refine (hG).mono ?_
      rintro e w8 ⟨rfl, htx⟩
      refine HK9.out _ _ ?_
      clear HK9
      try simp only [Act.put, zzA, zz0, zz1]
      clear hG
      have HT8 := Lib.hid htx
      clear htx
      refine wR (v := .tuple #[strV gt, .bool gb]) rfl (exec_move rfl rfl) ?_
      simp only [Act.put, zzA, zz0, zz1]
      refine wR (v := strV gt) rfl (ix_extract rfl rfl rfl) ?_
      simp only [Act.put, zzA, zz0, zz1]
      refine wR (v := .bool gb) rfl (ix_extract rfl rfl rfl) ?_
      simp only [Act.put, zzA, zz0, zz1]
      refine wR (v := strV gt) rfl (gx_assign rfl rfl) ?_
      simp only [Act.put, zzA, zz0, zz1]
      refine wR (v := .bool gb) rfl (gx_assign rfl rfl) ?_
      simp only [Act.put, zzA, zz0, zz1]
      go_upto_region 15 with fail
      refine wp_region_lit ?_
      refine wR (v := .int .i64 0) rfl (exec_move rfl rfl) ?_
      simp only [Act.put, zzA, zz0, zz1]
      refine wR (v := .bool false) rfl (ix_neq rfl rfl rfl (by decide)) ?_
      simp only [Act.put, zzA, zz0, zz1]
      go_upto_region 17 with fail
      refine wp_region_lit ?_
      refine wR (v := .int .i64 x2) rfl (exec_move rfl rfl) ?_
      simp only [Act.put, zzA, zz0, zz1]
      refine wR (v := .slice A7 n7 c7) rfl (exec_move rfl rfl) ?_
      simp only [Act.put, zzA, zz0, zz1]
      have hD := dec_at (s := s) HD2.out (HE.out.turn ((((((((HT0.out.next HT1.out).next HT2.out).next HT3.out).next HT4.out).next HTgx.out).next HT6.out).next HT7.out).next HT8.out)) (bs_still HS7.out HT8.out) HN7.out (by have := HL7.out; omega)
      refine wpList_op rfl fun K9 HK9 => ?_
      go_wp2_with fail
      refine (hD).mono ?_
      rintro e w9 ⟨A9, n9, c9, rfl, hfx, hgx, htx⟩
      refine HK9.out _ _ ?_
      clear HK9
      try simp only [Act.put, zzA, zz0, zz1]
      clear hD hgx
      have HT9 := Lib.hid htx
      have HF9 := Lib.hid hfx
      clear htx hfx
      refine wR (v := .tuple #[msgV ty A9 n9 c9, .int .i64 0]) rfl (exec_move rfl rfl) ?_
      simp only [Act.put, zzA, zz0, zz1]
      refine wR (v := msgV ty A9 n9 c9) rfl (ix_extract rfl rfl rfl) ?_
      simp only [Act.put, zzA, zz0, zz1]
      refine wR (v := .int .i64 0) rfl (ix_extract rfl rfl rfl) ?_
      simp only [Act.put, zzA, zz0, zz1]
      refine wpList_new 31 (.tmp 18) (.tmp 98) #[.int .i64 ty, .slice A9 n9 c9] rfl rfl (zero_msg _) rfl rfl rfl rfl rfl rfl (by rw [size_msg]; rfl) (msgA_one _ _ _ _) ?_
      intro w10 gy _ hbx hux
      simp only [Act.put, zzA, zz0, zz1]
      have HBgy := Lib.hid hbx
      have HTgy := Lib.hid hux
      clear hbx hux
      refine wR (v := .int .i64 0) rfl (gx_assign rfl rfl) ?_
      simp only [Act.put, zzA, zz0, zz1]
      go_upto_region 18 with fail
      refine wp_region_lit ?_
      refine wR (v := .int .i64 0) rfl (exec_move rfl rfl) ?_
      simp only [Act.put, zzA, zz0, zz1]
      refine wR (v := .bool true) rfl (ix_eql rfl rfl rfl (by decide)) ?_
      simp only [Act.put, zzA, zz0, zz1]
      refine wR (v := .bool true) rfl (exec_move rfl rfl) ?_
      simp only [Act.put, zzA, zz0, zz1]
      refine wR (v := msgV ty A9 n9 c9) rfl (gx_loads rfl rfl (blk_range HBgy.out) Tryz.underlying31 rfl (by rw [size_msg]; rfl)) ?_
      simp only [Act.put, zzA, zz0, zz1]
      refine wR (v := msgV ty A n c) rfl (gx_loads rfl rfl (blk_range (HBgm.out.turn (((((((((HT1.out.next HT2.out).next HT3.out).next HT4.out).next HTgx.out).next HT6.out).next HT7.out).next HT8.out).next HT9.out).next HTgy.out) (fun e => e))) Tryz.underlying31 rfl (by rw [size_msg]; rfl)) ?_
      simp only [Act.put, zzA, zz0, zz1]
      have hS := Same_walk (ty1 := ty) (ty2 := ty) (c1 := c9) (c2 := c) (HF9.out.still HTgy.out) (HF.out.still ((((((((((HT0.out.next HT1.out).next HT2.out).next HT3.out).next HT4.out).next HTgx.out).next HT6.out).next HT7.out).next HT8.out).next HT9.out).next HTgy.out))
      rw [decide_eq_true (show ty = ty ∧ fs = fs from ⟨rfl, rfl⟩)] at hS
      refine wpList_op rfl fun K9 HK9 => ?_
      go_wp2_with fail
      refine (hS).mono ?_
      rintro e w11 ⟨rfl, htx⟩
      refine HK9.out _ _ ?_
      clear HK9
      try simp only [Act.put, zzA, zz0, zz1]
      have HT11 := Lib.hid htx
      clear htx hS
      refine wR (v := .bool true) rfl (ix_pickT rfl rfl rfl) ?_
      simp only [Act.put, zzA, zz0, zz1]
      refine wR (v := .bool true) rfl (gx_assign rfl rfl) ?_
      simp only [Act.put, zzA, zz0, zz1]
      go_wp2_with fail
      go_ret
      exact ⟨rfl, ((((((((((((HT0.out.next HT1.out).next HT2.out).next HT3.out).next HT4.out).next HTgx.out).next HT6.out).next HT7.out).next HT8.out).next HT9.out).next HTgy.out).next HT11.out)).below (Nat.le_refl _) (fun _ _ e=>e)⟩
end Go.Proofs.YtkbdijkoedmgnaaGreatDoor
namespace Go.Proofs.YtkbdijkoedmgnaaGreatDoor
open Go.RowKit Go.ChangeShapes Go.WideShapes Go.ChangeAt
open Fdd
set_option linter.unusedVariables false
def rowD (r : Rw) : DataW Unit := .agg [.lit (.string r.d), .lit (.string r.h), .lit (.string r.s), .lit (.string r.m)]
theorem rows_datum : (Rows.laid_groat_field_rows : DataW Unit) = .agg [rowD (rws 0), rowD (rws 1), rowD (rws 2), rowD (rws 3)] := rfl
theorem gRows : Tryz.prog.globalNamed "groat/field.rows" = some 12 := by kernel_rfl
theorem gRowsType : (Tryz.prog.globals[12]?).map (·.type) = some 194 := by kernel_rfl
theorem cells_rows : Tryz.prog.cellsOf 194 = 16 := by kernel_rfl
theorem cells_row : Tryz.prog.cellsOf 193 = 4 := by kernel_rfl
theorem list4 {l : List Value} (h : l.length = 4) : ∃ a b c d, l = [a, b, c, d] := by
  match l, h with
  | [a, b, c, d], _ => exact ⟨a, b, c, d, rfl⟩
section
variable {enc : TypeId × Value → Unit} {w : World} {base : Nat} {spare : Nat → Bool} {held : Bool}
theorem str_of {n : Nat} {v : Value} {y : DataW Unit × List MemPlace} {l : List UInt8} (h : DataW.trod enc Tryz.prog w base spare held n 9 [v] = some y) (hy : y.1 = .lit (.string l)) : v = strV l := by
  obtain ⟨s, hc, rfl, _⟩ := DataW.trod_string Tryz.underlying9 h
  injection hc with hc
  injection hy with hy
  injection hy with hy
  rw [hc, ← hy]
  rfl
theorem cells_str : Tryz.prog.cellsOf 9 = 1 := by kernel_rfl
theorem row_of {n : Nat} {cs : List Value} {y : DataW Unit × List MemPlace} {r : Rw} (h : DataW.trod enc Tryz.prog w base spare held n 193 cs = some y) (hy : y.1 = rowD r) : cs = rowV r := by
  obtain ⟨ys, m, _, hx, hl, hyl, hf⟩ := DataW.trod_struct Tryz.underlying193 h
  rw [cells_row] at hl
  obtain ⟨c0, c1, c2, c3, rfl⟩ := list4 hl
  have f0 : DataW.trod enc Tryz.prog w base spare held m 9 (([c0, c1, c2, c3].drop 0).take (Tryz.prog.cellsOf 9)) = ys[0]? := hf 0 _ rfl
  have f1 : DataW.trod enc Tryz.prog w base spare held m 9 (([c0, c1, c2, c3].drop 1).take (Tryz.prog.cellsOf 9)) = ys[1]? := hf 1 _ rfl
  have f2 : DataW.trod enc Tryz.prog w base spare held m 9 (([c0, c1, c2, c3].drop 2).take (Tryz.prog.cellsOf 9)) = ys[2]? := hf 2 _ rfl
  have f3 : DataW.trod enc Tryz.prog w base spare held m 9 (([c0, c1, c2, c3].drop 3).take (Tryz.prog.cellsOf 9)) = ys[3]? := hf 3 _ rfl
  rw [cells_str] at f0 f1 f2 f3
  have hyl4 : ys.length = 4 := hyl
  clear hf hl hyl
  match ys, hyl4 with
  | [y0, y1, y2, y3], _ =>
    have e0 : DataW.trod enc Tryz.prog w base spare held m 9 [c0] = some y0 := f0
    have e1 : DataW.trod enc Tryz.prog w base spare held m 9 [c1] = some y1 := f1
    have e2 : DataW.trod enc Tryz.prog w base spare held m 9 [c2] = some y2 := f2
    have e3 : DataW.trod enc Tryz.prog w base spare held m 9 [c3] = some y3 := f3
    rw [hx] at hy
    unfold rowD at hy
    simp only [List.map_cons, List.map_nil, DataW.agg.injEq, List.cons.injEq, and_true] at hy
    rw [str_of e0 hy.1, str_of e1 hy.2.1, str_of e2 hy.2.2.1, str_of e3 hy.2.2.2]
    rfl
end
theorem rows_of_laid {W : World} {l : List (String × DataW Unit)} (hl : l.filter (fun x => x.1 == "groat/field.rows") = [("groat/field.rows", Rows.laid_groat_field_rows)]) (h : laidMetH Tryz.prog l W) : RowsT W := by
  have h1 := h.filter (fun x => x.1 == "groat/field.rows")
  rw [hl, Go.MakeChecks.laidMetH_plain _ _ _ rfl] at h1
  obtain ⟨ps, ⟨g, t, cs, fuel, p, q, hg, ht, hv, hd, _, _⟩, _⟩ := h1
  obtain rfl := Option.some.inj (gRows.symm.trans hg)
  obtain rfl := Option.some.inj (gRowsType.symm.trans ht)
  rw [rows_datum] at hd
  obtain ⟨xs, m, _, hx, hlen, hxl, hf⟩ := DataW.trod_array Tryz.underlying194 hd
  have hm : xs.map (·.1) = [rowD (rws 0), rowD (rws 1), rowD (rws 2), rowD (rws 3)] := by
    have := congrArg Prod.fst hx
    injection this with this
    exact this.symm
  rw [cells_rows] at hlen
  intro k hk j v hj
  have hfk := hf k hk
  rw [cells_row] at hfk
  have hxk : xs[k]? = some xs[k] := List.getElem?_eq_getElem (by omega)
  rw [hxk] at hfk
  have hdk : xs[k].1 = rowD (rws k) := by
    have h2 := congrArg (fun l => l[k]?) hm
    simp only [List.getElem?_map, hxk, Option.map_some] at h2
    have hkk : k = 0 ∨ k = 1 ∨ k = 2 ∨ k = 3 := by omega
    rcases hkk with rfl | rfl | rfl | rfl <;> simpa using h2
  have hrow := row_of hfk hdk
  have hcell : W.cell? ⟨12, k * 4 + j, none⟩ = cs[k * 4 + j]? := World.var?_cell hg hv (k * 4 + j)
  rw [hcell]
  rw [← hrow] at hj
  have hj4 : j < 4 := by
    have := (List.getElem?_eq_some_iff.1 hj).1
    simp at this
    omega
  rw [List.getElem?_take, if_pos hj4, List.getElem?_drop] at hj
  rw [← Array.getElem?_toList]
  exact hj
end Go.Proofs.YtkbdijkoedmgnaaGreatDoor
namespace Go.Proofs.YtkbdijkoedmgnaaGreatDoor
open Go.RowKit Go.ChangeShapes Go.WideShapes Go.ChangeAt
set_option linter.unusedVariables false
theorem pow_datum : (Rows.laid_internal_strconv_uint64pow10 : DataW Unit) = Lib.tabData .u64 Lib.pow10Tab := by kernel_rfl
theorem pow_of_laid {W : World} {l : List (String × DataW Unit)} (hl : l.filter (fun x => x.1 == "internal/strconv.uint64pow10") = [("internal/strconv.uint64pow10", Rows.laid_internal_strconv_uint64pow10)]) (h : laidMetH Tryz.prog l W) : PowT W := by
  have h1 := h.filter (fun x => x.1 == "internal/strconv.uint64pow10")
  rw [hl, Go.MakeChecks.laidMetH_plain _ _ _ rfl, pow_datum] at h1
  exact Lib.tabIs_of_head (t := 236) (e := 139) (n := 20) gPow (by kernel_rfl) Tryz.underlying236 Tryz.underlying139 (by kernel_rfl) (by kernel_rfl) h1
end Go.Proofs.YtkbdijkoedmgnaaGreatDoor
namespace Go.Proofs.YtkbdijkoedmgnaaGreatDoor
open Go.RowKit Go.ChangeShapes Go.WideShapes Go.ChangeAt Go.Deep
open Fdd
set_option linter.unusedVariables false
theorem star : "*" ++ "errors.errorString" = "*errors.errorString" := by decide
theorem row_es (u : TypeId) (h : Tryz.prog.typeName? 3 u = some "*errors.errorString") : u = 240 :=
  typeName_ptr_named (nm := "errors.errorString") (by rw [star]; kernel_rfl) (by kernel_rfl) (by decide) u (by rw [star]; exact h)
def sentD (text : List UInt8) : DataW Unit := .iface "*errors.errorString" (.ptr (.agg [.lit (.string text)]))
theorem cells_es : Tryz.prog.cellsOf 242 = 1 := by kernel_rfl
theorem cells_s1 : Tryz.prog.cellsOf 9 = 1 := by kernel_rfl
set_option maxRecDepth 20000 in
/-- one of them -/
theorem sent1 {n : String} {text : List UInt8} {g : Nat} {W : World} {l : List (String × DataW Unit)} (hl : l.filter (fun x => x.1 == n) = [(n, sentD text)]) (h : laidMetH Tryz.prog l W)
    (hg : Tryz.prog.globalNamed n = some g) (ht : (Tryz.prog.globals[g]?).map (·.type) = some 53) : ∃ a, SenAt W g a := by
  have h1 := h.filter (fun x => x.1 == n)
  rw [hl, Go.MakeChecks.laidMetH_plain _ _ _ rfl] at h1
  obtain ⟨ps, ⟨g0, t0, cs0, f0, p0, q0, hg0, ht0, hv0, hd0, _, e0⟩, _, hrows⟩ := h1
  obtain rfl := Option.some.inj (hg.symm.trans hg0)
  obtain rfl := Option.some.inj (ht.symm.trans ht0)
  subst e0
  obtain ⟨l0⟩ := cs0
  have ok0 : ∀ u v, l0 = [.iface u v] → Value.okWide Tryz.prog W .any 0 u v := fun u v e => by
    subst e
    exact (hrows g 0 (by simp [MemPlace.row])).2 u v (by simpa using World.var?_cell hg0 hv0 0)
  obtain ⟨a0, s0, rfl, hc0, hs0, hz0, rfl⟩ := errorString_of_trod Tryz.underlying53 row_es Tryz.underlying240 Tryz.underlying242 rfl rfl Tryz.underlying9 cells_es cells_s1 hd0 ok0
  obtain ⟨c0, t0, hb0⟩ := (hrows a0.block a0.off (by simp [MemPlace.row])).1
  exact ⟨a0, by simpa using World.var?_cell hg0 hv0 0, c0, t0, hb0⟩
set_option maxRecDepth 20000 in
/-- two of them -/
theorem sent2 {n0 n1 : String} {x0 x1 : List UInt8} {g0 g1 : Nat} {a b : Addr} {W : World} {l : List (String × DataW Unit)} (h : laidMetH Tryz.prog l W) (hl : l.filter (fun x => x.1 == n0 || x.1 == n1) = [(n0, sentD x0), (n1, sentD x1)])
    (hg0 : Tryz.prog.globalNamed n0 = some g0) (ht0 : (Tryz.prog.globals[g0]?).map (·.type) = some 53) (hg1 : Tryz.prog.globalNamed n1 = some g1) (ht1 : (Tryz.prog.globals[g1]?).map (·.type) = some 53)
    (ha : SenAt W g0 a) (hb : SenAt W g1 b) : a ≠ b := by
  have h1 := h.filter (fun x => x.1 == n0 || x.1 == n1)
  rw [hl, Go.MakeChecks.laidMetH_plain _ _ _ rfl] at h1
  obtain ⟨a0, a1, s0, s1, c0, c1, t0, t1, hv0, hv1, _, _, _, _, _, _, hne, _, _⟩ := laid_sentinels2 h1 hg0 ht0 hg1 ht1 Tryz.underlying53 row_es Tryz.underlying240 Tryz.underlying242 rfl rfl Tryz.underlying9 cells_es cells_s1
  have e0 : W.cell? ⟨g0, 0, none⟩ = some (.iface 240 (.pointer (some a0))) := by simpa using World.var?_cell hg0 hv0 0
  have e1 : W.cell? ⟨g1, 0, none⟩ = some (.iface 240 (.pointer (some a1))) := by simpa using World.var?_cell hg1 hv1 0
  have ea : a = a0 := by
    have := ha.1.symm.trans e0
    injection this with this
    injection this with _ this
    injection this with this
    injection this
  have eb : b = a1 := by
    have := hb.1.symm.trans e1
    injection this with this
    injection this with _ this
    injection this with this
    injection this
  rw [ea, eb]
  exact hne
theorem g_errDialect : Tryz.prog.globalNamed "groat/message.errDialect" = some 0 := by kernel_rfl
theorem gt_errDialect : (Tryz.prog.globals[0]?).map (·.type) = some 53 := by kernel_rfl
theorem g_errType : Tryz.prog.globalNamed "groat/message.errType" = some 2 := by kernel_rfl
theorem gt_errType : (Tryz.prog.globals[2]?).map (·.type) = some 53 := by kernel_rfl
theorem g_errLong : Tryz.prog.globalNamed "groat/message.errLong" = some 3 := by kernel_rfl
theorem gt_errLong : (Tryz.prog.globals[3]?).map (·.type) = some 53 := by kernel_rfl
theorem g_errMap : Tryz.prog.globalNamed "groat/message.errMap" = some 4 := by kernel_rfl
theorem gt_errMap : (Tryz.prog.globals[4]?).map (·.type) = some 53 := by kernel_rfl
theorem g_errMore : Tryz.prog.globalNamed "groat/message.errMore" = some 5 := by kernel_rfl
theorem gt_errMore : (Tryz.prog.globals[5]?).map (·.type) = some 53 := by kernel_rfl
theorem g_errField : Tryz.prog.globalNamed "groat/message.errField" = some 7 := by kernel_rfl
theorem gt_errField : (Tryz.prog.globals[7]?).map (·.type) = some 53 := by kernel_rfl
theorem g_errText : Tryz.prog.globalNamed "groat/message.errText" = some 9 := by kernel_rfl
theorem gt_errText : (Tryz.prog.globals[9]?).map (·.type) = some 53 := by kernel_rfl
theorem g_errBytes : Tryz.prog.globalNamed "groat/message.errBytes" = some 10 := by kernel_rfl
theorem gt_errBytes : (Tryz.prog.globals[10]?).map (·.type) = some 53 := by kernel_rfl
theorem g_errShort : Tryz.prog.globalNamed "groat/message.errShort" = some 11 := by kernel_rfl
theorem gt_errShort : (Tryz.prog.globals[11]?).map (·.type) = some 53 := by kernel_rfl
theorem gEt : Tryz.prog.globalNamed "errors.errorType" = some 8 := by kernel_rfl
theorem rt_type : (Tryz.prog.cutTypes.find? (·.1 == "internal/reflectlite.rtype")).map (·.2) = some 147 := by kernel_rfl
theorem er_only : ((List.range Tryz.prog.types.size).all fun u => !(Tryz.prog.rowNamed u [101, 114, 114, 111, 114]) || u == 53) = true := by kernel_rfl
theorem etype_of_laid {W : World} {l : List (String × DataW Unit)} (hl : l.filter (fun x => x.1 == "errors.errorType") = [("errors.errorType", Rows.laid_errors_errorType)]) (h : laidMetH Tryz.prog l W) : W.cell? ⟨8, 0, none⟩ = some (.iface 147 (.agg #[.pointer (some ⟨21, 53, none⟩)])) := by
  have h1 := h.filter (fun x => x.1 == "errors.errorType")
  rw [hl] at h1
  obtain ⟨_, h2⟩ : laidMet Tryz.prog [] W ∧ handlesMet Tryz.prog [("errors.errorType", Rows.laid_errors_errorType)] W := h1
  have h3 := h2 _ (List.mem_singleton.2 rfl)
  obtain ⟨name, u, ty, hn, hu, hty, hr, hv⟩ : ∃ name u ty, (Rows.laid_errors_errorType : DataW Unit).handleName? = some name ∧ (Tryz.prog.cutTypes.find? (·.1 == "internal/reflectlite.rtype")).map (·.2) = some u ∧ ty < Tryz.prog.types.size ∧ Tryz.prog.rowNamed ty name = true ∧ W.var? Tryz.prog "errors.errorType" = some #[.iface u (.agg #[typeHandle Tryz.prog ty])] := h3
  obtain rfl : [101, 114, 114, 111, 114] = name := Option.some.inj ((show (Rows.laid_errors_errorType : DataW Unit).handleName? = some [101, 114, 114, 111, 114] from by kernel_rfl).symm.trans hn)
  obtain rfl := Option.some.inj (rt_type.symm.trans hu)
  have hq := List.all_eq_true.1 er_only ty (List.mem_range.2 hty)
  rw [hr] at hq
  obtain rfl : ty = 53 := by simpa using hq
  have := World.var?_cell gEt hv 0
  simpa [typeHandle, show Tryz.prog.globals.size = 21 from by kernel_rfl] using this
def zeros64s : List Int := [0,1,56,2,57,49,28,3,61,58,42,50,38,29,17,4,62,47,59,36,45,43,51,22,53,39,33,30,24,18,12,5,63,55,48,27,60,41,37,16,46,35,44,21,52,32,23,11,54,26,40,15,34,20,31,10,25,14,19,9,13,8,7,6]
theorem gZer : Tryz.prog.globalNamed "math/bits.deBruijn64tab" = some 20 := by kernel_rfl
theorem zer_datum : (Rows.laid_math_bits_deBruijn64tab : DataW Unit) = Lib.tabData .u8 zeros64s := by kernel_rfl
theorem zer_of_laid {W : World} {l : List (String × DataW Unit)} (hl : l.filter (fun x => x.1 == "math/bits.deBruijn64tab") = [("math/bits.deBruijn64tab", Rows.laid_math_bits_deBruijn64tab)]) (h : laidMetH Tryz.prog l W) : ZerT W := by
  have h1 := h.filter (fun x => x.1 == "math/bits.deBruijn64tab")
  rw [hl, Go.MakeChecks.laidMetH_plain _ _ _ rfl, zer_datum] at h1
  have h2 := Lib.tabIs_of_head (t := 251) (e := 5) (n := 64) gZer (by kernel_rfl) Tryz.underlying251 Tryz.underlying5 (by kernel_rfl) (by kernel_rfl) h1
  exact h2.cell gZer 15 (by decide)
theorem gTong : Tryz.prog.globalNamed "groat/message.tongues" = some 1 := by kernel_rfl
theorem gTongType : (Tryz.prog.globals[1]?).map (·.type) = some 79 := by kernel_rfl
theorem cells_tongs : Tryz.prog.cellsOf 79 = 12 := by kernel_rfl
theorem cells_tong : Tryz.prog.cellsOf 51 = 3 := by kernel_rfl
theorem cells_i : Tryz.prog.cellsOf 3 = 1 := by kernel_rfl
def tongD (k : Int) (v u : List UInt8) : DataW Unit := .agg [.lit (.int .i64 k), .lit (.string v), .lit (.string u)]
theorem tong_datum : (Rows.laid_groat_message_tongues : DataW Unit) = .agg [tongD 0 [] [], tongD 1 [48] [], tongD 2 [49] [], tongD 3 [57] [48, 48]] := rfl
theorem list3 {l : List Value} (h : l.length = 3) : ∃ a b c, l = [a, b, c] := by
  match l, h with
  | [a, b, c], _ => exact ⟨a, b, c, rfl⟩
section
variable {enc : TypeId × Value → Unit} {w : World} {base : Nat} {spare : Nat → Bool} {held : Bool}
theorem int_of {n : Nat} {v : Value} {y : DataW Unit × List MemPlace} {k : Int} (h : DataW.trod enc Tryz.prog w base spare held n 3 [v] = some y) (hy : y.1 = .lit (.int .i64 k)) : v = .int .i64 k := by
  obtain ⟨s, hc, rfl, _⟩ := DataW.trod_int Tryz.underlying3 h
  injection hc with hc
  injection hy with hy
  injection hy with _ hy
  rw [hc, ← hy]
theorem tong_of {n : Nat} {cs : List Value} {y : DataW Unit × List MemPlace} {k : Int} {v u : List UInt8} (h : DataW.trod enc Tryz.prog w base spare held n 51 cs = some y) (hy : y.1 = tongD k v u) : cs = [.int .i64 k, strV v, strV u] := by
  obtain ⟨ys, m, _, hx, hl, hyl, hf⟩ := DataW.trod_struct Tryz.underlying51 h
  rw [cells_tong] at hl
  obtain ⟨c0, c1, c2, rfl⟩ := list3 hl
  have f0 : DataW.trod enc Tryz.prog w base spare held m 3 (([c0, c1, c2].drop 0).take (Tryz.prog.cellsOf 3)) = ys[0]? := hf 0 _ rfl
  have f1 : DataW.trod enc Tryz.prog w base spare held m 9 (([c0, c1, c2].drop 1).take (Tryz.prog.cellsOf 9)) = ys[1]? := hf 1 _ rfl
  have f2 : DataW.trod enc Tryz.prog w base spare held m 9 (([c0, c1, c2].drop 2).take (Tryz.prog.cellsOf 9)) = ys[2]? := hf 2 _ rfl
  rw [cells_s1] at f1 f2
  rw [cells_i] at f0
  have hyl3 : ys.length = 3 := hyl
  clear hf hl hyl
  match ys, hyl3 with
  | [y0, y1, y2], _ =>
    have e0 : DataW.trod enc Tryz.prog w base spare held m 3 [c0] = some y0 := f0
    have e1 : DataW.trod enc Tryz.prog w base spare held m 9 [c1] = some y1 := f1
    have e2 : DataW.trod enc Tryz.prog w base spare held m 9 [c2] = some y2 := f2
    rw [hx] at hy
    unfold tongD at hy
    simp only [List.map_cons, List.map_nil, DataW.agg.injEq, List.cons.injEq, and_true] at hy
    rw [int_of e0 hy.1, str_of e1 hy.2.1, str_of e2 hy.2.2]
theorem row3_of {n : Nat} {cs : List Value} {y : DataW Unit × List MemPlace} {a b c : Int} (h : DataW.trod enc Tryz.prog w base spare held n 88 cs = some y) (hy : y.1 = .agg [.lit (.int .i64 a), .lit (.int .i64 b), .lit (.int .i64 c)]) : cs = [.int .i64 a, .int .i64 b, .int .i64 c] := by
  obtain ⟨ys, m, _, hx, hl, hyl, hf⟩ := DataW.trod_struct Tryz.underlying88 h
  rw [show Tryz.prog.cellsOf 88 = 3 from by kernel_rfl] at hl
  obtain ⟨c0, c1, c2, rfl⟩ := list3 hl
  have f0 : DataW.trod enc Tryz.prog w base spare held m 3 (([c0, c1, c2].drop 0).take (Tryz.prog.cellsOf 3)) = ys[0]? := hf 0 _ rfl
  have f1 : DataW.trod enc Tryz.prog w base spare held m 3 (([c0, c1, c2].drop 1).take (Tryz.prog.cellsOf 3)) = ys[1]? := hf 1 _ rfl
  have f2 : DataW.trod enc Tryz.prog w base spare held m 3 (([c0, c1, c2].drop 2).take (Tryz.prog.cellsOf 3)) = ys[2]? := hf 2 _ rfl
  rw [cells_i] at f0 f1 f2
  have hyl3 : ys.length = 3 := hyl
  clear hf hl hyl
  match ys, hyl3 with
  | [y0, y1, y2], _ =>
    have e0 : DataW.trod enc Tryz.prog w base spare held m 3 [c0] = some y0 := f0
    have e1 : DataW.trod enc Tryz.prog w base spare held m 3 [c1] = some y1 := f1
    have e2 : DataW.trod enc Tryz.prog w base spare held m 3 [c2] = some y2 := f2
    rw [hx] at hy
    simp only [List.map_cons, List.map_nil, DataW.agg.injEq, List.cons.injEq, and_true] at hy
    rw [int_of e0 hy.1, int_of e1 hy.2.1, int_of e2 hy.2.2]
end
set_option maxRecDepth 20000 in
theorem tong_of_laid {W : World} {l : List (String × DataW Unit)} (hl : l.filter (fun x => x.1 == "groat/message.tongues") = [("groat/message.tongues", Rows.laid_groat_message_tongues)]) (h : laidMetH Tryz.prog l W) : ∀ i v, tongCells[i]? = some v → W.cell? ⟨1, i, none⟩ = some v := by
  have h1 := h.filter (fun x => x.1 == "groat/message.tongues")
  rw [hl, Go.MakeChecks.laidMetH_plain _ _ _ rfl] at h1
  obtain ⟨ps, ⟨g, t, cs, fuel, p, q, hg, ht, hv, hd, _, _⟩, _⟩ := h1
  obtain rfl := Option.some.inj (gTong.symm.trans hg)
  obtain rfl := Option.some.inj (gTongType.symm.trans ht)
  rw [tong_datum] at hd
  obtain ⟨xs, m, _, hx, hlen, hxl, hf⟩ := DataW.trod_array Tryz.underlying79 hd
  have hm : xs.map (·.1) = [tongD 0 [] [], tongD 1 [48] [], tongD 2 [49] [], tongD 3 [57] [48, 48]] := by
    have := congrArg Prod.fst hx
    injection this with this
    exact this.symm
  rw [cells_tongs] at hlen
  obtain ⟨x0, x1, x2, x3, rfl⟩ : ∃ a b c d, xs = [a, b, c, d] := by
    match xs, hxl with
    | [a, b, c, d], _ => exact ⟨a, b, c, d, rfl⟩
  · simp only [List.map_cons, List.map_nil, List.cons.injEq, and_true] at hm
    have k0 := tong_of (hf 0 (by decide)) hm.1
    have k1 := tong_of (hf 1 (by decide)) hm.2.1
    have k2 := tong_of (hf 2 (by decide)) hm.2.2.1
    have k3 := tong_of (hf 3 (by decide)) hm.2.2.2
    rw [cells_tong] at k0 k1 k2 k3
    have hall : cs.toList = tongCells := by
      have e : cs.toList = ((cs.toList.drop (0 * 3)).take 3) ++ ((cs.toList.drop (1 * 3)).take 3) ++ ((cs.toList.drop (2 * 3)).take 3) ++ ((cs.toList.drop (3 * 3)).take 3) := by
        generalize cs.toList = L at hlen
        match L, hlen with
        | [b0, b1, b2, b3, b4, b5, b6, b7, b8, b9, b10, b11], _ => rfl
      rw [e, k0, k1, k2, k3]
      rfl
    intro i v hi
    rw [← hall] at hi
    have := World.var?_cell hg hv i
    rw [this, ← hi, Array.getElem?_toList]
theorem gMr : Tryz.prog.globalNamed "groat/message.rows" = some 6 := by kernel_rfl
theorem gMrType : (Tryz.prog.globals[6]?).map (·.type) = some 86 := by kernel_rfl
def row3D (r : Int × Int × Int) : DataW Unit := .agg [.lit (.int .i64 r.1), .lit (.int .i64 r.2.1), .lit (.int .i64 r.2.2)]
theorem mr_datum : (Rows.laid_groat_message_rows : DataW Unit) = .slice (mrows.map row3D) [] := rfl
theorem row_key (j i : Nat) (hj : j < 17) (hi : i < 3) : rowCells[j * 3 + i]? = ((mrows[j]?).map fun r => [Value.int .i64 r.1, .int .i64 r.2.1, .int .i64 r.2.2]).bind fun l => l[i]? := by
  have hjj : j = 0 ∨ j = 1 ∨ j = 2 ∨ j = 3 ∨ j = 4 ∨ j = 5 ∨ j = 6 ∨ j = 7 ∨ j = 8 ∨ j = 9 ∨ j = 10 ∨ j = 11 ∨ j = 12 ∨ j = 13 ∨ j = 14 ∨ j = 15 ∨ j = 16 := by omega
  have hii : i = 0 ∨ i = 1 ∨ i = 2 := by omega
  rcases hii with rfl | rfl | rfl <;> rcases hjj with rfl | rfl | rfl | rfl | rfl | rfl | rfl | rfl | rfl | rfl | rfl | rfl | rfl | rfl | rfl | rfl | rfl <;> rfl
set_option maxRecDepth 20000 in
theorem rows3_of_laid {W : World} {l : List (String × DataW Unit)} (hl : l.filter (fun x => x.1 == "groat/message.rows") = [("groat/message.rows", Rows.laid_groat_message_rows)]) (h : laidMetH Tryz.prog l W) : ∃ b off c, W.cell? ⟨6, 0, none⟩ = some (.slice (some ⟨b, off, none⟩) 17 c) ∧ ∀ i v, rowCells[i]? = some v → W.cell? ⟨b, off + i, none⟩ = some v := by
  have h1 := h.filter (fun x => x.1 == "groat/message.rows")
  rw [hl, Go.MakeChecks.laidMetH_plain _ _ _ rfl] at h1
  obtain ⟨ps, ⟨g, t, cs, fuel, p, q, hg, ht, hv, hd, _, _⟩, _⟩ := h1
  obtain rfl := Option.some.inj (gMr.symm.trans hg)
  obtain rfl := Option.some.inj (gMrType.symm.trans ht)
  rw [mr_datum] at hd
  rcases open_slice Tryz.underlying86 hd with ⟨_, hx⟩ | ⟨a, len, cap, m, n, D, Pl, hcs, hb, hlc, hm, hmm, hx, hi⟩
  · cases hx
  · have hx1 := congrArg Prod.fst hx
    injection hx1 with e1 e2
    have hlen : len = 17 := by
      have h17 : mrows.length = 17 := rfl
      have := congrArg List.length e1
      simp only [List.length_map, List.length_range] at this
      omega
    subst hlen
    have hlm : 17 ≤ m := by rw [hmm]; split <;> omega
    rw [show Tryz.prog.cellsOf 88 = 3 from by kernel_rfl] at hi
    have key : ∀ i r, mrows[i]? = some r → ∀ j v, [Value.int .i64 r.1, .int .i64 r.2.1, .int .i64 r.2.2][j]? = some v → W.cell? (a.add (i * 3 + j)) = some v := by
      intro i r hr j v hj
      have hi17 : i < 17 := (List.getElem?_eq_some_iff.1 hr).1
      obtain ⟨cs', hc, ht'⟩ := hi i (by omega)
      have hD : D i = row3D r := by
        have h2 := congrArg (fun l => l[i]?) e1
        simp only [List.getElem?_map, hr, Option.map_some, List.getElem?_range hi17] at h2
        exact (Option.some.inj h2).symm
      have := row3_of ht' hD
      subst this
      obtain ⟨_, _, hat⟩ := World.cells?_some hc
      have hj3 : j < 3 := (List.getElem?_eq_some_iff.1 hj).1
      rw [← Go.Deep.add_add, hat j hj3, hj]
    have hcell : W.cell? ⟨6, 0, none⟩ = some (.slice (some a) 17 cap) := by
      have := World.var?_cell hg hv 0
      rw [this, ← Array.getElem?_toList, hcs]
      rfl
    obtain ⟨b, off, spot⟩ := a
    have hsp : spot = none := by
      have := key 0 _ rfl 0 _ rfl
      simpa [Addr.add] using World.cell?_spot this
    subst hsp
    refine ⟨b, off, cap, hcell, fun i v hi => ?_⟩
    have hlt : i < 51 := (List.getElem?_eq_some_iff.1 hi).1
    have hq : ∃ r, mrows[i / 3]? = some r := ⟨_, List.getElem?_eq_getElem (show i / 3 < mrows.length from by show i / 3 < 17; omega)⟩
    obtain ⟨r, hr⟩ := hq
    have h9 := row_key (i / 3) (i % 3) (by omega) (by omega)
    rw [show i / 3 * 3 + i % 3 = i from by omega] at h9
    simp only [hr, Option.map_some, Option.bind_some] at h9
    have := key (i / 3) r hr (i % 3) v (h9.symm.trans hi)
    rw [show i / 3 * 3 + i % 3 = i from by omega] at this
    rw [show (⟨b, off, none⟩ : Addr).add i = ⟨b, off + i, none⟩ from by rw [add_nat]] at this
    exact this
set_option maxRecDepth 20000 in
theorem env_of_laid {W : World} {l : List (String × DataW Unit)} (hl : l = Rows.messageShortRow.laid) (h : laidMetH Tryz.prog l W) : ∃ s, Env s W := by
  subst hl
  obtain ⟨a_dialect, h_dialect⟩ := sent1 (n := "groat/message.errDialect") rfl h g_errDialect gt_errDialect
  obtain ⟨a_type_, h_type_⟩ := sent1 (n := "groat/message.errType") rfl h g_errType gt_errType
  obtain ⟨a_long, h_long⟩ := sent1 (n := "groat/message.errLong") rfl h g_errLong gt_errLong
  obtain ⟨a_map, h_map⟩ := sent1 (n := "groat/message.errMap") rfl h g_errMap gt_errMap
  obtain ⟨a_more, h_more⟩ := sent1 (n := "groat/message.errMore") rfl h g_errMore gt_errMore
  obtain ⟨a_field, h_field⟩ := sent1 (n := "groat/message.errField") rfl h g_errField gt_errField
  obtain ⟨a_text, h_text⟩ := sent1 (n := "groat/message.errText") rfl h g_errText gt_errText
  obtain ⟨a_bytes, h_bytes⟩ := sent1 (n := "groat/message.errBytes") rfl h g_errBytes gt_errBytes
  obtain ⟨a_short, h_short⟩ := sent1 (n := "groat/message.errShort") rfl h g_errShort gt_errShort
  refine ⟨⟨a_dialect, a_type_, a_long, a_map, a_more, a_field, a_text, a_bytes, a_short⟩, ⟨h_dialect, h_type_, h_long, h_map, h_more, h_field, h_text, h_bytes, h_short, ⟨?_, ?_, ?_, ?_, ?_, ?_, ?_, ?_, ?_, ?_, ?_, ?_, ?_, ?_, ?_, ?_⟩, etype_of_laid rfl h⟩, ⟨rows3_of_laid rfl h, tong_of_laid rfl h⟩, rows_of_laid rfl h, pow_of_laid rfl h, zer_of_laid rfl h⟩
  · exact (sent2 (n0 := "groat/message.errDialect") (n1 := "groat/message.errMore") h rfl g_errDialect gt_errDialect g_errMore gt_errMore h_dialect h_more).symm
  · exact (sent2 (n0 := "groat/message.errType") (n1 := "groat/message.errMore") h rfl g_errType gt_errType g_errMore gt_errMore h_type_ h_more).symm
  · exact (sent2 (n0 := "groat/message.errLong") (n1 := "groat/message.errMore") h rfl g_errLong gt_errLong g_errMore gt_errMore h_long h_more).symm
  · exact (sent2 (n0 := "groat/message.errMap") (n1 := "groat/message.errMore") h rfl g_errMap gt_errMap g_errMore gt_errMore h_map h_more).symm
  · exact (sent2 (n0 := "groat/message.errDialect") (n1 := "groat/message.errMap") h rfl g_errDialect gt_errDialect g_errMap gt_errMap h_dialect h_map).symm
  · exact (sent2 (n0 := "groat/message.errType") (n1 := "groat/message.errMap") h rfl g_errType gt_errType g_errMap gt_errMap h_type_ h_map).symm
  · exact (sent2 (n0 := "groat/message.errLong") (n1 := "groat/message.errMap") h rfl g_errLong gt_errLong g_errMap gt_errMap h_long h_map).symm
  · exact (sent2 (n0 := "groat/message.errDialect") (n1 := "groat/message.errLong") h rfl g_errDialect gt_errDialect g_errLong gt_errLong h_dialect h_long).symm
  · exact (sent2 (n0 := "groat/message.errType") (n1 := "groat/message.errLong") h rfl g_errType gt_errType g_errLong gt_errLong h_type_ h_long).symm
  · exact (sent2 (n0 := "groat/message.errDialect") (n1 := "groat/message.errType") h rfl g_errDialect gt_errDialect g_errType gt_errType h_dialect h_type_).symm
  · exact sent2 (n0 := "groat/message.errField") (n1 := "groat/message.errText") h rfl g_errField gt_errField g_errText gt_errText h_field h_text
  · exact sent2 (n0 := "groat/message.errField") (n1 := "groat/message.errBytes") h rfl g_errField gt_errField g_errBytes gt_errBytes h_field h_bytes
  · exact sent2 (n0 := "groat/message.errField") (n1 := "groat/message.errShort") h rfl g_errField gt_errField g_errShort gt_errShort h_field h_short
  · exact (sent2 (n0 := "groat/message.errText") (n1 := "groat/message.errShort") h rfl g_errText gt_errText g_errShort gt_errShort h_text h_short).symm
  · exact (sent2 (n0 := "groat/message.errBytes") (n1 := "groat/message.errShort") h rfl g_errBytes gt_errBytes g_errShort gt_errShort h_bytes h_short).symm
  · exact (sent2 (n0 := "groat/message.errText") (n1 := "groat/message.errBytes") h rfl g_errText gt_errText g_errBytes gt_errBytes h_text h_bytes).symm
end Go.Proofs.YtkbdijkoedmgnaaGreatDoor
namespace Go.Proofs.YtkbdijkoedmgnaaGreatDoor
open Go.RowKit Go.Maps Go.ChangeShapes Go.WideShapes Go.Deep
open Fdd
set_option linter.unusedVariables false
theorem cells_msg : Tryz.prog.cellsOf 31 = 2 := by kernel_rfl
theorem cells_fld : Tryz.prog.cellsOf 46 = 2 := by kernel_rfl
theorem cells_int1 : Tryz.prog.cellsOf 3 = 1 := by kernel_rfl
theorem cells_str1 : Tryz.prog.cellsOf 9 = 1 := by kernel_rfl
theorem bytes_fld : Tryz.prog.bytesOf 46 = 24 := by kernel_rfl
section
variable {H : Type} {enc : TypeId × Value → H} {W : World} {base : Nat} {spare : Nat → Bool} {held : Bool}
set_option maxRecDepth 20000 in
theorem fl_of {A : Option Addr} {len cap fuel : Nat} {v : Value} {x : DataW H × List MemPlace} (h : DataW.trod enc Tryz.prog W base spare held fuel 29 [v] = some x) (hw : ∀ k ∈ x.1.weights Tryz.prog 29, k ≤ reachBytes) :
    ∃ A n c fs, v = .slice A n c ∧ Fl W A n fs ∧ n ≤ c ∧ (A = none → c = 0) ∧ ∀ f ∈ fs, (-9223372036854775808 ≤ f.1 ∧ f.1 ≤ 9223372036854775807) ∧ f.2.length ≤ 9223372036854775807 := by
  rcases open_slice_pairs Tryz.underlying29 Tryz.underlying46 cells_fld rfl rfl cells_int1 cells_str1 h with ⟨h0, _⟩ | ⟨a, len, cap, m, n, V0, V1, D0, D1, P0, P1, hcs, hb, hl, hm, hmm, rfl, hi⟩
  · injection h0 with h0
    exact ⟨none, 0, 0, [], h0, ⟨rfl, Nat.zero_le _, fun h => absurd h (by decide)⟩, Nat.le_refl _, fun _ => rfl, fun f hf => by cases hf⟩
  · injection hcs with hcs
    have hlm : len ≤ m := by rw [hmm]; split <;> omega
    have hb2 : len * 24 ≤ reachBytes := by
      have := hw ((((List.range len).map fun i => DataW.agg [D0 i, D1 i]).length + ((List.range (m - len)).map fun j => DataW.agg [D0 (len + j), D1 (len + j)]).length) * Tryz.prog.bytesOf 46) (by
        unfold DataW.weights
        simp only [Tryz.underlying29]
        exact List.mem_cons_self ..)
      rw [bytes_fld] at this
      simp only [List.length_map, List.length_range] at this
      omega
    have hn : len ≤ 140737488355328 := by
      have := reachBytes_lt
      omega
    have one : ∀ i, ∃ f : Fld, i < m → (V0 i = .int .i64 f.1 ∧ V1 i = strV f.2) ∧ (-9223372036854775808 ≤ f.1 ∧ f.1 ≤ 9223372036854775807) ∧ f.2.length ≤ 9223372036854775807 := by
      intro i
      by_cases him : i < m
      · obtain ⟨_, _, t0, t1⟩ := hi i him
        obtain ⟨k, e0, _, w0⟩ := DataW.trod_int Tryz.underlying3 t0
        obtain ⟨s, e1, _, ws⟩ := DataW.trod_string Tryz.underlying9 t1
        injection e0 with e0
        injection e1 with e1
        exact ⟨(k, s.data.toList), fun _ => ⟨⟨e0, e1⟩, i64_in w0, by
          have h9 : s.data.toList.length ≤ maxLen := ws
          unfold maxLen at h9
          omega⟩⟩
      · exact ⟨(0, []), fun h => absurd h him⟩
    obtain ⟨F, hF⟩ := Classical.axiomOfChoice one
    refine ⟨some a, len, cap, (List.range len).map F, hcs, ⟨by simp, hn, fun hp => ?_⟩, hl, (fun h => by cases h), fun f hf => ?_⟩
    · obtain ⟨b, off, spot⟩ := a
      have hc := (hi 0 (by omega)).1
      have hspot : spot = none := by simpa [Addr.add] using World.cell?_spot hc
      subst hspot
      refine ⟨b, off, rfl, fun i f hf j v hv => ?_⟩
      have hil : i < len := by
        have := (List.getElem?_eq_some_iff.1 hf).1
        simpa using this
      have hfe : f = F i := by
        rw [List.getElem?_map, List.getElem?_range hil] at hf
        exact (Option.some.inj hf).symm
      subst hfe
      obtain ⟨⟨q0, q1⟩, _⟩ := hF i (by omega)
      obtain ⟨k0, k1, _, _⟩ := hi i (by omega)
      have hj : j < 2 := by
        have := (List.getElem?_eq_some_iff.1 hv).1
        simpa [fldA] using this
      have h2 : j = 0 ∨ j = 1 := by omega
      rcases h2 with rfl | rfl
      · have e : v = .int .i64 (F i).1 := by
          have : some (Value.int .i64 (F i).1) = some v := hv
          exact (Option.some.inj this).symm
        rw [e, ← q0, ← k0, add_nat]
        rfl
      · have e : v = strV (F i).2 := by
          have : some (strV (F i).2) = some v := hv
          exact (Option.some.inj this).symm
        rw [e, ← q1, ← k1, add_nat, Nat.add_assoc]
    · obtain ⟨i, hi', rfl⟩ := List.mem_map.1 hf
      exact (hF i (by have := List.mem_range.1 hi'; omega)).2
set_option maxRecDepth 20000 in
theorem msg_of {b0 : Nat} {r : Reach} {v : Value} {d : DataW H} {p : List MemPlace} (hv : Value.okWide Tryz.prog W r b0 31 v) (h : DataW.Trod enc Tryz.prog W base spare held 31 v d p) (hw : ∀ k ∈ d.weights Tryz.prog 31, k ≤ reachBytes) :
    ∃ ty A n c fs, v = msgV ty A n c ∧ Fl W A n fs ∧ (-9223372036854775808 ≤ ty ∧ ty ≤ 9223372036854775807) ∧ n ≤ c ∧ (A = none → c = 0) ∧ ∀ f ∈ fs, (-9223372036854775808 ≤ f.1 ∧ f.1 ≤ 9223372036854775807) ∧ f.2.length ≤ 9223372036854775807 := by
  obtain ⟨v0, v1, y0, y1, n, rfl, rfl, _, t0, t1⟩ := Go.Joins.open_agg2 Tryz.underlying31 (by kernel_rfl) cells_msg hv h
  obtain ⟨k, e0, _, w0⟩ := DataW.trod_int Tryz.underlying3 t0
  injection e0 with e0
  subst e0
  obtain ⟨A, n, c, fs, rfl, hf, hnc, hz, hfs⟩ := fl_of (A := none) (len := 0) (cap := 0) t1 (fun k hk => hw k (by
    unfold DataW.weights
    simp only [Tryz.underlying31]
    show k ∈ DataW.weightsEach Tryz.prog [3, 29] [y0.1, y1.1]
    unfold DataW.weightsEach DataW.weightsEach
    exact List.mem_append_right _ (List.mem_append_left _ hk)))
  exact ⟨k, A, n, c, fs, rfl, hf, i64_in w0, hnc, hz, hfs⟩
end
end Go.Proofs.YtkbdijkoedmgnaaGreatDoor
namespace Go.Proofs.YtkbdijkoedmgnaaGreatDoor
open Go.RowKit Go.ChangeShapes Go.WideShapes Go.ChangeAt
theorem witness_zip {H : Type} {enc : TypeId × Value → H} {C : Checked} {os : Os} {f : FuncId} {fn : Func} {s : OpenSpec} {conds : List PathCond} {apart : Bool} {laid : List (String × DataW Unit)} (modest : Bool) (w0 : World) (args : Array Value) (hos : w0.os = os)
    (hsh : (w0.forCall (fun _ _ => 0) ⟨#[], args, []⟩).Shaped C.prog)
    (hok : Input.okWideB C.prog (w0.forCall (fun _ _ => 0) ⟨#[], args, []⟩) f ⟨#[], args, []⟩ = true)
    (hrow : s.preRow enc C.prog fn conds apart laid (w0.forCall (fun _ _ => 0) ⟨#[], args, []⟩).memory args) :
    ∃ (w : World) (tape : Tape) (i : Input), w.os = os ∧ (w.forCall tape i).Shaped C.prog ∧ i.vars = [] ∧ Input.okWide C.prog (w.forCall tape i) .any w.heap.size f i ∧
      s.preRow enc C.prog fn conds apart laid (w.forCall tape i).memory i.args ∧ ({ modest := modest } : Assume).holds C.prog (lone (Frame.enter C.prog f i.args .normal) [] (w.forCall tape i)) :=
  ⟨w0, fun _ _ => 0, ⟨#[], args, []⟩, hos, hsh, (Input.okWide_of_okWideB (base := 0) hok).1, (Input.okWide_of_okWideB hok).2, hrow, by
    simp only [Assume.holds]
    exact ⟨by simp, by simp, fun _ => Modest.zero, by simp, by simp⟩⟩
end Go.Proofs.YtkbdijkoedmgnaaGreatDoor
namespace Go.Proofs.YtkbdijkoedmgnaaGreatDoor
open Go.RowKit Go.ChangeShapes Go.WideShapes Go.ChangeAt
noncomputable def hbase (os : Os) : World := (World.holding Tryz.prog os ⟨#[], #[], []⟩).setCell ⟨8, 0, none⟩ (.iface 147 (.agg #[.pointer (some ⟨21, 53, none⟩)]))
noncomputable def hworld (os : Os) (laid : List (String × DataW Unit)) : World := (hbase os).layVars Tryz.prog (laid.filter fun x => x.2.handleName?.isNone)
theorem hworld_os (os : Os) (laid : List (String × DataW Unit)) : (hworld os laid).os = os := (World.layVars_os _ _ _).trans rfl
theorem laidH_hworld {os : Os} {laid : List (String × DataW Unit)} (args : Array Value)
    (hf : (hbase os).layFits Tryz.prog (laid.filter fun x => x.2.handleName?.isNone) [] = true)
    (hi : (hbase os).layIfaces Tryz.prog (laid.filter fun x => x.2.handleName?.isNone) (hworld os laid) = true)
    (hh : (laid.filter fun x => x.2.handleName?.isSome).all (handleAtB Tryz.prog ((hworld os laid).forCall (fun _ _ => 0) ⟨#[], args, []⟩).memory) = true) :
    laidMetH Tryz.prog laid ((hworld os laid).forCall (fun _ _ => 0) ⟨#[], args, []⟩).memory := by
  refine laidMetH_of_parts ?_ hh
  unfold hworld at hi ⊢
  generalize (laid.filter fun x => x.2.handleName?.isNone) = l at *
  have e1 : (l.filter fun x => (l.map (·.1)).contains x.1) = l := List.filter_eq_self.2 fun x hx => List.contains_iff_mem.2 (List.mem_map.2 ⟨x, hx, rfl⟩)
  have e2 : (l.filter fun x => !(l.map (·.1)).contains x.1) = [] := List.filter_eq_nil_iff.2 fun x hx => by rw [List.contains_iff_mem.2 (List.mem_map.2 ⟨x, hx, rfl⟩)]; simp
  have h : laidMet Tryz.prog l ((hbase os).layVars Tryz.prog l) := laidMet_layVars (w0 := hbase os) (l.map (·.1)) [] (by rw [e1]) (by rw [e1]; exact hf) (by rw [e1]; exact hi) (by rw [e2]; exact LaidIn.none)
  exact h.of_heap (by simp [World.memory, World.forCall, Input.heap])
end Go.Proofs.YtkbdijkoedmgnaaGreatDoor
namespace Go.Proofs.YtkbdijkoedmgnaaGreatDoor.messageBack
open Go.ChangeShapes Go.WideShapes Go.ChangeAt Go.RowKit
open Go.ChangeMaps (open_string shut_string)
set_option linter.unusedVariables false
theorem own : ownKnob Tryz.prog.godebug = none := by kernel_rfl
theorem laidOut : laidOutB Tryz.prog = true := by kernel_rfl
set_option maxRecDepth 100000 in
/-- WHAT THE WALK GIVES, FOR EVERY ARGUMENT AND EVERY WORLD: the same for both forms. -/
theorem contract (H : Type) (enc : TypeId × Value → H) (W : World) (base : Nat) (args : Array Value) (ds gs : List (DataW H)) (before : List MemPlace)
    (hval : ∀ (j : Nat) t v, Tryz.f6.params[j]? = some t → args[j]? = some v → Value.okWide Tryz.prog W .any base t v)
    (hW : DataW.Whole enc Tryz.prog Tryz.f6.params.toList Rows.messageBackSpec.vars false W args.toList ds gs before) (hsz0 : (DataW.weightsEach Tryz.prog (Tryz.f6.params.toList ++ Rows.messageBackSpec.plain.varTypes Tryz.prog) (ds ++ gs)).all (· ≤ reachBytes) = true) (hL : laidMetH Tryz.prog Rows.messageBackRow.laid W) (hsh : W.ShapedOpen Tryz.prog) :
    Calls Tryz.prog 6 args W fun e W' => ∃ v, e = .returned v ∧ Rows.messageBackSpec.post enc Tryz.prog Tryz.f6 false true false false W args v W' := by
  have hW' := hW
  obtain ⟨p, q, hA0, hV, rfl, hfz, hnd⟩ := hW
  have hA : DataW.TrodAll enc Tryz.prog W 0 (fun _ => true) true Tryz.f6.params.toList args.toList ds p := hA0
  have hsz : (DataW.weightsEach Tryz.prog (Tryz.f6.params.toList ++ Rows.messageBackSpec.plain.varTypes Tryz.prog) (ds ++ gs)).all (· ≤ reachBytes) = true := hsz0
  rw [Tryz.params6] at hA hval hsz
  obtain ⟨v0, vs0, d0, ds0, p0, q0, hargs, rfl, rfl, h0, r0⟩ := trodAll_cons hA
  obtain ⟨v1, vs1, d1, ds1, p1, q1, rfl, rfl, rfl, h1, r1⟩ := trodAll_cons r0
  obtain ⟨v2, vs2, d2, ds2, p2, q2, rfl, rfl, rfl, h2, r2⟩ := trodAll_cons r1
  obtain ⟨rfl, rfl, rfl⟩ := trodAll_nil r2
  obtain rfl : args = #[v0, v1, v2] := by cases args; simp_all
  obtain ⟨rfl, rfl⟩ := trodVars_none hV
  have k0 := h0
  have lt0 : ∀ x ∈ p0, x.block < W.heap.size := by obtain ⟨m, hm⟩ := k0; exact DataW.trod_lt m _ _ _ hm
  obtain ⟨ty0, a0, len0, cap0, z0, rfl, w0, tyw0, lc0, nn0, fw0⟩ := msg_of (hval 0 31 v0 rfl rfl) h0 (fun x hx => by simpa using List.all_eq_true.1 hsz _ (DataW.weights_mem_each (j := 0) (t := 31) rfl rfl x hx))
  obtain ⟨x1, rfl, rfl, rfl, w1⟩ := open_int Tryz.underlying3 (hval 1 3 v1 rfl rfl) h1
  obtain ⟨x2, rfl, rfl, rfl, w2⟩ := open_int Tryz.underlying3 (hval 2 3 v2 rfl rfl) h2
  obtain ⟨s, henv⟩ := env_of_laid (l := Rows.messageBackRow.laid) rfl hL
  clear hA0
  refine (messageBack_walk x1 x2 W henv w0 (fun f hf => (fw0 f hf).2)).mono fun e W' ⟨he, bel⟩ => ?_
  subst he
  exact ⟨_, rfl, _, _, _, [], _, [], hW', trodAll_mk1 (shut_bool Tryz.underlying4 _), (trodAll_cons_mk (Below.trod laidOut (by kernel_rfl) (of_decide_eq_true (by kernel_rfl)) k0 bel lt0) (trodAll_cons_mk (shut_int Tryz.underlying3 w1) (trodAll_cons_mk (shut_int Tryz.underlying3 w2) trodAll_mk0))), rfl, bel.frame _, fun h => by cases h⟩
theorem laid_met (os : Os) : laidMetH Tryz.prog Rows.messageBackRow.laid ((hworld os Rows.messageBackRow.laid).forCall (fun _ _ => 0) ⟨#[], #[.agg #[.int .i64 0, .slice none 0 0], .int .i64 0, .int .i64 0], []⟩).memory :=
  laidH_hworld _ (by kernel_rfl) (by kernel_rfl) (by kernel_rfl)
theorem reads (os : Os) {H : Type} (enc : TypeId × Value → H) : ∃ places, DataW.whole enc Tryz.prog ((hworld os Rows.messageBackRow.laid).forCall (fun _ _ => 0) ⟨#[], #[.agg #[.int .i64 0, .slice none 0 0], .int .i64 0, .int .i64 0], []⟩).memory Tryz.f6.params.toList Rows.messageBackSpec.vars false [.agg #[.int .i64 0, .slice none 0 0], .int .i64 0, .int .i64 0] 8 = some ([.agg [.lit (.int .i64 0), .nil], .lit (.int .i64 0), .lit (.int .i64 0)], [], places) :=
  ⟨[], by kernel_rfl⟩
set_option maxRecDepth 100000 in
theorem lifted (os : Os) (started : os.Started) (H : Type) (enc : TypeId × Value → H) (F : Stop.Interp) :
    ReturnsInHanded {} Tryz.checked os 6 .any ((OpenSpec.ofChange Rows.messageBackSpec).preRow enc Tryz.prog Tryz.f6 Rows.messageBackRow.domain false Rows.messageBackRow.laid) (((OpenSpec.ofChange Rows.messageBackSpec).at F).post enc Tryz.prog Tryz.f6 false true false false) := by
  obtain ⟨places, hx⟩ := reads os enc
  refine returnsInHanded_of_row (C := Tryz.checked) (s := OpenSpec.ofChange Rows.messageBackSpec) own started (by kernel_rfl) Tryz.func6
    (witness_zip (enc := enc) (C := Tryz.checked) false (hworld os Rows.messageBackRow.laid) #[.agg #[.int .i64 0, .slice none 0 0], .int .i64 0, .int .i64 0] (hworld_os _ _) (World.shaped_of_ZipB (by kernel_rfl) (by kernel_rfl)) (by kernel_rfl)
      (OpenSpec.preRow_of_cond 8 hx (by kernel_rfl) (fun k hk => by cases hk) (by kernel_rfl) (laid_met os))) ?_
  intro W base args ds gs before hval hW _ hcond hsz hL hsh _
  exact contract H enc W base args ds gs before hval hW hsz hL hsh
theorem said : Rows.MessageBackSaid :=
  OpenClaim.holds_of_cond 6 Tryz.f6 rfl rfl rfl rfl rfl rfl rfl ⟨rfl, rfl, rfl, rfl, rfl⟩ rfl rfl rfl rfl rfl (by kernel_rfl) Tryz.func6 (by kernel_rfl)
    (of_decide_eq_true (by kernel_rfl)) (by unfold Func.isWrapper; first | (rw [if_pos (by decide +kernel)]; kernel_rfl) | (rw [if_neg (by decide +kernel)]; exact ⟨rfl, rfl⟩))
    (fun os started H enc _ F => by rw [OpenClaim.pre_eq_preRow]; exact lifted os started H enc F)
theorem plain (f : FuncId) (fn : Func) (hf : Tryz.pinned.checked.prog.funcNamed "groat/groatlaw05.MessageBack" = some f) (hfn : Tryz.pinned.checked.prog.funcs[f]? = some fn) :
    true = Tryz.pinned.checked.prog.looks [] ∧ ∀ (j : Nat) t, fn.params[j]? = some t → Tryz.pinned.checked.prog.wantsStandIn t = false := by
  obtain rfl : f = 6 := Option.some.inj ((show Tryz.prog.funcNamed "groat/groatlaw05.MessageBack" = some 6 by kernel_rfl).symm.trans hf) |>.symm
  obtain rfl : fn = Tryz.f6 := (Option.some.inj (Tryz.func6.symm.trans hfn)).symm
  refine ⟨by kernel_rfl, fun j t ht => ?_⟩
  rw [Tryz.params6] at ht
  have hm : t ∈ [31, 3, 3] := by simpa using Array.mem_of_getElem? ht
  have hall : ([31, 3, 3].all fun u => !Tryz.prog.wantsStandIn u) = true := by kernel_rfl
  exact (show Tryz.prog.wantsStandIn t = false by simpa using List.all_eq_true.1 hall t hm)
/-- THE CARD -/
theorem card : Rows.MessageBackCardSaid :=
  Claim7.holds_tied_plain_at .later [] _ _ _ _ said (fun _ h => by cases h) (by kernel_rfl) (fun _ h => by cases h) messageBack_row_tie rfl ⟨rfl, rfl⟩ (by kernel_rfl) rfl plain (by kernel_rfl)
#print axioms card
end Go.Proofs.YtkbdijkoedmgnaaGreatDoor.messageBack
