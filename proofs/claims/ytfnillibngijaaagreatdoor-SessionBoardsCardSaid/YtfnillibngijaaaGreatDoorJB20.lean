/-
  Texts in one file: MsFf FdAm FdDg MsMc. Conditions: the tables and the errors read as the program's text lays them.
-/
import Derived.Test.YtfnillibngijaaaGreatDoorJB19
import Derived.Test.YtfnillibngijaaaGreatDoorJB17
import Derived.Lib.ItoaMem
import Derived.Lib.AppendIntMem
import Derived.Lib.SmallJoins
import Derived.Lib.LaidTab
namespace Go.Proofs.YtfnillibngijaaaGreatDoor
open Go.RowKit
open Fdd
set_option linter.unusedVariables false
set_option linter.unusedSimpArgs false
/-- the error that a code is, where a field is asked -/
def badV (s : Sents) (no k : Int) : Value := if k = 52 then feV no s.field else if k = 41 then feV no s.text else .nilIface
def checkFsV (s : Sents) : Int → List Fld → Value
  | _, [] => .nilIface
  | last, f :: r => if fieldBad last f = 0 then checkFsV s f.1 r else badV s f.1 (fieldBad last f)
def checkV (s : Sents) (ty : Int) (fs : List Fld) : Value := if mtypes.contains ty = false then errS s.type_ else if 24 < fs.length then errS s.long else checkFsV s 0 fs
theorem bad_cases (last : Int) (f : Fld) : fieldBad last f = 0 ∨ fieldBad last f = 52 ∨ fieldBad last f = 41 := by
  unfold fieldBad
  split
  · exact .inr (.inl rfl)
  · split
    · exact .inr (.inl rfl)
    · split
      · exact .inl rfl
      · exact .inr (.inr rfl)
theorem checkFsV_ok (s : Sents) : ∀ (fs : List Fld) (last : Int), ErrV s (checkFsV s last fs) (checkFs last fs)
  | [], last => ErrV.nil
  | f :: r, last => by
    unfold checkFsV checkFs
    rcases bad_cases last f with h | h | h
    · rw [if_pos h, if_pos h]
      exact checkFsV_ok s r f.1
    · rw [if_neg (by omega), if_neg (by omega), h]
      exact ErrV.field f.1
    · rw [if_neg (by omega), if_neg (by omega), h]
      exact ErrV.text f.1
theorem checkV_ok (s : Sents) (ty : Int) (fs : List Fld) : ErrV s (checkV s ty fs) (mcheck ty fs) := by
  unfold checkV mcheck
  split
  · exact ErrV.type_
  · split
    · exact ErrV.long
    · exact checkFsV_ok s fs 0
/-- what check still has to say, when so many fields are right -/
theorem check_at {s : Sents} {fs : List Fld} {last : Int} {j : Nat} {f : Fld} (hf : fs[j]? = some f) (h : checkFsV s last (fs.drop j) = checkFsV s 0 fs) : (fieldBad last f = 0 → checkFsV s f.1 (fs.drop (j + 1)) = checkFsV s 0 fs) ∧ (fieldBad last f ≠ 0 → checkFsV s 0 fs = badV s f.1 (fieldBad last f)) := by
  obtain ⟨hj, hfj⟩ := List.getElem?_eq_some_iff.1 hf
  have hd : fs.drop j = f :: fs.drop (j + 1) := by rw [← hfj]; exact List.drop_eq_getElem_cons hj
  have he : checkFsV s last (f :: fs.drop (j + 1)) = if fieldBad last f = 0 then checkFsV s f.1 (fs.drop (j + 1)) else badV s f.1 (fieldBad last f) := rfl
  rw [hd, he] at h
  refine ⟨fun h0 => ?_, fun h0 => ?_⟩
  · rw [if_pos h0] at h
    exact h
  · rw [if_neg h0] at h
    exact h.symm
def msgV (ty : Int) (A : Option Addr) (n c : Nat) : Value := .agg #[.int .i64 ty, .slice A n c]
theorem mzero_form (w : World) : (zeroValue 104).run Tryz.prog w = .ok (.agg #[.int .i64 0, .int .i64 0, .int .i64 0]) w := by kernel_rfl
set_option maxRecDepth 20000 in
set_option maxHeartbeats 1000000 in
theorem check_walk2 {s : Sents} {w : World} {ty : Int} {A : Option Addr} {n c : Nat} {fs : List Fld} (ht : Tab w) (hs : Sen s w) (hr : RowsT w) (hf : Fl w A n fs) :
    Calls Tryz.prog 44 #[msgV ty A n c] w fun e w' => e = .returned (checkV s ty fs) ∧ Turn nowhere w w' := by
  have hu := (Turn.refl nowhere w).alloc (.cells #[.int .i64 ty, .slice A n c] 49)
  have hb := Blk.new w 49 #[.int .i64 ty, .slice A n c]
  obtain ⟨b0, hb0⟩ : ∃ b0, b0 = w.heap.size := ⟨_, rfl⟩
  obtain ⟨w1, hw1⟩ : ∃ w1, w1 = w.alloc (.cells #[.int .i64 ty, .slice A n c] 49) := ⟨_, rfl⟩
  rw [← hw1] at hu hb
  rw [← hb0] at hb
  have HT := Lib.hid (ht.turn hu)
  have HS := Lib.hid (hs.turn hu)
  have HR := Lib.hid (hr.turn hu)
  have HF := Lib.hid (hf.still hu)
  have HU := Lib.hid hu
  have HB := Lib.hid hb
  have HW := Lib.hid hw1
  have HB0 := Lib.hid hb0
  have HNL : Hid (fs.length = n) := Lib.hid hf.1
  have HNM : Hid (n ≤ 140737488355328) := Lib.hid hf.2.1
  have y9 : (n : Int) ≤ 140737488355328 := by
    have := HNM.out
    omega
  clear ht hs hr hf hu hb hw1 hb0
  unfold msgV
  go_enter Tryz.func44, Tryz.ntmps44
  go_upto_region 1 with fail
  have e1 := HW.out
  have e2 := HB0.out
  rw [← e1, ← e2]
  clear e1 e2 HW HB0
  have c0 : w1.cell? ⟨b0, 0, none⟩ = some (.int .i64 ty) := HB.out.cell 0
  have c1 : w1.cell? ⟨b0, 1, none⟩ = some (.slice A n c) := HB.out.cell 1
  have g2 : w1.cell? ⟨1, 0, none⟩ = some (errS s.type_) := HS.out.type_.1
  have g3 : w1.cell? ⟨2, 0, none⟩ = some (errS s.long) := HS.out.long.1
  cases hty : mtypes.contains ty with
  | false =>
    have HC := Lib.hid (show checkV s ty fs = errS s.type_ from by unfold checkV; rw [if_pos hty])
    have hi := isType_walk (w := w1) (n := ty)
    rw [hty] at hi
    have HI := Lib.hid hi
    clear hi hty
    go_upto_region 2 with (go_at_call 58; refine HI.out.mono ?_; rintro e w2 ⟨rfl, rfl⟩)
    go_wp2_with fail
    go_ret
    rw [HC.out]
    exact ⟨rfl, HU.out⟩
  | true =>
    have hi := isType_walk (w := w1) (n := ty)
    rw [hty] at hi
    have HI := Lib.hid hi
    have HTY := Lib.hid hty
    clear hi hty
    go_upto_region 3 with (go_at_call 58; refine HI.out.mono ?_; rintro e w1 ⟨rfl, rfl⟩)
    by_cases h24 : 24 < n
    · have HC := Lib.hid (show checkV s ty fs = errS s.long from by unfold checkV; rw [if_neg (by rw [HTY.out]; decide), if_pos (by rw [HNL.out]; exact h24)])
      have y1 : (24 : Int) < (n : Int) := by omega
      go_wp2_with fail
      go_ret
      rw [HC.out]
      exact ⟨rfl, HU.out⟩
    · have HC := Lib.hid (show checkV s ty fs = checkFsV s 0 fs from by unfold checkV; rw [if_neg (by rw [HTY.out]; decide), if_neg (by rw [HNL.out]; exact h24)])
      have y1 : ¬ ((24 : Int) < (n : Int)) := by omega
      clear h24 g2 g3
      go_wp2_with fail
      clear c0 c1
      go_loopg [3, 22] n (fun gk lv jv wr => ∃ (j : Nat) (last : Int), j + gk = n ∧ jv = .int .i64 (j : Int) ∧ lv = .int .i64 last ∧ checkFsV s last (fs.drop j) = checkFsV s 0 fs ∧ Turn nowhere w1 wr)
      case atStart => exact ⟨0, 0, by omega, rfl, rfl, rfl, Turn.refl _ _⟩
      obtain ⟨j, last, hjl, rfl, rfl, hck, htr⟩ := hrel
      have HJL := Lib.hid hjl
      have HCK := Lib.hid hck
      have HTR := Lib.hid htr
      clear hjl hck htr
      by_cases hlt : j < n
      · have y1 : (j : Int) < (n : Int) := by omega
        have HLT := Lib.hid hlt
        obtain ⟨f, hff⟩ : ∃ f, fs[j]? = some f := ⟨_, List.getElem?_eq_getElem (show j < fs.length from by rw [HNL.out]; exact hlt)⟩
        obtain ⟨bF, oF, rfl, hrow⟩ := HF.out.2.2 (by omega)
        have HRR := Lib.hid (show wr.rangeAt bF (oF + j * 2) (fldA f).toList from fun i v hv => (HTR.out.cell (World.block_lt_of_cell? _ _ (hrow j f hff i v hv)) (fun e => e)).trans (hrow j f hff i v hv))
        have HAT := Lib.hid (check_at hff HCK.out)
        clear hlt hff hrow
        go_upto_region 8 with fail
        refine wp_region_lit ?_
        refine wpList_run (v := .pointer (some ⟨bF, oF + j * 2, none⟩)) rfl (gx_iaddr (i := j) (sz := 2) rfl rfl rfl Tryz.underlying47 size_field HLT.out (by omega)) ?_
        simp only [Act.put, List.setIfInBounds_toArray, List.set_cons_zero, List.set_cons_succ]
        refine wpList_run (v := .agg (fldA f)) rfl (gx_loads rfl rfl HRR.out Tryz.underlying53 rfl (by rw [size_field]; rfl)) ?_
        simp only [Act.put, List.setIfInBounds_toArray, List.set_cons_zero, List.set_cons_succ]
        refine wpList_run (v := .pointer (some ⟨wr.heap.size, 0, none⟩)) (w' := wr.alloc (.cells #[.int .i64 0, strV []] 53)) rfl (gx_alloc rfl (zero_field _)) ?_
        simp only [Act.put, List.setIfInBounds_toArray, List.set_cons_zero, List.set_cons_succ]
        have hb7 := Blk.new wr 53 #[.int .i64 0, strV []]
        have hu7 := HTR.out.alloc (.cells #[.int .i64 0, strV []] 53)
        obtain ⟨g7, hg7⟩ : ∃ g7, g7 = wr.heap.size := ⟨_, rfl⟩
        rw [← hg7] at hb7 ⊢
        have HG7 := Lib.hid (show w1.heap.size ≤ g7 from by rw [hg7]; exact HTR.out.size)
        clear hg7
        generalize wr.alloc (.cells #[.int .i64 0, strV []] 53) = w2 at *
        refine wpList_store_row rfl 53 (.tmp 5) (.tmp 25) rfl (fldA f) hb7 rfl rfl rfl (by rw [size_field]; rfl) (fldA_one f) ?_
        intro w3 hb3 hu3
        have HB7 := Lib.hid hb3
        have HU3 := Lib.hid (hu7.trans hu3 (fun k hk e => by
          have := HG7.out
          have e : k = g7 := e
          omega))
        clear hb7 hu7 hb3 hu3 HRR
        simp only [Act.put, List.setIfInBounds_toArray, List.set_cons_zero, List.set_cons_succ]

        have d0 : w3.cell? ⟨g7, 0, none⟩ = some (.int .i64 f.1) := HB7.out.cell 0
        have HTG := Lib.hid (tong_range (HT.out.turn HU3.out) (d := 1) (by decide))
        go_upto_region 9 with fail
        refine wp_region_lit ?_
        refine wpList_run (v := .pointer (some ⟨6, 1 * 3, none⟩)) rfl (gx_aaddr (i := 1) (off := 0) rfl rfl rfl Tryz.underlying122 size_tongue (by omega) (by omega)) ?_
        simp only [Act.put, List.setIfInBounds_toArray, List.set_cons_zero, List.set_cons_succ]
        refine wpList_run (v := tongV 1) rfl (gx_loads rfl rfl HTG.out Tryz.underlying98 rfl (by rw [size_tongue]; rfl)) ?_
        simp only [Act.put, List.setIfInBounds_toArray, List.set_cons_zero, List.set_cons_succ]
        refine wpList_run (v := .pointer (some ⟨g7, 0, none⟩)) rfl (exec_field (off := 0) (d := 0) rfl rfl (by kernel_rfl)) ?_
        simp only [Act.put, List.setIfInBounds_toArray, List.set_cons_zero, List.set_cons_succ]
        refine wpList_run (v := .int .i64 f.1) rfl (exec_load1 rfl rfl (by kernel_rfl) d0) ?_
        simp only [Act.put, List.setIfInBounds_toArray, List.set_cons_zero, List.set_cons_succ]
        refine wpList_op rfl fun K9 HK9 => ?_
        go_wp2_with fail
        refine (form_walk (s := s) (d := 1) (HT.out.turn HU3.out) (HS.out.turn HU3.out)).mono ?_
        rintro e w4 ⟨rfl, ht4⟩
        refine HK9.out _ _ ?_
        clear HK9
        try simp only [Act.put, List.setIfInBounds_toArray, List.set_cons_zero, List.set_cons_succ]

        have HU4 := Lib.hid (HU3.out.trans ht4 (fun _ _ e => e))
        have HB4 := Lib.hid (HB7.out.turn ht4 (fun e => e))
        clear ht4 HU3 HB7 d0 HTG
        cases hm : mform 1 f.1 with
        | none =>
          have hfr : formR s 1 f.1 = .tuple #[.agg #[.int .i64 0, .int .i64 0, .int .i64 0], feV f.1 s.field] := by unfold formR; rw [hm]; rfl
          have HBD := Lib.hid (show fieldBad last f = 52 from by unfold fieldBad; rw [hm])
          rw [hfr]
          clear hfr hm
          refine wpList_run (v := .tuple #[.agg #[.int .i64 0, .int .i64 0, .int .i64 0], feV f.1 s.field]) rfl (exec_move rfl rfl) ?_
          simp only [Act.put, List.setIfInBounds_toArray, List.set_cons_zero, List.set_cons_succ]
          refine wpList_run (v := .agg #[.int .i64 0, .int .i64 0, .int .i64 0]) rfl (ix_extract rfl rfl rfl) ?_
          simp only [Act.put, List.setIfInBounds_toArray, List.set_cons_zero, List.set_cons_succ]
          refine wpList_run (v := feV f.1 s.field) rfl (ix_extract rfl rfl rfl) ?_
          simp only [Act.put, List.setIfInBounds_toArray, List.set_cons_zero, List.set_cons_succ]
          refine wpList_run (v := .pointer (some ⟨w4.heap.size, 0, none⟩)) (w' := w4.alloc (.cells #[.int .i64 0, .int .i64 0, .int .i64 0] 104)) rfl (gx_alloc rfl (mzero_form _)) ?_
          simp only [Act.put, List.setIfInBounds_toArray, List.set_cons_zero, List.set_cons_succ]
          have hb8 := Blk.new w4 104 #[.int .i64 0, .int .i64 0, .int .i64 0]
          have hu8 := HU4.out.alloc (.cells #[.int .i64 0, .int .i64 0, .int .i64 0] 104)
          have hb78 := HB4.out.alloc (.cells #[.int .i64 0, .int .i64 0, .int .i64 0] 104)
          obtain ⟨g8, hg8⟩ : ∃ g8, g8 = w4.heap.size := ⟨_, rfl⟩
          rw [← hg8] at hb8 ⊢
          have HG8 := Lib.hid (show w1.heap.size ≤ g8 from by rw [hg8]; exact HU4.out.size)
          have HN8 := Lib.hid (show g7 ≠ g8 from by have := HB4.out.lt; omega)
          clear hg8
          generalize w4.alloc (.cells #[.int .i64 0, .int .i64 0, .int .i64 0] 104) = w5 at *
          refine wpList_store_row rfl 104 (.tmp 6) (.tmp 32) rfl #[.int .i64 0, .int .i64 0, .int .i64 0] hb8 rfl rfl rfl (by rw [size_form]; rfl) (fm3_one _ _ _) ?_
          intro w6 hb6 hu6
          have HB8 := Lib.hid hb6
          have HB7 := Lib.hid (hb78.turn hu6 (fun e => HN8.out e))
          have HU6 := Lib.hid (hu8.trans hu6 (fun k hk e => by
            have := HG8.out
            have e : k = g8 := e
            omega))
          clear hb8 hu8 hb78 hb6 hu6 HB4 HU4
          simp only [Act.put, List.setIfInBounds_toArray, List.set_cons_zero, List.set_cons_succ]

          unfold feV
          go_wp2_with fail
          go_ret
          rw [HC.out, HAT.out.2 (by rw [HBD.out]; decide), HBD.out]
          exact ⟨rfl, HU.out.trans HU6.out (fun _ _ e => e)⟩
        | some m =>
          have hfr : formR s 1 f.1 = .tuple #[fmV m, .nilIface] := by unfold formR; rw [hm]
          rw [hfr]
          clear hfr
          have HM := Lib.hid hm
          clear hm
          refine wpList_run (v := .tuple #[fmV m, .nilIface]) rfl (exec_move rfl rfl) ?_
          simp only [Act.put, List.setIfInBounds_toArray, List.set_cons_zero, List.set_cons_succ]
          refine wpList_run (v := fmV m) rfl (ix_extract rfl rfl rfl) ?_
          simp only [Act.put, List.setIfInBounds_toArray, List.set_cons_zero, List.set_cons_succ]
          refine wpList_run (v := .nilIface) rfl (ix_extract rfl rfl rfl) ?_
          simp only [Act.put, List.setIfInBounds_toArray, List.set_cons_zero, List.set_cons_succ]
          refine wpList_run (v := .pointer (some ⟨w4.heap.size, 0, none⟩)) (w' := w4.alloc (.cells #[.int .i64 0, .int .i64 0, .int .i64 0] 104)) rfl (gx_alloc rfl (mzero_form _)) ?_
          simp only [Act.put, List.setIfInBounds_toArray, List.set_cons_zero, List.set_cons_succ]
          have hb8 := Blk.new w4 104 #[.int .i64 0, .int .i64 0, .int .i64 0]
          have hu8 := HU4.out.alloc (.cells #[.int .i64 0, .int .i64 0, .int .i64 0] 104)
          have hb78 := HB4.out.alloc (.cells #[.int .i64 0, .int .i64 0, .int .i64 0] 104)
          obtain ⟨g8, hg8⟩ : ∃ g8, g8 = w4.heap.size := ⟨_, rfl⟩
          rw [← hg8] at hb8 ⊢
          have HG8 := Lib.hid (show w1.heap.size ≤ g8 from by rw [hg8]; exact HU4.out.size)
          have HN8 := Lib.hid (show g7 ≠ g8 from by have := HB4.out.lt; omega)
          clear hg8
          generalize w4.alloc (.cells #[.int .i64 0, .int .i64 0, .int .i64 0] 104) = w5 at *
          refine wpList_store_row rfl 104 (.tmp 6) (.tmp 32) rfl #[.int .i64 m.kind, .int .i64 m.size, .int .i64 m.code] hb8 rfl rfl rfl (by rw [size_form]; rfl) (fm3_one _ _ _) ?_
          intro w6 hb6 hu6
          have HB8 := Lib.hid hb6
          have HB7 := Lib.hid (hb78.turn hu6 (fun e => HN8.out e))
          have HU6 := Lib.hid (hu8.trans hu6 (fun k hk e => by
            have := HG8.out
            have e : k = g8 := e
            omega))
          clear hb8 hu8 hb78 hb6 hu6 HB4 HU4
          simp only [Act.put, List.setIfInBounds_toArray, List.set_cons_zero, List.set_cons_succ]

          have d0 : w6.cell? ⟨g7, 0, none⟩ = some (.int .i64 f.1) := HB7.out.cell 0
          go_upto_region 12 with fail
          refine wp_region_lit ?_
          refine wpList_run (v := .pointer (some ⟨g7, 0, none⟩)) rfl (exec_field (off := 0) (d := 0) rfl rfl (by kernel_rfl)) ?_
          simp only [Act.put, List.setIfInBounds_toArray, List.set_cons_zero, List.set_cons_succ]
          refine wpList_run (v := .int .i64 f.1) rfl (exec_load1 rfl rfl (by kernel_rfl) d0) ?_
          simp only [Act.put, List.setIfInBounds_toArray, List.set_cons_zero, List.set_cons_succ]
          refine wpList_run (v := .int .i64 last) rfl (exec_move rfl rfl) ?_
          simp only [Act.put, List.setIfInBounds_toArray, List.set_cons_zero, List.set_cons_succ]

          by_cases hle : f.1 ≤ last
          · have HBD := Lib.hid (show fieldBad last f = 52 from by unfold fieldBad; rw [HM.out]; exact if_pos hle)
            refine wpList_run (v := .bool true) rfl (ix_leq rfl rfl rfl (decide_eq_true hle)) ?_
            simp only [Act.put, List.setIfInBounds_toArray, List.set_cons_zero, List.set_cons_succ]

            clear hle
            have g7c : w6.cell? ⟨7, 0, none⟩ = some (errS s.field) := (HS.out.turn HU6.out).field.1
            have bf := build_fe f.1 (.pointer (some s.field)) w6
            unfold errS at g7c
            go_wp2_with fail
            go_ret
            rw [HC.out, HAT.out.2 (by rw [HBD.out]; decide), HBD.out]
            exact ⟨rfl, HU.out.trans HU6.out (fun _ _ e => e)⟩
          · have HLE := Lib.hid hle
            refine wpList_run (v := .bool false) rfl (ix_leq rfl rfl rfl (decide_eq_false hle)) ?_
            simp only [Act.put, List.setIfInBounds_toArray, List.set_cons_zero, List.set_cons_succ]

            clear hle
            have d1 : w6.cell? ⟨g7, 1, none⟩ = some (strV f.2) := HB7.out.cell 1
            have HBD : Hid (fieldBad last f = if m.check f.2 = 0 then 0 else 41) := Lib.hid (by
              unfold fieldBad
              rw [HM.out]
              exact if_neg HLE.out)
            have HCW := Lib.hid (check_walk (f := m) (t := f.2) (HR.out.turn HU6.out))
            obtain ⟨k, hk⟩ : ∃ k, k = m.check f.2 := ⟨_, rfl⟩
            rw [← hk] at HBD HCW
            have HK := Lib.hid hk
            clear hk
            go_upto_region 14 with fail
            refine wp_region_lit ?_
            refine wpList_run (v := fmV m) rfl (gx_loads rfl rfl (blk_range HB8.out) Tryz.underlying104 rfl (by rw [size_form]; rfl)) ?_
            simp only [Act.put, List.setIfInBounds_toArray, List.set_cons_zero, List.set_cons_succ]
            refine wpList_run (v := .pointer (some ⟨g7, 1, none⟩)) rfl (exec_field (off := 0) (d := 1) rfl rfl (by kernel_rfl)) ?_
            simp only [Act.put, List.setIfInBounds_toArray, List.set_cons_zero, List.set_cons_succ]
            refine wpList_run (v := strV f.2) rfl (exec_load1 rfl rfl (by kernel_rfl) d1) ?_
            simp only [Act.put, List.setIfInBounds_toArray, List.set_cons_zero, List.set_cons_succ]
            refine wpList_op rfl fun K9 HK9 => ?_
            go_wp2_with fail
            refine (HCW.out).mono ?_
            rintro e w7 ⟨rfl, ht7⟩
            refine HK9.out _ _ ?_
            clear HK9
            try simp only [Act.put, List.setIfInBounds_toArray, List.set_cons_zero, List.set_cons_succ]

            have HU7 := Lib.hid (HU6.out.trans ht7 (fun _ _ e => e))
            have d2 : w7.cell? ⟨g7, 0, none⟩ = some (.int .i64 f.1) := (HB7.out.turn ht7 (fun e => e)).cell 0
            clear ht7 d0 d1 HU6
            by_cases hk0 : k = 0
            · subst hk0
              have HB0 := Lib.hid (show fieldBad last f = 0 from by rw [HBD.out]; rfl)
              go_wp2_with fail
              go_roundg (gk - 1)
              case measure => have := HJL.out; have := HLT.out; omega
              case rel => exact ⟨j + 1, f.1, by have := HJL.out; have := HLT.out; omega, by go_num, rfl, HAT.out.1 HB0.out, HU7.out⟩
            · have HK41 := Lib.hid (show k = 41 from by
                have h1 := HK.out
                unfold Fm.check at h1
                obtain ⟨k1, s1, rfl, hk1, hs1, _⟩ := form_nf HM.out
                rw [if_pos (may_nf hk1 (by decide) hs1)] at h1
                split at h1
                · exact absurd h1 hk0
                · exact h1)
              have HB1 := Lib.hid (show fieldBad last f = 41 from by rw [HBD.out, if_neg hk0])
              have y2 : k = 41 := HK41.out
              subst y2
              clear hk0
              go_wp2_with (go_at_call 60; refine (wrap_walk (HS.out.turn HU7.out)).mono ?_; rintro e w8 ⟨rfl, rfl⟩)
              go_ret
              rw [HC.out, HAT.out.2 (by rw [HB1.out]; decide), HB1.out]
              exact ⟨rfl, HU.out.trans HU7.out (fun _ _ e => e)⟩
      · have y1 : ¬ ((j : Int) < (n : Int)) := by omega
        have HE := Lib.hid (show checkFsV s 0 fs = .nilIface from by
          have h := HCK.out
          rw [List.drop_eq_nil_iff.2 (by rw [HNL.out]; omega)] at h
          exact h.symm)
        clear hlt
        go_wp2_with fail
        go_ret
        rw [HC.out, HE.out]
        exact ⟨rfl, HU.out.trans HTR.out (fun _ _ e => e)⟩
end Go.Proofs.YtfnillibngijaaaGreatDoor
namespace Go.Proofs.YtfnillibngijaaaGreatDoor
open Go.RowKit
open Fdd
set_option linter.unusedVariables false
namespace Fdd
end Fdd
end Go.Proofs.YtfnillibngijaaaGreatDoor
namespace Go.Proofs.YtfnillibngijaaaGreatDoor
open Go.RowKit
open Fdd
set_option linter.unusedVariables false
def PowT (W : World) : Prop := Lib.TabIs Tryz.prog W "internal/strconv.uint64pow10" .u64 Lib.pow10Tab
theorem gPow : Tryz.prog.globalNamed "internal/strconv.uint64pow10" = some 14 := by kernel_rfl
theorem PowT.turn {W W' : World} (h : PowT W) (ht : Turn nowhere W W') : PowT W' := Go.Joins.tab_stays gPow h (ht.below (Nat.le_refl _) (fun _ _ e => e)) (Nat.le_refl _)
theorem itoa_at {n : Int} {W : World} (h0 : -9223372036854775808 ≤ n) (h1 : n ≤ 9223372036854775807) (h : PowT W) : ItoaAt n W := by
  refine (Any.strconv_Itoa Tryz.laysM171 n h0 h1 W h).mono ?_
  rintro e w' ⟨rfl, k, os, rfl⟩
  exact ⟨rfl, Turn.of_below (Lib.below_grow W.heap.size W (Nat.le_refl _) k os) (Nat.le_refl _)⟩
end Go.Proofs.YtfnillibngijaaaGreatDoor
namespace Go.Proofs.YtfnillibngijaaaGreatDoor.Fdd
set_option linter.unusedVariables false
/-! ### the check -/
def Good (fs : List Fld) : Prop := Rise (fs.map (·.1)) ∧ ∀ f ∈ fs, ∃ m, mform 1 f.1 = some m ∧ m.check f.2 = 0
theorem fieldBad_zero {last : Int} {f : Fld} : fieldBad last f = 0 ↔ last < f.1 ∧ ∃ m, mform 1 f.1 = some m ∧ m.check f.2 = 0 := by
  unfold fieldBad
  cases hm : mform 1 f.1 with
  | none =>
    simp only []
    constructor
    · intro h; cases h
    · rintro ⟨_, m, h, _⟩; cases h
  | some m =>
    simp only []
    constructor
    · intro h
      split at h
      · cases h
      · split at h
        · rename_i h1 h2
          exact ⟨by omega, m, rfl, h2⟩
        · cases h
    · rintro ⟨h1, m', h2, h3⟩
      injection h2 with h2
      subst h2
      rw [if_neg (by omega), if_pos h3]
theorem checkFs_iff : ∀ (fs : List Fld) (last : Int), checkFs last fs = 0 ↔ (∀ f ∈ fs, last < f.1) ∧ Good fs
  | [], last => by simp [checkFs, Good, Rise]
  | f :: r, last => by
    unfold checkFs
    constructor
    · intro h
      by_cases h0 : fieldBad last f = 0
      · rw [if_pos h0, checkFs_iff r] at h
        obtain ⟨h1, h2, h3⟩ := h
        obtain ⟨a1, a2⟩ := fieldBad_zero.1 h0
        refine ⟨fun x hx => ?_, List.pairwise_cons.2 ⟨fun y hy => ?_, h2⟩, fun x hx => ?_⟩
        · rcases List.mem_cons.1 hx with rfl | hx
          · exact a1
          · have := h1 x hx
            omega
        · obtain ⟨z, hz, rfl⟩ := List.mem_map.1 hy
          exact h1 z hz
        · rcases List.mem_cons.1 hx with rfl | hx
          · exact a2
          · exact h3 x hx
      · rw [if_neg h0] at h
        exact absurd h h0
    · rintro ⟨h1, h2, h3⟩
      obtain ⟨b1, b2⟩ := List.pairwise_cons.1 h2
      rw [if_pos (fieldBad_zero.2 ⟨h1 f (List.mem_cons_self ..), h3 f (List.mem_cons_self ..)⟩), checkFs_iff r]
      exact ⟨fun x hx => b1 _ (List.mem_map.2 ⟨x, hx, rfl⟩), b2, fun x hx => h3 x (List.mem_cons_of_mem _ hx)⟩
theorem good_nos {fs : List Fld} (h : Good fs) : Nos fs := ⟨h.1, fun f hf => by
  obtain ⟨m, h1, _⟩ := h.2 f hf
  obtain ⟨_, _, _, _, _, h2, _⟩ := form_nf h1
  exact h2⟩
theorem mcheck_zero {ty : Int} {fs : List Fld} : mcheck ty fs = 0 ↔ mtypes.contains ty = true ∧ fs.length ≤ 24 ∧ Good fs := by
  unfold mcheck
  constructor
  · intro h
    split at h
    · cases h
    · rename_i h1
      split at h
      · cases h
      · rename_i h2
        obtain ⟨_, h3⟩ := (checkFs_iff _ _).1 h
        exact ⟨by cases hc : mtypes.contains ty with | true => rfl | false => exact absurd hc h1, by omega, h3⟩
  · rintro ⟨h1, h2, h3⟩
    rw [if_neg (by rw [h1]; decide), if_neg (by omega), checkFs_iff]
    exact ⟨fun f hf => by have := (good_nos h3).2 f hf; omega, h3⟩
/-! ### the fields' bytes -/
def Said (d : Nat) (f : Fld) : Prop := ∃ m, mform d f.1 = some m ∧ m.check (say d f) = 0
def sayPut (d : Nat) (f : Fld) : List UInt8 := match mform d f.1 with
  | none => []
  | some m => m.put (say d f)
def body (d : Nat) (fs : List Fld) : List UInt8 := fs.foldr (fun f b => sayPut d f ++ b) []
theorem putFs_iff {d : Nat} : ∀ (fs : List Fld) (b r : List UInt8), putFs d b fs = some r ↔ r = b ++ body d fs ∧ ∀ f ∈ fs, Said d f
  | [], b, r => by
    simp only [putFs, body, List.foldr_nil, List.append_nil]
    constructor
    · intro h; injection h with h; exact ⟨h.symm, fun _ h => by cases h⟩
    · rintro ⟨rfl, _⟩; rfl
  | f :: l, b, r => by
    unfold putFs
    have hbody : body d (f :: l) = sayPut d f ++ body d l := rfl
    cases hm : mform d f.1 with
    | none =>
      simp only []
      constructor
      · intro h; cases h
      · rintro ⟨_, h⟩
        obtain ⟨m, h1, _⟩ := h f (List.mem_cons_self ..)
        rw [hm] at h1
        cases h1
    | some m =>
      have hs : sayPut d f = m.put (say d f) := by unfold sayPut; rw [hm]
      simp only []
      constructor
      · intro h
        split at h
        · rename_i hc
          obtain ⟨h1, h2⟩ := (putFs_iff l _ _).1 h
          refine ⟨by rw [h1, hbody, hs, List.append_assoc], fun x hx => ?_⟩
          rcases List.mem_cons.1 hx with rfl | hx
          · exact ⟨m, hm, hc⟩
          · exact h2 x hx
        · cases h
      · rintro ⟨h1, h2⟩
        obtain ⟨m', h3, h4⟩ := h2 f (List.mem_cons_self ..)
        rw [hm] at h3
        injection h3 with h3
        subst h3
        rw [if_pos h4, putFs_iff l]
        exact ⟨by rw [h1, hbody, hs, List.append_assoc], fun x hx => h2 x (List.mem_cons_of_mem _ hx)⟩
/-- what a message needs to be written so in a dialect -/
def Wr (d : Nat) (ty : Int) (fs : List Fld) : Prop := mtypes.contains ty = true ∧ fs.length ≤ 24 ∧ Good fs ∧ ∀ f ∈ fs, Said d f
def wire (d : Nat) (ty : Int) (fs : List Fld) : List UInt8 := (typeFm d).put (ver d ++ dig3 ty.toNat) ++ (mapPut d fs ++ body d fs)
theorem mencode_ok {d : Int} {ty : Int} {fs : List Fld} {b : List UInt8} : mencode d ty fs = .ok b ↔ (1 ≤ d ∧ d ≤ 3) ∧ Wr d.toNat ty fs ∧ b = wire d.toNat ty fs := by
  unfold mencode
  constructor
  · intro h
    split at h
    · rename_i hd
      split at h
      · rename_i hc
        obtain ⟨h1, h2, h3⟩ := mcheck_zero.1 hc
        split at h
        · cases h
        · rename_i r hr
          injection h with h
          obtain ⟨h4, h5⟩ := (putFs_iff _ _ _).1 hr
          refine ⟨hd, ⟨h1, h2, h3, h5⟩, ?_⟩
          rw [← h, h4, mhead_eq]
          unfold wire
          rw [List.append_assoc]
      · cases h
    · cases h
  · rintro ⟨hd, ⟨h1, h2, h3, h4⟩, rfl⟩
    rw [if_pos hd, if_pos (mcheck_zero.2 ⟨h1, h2, h3⟩), (putFs_iff _ _ _).2 ⟨rfl, h4⟩]
    simp only []
    rw [mhead_eq]
    unfold wire
    rw [List.append_assoc]
/-! ### types -/
theorem type_right {d : Nat} {ty : Int} (hd : 1 ≤ d ∧ d ≤ 3) (h : mtypes.contains ty = true) : (typeFm d).right (ver d ++ dig3 ty.toNat) = true ∧ mtype d (ver d ++ dig3 ty.toNat) = some ty := by
  have key : ∀ d : Fin 3, ∀ ty ∈ mtypes, (typeFm (d.val + 1)).right (ver (d.val + 1) ++ dig3 ty.toNat) = true ∧ mtype (d.val + 1) (ver (d.val + 1) ++ dig3 ty.toNat) = some ty := by decide +kernel
  have := key ⟨d - 1, by omega⟩ ty (by simpa using h)
  simpa [show d - 1 + 1 = d from by omega] using this
theorem ver_one (d : Nat) : ∃ v, ver d = [v] := by
  unfold ver
  split
  · exact ⟨_, rfl⟩
  · split <;> exact ⟨_, rfl⟩
/-! ### how many bytes there may be -/
theorem sum_rows (g : Int → Nat) : ∀ (R : List (Int × Int × Int)) (l : List Int), Rise l → (∀ x ∈ l, ∃ r ∈ R, r.1 = x) → R.Pairwise (fun a b => a.1 < b.1) → (l.map g).sum ≤ (R.map fun r => g r.1).sum
  | [], [], _, _, _ => Nat.le_refl _
  | [], x :: l, _, h, _ => by obtain ⟨r, hr, _⟩ := h x (List.mem_cons_self ..); cases hr
  | r :: R, [], _, _, _ => Nat.zero_le _
  | r :: R, x :: l, hl, h, hR => by
    obtain ⟨l1, l2⟩ := List.pairwise_cons.1 hl
    obtain ⟨r1, r2⟩ := List.pairwise_cons.1 hR
    obtain ⟨q, hq, hqx⟩ := h x (List.mem_cons_self ..)
    rw [List.map_cons, List.map_cons, List.sum_cons, List.sum_cons]
    have hrest : ∀ y ∈ l, ∃ q ∈ R, q.1 = y := fun y hy => by
      obtain ⟨p, hp, hpy⟩ := h y (List.mem_cons_of_mem _ hy)
      rcases List.mem_cons.1 hp with rfl | hp
      · have := l1 y hy
        rcases List.mem_cons.1 hq with rfl | hq
        · omega
        · have := r1 q hq
          omega
      · exact ⟨p, hp, hpy⟩
    rcases List.mem_cons.1 hq with rfl | hq
    · have := sum_rows g R l l2 hrest r2
      rw [← hqx]
      omega
    · have := sum_rows g R (x :: l) hl (fun y hy => by
        rcases List.mem_cons.1 hy with rfl | hy
        · exact ⟨q, hq, hqx⟩
        · exact hrest y hy) r2
      rw [List.map_cons, List.sum_cons] at this
      omega
def capOf (no : Int) : Nat := match mfind no mrows with
  | none => 0
  | some r => 2 * r.2.toNat + 2
theorem mrows_rise : mrows.Pairwise (fun a b => a.1 < b.1) := by decide
theorem caps_all : (mrows.map fun r => capOf r.1).sum = 382 := by decide +kernel
theorem good_rows {fs : List Fld} (h : Good fs) : ∀ x ∈ fs.map (·.1), ∃ r ∈ mrows, r.1 = x := fun x hx => by
  obtain ⟨f, hf, rfl⟩ := List.mem_map.1 hx
  obtain ⟨m, h1, _⟩ := h.2 f hf
  unfold mform at h1
  obtain ⟨r, hr, _⟩ := Option.map_eq_some_iff.1 h1
  exact ⟨_, mfind_mem hr, rfl⟩
theorem put_cap {k s c : Nat} {t : List UInt8} (hk : 1 ≤ k ∧ k ≤ 5) (hc : 1 ≤ c ∧ c ≤ 3) (hs : 1 ≤ s ∧ s ≤ 64) (hr : (nf k s c).right t = true) : ((nf k s c).put t).length ≤ 2 * s + 2 := by
  rw [fm_len hc hs hr]
  have one : ∀ (n : Nat) (a b : List UInt8), Pt.size ⟨n, a, b⟩ ≤ n := fun n a b => by
    unfold Pt.size
    split
    · show (n + 1) / 2 ≤ n
      omega
    · exact Nat.le_refl _
  have all : ∀ (kk : Int) (n : Nat), sizeAll (ptsOf kk (c : Int) n) ≤ (if kk = 4 then 2 * n else if kk = 5 then 1 + n else n) := fun kk n => by
    unfold ptsOf
    by_cases h3 : kk = 3
    · rw [if_pos h3, if_neg (by omega), if_neg (by omega)]
      exact one _ _ _
    · rw [if_neg h3]
      by_cases h4 : kk = 4
      · rw [if_pos h4, if_pos h4]
        exact one _ _ _
      · rw [if_neg h4, if_neg h4]
        by_cases h5 : kk = 5
        · rw [if_pos h5, if_pos h5]
          exact Nat.add_le_add (one _ _ _) (one _ _ _)
        · rw [if_neg h5, if_neg h5]
          exact one _ _ _
  split
  · rename_i h2
    subst h2
    obtain ⟨hl, _⟩ := ll_right hr
    have a1 := all 1 2
    have a2 := all 2 t.length
    rw [if_neg (by decide), if_neg (by decide)] at a1 a2
    omega
  · have a1 := all (k : Int) s
    split at a1
    · omega
    · split at a1 <;> omega
theorem body_cap {d : Nat} (hd : 1 ≤ d ∧ d ≤ 3) : ∀ fs : List Fld, (∀ f ∈ fs, Said d f) → (body d fs).length ≤ ((fs.map (·.1)).map capOf).sum
  | [], _ => Nat.le_refl _
  | f :: l, h => by
    have hbody : body d (f :: l) = sayPut d f ++ body d l := rfl
    obtain ⟨m, hm, hc⟩ := h f (List.mem_cons_self ..)
    obtain ⟨k, s, rfl, hk, hs, _, _, hf, _⟩ := form_nf hm
    have h1 := put_cap hk hd hs ((check_zero hk hd hs).1 hc)
    have hsp : sayPut d f = (nf k s d).put (say d f) := by unfold sayPut; rw [hm]
    have hcap : capOf f.1 = 2 * (s + (unsaid d f.1).length) + 2 := by
      unfold capOf
      rw [hf]
      show 2 * (((s + (unsaid d f.1).length : Nat) : Int)).toNat + 2 = _
      rw [Int.toNat_natCast]
    have ih := body_cap hd l fun x hx => h x (List.mem_cons_of_mem _ hx)
    rw [hbody, List.length_append, List.map_cons, List.map_cons, List.sum_cons, hsp, hcap]
    omega
theorem wire_len {d : Nat} {ty : Int} {fs : List Fld} (hd : 1 ≤ d ∧ d ≤ 3) (h : Wr d ty fs) : (wire d ty fs).length ≤ 500 := by
  obtain ⟨h1, _, h3, h4⟩ := h
  have a1 := put_cap (k := 1) (s := 4) (c := d) (by decide) hd (by decide) (type_right hd h1).1
  have a2 : (mapPut d fs).length ≤ 36 := by
    have hp : ∀ n, ((mapFm d).put (hexk 16 n)).length ≤ 18 := fun n => put_cap (k := 4) (s := 8) (c := d) (by decide) hd (by decide) (hex_right d n)
    unfold mapPut halves
    split
    · have := hp (half1 fs)
      simp only [List.foldr_cons, List.foldr_nil, List.append_nil]
      omega
    · have := hp (half1 fs ||| 2 ^ 63)
      have := hp (half2 fs)
      simp only [List.foldr_cons, List.foldr_nil, List.append_nil, List.length_append]
      omega
  have a3 := body_cap hd fs h4
  have a4 := sum_rows capOf mrows _ h3.1 (good_rows h3) mrows_rise
  rw [caps_all] at a4
  unfold wire
  rw [List.length_append, List.length_append]
  have : ((typeFm d).put (ver d ++ dig3 ty.toNat)).length ≤ 10 := a1
  omega
end Go.Proofs.YtfnillibngijaaaGreatDoor.Fdd
