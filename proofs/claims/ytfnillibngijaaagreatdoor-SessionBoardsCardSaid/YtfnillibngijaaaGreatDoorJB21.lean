/-
  Texts in one file: MsFg MsTrim MsMd. Conditions: the tables and the errors read as the program's text lays them.
-/
import Derived.Test.YtfnillibngijaaaGreatDoorJB20
import Derived.Test.YtfnillibngijaaaGreatDoorJB19
namespace Go.Proofs.YtfnillibngijaaaGreatDoor
open Go.RowKit
open Fdd
set_option linter.unusedVariables false
set_option linter.unusedSimpArgs false
set_option maxRecDepth 20000 in
theorem typeForm_walk {w : World} {d : Nat} : Calls Tryz.prog 62 #[tongV d] w fun e w' => e = .returned (fmV (typeFm d)) ∧ Turn nowhere w w' := by
  obtain ⟨v0, hv0⟩ := ver_one d
  have HV := Lib.hid (show (ver d).length = 1 from by rw [hv0]; rfl)
  clear hv0
  have hW : ∃ w1 b0 bt, w1 = (w.alloc (.cells (tongA d) 98)).alloc (.cells #[.int .i64 0, .int .i64 0, .int .i64 0] 104) ∧ bt = w.heap.size ∧ b0 = w.heap.size + 1 := ⟨_, _, _, rfl, rfl, rfl⟩
  obtain ⟨w1, b0, bt, hw1, hbt, hb0⟩ := hW
  have hU : Turn nowhere w w1 := by rw [hw1]; exact ((Turn.refl nowhere w).alloc _).alloc _
  have hBt : Blk w1 bt 98 (tongA d) := by rw [hw1, hbt]; exact (Blk.new w _ _).alloc _
  have hB0 : Blk w1 b0 104 #[.int .i64 0, .int .i64 0, .int .i64 0] := by
    rw [hw1, hb0]
    have := Blk.new (w.alloc (.cells (tongA d) 98)) 104 #[.int .i64 0, .int .i64 0, .int .i64 0]
    simpa using this
  have HG := Lib.hid hbt
  have HG0 := Lib.hid hb0
  have HU := Lib.hid hU
  have HBT := Lib.hid hBt
  have HB0 := Lib.hid hB0
  have HW := Lib.hid hw1
  clear hU hBt hB0 hw1 hbt hb0
  go_enter Tryz.func62, Tryz.ntmps62
  go_upto_region 1 with fail
  have e0 := HG0.out
  have e1 := HG.out
  have e2 := HW.out
  change Code.wp _ _ _ _ ((w.alloc (.cells (tongA d) 98)).alloc (.cells #[.int .i64 0, .int .i64 0, .int .i64 0] 104))
  rw [← e2, ← e0, ← e1]
  clear e0 e1 e2 HW
  have c0 : w1.cell? ⟨bt, 0, none⟩ = some (.int .i64 (d : Int)) := HBT.out.cell 0
  have c1 : w1.cell? ⟨bt, 1, none⟩ = some (strV (ver d)) := HBT.out.cell 1
  refine wp_region_lit ?_
  refine wpList_run (v := .pointer (some ⟨bt, 1, none⟩)) rfl (exec_field (off := 0) (d := 1) rfl rfl (by kernel_rfl)) ?_
  simp only [Act.put, List.setIfInBounds_toArray, List.set_cons_zero, List.set_cons_succ]
  refine wpList_run (v := strV (ver d)) rfl (exec_load1 rfl rfl (by kernel_rfl) c1) ?_
  simp only [Act.put, List.setIfInBounds_toArray, List.set_cons_zero, List.set_cons_succ]
  refine wpList_run (v := .int .i64 ((ver d).length : Int)) rfl (exec_slen rfl rfl) ?_
  simp only [Act.put, List.setIfInBounds_toArray, List.set_cons_zero, List.set_cons_succ]
  refine wpList_run (v := .int .i64 4) rfl (ix_add rfl rfl rfl (by rw [HV.out]; rfl) (by omega)) ?_
  simp only [Act.put, List.setIfInBounds_toArray, List.set_cons_zero, List.set_cons_succ]
  refine wpList_run (v := .pointer (some ⟨bt, 0, none⟩)) rfl (exec_field (off := 0) (d := 0) rfl rfl (by kernel_rfl)) ?_
  simp only [Act.put, List.setIfInBounds_toArray, List.set_cons_zero, List.set_cons_succ]
  refine wpList_run (v := .int .i64 (d : Int)) rfl (exec_load1 rfl rfl (by kernel_rfl) c0) ?_
  simp only [Act.put, List.setIfInBounds_toArray, List.set_cons_zero, List.set_cons_succ]
  refine wpList_run (v := .agg #[.int .i64 1, .int .i64 4, .int .i64 (d : Int)]) rfl (exec_build3 rfl rfl rfl rfl (build_any _ _ _ _)) ?_
  simp only [Act.put, List.setIfInBounds_toArray, List.set_cons_zero, List.set_cons_succ]

  refine wpList_store_row rfl 104 (.tmp 2) (.tmp 9) rfl #[.int .i64 1, .int .i64 4, .int .i64 (d : Int)] HB0.out rfl rfl rfl (by rw [size_form]; rfl) (fm3_one _ _ _) ?_
  intro w2 hB2 hU2
  have HB2 := Lib.hid hB2
  have HU2 := Lib.hid (HU.out.trans hU2 (fun k hk e => by
    have := HG0.out
    have e : k = b0 := e
    omega))
  clear hB2 hU2 c0 c1
  simp only [Act.put, List.setIfInBounds_toArray, List.set_cons_zero, List.set_cons_succ]
  go_wp2_with fail
  refine bodyPost_ret (v := fmV (typeFm d)) (results_cell_row rfl _ _ b0 _ _ _ _ rfl HB2.out Tryz.underlying104 rfl (by rw [size_form]; rfl)) rfl ?_
  exact ⟨rfl, HU2.out⟩
set_option maxRecDepth 20000 in
theorem mapForm_walk {w : World} {d : Nat} : Calls Tryz.prog 64 #[tongV d] w fun e w' => e = .returned (fmV (mapFm d)) ∧ Turn nowhere w w' := by
  have hW : ∃ w1 b0 bt, w1 = (w.alloc (.cells (tongA d) 98)).alloc (.cells #[.int .i64 0, .int .i64 0, .int .i64 0] 104) ∧ bt = w.heap.size ∧ b0 = w.heap.size + 1 := ⟨_, _, _, rfl, rfl, rfl⟩
  obtain ⟨w1, b0, bt, hw1, hbt, hb0⟩ := hW
  have hU : Turn nowhere w w1 := by rw [hw1]; exact ((Turn.refl nowhere w).alloc _).alloc _
  have hBt : Blk w1 bt 98 (tongA d) := by rw [hw1, hbt]; exact (Blk.new w _ _).alloc _
  have hB0 : Blk w1 b0 104 #[.int .i64 0, .int .i64 0, .int .i64 0] := by
    rw [hw1, hb0]
    have := Blk.new (w.alloc (.cells (tongA d) 98)) 104 #[.int .i64 0, .int .i64 0, .int .i64 0]
    simpa using this
  have HG := Lib.hid hbt
  have HG0 := Lib.hid hb0
  have HU := Lib.hid hU
  have HBT := Lib.hid hBt
  have HB0 := Lib.hid hB0
  have HW := Lib.hid hw1
  clear hU hBt hB0 hw1 hbt hb0
  go_enter Tryz.func64, Tryz.ntmps64
  go_upto_region 1 with fail
  have e0 := HG0.out
  have e1 := HG.out
  have e2 := HW.out
  change Code.wp _ _ _ _ ((w.alloc (.cells (tongA d) 98)).alloc (.cells #[.int .i64 0, .int .i64 0, .int .i64 0] 104))
  rw [← e2, ← e0, ← e1]
  clear e0 e1 e2 HW
  have c0 : w1.cell? ⟨bt, 0, none⟩ = some (.int .i64 (d : Int)) := HBT.out.cell 0
  have c1 : w1.cell? ⟨bt, 1, none⟩ = some (strV (ver d)) := HBT.out.cell 1
  refine wp_region_lit ?_
  refine wpList_run (v := .pointer (some ⟨bt, 0, none⟩)) rfl (exec_field (off := 0) (d := 0) rfl rfl (by kernel_rfl)) ?_
  simp only [Act.put, List.setIfInBounds_toArray, List.set_cons_zero, List.set_cons_succ]
  refine wpList_run (v := .int .i64 (d : Int)) rfl (exec_load1 rfl rfl (by kernel_rfl) c0) ?_
  simp only [Act.put, List.setIfInBounds_toArray, List.set_cons_zero, List.set_cons_succ]
  refine wpList_run (v := .agg #[.int .i64 4, .int .i64 8, .int .i64 (d : Int)]) rfl (exec_build3 rfl rfl rfl rfl (build_any _ _ _ _)) ?_
  simp only [Act.put, List.setIfInBounds_toArray, List.set_cons_zero, List.set_cons_succ]

  refine wpList_store_row rfl 104 (.tmp 2) (.tmp 5) rfl #[.int .i64 4, .int .i64 8, .int .i64 (d : Int)] HB0.out rfl rfl rfl (by rw [size_form]; rfl) (fm3_one _ _ _) ?_
  intro w2 hB2 hU2
  have HB2 := Lib.hid hB2
  have HU2 := Lib.hid (HU.out.trans hU2 (fun k hk e => by
    have := HG0.out
    have e : k = b0 := e
    omega))
  clear hB2 hU2 c0 c1
  simp only [Act.put, List.setIfInBounds_toArray, List.set_cons_zero, List.set_cons_succ]
  go_wp2_with fail
  refine bodyPost_ret (v := fmV (mapFm d)) (results_cell_row rfl _ _ b0 _ _ _ _ rfl HB2.out Tryz.underlying104 rfl (by rw [size_form]; rfl)) rfl ?_
  exact ⟨rfl, HU2.out⟩
theorem digits_type {ty : Int} (h : mtypes.contains ty = true) : digitsOf ty 3 = (dig3 ty.toNat, 0) ∧ 0 ≤ ty ∧ ty ≤ 810 := by
  have hb : ∀ ty ∈ mtypes, (100 : Int) ≤ ty ∧ ty ≤ 810 := by decide
  have h1 := hb ty (by simpa using h)
  obtain ⟨n, rfl⟩ : ∃ n : Nat, ty = (n : Int) := ⟨ty.toNat, by omega⟩
  have e : Lib.itoa (n : Int) = dig3 n := by
    unfold Lib.itoa
    rw [if_neg (by omega), Int.toNat_natCast, Lib.decDigits, dif_neg (by omega), Lib.decDigits, dif_neg (by omega), dig_one (by omega), Nat.div_div_eq_div_mul]
    rfl
  refine ⟨?_, by omega, by omega⟩
  unfold digitsOf
  rw [e, if_neg (by omega), if_neg (by simp [dig3])]
  rfl
theorem half_right {d : Nat} {fs : List Fld} (hd : 1 ≤ d ∧ d ≤ 3) {h : List UInt8} (hh : h ∈ halves fs) : (mapFm d).check h = 0 ∧ ((mapFm d).put h).length ≤ 18 := by
  have key : ∀ n, (mapFm d).check (hexk 16 n) = 0 ∧ ((mapFm d).put (hexk 16 n)).length ≤ 18 := fun n => ⟨(check_zero (by decide) hd (by decide)).2 (hex_right d n), put_cap (k := 4) (s := 8) (c := d) (by decide) hd (by decide) (hex_right d n)⟩
  unfold halves at hh
  split at hh
  · simp only [List.mem_singleton] at hh
    subst hh
    exact key _
  · simp only [List.mem_cons, List.not_mem_nil, or_false] at hh
    rcases hh with rfl | rfl <;> exact key _
theorem halves_len (fs : List Fld) : (halves fs).length ≤ 2 := by
  unfold halves
  split <;> simp
def hpart (d : Nat) (ty : Int) (fs : List Fld) (j : Nat) : List UInt8 := ((halves fs).take j).foldl (fun b h => b ++ (mapFm d).put h) ((typeFm d).put (ver d ++ dig3 ty.toNat))
theorem hpart_succ {d : Nat} {ty : Int} {fs : List Fld} {j : Nat} {h : List UInt8} (hj : (halves fs)[j]? = some h) : hpart d ty fs (j + 1) = hpart d ty fs j ++ (mapFm d).put h := by
  unfold hpart
  rw [List.take_add_one, hj, List.foldl_append]
  rfl
theorem hpart_len {d : Nat} {ty : Int} {fs : List Fld} (hd : 1 ≤ d ∧ d ≤ 3) (ht : mtypes.contains ty = true) : ∀ j, (hpart d ty fs j).length ≤ 10 + 18 * j
  | 0 => by
    have : ((typeFm d).put (ver d ++ dig3 ty.toNat)).length ≤ 10 := put_cap (k := 1) (s := 4) (c := d) (by decide) hd (by decide) (type_right hd ht).1
    unfold hpart
    simpa using this
  | j + 1 => by
    have ih := hpart_len (d := d) (ty := ty) (fs := fs) hd ht j
    cases hj : (halves fs)[j]? with
    | none =>
      have : hpart d ty fs (j + 1) = hpart d ty fs j := by
        unfold hpart
        rw [List.take_add_one, hj]
        simp
      rw [this]
      omega
    | some h =>
      have := (half_right (fs := fs) hd (List.mem_of_getElem? hj)).2
      rw [hpart_succ hj, List.length_append]
      omega
theorem ss_cell {w : World} {g i : Nat} {l : List (List UInt8)} {x : List UInt8} (h : Ss w g l) (hx : l[i]? = some x) : w.cell? ⟨g, i, none⟩ = some (strV x) := by
  obtain ⟨C, t, hb, hc⟩ := h
  rw [hb.cell]
  exact hc i x hx
theorem Ss.still {w w' : World} {g : Nat} {l : List (List UInt8)} (h : Ss w g l) (ht : Turn nowhere w w') : Ss w' g l := by
  obtain ⟨C, t, hb, hc⟩ := h
  exact ⟨C, t, hb.turn ht (fun e => e), hc⟩
theorem own_still {w w' : World} {B : Nat} {v : Value} {bs : List UInt8} (h : Own w B 5 v bs) (ht : Turn nowhere w w') : Own w' B 5 v bs := h.below (ht.below (Nat.le_refl _) (fun _ _ e => e)) (Nat.le_refl _)
theorem own_len {w : World} {B n c : Nat} {A : Option Addr} {bs : List UInt8} (h : Own w B 5 (.slice A n c) bs) : bs.length = n := (own_bs h).1.1
theorem exec_slenS {a : Act} {o : Oper} {W : World} {x : Operand} {A : Option Addr} {n c : Nat} (ho : o.op = .call { callee := .builtin .len, args := #[x], argTypes := #[127] }) (hx : a.eval x = .slice A n c) : (execOp a.eval o).run Tryz.prog W = .ok (.value (.int .i64 (n : Int))) W := gx_len ho hx Tryz.underlying127
set_option maxRecDepth 20000 in
set_option maxHeartbeats 1000000 in
theorem putHead_walk {s : Sents} {w : World} {d : Nat} {ty : Int} {A : Option Addr} {n c : Nat} {fs : List Fld} (hd : 1 ≤ d ∧ d ≤ 3) (hty : mtypes.contains ty = true) (hno : ∀ f ∈ fs, 2 ≤ f.1 ∧ f.1 ≤ 97) (hs : Sen s w) (hr : RowsT w) (hp : PowT w) (hz : ZerT w) (hf : Fl w A n fs) :
    Calls Tryz.prog 45 #[tongV d, msgV ty A n c] w fun e w' => ∃ A' n' c', e = .returned (.tuple #[.slice A' n' c', .nilIface]) ∧ Own w' w.heap.size 5 (.slice A' n' c') (mhead d ty fs) ∧ Turn nowhere w w' := by
  have hW : ∃ w1 bm bt, w1 = (w.alloc (.cells (tongA d) 98)).alloc (.cells #[.int .i64 ty, .slice A n c] 49) ∧ bt = w.heap.size ∧ bm = w.heap.size + 1 := ⟨_, _, _, rfl, rfl, rfl⟩
  obtain ⟨w1, bm, bt, hw1, hbt, hbm⟩ := hW
  have hU : Turn nowhere w w1 := by rw [hw1]; exact ((Turn.refl nowhere w).alloc _).alloc _
  have hBt : Blk w1 bt 98 (tongA d) := by rw [hw1, hbt]; exact (Blk.new w _ _).alloc _
  have hBm : Blk w1 bm 49 #[.int .i64 ty, .slice A n c] := by
    rw [hw1, hbm]
    have := Blk.new (w.alloc (.cells (tongA d) 98)) 49 #[.int .i64 ty, .slice A n c]
    simpa using this
  obtain ⟨hdg, hty0, hty8⟩ := digits_type hty
  obtain ⟨hrt, _⟩ := type_right hd hty
  have HS := Lib.hid (hs.turn hU)
  have HR := Lib.hid (hr.turn hU)
  have HZ := Lib.hid (hz.turn hU)
  have HF := Lib.hid (hf.still hU)
  have hdw := digits_walk ty 3 w1 (fun W ht => itoa_at (by omega) (by omega) ((hp.turn hU).turn ht))
  rw [hdg] at hdw
  have HDW := Lib.hid hdw
  have HD := Lib.hid hd
  have HTY := Lib.hid hty
  have HNO := Lib.hid hno
  have HG := Lib.hid hbt
  have HG0 := Lib.hid hbm
  have HU := Lib.hid hU
  have HBT := Lib.hid hBt
  have HBM := Lib.hid hBm
  have HW := Lib.hid hw1
  have HCT := Lib.hid (show (typeFm d).check (ver d ++ dig3 ty.toNat) = 0 from (check_zero (by decide) hd (by decide)).2 hrt)
  clear hU hBt hBm hw1 hbt hbm hdg hty0 hty8 hrt hs hr hz hf hdw hd hty hno hp
  unfold msgV
  go_enter Tryz.func45, Tryz.ntmps45
  go_upto_region 1 with fail
  have e0 := HG0.out
  have e1 := HG.out
  have e2 := HW.out
  change Code.wp _ _ _ _ ((w.alloc (.cells (tongA d) 98)).alloc (.cells #[.int .i64 ty, .slice A n c] 49))
  rw [← e2, ← e0, ← e1]
  clear e0 e1 e2 HW
  have c0 : w1.cell? ⟨bm, 0, none⟩ = some (.int .i64 ty) := HBM.out.cell 0
  refine wp_region_lit ?_
  refine wpList_run (v := .pointer (some ⟨bm, 0, none⟩)) rfl (exec_field (off := 0) (d := 0) rfl rfl (by kernel_rfl)) ?_
  simp only [Act.put, List.setIfInBounds_toArray, List.set_cons_zero, List.set_cons_succ]
  refine wpList_run (v := .int .i64 ty) rfl (exec_load1 rfl rfl (by kernel_rfl) c0) ?_
  simp only [Act.put, List.setIfInBounds_toArray, List.set_cons_zero, List.set_cons_succ]
  refine wpList_op rfl fun K9 HK9 => ?_
  go_wp2_with fail
  refine (HDW.out).mono ?_
  rintro e w2 ⟨rfl, ht2⟩
  refine HK9.out _ _ ?_
  clear HK9
  try simp only [Act.put, List.setIfInBounds_toArray, List.set_cons_zero, List.set_cons_succ]
  refine wpList_run (v := .tuple #[strV (dig3 ty.toNat), .int .i64 0]) rfl (exec_move rfl rfl) ?_
  simp only [Act.put, List.setIfInBounds_toArray, List.set_cons_zero, List.set_cons_succ]
  refine wpList_run (v := strV (dig3 ty.toNat)) rfl (ix_extract rfl rfl rfl) ?_
  simp only [Act.put, List.setIfInBounds_toArray, List.set_cons_zero, List.set_cons_succ]
  refine wpList_run (v := .int .i64 0) rfl (ix_extract rfl rfl rfl) ?_
  simp only [Act.put, List.setIfInBounds_toArray, List.set_cons_zero, List.set_cons_succ]
  refine wpList_run (v := strV (dig3 ty.toNat)) rfl (gx_assign rfl rfl) ?_
  simp only [Act.put, List.setIfInBounds_toArray, List.set_cons_zero, List.set_cons_succ]
  refine wpList_run (v := .int .i64 0) rfl (gx_assign rfl rfl) ?_
  simp only [Act.put, List.setIfInBounds_toArray, List.set_cons_zero, List.set_cons_succ]

  have HU2 := Lib.hid ht2
  clear ht2 c0 HDW
  obtain ⟨dg, hdg⟩ : ∃ dg, dg = dig3 ty.toNat := ⟨_, rfl⟩
  obtain ⟨vr, hvr⟩ : ∃ vr, vr = ver d := ⟨_, rfl⟩
  have HL3 := Lib.hid (show vr.length + dg.length ≤ 8388608 from by
    obtain ⟨v, hv⟩ := ver_one d
    rw [hvr, hdg, hv]
    simp [dig3])
  have HDG := Lib.hid hdg
  have HVR := Lib.hid hvr
  have HCT2 : Hid ((typeFm d).check (vr ++ dg) = 0) := Lib.hid (by rw [hdg, hvr]; exact HCT.out)
  rw [← hdg]
  clear hdg hvr HCT
  go_upto_region 2 with fail
  have hS0 : Blk w2.drew bt 98 (tongA d) := (HBT.out.turn (F := nowhere) HU2.out (fun e => e)).drew
  have HU3 : Hid (Turn nowhere w1 w2.drew) := Lib.hid HU2.out.drew
  clear HU2
  refine wp_region_alw (fun W => Blk W bt 98 (tongA d)) (by kernel_rfl) ?_
  generalize w2.drew = w3 at *
  refine alw_take (i := 0) (v := tongV d) rfl (by kernel_rfl) (by kernel_rfl) (fun _ _ _ h => h) (.inl ⟨by rfl, fun W hW => gx_loads rfl rfl (blk_range hW) Tryz.underlying98 rfl (by rw [size_tongue]; rfl)⟩) hS0 ?_
  simp only [Act.put, List.setIfInBounds_toArray, List.set_cons_zero, List.set_cons_succ]
  refine alw_take (i := 2) (v := .pointer (some ⟨bt, 1, none⟩)) rfl (by kernel_rfl) (by kernel_rfl) (fun _ _ _ h => h) (.inl ⟨by rfl, fun W hW => exec_field (off := 0) (d := 1) rfl rfl (by kernel_rfl)⟩) hS0 ?_
  simp only [Act.put, List.setIfInBounds_toArray, List.set_cons_zero, List.set_cons_succ]
  refine alw_take (i := 3) (v := strV vr) rfl (by kernel_rfl) (by kernel_rfl) (fun _ _ _ h => h) (.inl ⟨by rfl, fun W hW => exec_load1 rfl rfl (by kernel_rfl) (by rw [HVR.out]; exact hW.cell 1)⟩) hS0 ?_
  simp only [Act.put, List.setIfInBounds_toArray, List.set_cons_zero, List.set_cons_succ]
  refine alw_take (i := 4) (v := strV dg) rfl (by kernel_rfl) (by kernel_rfl) (fun _ _ _ h => h) (.inl ⟨by rfl, fun W hW => exec_move rfl rfl⟩) hS0 ?_
  simp only [Act.put, List.setIfInBounds_toArray, List.set_cons_zero, List.set_cons_succ]
  refine alw_take (i := 5) (v := strV (vr ++ dg)) rfl (by kernel_rfl) (by kernel_rfl) (fun _ _ _ h => h) (.inl ⟨by rfl, fun W hW => exec_sadd rfl rfl rfl HL3.out⟩) hS0 ?_
  simp only [Act.put, List.setIfInBounds_toArray, List.set_cons_zero, List.set_cons_succ]
  refine alw_step (i := 1) (by kernel_rfl) rfl rfl ?_
  intro K1 HK1
  go_wp2_with fail
  refine typeForm_walk.mono ?_
  rintro e w4 ⟨rfl, ht4⟩
  have hS1 : Blk w4 bt 98 (tongA d) := hS0.turn ht4 (fun e => e)
  refine HK1.out _ _ ⟨hS1, ?_⟩
  have HU4 := Lib.hid (HU3.out.trans ht4 (fun _ _ e => e))
  clear HK1 hS0 HU3 ht4
  try simp only [Act.put, List.setIfInBounds_toArray, List.set_cons_zero, List.set_cons_succ]
  refine alw_step (i := 6) (by kernel_rfl) rfl rfl ?_
  intro K1 HK1
  go_wp2_with fail
  refine (mput_walk (s := s) (no := 0) (f := typeFm d) (t := vr ++ dg) (b := []) (cap := 0) (HS.out.turn HU4.out) (HR.out.turn HU4.out) (bs_nil _ none) (by decide)).mono ?_
  rintro e w5 ⟨A5, n5, c5, rfl, ho5, ht5⟩
  have hS2 : Blk w5 bt 98 (tongA d) := hS1.turn ht5 (fun e => e)
  refine HK1.out _ _ ⟨hS2, ?_⟩
  have HU5 := Lib.hid (HU4.out.trans ht5 (fun _ _ e => e))
  have ho5b : Own w5 w1.heap.size 5 (.slice A5 n5 c5) (hpart d ty fs 0) := by
    have h0 : hpart d ty fs 0 = putR (typeFm d) (vr ++ dg) [] := by
      unfold hpart putR
      rw [HCT2.out, if_pos rfl, HVR.out, HDG.out]
      rfl
    rw [h0]
    exact own_base ho5 HU4.out.size
  have HO5 := Lib.hid ho5b
  have hwz : wrapV s 0 ((typeFm d).check (vr ++ dg)) = .nilIface := by rw [HCT2.out]; rfl
  rw [hwz]
  clear HK1 hS1 HU4 ho5 ho5b ht5 hwz
  try simp only [Act.put, List.setIfInBounds_toArray, List.set_cons_zero, List.set_cons_succ]
  refine alw_take (i := 7) (v := .tuple #[.slice A5 n5 c5, .nilIface]) rfl (by kernel_rfl) (by kernel_rfl) (fun _ _ _ h => h) (.inl ⟨by rfl, fun W hW => exec_move rfl rfl⟩) hS2 ?_
  simp only [Act.put, List.setIfInBounds_toArray, List.set_cons_zero, List.set_cons_succ]
  refine alw_take (i := 8) (v := .slice A5 n5 c5) rfl (by kernel_rfl) (by kernel_rfl) (fun _ _ _ h => h) (.inl ⟨by rfl, fun W hW => ix_extract rfl rfl rfl⟩) hS2 ?_
  simp only [Act.put, List.setIfInBounds_toArray, List.set_cons_zero, List.set_cons_succ]
  refine alw_take (i := 9) (v := .nilIface) rfl (by kernel_rfl) (by kernel_rfl) (fun _ _ _ h => h) (.inl ⟨by rfl, fun W hW => ix_extract rfl rfl rfl⟩) hS2 ?_
  simp only [Act.put, List.setIfInBounds_toArray, List.set_cons_zero, List.set_cons_succ]
  refine alw_take (i := 10) (v := .slice A5 n5 c5) rfl (by kernel_rfl) (by kernel_rfl) (fun _ _ _ h => h) (.inl ⟨by rfl, fun W hW => gx_assign rfl rfl⟩) hS2 ?_
  simp only [Act.put, List.setIfInBounds_toArray, List.set_cons_zero, List.set_cons_succ]
  refine alw_take (i := 11) (v := .nilIface) rfl (by kernel_rfl) (by kernel_rfl) (fun _ _ _ h => h) (.inl ⟨by rfl, fun W hW => gx_assign rfl rfl⟩) hS2 ?_
  simp only [Act.put, List.setIfInBounds_toArray, List.set_cons_zero, List.set_cons_succ]
  refine alw_done rfl ?_
  clear hS2
  refine NoPanic.normal ?_

  have c1 : w5.cell? ⟨bm, 1, none⟩ = some (.slice A n c) := (HBM.out.turn HU5.out (fun e => e)).cell 1
  go_upto_region 5 with fail
  refine wp_region_lit ?_
  refine wpList_run (v := .pointer (some ⟨bm, 1, none⟩)) rfl (exec_field (off := 0) (d := 1) rfl rfl (by kernel_rfl)) ?_
  simp only [Act.put, List.setIfInBounds_toArray, List.set_cons_zero, List.set_cons_succ]
  refine wpList_run (v := .slice A n c) rfl (exec_load1 rfl rfl (by kernel_rfl) c1) ?_
  simp only [Act.put, List.setIfInBounds_toArray, List.set_cons_zero, List.set_cons_succ]
  refine wpList_op rfl fun K9 HK9 => ?_
  go_wp2_with fail
  refine (mapTexts_walk (HF.out.still HU5.out) (HZ.out.turn HU5.out) HNO.out).mono ?_
  rintro e w6 ⟨gs, cs, rfl, hss, ht6⟩
  refine HK9.out _ _ ?_
  clear HK9
  try simp only [Act.put, List.setIfInBounds_toArray, List.set_cons_zero, List.set_cons_succ]

  have HSS := Lib.hid hss
  have HU6 := Lib.hid (HU5.out.trans ht6 (fun _ _ e => e))
  have HO6 := Lib.hid (own_still HO5.out ht6)
  obtain ⟨m, hm⟩ : ∃ m, m = (halves fs).length := ⟨_, rfl⟩
  rw [← hm]
  have HM := Lib.hid hm
  have HM2 := Lib.hid (show m ≤ 2 from by rw [hm]; exact halves_len fs)
  have y9 : (m : Int) ≤ 2 := by have := HM2.out; omega
  clear hss ht6 HU5 HO5 c1 hm
  refine wpList_run (v := .int .i64 (m : Int)) rfl (exec_slenS rfl rfl) ?_
  simp only [Act.put, List.setIfInBounds_toArray, List.set_cons_zero, List.set_cons_succ]

  go_wp2_with fail
  go_loopg [8, 35] m (fun gk bv jv wr => ∃ (j : Nat) (A' : Option Addr) (n' c' : Nat), j + gk = m ∧ jv = .int .i64 (j : Int) ∧ bv = .slice A' n' c' ∧ Own wr w1.heap.size 5 (.slice A' n' c') (hpart d ty fs j) ∧ Turn nowhere w6 wr)
  case atStart => exact ⟨0, A5, n5, c5, by omega, rfl, rfl, HO6.out, Turn.refl _ _⟩
  obtain ⟨j, Aj, nj, cj, hjl, rfl, rfl, hoj, htr⟩ := hrel
  have HJL := Lib.hid hjl
  have HOJ := Lib.hid hoj
  have HTR := Lib.hid htr
  clear hjl hoj htr
  by_cases hlt : j < m
  · have y1 : (j : Int) < (m : Int) := by omega
    have HLT := Lib.hid hlt
    obtain ⟨x, hx⟩ : ∃ x, (halves fs)[j]? = some x := ⟨_, List.getElem?_eq_getElem (show j < (halves fs).length from by rw [← HM.out]; exact hlt)⟩
    have HX := Lib.hid hx
    have HCR := Lib.hid (half_right HD.out (List.mem_of_getElem? hx))
    have cx : wr.cell? ⟨gs, j, none⟩ = some (strV x) := ss_cell (HSS.out.still HTR.out) hx
    clear hlt hx
    go_upto_region 7 with fail
    refine wp_region_lit ?_
    refine wpList_run (v := .pointer (some ⟨gs, j, none⟩)) rfl (gx_iaddr (i := j) (sz := 1) rfl rfl rfl Tryz.underlying127 (by kernel_rfl) HLT.out (by omega)) ?_
    simp only [Act.put, List.setIfInBounds_toArray, List.set_cons_zero, List.set_cons_succ]
    refine wpList_run (v := strV x) rfl (exec_load1 rfl rfl (by kernel_rfl) cx) ?_
    simp only [Act.put, List.setIfInBounds_toArray, List.set_cons_zero, List.set_cons_succ]
    refine wpList_run (v := strV x) rfl (gx_assign rfl rfl) ?_
    simp only [Act.put, List.setIfInBounds_toArray, List.set_cons_zero, List.set_cons_succ]

    have HBR := Lib.hid ((HBT.out.turn HU6.out (fun e => e)).turn HTR.out (fun e => e))
    have HUR := Lib.hid (HU6.out.trans HTR.out (fun _ _ e => e))
    go_upto_region 8 with fail
    refine wp_region_lit ?_
    refine wpList_run (v := .slice Aj nj cj) rfl (exec_move rfl rfl) ?_
    simp only [Act.put, List.setIfInBounds_toArray, List.set_cons_zero, List.set_cons_succ]
    refine wpList_run (v := tongV d) rfl (gx_loads rfl rfl (blk_range HBR.out) Tryz.underlying98 rfl (by rw [size_tongue]; rfl)) ?_
    simp only [Act.put, List.setIfInBounds_toArray, List.set_cons_zero, List.set_cons_succ]
    refine wpList_op rfl fun K9 HK9 => ?_
    go_wp2_with fail
    refine (mapForm_walk).mono ?_
    rintro e w7 ⟨rfl, ht7⟩
    refine HK9.out _ _ ?_
    clear HK9
    try simp only [Act.put, List.setIfInBounds_toArray, List.set_cons_zero, List.set_cons_succ]
    refine wpList_run (v := strV x) rfl (exec_move rfl rfl) ?_
    simp only [Act.put, List.setIfInBounds_toArray, List.set_cons_zero, List.set_cons_succ]
    refine wpList_op rfl fun K9 HK9 => ?_
    go_wp2_with fail
    refine (mput_walk (s := s) (no := 1) (f := mapFm d) (t := x) (HS.out.turn (HUR.out.trans ht7 (fun _ _ e => e))) (HR.out.turn (HUR.out.trans ht7 (fun _ _ e => e))) (own_bs (own_still HOJ.out ht7)).1 (by have h1 := own_len HOJ.out; have h2 := hpart_len (fs := fs) HD.out HTY.out j; have h3 := HLT.out; have h4 := HM2.out; omega)).mono ?_
    rintro e w8 ⟨A8, n8, c8, rfl, ho8, ht8⟩
    refine HK9.out _ _ ?_
    clear HK9
    try simp only [Act.put, List.setIfInBounds_toArray, List.set_cons_zero, List.set_cons_succ]

    have hwz : wrapV s 1 ((mapFm d).check x) = .nilIface := by rw [HCR.out.1]; rfl
    rw [hwz]
    have HO8 := Lib.hid (show Own w8 w1.heap.size 5 (.slice A8 n8 c8) (hpart d ty fs (j + 1)) from by
      rw [hpart_succ HX.out]
      unfold putR at ho8
      rw [if_pos HCR.out.1] at ho8
      exact own_base ho8 (Nat.le_trans HUR.out.size ht7.size))
    have HT8 := Lib.hid ((HTR.out.trans ht7 (fun _ _ e => e)).trans ht8 (fun _ _ e => e))
    clear hwz ho8 ht7 ht8 cx HBR HUR
    refine wpList_run (v := .tuple #[.slice A8 n8 c8, .nilIface]) rfl (exec_move rfl rfl) ?_
    simp only [Act.put, List.setIfInBounds_toArray, List.set_cons_zero, List.set_cons_succ]
    refine wpList_run (v := .slice A8 n8 c8) rfl (ix_extract rfl rfl rfl) ?_
    simp only [Act.put, List.setIfInBounds_toArray, List.set_cons_zero, List.set_cons_succ]
    refine wpList_run (v := .nilIface) rfl (ix_extract rfl rfl rfl) ?_
    simp only [Act.put, List.setIfInBounds_toArray, List.set_cons_zero, List.set_cons_succ]
    refine wpList_run (v := .slice A8 n8 c8) rfl (gx_assign rfl rfl) ?_
    simp only [Act.put, List.setIfInBounds_toArray, List.set_cons_zero, List.set_cons_succ]
    refine wpList_run (v := .nilIface) rfl (gx_assign rfl rfl) ?_
    simp only [Act.put, List.setIfInBounds_toArray, List.set_cons_zero, List.set_cons_succ]

    go_wp2_with fail
    go_roundg (gk - 1)
    case measure => have := HJL.out; have := HLT.out; omega
    case rel => exact ⟨j + 1, A8, n8, c8, by have := HJL.out; have := HLT.out; omega, by go_num, rfl, HO8.out, HT8.out⟩
  · have y1 : ¬ ((j : Int) < (m : Int)) := by omega
    have HE := Lib.hid (show hpart d ty fs j = mhead d ty fs from by
      unfold hpart
      rw [List.take_of_length_le (by rw [← HM.out]; omega)]
      rfl)
    clear hlt
    go_wp2_with fail
    go_ret2
    rw [← HE.out]
    exact ⟨_, _, _, rfl, own_base HOJ.out HU.out.size, (HU.out.trans HU6.out (fun _ _ e => e)).trans HTR.out (fun _ _ e => e)⟩
end Go.Proofs.YtfnillibngijaaaGreatDoor
namespace Go.Proofs.YtfnillibngijaaaGreatDoor
open Go.RowKit
open Fdd
set_option linter.unusedVariables false
set_option linter.unusedSimpArgs false
set_option maxRecDepth 20000 in
theorem hasPrefix_walk {w : World} {x p : List UInt8} : Calls Tryz.prog 85 #[strV x, strV p] w fun e w' => e = .returned (.bool (p.isPrefixOf x)) ∧ w' = w := by
  by_cases hl : p.length ≤ x.length
  · have hv : p.isPrefixOf x = (x.take p.length == p) := by
      rw [Bool.eq_iff_iff, List.isPrefixOf_iff_prefix, beq_iff_eq, List.prefix_iff_eq_take]
      exact ⟨fun h => h.symm, fun h => h.symm⟩
    rw [hv]
    have HL := Lib.hid hl
    clear hl hv
    go_enter Tryz.func85, Tryz.ntmps85
    go_upto_region 1 with fail
    refine wp_region_lit ?_
    refine wpList_run (v := strV x) rfl (exec_move rfl rfl) ?_
    simp only [Act.put, List.setIfInBounds_toArray, List.set_cons_zero, List.set_cons_succ]
    refine wpList_run (v := .int .i64 (x.length : Int)) rfl (exec_slen rfl rfl) ?_
    simp only [Act.put, List.setIfInBounds_toArray, List.set_cons_zero, List.set_cons_succ]
    refine wpList_run (v := strV p) rfl (exec_move rfl rfl) ?_
    simp only [Act.put, List.setIfInBounds_toArray, List.set_cons_zero, List.set_cons_succ]
    refine wpList_run (v := .int .i64 (p.length : Int)) rfl (exec_slen rfl rfl) ?_
    simp only [Act.put, List.setIfInBounds_toArray, List.set_cons_zero, List.set_cons_succ]
    refine wpList_run (v := .bool true) rfl (ix_geq rfl rfl rfl (decide_eq_true (by have := HL.out; omega))) ?_
    simp only [Act.put, List.setIfInBounds_toArray, List.set_cons_zero, List.set_cons_succ]
    refine wpList_run (v := .bool true) rfl (exec_move rfl rfl) ?_
    simp only [Act.put, List.setIfInBounds_toArray, List.set_cons_zero, List.set_cons_succ]
    refine wpList_run (v := strV x) rfl (exec_move rfl rfl) ?_
    simp only [Act.put, List.setIfInBounds_toArray, List.set_cons_zero, List.set_cons_succ]
    refine wpList_run (v := strV p) rfl (exec_move rfl rfl) ?_
    simp only [Act.put, List.setIfInBounds_toArray, List.set_cons_zero, List.set_cons_succ]
    refine wpList_run (v := .int .i64 (p.length : Int)) rfl (exec_slen rfl rfl) ?_
    simp only [Act.put, List.setIfInBounds_toArray, List.set_cons_zero, List.set_cons_succ]
    refine wpList_run (v := strV (x.take p.length)) rfl (exec_sto rfl rfl rfl HL.out) ?_
    simp only [Act.put, List.setIfInBounds_toArray, List.set_cons_zero, List.set_cons_succ]
    refine wpList_run (v := strV p) rfl (exec_move rfl rfl) ?_
    simp only [Act.put, List.setIfInBounds_toArray, List.set_cons_zero, List.set_cons_succ]
    refine wpList_run (v := .bool (x.take p.length == p)) rfl (exec_seql rfl rfl rfl) ?_
    simp only [Act.put, List.setIfInBounds_toArray, List.set_cons_zero, List.set_cons_succ]
    refine wpList_run (v := .bool (x.take p.length == p)) rfl (ix_pickT rfl rfl rfl) ?_
    simp only [Act.put, List.setIfInBounds_toArray, List.set_cons_zero, List.set_cons_succ]
    refine wpList_run (v := .bool (x.take p.length == p)) rfl (gx_assign rfl rfl) ?_
    simp only [Act.put, List.setIfInBounds_toArray, List.set_cons_zero, List.set_cons_succ]

    obtain ⟨q, hq⟩ : ∃ q, q = (x.take p.length == p) := ⟨_, rfl⟩
    rw [← hq]
    have HQ := Lib.hid hq
    clear hq
    go_wp2_with fail
    go_ret
    refine ⟨?_, rfl⟩
    first | (rw [← HQ.out]; done) | (rw [← HQ.out]; rfl)
  · have hv : p.isPrefixOf x = false := by
      cases h : p.isPrefixOf x with
      | false => rfl
      | true =>
        have := (List.isPrefixOf_iff_prefix.1 h).length_le
        exact absurd this hl
    rw [hv]
    have HL := Lib.hid hl
    clear hl hv
    go_enter Tryz.func85, Tryz.ntmps85
    go_upto_region 1 with fail
    refine wp_region_lit ?_
    refine wpList_run (v := strV x) rfl (exec_move rfl rfl) ?_
    simp only [Act.put, List.setIfInBounds_toArray, List.set_cons_zero, List.set_cons_succ]
    refine wpList_run (v := .int .i64 (x.length : Int)) rfl (exec_slen rfl rfl) ?_
    simp only [Act.put, List.setIfInBounds_toArray, List.set_cons_zero, List.set_cons_succ]
    refine wpList_run (v := strV p) rfl (exec_move rfl rfl) ?_
    simp only [Act.put, List.setIfInBounds_toArray, List.set_cons_zero, List.set_cons_succ]
    refine wpList_run (v := .int .i64 (p.length : Int)) rfl (exec_slen rfl rfl) ?_
    simp only [Act.put, List.setIfInBounds_toArray, List.set_cons_zero, List.set_cons_succ]
    refine wpList_run (v := .bool false) rfl (ix_geq rfl rfl rfl (decide_eq_false (by have := HL.out; omega))) ?_
    simp only [Act.put, List.setIfInBounds_toArray, List.set_cons_zero, List.set_cons_succ]

    go_wp2_with fail
    go_ret
    exact ⟨rfl, rfl⟩
theorem prefix_le {p x : List UInt8} (h : p.isPrefixOf x = true) : p.length ≤ x.length := (List.isPrefixOf_iff_prefix.1 h).length_le
theorem trim_t {p x : List UInt8} (h : p.isPrefixOf x = true) : Lib.trimPrefix x p = x.drop p.length := by
  unfold Lib.trimPrefix Lib.hasPrefix
  rw [if_pos h]
theorem trim_f {p x : List UInt8} (h : p.isPrefixOf x = false) : Lib.trimPrefix x p = x := by
  unfold Lib.trimPrefix Lib.hasPrefix
  rw [if_neg (by rw [h]; decide)]
set_option maxRecDepth 20000 in
theorem trim_walk {w : World} {x p : List UInt8} : Calls Tryz.prog 48 #[strV x, strV p] w fun e w' => e = .returned (strV (Lib.trimPrefix x p)) ∧ w' = w := by
  have key : Calls Tryz.prog 66 #[strV x, strV p] w fun e w' => e = .returned (strV (Lib.trimPrefix x p)) ∧ w' = w := by
    have hw := hasPrefix_walk (w := w) (x := x) (p := p)
    cases hp : p.isPrefixOf x with
    | true =>
      rw [hp] at hw
      have HW := Lib.hid hw
      have HL := Lib.hid (prefix_le hp)
      rw [trim_t hp]
      clear hw hp
      go_enter Tryz.func66, Tryz.ntmps66
      go_upto_region 2 with (go_at_call 85; refine HW.out.mono ?_; rintro e w1 ⟨rfl, rfl⟩)
      refine wp_region_lit ?_
      refine wpList_run (v := strV x) rfl (exec_move rfl rfl) ?_
      simp only [Act.put, List.setIfInBounds_toArray, List.set_cons_zero, List.set_cons_succ]
      refine wpList_run (v := strV p) rfl (exec_move rfl rfl) ?_
      simp only [Act.put, List.setIfInBounds_toArray, List.set_cons_zero, List.set_cons_succ]
      refine wpList_run (v := .int .i64 (p.length : Int)) rfl (exec_slen rfl rfl) ?_
      simp only [Act.put, List.setIfInBounds_toArray, List.set_cons_zero, List.set_cons_succ]
      refine wpList_run (v := strV (x.drop p.length)) rfl (exec_sfrom rfl rfl rfl HL.out) ?_
      simp only [Act.put, List.setIfInBounds_toArray, List.set_cons_zero, List.set_cons_succ]
      refine wpList_run (v := strV (x.drop p.length)) rfl (gx_assign rfl rfl) ?_
      simp only [Act.put, List.setIfInBounds_toArray, List.set_cons_zero, List.set_cons_succ]

      obtain ⟨q, hq⟩ : ∃ q, q = x.drop p.length := ⟨_, rfl⟩
      rw [← hq]
      have HQ := Lib.hid hq
      clear hq
      go_wp2_with fail
      go_ret
      refine ⟨?_, rfl⟩
      first | (rw [← HQ.out]; done) | (rw [← HQ.out]; rfl)
    | false =>
      rw [hp] at hw
      have HW := Lib.hid hw
      rw [trim_f hp]
      clear hw hp
      go_enter Tryz.func66, Tryz.ntmps66
      go_wp2_with (go_at_call 85; refine HW.out.mono ?_; rintro e w1 ⟨rfl, rfl⟩)
      go_ret
      exact ⟨rfl, rfl⟩
  have HK := Lib.hid key
  clear key
  generalize Lib.trimPrefix x p = q at *
  go_enter Tryz.func48, Tryz.ntmps48
  go_wp2_with (go_at_call 66; refine HK.out.mono ?_; rintro e w1 ⟨rfl, rfl⟩)
  go_ret
  exact ⟨rfl, rfl⟩
end Go.Proofs.YtfnillibngijaaaGreatDoor
namespace Go.Proofs.YtfnillibngijaaaGreatDoor.Fdd
set_option linter.unusedVariables false
theorem toNat_in {d : Int} (h : 1 ≤ d ∧ d ≤ 3) : 1 ≤ d.toNat ∧ d.toNat ≤ 3 := by omega
end Go.Proofs.YtfnillibngijaaaGreatDoor.Fdd
