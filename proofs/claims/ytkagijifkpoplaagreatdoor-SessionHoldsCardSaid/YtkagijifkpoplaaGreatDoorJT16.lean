/-
  Texts in one file. Conditions: the tables and the errors read as laid.
-/
import Derived.Test.YtkagijifkpoplaaGreatDoorJT15
import Derived.Lib.ConvBytes
import Derived.Shelf.Small.Bits
import Derived.Test.YtkagijifkpoplaaGreatDoorProg
import Derived.Lib.BitFns
import Derived.Test.YtkagijifkpoplaaGreatDoorJT0
import Derived.Test.YtkagijifkpoplaaGreatDoorJT1
set_option linter.unusedVariables false
set_option linter.unusedSimpArgs false
set_option maxRecDepth 40000
set_option maxHeartbeats 20000000
namespace Go.Proofs.YtkagijifkpoplaaGreatDoor
open Go.RowKit
open Fdd
theorem typeForm_walk {w : World} {d : Nat} : Calls Tryz.prog 85 #[tongV d] w fun e w' => e = .returned (fmV (typeFm d)) ∧ Turn nowhere w w' := by
 obtain ⟨v0, hv0⟩ := ver_one d
 have HV := zH (show (ver d).length = 1 from by rw [hv0]; rfl)
 clear hv0
 have hW : ∃ w1 b0 bt, w1 = (w.alloc (.cells (tongA d) 112)).alloc (.cells #[.int .i64 0, .int .i64 0, .int .i64 0] 105) ∧ bt = w.heap.size ∧ b0 = w.heap.size + 1 := ⟨_, _, _, rfl, rfl, rfl⟩
 obtain ⟨w1, b0, bt, hw1, hbt, hb0⟩ := hW
 have hU : Turn nowhere w w1 := by rw [hw1]; exact ((Turn.refl nowhere w).alloc _).alloc _
 have hBt : Blk w1 bt 112 (tongA d) := by rw [hw1, hbt]; exact (Blk.new w _ _).alloc _
 have hB0 : Blk w1 b0 105 #[.int .i64 0, .int .i64 0, .int .i64 0] := by
  rw [hw1, hb0]
  have := Blk.new (w.alloc (.cells (tongA d) 112)) 105 #[.int .i64 0, .int .i64 0, .int .i64 0]
  simpa using this
 have HG := zH hbt
 have HG0 := zH hb0
 have HU := zH hU
 have HBT := zH hBt
 have HB0 := zH hB0
 have HW := zH hw1
 clear hU hBt hB0 hw1 hbt hb0
 go_enter Tryz.func85, Tryz.ntmps85
 go_upto_region 1 with fail
 have e0 := HG0.out
 have e1 := HG.out
 have e2 := HW.out
 change Code.wp _ _ _ _ ((w.alloc (.cells (tongA d) 112)).alloc (.cells #[.int .i64 0, .int .i64 0, .int .i64 0] 105))
 rw [← e2, ← e0, ← e1]
 clear e0 e1 e2 HW
 have c0 : w1.cell? ⟨bt, 0, none⟩ = some (.int .i64 (d : Int)) := HBT.out.cell 0
 have c1 : w1.cell? ⟨bt, 1, none⟩ = some (strV (ver d)) := HBT.out.cell 1
 refine wp_region_lit ?_
 refine wS (.pointer (some ⟨bt, 1, none⟩)) (xF 0 1) ?_;simp only [zz];refine wS (strV (ver d)) (exec_load1 rfl rfl (by kernel_rfl) c1) ?_;simp only [zz];refine wS (.int .i64 ((ver d).length : Int)) (exec_slen rfl rfl) ?_;simp only [zz];refine wS (.int .i64 4) (ix_add rfl rfl rfl (by rw [HV.out]; rfl) (by omega)) ?_;simp only [zz];refine wS (.pointer (some ⟨bt, 0, none⟩)) (xF 0 0) ?_;simp only [zz];refine wS (.int .i64 (d : Int)) (exec_load1 rfl rfl (by kernel_rfl) c0) ?_;simp only [zz];refine wS (.agg #[.int .i64 1, .int .i64 4, .int .i64 (d : Int)]) (exec_build3 rfl rfl rfl rfl (build_any _ _ _ _)) ?_;simp only [zz]
 refine wpList_store_row rfl 105 (.tmp 2) (.tmp 9) rfl #[.int .i64 1, .int .i64 4, .int .i64 (d : Int)] HB0.out rfl rfl rfl (by rw [size_form]; rfl) (fm3_one _ _ _) ?_
 intro w2 hB2 hU2
 have HB2 := zH hB2
 have HU2 := zH (HU.out.trans hU2 (fun k hk e => by
  have := HG0.out
  have e : k = b0 := e
  omega))
 clear hB2 hU2 c0 c1
 simp only [zz]
 go_wp2_with fail
 refine bodyPost_ret (v := fmV (typeFm d)) (results_cell_row rfl _ _ b0 _ _ _ _ rfl HB2.out Tryz.underlying105 rfl (by rw [size_form]; rfl)) rfl ?_
 exact ⟨rfl, HU2.out⟩
theorem mapForm_walk {w : World} {d : Nat} : Calls Tryz.prog 87 #[tongV d] w fun e w' => e = .returned (fmV (mapFm d)) ∧ Turn nowhere w w' := by
 have hW : ∃ w1 b0 bt, w1 = (w.alloc (.cells (tongA d) 112)).alloc (.cells #[.int .i64 0, .int .i64 0, .int .i64 0] 105) ∧ bt = w.heap.size ∧ b0 = w.heap.size + 1 := ⟨_, _, _, rfl, rfl, rfl⟩
 obtain ⟨w1, b0, bt, hw1, hbt, hb0⟩ := hW
 have hU : Turn nowhere w w1 := by rw [hw1]; exact ((Turn.refl nowhere w).alloc _).alloc _
 have hBt : Blk w1 bt 112 (tongA d) := by rw [hw1, hbt]; exact (Blk.new w _ _).alloc _
 have hB0 : Blk w1 b0 105 #[.int .i64 0, .int .i64 0, .int .i64 0] := by
  rw [hw1, hb0]
  have := Blk.new (w.alloc (.cells (tongA d) 112)) 105 #[.int .i64 0, .int .i64 0, .int .i64 0]
  simpa using this
 have HG := zH hbt
 have HG0 := zH hb0
 have HU := zH hU
 have HBT := zH hBt
 have HB0 := zH hB0
 have HW := zH hw1
 clear hU hBt hB0 hw1 hbt hb0
 go_enter Tryz.func87, Tryz.ntmps87
 go_upto_region 1 with fail
 have e0 := HG0.out
 have e1 := HG.out
 have e2 := HW.out
 change Code.wp _ _ _ _ ((w.alloc (.cells (tongA d) 112)).alloc (.cells #[.int .i64 0, .int .i64 0, .int .i64 0] 105))
 rw [← e2, ← e0, ← e1]
 clear e0 e1 e2 HW
 have c0 : w1.cell? ⟨bt, 0, none⟩ = some (.int .i64 (d : Int)) := HBT.out.cell 0
 have c1 : w1.cell? ⟨bt, 1, none⟩ = some (strV (ver d)) := HBT.out.cell 1
 refine wp_region_lit ?_
 refine wS (.pointer (some ⟨bt, 0, none⟩)) (xF 0 0) ?_;simp only [zz];refine wS (.int .i64 (d : Int)) (exec_load1 rfl rfl (by kernel_rfl) c0) ?_;simp only [zz];refine wS (.agg #[.int .i64 4, .int .i64 8, .int .i64 (d : Int)]) (exec_build3 rfl rfl rfl rfl (build_any _ _ _ _)) ?_;simp only [zz]
 refine wpList_store_row rfl 105 (.tmp 2) (.tmp 5) rfl #[.int .i64 4, .int .i64 8, .int .i64 (d : Int)] HB0.out rfl rfl rfl (by rw [size_form]; rfl) (fm3_one _ _ _) ?_
 intro w2 hB2 hU2
 have HB2 := zH hB2
 have HU2 := zH (HU.out.trans hU2 (fun k hk e => by
  have := HG0.out
  have e : k = b0 := e
  omega))
 clear hB2 hU2 c0 c1
 simp only [zz]
 go_wp2_with fail
 refine bodyPost_ret (v := fmV (mapFm d)) (results_cell_row rfl _ _ b0 _ _ _ _ rfl HB2.out Tryz.underlying105 rfl (by rw [size_form]; rfl)) rfl ?_
 exact ⟨rfl, HU2.out⟩
theorem digits_type {ty : Int} (h : mtypes.contains ty = true) : digitsOf ty 3 = (dig3 ty.toNat, 0) ∧ 0 ≤ ty ∧ ty ≤ 810 := by
 have hb : ∀ ty ∈ mtypes, (100 : Int) ≤ ty ∧ ty ≤ 810 := by decide
 have h1 := hb ty (by simpa using h)
 obtain ⟨n, rfl⟩ : ∃ n : Nat, ty = (n : Int) := ⟨ty.toNat, by omega⟩
 have e : Lib.itoa (n : Int) = dig3 n := by
  unfold Lib.itoa
  rw [if_neg (by omega), Int.toNat_natCast, Lib.decDigits, dif_neg (by omega), Lib.decDigits, dif_neg (by omega), dig_one (by omega), Nat.div_div_eq_div_mul]
  rfl
 refine ⟨?_, by omega, by omega⟩
 unfold digitsOf
 rw [e, if_neg (by omega), if_neg (by simp [dig3])]
 rfl
theorem half_right {d : Nat} {fs : List Fld} (hd : 1 ≤ d ∧ d ≤ 3) {h : List UInt8} (hh : h ∈ halves fs) : (mapFm d).check h = 0 ∧ ((mapFm d).put h).length ≤ 18 := by
 have key : ∀ n, (mapFm d).check (hexk 16 n) = 0 ∧ ((mapFm d).put (hexk 16 n)).length ≤ 18 := fun n => ⟨(check_zero (by decide) hd (by decide)).2 (hex_right d n), put_cap (k := 4) (s := 8) (c := d) (by decide) hd (by decide) (hex_right d n)⟩
 unfold halves at hh
 split at hh
 ·simp only [List.mem_singleton] at hh
  subst hh
  exact key _
 ·simp only [List.mem_cons, List.not_mem_nil, or_false] at hh
  rcases hh with rfl | rfl <;> exact key _
theorem halves_len (fs : List Fld) : (halves fs).length ≤ 2 := by
 unfold halves
 split <;> simp
def hpart (d : Nat) (ty : Int) (fs : List Fld) (j : Nat) : List UInt8 := ((halves fs).take j).foldl (fun b h => b ++ (mapFm d).put h) ((typeFm d).put (ver d ++ dig3 ty.toNat))
theorem hpart_succ {d : Nat} {ty : Int} {fs : List Fld} {j : Nat} {h : List UInt8} (hj : (halves fs)[j]? = some h) : hpart d ty fs (j + 1) = hpart d ty fs j ++ (mapFm d).put h := by
 unfold hpart
 rw [List.take_add_one, hj, List.foldl_append]
 rfl
theorem hpart_len {d : Nat} {ty : Int} {fs : List Fld} (hd : 1 ≤ d ∧ d ≤ 3) (ht : mtypes.contains ty = true) : ∀ j, (hpart d ty fs j).length ≤ 10 + 18 * j
 | 0 => by
   have : ((typeFm d).put (ver d ++ dig3 ty.toNat)).length ≤ 10 := put_cap (k := 1) (s := 4) (c := d) (by decide) hd (by decide) (type_right hd ht).1
   unfold hpart
   simpa using this
 | j + 1 => by
   have ih := hpart_len (d := d) (ty := ty) (fs := fs) hd ht j
   cases hj : (halves fs)[j]? with
   | none =>
     have : hpart d ty fs (j + 1) = hpart d ty fs j := by
      unfold hpart
      rw [List.take_add_one, hj]
      simp
     rw [this]
     omega
   | some h =>
     have := (half_right (fs := fs) hd (List.mem_of_getElem? hj)).2
     rw [hpart_succ hj, List.length_append]
     omega
theorem ss_cell {w : World} {g i : Nat} {l : List (List UInt8)} {x : List UInt8} (h : Ss w g l) (hx : l[i]? = some x) : w.cell? ⟨g, i, none⟩ = some (strV x) := by
 obtain ⟨C, t, hb, hc⟩ := h
 rw [hb.cell]
 exact hc i x hx
theorem Ss.still {w w' : World} {g : Nat} {l : List (List UInt8)} (h : Ss w g l) (ht : Turn nowhere w w') : Ss w' g l := by
 obtain ⟨C, t, hb, hc⟩ := h
 exact ⟨C, t, hb.turn ht (fun e => e), hc⟩
theorem own_still {w w' : World} {B : Nat} {v : Value} {bs : List UInt8} (h : Own w B 5 v bs) (ht : Turn nowhere w w') : Own w' B 5 v bs := h.below (ht.below (Nat.le_refl _) (fun _ _ e=>e)) (Nat.le_refl _)
theorem own_len {w : World} {B n c : Nat} {A : Option Addr} {bs : List UInt8} (h : Own w B 5 (.slice A n c) bs) : bs.length = n := (own_bs h).1.1
theorem exec_slenS {a : Act} {o : Oper} {W : World} {x : Operand} {A : Option Addr} {n c : Nat} (ho : o.op = .call { callee := .builtin .len, args := #[x], argTypes := #[143] }) (hx : a.eval x = .slice A n c) : (execOp a.eval o).run Tryz.prog W = .ok (.value (.int .i64 (n : Int))) W := gx_len ho hx Tryz.underlying143
theorem putHead_walk {s : Sents} {w : World} {d : Nat} {ty : Int} {A : Option Addr} {n c : Nat} {fs : List Fld} (hd : 1 ≤ d ∧ d ≤ 3) (hty : mtypes.contains ty = true) (hno : ∀ f ∈ fs, 2 ≤ f.1 ∧ f.1 ≤ 97) (hs : Sen s w) (hr : RowsT w) (hp : PowT w) (hz : ZerT w) (hf : Fl w A n fs) :
 Calls Tryz.prog 63 #[tongV d, msgV ty A n c] w fun e w' => ∃ A' n' c', e = .returned (.tuple #[.slice A' n' c', .nilIface]) ∧ Own w' w.heap.size 5 (.slice A' n' c') (mhead d ty fs) ∧ Turn nowhere w w' := by
 have hW : ∃ w1 bm bt, w1 = (w.alloc (.cells (tongA d) 112)).alloc (.cells #[.int .i64 ty, .slice A n c] 29) ∧ bt = w.heap.size ∧ bm = w.heap.size + 1 := ⟨_, _, _, rfl, rfl, rfl⟩
 obtain ⟨w1, bm, bt, hw1, hbt, hbm⟩ := hW
 have hU : Turn nowhere w w1 := by rw [hw1]; exact ((Turn.refl nowhere w).alloc _).alloc _
 have hBt : Blk w1 bt 112 (tongA d) := by rw [hw1, hbt]; exact (Blk.new w _ _).alloc _
 have hBm : Blk w1 bm 29 #[.int .i64 ty, .slice A n c] := by
  rw [hw1, hbm]
  have := Blk.new (w.alloc (.cells (tongA d) 112)) 29 #[.int .i64 ty, .slice A n c]
  simpa using this
 obtain ⟨hdg, hty0, hty8⟩ := digits_type hty
 obtain ⟨hrt, _⟩ := type_right hd hty
 have HS := zH (hs.turn hU)
 have HR := zH (hr.turn hU)
 have HZ := zH (hz.turn hU)
 have HF := zH (hf.still hU)
 have hdw := digits_walk ty 3 w1 (fun W ht => itoa_at (by omega) (by omega) ((hp.turn hU).turn ht))
 rw [hdg] at hdw
 have HDW := zH hdw
 have HD := zH hd
 have HTY := zH hty
 have HNO := zH hno
 have HG := zH hbt
 have HG0 := zH hbm
 have HU := zH hU
 have HBT := zH hBt
 have HBM := zH hBm
 have HW := zH hw1
 have HCT := zH (show (typeFm d).check (ver d ++ dig3 ty.toNat) = 0 from (check_zero (by decide) hd (by decide)).2 hrt)
 clear hU hBt hBm hw1 hbt hbm hdg hty0 hty8 hrt hs hr hz hf hdw hd hty hno hp
 unfold msgV
 go_enter Tryz.func63, Tryz.ntmps63
 go_upto_region 1 with fail
 have e0 := HG0.out
 have e1 := HG.out
 have e2 := HW.out
 change Code.wp _ _ _ _ ((w.alloc (.cells (tongA d) 112)).alloc (.cells #[.int .i64 ty, .slice A n c] 29))
 rw [← e2, ← e0, ← e1]
 clear e0 e1 e2 HW
 have c0 : w1.cell? ⟨bm, 0, none⟩ = some (.int .i64 ty) := HBM.out.cell 0
 refine wp_region_lit ?_
 refine wS (.pointer (some ⟨bm, 0, none⟩)) (xF 0 0) ?_;simp only [zz];refine wS (.int .i64 ty) (exec_load1 rfl rfl (by kernel_rfl) c0) ?_;simp only [zz]
 refine wpList_op rfl fun K9 HK9 => ?_
 go_wp2_with fail
 refine (HDW.out).mono ?_
 rintro e w2 ⟨rfl, ht2⟩
 refine HK9.out _ _ ?_
 clear HK9
 try simp only [zz]
 refine wM (.tuple #[strV (dig3 ty.toNat), .int .i64 0]) ?_;simp only [zz];refine wE (strV (dig3 ty.toNat)) ?_;simp only [zz];refine wE (.int .i64 0) ?_;simp only [zz];refine wA (strV (dig3 ty.toNat)) ?_;simp only [zz];refine wA (.int .i64 0) ?_;simp only [zz]
 have HU2 := zH ht2
 clear ht2 c0 HDW
 obtain ⟨dg, hdg⟩ : ∃ dg, dg = dig3 ty.toNat := ⟨_, rfl⟩
 obtain ⟨vr, hvr⟩ : ∃ vr, vr = ver d := ⟨_, rfl⟩
 have HL3 := zH (show vr.length + dg.length ≤ 8388608 from by
  obtain ⟨v, hv⟩ := ver_one d
  rw [hvr, hdg, hv]
  simp [dig3])
 have HDG := zH hdg
 have HVR := zH hvr
 have HCT2 : Hid ((typeFm d).check (vr ++ dg) = 0) := zH (by rw [hdg, hvr]; exact HCT.out)
 rw [← hdg]
 clear hdg hvr HCT
 go_upto_region 2 with fail
 have hS0 : Blk w2.drew bt 112 (tongA d) := (HBT.out.turn (F := nowhere) HU2.out (fun e => e)).drew
 have HU3 : Hid (Turn nowhere w1 w2.drew) := zH HU2.out.drew
 clear HU2
 refine wp_region_alw (fun W => Blk W bt 112 (tongA d)) (by kernel_rfl) ?_
 generalize w2.drew = w3 at *
 refine aU 0 (tongV d) rfl (fun W hW => gx_loads rfl rfl (blk_range hW) Tryz.underlying112 rfl (by rw [size_tongue]; rfl)) hS0 ?_;simp only [zz];refine aU 2 (.pointer (some ⟨bt, 1, none⟩)) rfl (fun W hW => xF 0 1) hS0 ?_;simp only [zz];refine aU 3 (strV vr) rfl (fun W hW => exec_load1 rfl rfl (by kernel_rfl) (by rw [HVR.out]; exact hW.cell 1)) hS0 ?_;simp only [zz];refine aM 4 (strV dg) hS0 ?_;simp only [zz];refine aU 5 (strV (vr ++ dg)) rfl (fun W hW => exec_sadd rfl rfl rfl HL3.out) hS0 ?_;simp only [zz]
 refine alw_step (i := 1) (by kernel_rfl) rfl rfl ?_
 intro K1 HK1
 go_wp2_with fail
 refine typeForm_walk.mono ?_
 rintro e w4 ⟨rfl, ht4⟩
 have hS1 : Blk w4 bt 112 (tongA d) := hS0.turn ht4 (fun e => e)
 refine HK1.out _ _ ⟨hS1, ?_⟩
 have HU4 := zH (HU3.out.next ht4)
 clear HK1 hS0 HU3 ht4
 try simp only [zz]
 refine alw_step (i := 6) (by kernel_rfl) rfl rfl ?_
 intro K1 HK1
 go_wp2_with fail
 refine (mput_walk (s := s) (no := 0) (f := typeFm d) (t := vr ++ dg) (b := []) (cap := 0) (HS.out.turn HU4.out) (HR.out.turn HU4.out) (bs_nil _ none) (by decide)).mono ?_
 rintro e w5 ⟨A5, n5, c5, rfl, ho5, ht5⟩
 have hS2 : Blk w5 bt 112 (tongA d) := hS1.turn ht5 (fun e => e)
 refine HK1.out _ _ ⟨hS2, ?_⟩
 have HU5 := zH (HU4.out.next ht5)
 have ho5b : Own w5 w1.heap.size 5 (.slice A5 n5 c5) (hpart d ty fs 0) := by
  have h0 : hpart d ty fs 0 = putR (typeFm d) (vr ++ dg) [] := by
   unfold hpart putR
   rw [HCT2.out, if_pos rfl, HVR.out, HDG.out]
   rfl
  rw [h0]
  exact own_base ho5 HU4.out.size
 have HO5 := zH ho5b
 have hwz : wrapV s 0 ((typeFm d).check (vr ++ dg)) = .nilIface := by rw [HCT2.out]; rfl
 rw [hwz]
 clear HK1 hS1 HU4 ho5 ho5b ht5 hwz
 try simp only [zz]
 refine aM 7 (.tuple #[.slice A5 n5 c5, .nilIface]) hS2 ?_;simp only [zz];refine aU 8 (.slice A5 n5 c5) rfl (fun W hW => ix_extract rfl rfl rfl) hS2 ?_;simp only [zz];refine aU 9 .nilIface rfl (fun W hW => ix_extract rfl rfl rfl) hS2 ?_;simp only [zz];refine aU 10 (.slice A5 n5 c5) rfl (fun W hW => gx_assign rfl rfl) hS2 ?_;simp only [zz];refine aU 11 .nilIface rfl (fun W hW => gx_assign rfl rfl) hS2 ?_;simp only [zz]
 refine alw_done rfl ?_
 clear hS2
 refine NoPanic.normal ?_
 have c1 : w5.cell? ⟨bm, 1, none⟩ = some (.slice A n c) := (HBM.out.turn HU5.out (fun e => e)).cell 1
 go_upto_region 5 with fail
 refine wp_region_lit ?_
 refine wS (.pointer (some ⟨bm, 1, none⟩)) (xF 0 1) ?_;simp only [zz];refine wS (.slice A n c) (exec_load1 rfl rfl (by kernel_rfl) c1) ?_;simp only [zz]
 refine wpList_op rfl fun K9 HK9 => ?_
 go_wp2_with fail
 refine (mapTexts_walk (HF.out.still HU5.out) (HZ.out.turn HU5.out) HNO.out).mono ?_
 rintro e w6 ⟨gs, cs, rfl, hss, ht6⟩
 refine HK9.out _ _ ?_
 clear HK9
 try simp only [zz]
 have HSS := zH hss
 have HU6 := zH (HU5.out.next ht6)
 have HO6 := zH (own_still HO5.out ht6)
 obtain ⟨m, hm⟩ : ∃ m, m = (halves fs).length := ⟨_, rfl⟩
 rw [← hm]
 have HM := zH hm
 have HM2 := zH (show m ≤ 2 from by rw [hm]; exact halves_len fs)
 have y9 : (m : Int) ≤ 2 := by have := HM2.out; omega
 clear hss ht6 HU5 HO5 c1 hm
 refine wS (.int .i64 (m : Int)) (exec_slenS rfl rfl) ?_;simp only [zz]
 go_wp2_with fail
 go_loopg [8, 35] m (fun gk bv jv wr => ∃ (j : Nat) (A' : Option Addr) (n' c' : Nat), j + gk = m ∧ jv = .int .i64 (j : Int) ∧ bv = .slice A' n' c' ∧ Own wr w1.heap.size 5 (.slice A' n' c') (hpart d ty fs j) ∧ Turn nowhere w6 wr)
 case atStart => exact ⟨0, A5, n5, c5, by omega, rfl, rfl, HO6.out, Turn.refl _ _⟩
 obtain ⟨j, Aj, nj, cj, hjl, rfl, rfl, hoj, htr⟩ := hrel
 have HJL := zH hjl
 have HOJ := zH hoj
 have HTR := zH htr
 clear hjl hoj htr
 by_cases hlt : j < m
 ·have y1 : (j : Int) < (m : Int) := by omega
  have HLT := zH hlt
  obtain ⟨x, hx⟩ : ∃ x, (halves fs)[j]? = some x := ⟨_, List.getElem?_eq_getElem (show j < (halves fs).length from by rw [← HM.out]; exact hlt)⟩
  have HX := zH hx
  have HCR := zH (half_right HD.out (List.mem_of_getElem? hx))
  have cx : wr.cell? ⟨gs, j, none⟩ = some (strV x) := ss_cell (HSS.out.still HTR.out) hx
  clear hlt hx
  go_upto_region 7 with fail
  refine wp_region_lit ?_
  refine wS (.pointer (some ⟨gs, j, none⟩)) (gx_iaddr (i := j) (sz := 1) rfl rfl rfl Tryz.underlying143 (by kernel_rfl) HLT.out (by omega)) ?_;simp only [zz];refine wS (strV x) (exec_load1 rfl rfl (by kernel_rfl) cx) ?_;simp only [zz];refine wA (strV x) ?_;simp only [zz]
  have HBR := zH ((HBT.out.turn HU6.out (fun e => e)).turn HTR.out (fun e => e))
  have HUR := zH (HU6.out.next HTR.out)
  go_upto_region 8 with fail
  refine wp_region_lit ?_
  refine wM (.slice Aj nj cj) ?_;simp only [zz];refine wS (tongV d) (gx_loads rfl rfl (blk_range HBR.out) Tryz.underlying112 rfl (by rw [size_tongue]; rfl)) ?_;simp only [zz]
  refine wpList_op rfl fun K9 HK9 => ?_
  go_wp2_with fail
  refine (mapForm_walk).mono ?_
  rintro e w7 ⟨rfl, ht7⟩
  refine HK9.out _ _ ?_
  clear HK9
  try simp only [zz]
  refine wM (strV x) ?_;simp only [zz]
  refine wpList_op rfl fun K9 HK9 => ?_
  go_wp2_with fail
  refine (mput_walk (s := s) (no := 1) (f := mapFm d) (t := x) (HS.out.turn (HUR.out.next ht7)) (HR.out.turn (HUR.out.next ht7)) (own_bs (own_still HOJ.out ht7)).1 (by have h1 := own_len HOJ.out; have h2 := hpart_len (fs := fs) HD.out HTY.out j; have h3 := HLT.out; have h4 := HM2.out; omega)).mono ?_
  rintro e w8 ⟨A8, n8, c8, rfl, ho8, ht8⟩
  refine HK9.out _ _ ?_
  clear HK9
  try simp only [zz]
  have hwz : wrapV s 1 ((mapFm d).check x) = .nilIface := by rw [HCR.out.1]; rfl
  rw [hwz]
  have HO8 := zH (show Own w8 w1.heap.size 5 (.slice A8 n8 c8) (hpart d ty fs (j + 1)) from by
   rw [hpart_succ HX.out]
   unfold putR at ho8
   rw [if_pos HCR.out.1] at ho8
   exact own_base ho8 (Nat.le_trans HUR.out.size ht7.size))
  have HT8 := zH ((HTR.out.next ht7).next ht8)
  clear hwz ho8 ht7 ht8 cx HBR HUR
  refine wM (.tuple #[.slice A8 n8 c8, .nilIface]) ?_;simp only [zz];refine wE (.slice A8 n8 c8) ?_;simp only [zz];refine wE .nilIface ?_;simp only [zz];refine wA (.slice A8 n8 c8) ?_;simp only [zz];refine wA .nilIface ?_;simp only [zz]
  go_wp2_with fail
  go_roundg (gk - 1)
  case measure => have := HJL.out; have := HLT.out; omega
  case rel => exact ⟨j + 1, A8, n8, c8, by have := HJL.out; have := HLT.out; omega, by go_num, rfl, HO8.out, HT8.out⟩
 ·have y1 : ¬ ((j : Int) < (m : Int)) := by omega
  have HE := zH (show hpart d ty fs j = mhead d ty fs from by
   unfold hpart
   rw [List.take_of_length_le (by rw [← HM.out]; omega)]
   rfl)
  clear hlt
  go_wp2_with fail
  go_ret2
  rw [← HE.out]
  exact ⟨_, _, _, rfl, own_base HOJ.out HU.out.size, (HU.out.next HU6.out).next HTR.out⟩
theorem hasPrefix_walk {w : World} {x p : List UInt8} : Calls Tryz.prog 117 #[strV x, strV p] w fun e w' => e = .returned (.bool (p.isPrefixOf x)) ∧ w' = w := by
 by_cases hl : p.length ≤ x.length
 ·have hv : p.isPrefixOf x = (x.take p.length == p) := by
   rw [Bool.eq_iff_iff, List.isPrefixOf_iff_prefix, beq_iff_eq, List.prefix_iff_eq_take]
   exact ⟨fun h => h.symm, fun h => h.symm⟩
  rw [hv]
  have HL := zH hl
  clear hl hv
  go_enter Tryz.func117, Tryz.ntmps117
  go_upto_region 1 with fail
  refine wp_region_lit ?_
  refine wM (strV x) ?_;simp only [zz];refine wS (.int .i64 (x.length : Int)) (exec_slen rfl rfl) ?_;simp only [zz];refine wM (strV p) ?_;simp only [zz];refine wS (.int .i64 (p.length : Int)) (exec_slen rfl rfl) ?_;simp only [zz];refine wS (.bool true) (ix_geq rfl rfl rfl (decide_eq_true (by have := HL.out; omega))) ?_;simp only [zz];refine wM (.bool true) ?_;simp only [zz];refine wM (strV x) ?_;simp only [zz];refine wM (strV p) ?_;simp only [zz];refine wS (.int .i64 (p.length : Int)) (exec_slen rfl rfl) ?_;simp only [zz];refine wS (strV (x.take p.length)) (exec_sto rfl rfl rfl HL.out) ?_;simp only [zz];refine wM (strV p) ?_;simp only [zz];refine wS (.bool (x.take p.length == p)) (exec_seql rfl rfl rfl) ?_;simp only [zz];refine wS (.bool (x.take p.length == p)) (ix_pickT rfl rfl rfl) ?_;simp only [zz];refine wA (.bool (x.take p.length == p)) ?_;simp only [zz]
  obtain ⟨q, hq⟩ : ∃ q, q = (x.take p.length == p) := ⟨_, rfl⟩
  rw [← hq]
  have HQ := zH hq
  clear hq
  go_wp2_with fail
  go_ret
  refine ⟨?_, rfl⟩
  first | (rw [← HQ.out]; done) | (rw [← HQ.out]; rfl)
 ·have hv : p.isPrefixOf x = false := by
   cases h : p.isPrefixOf x with
   | false => rfl
   | true =>
     have := (List.isPrefixOf_iff_prefix.1 h).length_le
     exact absurd this hl
  rw [hv]
  have HL := zH hl
  clear hl hv
  go_enter Tryz.func117, Tryz.ntmps117
  go_upto_region 1 with fail
  refine wp_region_lit ?_
  refine wM (strV x) ?_;simp only [zz];refine wS (.int .i64 (x.length : Int)) (exec_slen rfl rfl) ?_;simp only [zz];refine wM (strV p) ?_;simp only [zz];refine wS (.int .i64 (p.length : Int)) (exec_slen rfl rfl) ?_;simp only [zz];refine wS (.bool false) (ix_geq rfl rfl rfl (decide_eq_false (by have := HL.out; omega))) ?_;simp only [zz]
  go_wp2_with fail
  go_ret
  exact ⟨rfl, rfl⟩
theorem prefix_le {p x : List UInt8} (h : p.isPrefixOf x = true) : p.length ≤ x.length := (List.isPrefixOf_iff_prefix.1 h).length_le
theorem trim_t {p x : List UInt8} (h : p.isPrefixOf x = true) : Lib.trimPrefix x p = x.drop p.length := by
 unfold Lib.trimPrefix Lib.hasPrefix
 rw [if_pos h]
theorem trim_f {p x : List UInt8} (h : p.isPrefixOf x = false) : Lib.trimPrefix x p = x := by
 unfold Lib.trimPrefix Lib.hasPrefix
 rw [if_neg (by rw [h]; decide)]
theorem trim_walk {w : World} {x p : List UInt8} : Calls Tryz.prog 66 #[strV x, strV p] w fun e w' => e = .returned (strV (Lib.trimPrefix x p)) ∧ w' = w := by
 have key : Calls Tryz.prog 89 #[strV x, strV p] w fun e w' => e = .returned (strV (Lib.trimPrefix x p)) ∧ w' = w := by
  have hw := hasPrefix_walk (w := w) (x := x) (p := p)
  cases hp : p.isPrefixOf x with
  | true =>
    rw [hp] at hw
    have HW := zH hw
    have HL := zH (prefix_le hp)
    rw [trim_t hp]
    clear hw hp
    go_enter Tryz.func89, Tryz.ntmps89
    go_upto_region 2 with (go_at_call 117; refine HW.out.mono ?_; rintro e w1 ⟨rfl, rfl⟩)
    refine wp_region_lit ?_
    refine wM (strV x) ?_;simp only [zz];refine wM (strV p) ?_;simp only [zz];refine wS (.int .i64 (p.length : Int)) (exec_slen rfl rfl) ?_;simp only [zz];refine wS (strV (x.drop p.length)) (exec_sfrom rfl rfl rfl HL.out) ?_;simp only [zz];refine wA (strV (x.drop p.length)) ?_;simp only [zz]
    obtain ⟨q, hq⟩ : ∃ q, q = x.drop p.length := ⟨_, rfl⟩
    rw [← hq]
    have HQ := zH hq
    clear hq
    go_wp2_with fail
    go_ret
    refine ⟨?_, rfl⟩
    first | (rw [← HQ.out]; done) | (rw [← HQ.out]; rfl)
  | false =>
    rw [hp] at hw
    have HW := zH hw
    rw [trim_f hp]
    clear hw hp
    go_enter Tryz.func89, Tryz.ntmps89
    go_wp2_with (go_at_call 117; refine HW.out.mono ?_; rintro e w1 ⟨rfl, rfl⟩)
    go_ret
    exact ⟨rfl, rfl⟩
 have HK := zH key
 clear key
 generalize Lib.trimPrefix x p = q at *
 go_enter Tryz.func66, Tryz.ntmps66
 go_wp2_with (go_at_call 89; refine HK.out.mono ?_; rintro e w1 ⟨rfl, rfl⟩)
 go_ret
 exact ⟨rfl, rfl⟩
end Go.Proofs.YtkagijifkpoplaaGreatDoor
namespace Go.Proofs.YtkagijifkpoplaaGreatDoor.Fdd
theorem toNat_in {d : Int} (h : 1 ≤ d ∧ d ≤ 3) : 1 ≤ d.toNat ∧ d.toNat ≤ 3 := by omega
end Go.Proofs.YtkagijifkpoplaaGreatDoor.Fdd
namespace Go.Proofs.YtkagijifkpoplaaGreatDoor
open Go.RowKit
open Fdd
theorem errV_zero {s : Sents} {v : Value} {n : Int} (h : ErrV s v n) (h0 : n = 0) : v = .nilIface := by
 cases h <;> first | rfl | (exact absurd h0 (by decide))
theorem errV_some {s : Sents} {v : Value} {n : Int} (h : ErrV s v n) (h0 : n ≠ 0) : ∃ t x, v = .iface t x := by
 cases h <;> first | (exact absurd rfl h0) | exact ⟨_, _, rfl⟩
theorem size_msg : (Tryz.prog.info? 29).map (·.size) = some 2 := by kernel_rfl
theorem own_lt8 {w : World} {B : Nat} {e : TypeId} {v : Value} {bs : List UInt8} (h : Own w B e v bs) {k : Nat} (hk : v.ownBlock = some k) : k < w.heap.size := (World.ownsRow.lt h k hk).2
theorem own_turn8 {w w' : World} {B : Nat} {e : TypeId} {v : Value} {bs : List UInt8} {F : Nat → Prop} (h : Own w B e v bs) (ht : Turn F w w') (hF : ∀ k, v.ownBlock = some k → ¬ F k) : Own w' B e v bs := by
 refine ⟨h.1, ?_⟩
 rcases h.2 with h0 | ⟨g, cap, cur, rfl, hb1, hgg, rest⟩
 ·exact .inl h0
 ·exact .inr ⟨g, cap, cur, rfl, hb1, (ht.block g (Array.getElem?_eq_some_iff.1 hgg).1 (hF g rfl)).trans hgg, rest⟩
def codeE {α : Type} : Except Int α → Int
 | .ok _ => 0
 | .error k => k
def bytesE : Except Int (List UInt8) → List UInt8
 | .ok b => b
 | .error _ => []
theorem putFs_at {d : Nat} {fs : List Fld} {b r0 : List UInt8} {j : Nat} {f : Fld} {X : Option (List UInt8)} {m : Fm} (hf : fs[j]? = some f) (hm : mform d f.1 = some m) (h : putFs d b (fs.drop j) = X) : (m.check (say d f) = 0 → putFs d (b ++ m.put (say d f)) (fs.drop (j + 1)) = X) ∧ (m.check (say d f) ≠ 0 → X = none) := by
 obtain ⟨hj, hfj⟩ := List.getElem?_eq_some_iff.1 hf
 have hd : fs.drop j = f :: fs.drop (j + 1) := by rw [← hfj]; exact List.drop_eq_getElem_cons hj
 rw [hd] at h
 unfold putFs at h
 rw [hm] at h
 simp only [] at h
 refine ⟨fun h0 => ?_, fun h0 => ?_⟩
 ·rw [if_pos h0] at h
  exact h
 ·rw [if_neg h0] at h
  exact h.symm
theorem check41 {d : Nat} {no : Int} {m : Fm} {t : List UInt8} (hd : 1 ≤ d ∧ d ≤ 3) (hm : mform d no = some m) (h : m.check t ≠ 0) : m.check t = 41 := by
 obtain ⟨k1, s1, rfl, hk1, hs1, _⟩ := form_nf hm
 unfold Fm.check at h ⊢
 rw [if_pos (may_nf hk1 hd hs1)] at h ⊢
 split
 ·rename_i hr
  rw [if_pos hr] at h
  exact absurd rfl h
 ·rfl
def EncP (s : Sents) (r : Except Int (List UInt8)) (w : World) (e : Ending) (w' : World) : Prop := ∃ A n c v, e = .returned (.tuple #[.slice A n c, v]) ∧ ErrV s v (codeE r) ∧ Own w' w.heap.size 5 (.slice A n c) (bytesE r) ∧ Turn nowhere w w'
theorem encP_err {s : Sents} {r : Except Int (List UInt8)} {k : Int} {w w' : World} {v : Value} (hr : r = .error k) (hv : ErrV s v k) (ht : Turn nowhere w w') : EncP s r w (.returned (.tuple #[.slice none 0 0, v])) w' := by
 subst hr
 exact ⟨none, 0, 0, v, rfl, hv, World.ownsRow_nil w' _ _ _, ht⟩
structure Env (s : Sents) (W : World) : Prop where
 sen : Sen s W
 tab : Tab W
 rows : RowsT W
 pow : PowT W
 zer : ZerT W
theorem Env.turn {s : Sents} {W W' : World} (h : Env s W) (ht : Turn nowhere W W') : Env s W' := ⟨h.sen.turn ht, h.tab.turn ht, h.rows.turn ht, h.pow.turn ht, h.zer.turn ht⟩
theorem encode_walk {s : Sents} {w : World} {dd ty : Int} {A : Option Addr} {n c : Nat} {fs : List Fld} (he : Env s w) (hf : Fl w A n fs) :
 Calls Tryz.prog 43 #[.int .i64 dd, msgV ty A n c] w (EncP s (mencode dd ty fs) w) := by
 have hu := (Turn.refl nowhere w).alloc (.cells #[.int .i64 ty, .slice A n c] 29)
 have hb := Blk.new w 29 #[.int .i64 ty, .slice A n c]
 obtain ⟨bm, hbm⟩ : ∃ bm, bm = w.heap.size := ⟨_, rfl⟩
 obtain ⟨w1, hw1⟩ : ∃ w1, w1 = w.alloc (.cells #[.int .i64 ty, .slice A n c] 29) := ⟨_, rfl⟩
 rw [← hw1] at hu hb
 rw [← hbm] at hb
 have HE := zH (he.turn hu)
 have HF := zH (hf.still hu)
 have HU := zH hu
 have HB := zH hb
 have HW := zH hw1
 have HBM := zH hbm
 have HNL : Hid (fs.length = n) := zH hf.1
 have HNM : Hid (n ≤ 140737488355328) := zH hf.2.1
 have y9 : (n : Int) ≤ 140737488355328 := by
  have := HNM.out
  omega
 clear he hf hu hb hw1 hbm
 unfold msgV
 go_enter Tryz.func43, Tryz.ntmps43
 go_upto_region 1 with fail
 have e1 := HW.out
 have e2 := HBM.out
 rw [← e1, ← e2]
 clear e1 e2 HW HBM
 refine wp_region_lit ?_
 refine wM (.int .i64 dd) ?_;simp only [zz]
 by_cases hd : 1 ≤ dd ∧ dd ≤ 3
 ·obtain ⟨d, hdn⟩ : ∃ d : Nat, dd = (d : Int) := ⟨dd.toNat, by omega⟩
  subst hdn
  have hd2 : 1 ≤ d ∧ d ≤ 3 := by omega
  have HD := zH hd2
  have HR := zH (show mencode (d : Int) ty fs = if mcheck ty fs = 0 then match putFs d (mhead d ty fs) fs with | none => .error 41 | some b => .ok b else .error (mcheck ty fs) from by
   unfold mencode
   rw [if_pos hd, Int.toNat_natCast]
   rfl)
  clear hd hd2
  refine wpList_op rfl fun K9 HK9 => ?_
  go_wp2_with fail
  refine (tongueOf_ok (s := s) HD.out HE.out.tab).mono ?_
  rintro e w2 ⟨rfl, ht2⟩
  refine HK9.out _ _ ?_
  clear HK9
  try simp only [zz]
  have HU2 := zH ht2
  have HB2 := zH (HB.out.turn ht2 (fun e => e))
  clear ht2 HB
  refine wM (.tuple #[tongV d, .nilIface]) ?_;simp only [zz];refine wE (tongV d) ?_;simp only [zz];refine wE .nilIface ?_;simp only [zz]
  refine wR (v := .pointer (some ⟨w2.heap.size, 0, none⟩)) (w' := w2.alloc (.cells #[.int .i64 0, strV [], strV []] 112)) rfl (gx_alloc rfl (zero_tongue _)) ?_
  simp only [zz]
  have hb8 := Blk.new w2 112 #[.int .i64 0, strV [], strV []]
  have hu8 := HU2.out.alloc (.cells #[.int .i64 0, strV [], strV []] 112)
  have hbm8 := HB2.out.alloc (.cells #[.int .i64 0, strV [], strV []] 112)
  obtain ⟨bt, hbt⟩ : ∃ bt, bt = w2.heap.size := ⟨_, rfl⟩
  rw [← hbt] at hb8 ⊢
  have HG8 := zH (show w1.heap.size ≤ bt from by rw [hbt]; exact HU2.out.size)
  have HN8 := zH (show bm ≠ bt from by have := HB2.out.lt; omega)
  clear hbt
  generalize w2.alloc (.cells #[.int .i64 0, strV [], strV []] 112) = w5 at *
  refine wpList_store_row rfl 112 (.tmp 6) (.tmp 17) rfl (tongA d) hb8 rfl rfl rfl (by rw [size_tongue]; rfl) (tongA_one d) ?_
  intro w6 hb6 hu6
  have HBT := zH hb6
  have HBM := zH (hbm8.turn hu6 (fun e => HN8.out e))
  have HU6 := zH (hu8.trans hu6 (fun k hk e => by
   have := HG8.out
   have e : k = bt := e
   omega))
  clear hb8 hu8 hbm8 hb6 hu6 HB2 HU2
  simp only [zz]
  have HCV := zH (checkV_ok s ty fs)
  go_upto_region 4 with fail
  refine wp_region_lit ?_
  refine wS (msgV ty A n c) (gx_loads rfl rfl (blk_range HBM.out) Tryz.underlying29 rfl (by rw [size_msg]; rfl)) ?_;simp only [zz]
  refine wpList_op rfl fun K9 HK9 => ?_
  go_wp2_with fail
  refine (check_walk2 (s := s) (HE.out.tab.turn HU6.out) (HE.out.sen.turn HU6.out) (HE.out.rows.turn HU6.out) (HF.out.still HU6.out)).mono ?_
  rintro e w7 ⟨rfl, ht7⟩
  refine HK9.out _ _ ?_
  clear HK9
  try simp only [zz]
  have HU7 := zH (HU6.out.next ht7)
  have HBT7 := zH (HBT.out.turn ht7 (fun e => e))
  have HBM7 := zH (HBM.out.turn ht7 (fun e => e))
  clear ht7 HU6 HBT HBM
  by_cases hck : mcheck ty fs = 0
  ·have hv := errV_zero HCV.out hck
   rw [hv]
   obtain ⟨hty, _, hgood⟩ := mcheck_zero.1 hck
   have HTY := zH hty
   have HGD := zH hgood
   have HR2 := zH (show mencode (d : Int) ty fs = match putFs d (mhead d ty fs) fs with | none => .error 41 | some b => .ok b from by rw [HR.out, if_pos hck])
   have HML := zH (show n ≤ 24 from by rw [← HNL.out]; exact (mcheck_zero.1 hck).2.1)
   clear hv hty hgood hck HR HCV
   go_upto_region 7 with fail
   refine wp_region_lit ?_
   refine wS (tongV d) (gx_loads rfl rfl (blk_range HBT7.out) Tryz.underlying112 rfl (by rw [size_tongue]; rfl)) ?_;simp only [zz];refine wS (msgV ty A n c) (gx_loads rfl rfl (blk_range HBM7.out) Tryz.underlying29 rfl (by rw [size_msg]; rfl)) ?_;simp only [zz]
   refine wpList_op rfl fun K9 HK9 => ?_
   go_wp2_with fail
   refine (putHead_walk (s := s) HD.out HTY.out (good_nos HGD.out).2 (HE.out.sen.turn HU7.out) (HE.out.rows.turn HU7.out) (HE.out.pow.turn HU7.out) (HE.out.zer.turn HU7.out) (HF.out.still HU7.out)).mono ?_
   rintro e w8 ⟨A8, n8, c8, rfl, ho8, ht8⟩
   refine HK9.out _ _ ?_
   clear HK9
   try simp only [zz]
   refine wM (.tuple #[.slice A8 n8 c8, .nilIface]) ?_;simp only [zz];refine wE (.slice A8 n8 c8) ?_;simp only [zz];refine wE .nilIface ?_;simp only [zz];refine wA (.slice A8 n8 c8) ?_;simp only [zz];refine wA .nilIface ?_;simp only [zz]
   have HU8 := zH (HU7.out.next ht8)
   have HBT8 := zH (HBT7.out.turn ht8 (fun e => e))
   have HO8 := zH (show Own w8 w1.heap.size 5 (.slice A8 n8 c8) (mhead d ty fs) from own_base ho8 HU7.out.size)
   have HL8 := zH (show (mhead d ty fs).length ≤ 46 from by
    have h1 := hpart_len (fs := fs) HD.out HTY.out 2
    have h2 : hpart d ty fs 2 = mhead d ty fs := by
     unfold hpart
     rw [List.take_of_length_le (halves_len fs)]
     rfl
    rw [h2] at h1
    exact h1)
   have c1 : w8.cell? ⟨bm, 1, none⟩ = some (.slice A n c) := (HBM7.out.turn ht8 (fun e => e)).cell 1
   clear ho8 ht8 HU7 HBT7 HBM7
   go_upto_region 10 with fail
   go_wp2_with fail
   clear c1
   go_loopg [9, 39] n (fun gk bv jv wr => ∃ (j : Nat) (A' : Option Addr) (n' c' : Nat) (b : List UInt8), j + gk = n ∧ jv = .int .i64 (j : Int) ∧ bv = .slice A' n' c' ∧ Own wr w1.heap.size 5 (.slice A' n' c') b ∧ b.length ≤ 46 + 130 * j ∧ putFs d b (fs.drop j) = putFs d (mhead d ty fs) fs ∧ Blk wr bt 112 (tongA d) ∧ Turn nowhere w1 wr)
   case atStart => exact ⟨0, A8, n8, c8, _, by omega, rfl, rfl, HO8.out, by have := HL8.out; omega, rfl, HBT8.out, HU8.out⟩
   obtain ⟨j, Aj, nj, cj, bj, hjl, rfl, rfl, hoj, hlj, hpj, hbj, htr⟩ := hrel
   have HJL := zH hjl
   have HOJ := zH hoj
   have HLJ := zH hlj
   have HPJ := zH hpj
   have HBJ := zH hbj
   have HTR := zH htr
   clear hjl hoj hlj hpj hbj htr
   by_cases hlt : j < n
   ·have y1 : (j : Int) < (n : Int) := by omega
    have HLT := zH hlt
    obtain ⟨f, hff⟩ : ∃ f, fs[j]? = some f := ⟨_, List.getElem?_eq_getElem (show j < fs.length from by rw [HNL.out]; exact hlt)⟩
    obtain ⟨bF, oF, rfl, hrow⟩ := HF.out.2.2 (by omega)
    have HRR := zH (show wr.rangeAt bF (oF + j * 2) (fldA f).toList from fun i v hv => (HTR.out.cell (World.block_lt_of_cell? _ _ (hrow j f hff i v hv)) (fun e => e)).trans (hrow j f hff i v hv))
    obtain ⟨m1, hm1, hc1⟩ := HGD.out.2 f (List.mem_of_getElem? hff)
    obtain ⟨m, hm⟩ := Option.isSome_iff_exists.1 (form_of (d := 1) (d' := d) (no := f.1) (by rw [hm1]; rfl))
    have HM := zH hm
    have HAT := zH (putFs_at (r0 := []) hff hm HPJ.out)
    clear hlt hff hrow hm1 hc1 hm
    go_upto_region 12 with fail
    refine wp_region_lit ?_
    refine wS (.pointer (some ⟨bF, oF + j * 2, none⟩)) (gx_iaddr (i := j) (sz := 2) rfl rfl rfl Tryz.underlying27 size_field HLT.out (by omega)) ?_;simp only [zz];refine wS (.agg (fldA f)) (gx_loads rfl rfl HRR.out Tryz.underlying38 rfl (by rw [size_field]; rfl)) ?_;simp only [zz]
    refine wR (v := .pointer (some ⟨wr.heap.size, 0, none⟩)) (w' := wr.alloc (.cells #[.int .i64 0, strV []] 38)) rfl (gx_alloc rfl (zero_field _)) ?_
    simp only [zz]
    have hb7 := Blk.new wr 38 #[.int .i64 0, strV []]
    have hu7 := HTR.out.alloc (.cells #[.int .i64 0, strV []] 38)
    obtain ⟨g7, hg7⟩ : ∃ g7, g7 = wr.heap.size := ⟨_, rfl⟩
    rw [← hg7] at hb7 ⊢
    have HG7 := zH (show w1.heap.size ≤ g7 from by rw [hg7]; exact HTR.out.size)
    have HRG := zH (show wr.heap.size ≤ g7 from by rw [hg7]; exact Nat.le_refl _)
    have hr7 := (Turn.refl nowhere wr).alloc (.cells #[.int .i64 0, strV []] 38)
    clear hg7
    generalize wr.alloc (.cells #[.int .i64 0, strV []] 38) = w2 at *
    refine wpList_store_row rfl 38 (.tmp 11) (.tmp 42) rfl (fldA f) hb7 rfl rfl rfl (by rw [size_field]; rfl) (fldA_one f) ?_
    intro w3 hb3 hu3
    have HB7 := zH hb3
    have HU3 := zH (hu7.trans hu3 (fun k hk e => by
     have := HG7.out
     have e : k = g7 := e
     omega))
    have HR3 := zH (hr7.trans hu3 (fun k hk e => by
     have := HRG.out
     have e : k = g7 := e
     omega))
    clear hb7 hu7 hb3 hu3 HRR hr7 HRG
    simp only [zz]
    have d0 : w3.cell? ⟨g7, 0, none⟩ = some (.int .i64 f.1) := HB7.out.cell 0
    have HBT3 := zH (HBJ.out.turn HR3.out (fun e => e))
    go_upto_region 13 with fail
    refine wp_region_lit ?_
    refine wS (tongV d) (gx_loads rfl rfl (blk_range HBT3.out) Tryz.underlying112 rfl (by rw [size_tongue]; rfl)) ?_;simp only [zz];refine wS (.pointer (some ⟨g7, 0, none⟩)) (xF 0 0) ?_;simp only [zz];refine wS (.int .i64 f.1) (exec_load1 rfl rfl (by kernel_rfl) d0) ?_;simp only [zz]
    refine wpList_op rfl fun K9 HK9 => ?_
    go_wp2_with fail
    refine (form_walk (s := s) (d := d) (HE.out.tab.turn HU3.out) (HE.out.sen.turn HU3.out)).mono ?_
    rintro e w4 ⟨rfl, ht4⟩
    refine HK9.out _ _ ?_
    clear HK9
    try simp only [zz]
    have HU4 := zH (HU3.out.next ht4)
    have HB4 := zH (HB7.out.turn ht4 (fun e => e))
    have HBT4 := zH (HBT3.out.turn ht4 (fun e => e))
    have HO4 := zH (own_still (own_still HOJ.out HR3.out) ht4)
    clear ht4 HU3 HB7 d0 HBT3 HR3
    have hfr : formR s d f.1 = .tuple #[fmV m, .nilIface] := by unfold formR; rw [HM.out]
    rw [hfr]
    clear hfr
    refine wM (.tuple #[fmV m, .nilIface]) ?_;simp only [zz];refine wE (fmV m) ?_;simp only [zz];refine wE .nilIface ?_;simp only [zz]
    refine wR (v := .pointer (some ⟨w4.heap.size, 0, none⟩)) (w' := w4.alloc (.cells #[.int .i64 0, .int .i64 0, .int .i64 0] 105)) rfl (gx_alloc rfl (mzero_form _)) ?_
    simp only [zz]
    have hb8 := Blk.new w4 105 #[.int .i64 0, .int .i64 0, .int .i64 0]
    have hu8 := HU4.out.alloc (.cells #[.int .i64 0, .int .i64 0, .int .i64 0] 105)
    have hb78 := HB4.out.alloc (.cells #[.int .i64 0, .int .i64 0, .int .i64 0] 105)
    have hbt8 := HBT4.out.alloc (.cells #[.int .i64 0, .int .i64 0, .int .i64 0] 105)
    have ho8 := own_still HO4.out ((Turn.refl nowhere w4).alloc (.cells #[.int .i64 0, .int .i64 0, .int .i64 0] 105))
    obtain ⟨g8, hg8⟩ : ∃ g8, g8 = w4.heap.size := ⟨_, rfl⟩
    rw [← hg8] at hb8 ⊢
    have HG8 := zH (show w1.heap.size ≤ g8 from by rw [hg8]; exact HU4.out.size)
    have HN8 := zH (show g7 ≠ g8 from by have := HB4.out.lt; omega)
    have HNT := zH (show bt ≠ g8 from by have := HBT4.out.lt; omega)
    have HNO := zH (show ∀ k, (Value.slice Aj nj cj).ownBlock = some k → k ≠ g8 from fun k hk => by have := own_lt8 HO4.out hk; omega)
    clear hg8
    generalize w4.alloc (.cells #[.int .i64 0, .int .i64 0, .int .i64 0] 105) = w5 at *
    refine wpList_store_row rfl 105 (.tmp 12) (.tmp 48) rfl #[.int .i64 m.kind, .int .i64 m.size, .int .i64 m.code] hb8 rfl rfl rfl (by rw [size_form]; rfl) (fm3_one _ _ _) ?_
    intro w6 hb6 hu6
    have HB8 := zH hb6
    have HB7 := zH (hb78.turn hu6 (fun e => HN8.out e))
    have HBT6 := zH (hbt8.turn hu6 (fun e => HNT.out e))
    have HO6 := zH (own_turn8 ho8 hu6 (fun k hk e => HNO.out k hk e))
    have HU6 := zH (hu8.trans hu6 (fun k hk e => by
     have := HG8.out
     have e : k = g8 := e
     omega))
    clear hb8 hu8 hb78 hb6 hu6 HB4 HU4 HBT4 hbt8 ho8 HO4 HNO
    simp only [zz]
    go_upto_region 16 with fail
    have hS0 : Blk w6.drew g7 38 (fldA f) ∧ Blk w6.drew g8 105 #[.int .i64 m.kind, .int .i64 m.size, .int .i64 m.code] ∧ Blk w6.drew bt 112 (tongA d) := ⟨HB7.out, HB8.out, HBT6.out⟩
    have HU6d : Hid (Turn nowhere w1 w6.drew) := zH HU6.out.drew
    have HO6d : Hid (Own w6.drew w1.heap.size 5 (.slice Aj nj cj) bj) := zH HO6.out
    clear HB7 HB8 HBT6 HU6 HO6
    refine wp_region_alw (fun W => Blk W g7 38 (fldA f) ∧ Blk W g8 105 #[.int .i64 m.kind, .int .i64 m.size, .int .i64 m.code] ∧ Blk W bt 112 (tongA d)) (by kernel_rfl) ?_
    generalize w6.drew = w7 at *
    refine aM 0 (.slice Aj nj cj) hS0 ?_;simp only [zz];refine aU 1 (.pointer (some ⟨g7, 0, none⟩)) rfl (fun W hW => xF 0 0) hS0 ?_;simp only [zz];refine aU 2 (.int .i64 f.1) rfl (fun W hW => xL (hW.1.cell 0)) hS0 ?_;simp only [zz];refine aU 3 (fmV m) rfl (fun W hW => gx_loads rfl rfl (blk_range hW.2.1) Tryz.underlying105 rfl (by rw [size_form]; rfl)) hS0 ?_;simp only [zz];refine aU 4 (.pointer (some ⟨g7, 1, none⟩)) rfl (fun W hW => xF 0 1) hS0 ?_;simp only [zz];refine aU 5 (strV f.2) rfl (fun W hW => xL (hW.1.cell 1)) hS0 ?_;simp only [zz];refine aU 6 (tongV d) rfl (fun W hW => gx_loads rfl rfl (blk_range hW.2.2) Tryz.underlying112 rfl (by rw [size_tongue]; rfl)) hS0 ?_;simp only [zz];refine aU 7 (.pointer (some ⟨g7, 0, none⟩)) rfl (fun W hW => xF 0 0) hS0 ?_;simp only [zz];refine aU 8 (.int .i64 f.1) rfl (fun W hW => xL (hW.1.cell 0)) hS0 ?_;simp only [zz]
    refine alw_step (i := 9) (by kernel_rfl) rfl rfl ?_
    intro K1 HK1
    go_wp2_with fail
    refine (unsaid_walk d f.1 _).mono ?_
    rintro e w9 ⟨rfl, ht9⟩
    have hS1 : Blk w9 g7 38 (fldA f) ∧ Blk w9 g8 105 #[.int .i64 m.kind, .int .i64 m.size, .int .i64 m.code] ∧ Blk w9 bt 112 (tongA d) := ⟨hS0.1.turn ht9 (fun e => e), hS0.2.1.turn ht9 (fun e => e), hS0.2.2.turn ht9 (fun e => e)⟩
    refine HK1.out _ _ ⟨hS1, ?_⟩
    have HU9 := zH (HU6d.out.next ht9)
    have HO9 := zH (own_still HO6d.out ht9)
    clear HK1 hS0 HU6d HO6d ht9
    try simp only [zz]
    refine alw_step (i := 10) (by kernel_rfl) rfl rfl ?_
    intro K1 HK1
    go_wp2_with fail
    refine trim_walk.mono ?_
    rintro e w10 ⟨rfl, rfl⟩
    refine HK1.out _ _ ⟨hS1, ?_⟩
    clear HK1
    try simp only [zz]
    refine alw_step (i := 11) (by kernel_rfl) rfl rfl ?_
    intro K1 HK1
    go_wp2_with fail
    refine (mput_walk (s := s) (no := f.1) (f := m) (t := say d f) (HE.out.sen.turn HU9.out) (HE.out.rows.turn HU9.out) (own_bs HO9.out).1 (by have h1 := own_len HO9.out; have h2 := HLJ.out; have h3 := HLT.out; have h4 := HML.out; omega)).mono ?_
    rintro e w11 ⟨A11, n11, c11, rfl, ho11, ht11⟩
    have hS2 : Blk w11 g7 38 (fldA f) ∧ Blk w11 g8 105 #[.int .i64 m.kind, .int .i64 m.size, .int .i64 m.code] ∧ Blk w11 bt 112 (tongA d) := ⟨hS1.1.turn ht11 (fun e => e), hS1.2.1.turn ht11 (fun e => e), hS1.2.2.turn ht11 (fun e => e)⟩
    refine HK1.out _ _ ⟨hS2, ?_⟩
    have HU11 := zH (HU9.out.next ht11)
    have HO11 := zH (own_base ho11 HU9.out.size)
    clear HK1 hS1 HU9 HO9 ht11 ho11
    try simp only [zz]
    obtain ⟨wv, hwv⟩ : ∃ wv, wv = wrapV s f.1 (m.check (say d f)) := ⟨_, rfl⟩
    rw [← hwv]
    have HWV := zH hwv
    clear hwv
    refine aM 12 (.tuple #[.slice A11 n11 c11, wv]) hS2 ?_;simp only [zz];refine aU 13 (.slice A11 n11 c11) rfl (fun W hW => ix_extract rfl rfl rfl) hS2 ?_;simp only [zz];refine aU 14 wv rfl (fun W hW => ix_extract rfl rfl rfl) hS2 ?_;simp only [zz];refine aU 15 (.slice A11 n11 c11) rfl (fun W hW => gx_assign rfl rfl) hS2 ?_;simp only [zz];refine aU 16 wv rfl (fun W hW => gx_assign rfl rfl) hS2 ?_;simp only [zz]
    refine alw_done rfl ?_
    have HBT11 := zH hS2.2.2
    clear hS2
    refine NoPanic.normal ?_
    by_cases hc : m.check (say d f) = 0
    ·have hwn : wv = .nilIface := by rw [HWV.out, hc]; rfl
     subst hwn
     have HO12 := zH (show Own w11 w1.heap.size 5 (.slice A11 n11 c11) (bj ++ m.put (say d f)) from by
      have h := HO11.out
      unfold putR at h
      rw [if_pos hc] at h
      exact h)
     have HNX := zH (HAT.out.1 hc)
     have HPL := zH (show (m.put (say d f)).length ≤ 130 from by
      obtain ⟨k1, s1, hm1, hk1, hs1, _⟩ := form_nf HM.out
      rw [hm1] at hc ⊢
      have := put_cap hk1 HD.out hs1 ((check_zero hk1 HD.out hs1).1 hc)
      omega)
     clear hc HO11
     go_wp2_with fail
     go_roundg (gk - 1)
     case measure => have := HJL.out; have := HLT.out; omega
     case rel => exact ⟨j + 1, A11, n11, c11, _, by have := HJL.out; have := HLT.out; omega, by go_num, rfl, HO12.out, by rw [List.length_append]; have := HLJ.out; have := HPL.out; omega, HNX.out, HBT11.out, HU11.out⟩
    ·have h41 := check41 HD.out HM.out hc
     have hwn : wv = feV f.1 s.text := by rw [HWV.out, h41]; rfl
     subst hwn
     have HER := zH (show mencode (d : Int) ty fs = .error 41 from by rw [HR2.out, HAT.out.2 hc])
     clear hc h41
     unfold feV
     go_wp2_with fail
     go_ret2
     exact encP_err HER.out (ErrV.text f.1) (HU.out.next HU11.out)
   ·have y1 : ¬ ((j : Int) < (n : Int)) := by omega
    have HOK := zH (show mencode (d : Int) ty fs = .ok bj from by
     have h := HPJ.out
     rw [List.drop_eq_nil_iff.2 (by rw [HNL.out]; omega)] at h
     rw [HR2.out, ← h]
     rfl)
    clear hlt
    go_wp2_with fail
    go_ret2
    rw [HOK.out]
    exact ⟨_, _, _, _, rfl, ErrV.nil, own_base HOJ.out HU.out.size, HU.out.next HTR.out⟩
  ·have HER := zH (show mencode (d : Int) ty fs = .error (mcheck ty fs) from by rw [HR.out, if_neg hck])
   obtain ⟨t9, x9, hv9⟩ := errV_some HCV.out hck
   have HV := HCV.out
   rw [hv9] at HV ⊢
   have HV9 := zH HV
   clear hck hv9 HCV HV HR
   go_wp2_with fail
   go_ret2
   exact encP_err HER.out HV9.out (HU.out.next HU7.out)
 ·have HER := zH (show mencode dd ty fs = .error 50 from by unfold mencode; rw [if_neg hd])
  refine wpList_op rfl fun K9 HK9 => ?_
  go_wp2_with fail
  refine (tongueOf_bad (s := s) hd HE.out.sen).mono ?_
  rintro e w2 ⟨rfl, ht2⟩
  refine HK9.out _ _ ?_
  clear HK9
  try simp only [zz]
  have HU2 := zH ht2
  have HB2 := zH (HB.out.turn ht2 (fun e => e))
  clear ht2 HB hd
  refine wM (.tuple #[.agg #[.int .i64 0, strV [], strV []], errS s.dialect]) ?_;simp only [zz];refine wE (.agg #[.int .i64 0, strV [], strV []]) ?_;simp only [zz];refine wE (errS s.dialect) ?_;simp only [zz]
  refine wR (v := .pointer (some ⟨w2.heap.size, 0, none⟩)) (w' := w2.alloc (.cells #[.int .i64 0, strV [], strV []] 112)) rfl (gx_alloc rfl (zero_tongue _)) ?_
  simp only [zz]
  have hb8 := Blk.new w2 112 #[.int .i64 0, strV [], strV []]
  have hu8 := HU2.out.alloc (.cells #[.int .i64 0, strV [], strV []] 112)
  have hbm8 := HB2.out.alloc (.cells #[.int .i64 0, strV [], strV []] 112)
  obtain ⟨bt, hbt⟩ : ∃ bt, bt = w2.heap.size := ⟨_, rfl⟩
  rw [← hbt] at hb8 ⊢
  have HG8 := zH (show w1.heap.size ≤ bt from by rw [hbt]; exact HU2.out.size)
  have HN8 := zH (show bm ≠ bt from by have := HB2.out.lt; omega)
  clear hbt
  generalize w2.alloc (.cells #[.int .i64 0, strV [], strV []] 112) = w5 at *
  refine wpList_store_row rfl 112 (.tmp 6) (.tmp 17) rfl #[.int .i64 0, strV [], strV []] hb8 rfl rfl rfl (by rw [size_tongue]; rfl) zeroT_one ?_
  intro w6 hb6 hu6
  have HBT := zH hb6
  have HBM := zH (hbm8.turn hu6 (fun e => HN8.out e))
  have HU6 := zH (hu8.trans hu6 (fun k hk e => by
   have := HG8.out
   have e : k = bt := e
   omega))
  clear hb8 hu8 hbm8 hb6 hu6 HB2 HU2
  simp only [zz]
  unfold errS
  go_wp2_with fail
  go_ret2
  exact encP_err HER.out ErrV.dialect (HU.out.next HU6.out)
def EncodeP (r : Except Int (List UInt8)) (w : World) (e : Ending) (w' : World) : Prop := ∃ A n c, e = .returned (.tuple #[.slice A n c, .int .i64 (codeE r)]) ∧ Own w' w.heap.size 5 (.slice A n c) (bytesE r) ∧ Turn nowhere w w'
theorem Encode_walk {s : Sents} {w : World} {dd ty : Int} {A : Option Addr} {n c : Nat} {fs : List Fld} (he : Env s w) (hf : Fl w A n fs) :
 Calls Tryz.prog 33 #[.int .i64 dd, msgV ty A n c] w (EncodeP (mencode dd ty fs) w) := by
 have hu := (Turn.refl nowhere w).alloc (.cells #[.int .i64 ty, .slice A n c] 29)
 have hb := Blk.new w 29 #[.int .i64 ty, .slice A n c]
 obtain ⟨bm, hbm⟩ : ∃ bm, bm = w.heap.size := ⟨_, rfl⟩
 obtain ⟨w1, hw1⟩ : ∃ w1, w1 = w.alloc (.cells #[.int .i64 ty, .slice A n c] 29) := ⟨_, rfl⟩
 rw [← hw1] at hu hb
 rw [← hbm] at hb
 have HE := zH (he.turn hu)
 have HF := zH (hf.still hu)
 have HU := zH hu
 have HB := zH hb
 have HW := zH hw1
 have HBM := zH hbm
 clear he hf hu hb hw1 hbm
 unfold msgV
 go_enter Tryz.func33, Tryz.ntmps33
 go_upto_region 1 with fail
 have e1 := HW.out
 have e2 := HBM.out
 rw [← e1, ← e2]
 clear e1 e2 HW HBM
 refine wp_region_lit ?_
 refine wM (.int .i64 dd) ?_;simp only [zz];refine wS (msgV ty A n c) (gx_loads rfl rfl (blk_range HB.out) Tryz.underlying29 rfl (by rw [size_msg]; rfl)) ?_;simp only [zz]
 refine wpList_op rfl fun K9 HK9 => ?_
 go_wp2_with fail
 refine (encode_walk (s := s) HE.out HF.out).mono ?_
 rintro e w2 ⟨A2, n2, c2, v2, rfl, hv2, ho2, ht2⟩
 refine HK9.out _ _ ?_
 clear HK9
 try simp only [zz]
 refine wM (.tuple #[.slice A2 n2 c2, v2]) ?_;simp only [zz];refine wE (.slice A2 n2 c2) ?_;simp only [zz];refine wE v2 ?_;simp only [zz];refine wA (.slice A2 n2 c2) ?_;simp only [zz];refine wA v2 ?_;simp only [zz]
 have HV := zH hv2
 have HO := zH ho2
 have HT := zH ht2
 clear hv2 ho2 ht2 HB
 generalize mencode dd ty fs = r at *
 go_upto_region 2 with fail
 refine wp_region_lit ?_
 refine wM (.slice A2 n2 c2) ?_;simp only [zz];refine wM v2 ?_;simp only [zz]
 refine wpList_op rfl fun K9 HK9 => ?_
 go_wp2_with fail
 refine (tell_walk HV.out (HE.out.sen.turn HT.out)).mono ?_
 rintro e w3 ⟨rfl, ht3⟩
 refine HK9.out _ _ ?_
 clear HK9
 try simp only [zz]
 refine wA (.slice A2 n2 c2) ?_;simp only [zz];refine wA (.int .i64 (codeE r)) ?_;simp only [zz]
 have HT3 := zH ht3
 clear ht3
 go_wp2_with fail
 go_ret2
 exact ⟨_, _, _, rfl, own_base (own_still HO.out HT3.out) HU.out.size, (HU.out.next HT.out).next HT3.out⟩
theorem above {w0 w w' : World} {g : Nat} (h : Turn nowhere w0 w) (hg : w0.heap.size ≤ g) (ht : Turn (only g) w w') : Turn nowhere w0 w' := h.trans ht (fun k hk e => by
 have e : k = g := e
 omega)
section
variable {a : Act} {o : Oper} {W : World} {x y : Operand} {t u : TypeId}
end
open Go.Shelf
end Go.Proofs.YtkagijifkpoplaaGreatDoor
