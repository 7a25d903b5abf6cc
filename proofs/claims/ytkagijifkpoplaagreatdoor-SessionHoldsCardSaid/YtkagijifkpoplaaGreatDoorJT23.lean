/-
  Texts in one file. Conditions: the tables and the errors read as laid.
-/
import Derived.Test.YtkagijifkpoplaaGreatDoorJT20
import Derived.Test.YtkagijifkpoplaaGreatDoorJT0
import Derived.Test.YtkagijifkpoplaaGreatDoorJT1
set_option linter.unusedVariables false
set_option linter.unusedSimpArgs false
set_option maxRecDepth 40000
set_option maxHeartbeats 20000000
namespace Go.Proofs.YtkagijifkpoplaaGreatDoor
open Go.RowKit
open Fdd
theorem rset_at {no : Int} {t : List UInt8} {b : Bool} {l : List Fld} {i : Nat} {f : Fld} (hf : l[i]? = some f) : rsetM no t b (l.drop i) = if f.1 = no then rsetM no t b (l.drop (i + 1)) else if no < f.1 ∧ b = false then (no, t) :: f :: rsetM no t true (l.drop (i + 1)) else f :: rsetM no t b (l.drop (i + 1)) := by
 obtain ⟨hj, e⟩ := List.getElem?_eq_some_iff.1 hf
 rw [List.drop_eq_getElem_cons hj, e]
 rfl
theorem rset_end {no : Int} {t : List UInt8} {b : Bool} {l : List Fld} {i : Nat} (h : l.length ≤ i) : rsetM no t b (l.drop i) = if b = true then [] else [(no, t)] := by
 rw [List.drop_eq_nil_of_le h]
 rfl
theorem wp_storeF {P : Program} {o : Oper} {a : Act} {w : World} {K : Act → World → Prop} {Q : Exit → Act → World → Prop} (ty : TypeId) (x y : Operand) (ho : o.op = .store ty x y) {g i : Nat} {t : TypeId} {old : Array Value} {v : Value} (hb : Blk w g t old)
 (hx : a.eval x = .pointer (some ⟨g, i, none⟩)) (hy : a.eval y = v) (hi : i < old.size) (hv : v.cells = #[v]) (h1 : v.oneCell' = true) (hsz : (P.info? ty).map (·.size) = some 1)
 (h : Blk (w.setCell ⟨g, i, none⟩ v) g t (old.setIfInBounds i v) → Turn (only g) w (w.setCell ⟨g, i, none⟩ v) → K (a.put o.dst undef) (w.setCell ⟨g, i, none⟩ v)) : o.wp P a w K Q := by
 obtain ⟨j, hj, hjs⟩ := Option.map_eq_some_iff.1 hsz
 have hc : w.cell? ⟨g, i, none⟩ = some (old[i]) := by rw [hb.cell i, Array.getElem?_eq_getElem hi]
 have hf : w.frozen? ⟨g, i, none⟩ = false := hb.frozen i
 have hst : (Instr.storeAt ty (.pointer (some ⟨g, i, none⟩)) v).run P w = .ok () (w.setCell ⟨g, i, none⟩ v) := by
  have h0 : (⟨g, i, none⟩ : Addr).add 0 = ⟨g, i, none⟩ := by simp [Addr.add]
  simp [Instr.storeAt, storeVar, hv, Instr.sureAddr, sizeOf, typeInfo, hj, hjs, Result.andThen, storeCells, run_store _ _ _ _ _ h1, stored, h0, hc, hf]
 unfold Oper.wp execOp
 simp only [ho, hx, hy, hst, Sem.run_bind, Sem.run_pure, Result.andThen_ok]
 exact h (hb.set_ i v) ((Turn.refl _ w).at_ i v)
theorem size_sl : (Tryz.prog.info? 27).map (·.size) = some 1 := by kernel_rfl
structure RS (ty : Int) (g7 : Nat) (w2 w : World) (l : List Fld) (B : Option Addr) (k d : Nat) : Prop where
 bk : Blk w g7 29 #[.int .i64 ty, .slice B k d]
 ro : FRow w w2.heap.size (.slice B k d) l
 ln : l.length = k
 tr : Turn (only g7) w2 w
theorem RS.drew {ty : Int} {g7 : Nat} {w2 w : World} {l : List Fld} {B : Option Addr} {k d : Nat} (h : RS ty g7 w2 w l B k d) : RS ty g7 w2 w.drew l B k d := ⟨h.bk.drew, h.ro.still ((Turn.refl nowhere w).drew), h.ln, h.tr.drew⟩
theorem RS.add {ty : Int} {g7 : Nat} {w2 w : World} {l : List Fld} {B : Option Addr} {k d : Nat} (h : RS ty g7 w2 w l B k d) (hg : g7 < w2.heap.size) (f : Fld) (hlen : (k + 1) * 24 ≤ 140737488355328) :
 ∃ B' d' w4, (Builtin.append_ #[27, 27] 27 #[.slice B k d, .slice (some ⟨w.heap.size, 0, none⟩) 1 1]).run Tryz.prog (w.alloc (.cells (fldA f) 38)) = .ok (.slice B' (k + 1) d') w4 ∧
  Blk w4 g7 29 #[.int .i64 ty, .slice B k d] ∧ Turn (fun q => w2.heap.size ≤ q) w w4 ∧
  ∀ w5, Blk w5 g7 29 #[.int .i64 ty, .slice B' (k + 1) d'] → Turn (only g7) w4 w5 → RS ty g7 w2 w5 (l ++ [f]) B' (k + 1) d' := by
 obtain ⟨B', d', w4, h1, h2, h3⟩ := frow_grow (ty := 27) (w := w.alloc (.cells (fldA f) 38)) (c := 1) (h.ro.still ((Turn.refl nowhere w).alloc (.cells (fldA f) 38)))
  (Nat.le_trans h.tr.size ((Turn.refl nowhere w).alloc (.cells (fldA f) 38)).size) (fl_one f w) (fun h => by cases h) (by rw [h.ln]; exact hlen)
 rw [h.ln] at h1 h2
 have ht : Turn (fun q => w2.heap.size ≤ q) w w4 := ((Turn.refl (fun q => w2.heap.size ≤ q) w).alloc (.cells (fldA f) 38)).grown h3 fun g e _ => (h.ro.lt g e).1
 have hb4 := h.bk.turn ht (fun e => by
  have e : w2.heap.size ≤ g7 := e
  omega)
 refine ⟨B', d', w4, h1, hb4, ht, fun w5 hb5 ht5 => ⟨hb5, h2.turn ht5 (fun q hq e => ?_), by rw [List.length_append, h.ln]; rfl, ?_⟩⟩
 ·have e : q = g7 := e
  have := (h2.lt q hq).1
  omega
 ·exact (h.tr.trans ht (fun q hq e => by
   have e : w2.heap.size ≤ q := e
   omega)).trans ht5 fun q hq e => e
theorem rSet_walk {w : World} {ty no : Int} {t : List UInt8} {A : Option Addr} {n c : Nat} {fs : List Fld} (hf : Fl w A n fs) (hr : n * 24 ≤ 140737488351232) :
 Calls Tryz.prog 13 #[msgV ty A n c, .int .i64 no, strV t] w (SetP ty no t fs w) := by
 have HF := zH hf
 have HNL := zH hf.1
 have HRM := zH hr
 have y9 : (n : Int) ≤ 140737488355328 := by
  have := hf.2.1
  omega
 clear hf hr
 unfold msgV
 have hb0 := (Blk.new w 29 #[.int .i64 ty, .slice A n c]).alloc (.cells #[.int .i64 0, .slice none 0 0] 29)
 have hb2 := Blk.new (w.alloc (.cells #[.int .i64 ty, .slice A n c] 29)) 29 #[.int .i64 0, .slice none 0 0]
 have hu := ((Turn.refl nowhere w).alloc (.cells #[.int .i64 ty, .slice A n c] 29)).alloc (.cells #[.int .i64 0, .slice none 0 0] 29)
 rw [show (w.alloc (.cells #[.int .i64 ty, .slice A n c] 29)).heap.size = w.heap.size + 1 from by simp] at hb2
 go_enter Tryz.func13, Tryz.ntmps13
 go_upto_region 1 with fail
 obtain ⟨g6, hg6⟩ : ∃ g, g = w.heap.size + 1 := ⟨_, rfl⟩
 obtain ⟨gm, hgm⟩ : ∃ g, g = w.heap.size := ⟨_, rfl⟩
 rw [← hg6] at hb2 ⊢
 rw [← hgm] at hb0 ⊢
 have HG6 := zH (show w.heap.size ≤ g6 from by omega)
 have HGN := zH (show gm ≠ g6 from by omega)
 have HGM := zH (show w.heap.size ≤ gm from by omega)
 clear hg6 hgm
 generalize (w.alloc (.cells #[.int .i64 ty, .slice A n c] 29)).alloc (.cells #[.int .i64 0, .slice none 0 0] 29) = w1 at *
 have HBM := zH hb0
 have HB6 := zH hb2
 have HT0 := zH hu
 clear hb0 hb2 hu
 refine wp_region_lit ?_
 refine wS (.pointer (some ⟨gm, 0, none⟩)) (xF 0 0) ?_;simp only [zz];refine wS (.int .i64 ty) (xL (HBM.out.cell 0)) ?_;simp only [zz];refine wS (.agg #[.int .i64 ty, .slice none 0 0]) (gx_build1 rfl rfl (build_msg1 ty _)) ?_;simp only [zz]
 refine wpList_new 29 (.tmp 7) (.tmp 12) #[.int .i64 ty, .slice none 0 0] rfl rfl (zero_msg _) rfl rfl rfl rfl rfl rfl (by rw [size_msg]; rfl) (msgA_one _ _ _ _) ?_
 intro w2 g7 hg7 hbx hux
 simp only [zz]
 have HB7 := zH hbx
 have HT1 := zH (HT0.out.next hux)
 have HM2 := zH (HBM.out.turn hux (fun e => e))
 have H62 := zH (HB6.out.turn hux (fun e => e))
 have HF2 := zH (HF.out.still HT1.out)
 have HG72 := zH (show g7 < w2.heap.size from hbx.lt)
 have HG7 := zH (show gm ≠ g7 ∧ g6 ≠ g7 ∧ w.heap.size ≤ g7 from ⟨by have := HBM.out.lt; omega, by have := HB6.out.lt; omega, by have := HT0.out.size; omega⟩)
 clear hbx hux hg7 HBM HB6
 go_upto_region 2 with fail
 refine wp_region_lit ?_
 refine wA (.bool false) ?_;simp only [zz]
 go_upto_region 3 with fail
 refine wp_region_lit ?_
 refine wA (.int .i64 0) ?_;simp only [zz]
 go_wp2_with fail
 go_loopg [8, 9] n (fun gk dv jv wr => ∃ (j : Nat) (b : Bool) (l : List Fld) (B : Option Addr) (k d : Nat), j + gk = n ∧ jv = .int .i64 (j : Int) ∧ dv = .bool b ∧ k ≤ j + (if b = true then 1 else 0) ∧ l ++ rsetM no t b (fs.drop j) = setM no t fs ∧ RS ty g7 w2 wr l B k d)
 case atStart => exact ⟨0, false, [], none, 0, 0, by omega, rfl, rfl, by omega, by rw [List.drop_zero, List.nil_append, rset_set], ⟨HB7.out, FRow.nil _ _, rfl, Turn.refl _ _⟩⟩
 obtain ⟨j, b, l, B, k, d, hjl, rfl, rfl, hkj, hol, hrs⟩ := hrel
 have HJL := zH hjl
 have HKJ := zH hkj
 have HKI := zH (show k ≤ j + 1 from by split at hkj <;> omega)
 have HOL := zH hol
 have HRS := zH hrs
 have HMR := zH (HM2.out.turn hrs.tr (fun e => HG7.out.1 e))
 clear hjl hkj hol hrs
 go_upto_region 4 with fail
 refine wp_region_lit ?_
 refine wM (.int .i64 (j : Int)) ?_;simp only [zz];refine wS (.pointer (some ⟨gm, 1, none⟩)) (xF 0 1) ?_;simp only [zz];refine wS (.slice A n c) (xL (HMR.out.cell 1)) ?_;simp only [zz];refine wS (.int .i64 (n : Int)) (gx_len rfl rfl Tryz.underlying27) ?_;simp only [zz]
 by_cases hlt : j < n
 ·have HLT := zH hlt
  have y1 : (j : Int) < (n : Int) := by omega
  have HBF0 := zH (show ∀ b o s, A = some ⟨b, o, s⟩ → b < w.heap.size from fun b9 o9 s9 e9 => by
   obtain ⟨b, o, e, h9⟩ := HF.out.2.2 (by omega)
   rw [e9] at e
   injection e with e
   injection e with e _ _
   rw [e]
   exact World.block_lt_of_cell? _ _ (h9 j _ (List.getElem?_eq_getElem (show j < fs.length from by rw [HNL.out]; exact hlt)) 0 _ rfl))
  obtain ⟨bF, oF, rfl, hr⟩ := HF2.out.2.2 (by omega)
  obtain ⟨f, hf⟩ : ∃ f, fs[j]? = some f := ⟨_, List.getElem?_eq_getElem (show j < fs.length from by rw [HNL.out]; exact hlt)⟩
  have HBF := zH (HBF0.out _ _ _ rfl)
  have HRR := zH (show wr.rangeAt bF (oF + j * 2) (fldA f).toList from fun i v hv => (HRS.out.tr.cell (World.block_lt_of_cell? _ _ (hr j f hf i v hv)) (fun e => by
   have e : bF = g7 := e
   have := HBF.out
   have := HG7.out.2.2
   omega)).trans (hr j f hf i v hv))
  have HST := zH (rset_at (no := no) (t := t) (b := b) hf)
  clear hr hf hlt HBF0
  refine wS (.bool true) (ix_lss rfl rfl rfl (decide_eq_true y1)) ?_;simp only [zz]
  go_upto_region 6 with fail
  refine wp_region_lit ?_
  refine wS (.pointer (some ⟨gm, 1, none⟩)) (xF 0 1) ?_;simp only [zz];refine wS (.slice (some ⟨bF, oF, none⟩) n c) (xL (HMR.out.cell 1)) ?_;simp only [zz];refine wM (.int .i64 (j : Int)) ?_;simp only [zz];refine wS (.pointer (some ⟨bF, oF + j * 2, none⟩)) (gx_iaddr (i := j) (sz := 2) rfl rfl rfl Tryz.underlying27 size_field HLT.out (by omega)) ?_;simp only [zz];refine wS (.pointer (some ⟨bF, oF + j * 2, none⟩)) (xF (oF + j * 2) 0) ?_;simp only [zz];refine wS (.int .i64 f.1) (xL (HRR.out 0 _ rfl)) ?_;simp only [zz];refine wM (.int .i64 no) ?_;simp only [zz]
  by_cases heq : f.1 = no
  ·refine wS (.bool true) (ix_eql rfl rfl rfl (decide_eq_true heq)) ?_;simp only [zz]
   have HO2 := zH (show l ++ rsetM no t b (fs.drop (j + 1)) = setM no t fs from by rw [← HOL.out, HST.out, if_pos heq])
   clear heq
   go_upto_region 5 with fail
   refine wp_region_lit ?_
   refine wM (.int .i64 (j : Int)) ?_;simp only [zz];refine wS (.int .i64 ((j + 1 : Nat) : Int)) (ix_add rfl rfl rfl (by omega) (by omega)) ?_;simp only [zz];refine wA (.int .i64 ((j + 1 : Nat) : Int)) ?_;simp only [zz]
   go_wp2_with fail
   go_roundg (gk - 1)
   case measure => have := HJL.out; have := HLT.out; omega
   case rel => exact ⟨j + 1, b, l, B, k, d, by have := HJL.out; have := HLT.out; omega, rfl, rfl, by have := HKJ.out; omega, HO2.out, HRS.out⟩
  ·refine wS (.bool false) (ix_eql rfl rfl rfl (decide_eq_false heq)) ?_;simp only [zz]
   go_upto_region 7 with fail
   refine wp_region_lit ?_
   refine wS (.pointer (some ⟨gm, 1, none⟩)) (xF 0 1) ?_;simp only [zz];refine wS (.slice (some ⟨bF, oF, none⟩) n c) (xL (HMR.out.cell 1)) ?_;simp only [zz];refine wM (.int .i64 (j : Int)) ?_;simp only [zz];refine wS (.pointer (some ⟨bF, oF + j * 2, none⟩)) (gx_iaddr (i := j) (sz := 2) rfl rfl rfl Tryz.underlying27 size_field HLT.out (by omega)) ?_;simp only [zz];refine wS (.pointer (some ⟨bF, oF + j * 2, none⟩)) (xF (oF + j * 2) 0) ?_;simp only [zz];refine wS (.int .i64 f.1) (xL (HRR.out 0 _ rfl)) ?_;simp only [zz];refine wM (.int .i64 no) ?_;simp only [zz]
   by_cases hgt : no < f.1
   ·refine wS (.bool true) (ix_gtr rfl rfl rfl (decide_eq_true hgt)) ?_;simp only [zz];refine wM (.bool true) ?_;simp only [zz]
    cases b with
    | true =>
      refine wM (.bool true) ?_;simp only [zz];refine wS (.bool false) (ix_not (b := true) rfl rfl) ?_;simp only [zz];refine wS (.bool false) (ix_pickT rfl rfl rfl) ?_;simp only [zz]
      have HO2 := zH (show (l ++ [f]) ++ rsetM no t true (fs.drop (j + 1)) = setM no t fs from by rw [← HOL.out, HST.out, if_neg heq, if_neg (by simp), List.append_assoc]; rfl)
      clear heq hgt
      obtain ⟨B5, d5, w5, hrun, hbk, htn, hadd⟩ := RS.add (RS.drew HRS.out) HG72.out f (by have := HKI.out; have := HRM.out; have := HLT.out; omega)
      have HRN5 := zH hrun
      have HB5 := zH hbk
      have HT5 := zH htn
      have HA5 := zH hadd
      clear hrun hbk htn hadd
      go_upto_region 10 with fail
      refine wp_region_till (fun W => Blk W gm 29 #[.int .i64 ty, .slice (some ⟨bF, oF, none⟩) n c] ∧ Blk W g7 29 #[.int .i64 ty, .slice B k d] ∧ W.rangeAt bF (oF + j * 2) (fldA f).toList) 10 (by kernel_rfl) ?_
      have hS0 : Blk wr.drew gm 29 #[.int .i64 ty, .slice (some ⟨bF, oF, none⟩) n c] ∧ Blk wr.drew g7 29 #[.int .i64 ty, .slice B k d] ∧ wr.drew.rangeAt bF (oF + j * 2) (fldA f).toList := ⟨HMR.out.drew, HRS.out.bk.drew, HRR.out⟩
      refine tU 0 (.pointer (some ⟨g7, 1, none⟩)) rfl (fun W hW => xF 0 1) hS0 ?_;simp only [zz];refine tU 1 (.slice B k d) rfl (fun W hW => xL (hW.2.1.cell 1)) hS0 ?_;simp only [zz];refine tU 2 (.pointer (some ⟨gm, 1, none⟩)) rfl (fun W hW => xF 0 1) hS0 ?_;simp only [zz];refine tU 3 (.slice (some ⟨bF, oF, none⟩) n c) rfl (fun W hW => xL (hW.1.cell 1)) hS0 ?_;simp only [zz];refine tM 4 (.int .i64 (j : Int)) hS0 ?_;simp only [zz];refine tU 5 (.pointer (some ⟨bF, oF + j * 2, none⟩)) rfl (fun W hW => gx_iaddr (i := j) (sz := 2) rfl rfl rfl Tryz.underlying27 size_field HLT.out (by omega)) hS0 ?_;simp only [zz];refine tU 6 (.agg (fldA f)) rfl (fun W hW => gx_loads rfl rfl hW.2.2 Tryz.underlying38 rfl (by rw [size_field]; rfl)) hS0 ?_;simp only [zz]
      refine till_step (i := 7) (by kernel_rfl) rfl rfl ?_
      intro K1 HK1
      refine wp_run (bx_slice1 rfl rfl (build_f1 f _)) ?_
      have ha7 := (Turn.refl nowhere wr.drew).alloc (.cells (fldA f) 38)
      refine HK1.out _ _ ⟨fun _ => ⟨hS0.1.turn ha7 (fun e => e), hS0.2.1.turn ha7 (fun e => e), fun i v hv => (ha7.cell (World.block_lt_of_cell? _ _ (hS0.2.2 i v hv)) (fun e => e)).trans (hS0.2.2 i v hv)⟩, ?_⟩
      clear HK1 ha7
      try simp only [zz]
      refine till_step (i := 8) (by kernel_rfl) rfl rfl ?_
      intro K1 HK1
      refine wp_run (exec_append rfl rfl rfl HRN5.out) ?_
      have hS8 : Blk w5 gm 29 #[.int .i64 ty, .slice (some ⟨bF, oF, none⟩) n c] ∧ Blk w5 g7 29 #[.int .i64 ty, .slice B k d] ∧ w5.rangeAt bF (oF + j * 2) (fldA f).toList := ⟨hS0.1.turn HT5.out (fun e => by
       have e : w2.heap.size ≤ gm := e
       have := HM2.out.lt
       omega), HB5.out, fun i v hv => (HT5.out.cell (World.block_lt_of_cell? _ _ (hS0.2.2 i v hv)) (fun e => by
       have e : w2.heap.size ≤ bF := e
       have := HBF.out
       have := HT1.out.size
       omega)).trans (hS0.2.2 i v hv)⟩
      refine HK1.out _ _ ⟨fun _ => hS8, ?_⟩
      clear HK1 hS0
      try simp only [zz]
      refine tU 9 (.pointer (some ⟨g7, 1, none⟩)) rfl (fun W hW => xF 0 1) hS8 ?_;simp only [zz]
      clear hS8
      refine till_step (i := 10) (by kernel_rfl) rfl rfl ?_
      intro K1 HK1
      refine wp_storeF (v := .slice B5 (k + 1) d5) 27 (.tmp 57) (.tmp 56) rfl HB5.out rfl rfl (show 1 < 2 from by decide) rfl rfl size_sl ?_
      intro hbz huz
      have HS5 := zH (HA5.out _ hbz huz)
      refine HK1.out _ _ ⟨fun e => absurd e (by decide), ?_⟩
      clear HK1 hbz huz
      generalize w5.setCell ⟨g7, 1, none⟩ (.slice B5 (k + 1) d5) = wz5 at *
      try simp only [zz]
      refine till_done rfl ?_
      refine NoPanic.normal ?_
      go_upto_region 5 with fail
      refine wp_region_lit ?_
      refine wM (.int .i64 (j : Int)) ?_;simp only [zz];refine wS (.int .i64 ((j + 1 : Nat) : Int)) (ix_add rfl rfl rfl (by omega) (by omega)) ?_;simp only [zz];refine wA (.int .i64 ((j + 1 : Nat) : Int)) ?_;simp only [zz]
      go_wp2_with fail
      go_roundg (gk - 1)
      case measure => have := HJL.out; have := HLT.out; omega
      case rel => exact ⟨j + 1, true, l ++ [f], B5, k + 1, d5, by have := HJL.out; have := HLT.out; omega, rfl, rfl, by have := HKJ.out; simp only [if_pos] at this ⊢; omega, HO2.out, HS5.out⟩
    | false =>
      refine wM (.bool false) ?_;simp only [zz];refine wS (.bool true) (ix_not (b := false) rfl rfl) ?_;simp only [zz];refine wS (.bool true) (ix_pickT rfl rfl rfl) ?_;simp only [zz]
      have HO2 := zH (show (l ++ [(no, t)] ++ [f]) ++ rsetM no t true (fs.drop (j + 1)) = setM no t fs from by rw [← HOL.out, HST.out, if_neg heq, if_pos ⟨hgt, rfl⟩, List.append_assoc, List.append_assoc]; rfl)
      have HKF := zH (show k ≤ j from by have := HKJ.out; simpa using this)
      clear heq hgt
      obtain ⟨B4, d4, w4, hrun, hbk, htn, hadd⟩ := RS.add HRS.out HG72.out (no, t) (by have := HKI.out; have := HRM.out; have := HLT.out; omega)
      have HRN4 := zH hrun
      have HB4 := zH hbk
      have HT4 := zH htn
      have HA4 := zH hadd
      clear hrun hbk htn hadd
      go_upto_region 8 with fail
      refine wp_region_lit ?_
      refine wS (.pointer (some ⟨g7, 1, none⟩)) (xF 0 1) ?_;simp only [zz];refine wS (.slice B k d) (xL (HRS.out.bk.cell 1)) ?_;simp only [zz];refine wM (.int .i64 no) ?_;simp only [zz];refine wM (strV t) ?_;simp only [zz];refine wS (.agg (fldA (no, t))) (gx_build2 rfl rfl rfl (build_fldM no t _)) ?_;simp only [zz]
      refine wR (v := .slice (some ⟨wr.heap.size, 0, none⟩) 1 1) (w' := wr.alloc (.cells (fldA (no, t)) 38)) rfl (bx_slice1 rfl rfl (build_f1 (no, t) _)) ?_
      simp only [zz]
      refine wR (v := .slice B4 (k + 1) d4) (w' := w4) rfl (exec_append rfl rfl rfl HRN4.out) ?_
      simp only [zz];refine wS (.pointer (some ⟨g7, 1, none⟩)) (xF 0 1) ?_;simp only [zz]
      refine wpList_store1 (v := .slice B4 (k + 1) d4) rfl 27 (.tmp 47) (.tmp 46) rfl HB4.out rfl rfl (show 1 < 2 from by decide) rfl rfl size_sl ?_
      intro hbz huz
      have HS4 := zH (HA4.out _ hbz huz)
      have HU4 := zH huz
      clear hbz huz
      generalize w4.setCell ⟨g7, 1, none⟩ (.slice B4 (k + 1) d4) = wz4 at *
      try simp only [zz]
      have HMZ := zH (HM2.out.turn HS4.out.tr (fun e => HG7.out.1 e))
      have HRZ := zH (show wz4.rangeAt bF (oF + j * 2) (fldA f).toList from fun i v hv => by
       have h0 : wr.cell? _ = some v := HRR.out i v hv
       have h1 := (HT4.out.cell (World.block_lt_of_cell? _ _ h0) (fun e => by
        have e : w2.heap.size ≤ bF := e
        have := HBF.out
        have := HT1.out.size
        omega)).trans h0
       exact (HU4.out.cell (World.block_lt_of_cell? _ _ h1) (fun e => by
        have e : bF = g7 := e
        have := HBF.out
        have := HG7.out.2.2
        omega)).trans h1)
      go_upto_region 9 with fail
      refine wp_region_lit ?_
      refine wA (.bool true) ?_;simp only [zz]
      obtain ⟨B5, d5, w5, hrun, hbk, htn, hadd⟩ := RS.add (RS.drew HS4.out) HG72.out f (by have := HKF.out; have := HRM.out; have := HLT.out; omega)
      have HRN5 := zH hrun
      have HB5 := zH hbk
      have HT5 := zH htn
      have HA5 := zH hadd
      clear hrun hbk htn hadd
      go_upto_region 10 with fail
      refine wp_region_till (fun W => Blk W gm 29 #[.int .i64 ty, .slice (some ⟨bF, oF, none⟩) n c] ∧ Blk W g7 29 #[.int .i64 ty, .slice B4 (k + 1) d4] ∧ W.rangeAt bF (oF + j * 2) (fldA f).toList) 10 (by kernel_rfl) ?_
      have hS0 : Blk wz4.drew gm 29 #[.int .i64 ty, .slice (some ⟨bF, oF, none⟩) n c] ∧ Blk wz4.drew g7 29 #[.int .i64 ty, .slice B4 (k + 1) d4] ∧ wz4.drew.rangeAt bF (oF + j * 2) (fldA f).toList := ⟨HMZ.out.drew, HS4.out.bk.drew, HRZ.out⟩
      refine tU 0 (.pointer (some ⟨g7, 1, none⟩)) rfl (fun W hW => xF 0 1) hS0 ?_;simp only [zz];refine tU 1 (.slice B4 (k + 1) d4) rfl (fun W hW => xL (hW.2.1.cell 1)) hS0 ?_;simp only [zz];refine tU 2 (.pointer (some ⟨gm, 1, none⟩)) rfl (fun W hW => xF 0 1) hS0 ?_;simp only [zz];refine tU 3 (.slice (some ⟨bF, oF, none⟩) n c) rfl (fun W hW => xL (hW.1.cell 1)) hS0 ?_;simp only [zz];refine tM 4 (.int .i64 (j : Int)) hS0 ?_;simp only [zz];refine tU 5 (.pointer (some ⟨bF, oF + j * 2, none⟩)) rfl (fun W hW => gx_iaddr (i := j) (sz := 2) rfl rfl rfl Tryz.underlying27 size_field HLT.out (by omega)) hS0 ?_;simp only [zz];refine tU 6 (.agg (fldA f)) rfl (fun W hW => gx_loads rfl rfl hW.2.2 Tryz.underlying38 rfl (by rw [size_field]; rfl)) hS0 ?_;simp only [zz]
      refine till_step (i := 7) (by kernel_rfl) rfl rfl ?_
      intro K1 HK1
      refine wp_run (bx_slice1 rfl rfl (build_f1 f _)) ?_
      have ha7 := (Turn.refl nowhere wz4.drew).alloc (.cells (fldA f) 38)
      refine HK1.out _ _ ⟨fun _ => ⟨hS0.1.turn ha7 (fun e => e), hS0.2.1.turn ha7 (fun e => e), fun i v hv => (ha7.cell (World.block_lt_of_cell? _ _ (hS0.2.2 i v hv)) (fun e => e)).trans (hS0.2.2 i v hv)⟩, ?_⟩
      clear HK1 ha7
      try simp only [zz]
      refine till_step (i := 8) (by kernel_rfl) rfl rfl ?_
      intro K1 HK1
      refine wp_run (exec_append rfl rfl rfl HRN5.out) ?_
      have hS8 : Blk w5 gm 29 #[.int .i64 ty, .slice (some ⟨bF, oF, none⟩) n c] ∧ Blk w5 g7 29 #[.int .i64 ty, .slice B4 (k + 1) d4] ∧ w5.rangeAt bF (oF + j * 2) (fldA f).toList := ⟨hS0.1.turn HT5.out (fun e => by
       have e : w2.heap.size ≤ gm := e
       have := HM2.out.lt
       omega), HB5.out, fun i v hv => (HT5.out.cell (World.block_lt_of_cell? _ _ (hS0.2.2 i v hv)) (fun e => by
       have e : w2.heap.size ≤ bF := e
       have := HBF.out
       have := HT1.out.size
       omega)).trans (hS0.2.2 i v hv)⟩
      refine HK1.out _ _ ⟨fun _ => hS8, ?_⟩
      clear HK1 hS0
      try simp only [zz]
      refine tU 9 (.pointer (some ⟨g7, 1, none⟩)) rfl (fun W hW => xF 0 1) hS8 ?_;simp only [zz]
      clear hS8
      refine till_step (i := 10) (by kernel_rfl) rfl rfl ?_
      intro K1 HK1
      refine wp_storeF (v := .slice B5 ((k + 1) + 1) d5) 27 (.tmp 57) (.tmp 56) rfl HB5.out rfl rfl (show 1 < 2 from by decide) rfl rfl size_sl ?_
      intro hbz huz
      have HS5 := zH (HA5.out _ hbz huz)
      refine HK1.out _ _ ⟨fun e => absurd e (by decide), ?_⟩
      clear HK1 hbz huz
      generalize w5.setCell ⟨g7, 1, none⟩ (.slice B5 ((k + 1) + 1) d5) = wz5 at *
      try simp only [zz]
      refine till_done rfl ?_
      refine NoPanic.normal ?_
      go_upto_region 5 with fail
      refine wp_region_lit ?_
      refine wM (.int .i64 (j : Int)) ?_;simp only [zz];refine wS (.int .i64 ((j + 1 : Nat) : Int)) (ix_add rfl rfl rfl (by omega) (by omega)) ?_;simp only [zz];refine wA (.int .i64 ((j + 1 : Nat) : Int)) ?_;simp only [zz]
      go_wp2_with fail
      go_roundg (gk - 1)
      case measure => have := HJL.out; have := HLT.out; omega
      case rel => exact ⟨j + 1, true, l ++ [(no, t)] ++ [f], B5, k + 1 + 1, d5, by have := HJL.out; have := HLT.out; omega, rfl, rfl, by have := HKF.out; simp only [if_pos]; omega, HO2.out, HS5.out⟩
   ·refine wS (.bool false) (ix_gtr rfl rfl rfl (decide_eq_false hgt)) ?_;simp only [zz];refine wM (.bool false) ?_;simp only [zz]
    refine wpList_skip (by go_simp) ?_
    simp only [zz]
    refine wpList_skip (by go_simp) ?_
    simp only [zz];refine wS (.bool false) (ix_pickF rfl rfl rfl) ?_;simp only [zz]
    have HO2 := zH (show (l ++ [f]) ++ rsetM no t b (fs.drop (j + 1)) = setM no t fs from by rw [← HOL.out, HST.out, if_neg heq, if_neg (fun h => hgt h.1), List.append_assoc]; rfl)
    clear heq hgt
    obtain ⟨B5, d5, w5, hrun, hbk, htn, hadd⟩ := RS.add (RS.drew HRS.out) HG72.out f (by have := HKI.out; have := HRM.out; have := HLT.out; omega)
    have HRN5 := zH hrun
    have HB5 := zH hbk
    have HT5 := zH htn
    have HA5 := zH hadd
    clear hrun hbk htn hadd
    go_upto_region 10 with fail
    refine wp_region_till (fun W => Blk W gm 29 #[.int .i64 ty, .slice (some ⟨bF, oF, none⟩) n c] ∧ Blk W g7 29 #[.int .i64 ty, .slice B k d] ∧ W.rangeAt bF (oF + j * 2) (fldA f).toList) 10 (by kernel_rfl) ?_
    have hS0 : Blk wr.drew gm 29 #[.int .i64 ty, .slice (some ⟨bF, oF, none⟩) n c] ∧ Blk wr.drew g7 29 #[.int .i64 ty, .slice B k d] ∧ wr.drew.rangeAt bF (oF + j * 2) (fldA f).toList := ⟨HMR.out.drew, HRS.out.bk.drew, HRR.out⟩
    refine tU 0 (.pointer (some ⟨g7, 1, none⟩)) rfl (fun W hW => xF 0 1) hS0 ?_;simp only [zz];refine tU 1 (.slice B k d) rfl (fun W hW => xL (hW.2.1.cell 1)) hS0 ?_;simp only [zz];refine tU 2 (.pointer (some ⟨gm, 1, none⟩)) rfl (fun W hW => xF 0 1) hS0 ?_;simp only [zz];refine tU 3 (.slice (some ⟨bF, oF, none⟩) n c) rfl (fun W hW => xL (hW.1.cell 1)) hS0 ?_;simp only [zz];refine tM 4 (.int .i64 (j : Int)) hS0 ?_;simp only [zz];refine tU 5 (.pointer (some ⟨bF, oF + j * 2, none⟩)) rfl (fun W hW => gx_iaddr (i := j) (sz := 2) rfl rfl rfl Tryz.underlying27 size_field HLT.out (by omega)) hS0 ?_;simp only [zz];refine tU 6 (.agg (fldA f)) rfl (fun W hW => gx_loads rfl rfl hW.2.2 Tryz.underlying38 rfl (by rw [size_field]; rfl)) hS0 ?_;simp only [zz]
    refine till_step (i := 7) (by kernel_rfl) rfl rfl ?_
    intro K1 HK1
    refine wp_run (bx_slice1 rfl rfl (build_f1 f _)) ?_
    have ha7 := (Turn.refl nowhere wr.drew).alloc (.cells (fldA f) 38)
    refine HK1.out _ _ ⟨fun _ => ⟨hS0.1.turn ha7 (fun e => e), hS0.2.1.turn ha7 (fun e => e), fun i v hv => (ha7.cell (World.block_lt_of_cell? _ _ (hS0.2.2 i v hv)) (fun e => e)).trans (hS0.2.2 i v hv)⟩, ?_⟩
    clear HK1 ha7
    try simp only [zz]
    refine till_step (i := 8) (by kernel_rfl) rfl rfl ?_
    intro K1 HK1
    refine wp_run (exec_append rfl rfl rfl HRN5.out) ?_
    have hS8 : Blk w5 gm 29 #[.int .i64 ty, .slice (some ⟨bF, oF, none⟩) n c] ∧ Blk w5 g7 29 #[.int .i64 ty, .slice B k d] ∧ w5.rangeAt bF (oF + j * 2) (fldA f).toList := ⟨hS0.1.turn HT5.out (fun e => by
     have e : w2.heap.size ≤ gm := e
     have := HM2.out.lt
     omega), HB5.out, fun i v hv => (HT5.out.cell (World.block_lt_of_cell? _ _ (hS0.2.2 i v hv)) (fun e => by
     have e : w2.heap.size ≤ bF := e
     have := HBF.out
     have := HT1.out.size
     omega)).trans (hS0.2.2 i v hv)⟩
    refine HK1.out _ _ ⟨fun _ => hS8, ?_⟩
    clear HK1 hS0
    try simp only [zz]
    refine tU 9 (.pointer (some ⟨g7, 1, none⟩)) rfl (fun W hW => xF 0 1) hS8 ?_;simp only [zz]
    clear hS8
    refine till_step (i := 10) (by kernel_rfl) rfl rfl ?_
    intro K1 HK1
    refine wp_storeF (v := .slice B5 (k + 1) d5) 27 (.tmp 57) (.tmp 56) rfl HB5.out rfl rfl (show 1 < 2 from by decide) rfl rfl size_sl ?_
    intro hbz huz
    have HS5 := zH (HA5.out _ hbz huz)
    refine HK1.out _ _ ⟨fun e => absurd e (by decide), ?_⟩
    clear HK1 hbz huz
    generalize w5.setCell ⟨g7, 1, none⟩ (.slice B5 (k + 1) d5) = wz5 at *
    try simp only [zz]
    refine till_done rfl ?_
    refine NoPanic.normal ?_
    go_upto_region 5 with fail
    refine wp_region_lit ?_
    refine wM (.int .i64 (j : Int)) ?_;simp only [zz];refine wS (.int .i64 ((j + 1 : Nat) : Int)) (ix_add rfl rfl rfl (by omega) (by omega)) ?_;simp only [zz];refine wA (.int .i64 ((j + 1 : Nat) : Int)) ?_;simp only [zz]
    go_wp2_with fail
    go_roundg (gk - 1)
    case measure => have := HJL.out; have := HLT.out; omega
    case rel => exact ⟨j + 1, b, l ++ [f], B5, k + 1, d5, by have := HJL.out; have := HLT.out; omega, rfl, rfl, by have := HKJ.out; omega, HO2.out, HS5.out⟩
 ·refine wS (.bool false) (ix_lss rfl rfl rfl (decide_eq_false (by omega))) ?_;simp only [zz]
  have HOE := zH (show l ++ (if b = true then [] else [(no, t)]) = setM no t fs from by
   have h := HOL.out
   rwa [rset_end (by rw [HNL.out]; omega)] at h)
  have HKN := zH (show k ≤ n + (if b = true then 1 else 0) from by have := HKJ.out; have := HJL.out; omega)
  clear hlt
  cases b with
  | true =>
    go_upto_region 11 with fail
    refine wp_region_lit ?_
    refine wM (.bool true) ?_;simp only [zz];refine wS (.bool false) (ix_not (b := true) rfl rfl) ?_;simp only [zz]
    go_upto_region 13 with fail
    refine wp_region_lit ?_
    refine wS (.agg #[.int .i64 ty, .slice B k d]) (gx_loads rfl rfl (blk_range HRS.out.bk) Tryz.underlying29 rfl (by rw [size_msg]; rfl)) ?_;simp only [zz]
    refine wpList_store_row rfl 29 (.tmp 6) (.tmp 68) rfl #[.int .i64 ty, .slice B k d] (H62.out.turn HRS.out.tr (fun e => HG7.out.2.1 e)) rfl rfl rfl (by rw [size_msg]; rfl) (msgA_one _ _ _ _) ?_
    intro wy hby huy
    have HBY := zH hby
    have HRY := zH ((HRS.out.ro.turn huy (fun q hq e => by
     have e : q = g6 := e
     have h1 := (HRS.out.ro.lt q hq).1
     have := H62.out.lt
     omega)).less HT1.out.size)
    have HTY := zH ((HT1.out.trans HRS.out.tr (fun q hq e => by
     have e : q = g7 := e
     have := HG7.out.2.2
     omega)).trans huy (fun q hq e => by
     have e : q = g6 := e
     have := HG6.out
     omega) : Turn nowhere w wy)
    clear hby huy
    go_wp2_with fail
    refine bodyPost_ret (v := .agg #[.int .i64 ty, .slice B k d]) (ret_cell1 rfl _ _ g6 _ _ _ rfl HBY.out Tryz.underlying29 rfl (by rw [size_msg]; rfl)) rfl ?_
    have he := HOE.out
    replace he : l = setM no t fs := by simpa using he
    exact ⟨B, k, d, rfl, by rw [← he]; exact HRS.out.ln, by rw [← he]; exact HRY.out, HTY.out⟩
  | false =>
    go_upto_region 11 with fail
    refine wp_region_lit ?_
    refine wM (.bool false) ?_;simp only [zz];refine wS (.bool true) (ix_not (b := false) rfl rfl) ?_;simp only [zz]
    have HKF := zH (show k ≤ n from by have := HKN.out; simpa using this)
    obtain ⟨B4, d4, w4, hrun, hbk, htn, hadd⟩ := RS.add HRS.out HG72.out (no, t) (by have := HKF.out; have := HRM.out; omega)
    have HRN4 := zH hrun
    have HB4 := zH hbk
    have HT4 := zH htn
    have HA4 := zH hadd
    clear hrun hbk htn hadd
    go_upto_region 12 with fail
    refine wp_region_lit ?_
    refine wS (.pointer (some ⟨g7, 1, none⟩)) (xF 0 1) ?_;simp only [zz];refine wS (.slice B k d) (xL (HRS.out.bk.cell 1)) ?_;simp only [zz];refine wM (.int .i64 no) ?_;simp only [zz];refine wM (strV t) ?_;simp only [zz];refine wS (.agg (fldA (no, t))) (gx_build2 rfl rfl rfl (build_fldM no t _)) ?_;simp only [zz]
    refine wR (v := .slice (some ⟨wr.heap.size, 0, none⟩) 1 1) (w' := wr.alloc (.cells (fldA (no, t)) 38)) rfl (bx_slice1 rfl rfl (build_f1 (no, t) _)) ?_
    simp only [zz]
    refine wR (v := .slice B4 (k + 1) d4) (w' := w4) rfl (exec_append rfl rfl rfl HRN4.out) ?_
    simp only [zz];refine wS (.pointer (some ⟨g7, 1, none⟩)) (xF 0 1) ?_;simp only [zz]
    refine wpList_store1 (v := .slice B4 (k + 1) d4) rfl 27 (.tmp 67) (.tmp 66) rfl HB4.out rfl rfl (show 1 < 2 from by decide) rfl rfl size_sl ?_
    intro hbz huz
    have HS4 := zH (HA4.out _ hbz huz)
    have HU4 := zH huz
    clear hbz huz
    generalize w4.setCell ⟨g7, 1, none⟩ (.slice B4 (k + 1) d4) = wz4 at *
    try simp only [zz]
    go_upto_region 13 with fail
    refine wp_region_lit ?_
    refine wS (.agg #[.int .i64 ty, .slice B4 (k + 1) d4]) (gx_loads rfl rfl (blk_range HS4.out.bk) Tryz.underlying29 rfl (by rw [size_msg]; rfl)) ?_;simp only [zz]
    refine wpList_store_row rfl 29 (.tmp 6) (.tmp 68) rfl #[.int .i64 ty, .slice B4 (k + 1) d4] (H62.out.turn HS4.out.tr (fun e => HG7.out.2.1 e)) rfl rfl rfl (by rw [size_msg]; rfl) (msgA_one _ _ _ _) ?_
    intro wy hby huy
    have HBY := zH hby
    have HRY := zH ((HS4.out.ro.turn huy (fun q hq e => by
     have e : q = g6 := e
     have h1 := (HS4.out.ro.lt q hq).1
     have := H62.out.lt
     omega)).less HT1.out.size)
    have HTY := zH ((HT1.out.trans HS4.out.tr (fun q hq e => by
     have e : q = g7 := e
     have := HG7.out.2.2
     omega)).trans huy (fun q hq e => by
     have e : q = g6 := e
     have := HG6.out
     omega) : Turn nowhere w wy)
    clear hby huy
    go_wp2_with fail
    refine bodyPost_ret (v := .agg #[.int .i64 ty, .slice B4 (k + 1) d4]) (ret_cell1 rfl _ _ g6 _ _ _ rfl HBY.out Tryz.underlying29 rfl (by rw [size_msg]; rfl)) rfl ?_
    have he := HOE.out
    replace he : l ++ [(no, t)] = setM no t fs := by simpa using he
    exact ⟨B4, (k + 1), d4, rfl, by rw [← he]; exact HS4.out.ln, by rw [← he]; exact HRY.out, HTY.out⟩
end Go.Proofs.YtkagijifkpoplaaGreatDoor
