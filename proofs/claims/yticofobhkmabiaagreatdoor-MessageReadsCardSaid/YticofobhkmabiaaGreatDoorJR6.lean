/-
  Texts of MessageReads in one file, shortened: MsFb MsFc MsUx MsFd MsFe MsFf MsFg MsTrim MsFh MsFi. Conditions: the tables and the errors read as the program's text lays them.
-/
import Derived.Test.YticofobhkmabiaaGreatDoorJR1
import Derived.Test.YticofobhkmabiaaGreatDoorJR3
import Derived.Test.YticofobhkmabiaaGreatDoorJR0
import Derived.Laws.BitsAllLaws
set_option linter.unusedVariables false
set_option linter.unusedSimpArgs false
set_option maxRecDepth 40000
set_option maxHeartbeats 20000000
namespace Go.Proofs.YticofobhkmabiaaGreatDoor
open Go.RowKit
open Fdd
theorem blk_range {W : World} {g : Nat} {t : TypeId} {cs : Array Value} (h : Blk W g t cs) : W.rangeAt g 0 cs.toList := fun j v hj => by
 rw [Nat.zero_add, h.cell j]
 simpa using hj
theorem gx_iface {P : Program} {a : Act} {o : Oper} {W : World} {t : TypeId} {x : Operand} {v r : Value} (ho : o.op = .makeInterface t x) (hx : a.eval x = v) (h : (Instr.makeInterface t v).run P W = .ok r W) : (execOp a.eval o).run P W = .ok (.value r) W := by
 unfold execOp
 simp only [ho, hx, h, Sem.run_bind, Sem.run_pure, Result.andThen_ok]
theorem mk_fe (v : Value) (W : World) : (Instr.makeInterface 80 v).run Tryz.prog W = .ok (.iface 80 v) W := by kernel_rfl
theorem build_fe (no : Int) (v : Value) (W : World) : (Instr.build 80 #[(0, .int .i64 no), (1, .iface 236 v)]).run Tryz.prog W = .ok (.agg #[.int .i64 no, .iface 236 v]) W := by kernel_rfl
theorem msize_row : (Tryz.prog.info? 110).map (·.size) = some 3 := by kernel_rfl
theorem mzero_row (w : World) : (zeroValue 110).run Tryz.prog w = .ok (.agg #[.int .i64 0, .int .i64 0, .int .i64 0]) w := by kernel_rfl
theorem build_form0 (W : World) : (Instr.build 49 #[]).run Tryz.prog W = .ok (.agg #[.int .i64 0, .int .i64 0, .int .i64 0]) W := by kernel_rfl
def rowA (r : Int × Int × Int) : Array Value := #[.int .i64 r.1, .int .i64 r.2.1, .int .i64 r.2.2]
theorem rowA_one (r : Int × Int × Int) : ∀ v ∈ (rowA r).toList, v.oneCell' = true := fun v hv => by
 unfold rowA at hv
 simp only [List.mem_cons, List.not_mem_nil, or_false] at hv
 rcases hv with rfl | rfl | rfl <;> rfl
theorem fm3_one (a b c : Int) : ∀ v ∈ (#[.int .i64 a, .int .i64 b, .int .i64 c] : Array Value).toList, v.oneCell' = true := rowA_one (a, b, c)
theorem rows_range {W : World} {b off : Nat} (h : ∀ i v, rowCells[i]? = some v → W.cell? ⟨b, off + i, none⟩ = some v) {j : Nat} {r : Int × Int × Int} (hr : mrows[j]? = some r) : W.rangeAt b (off + j * 3) (rowA r).toList := by
 have key : ∀ j : Fin 17, ∀ i : Fin 3, rowCells[j.val * 3 + i.val]? = ((mrows[j.val]?).map rowA).bind fun a => a[i.val]? := by
  intro j i
  have hj : j.val < 17 := j.isLt
  have hi : i.val < 3 := i.isLt
  obtain ⟨j, _⟩ := j
  obtain ⟨i, _⟩ := i
  simp only
  have hjj : j = 0 ∨ j = 1 ∨ j = 2 ∨ j = 3 ∨ j = 4 ∨ j = 5 ∨ j = 6 ∨ j = 7 ∨ j = 8 ∨ j = 9 ∨ j = 10 ∨ j = 11 ∨ j = 12 ∨ j = 13 ∨ j = 14 ∨ j = 15 ∨ j = 16 := by omega
  have hii : i = 0 ∨ i = 1 ∨ i = 2 := by omega
  rcases hii with rfl | rfl | rfl <;> rcases hjj with rfl | rfl | rfl | rfl | rfl | rfl | rfl | rfl | rfl | rfl | rfl | rfl | rfl | rfl | rfl | rfl | rfl <;> rfl
 have hj : j < 17 := (List.getElem?_eq_some_iff.1 hr).1
 intro i v hv
 rw [Nat.add_assoc]
 have hi : i < 3 := by
  have := (List.getElem?_eq_some_iff.1 hv).1
  simpa [rowA] using this
 refine h _ v ?_
 have := key ⟨j, hj⟩ ⟨i, hi⟩
 simp only [hr, Option.map_some, Option.bind_some] at this
 rw [this]
 simpa using hv
theorem unsaid_walk (d : Nat) (no : Int) (w : World) :
 Calls Tryz.prog 40 #[tongV d, .int .i64 no] w fun e w' => e = .returned (strV (unsaid d no)) ∧ Turn nowhere w w' := by
 by_cases h4 : no = 4
 ·subst h4
  unfold tongV tongA
  generalize unsaid d 4 = u
  generalize ver d = v
  go_enter Tryz.func40, Tryz.ntmps40
  go_wp2
  go_ret
  exact ⟨rfl, (Turn.refl nowhere w).alloc _⟩
 ·have hu : unsaid d no = [] := by
   unfold unsaid
   rw [if_neg (fun h => h4 h.2)]
  rw [hu]
  clear hu
  unfold tongV tongA
  generalize unsaid d 4 = u
  generalize ver d = v
  go_enter Tryz.func40, Tryz.ntmps40
  go_wp2
  go_ret
  exact ⟨rfl, (Turn.refl nowhere w).alloc _⟩
def formR (s : Sents) (d : Nat) (no : Int) : Value := match mform d no with
 | some m => .tuple #[fmV m, .nilIface]
 | none => .tuple #[.agg #[.int .i64 0, .int .i64 0, .int .i64 0], .iface 80 (.agg #[.int .i64 no, errS s.field])]
theorem mform_at {d : Nat} {no : Int} {j : Nat} {r : Int × Int × Int} (hr : mrows[j]? = some r) (hm : mfind no (mrows.drop j) = mfind no mrows) : (r.1 = no → mform d no = some ⟨r.2.1, r.2.2 - (unsaid d no).length, (d : Int)⟩) ∧ (r.1 ≠ no → mfind no (mrows.drop (j + 1)) = mfind no mrows) := by
 obtain ⟨hj, hrj⟩ := List.getElem?_eq_some_iff.1 hr
 have hd : mrows.drop j = r :: mrows.drop (j + 1) := by rw [← hrj]; exact List.drop_eq_getElem_cons hj
 have hf : mfind no (r :: mrows.drop (j + 1)) = if r.1 = no then some r.2 else mfind no (mrows.drop (j + 1)) := rfl
 rw [hd, hf] at hm
 refine ⟨fun h => ?_, fun h => ?_⟩
 ·rw [if_pos h] at hm
  unfold mform
  rw [← hm]
  rfl
 ·rw [if_neg h] at hm
  exact hm
theorem form_walk {s : Sents} {w : World} {d : Nat} {no : Int} (ht : Tab w) (hs : Sen s w) :
 Calls Tryz.prog 37 #[tongV d, .int .i64 no] w fun e w' => e = .returned (formR s d no) ∧ Turn nowhere w w' := by
 have hW : ∃ w1 b0 bt, w1 = (w.alloc (.cells (tongA d) 70)).alloc (.cells #[.int .i64 0, .int .i64 0, .int .i64 0] 49) ∧ bt = w.heap.size ∧ b0 = w.heap.size + 1 := ⟨_, _, _, rfl, rfl, rfl⟩
 obtain ⟨w1, b0, bt, hw1, hbt, hb0⟩ := hW
 have hU : Turn nowhere w w1 := by rw [hw1]; exact ((Turn.refl nowhere w).alloc _).alloc _
 have hBt : Blk w1 bt 70 (tongA d) := by rw [hw1, hbt]; exact (Blk.new w _ _).alloc _
 have hB0 : Blk w1 b0 49 #[.int .i64 0, .int .i64 0, .int .i64 0] := by
  rw [hw1, hb0]
  have := Blk.new (w.alloc (.cells (tongA d) 70)) 49 #[.int .i64 0, .int .i64 0, .int .i64 0]
  simpa using this
 have HLG := zH (World.block_lt_of_cell? _ _ hs.field.1)
 have hT1 := ht.turn hU
 have hS1 := hs.turn hU
 obtain ⟨bR, oR, cR, hg6, hcells⟩ := hT1.rows
 have HG := zH hbt
 have HG0 := zH hb0
 have HU := zH hU
 have HBT := zH hBt
 have HB0 := zH hB0
 have HS := zH hS1
 have HC := zH hcells
 have HW := zH hw1
 clear hU hBt hB0 hT1 hS1 hcells ht hs hw1 hbt hb0
 go_enter Tryz.func37, Tryz.ntmps37
 go_upto_region 1 with fail
 have e0 := HG0.out
 have e1 := HG.out
 have e2 := HW.out
 change Code.wp _ _ _ _ ((w.alloc (.cells (tongA d) 70)).alloc (.cells #[.int .i64 0, .int .i64 0, .int .i64 0] 49))
 rw [← e2, ← e0, ← e1]
 clear e0 e1 e2 HW
 go_wp2_with fail
 go_loopg [10] 17 (fun gk jv wr => ∃ j : Nat, j + gk = 17 ∧ jv = .int .i64 (j : Int) ∧ mfind no (mrows.drop j) = mfind no mrows ∧ Turn nowhere w1 wr)
 case atStart => exact ⟨0, by omega, rfl, rfl, Turn.refl _ _⟩
 obtain ⟨j, hjl, rfl, hfind, htr⟩ := hrel
 have HJL := zH hjl
 have HF := zH hfind
 have HTR := zH htr
 clear hjl hfind htr hg6
 by_cases hlt : j < 17
 ·have y1 : (j : Int) < 17 := by omega
  have HLT := zH hlt
  obtain ⟨r, hr⟩ : ∃ r, mrows[j]? = some r := ⟨_, List.getElem?_eq_getElem (show j < mrows.length from hlt)⟩
  have HM := zH (mform_at (d := d) (no := no) hr HF.out)
  have HRR := zH (rows_range (fun i v h => (HTR.out.cell (World.block_lt_of_cell? _ _ (HC.out i v h)) (fun e => e)).trans (HC.out i v h)) hr)
  have HBD := zH (show -9223372036854775808 ≤ r.2.2 - ((unsaid d no).length : Int) ∧ r.2.2 - ((unsaid d no).length : Int) ≤ 9223372036854775807 from by
   have h1 := (mrows_all r (List.mem_of_getElem? hr)).2.1
   rcases unsaid_len d no with h | ⟨h, _⟩ <;> rw [h] <;> simp only [List.length_nil, List.length_cons] <;> omega)
  clear hlt hr
  go_upto_region 3 with fail
  refine wp_region_lit ?_
  refine wR (v := .pointer (some ⟨bR, oR + j * 3, none⟩)) rfl (gx_iaddr (i := j) (sz := 3) rfl rfl rfl Tryz.underlying108 (by kernel_rfl) HLT.out (by omega)) ?_
  simp only [zz]
  refine wR (v := .agg (rowA r)) rfl (gx_loads rfl rfl HRR.out Tryz.underlying110 rfl (by rw [msize_row]; rfl)) ?_
  simp only [zz]
  refine wR (v := .pointer (some ⟨wr.heap.size, 0, none⟩)) (w' := wr.alloc (.cells #[.int .i64 0, .int .i64 0, .int .i64 0] 110)) rfl (gx_alloc rfl (mzero_row _)) ?_
  simp only [zz]
  have hb7 := Blk.new wr 110 #[.int .i64 0, .int .i64 0, .int .i64 0]
  have hu7 := HTR.out.alloc (.cells #[.int .i64 0, .int .i64 0, .int .i64 0] 110)
  obtain ⟨g7, hg7⟩ : ∃ g7, g7 = wr.heap.size := ⟨_, rfl⟩
  rw [← hg7] at hb7 ⊢
  have HG7 := zH (show w1.heap.size ≤ g7 from by rw [hg7]; exact HTR.out.size)
  clear hg7
  generalize wr.alloc (.cells #[.int .i64 0, .int .i64 0, .int .i64 0] 110) = w2 at *
  refine wpList_store_row rfl 110 (.tmp 7) (.tmp 13) rfl (rowA r) hb7 rfl rfl rfl (by rw [msize_row]; rfl) (rowA_one r) ?_
  intro w3 hb3 hu3
  have HB7 := zH hb3
  have HU3 := zH (hu7.trans hu3 (fun k hk e => by
   have := HG7.out
   have e : k = g7 := e
   omega))
  clear hb7 hu7 hb3 hu3 HRR
  simp only [zz]
  have c0 : w3.cell? ⟨g7, 0, none⟩ = some (.int .i64 r.1) := HB7.out.cell 0
  go_upto_region 4 with fail
  refine wp_region_lit ?_
  refine wR (v := .pointer (some ⟨g7, 0, none⟩)) rfl (exec_field (off := 0) (d := 0) rfl rfl (by kernel_rfl)) ?_
  simp only [zz]
  refine wR (v := .int .i64 r.1) rfl (exec_load1 rfl rfl (by kernel_rfl) c0) ?_
  simp only [zz]
  refine wM (.int .i64 no) ?_
  simp only [zz]
  by_cases hrn : r.1 = no
  ·have HRN := zH (HM.out.1 hrn)
   refine wR (v := .bool true) rfl (ix_eql rfl rfl rfl (decide_eq_true hrn)) ?_
   simp only [zz]
   clear hrn c0 HM
   have HBT3 := zH (HBT.out.turn HU3.out (fun e => e))
   have HB03 := zH (HB0.out.turn HU3.out (fun e => e))
   have hne7 : g7 ≠ b0 := by
    have := HB0.out.lt
    have := HG7.out
    omega
   have hnet : bt ≠ b0 := by
    have := HG.out
    have := HG0.out
    omega
   have HN7 := zH hne7
   have HNT := zH hnet
   clear hne7 hnet
   go_upto_region 5 with fail
   have hS0 : Blk w3.drew g7 110 (rowA r) ∧ Blk w3.drew bt 70 (tongA d) := ⟨HB7.out, HBT3.out⟩
   have HU3d : Hid (Turn nowhere w1 w3.drew) := zH HU3.out.drew
   have HB0d : Hid (Blk w3.drew b0 49 #[.int .i64 0, .int .i64 0, .int .i64 0]) := zH HB03.out.drew
   clear HB7 HBT3 HU3 HB03
   refine wp_region_alw (fun W => Blk W g7 110 (rowA r) ∧ Blk W bt 70 (tongA d)) (by kernel_rfl) ?_
   generalize w3.drew = w4 at *
   refine aT (i := 0) (v := .pointer (some ⟨g7, 1, none⟩)) rfl (by kernel_rfl) (by kernel_rfl) (fun W hW => exec_field (off := 0) (d := 1) rfl rfl (by kernel_rfl)) hS0 ?_
   simp only [zz]
   refine aT (i := 1) (v := .int .i64 r.2.1) rfl (by kernel_rfl) (by kernel_rfl) (fun W hW => exec_load1 rfl rfl (by kernel_rfl) (hW.1.cell 1)) hS0 ?_
   simp only [zz]
   refine aT (i := 2) (v := .pointer (some ⟨g7, 2, none⟩)) rfl (by kernel_rfl) (by kernel_rfl) (fun W hW => exec_field (off := 0) (d := 2) rfl rfl (by kernel_rfl)) hS0 ?_
   simp only [zz]
   refine aT (i := 3) (v := .int .i64 r.2.2) rfl (by kernel_rfl) (by kernel_rfl) (fun W hW => exec_load1 rfl rfl (by kernel_rfl) (hW.1.cell 2)) hS0 ?_
   simp only [zz]
   refine aT (i := 4) (v := tongV d) rfl (by kernel_rfl) (by kernel_rfl) (fun W hW => gx_loads rfl rfl (blk_range hW.2) Tryz.underlying70 rfl (by rw [size_tongue]; rfl)) hS0 ?_
   simp only [zz]
   refine aT (i := 5) (v := .int .i64 no) rfl (by kernel_rfl) (by kernel_rfl) (fun W hW => exec_move rfl rfl) hS0 ?_
   simp only [zz]
   refine aT (i := 9) (v := .pointer (some ⟨bt, 0, none⟩)) rfl (by kernel_rfl) (by kernel_rfl) (fun W hW => exec_field (off := 0) (d := 0) rfl rfl (by kernel_rfl)) hS0 ?_
   simp only [zz]
   refine aT (i := 10) (v := .int .i64 (d : Int)) rfl (by kernel_rfl) (by kernel_rfl) (fun W hW => exec_load1 rfl rfl (by kernel_rfl) (hW.2.cell 0)) hS0 ?_
   simp only [zz]
   refine alw_step (i := 6) (by kernel_rfl) rfl rfl ?_
   intro K1 HK1
   go_wp2_with fail
   refine (unsaid_walk d no _).mono ?_
   rintro e w5 ⟨rfl, ht5⟩
   have hS1 : Blk w5 g7 110 (rowA r) ∧ Blk w5 bt 70 (tongA d) := ⟨hS0.1.turn ht5 (fun e => e), hS0.2.turn ht5 (fun e => e)⟩
   refine HK1.out _ _ ⟨hS1, ?_⟩
   have HU5 := zH (HU3d.out.next ht5)
   have HB05 := zH (HB0d.out.turn ht5 (fun e => e))
   clear HK1 hS0 HU3d HB0d ht5
   try simp only [zz]
   refine aT (i := 7) (v := .int .i64 ((unsaid d no).length : Int)) rfl (by kernel_rfl) (by kernel_rfl) (fun W hW => exec_slen rfl rfl) hS1 ?_
   simp only [zz]
   refine aT (i := 8) (v := .int .i64 (r.2.2 - ((unsaid d no).length : Int))) rfl (by kernel_rfl) (by kernel_rfl) (fun W hW => ix_sub rfl rfl rfl rfl HBD.out) hS1 ?_
   simp only [zz]
   refine aT (i := 11) (v := .agg #[.int .i64 r.2.1, .int .i64 (r.2.2 - ((unsaid d no).length : Int)), .int .i64 (d : Int)]) rfl (by kernel_rfl) (by kernel_rfl) (fun W hW => exec_build3 rfl rfl rfl rfl (build_any _ _ _ _)) hS1 ?_
   simp only [zz]
   refine alw_step (i := 12) (by kernel_rfl) rfl rfl ?_
   intro K2 HK2
   refine wp_store_rowU 49 (.tmp 4) (.tmp 29) rfl #[.int .i64 r.2.1, .int .i64 (r.2.2 - ((unsaid d no).length : Int)), .int .i64 (d : Int)] HB05.out rfl rfl rfl (by rw [size_form]; rfl) (fm3_one _ _ _) ?_
   intro w6 hB6 hU6
   have hS2 : Blk w6 g7 110 (rowA r) ∧ Blk w6 bt 70 (tongA d) := ⟨hS1.1.turn hU6 HN7.out, hS1.2.turn hU6 HNT.out⟩
   refine HK2.out _ _ ⟨hS2, ?_⟩
   have HB6 := zH hB6
   have HU6 := zH ((HU.out.next HU5.out).trans hU6 (fun k hk e => by
    have := HG0.out
    have e : k = b0 := e
    omega))
   clear HK2 hS1 HU5 HB05 hB6 hU6
   try simp only [zz]
   refine aT (i := 13) (v := .nilIface) rfl (by kernel_rfl) (by kernel_rfl) (fun W hW => gx_assign rfl rfl) hS2 ?_
   simp only [zz]
   refine alw_done rfl ?_
   clear hS2
   refine NoPanic.normal ?_
   go_wp2_with fail
   refine bodyPost_ret (v := .tuple #[.agg #[.int .i64 r.2.1, .int .i64 (r.2.2 - ((unsaid d no).length : Int)), .int .i64 (d : Int)], .nilIface]) (ret_cell2 rfl _ _ b0 _ _ _ rfl rfl HB6.out Tryz.underlying49 rfl (by rw [size_form]; rfl)) rfl ?_
   refine ⟨?_, HU6.out⟩
   unfold formR
   rw [HRN.out]
   rfl
  ·have HRN := zH (HM.out.2 hrn)
   refine wR (v := .bool false) rfl (ix_eql rfl rfl rfl (decide_eq_false hrn)) ?_
   simp only [zz]
   clear hrn c0 HM
   go_wp2_with fail
   go_roundg (gk - 1)
   case measure => have := HJL.out; have := HLT.out; omega
   case rel => exact ⟨j + 1, by have := HJL.out; have := HLT.out; omega, by go_num, HRN.out, HU3.out⟩
 ·have y1 : ¬ ((j : Int) < 17) := by omega
  have HN := zH (show mform d no = none from by
   have h := HF.out
   have h0 : mrows.drop j = [] := List.drop_eq_nil_iff.2 (show mrows.length ≤ j from by have : mrows.length = 17 := rfl; omega)
   rw [h0] at h
   have h2 : mfind no mrows = none := h.symm
   unfold mform
   rw [h2]
   rfl)
  have HB03 := zH (HB0.out.turn HTR.out (fun e => e))
  have HLT : Hid (6 < b0) := zH (by
   have h := World.block_lt_of_cell? _ _ HS.out.field.1
   have h2 := HB0.out.lt
   have := HG0.out
   have h3 : w.heap.size ≤ w1.heap.size := HU.out.size
   have h4 := HLG.out
   omega)
  clear hlt HF
  go_upto_region 7 with fail
  have hS0 : wr.drew.cell? ⟨6, 0, none⟩ = some (errS s.field) := (HS.out.turn HTR.out).field.1
  have HUd : Hid (Turn nowhere w1 wr.drew) := zH HTR.out.drew
  have HBd : Hid (Blk wr.drew b0 49 #[.int .i64 0, .int .i64 0, .int .i64 0]) := zH HB03.out.drew
  clear HB03 HTR
  refine wp_region_alw (fun W => W.cell? ⟨6, 0, none⟩ = some (errS s.field)) (by kernel_rfl) ?_
  generalize wr.drew = w4 at *
  refine aT (i := 0) (v := .agg #[.int .i64 0, .int .i64 0, .int .i64 0]) rfl (by kernel_rfl) (by kernel_rfl) (fun W hW => exec_bld rfl (build_form0 _)) hS0 ?_
  simp only [zz]
  refine aT (i := 1) (v := .int .i64 no) rfl (by kernel_rfl) (by kernel_rfl) (fun W hW => exec_move rfl rfl) hS0 ?_
  simp only [zz]
  refine aT (i := 2) (v := errS s.field) rfl (by kernel_rfl) (by kernel_rfl) (fun W hW => exec_load1 rfl rfl (by kernel_rfl) hW) hS0 ?_
  simp only [zz]
  refine aT (i := 3) (v := .agg #[.int .i64 no, errS s.field]) rfl (by kernel_rfl) (by kernel_rfl) (fun W hW => gx_build2 rfl rfl rfl (build_fe _ _ _)) hS0 ?_
  simp only [zz]
  refine aT (i := 4) (v := .iface 80 (.agg #[.int .i64 no, errS s.field])) rfl (by kernel_rfl) (by kernel_rfl) (fun W hW => gx_iface rfl rfl (mk_fe _ _)) hS0 ?_
  simp only [zz]
  refine alw_step (i := 5) (by kernel_rfl) rfl rfl ?_
  intro K2 HK2
  refine wp_store_rowU 49 (.tmp 4) (.tmp 31) rfl #[.int .i64 0, .int .i64 0, .int .i64 0] HBd.out rfl rfl rfl (by rw [size_form]; rfl) (fm3_one _ _ _) ?_
  intro w6 hB6 hU6
  have hS2 : w6.cell? ⟨6, 0, none⟩ = some (errS s.field) := (hU6.cell (World.block_lt_of_cell? _ _ hS0) (fun e => by
   have e : 6 = b0 := e
   have := HLT.out
   omega)).trans hS0
  refine HK2.out _ _ ⟨hS2, ?_⟩
  have HB6 := zH hB6
  have HU6 := zH ((HU.out.next HUd.out).trans hU6 (fun k hk e => by
   have := HG0.out
   have e : k = b0 := e
   omega))
  clear HK2 hS0 HUd HBd hB6 hU6
  try simp only [zz]
  refine aT (i := 6) (v := .iface 80 (.agg #[.int .i64 no, errS s.field])) rfl (by kernel_rfl) (by kernel_rfl) (fun W hW => gx_assign rfl rfl) hS2 ?_
  simp only [zz]
  refine alw_done rfl ?_
  clear hS2
  refine NoPanic.normal ?_
  go_wp2_with fail
  refine bodyPost_ret (v := .tuple #[.agg #[.int .i64 0, .int .i64 0, .int .i64 0], .iface 80 (.agg #[.int .i64 no, errS s.field])]) (ret_cell2 rfl _ _ b0 _ _ _ rfl rfl HB6.out Tryz.underlying49 rfl (by rw [size_form]; rfl)) rfl ?_
  refine ⟨?_, HU6.out⟩
  unfold formR
  rw [HN.out]
theorem bs_still {w w' : World} {A : Option Addr} {n : Nat} {bs : List UInt8} (h : Bs w A n bs) (ht : Turn nowhere w w') : Bs w' A n bs := bs_below h (ht.below (Nat.le_refl _) (fun _ _ e=>e))
def feV (no : Int) (a : Addr) : Value := .iface 80 (.agg #[.int .i64 no, errS a])
def wrapV (s : Sents) (no e : Int) : Value := if e = 41 then feV no s.text else if e = 42 then feV no s.bytes else if e = 43 then feV no s.short else .nilIface
theorem wrap_walk {s : Sents} {w : World} {no e : Int} (hs : Sen s w) :
 Calls Tryz.prog 47 #[.int .i64 no, .int .i64 e] w fun r w' => r = .returned (wrapV s no e) ∧ w' = w := by
 have g1 : w.cell? ⟨9, 0, none⟩ = some (errS s.text) := hs.text.1
 have g2 : w.cell? ⟨10, 0, none⟩ = some (errS s.bytes) := hs.bytes.1
 have g3 : w.cell? ⟨11, 0, none⟩ = some (errS s.short) := hs.short.1
 have b1 := build_fe no (.pointer (some s.text)) w
 have b2 := build_fe no (.pointer (some s.bytes)) w
 have b3 := build_fe no (.pointer (some s.short)) w
 unfold errS at g1 g2 g3
 clear hs
 by_cases h1 : e = 41
 ·subst h1
  have hv : wrapV s no 41 = feV no s.text := rfl
  rw [hv]
  clear hv g2 g3 b2 b3
  go_enter Tryz.func47, Tryz.ntmps47
  go_wp2
  go_ret
  exact ⟨rfl, rfl⟩
 ·by_cases h2 : e = 42
  ·subst h2
   have hv : wrapV s no 42 = feV no s.bytes := rfl
   rw [hv]
   clear hv g1 g3 b1 b3
   go_enter Tryz.func47, Tryz.ntmps47
   go_wp2
   go_ret
   exact ⟨rfl, rfl⟩
  ·by_cases h3 : e = 43
   ·subst h3
    have hv : wrapV s no 43 = feV no s.short := rfl
    rw [hv]
    clear hv g1 g2 b1 b2
    go_enter Tryz.func47, Tryz.ntmps47
    go_wp2
    go_ret
    exact ⟨rfl, rfl⟩
   ·have hv : wrapV s no e = .nilIface := by
     unfold wrapV
     rw [if_neg h1, if_neg h2, if_neg h3]
    rw [hv]
    clear hv g1 g2 g3 b1 b2 b3
    go_enter Tryz.func47, Tryz.ntmps47
    go_wp2
    go_ret
    exact ⟨rfl, rfl⟩
def MPut (s : Sents) (no : Int) (f : Fm) (t b : List UInt8) (w : World) (e : Ending) (w' : World) : Prop := ∃ A n c, e = .returned (.tuple #[.slice A n c, wrapV s no (f.check t)]) ∧ Own w' w.heap.size 5 (.slice A n c) (putR f t b) ∧ Turn nowhere w w'
theorem mput_walk {s : Sents} {w : World} {no : Int} {f : Fm} {t b : List UInt8} {A : Option Addr} {n cap : Nat} (hs : Sen s w) (hr : RowsT w) (hb : Bs w A n b) (hn : n ≤ 140737488351232) :
 Calls Tryz.prog 38 #[.slice A n cap, .int .i64 no, fmV f, strV t] w (MPut s no f t b w) := by
 have hu1 := (Turn.refl nowhere w).alloc (.cells #[.int .i64 f.kind, .int .i64 f.size, .int .i64 f.code] 49)
 have hb1 := Blk.new w 49 #[.int .i64 f.kind, .int .i64 f.size, .int .i64 f.code]
 obtain ⟨b0, hb0⟩ : ∃ b0, b0 = w.heap.size := ⟨_, rfl⟩
 obtain ⟨w1, hw1⟩ : ∃ w1, w1 = w.alloc (.cells #[.int .i64 f.kind, .int .i64 f.size, .int .i64 f.code] 49) := ⟨_, rfl⟩
 rw [← hw1] at hu1 hb1
 rw [← hb0] at hb1
 have HP := zH (put_all (f := f) (cap := cap) (t := t) (hr.turn hu1) (bs_still hb hu1) hn)
 have HS := zH (hs.turn hu1)
 have HU1 := zH hu1
 have HB1 := zH hb1
 have HW1 := zH hw1
 have HB0 := zH hb0
 clear hs hr hb hu1 hb1 hw1 hb0
 have hfv : fmV f = .agg #[.int .i64 f.kind, .int .i64 f.size, .int .i64 f.code] := rfl
 rw [hfv] at HP ⊢
 clear hfv
 go_enter Tryz.func38, Tryz.ntmps38
 go_upto_region 1 with fail
 have e1 := HW1.out
 have e2 := HB0.out
 rw [← e1, ← e2]
 clear e1 e2 HW1 HB0
 have c0 : w1.cell? ⟨b0, 0, none⟩ = some (.int .i64 f.kind) := HB1.out.cell 0
 have c1 : w1.cell? ⟨b0, 1, none⟩ = some (.int .i64 f.size) := HB1.out.cell 1
 have c2 : w1.cell? ⟨b0, 2, none⟩ = some (.int .i64 f.code) := HB1.out.cell 2
 go_upto_region 2 with (go_at_call 62; refine HP.out.mono ?_; rintro e w2 ⟨A2, n2, cc2, rfl, ho2, ht2⟩)
 have HO2 := zH ho2
 have HT2 := zH ht2
 clear ho2 ht2 c0 c1 c2 HB1 HP
 go_wp2_with (go_at_call 47; refine (wrap_walk (HS.out.turn HT2.out)).mono ?_; rintro e w3 ⟨rfl, rfl⟩)
 go_ret2
 exact ⟨_, _, _, rfl, own_base HO2.out HU1.out.size, HU1.out.next HT2.out⟩
theorem isType_walk {w : World} {n : Int} : Calls Tryz.prog 45 #[.int .i64 n] w fun e w' => e = .returned (.bool (mtypes.contains n)) ∧ w' = w := by
 by_cases h : n ∈ mtypes
 ·have hv : mtypes.contains n = true := by simpa using h
  rw [hv]
  clear hv
  unfold mtypes at h
  simp only [List.mem_cons, List.not_mem_nil, or_false] at h
  rcases h with rfl | rfl | rfl | rfl | rfl | rfl | rfl | rfl | rfl | rfl | rfl | rfl | rfl | rfl | rfl | rfl
  all_goals
   go_enter Tryz.func45, Tryz.ntmps45
   go_wp2
   go_ret
   exact ⟨rfl, rfl⟩
 ·have hv : mtypes.contains n = false := by simpa using h
  rw [hv]
  clear hv
  unfold mtypes at h
  simp only [List.mem_cons, List.not_mem_nil, or_false, not_or] at h
  obtain ⟨h1, h2, h3, h4, h5, h6, h7, h8, h9, h10, h11, h12, h13, h14, h15, h16⟩ := h
  go_enter Tryz.func45, Tryz.ntmps45
  go_wp2
  go_ret
  exact ⟨rfl, rfl⟩
section
variable {a : Act} {o : Oper} {W : World} {x y : Operand} {t u : TypeId}
theorem ux_and {n m r : Nat} (ho : o.op = .binOp .and t x y u) (hx : a.eval x = .int .u64 (n : Int)) (hy : a.eval y = .int .u64 (m : Int)) (hn : n < 2 ^ 64) (hm : m < 2 ^ 64) (hr : n &&& m = r) : (execOp a.eval o).run Tryz.prog W = .ok (.value (.int .u64 (r : Int))) W := by
 unfold execOp
 simp only [ho, hx, hy]
 go_simp
 rw [u64_and_nat n m (by omega) (by omega), hr]
theorem ux_or {n m r : Nat} (ho : o.op = .binOp .or t x y u) (hx : a.eval x = .int .u64 (n : Int)) (hy : a.eval y = .int .u64 (m : Int)) (hn : n < 2 ^ 64) (hm : m < 2 ^ 64) (hr : n ||| m = r) : (execOp a.eval o).run Tryz.prog W = .ok (.value (.int .u64 (r : Int))) W := by
 unfold execOp
 simp only [ho, hx, hy]
 go_simp
 rw [u64_or_nat n m (by omega) (by omega), hr]
theorem ux_andNot {n m r : Nat} (ho : o.op = .binOp .andNot t x y u) (hx : a.eval x = .int .u64 (n : Int)) (hy : a.eval y = .int .u64 (m : Int)) (hn : n < 2 ^ 64) (hm : m < 2 ^ 64) (hr : n &&& (18446744073709551615 - m) = r) : (execOp a.eval o).run Tryz.prog W = .ok (.value (.int .u64 (r : Int))) W := by
 unfold execOp
 simp only [ho, hx, hy]
 go_simp
 rw [u64_andNot_nat n m (by omega) (by omega), hr]
theorem ux_shr4 {n : Nat} (ho : o.op = .binOp .shr 135 x y u) (hx : a.eval x = .int .u64 (n : Int)) (hy : a.eval y = .int .u64 4) (hn : n < 2 ^ 64) : (execOp a.eval o).run Tryz.prog W = .ok (.value (.int .u64 ((n / 16 : Nat) : Int))) W := by
 unfold execOp
 simp only [ho, hx, hy]
 go_simp
theorem ux_shl1 {m : Nat} (ho : o.op = .binOp .shl 135 (.const (.int .u64 1)) y u) (hy : a.eval y = .int .i64 (m : Int)) (hm : m < 64) : (execOp a.eval o).run Tryz.prog W = .ok (.value (.int .u64 ((2 ^ m : Nat) : Int))) W := by
 have h2 : (2 : Int) ^ m < 2 ^ 64 := by
  have := Nat.pow_lt_pow_right (a := 2) (by decide) hm
  have h3 : ((2 ^ m : Nat) : Int) < ((2 ^ 64 : Nat) : Int) := Int.ofNat_lt.2 this
  simpa using h3
 have h0 : (0 : Int) ≤ 2 ^ m := by
  exact Int.pow_nonneg (by decide)
 unfold execOp
 simp only [ho, hy]
 go_simp
 rw [IntKind.wrap_u64]
 exact Int.emod_eq_of_lt h0 h2
theorem ux_eql {n m : Nat} {r : Bool} (ho : o.op = .binOp .eql t x y u) (hx : a.eval x = .int .u64 (n : Int)) (hy : a.eval y = .int .u64 (m : Int)) (h : decide (n = m) = r) : (execOp a.eval o).run Tryz.prog W = .ok (.value (.bool r)) W := by
 unfold execOp
 simp only [ho, hx, hy]
 go_simp
 subst h
 rw [Bool.eq_iff_iff]
 simp
 omega
theorem ux_geq {n m : Nat} {r : Bool} (ho : o.op = .binOp .geq 135 x y 135) (hx : a.eval x = .int .u64 (n : Int)) (hy : a.eval y = .int .u64 (m : Int)) (h : decide (m ≤ n) = r) : (execOp a.eval o).run Tryz.prog W = .ok (.value (.bool r)) W := by
 unfold execOp
 simp only [ho, hx, hy]
 go_simp
end
theorem hexk_cons : ∀ (k n : Nat), hexk (k + 1) n = hexs.getD (n / 16 ^ k % 16) 0 :: hexk k n
 | 0, n => by simp [hexk]
 | k + 1, n => by
   rw [hexk, hexk_cons k (n / 16), Nat.div_div_eq_div_mul, Nat.mul_comm 16, ← Nat.pow_succ]
   rfl
def ZerT (W : World) : Prop := W.cell? ⟨20, 15, none⟩ = some (.int .u8 4)
theorem ZerT.turn {W W' : World} (h : ZerT W) (ht : Turn nowhere W W') : ZerT W' := (ht.cell (World.block_lt_of_cell? _ _ h) (fun e => e)).trans h
theorem zeros64 {w : World} (hz : ZerT w) : Calls Tryz.prog 167 #[.int .u64 16] w fun e w' => e = .returned (.int .i64 4) ∧ w' = w := by
 unfold ZerT at hz
 go_enter Tryz.func167, Tryz.ntmps167
 go_upto_region 3 with fail
 refine wp_region_lit ?_
 refine wM (.int .u64 16) ?_
 simp only [zz]
 refine wM (.int .u64 16) ?_
 simp only [zz]
 refine wR (v := .int .u64 18446744073709551600) (w' := w) rfl (by kernel_rfl) ?_
 simp only [zz]
 refine wR (v := .int .u64 16) (w' := w) rfl (by kernel_rfl) ?_
 simp only [zz]
 refine wR (v := .int .u64 4573923408821661840) (w' := w) rfl (by kernel_rfl) ?_
 simp only [zz]
 refine wR (v := .int .u64 15) (w' := w) rfl (by kernel_rfl) ?_
 simp only [zz]
 refine wR (v := .pointer (some ⟨20, 15, none⟩)) rfl (gx_aaddr (i := 15) (off := 0) (sz := 1) rfl rfl rfl Tryz.underlying247 (by kernel_rfl) (by omega) (by omega)) ?_
 simp only [zz]
 refine wR (v := .int .u8 4) rfl (exec_load1 rfl rfl (by kernel_rfl) hz) ?_
 simp only [zz]
 refine wR (v := .int .i64 4) (w' := w) rfl (by kernel_rfl) ?_
 simp only [zz]
 refine wA (.int .i64 4) ?_
 simp only [zz]
 clear hz
 go_wp2_with fail
 go_ret
 exact ⟨rfl, rfl⟩
theorem zeros_walk {w : World} (hz : ZerT w) : Calls Tryz.prog 162 #[.int .u64 16] w fun e w' => e = .returned (.int .i64 4) ∧ w' = w := by
 have HZ := zH hz
 clear hz
 go_enter Tryz.func162, Tryz.ntmps162
 go_wp2_with (go_at_call 167; refine (zeros64 HZ.out).mono ?_; rintro e w' ⟨rfl, rfl⟩)
 go_ret
 exact ⟨rfl, rfl⟩
theorem two_walk {w : World} : Calls Tryz.prog 161 #[.int .i64 16] w fun e w' => e = .returned (.bool true) ∧ w' = w := by
 go_enter Tryz.func161, Tryz.ntmps161
 go_upto_region 1 with fail
 refine wp_region_lit ?_
 refine wM (.int .i64 16) ?_
 simp only [zz]
 refine wM (.int .i64 16) ?_
 simp only [zz]
 refine wR (v := .int .i64 15) (w' := w) rfl (by kernel_rfl) ?_
 simp only [zz]
 refine wR (v := .int .i64 0) (w' := w) rfl (by kernel_rfl) ?_
 simp only [zz]
 refine wR (v := .bool true) (w' := w) rfl (by kernel_rfl) ?_
 simp only [zz]
 refine wA (.bool true) ?_
 simp only [zz]
 go_wp2_with fail
 go_ret
 exact ⟨rfl, rfl⟩
theorem gx_aslice {P : Program} {a : Act} {o : Oper} {W : World} {t e : TypeId} {x y : Operand} {b off n i sz m q : Nat} {k : IntKind} (ho : o.op = .slice t x (some y) none none) (hx : a.eval x = .pointer (some ⟨b, off, none⟩)) (hy : a.eval y = .int k (i : Int))
 (ht : P.underlying t = some (.array n e)) (hs : (P.info? e).map (·.size) = some sz) (hi : i < n) (hm : off + i * sz = m) (hq : n - i = q) : (execOp a.eval o).run P W = .ok (.value (.slice (some ⟨b, m, none⟩) q q)) W := by
 obtain ⟨j, hj, hjs⟩ := Option.map_eq_some_iff.1 hs
 subst hm
 subst hq
 unfold execOp
 have h1 : (i : Int) ≤ (n : Int) := by omega
 have h2 : ¬ (n = i) := by omega
 simp [ho, hx, hy, Instr.sliceAt, Instr.sliceBounds, Instr.sliceBound, run_underlying ht, asIntOf, sizeOf, typeInfo, hj, hjs, h1, h2, Nat.le_of_lt hi, add_nat, Result.andThen, Instr.sureAddr]
def d36 : List UInt8 := [48, 49, 50, 51, 52, 53, 54, 55, 56, 57, 97, 98, 99, 100, 101, 102, 103, 104, 105, 106, 107, 108, 109, 110, 111, 112, 113, 114, 115, 116, 117, 118, 119, 120, 121, 122]
theorem d36_hex {v : Nat} (h : v < 16) : d36.getD v 0 = hexs.getD v 0 := by
 have key : ∀ v : Fin 16, d36.getD v.val 0 = hexs.getD v.val 0 := by decide +kernel
 exact key ⟨v, h⟩
theorem zero65 (w : World) : (zeroValue 233).run Tryz.prog w = .ok (.agg (Array.replicate 65 (.int .u8 0))) w := by kernel_rfl
theorem fbits_walk {w : World} {u : Nat} (hu : u < 2 ^ 64) (hz : ZerT w) :
 Calls Tryz.prog 143 #[.slice none 0 0, .int .u64 (u : Int), .int .i64 16, .bool false, .bool false] w fun e w' => (∃ k, 1 ≤ k ∧ k ≤ 16 ∧ u < 16 ^ k ∧ e = .returned (.tuple #[.slice none 0 0, strV (hexk k u)])) ∧ Turn nowhere w w' := by
 have HU := zH hu
 have HZ := zH hz
 clear hu hz
 go_enter Tryz.func143, Tryz.ntmps143
 go_upto_region 3 with fail
 refine wp_region_lit ?_
 refine wR (v := .pointer (some ⟨w.heap.size, 0, none⟩)) (w' := w.alloc (.cells (Array.replicate 65 (.int .u8 0)) 233)) rfl (gx_alloc rfl (zero65 _)) ?_
 simp only [zz]
 have hb0 := Blk.new w 233 (Array.replicate 65 (.int .u8 0))
 have hu0 := (Turn.refl nowhere w).alloc (.cells (Array.replicate 65 (.int .u8 0)) 233)
 obtain ⟨ga, hga⟩ : ∃ ga, ga = w.heap.size := ⟨_, rfl⟩
 rw [← hga] at hb0 ⊢
 have HG := zH hga
 have HB := zH hb0
 have HT := zH hu0
 clear hb0 hu0 hga
 generalize w.alloc (.cells (Array.replicate 65 (.int .u8 0)) 233) = w1 at *
 go_upto_region 8 with (go_at_call 161; refine two_walk.mono ?_; rintro e w2 ⟨rfl, rfl⟩)
 go_wp2_with (go_at_call 162; refine (zeros_walk (HZ.out.turn HT.out)).mono ?_; rintro e w2 ⟨rfl, rfl⟩)
 have HU0 := zH (show u < 16 ^ 16 from by have := HU.out; omega)
 go_loopg [1, 13] 16 (fun gk uv iv wr => ∃ (k : Nat) (C : Array Value), k + gk = 16 ∧ k ≤ 15 ∧ uv = .int .u64 ((u / 16 ^ k : Nat) : Int) ∧ iv = .int .i64 ((65 - k : Nat) : Int) ∧ Blk wr ga 233 C ∧ C.size = 65 ∧ (∀ i x, (hexk k u)[i]? = some x → C[65 - k + i]? = some (.int .u8 (x.toNat : Int))) ∧ Turn nowhere w wr)
 case atStart => exact ⟨0, _, by omega, by omega, by simp, rfl, HB.out, by simp, fun i x h => by simp [hexk] at h, HT.out⟩
 obtain ⟨k, C, hk, hk15, rfl, rfl, hbC, hC, hcells, htr⟩ := hrel
 obtain ⟨v, hv⟩ : ∃ v, v = u / 16 ^ k := ⟨_, rfl⟩
 rw [← hv]
 have hvl : v < 2 ^ 64 := by
  have := HU.out
  have : u / 16 ^ k ≤ u := Nat.div_le_self _ _
  omega
 have HK := zH hk
 have HK15 := zH hk15
 have HV := zH hv
 have HVL := zH hvl
 have HBC := zH hbC
 have HC := zH hC
 have HCE := zH hcells
 have HTR := zH htr
 clear hk hk15 hv hvl hbC hC hcells htr HB HT
 by_cases hge : 16 ≤ v
 ·have y1 : (16 : Int) ≤ (v : Int) := by omega
  have hk14 : k ≤ 14 := by
   apply Nat.le_of_not_lt
   intro h
   have h15 : k = 15 := by have := HK15.out; omega
   have h2 := HV.out
   rw [h15] at h2
   have h3 := HU0.out
   have h4 : u / 16 ^ 15 < 16 := Nat.div_lt_of_lt_mul (by rw [← Nat.pow_succ]; exact h3)
   omega
  have HK14 := zH hk14
  clear hge hk14
  go_upto_region 12 with fail
  refine wp_region_lit ?_
  refine wM (.int .i64 ((65 - k : Nat) : Int)) ?_
  simp only [zz]
  refine wR (v := .int .i64 ((64 - k : Nat) : Int)) rfl (ix_sub rfl rfl rfl (by have := HK14.out; omega) (by have := HK14.out; omega)) ?_
  simp only [zz]
  refine wA (.int .i64 ((64 - k : Nat) : Int)) ?_
  simp only [zz]
  go_upto_region 13 with fail
  refine wp_region_lit ?_
  refine wM (.int .i64 ((64 - k : Nat) : Int)) ?_
  simp only [zz]
  refine wM (.int .u64 (v : Int)) ?_
  simp only [zz]
  refine wM (.int .u64 15) ?_
  simp only [zz]
  refine wR (v := .int .u64 ((v % 16 : Nat) : Int)) rfl (ux_and (m := 15) rfl rfl rfl HVL.out (by decide) (Nat.and_two_pow_sub_one_eq_mod v 4)) ?_
  simp only [zz]
  refine wR (v := .int .u8 ((d36.getD (v % 16) 0).toNat : Int)) rfl (exec_sidx (l := d36) rfl rfl rfl (Nat.lt_of_lt_of_le (Nat.mod_lt v (by decide)) (by decide))) ?_
  simp only [zz]
  refine wR (v := .pointer (some ⟨ga, 64 - k, none⟩)) rfl (gx_aaddr (i := 64 - k) (off := 0) (sz := 1) rfl rfl rfl Tryz.underlying233 (by kernel_rfl) (by omega) (by omega)) ?_
  simp only [zz]
  refine wpList_store1 (g := ga) (i := 64 - k) (v := .int .u8 ((d36.getD (v % 16) 0).toNat : Int)) rfl 5 (.tmp 54) (.tmp 53) rfl HBC.out rfl rfl (by have := HC.out; omega) (by rfl) (by rfl) (by kernel_rfl) ?_
  intro hb9 ht9
  simp only [zz]
  have HB9 := zH hb9
  have HT9 := zH (HTR.out.trans ht9 (fun a hk e => by
   have := HG.out
   have e : a = ga := e
   omega))
  clear hb9 ht9
  generalize World.setCell wr ⟨ga, 64 - k, none⟩ _ = w9 at *
  go_upto_region 14 with fail
  refine wp_region_lit ?_
  refine wM (.int .u64 (v : Int)) ?_
  simp only [zz]
  refine wM (.int .u64 4) ?_
  simp only [zz]
  refine wR (v := .int .u64 ((v / 16 : Nat) : Int)) rfl (ux_shr4 rfl rfl rfl HVL.out) ?_
  simp only [zz]
  refine wA (.int .u64 ((v / 16 : Nat) : Int)) ?_
  simp only [zz]
  go_wp2_with fail
  go_roundg (gk - 1)
  case measure => have := HK.out; have := HK15.out; omega
  case rel =>
   refine ⟨k + 1, _, by have := HK.out; have := HK15.out; omega, by have := HK14.out; omega, ?_, ?_, HB9.out, by simp; exact HC.out, fun i x hi => ?_, HT9.out⟩
   ·rw [HV.out, Nat.div_div_eq_div_mul, ← Nat.pow_succ]
   ·rw [show 65 - (k + 1) = 64 - k from by omega]
   ·rw [hexk_cons] at hi
    rw [show 65 - (k + 1) + i = 64 - k + i from by omega]
    cases i with
    | zero =>
      simp only [List.getElem?_cons_zero, Option.some.injEq] at hi
      subst hi
      rw [Nat.add_zero, Array.getElem?_setIfInBounds_self_of_lt (by have := HC.out; omega), d36_hex (Nat.mod_lt v (by decide)), HV.out]
    | succ i =>
      simp only [List.getElem?_cons_succ] at hi
      rw [Array.getElem?_setIfInBounds_ne (by omega), show 64 - k + (i + 1) = 65 - k + i from by have := HK14.out; omega]
      exact HCE.out i x hi
 ·have y1 : ¬ ((16 : Int) ≤ (v : Int)) := by omega
  have hlt : v < 16 := by omega
  have HLT := zH hlt
  clear hge hlt
  go_upto_region 15 with fail
  refine wp_region_lit ?_
  refine wM (.int .i64 ((65 - k : Nat) : Int)) ?_
  simp only [zz]
  refine wR (v := .int .i64 ((64 - k : Nat) : Int)) rfl (ix_sub rfl rfl rfl (by have := HK15.out; omega) (by have := HK15.out; omega)) ?_
  simp only [zz]
  refine wA (.int .i64 ((64 - k : Nat) : Int)) ?_
  simp only [zz]
  go_upto_region 16 with fail
  refine wp_region_lit ?_
  refine wM (.int .i64 ((64 - k : Nat) : Int)) ?_
  simp only [zz]
  refine wM (.int .u64 (v : Int)) ?_
  simp only [zz]
  refine wR (v := .int .u8 ((d36.getD v 0).toNat : Int)) rfl (exec_sidx (l := d36) rfl rfl rfl (Nat.lt_of_lt_of_le HLT.out (by decide))) ?_
  simp only [zz]
  refine wR (v := .pointer (some ⟨ga, 64 - k, none⟩)) rfl (gx_aaddr (i := 64 - k) (off := 0) (sz := 1) rfl rfl rfl Tryz.underlying233 (by kernel_rfl) (by omega) (by omega)) ?_
  simp only [zz]
  refine wpList_store1 (g := ga) (i := 64 - k) (v := .int .u8 ((d36.getD v 0).toNat : Int)) rfl 5 (.tmp 63) (.tmp 62) rfl HBC.out rfl rfl (by have := HC.out; omega) (by rfl) (by rfl) (by kernel_rfl) ?_
  intro hb9 ht9
  simp only [zz]
  have HB9 := zH hb9
  have HT9 := zH (HTR.out.trans ht9 (fun a hk e => by
   have := HG.out
   have e : a = ga := e
   omega))
  clear hb9 ht9
  generalize World.setCell wr ⟨ga, 64 - k, none⟩ _ = w9 at *
  have HUK := zH (show u < 16 ^ (k + 1) from by
   have h1 := HV.out
   have h2 := HLT.out
   rw [Nat.pow_succ]
   rw [h1] at h2
   rw [Nat.mul_comm]
   exact (Nat.div_lt_iff_lt_mul (Nat.pow_pos (by decide))).1 h2)
  have HBS := zH (show Bs w9 (some ⟨ga, 64 - k, none⟩) (k + 1) (hexk (k + 1) u) from by
   refine ⟨hexk_len _ _, by have := HK15.out; unfold maxLen; omega, fun _ => ⟨ga, 64 - k, rfl, fun i hi => ?_⟩⟩
   rw [HB9.out.cell]
   cases i with
   | zero =>
     rw [Nat.add_zero, Array.getElem?_setIfInBounds_self_of_lt (by have := HC.out; omega), hexk_cons, ← HV.out, Nat.mod_eq_of_lt HLT.out, d36_hex HLT.out]
     rfl
   | succ i =>
     rw [Array.getElem?_setIfInBounds_ne (by omega), show 64 - k + (i + 1) = 65 - k + i from by have := HK15.out; omega, hexk_cons]
     have hil : i < (hexk k u).length := by rw [hexk_len]; omega
     rw [HCE.out i _ (List.getElem?_eq_getElem hil)]
     simp [List.getD_eq_getElem?_getD, List.getElem?_eq_getElem hil])
  go_upto_region 30 with fail
  refine wp_region_lit ?_
  refine wM (.int .i64 ((64 - k : Nat) : Int)) ?_
  simp only [zz]
  refine wR (v := .slice (some ⟨ga, 64 - k, none⟩) (k + 1) (k + 1)) rfl (gx_aslice (i := 64 - k) (off := 0) (sz := 1) rfl rfl rfl Tryz.underlying233 (by kernel_rfl) (by omega) (by omega) (by have := HK15.out; omega)) ?_
  simp only [zz]
  refine wR (v := strV (hexk (k + 1) u)) rfl (exec_strBs rfl rfl HBS.out) ?_
  simp only [zz]
  refine wA (strV (hexk (k + 1) u)) ?_
  simp only [zz]
  go_wp2_with fail
  go_ret2
  exact ⟨⟨k + 1, by omega, by have := HK15.out; omega, HUK.out, rfl⟩, HT9.out⟩
theorem fuint_walk {w : World} {u : Nat} (hu : u < 2 ^ 64) (hz : ZerT w) :
 Calls Tryz.prog 112 #[.int .u64 (u : Int), .int .i64 16] w fun e w' => (∃ k, 1 ≤ k ∧ k ≤ 16 ∧ u < 16 ^ k ∧ e = .returned (strV (hexk k u))) ∧ Turn nowhere w w' := by
 have HIN : Calls Tryz.prog 126 #[.int .u64 (u : Int), .int .i64 16] w fun e w' => (∃ k, 1 ≤ k ∧ k ≤ 16 ∧ u < 16 ^ k ∧ e = .returned (strV (hexk k u))) ∧ Turn nowhere w w' := by
  have HF := zH (fbits_walk hu hz)
  clear hu hz
  go_enter Tryz.func126, Tryz.ntmps126
  go_wp2_with (go_at_call 143; refine HF.out.mono ?_; rintro e w' ⟨⟨k, h1, h2, h3, rfl⟩, ht⟩)
  go_ret
  exact ⟨⟨k, h1, h2, h3, rfl⟩, ht⟩
 have HI := zH HIN
 clear HIN hu hz
 go_enter Tryz.func112, Tryz.ntmps112
 go_wp2_with (go_at_call 126; refine HI.out.mono ?_; rintro e w' ⟨⟨k, h1, h2, h3, rfl⟩, ht⟩)
 go_ret
 exact ⟨⟨k, h1, h2, h3, rfl⟩, ht⟩
theorem wpList_op {P : Program} {ops : Array Oper} {rest : List Oper} {o : Oper} {a : Act} {w : World} {Q : Exit → Act → World → Prop} (hgd : Region.wanted o (yielded ops a.tmps) = true) (h : ∀ K : Act → World → Prop, Hid (∀ a' w', wpList P ops Q rest a' w' → K a' w') → o.wp P a w K Q) : wpList P ops Q (o :: rest) a w :=
 wpList_step fun K hK => by
  rw [if_pos hgd]
  exact h K (zH hK)
theorem size_field : (Tryz.prog.info? 40).map (·.size) = some 2 := by kernel_rfl
theorem zero_field (w : World) : (zeroValue 40).run Tryz.prog w = .ok (.agg #[.int .i64 0, strV []]) w := by kernel_rfl
def fldA (f : Fld) : Array Value := #[.int .i64 f.1, strV f.2]
theorem fldA_one (f : Fld) : ∀ v ∈ (fldA f).toList, v.oneCell' = true := fun v hv => by
 unfold fldA at hv
 simp only [List.mem_cons, List.not_mem_nil, or_false] at hv
 rcases hv with rfl | rfl <;> rfl
def Fl (w : World) (A : Option Addr) (n : Nat) (fs : List Fld) : Prop := fs.length = n ∧ n ≤ 140737488355328 ∧ (0 < n → ∃ b off, A = some ⟨b, off, none⟩ ∧ ∀ i f, fs[i]? = some f → w.rangeAt b (off + i * 2) (fldA f).toList)
theorem Fl.still {w w' : World} {A : Option Addr} {n : Nat} {fs : List Fld} (h : Fl w A n fs) (ht : Turn nowhere w w') : Fl w' A n fs := by
 obtain ⟨h1, h2, h3⟩ := h
 refine ⟨h1, h2, fun hp => ?_⟩
 obtain ⟨b, off, e, hc⟩ := h3 hp
 exact ⟨b, off, e, fun i f hf j v hv => (ht.cell (World.block_lt_of_cell? _ _ (hc i f hf j v hv)) (fun e => e)).trans (hc i f hf j v hv)⟩
theorem half1_snoc (l : List Fld) (f : Fld) : half1 (l ++ [f]) = if f.1 ≤ 64 then half1 l ||| 2 ^ (64 - f.1.toNat) else half1 l := by
 unfold half1
 rw [List.foldl_append]
 rfl
theorem half2_snoc (l : List Fld) (f : Fld) : half2 (l ++ [f]) = if f.1 ≤ 64 then half2 l else half2 l ||| 2 ^ (128 - f.1.toNat) := by
 unfold half2
 rw [List.foldl_append]
 rfl
theorem take_snoc {fs : List Fld} {j : Nat} {f : Fld} (h : fs[j]? = some f) : fs.take (j + 1) = fs.take j ++ [f] := by
 rw [List.take_add_one, h]
 rfl
theorem pow_lt64 {m : Nat} (h : m < 64) : 2 ^ m < 2 ^ 64 := Nat.pow_lt_pow_right (by decide) h
theorem bit_walk {w : World} {n : Nat} (h : 1 ≤ n ∧ n ≤ 64) : Calls Tryz.prog 83 #[.int .i64 (n : Int)] w fun e w' => e = .returned (.int .u64 ((2 ^ (64 - n) : Nat) : Int)) ∧ w' = w := by
 have H := zH h
 clear h
 go_enter Tryz.func83, Tryz.ntmps83
 go_upto_region 1 with fail
 refine wp_region_lit ?_
 refine wM (.int .i64 (n : Int)) ?_
 simp only [zz]
 refine wR (v := .int .i64 ((64 - n : Nat) : Int)) rfl (ix_sub rfl rfl rfl (by have := H.out; omega) (by have := H.out; omega)) ?_
 simp only [zz]
 refine wR (v := .int .u64 ((2 ^ (64 - n) : Nat) : Int)) rfl (ux_shl1 rfl rfl (by have := H.out; omega)) ?_
 simp only [zz]
 refine wA (.int .u64 ((2 ^ (64 - n) : Nat) : Int)) ?_
 simp only [zz]
 obtain ⟨q, hq⟩ : ∃ q, q = 2 ^ (64 - n) := ⟨_, rfl⟩
 rw [← hq]
 have HQ := zH hq
 clear hq
 go_wp2_with fail
 go_ret
 exact ⟨ret_int (by rw [HQ.out]), rfl⟩
theorem bitsText_walk {w : World} {u : Nat} (hu : u < 2 ^ 64) (hz : ZerT w) :
 Calls Tryz.prog 90 #[.int .u64 (u : Int)] w fun e w' => e = .returned (strV (hexk 16 u)) ∧ Turn nowhere w w' := by
 have HF := zH (fuint_walk hu hz)
 clear hu hz
 go_enter Tryz.func90, Tryz.ntmps90
 go_upto_region 2 with (go_at_call 112; refine HF.out.mono ?_; rintro e w1 ⟨⟨k, h1, h2, h3, rfl⟩, ht⟩)
 have HT := zH ht
 have HK := zH h2
 have HE := zH (show hexk 16 u = List.replicate (16 - k) 48 ++ hexk k u from by rw [← hexk_pad (16 - k) k u h3, show 16 - k + k = 16 from by omega])
 have HL := zH (hexk_len k u)
 clear h1 h2 h3 ht HF
 generalize hexk k u = dg at *
 refine wp_region_lit ?_
 refine wM (strV dg) ?_
 simp only [zz]
 refine wR (v := .int .i64 (dg.length : Int)) rfl (exec_slen rfl rfl) ?_
 simp only [zz]
 refine wR (v := .int .i64 ((16 - k : Nat) : Int)) rfl (ix_sub rfl rfl rfl (by have := HK.out; have := HL.out; omega) (by have := HK.out; omega)) ?_
 simp only [zz]
 obtain ⟨m, hm⟩ : ∃ m, m = 16 - k := ⟨_, rfl⟩
 rw [← hm]
 have HM := zH hm
 clear hm
 have hrep : Calls Tryz.prog 89 #[.string ⟨#[48]⟩, .int .i64 (m : Int)] w1 fun e w' => e = .returned (strV (List.replicate m 48)) ∧ Below w1.heap.size w1 w' := by
  have h := Any.strings_Repeat Tryz.lays105 Tryz.Builder_Extra_105 ⟨#[48]⟩ m w1 (by have := HM.out; omega) (by have := HM.out; rw [show (ByteArray.mk #[48]).size = 1 from rfl]; omega)
  rw [show (ByteArray.mk #[48]).data.toList = [48] from rfl, repeat_one] at h
  exact h
 go_wp2_with (first
  | (go_at_call 89; refine hrep.mono ?_; rintro e w2 ⟨rfl, hb⟩)
  | (refine wR (v := strV (List.replicate m 48 ++ dg)) (w' := w2) rfl (exec_sadd (l := List.replicate m 48) (m := dg) rfl rfl rfl (by have := HM.out; have := HK.out; have := HL.out; rw [List.length_replicate]; omega)) ?_))
 go_ret
 rw [HE.out, ← HM.out]
 exact ⟨rfl, HT.out.next (Turn.of_below hb (Nat.le_refl _))⟩
def Ss (w : World) (g : Nat) (l : List (List UInt8)) : Prop := ∃ C t, Blk w g t C ∧ ∀ (i : Nat) (s : List UInt8), l[i]? = some s → C[i]? = some (strV s)
theorem build_s1 (s : List UInt8) (W : World) : (Instr.buildSlice 106 1 #[(0, strV s)]).run Tryz.prog W = .ok (.slice (some ⟨W.heap.size, 0, none⟩) 1 1) (W.alloc (.cells #[strV s] 9)) := by kernel_rfl
theorem build_s2 (s t : List UInt8) (W : World) : (Instr.buildSlice 106 2 #[(0, strV s), (1, strV t)]).run Tryz.prog W = .ok (.slice (some ⟨W.heap.size, 0, none⟩) 2 2) (W.alloc (.cells #[strV s, strV t] 9)) := by kernel_rfl
theorem exec_buildSlice2 {P : Program} {a : Act} {o : Oper} {W : World} {t : TypeId} {x y : Operand} {u u' v : Value} {W' : World} (ho : o.op = .buildSlice t 2 #[(0, x), (1, y)]) (hx : a.eval x = u) (hy : a.eval y = u') (h : (Instr.buildSlice t 2 #[(0, u), (1, u')]).run P W = .ok v W') : (execOp a.eval o).run P W = .ok (.value v) W' := by
 unfold execOp
 simp only [ho, List.map_toArray, List.map_cons, List.map_nil, hx, hy, h, Sem.run_bind, Sem.run_pure, Result.andThen_ok]
theorem mapTexts_walk {w : World} {A : Option Addr} {n c : Nat} {fs : List Fld} (hf : Fl w A n fs) (hz : ZerT w) (hn : ∀ f ∈ fs, 2 ≤ f.1 ∧ f.1 ≤ 97) :
 Calls Tryz.prog 60 #[.slice A n c] w fun e w' => ∃ g c', e = .returned (.slice (some ⟨g, 0, none⟩) (halves fs).length c') ∧ Ss w' g (halves fs) ∧ Turn nowhere w w' := by
 have HF := zH hf
 have HZ := zH hz
 have HN := zH hn
 have HNL : Hid (fs.length = n) := zH hf.1
 have HNM : Hid (n ≤ 140737488355328) := zH hf.2.1
 have y9 : (n : Int) ≤ 140737488355328 := by
  have := HNM.out
  omega
 clear hf hz hn
 go_enter Tryz.func60, Tryz.ntmps60
 go_wp2_with fail
 go_loopg [3, 4, 9] n (fun gk av bv jv wr => ∃ j : Nat, j + gk = n ∧ jv = .int .i64 (j : Int) ∧ av = .int .u64 ((half1 (fs.take j) : Nat) : Int) ∧ bv = .int .u64 ((half2 (fs.take j) : Nat) : Int) ∧ Turn nowhere w wr)
 case atStart => exact ⟨0, by omega, rfl, rfl, rfl, Turn.refl _ _⟩
 obtain ⟨j, hjl, rfl, rfl, rfl, htr⟩ := hrel
 have HJL := zH hjl
 have HTR := zH htr
 clear hjl htr
 by_cases hlt : j < n
 ·have y1 : (j : Int) < (n : Int) := by omega
  have HLT := zH hlt
  obtain ⟨f, hff⟩ : ∃ f, fs[j]? = some f := ⟨_, List.getElem?_eq_getElem (show j < fs.length from by rw [HNL.out]; exact hlt)⟩
  obtain ⟨bF, oF, rfl, hrow⟩ := HF.out.2.2 (by omega)
  have HRR := zH (show wr.rangeAt bF (oF + j * 2) (fldA f).toList from fun i v hv => (HTR.out.cell (World.block_lt_of_cell? _ _ (hrow j f hff i v hv)) (fun e => e)).trans (hrow j f hff i v hv))
  have HFN := zH (HN.out f (List.mem_of_getElem? hff))
  have HT1 := zH (half1_snoc (fs.take j) f)
  have HT2 := zH (half2_snoc (fs.take j) f)
  have HTS := zH (take_snoc hff)
  have HL1 := zH (Nat.lt_trans (half1_lt (fs := fs.take j) (fun f hf => HN.out f (List.mem_of_mem_take hf))) (by decide : 2 ^ 63 < 2 ^ 64))
  have HL2 := zH (half2_lt (fs := fs.take j) (fun f hf => HN.out f (List.mem_of_mem_take hf)))
  obtain ⟨no, hno⟩ : ∃ no : Nat, f.1 = (no : Int) := ⟨f.1.toNat, by have := HFN.out; omega⟩
  have HNO := zH hno
  clear hlt hff hrow hno
  go_upto_region 4 with fail
  refine wp_region_lit ?_
  refine wR (v := .pointer (some ⟨bF, oF + j * 2, none⟩)) rfl (gx_iaddr (i := j) (sz := 2) rfl rfl rfl Tryz.underlying22 size_field HLT.out (by omega)) ?_
  simp only [zz]
  refine wR (v := .agg (fldA f)) rfl (gx_loads rfl rfl HRR.out Tryz.underlying40 rfl (by rw [size_field]; rfl)) ?_
  simp only [zz]
  refine wR (v := .pointer (some ⟨wr.heap.size, 0, none⟩)) (w' := wr.alloc (.cells #[.int .i64 0, strV []] 40)) rfl (gx_alloc rfl (zero_field _)) ?_
  simp only [zz]
  have hb7 := Blk.new wr 40 #[.int .i64 0, strV []]
  have hu7 := HTR.out.alloc (.cells #[.int .i64 0, strV []] 40)
  obtain ⟨g7, hg7⟩ : ∃ g7, g7 = wr.heap.size := ⟨_, rfl⟩
  rw [← hg7] at hb7 ⊢
  have HG7 := zH (show w.heap.size ≤ g7 from by rw [hg7]; exact HTR.out.size)
  clear hg7
  generalize wr.alloc (.cells #[.int .i64 0, strV []] 40) = w2 at *
  refine wpList_store_row rfl 40 (.tmp 6) (.tmp 12) rfl (fldA f) hb7 rfl rfl rfl (by rw [size_field]; rfl) (fldA_one f) ?_
  intro w3 hb3 hu3
  have HB7 := zH hb3
  have HU3 := zH (hu7.trans hu3 (fun k hk e => by
   have := HG7.out
   have e : k = g7 := e
   omega))
  clear hb7 hu7 hb3 hu3 HRR
  simp only [zz]
  have c0 : w3.cell? ⟨g7, 0, none⟩ = some (.int .i64 (no : Int)) := by
   have := HB7.out.cell 0
   rw [this]
   show some (Value.int .i64 f.1) = _
   rw [HNO.out]
  generalize hq1 : half1 (fs.take j) = q1 at *
  generalize hq2 : half2 (fs.take j) = q2 at *
  have HQ1 := zH hq1
  have HQ2 := zH hq2
  clear hq1 hq2
  go_upto_region 5 with fail
  refine wp_region_lit ?_
  refine wR (v := .pointer (some ⟨g7, 0, none⟩)) rfl (exec_field (off := 0) (d := 0) rfl rfl (by kernel_rfl)) ?_
  simp only [zz]
  refine wR (v := .int .i64 (no : Int)) rfl (exec_load1 rfl rfl (by kernel_rfl) c0) ?_
  simp only [zz]
  by_cases h64 : no ≤ 64
  ·have H64 := zH h64
   refine wR (v := .bool true) rfl (ix_leq rfl rfl rfl (decide_eq_true (by omega))) ?_
   simp only [zz]
   clear h64
   go_upto_region 6 with fail
   refine wp_region_lit ?_
   refine wM (.int .u64 (q1 : Int)) ?_
   simp only [zz]
   refine wR (v := .pointer (some ⟨g7, 0, none⟩)) rfl (exec_field (off := 0) (d := 0) rfl rfl (by kernel_rfl)) ?_
   simp only [zz]
   refine wR (v := .int .i64 (no : Int)) rfl (exec_load1 rfl rfl (by kernel_rfl) c0) ?_
   simp only [zz]
   go_wp2_with (first
    | (go_at_call 83; refine (bit_walk (n := no) (by have := H64.out; have := HFN.out; have := HNO.out; omega)).mono ?_; rintro e w4 ⟨rfl, rfl⟩)
    | (refine wR (v := .int .u64 ((q1 ||| 2 ^ (64 - no) : Nat) : Int)) rfl (ux_or rfl rfl rfl HL1.out (pow_lt64 (by have := HFN.out; have := HNO.out; omega)) rfl) ?_))
   go_roundg (gk - 1)
   case measure => have := HJL.out; have := HLT.out; omega
   case rel => exact ⟨j + 1, by have := HJL.out; have := HLT.out; omega, by go_num, by rw [HTS.out, HT1.out, if_pos (by have := H64.out; have := HNO.out; omega), HNO.out]; rfl, by rw [HTS.out, HT2.out, if_pos (by have := H64.out; have := HNO.out; omega)], HU3.out⟩
  ·have H64 := zH h64
   refine wR (v := .bool false) rfl (ix_leq rfl rfl rfl (decide_eq_false (by omega))) ?_
   simp only [zz]
   clear h64
   go_upto_region 7 with fail
   refine wp_region_lit ?_
   refine wM (.int .u64 (q2 : Int)) ?_
   simp only [zz]
   refine wR (v := .pointer (some ⟨g7, 0, none⟩)) rfl (exec_field (off := 0) (d := 0) rfl rfl (by kernel_rfl)) ?_
   simp only [zz]
   refine wR (v := .int .i64 (no : Int)) rfl (exec_load1 rfl rfl (by kernel_rfl) c0) ?_
   simp only [zz]
   refine wR (v := .int .i64 ((no - 64 : Nat) : Int)) rfl (ix_sub rfl rfl rfl (by have := H64.out; omega) (by have := HFN.out; have := HNO.out; omega)) ?_
   simp only [zz]
   go_wp2_with (first
    | (go_at_call 83; refine (bit_walk (n := no - 64) (by have := H64.out; have := HFN.out; have := HNO.out; omega)).mono ?_; rintro e w4 ⟨rfl, rfl⟩)
    | (refine wR (v := .int .u64 ((q2 ||| 2 ^ (64 - (no - 64)) : Nat) : Int)) rfl (ux_or rfl rfl rfl HL2.out (pow_lt64 (by have := H64.out; omega)) rfl) ?_))
   go_roundg (gk - 1)
   case measure => have := HJL.out; have := HLT.out; omega
   case rel => exact ⟨j + 1, by have := HJL.out; have := HLT.out; omega, by go_num, by rw [HTS.out, HT1.out, if_neg (by have := H64.out; have := HNO.out; omega)], by rw [HTS.out, HT2.out, if_neg (by have := H64.out; have := HNO.out; omega), HNO.out, show 64 - (no - 64) = 128 - ((no : Int)).toNat from by have := H64.out; have := HFN.out; have := HNO.out; omega], HU3.out⟩
 ·have y1 : ¬ ((j : Int) < (n : Int)) := by omega
  have HE := zH (show fs.take j = fs from List.take_of_length_le (by rw [HNL.out]; omega))
  have HL1 := zH (half1_lt HN.out)
  have HL2 := zH (half2_lt HN.out)
  clear hlt y9
  rw [HE.out]
  obtain ⟨q1, hq1⟩ : ∃ q1, q1 = half1 fs := ⟨_, rfl⟩
  obtain ⟨q2, hq2⟩ : ∃ q2, q2 = half2 fs := ⟨_, rfl⟩
  rw [← hq1, ← hq2]
  rw [← hq1] at HL1
  rw [← hq2] at HL2
  have HB1 := zH (bitsText_walk (w := wr) (Nat.lt_trans HL1.out (by decide : 2 ^ 63 < 2 ^ 64)) (HZ.out.turn HTR.out))
  by_cases h0 : q2 = 0
  ·have HH := zH (show halves fs = [hexk 16 q1] from by
    unfold halves
    rw [← hq2, h0, if_pos rfl, ← hq1])
   have y2 : (q2 : Int) = 0 := by omega
   clear hq1 hq2 h0
   obtain ⟨x1, hx1⟩ : ∃ x1, x1 = hexk 16 q1 := ⟨_, rfl⟩
   rw [← hx1] at HB1 HH
   clear hx1
   go_upto_region 10 with fail
   refine wp_region_lit ?_
   refine wM (.int .u64 (q1 : Int)) ?_
   simp only [zz]
   refine wpList_op rfl fun K9 HK9 => ?_
   go_wp2_with fail
   refine (HB1.out).mono ?_
   rintro e w4 ⟨rfl, ht4⟩
   refine HK9.out _ _ ?_
   clear HK9
   try simp only [zz]
   refine wR (v := .slice (some ⟨w4.heap.size, 0, none⟩) 1 1) (w' := w4.alloc (.cells #[strV x1] 9)) rfl (exec_buildSlice1 rfl rfl (build_s1 _ _)) ?_
   simp only [zz]
   go_wp2_with fail
   go_ret
   rw [HH.out]
   exact ⟨_, _, rfl, ⟨_, _, Blk.new _ _ _, fun i s h => by
    match i, h with
    | 0, h => injection h with h; subst h; rfl
    | i + 1, h => simp at h⟩, (HTR.out.next ht4).alloc _⟩
  ·have HH := zH (show halves fs = [hexk 16 (q1 ||| 2 ^ 63), hexk 16 q2] from by
    unfold halves
    rw [← hq2, if_neg h0, ← hq1])
   have y2 : ¬ ((q2 : Int) = 0) := by omega
   have HO := zH (or_top HL1.out).2.2
   clear hq1 hq2 h0
   obtain ⟨qo, hqo⟩ : ∃ qo, qo = q1 ||| 2 ^ 63 := ⟨_, rfl⟩
   have HQO := zH hqo
   rw [← hqo] at HH HO
   have HBT := zH (bitsText_walk (w := wr) HO.out (HZ.out.turn HTR.out))
   have HBU := zH (fun W (ht : Turn nowhere w W) => bitsText_walk (w := W) HL2.out (HZ.out.turn ht))
   obtain ⟨x1, hx1⟩ : ∃ x1, x1 = hexk 16 qo := ⟨_, rfl⟩
   obtain ⟨x2, hx2⟩ : ∃ x2, x2 = hexk 16 q2 := ⟨_, rfl⟩
   rw [← hx1] at HBT HH
   rw [← hx2] at HBU HH
   clear hqo hx1 hx2 HB1
   go_upto_region 11 with fail
   refine wp_region_lit ?_
   refine wM (.int .u64 (q1 : Int)) ?_
   simp only [zz]
   refine wpList_op rfl fun K9 HK9 => ?_
   go_wp2_with fail
   refine (bit_walk (n := 1) (by decide)).mono ?_
   rintro e w4 ⟨rfl, rfl⟩
   refine HK9.out _ _ ?_
   clear HK9
   try simp only [zz]
   refine wR (v := .int .u64 (qo : Int)) rfl (ux_or (m := 2 ^ 63) rfl rfl rfl (Nat.lt_trans HL1.out (by decide : 2 ^ 63 < 2 ^ 64)) (by decide) HQO.out.symm) ?_
   simp only [zz]
   refine wpList_op rfl fun K9 HK9 => ?_
   go_wp2_with fail
   refine (HBT.out).mono ?_
   rintro e w5 ⟨rfl, ht5⟩
   refine HK9.out _ _ ?_
   clear HK9
   try simp only [zz]
   refine wM (.int .u64 (q2 : Int)) ?_
   simp only [zz]
   refine wpList_op rfl fun K9 HK9 => ?_
   go_wp2_with fail
   refine (HBU.out _ (HTR.out.next ht5)).mono ?_
   rintro e w6 ⟨rfl, ht6⟩
   refine HK9.out _ _ ?_
   clear HK9
   try simp only [zz]
   refine wR (v := .slice (some ⟨w6.heap.size, 0, none⟩) 2 2) (w' := w6.alloc (.cells #[strV x1, strV x2] 9)) rfl (exec_buildSlice2 rfl rfl rfl (build_s2 _ _ _)) ?_
   simp only [zz]
   go_wp2_with fail
   go_ret
   rw [HH.out]
   exact ⟨_, _, rfl, ⟨_, _, Blk.new _ _ _, fun i s h => by
    match i, h with
    | 0, h => injection h with h; subst h; rfl
    | 1, h => injection h with h; subst h; rfl
    | i + 2, h => simp at h⟩, ((HTR.out.next ht5).next ht6).alloc _⟩
def badV (s : Sents) (no k : Int) : Value := if k = 52 then feV no s.field else if k = 41 then feV no s.text else .nilIface
def checkFsV (s : Sents) : Int → List Fld → Value
 | _, [] => .nilIface
 | last, f :: r => if fieldBad last f = 0 then checkFsV s f.1 r else badV s f.1 (fieldBad last f)
def checkV (s : Sents) (ty : Int) (fs : List Fld) : Value := if mtypes.contains ty = false then errS s.type_ else if 24 < fs.length then errS s.long else checkFsV s 0 fs
theorem bad_cases (last : Int) (f : Fld) : fieldBad last f = 0 ∨ fieldBad last f = 52 ∨ fieldBad last f = 41 := by
 unfold fieldBad
 split
 ·exact .inr (.inl rfl)
 ·split
  ·exact .inr (.inl rfl)
  ·split
   ·exact .inl rfl
   ·exact .inr (.inr rfl)
theorem checkFsV_ok (s : Sents) : ∀ (fs : List Fld) (last : Int), ErrV s (checkFsV s last fs) (checkFs last fs)
 | [], last => ErrV.nil
 | f :: r, last => by
   unfold checkFsV checkFs
   rcases bad_cases last f with h | h | h
   ·rw [if_pos h, if_pos h]
    exact checkFsV_ok s r f.1
   ·rw [if_neg (by omega), if_neg (by omega), h]
    exact ErrV.field f.1
   ·rw [if_neg (by omega), if_neg (by omega), h]
    exact ErrV.text f.1
theorem checkV_ok (s : Sents) (ty : Int) (fs : List Fld) : ErrV s (checkV s ty fs) (mcheck ty fs) := by
 unfold checkV mcheck
 split
 ·exact ErrV.type_
 ·split
  ·exact ErrV.long
  ·exact checkFsV_ok s fs 0
theorem check_at {s : Sents} {fs : List Fld} {last : Int} {j : Nat} {f : Fld} (hf : fs[j]? = some f) (h : checkFsV s last (fs.drop j) = checkFsV s 0 fs) : (fieldBad last f = 0 → checkFsV s f.1 (fs.drop (j + 1)) = checkFsV s 0 fs) ∧ (fieldBad last f ≠ 0 → checkFsV s 0 fs = badV s f.1 (fieldBad last f)) := by
 obtain ⟨hj, hfj⟩ := List.getElem?_eq_some_iff.1 hf
 have hd : fs.drop j = f :: fs.drop (j + 1) := by rw [← hfj]; exact List.drop_eq_getElem_cons hj
 have he : checkFsV s last (f :: fs.drop (j + 1)) = if fieldBad last f = 0 then checkFsV s f.1 (fs.drop (j + 1)) else badV s f.1 (fieldBad last f) := rfl
 rw [hd, he] at h
 refine ⟨fun h0 => ?_, fun h0 => ?_⟩
 ·rw [if_pos h0] at h
  exact h
 ·rw [if_neg h0] at h
  exact h.symm
def msgV (ty : Int) (A : Option Addr) (n c : Nat) : Value := .agg #[.int .i64 ty, .slice A n c]
theorem mzero_form (w : World) : (zeroValue 49).run Tryz.prog w = .ok (.agg #[.int .i64 0, .int .i64 0, .int .i64 0]) w := by kernel_rfl
theorem check_walk2 {s : Sents} {w : World} {ty : Int} {A : Option Addr} {n c : Nat} {fs : List Fld} (ht : Tab w) (hs : Sen s w) (hr : RowsT w) (hf : Fl w A n fs) :
 Calls Tryz.prog 25 #[msgV ty A n c] w fun e w' => e = .returned (checkV s ty fs) ∧ Turn nowhere w w' := by
 have hu := (Turn.refl nowhere w).alloc (.cells #[.int .i64 ty, .slice A n c] 24)
 have hb := Blk.new w 24 #[.int .i64 ty, .slice A n c]
 obtain ⟨b0, hb0⟩ : ∃ b0, b0 = w.heap.size := ⟨_, rfl⟩
 obtain ⟨w1, hw1⟩ : ∃ w1, w1 = w.alloc (.cells #[.int .i64 ty, .slice A n c] 24) := ⟨_, rfl⟩
 rw [← hw1] at hu hb
 rw [← hb0] at hb
 have HT := zH (ht.turn hu)
 have HS := zH (hs.turn hu)
 have HR := zH (hr.turn hu)
 have HF := zH (hf.still hu)
 have HU := zH hu
 have HB := zH hb
 have HW := zH hw1
 have HB0 := zH hb0
 have HNL : Hid (fs.length = n) := zH hf.1
 have HNM : Hid (n ≤ 140737488355328) := zH hf.2.1
 have y9 : (n : Int) ≤ 140737488355328 := by
  have := HNM.out
  omega
 clear ht hs hr hf hu hb hw1 hb0
 unfold msgV
 go_enter Tryz.func25, Tryz.ntmps25
 go_upto_region 1 with fail
 have e1 := HW.out
 have e2 := HB0.out
 rw [← e1, ← e2]
 clear e1 e2 HW HB0
 have c0 : w1.cell? ⟨b0, 0, none⟩ = some (.int .i64 ty) := HB.out.cell 0
 have c1 : w1.cell? ⟨b0, 1, none⟩ = some (.slice A n c) := HB.out.cell 1
 have g2 : w1.cell? ⟨1, 0, none⟩ = some (errS s.type_) := HS.out.type_.1
 have g3 : w1.cell? ⟨2, 0, none⟩ = some (errS s.long) := HS.out.long.1
 cases hty : mtypes.contains ty with
 | false =>
   have HC := zH (show checkV s ty fs = errS s.type_ from by unfold checkV; rw [if_pos hty])
   have hi := isType_walk (w := w1) (n := ty)
   rw [hty] at hi
   have HI := zH hi
   clear hi hty
   go_upto_region 2 with (go_at_call 45; refine HI.out.mono ?_; rintro e w2 ⟨rfl, rfl⟩)
   go_wp2_with fail
   go_ret
   rw [HC.out]
   exact ⟨rfl, HU.out⟩
 | true =>
   have hi := isType_walk (w := w1) (n := ty)
   rw [hty] at hi
   have HI := zH hi
   have HTY := zH hty
   clear hi hty
   go_upto_region 3 with (go_at_call 45; refine HI.out.mono ?_; rintro e w1 ⟨rfl, rfl⟩)
   by_cases h24 : 24 < n
   ·have HC := zH (show checkV s ty fs = errS s.long from by unfold checkV; rw [if_neg (by rw [HTY.out]; decide), if_pos (by rw [HNL.out]; exact h24)])
    have y1 : (24 : Int) < (n : Int) := by omega
    go_wp2_with fail
    go_ret
    rw [HC.out]
    exact ⟨rfl, HU.out⟩
   ·have HC := zH (show checkV s ty fs = checkFsV s 0 fs from by unfold checkV; rw [if_neg (by rw [HTY.out]; decide), if_neg (by rw [HNL.out]; exact h24)])
    have y1 : ¬ ((24 : Int) < (n : Int)) := by omega
    clear h24 g2 g3
    go_wp2_with fail
    clear c0 c1
    go_loopg [3, 22] n (fun gk lv jv wr => ∃ (j : Nat) (last : Int), j + gk = n ∧ jv = .int .i64 (j : Int) ∧ lv = .int .i64 last ∧ checkFsV s last (fs.drop j) = checkFsV s 0 fs ∧ Turn nowhere w1 wr)
    case atStart => exact ⟨0, 0, by omega, rfl, rfl, rfl, Turn.refl _ _⟩
    obtain ⟨j, last, hjl, rfl, rfl, hck, htr⟩ := hrel
    have HJL := zH hjl
    have HCK := zH hck
    have HTR := zH htr
    clear hjl hck htr
    by_cases hlt : j < n
    ·have y1 : (j : Int) < (n : Int) := by omega
     have HLT := zH hlt
     obtain ⟨f, hff⟩ : ∃ f, fs[j]? = some f := ⟨_, List.getElem?_eq_getElem (show j < fs.length from by rw [HNL.out]; exact hlt)⟩
     obtain ⟨bF, oF, rfl, hrow⟩ := HF.out.2.2 (by omega)
     have HRR := zH (show wr.rangeAt bF (oF + j * 2) (fldA f).toList from fun i v hv => (HTR.out.cell (World.block_lt_of_cell? _ _ (hrow j f hff i v hv)) (fun e => e)).trans (hrow j f hff i v hv))
     have HAT := zH (check_at hff HCK.out)
     clear hlt hff hrow
     go_upto_region 8 with fail
     refine wp_region_lit ?_
     refine wR (v := .pointer (some ⟨bF, oF + j * 2, none⟩)) rfl (gx_iaddr (i := j) (sz := 2) rfl rfl rfl Tryz.underlying22 size_field HLT.out (by omega)) ?_
     simp only [zz]
     refine wR (v := .agg (fldA f)) rfl (gx_loads rfl rfl HRR.out Tryz.underlying40 rfl (by rw [size_field]; rfl)) ?_
     simp only [zz]
     refine wR (v := .pointer (some ⟨wr.heap.size, 0, none⟩)) (w' := wr.alloc (.cells #[.int .i64 0, strV []] 40)) rfl (gx_alloc rfl (zero_field _)) ?_
     simp only [zz]
     have hb7 := Blk.new wr 40 #[.int .i64 0, strV []]
     have hu7 := HTR.out.alloc (.cells #[.int .i64 0, strV []] 40)
     obtain ⟨g7, hg7⟩ : ∃ g7, g7 = wr.heap.size := ⟨_, rfl⟩
     rw [← hg7] at hb7 ⊢
     have HG7 := zH (show w1.heap.size ≤ g7 from by rw [hg7]; exact HTR.out.size)
     clear hg7
     generalize wr.alloc (.cells #[.int .i64 0, strV []] 40) = w2 at *
     refine wpList_store_row rfl 40 (.tmp 5) (.tmp 25) rfl (fldA f) hb7 rfl rfl rfl (by rw [size_field]; rfl) (fldA_one f) ?_
     intro w3 hb3 hu3
     have HB7 := zH hb3
     have HU3 := zH (hu7.trans hu3 (fun k hk e => by
      have := HG7.out
      have e : k = g7 := e
      omega))
     clear hb7 hu7 hb3 hu3 HRR
     simp only [zz]
     have d0 : w3.cell? ⟨g7, 0, none⟩ = some (.int .i64 f.1) := HB7.out.cell 0
     have HTG := zH (tong_range (HT.out.turn HU3.out) (d := 1) (by decide))
     go_upto_region 9 with fail
     refine wp_region_lit ?_
     refine wR (v := .pointer (some ⟨5, 1 * 3, none⟩)) rfl (gx_aaddr (i := 1) (off := 0) rfl rfl rfl Tryz.underlying86 size_tongue (by omega) (by omega)) ?_
     simp only [zz]
     refine wR (v := tongV 1) rfl (gx_loads rfl rfl HTG.out Tryz.underlying70 rfl (by rw [size_tongue]; rfl)) ?_
     simp only [zz]
     refine wR (v := .pointer (some ⟨g7, 0, none⟩)) rfl (exec_field (off := 0) (d := 0) rfl rfl (by kernel_rfl)) ?_
     simp only [zz]
     refine wR (v := .int .i64 f.1) rfl (exec_load1 rfl rfl (by kernel_rfl) d0) ?_
     simp only [zz]
     refine wpList_op rfl fun K9 HK9 => ?_
     go_wp2_with fail
     refine (form_walk (s := s) (d := 1) (HT.out.turn HU3.out) (HS.out.turn HU3.out)).mono ?_
     rintro e w4 ⟨rfl, ht4⟩
     refine HK9.out _ _ ?_
     clear HK9
     try simp only [zz]
     have HU4 := zH (HU3.out.next ht4)
     have HB4 := zH (HB7.out.turn ht4 (fun e => e))
     clear ht4 HU3 HB7 d0 HTG
     cases hm : mform 1 f.1 with
     | none =>
       have hfr : formR s 1 f.1 = .tuple #[.agg #[.int .i64 0, .int .i64 0, .int .i64 0], feV f.1 s.field] := by unfold formR; rw [hm]; rfl
       have HBD := zH (show fieldBad last f = 52 from by unfold fieldBad; rw [hm])
       rw [hfr]
       clear hfr hm
       refine wM (.tuple #[.agg #[.int .i64 0, .int .i64 0, .int .i64 0], feV f.1 s.field]) ?_
       simp only [zz]
       refine wE (.agg #[.int .i64 0, .int .i64 0, .int .i64 0]) ?_
       simp only [zz]
       refine wE (feV f.1 s.field) ?_
       simp only [zz]
       refine wR (v := .pointer (some ⟨w4.heap.size, 0, none⟩)) (w' := w4.alloc (.cells #[.int .i64 0, .int .i64 0, .int .i64 0] 49)) rfl (gx_alloc rfl (mzero_form _)) ?_
       simp only [zz]
       have hb8 := Blk.new w4 49 #[.int .i64 0, .int .i64 0, .int .i64 0]
       have hu8 := HU4.out.alloc (.cells #[.int .i64 0, .int .i64 0, .int .i64 0] 49)
       have hb78 := HB4.out.alloc (.cells #[.int .i64 0, .int .i64 0, .int .i64 0] 49)
       obtain ⟨g8, hg8⟩ : ∃ g8, g8 = w4.heap.size := ⟨_, rfl⟩
       rw [← hg8] at hb8 ⊢
       have HG8 := zH (show w1.heap.size ≤ g8 from by rw [hg8]; exact HU4.out.size)
       have HN8 := zH (show g7 ≠ g8 from by have := HB4.out.lt; omega)
       clear hg8
       generalize w4.alloc (.cells #[.int .i64 0, .int .i64 0, .int .i64 0] 49) = w5 at *
       refine wpList_store_row rfl 49 (.tmp 6) (.tmp 32) rfl #[.int .i64 0, .int .i64 0, .int .i64 0] hb8 rfl rfl rfl (by rw [size_form]; rfl) (fm3_one _ _ _) ?_
       intro w6 hb6 hu6
       have HB8 := zH hb6
       have HB7 := zH (hb78.turn hu6 (fun e => HN8.out e))
       have HU6 := zH (hu8.trans hu6 (fun k hk e => by
        have := HG8.out
        have e : k = g8 := e
        omega))
       clear hb8 hu8 hb78 hb6 hu6 HB4 HU4
       simp only [zz]
       unfold feV
       go_wp2_with fail
       go_ret
       rw [HC.out, HAT.out.2 (by rw [HBD.out]; decide), HBD.out]
       exact ⟨rfl, HU.out.next HU6.out⟩
     | some m =>
       have hfr : formR s 1 f.1 = .tuple #[fmV m, .nilIface] := by unfold formR; rw [hm]
       rw [hfr]
       clear hfr
       have HM := zH hm
       clear hm
       refine wM (.tuple #[fmV m, .nilIface]) ?_
       simp only [zz]
       refine wE (fmV m) ?_
       simp only [zz]
       refine wE .nilIface ?_
       simp only [zz]
       refine wR (v := .pointer (some ⟨w4.heap.size, 0, none⟩)) (w' := w4.alloc (.cells #[.int .i64 0, .int .i64 0, .int .i64 0] 49)) rfl (gx_alloc rfl (mzero_form _)) ?_
       simp only [zz]
       have hb8 := Blk.new w4 49 #[.int .i64 0, .int .i64 0, .int .i64 0]
       have hu8 := HU4.out.alloc (.cells #[.int .i64 0, .int .i64 0, .int .i64 0] 49)
       have hb78 := HB4.out.alloc (.cells #[.int .i64 0, .int .i64 0, .int .i64 0] 49)
       obtain ⟨g8, hg8⟩ : ∃ g8, g8 = w4.heap.size := ⟨_, rfl⟩
       rw [← hg8] at hb8 ⊢
       have HG8 := zH (show w1.heap.size ≤ g8 from by rw [hg8]; exact HU4.out.size)
       have HN8 := zH (show g7 ≠ g8 from by have := HB4.out.lt; omega)
       clear hg8
       generalize w4.alloc (.cells #[.int .i64 0, .int .i64 0, .int .i64 0] 49) = w5 at *
       refine wpList_store_row rfl 49 (.tmp 6) (.tmp 32) rfl #[.int .i64 m.kind, .int .i64 m.size, .int .i64 m.code] hb8 rfl rfl rfl (by rw [size_form]; rfl) (fm3_one _ _ _) ?_
       intro w6 hb6 hu6
       have HB8 := zH hb6
       have HB7 := zH (hb78.turn hu6 (fun e => HN8.out e))
       have HU6 := zH (hu8.trans hu6 (fun k hk e => by
        have := HG8.out
        have e : k = g8 := e
        omega))
       clear hb8 hu8 hb78 hb6 hu6 HB4 HU4
       simp only [zz]
       have d0 : w6.cell? ⟨g7, 0, none⟩ = some (.int .i64 f.1) := HB7.out.cell 0
       go_upto_region 12 with fail
       refine wp_region_lit ?_
       refine wR (v := .pointer (some ⟨g7, 0, none⟩)) rfl (exec_field (off := 0) (d := 0) rfl rfl (by kernel_rfl)) ?_
       simp only [zz]
       refine wR (v := .int .i64 f.1) rfl (exec_load1 rfl rfl (by kernel_rfl) d0) ?_
       simp only [zz]
       refine wM (.int .i64 last) ?_
       simp only [zz]
       by_cases hle : f.1 ≤ last
       ·have HBD := zH (show fieldBad last f = 52 from by unfold fieldBad; rw [HM.out]; exact if_pos hle)
        refine wR (v := .bool true) rfl (ix_leq rfl rfl rfl (decide_eq_true hle)) ?_
        simp only [zz]
        clear hle
        have g7c : w6.cell? ⟨6, 0, none⟩ = some (errS s.field) := (HS.out.turn HU6.out).field.1
        have bf := build_fe f.1 (.pointer (some s.field)) w6
        unfold errS at g7c
        go_wp2_with fail
        go_ret
        rw [HC.out, HAT.out.2 (by rw [HBD.out]; decide), HBD.out]
        exact ⟨rfl, HU.out.next HU6.out⟩
       ·have HLE := zH hle
        refine wR (v := .bool false) rfl (ix_leq rfl rfl rfl (decide_eq_false hle)) ?_
        simp only [zz]
        clear hle
        have d1 : w6.cell? ⟨g7, 1, none⟩ = some (strV f.2) := HB7.out.cell 1
        have HBD : Hid (fieldBad last f = if m.check f.2 = 0 then 0 else 41) := zH (by
         unfold fieldBad
         rw [HM.out]
         exact if_neg HLE.out)
        have HCW := zH (check_walk (f := m) (t := f.2) (HR.out.turn HU6.out))
        obtain ⟨k, hk⟩ : ∃ k, k = m.check f.2 := ⟨_, rfl⟩
        rw [← hk] at HBD HCW
        have HK := zH hk
        clear hk
        go_upto_region 14 with fail
        refine wp_region_lit ?_
        refine wR (v := fmV m) rfl (gx_loads rfl rfl (blk_range HB8.out) Tryz.underlying49 rfl (by rw [size_form]; rfl)) ?_
        simp only [zz]
        refine wR (v := .pointer (some ⟨g7, 1, none⟩)) rfl (exec_field (off := 0) (d := 1) rfl rfl (by kernel_rfl)) ?_
        simp only [zz]
        refine wR (v := strV f.2) rfl (exec_load1 rfl rfl (by kernel_rfl) d1) ?_
        simp only [zz]
        refine wpList_op rfl fun K9 HK9 => ?_
        go_wp2_with fail
        refine (HCW.out).mono ?_
        rintro e w7 ⟨rfl, ht7⟩
        refine HK9.out _ _ ?_
        clear HK9
        try simp only [zz]
        have HU7 := zH (HU6.out.next ht7)
        have d2 : w7.cell? ⟨g7, 0, none⟩ = some (.int .i64 f.1) := (HB7.out.turn ht7 (fun e => e)).cell 0
        clear ht7 d0 d1 HU6
        by_cases hk0 : k = 0
        ·subst hk0
         have HB0 := zH (show fieldBad last f = 0 from by rw [HBD.out]; rfl)
         go_wp2_with fail
         go_roundg (gk - 1)
         case measure => have := HJL.out; have := HLT.out; omega
         case rel => exact ⟨j + 1, f.1, by have := HJL.out; have := HLT.out; omega, by go_num, rfl, HAT.out.1 HB0.out, HU7.out⟩
        ·have HK41 := zH (show k = 41 from by
          have h1 := HK.out
          unfold Fm.check at h1
          obtain ⟨k1, s1, rfl, hk1, hs1, _⟩ := form_nf HM.out
          rw [if_pos (may_nf hk1 (by decide) hs1)] at h1
          split at h1
          ·exact absurd h1 hk0
          ·exact h1)
         have HB1 := zH (show fieldBad last f = 41 from by rw [HBD.out, if_neg hk0])
         have y2 : k = 41 := HK41.out
         subst y2
         clear hk0
         go_wp2_with (go_at_call 47; refine (wrap_walk (HS.out.turn HU7.out)).mono ?_; rintro e w8 ⟨rfl, rfl⟩)
         go_ret
         rw [HC.out, HAT.out.2 (by rw [HB1.out]; decide), HB1.out]
         exact ⟨rfl, HU.out.next HU7.out⟩
    ·have y1 : ¬ ((j : Int) < (n : Int)) := by omega
     have HE := zH (show checkFsV s 0 fs = .nilIface from by
      have h := HCK.out
      rw [List.drop_eq_nil_iff.2 (by rw [HNL.out]; omega)] at h
      exact h.symm)
     clear hlt
     go_wp2_with fail
     go_ret
     rw [HC.out, HE.out]
     exact ⟨rfl, HU.out.next HTR.out⟩
theorem typeForm_walk {w : World} {d : Nat} : Calls Tryz.prog 59 #[tongV d] w fun e w' => e = .returned (fmV (typeFm d)) ∧ Turn nowhere w w' := by
 obtain ⟨v0, hv0⟩ := ver_one d
 have HV := zH (show (ver d).length = 1 from by rw [hv0]; rfl)
 clear hv0
 have hW : ∃ w1 b0 bt, w1 = (w.alloc (.cells (tongA d) 70)).alloc (.cells #[.int .i64 0, .int .i64 0, .int .i64 0] 49) ∧ bt = w.heap.size ∧ b0 = w.heap.size + 1 := ⟨_, _, _, rfl, rfl, rfl⟩
 obtain ⟨w1, b0, bt, hw1, hbt, hb0⟩ := hW
 have hU : Turn nowhere w w1 := by rw [hw1]; exact ((Turn.refl nowhere w).alloc _).alloc _
 have hBt : Blk w1 bt 70 (tongA d) := by rw [hw1, hbt]; exact (Blk.new w _ _).alloc _
 have hB0 : Blk w1 b0 49 #[.int .i64 0, .int .i64 0, .int .i64 0] := by
  rw [hw1, hb0]
  have := Blk.new (w.alloc (.cells (tongA d) 70)) 49 #[.int .i64 0, .int .i64 0, .int .i64 0]
  simpa using this
 have HG := zH hbt
 have HG0 := zH hb0
 have HU := zH hU
 have HBT := zH hBt
 have HB0 := zH hB0
 have HW := zH hw1
 clear hU hBt hB0 hw1 hbt hb0
 go_enter Tryz.func59, Tryz.ntmps59
 go_upto_region 1 with fail
 have e0 := HG0.out
 have e1 := HG.out
 have e2 := HW.out
 change Code.wp _ _ _ _ ((w.alloc (.cells (tongA d) 70)).alloc (.cells #[.int .i64 0, .int .i64 0, .int .i64 0] 49))
 rw [← e2, ← e0, ← e1]
 clear e0 e1 e2 HW
 have c0 : w1.cell? ⟨bt, 0, none⟩ = some (.int .i64 (d : Int)) := HBT.out.cell 0
 have c1 : w1.cell? ⟨bt, 1, none⟩ = some (strV (ver d)) := HBT.out.cell 1
 refine wp_region_lit ?_
 refine wR (v := .pointer (some ⟨bt, 1, none⟩)) rfl (exec_field (off := 0) (d := 1) rfl rfl (by kernel_rfl)) ?_
 simp only [zz]
 refine wR (v := strV (ver d)) rfl (exec_load1 rfl rfl (by kernel_rfl) c1) ?_
 simp only [zz]
 refine wR (v := .int .i64 ((ver d).length : Int)) rfl (exec_slen rfl rfl) ?_
 simp only [zz]
 refine wR (v := .int .i64 4) rfl (ix_add rfl rfl rfl (by rw [HV.out]; rfl) (by omega)) ?_
 simp only [zz]
 refine wR (v := .pointer (some ⟨bt, 0, none⟩)) rfl (exec_field (off := 0) (d := 0) rfl rfl (by kernel_rfl)) ?_
 simp only [zz]
 refine wR (v := .int .i64 (d : Int)) rfl (exec_load1 rfl rfl (by kernel_rfl) c0) ?_
 simp only [zz]
 refine wR (v := .agg #[.int .i64 1, .int .i64 4, .int .i64 (d : Int)]) rfl (exec_build3 rfl rfl rfl rfl (build_any _ _ _ _)) ?_
 simp only [zz]
 refine wpList_store_row rfl 49 (.tmp 2) (.tmp 9) rfl #[.int .i64 1, .int .i64 4, .int .i64 (d : Int)] HB0.out rfl rfl rfl (by rw [size_form]; rfl) (fm3_one _ _ _) ?_
 intro w2 hB2 hU2
 have HB2 := zH hB2
 have HU2 := zH (HU.out.trans hU2 (fun k hk e => by
  have := HG0.out
  have e : k = b0 := e
  omega))
 clear hB2 hU2 c0 c1
 simp only [zz]
 go_wp2_with fail
 refine bodyPost_ret (v := fmV (typeFm d)) (results_cell_row rfl _ _ b0 _ _ _ _ rfl HB2.out Tryz.underlying49 rfl (by rw [size_form]; rfl)) rfl ?_
 exact ⟨rfl, HU2.out⟩
theorem mapForm_walk {w : World} {d : Nat} : Calls Tryz.prog 61 #[tongV d] w fun e w' => e = .returned (fmV (mapFm d)) ∧ Turn nowhere w w' := by
 have hW : ∃ w1 b0 bt, w1 = (w.alloc (.cells (tongA d) 70)).alloc (.cells #[.int .i64 0, .int .i64 0, .int .i64 0] 49) ∧ bt = w.heap.size ∧ b0 = w.heap.size + 1 := ⟨_, _, _, rfl, rfl, rfl⟩
 obtain ⟨w1, b0, bt, hw1, hbt, hb0⟩ := hW
 have hU : Turn nowhere w w1 := by rw [hw1]; exact ((Turn.refl nowhere w).alloc _).alloc _
 have hBt : Blk w1 bt 70 (tongA d) := by rw [hw1, hbt]; exact (Blk.new w _ _).alloc _
 have hB0 : Blk w1 b0 49 #[.int .i64 0, .int .i64 0, .int .i64 0] := by
  rw [hw1, hb0]
  have := Blk.new (w.alloc (.cells (tongA d) 70)) 49 #[.int .i64 0, .int .i64 0, .int .i64 0]
  simpa using this
 have HG := zH hbt
 have HG0 := zH hb0
 have HU := zH hU
 have HBT := zH hBt
 have HB0 := zH hB0
 have HW := zH hw1
 clear hU hBt hB0 hw1 hbt hb0
 go_enter Tryz.func61, Tryz.ntmps61
 go_upto_region 1 with fail
 have e0 := HG0.out
 have e1 := HG.out
 have e2 := HW.out
 change Code.wp _ _ _ _ ((w.alloc (.cells (tongA d) 70)).alloc (.cells #[.int .i64 0, .int .i64 0, .int .i64 0] 49))
 rw [← e2, ← e0, ← e1]
 clear e0 e1 e2 HW
 have c0 : w1.cell? ⟨bt, 0, none⟩ = some (.int .i64 (d : Int)) := HBT.out.cell 0
 have c1 : w1.cell? ⟨bt, 1, none⟩ = some (strV (ver d)) := HBT.out.cell 1
 refine wp_region_lit ?_
 refine wR (v := .pointer (some ⟨bt, 0, none⟩)) rfl (exec_field (off := 0) (d := 0) rfl rfl (by kernel_rfl)) ?_
 simp only [zz]
 refine wR (v := .int .i64 (d : Int)) rfl (exec_load1 rfl rfl (by kernel_rfl) c0) ?_
 simp only [zz]
 refine wR (v := .agg #[.int .i64 4, .int .i64 8, .int .i64 (d : Int)]) rfl (exec_build3 rfl rfl rfl rfl (build_any _ _ _ _)) ?_
 simp only [zz]
 refine wpList_store_row rfl 49 (.tmp 2) (.tmp 5) rfl #[.int .i64 4, .int .i64 8, .int .i64 (d : Int)] HB0.out rfl rfl rfl (by rw [size_form]; rfl) (fm3_one _ _ _) ?_
 intro w2 hB2 hU2
 have HB2 := zH hB2
 have HU2 := zH (HU.out.trans hU2 (fun k hk e => by
  have := HG0.out
  have e : k = b0 := e
  omega))
 clear hB2 hU2 c0 c1
 simp only [zz]
 go_wp2_with fail
 refine bodyPost_ret (v := fmV (mapFm d)) (results_cell_row rfl _ _ b0 _ _ _ _ rfl HB2.out Tryz.underlying49 rfl (by rw [size_form]; rfl)) rfl ?_
 exact ⟨rfl, HU2.out⟩
theorem digits_type {ty : Int} (h : mtypes.contains ty = true) : digitsOf ty 3 = (dig3 ty.toNat, 0) ∧ 0 ≤ ty ∧ ty ≤ 810 := by
 have hb : ∀ ty ∈ mtypes, (100 : Int) ≤ ty ∧ ty ≤ 810 := by decide
 have h1 := hb ty (by simpa using h)
 obtain ⟨n, rfl⟩ : ∃ n : Nat, ty = (n : Int) := ⟨ty.toNat, by omega⟩
 have e : Lib.itoa (n : Int) = dig3 n := by
  unfold Lib.itoa
  rw [if_neg (by omega), Int.toNat_natCast, Lib.decDigits, dif_neg (by omega), Lib.decDigits, dif_neg (by omega), dig_one (by omega), Nat.div_div_eq_div_mul]
  rfl
 refine ⟨?_, by omega, by omega⟩
 unfold digitsOf
 rw [e, if_neg (by omega), if_neg (by simp [dig3])]
 rfl
theorem half_right {d : Nat} {fs : List Fld} (hd : 1 ≤ d ∧ d ≤ 3) {h : List UInt8} (hh : h ∈ halves fs) : (mapFm d).check h = 0 ∧ ((mapFm d).put h).length ≤ 18 := by
 have key : ∀ n, (mapFm d).check (hexk 16 n) = 0 ∧ ((mapFm d).put (hexk 16 n)).length ≤ 18 := fun n => ⟨(check_zero (by decide) hd (by decide)).2 (hex_right d n), put_cap (k := 4) (s := 8) (c := d) (by decide) hd (by decide) (hex_right d n)⟩
 unfold halves at hh
 split at hh
 ·simp only [List.mem_singleton] at hh
  subst hh
  exact key _
 ·simp only [List.mem_cons, List.not_mem_nil, or_false] at hh
  rcases hh with rfl | rfl <;> exact key _
theorem halves_len (fs : List Fld) : (halves fs).length ≤ 2 := by
 unfold halves
 split <;> simp
def hpart (d : Nat) (ty : Int) (fs : List Fld) (j : Nat) : List UInt8 := ((halves fs).take j).foldl (fun b h => b ++ (mapFm d).put h) ((typeFm d).put (ver d ++ dig3 ty.toNat))
theorem hpart_succ {d : Nat} {ty : Int} {fs : List Fld} {j : Nat} {h : List UInt8} (hj : (halves fs)[j]? = some h) : hpart d ty fs (j + 1) = hpart d ty fs j ++ (mapFm d).put h := by
 unfold hpart
 rw [List.take_add_one, hj, List.foldl_append]
 rfl
theorem hpart_len {d : Nat} {ty : Int} {fs : List Fld} (hd : 1 ≤ d ∧ d ≤ 3) (ht : mtypes.contains ty = true) : ∀ j, (hpart d ty fs j).length ≤ 10 + 18 * j
 | 0 => by
   have : ((typeFm d).put (ver d ++ dig3 ty.toNat)).length ≤ 10 := put_cap (k := 1) (s := 4) (c := d) (by decide) hd (by decide) (type_right hd ht).1
   unfold hpart
   simpa using this
 | j + 1 => by
   have ih := hpart_len (d := d) (ty := ty) (fs := fs) hd ht j
   cases hj : (halves fs)[j]? with
   | none =>
     have : hpart d ty fs (j + 1) = hpart d ty fs j := by
      unfold hpart
      rw [List.take_add_one, hj]
      simp
     rw [this]
     omega
   | some h =>
     have := (half_right (fs := fs) hd (List.mem_of_getElem? hj)).2
     rw [hpart_succ hj, List.length_append]
     omega
theorem ss_cell {w : World} {g i : Nat} {l : List (List UInt8)} {x : List UInt8} (h : Ss w g l) (hx : l[i]? = some x) : w.cell? ⟨g, i, none⟩ = some (strV x) := by
 obtain ⟨C, t, hb, hc⟩ := h
 rw [hb.cell]
 exact hc i x hx
theorem Ss.still {w w' : World} {g : Nat} {l : List (List UInt8)} (h : Ss w g l) (ht : Turn nowhere w w') : Ss w' g l := by
 obtain ⟨C, t, hb, hc⟩ := h
 exact ⟨C, t, hb.turn ht (fun e => e), hc⟩
theorem own_still {w w' : World} {B : Nat} {v : Value} {bs : List UInt8} (h : Own w B 5 v bs) (ht : Turn nowhere w w') : Own w' B 5 v bs := h.below (ht.below (Nat.le_refl _) (fun _ _ e=>e)) (Nat.le_refl _)
theorem own_len {w : World} {B n c : Nat} {A : Option Addr} {bs : List UInt8} (h : Own w B 5 (.slice A n c) bs) : bs.length = n := (own_bs h).1.1
theorem exec_slenS {a : Act} {o : Oper} {W : World} {x : Operand} {A : Option Addr} {n c : Nat} (ho : o.op = .call { callee := .builtin .len, args := #[x], argTypes := #[106] }) (hx : a.eval x = .slice A n c) : (execOp a.eval o).run Tryz.prog W = .ok (.value (.int .i64 (n : Int))) W := gx_len ho hx Tryz.underlying106
theorem putHead_walk {s : Sents} {w : World} {d : Nat} {ty : Int} {A : Option Addr} {n c : Nat} {fs : List Fld} (hd : 1 ≤ d ∧ d ≤ 3) (hty : mtypes.contains ty = true) (hno : ∀ f ∈ fs, 2 ≤ f.1 ∧ f.1 ≤ 97) (hs : Sen s w) (hr : RowsT w) (hp : PowT w) (hz : ZerT w) (hf : Fl w A n fs) :
 Calls Tryz.prog 36 #[tongV d, msgV ty A n c] w fun e w' => ∃ A' n' c', e = .returned (.tuple #[.slice A' n' c', .nilIface]) ∧ Own w' w.heap.size 5 (.slice A' n' c') (mhead d ty fs) ∧ Turn nowhere w w' := by
 have hW : ∃ w1 bm bt, w1 = (w.alloc (.cells (tongA d) 70)).alloc (.cells #[.int .i64 ty, .slice A n c] 24) ∧ bt = w.heap.size ∧ bm = w.heap.size + 1 := ⟨_, _, _, rfl, rfl, rfl⟩
 obtain ⟨w1, bm, bt, hw1, hbt, hbm⟩ := hW
 have hU : Turn nowhere w w1 := by rw [hw1]; exact ((Turn.refl nowhere w).alloc _).alloc _
 have hBt : Blk w1 bt 70 (tongA d) := by rw [hw1, hbt]; exact (Blk.new w _ _).alloc _
 have hBm : Blk w1 bm 24 #[.int .i64 ty, .slice A n c] := by
  rw [hw1, hbm]
  have := Blk.new (w.alloc (.cells (tongA d) 70)) 24 #[.int .i64 ty, .slice A n c]
  simpa using this
 obtain ⟨hdg, hty0, hty8⟩ := digits_type hty
 obtain ⟨hrt, _⟩ := type_right hd hty
 have HS := zH (hs.turn hU)
 have HR := zH (hr.turn hU)
 have HZ := zH (hz.turn hU)
 have HF := zH (hf.still hU)
 have hdw := digits_walk ty 3 w1 (fun W ht => itoa_at (by omega) (by omega) ((hp.turn hU).turn ht))
 rw [hdg] at hdw
 have HDW := zH hdw
 have HD := zH hd
 have HTY := zH hty
 have HNO := zH hno
 have HG := zH hbt
 have HG0 := zH hbm
 have HU := zH hU
 have HBT := zH hBt
 have HBM := zH hBm
 have HW := zH hw1
 have HCT := zH (show (typeFm d).check (ver d ++ dig3 ty.toNat) = 0 from (check_zero (by decide) hd (by decide)).2 hrt)
 clear hU hBt hBm hw1 hbt hbm hdg hty0 hty8 hrt hs hr hz hf hdw hd hty hno hp
 unfold msgV
 go_enter Tryz.func36, Tryz.ntmps36
 go_upto_region 1 with fail
 have e0 := HG0.out
 have e1 := HG.out
 have e2 := HW.out
 change Code.wp _ _ _ _ ((w.alloc (.cells (tongA d) 70)).alloc (.cells #[.int .i64 ty, .slice A n c] 24))
 rw [← e2, ← e0, ← e1]
 clear e0 e1 e2 HW
 have c0 : w1.cell? ⟨bm, 0, none⟩ = some (.int .i64 ty) := HBM.out.cell 0
 refine wp_region_lit ?_
 refine wR (v := .pointer (some ⟨bm, 0, none⟩)) rfl (exec_field (off := 0) (d := 0) rfl rfl (by kernel_rfl)) ?_
 simp only [zz]
 refine wR (v := .int .i64 ty) rfl (exec_load1 rfl rfl (by kernel_rfl) c0) ?_
 simp only [zz]
 refine wpList_op rfl fun K9 HK9 => ?_
 go_wp2_with fail
 refine (HDW.out).mono ?_
 rintro e w2 ⟨rfl, ht2⟩
 refine HK9.out _ _ ?_
 clear HK9
 try simp only [zz]
 refine wM (.tuple #[strV (dig3 ty.toNat), .int .i64 0]) ?_
 simp only [zz]
 refine wE (strV (dig3 ty.toNat)) ?_
 simp only [zz]
 refine wE (.int .i64 0) ?_
 simp only [zz]
 refine wA (strV (dig3 ty.toNat)) ?_
 simp only [zz]
 refine wA (.int .i64 0) ?_
 simp only [zz]
 have HU2 := zH ht2
 clear ht2 c0 HDW
 obtain ⟨dg, hdg⟩ : ∃ dg, dg = dig3 ty.toNat := ⟨_, rfl⟩
 obtain ⟨vr, hvr⟩ : ∃ vr, vr = ver d := ⟨_, rfl⟩
 have HL3 := zH (show vr.length + dg.length ≤ 8388608 from by
  obtain ⟨v, hv⟩ := ver_one d
  rw [hvr, hdg, hv]
  simp [dig3])
 have HDG := zH hdg
 have HVR := zH hvr
 have HCT2 : Hid ((typeFm d).check (vr ++ dg) = 0) := zH (by rw [hdg, hvr]; exact HCT.out)
 rw [← hdg]
 clear hdg hvr HCT
 go_upto_region 2 with fail
 have hS0 : Blk w2.drew bt 70 (tongA d) := (HBT.out.turn (F := nowhere) HU2.out (fun e => e)).drew
 have HU3 : Hid (Turn nowhere w1 w2.drew) := zH HU2.out.drew
 clear HU2
 refine wp_region_alw (fun W => Blk W bt 70 (tongA d)) (by kernel_rfl) ?_
 generalize w2.drew = w3 at *
 refine aT (i := 0) (v := tongV d) rfl (by kernel_rfl) (by kernel_rfl) (fun W hW => gx_loads rfl rfl (blk_range hW) Tryz.underlying70 rfl (by rw [size_tongue]; rfl)) hS0 ?_
 simp only [zz]
 refine aT (i := 2) (v := .pointer (some ⟨bt, 1, none⟩)) rfl (by kernel_rfl) (by kernel_rfl) (fun W hW => exec_field (off := 0) (d := 1) rfl rfl (by kernel_rfl)) hS0 ?_
 simp only [zz]
 refine aT (i := 3) (v := strV vr) rfl (by kernel_rfl) (by kernel_rfl) (fun W hW => exec_load1 rfl rfl (by kernel_rfl) (by rw [HVR.out]; exact hW.cell 1)) hS0 ?_
 simp only [zz]
 refine aT (i := 4) (v := strV dg) rfl (by kernel_rfl) (by kernel_rfl) (fun W hW => exec_move rfl rfl) hS0 ?_
 simp only [zz]
 refine aT (i := 5) (v := strV (vr ++ dg)) rfl (by kernel_rfl) (by kernel_rfl) (fun W hW => exec_sadd rfl rfl rfl HL3.out) hS0 ?_
 simp only [zz]
 refine alw_step (i := 1) (by kernel_rfl) rfl rfl ?_
 intro K1 HK1
 go_wp2_with fail
 refine typeForm_walk.mono ?_
 rintro e w4 ⟨rfl, ht4⟩
 have hS1 : Blk w4 bt 70 (tongA d) := hS0.turn ht4 (fun e => e)
 refine HK1.out _ _ ⟨hS1, ?_⟩
 have HU4 := zH (HU3.out.next ht4)
 clear HK1 hS0 HU3 ht4
 try simp only [zz]
 refine alw_step (i := 6) (by kernel_rfl) rfl rfl ?_
 intro K1 HK1
 go_wp2_with fail
 refine (mput_walk (s := s) (no := 0) (f := typeFm d) (t := vr ++ dg) (b := []) (cap := 0) (HS.out.turn HU4.out) (HR.out.turn HU4.out) (bs_nil _ none) (by decide)).mono ?_
 rintro e w5 ⟨A5, n5, c5, rfl, ho5, ht5⟩
 have hS2 : Blk w5 bt 70 (tongA d) := hS1.turn ht5 (fun e => e)
 refine HK1.out _ _ ⟨hS2, ?_⟩
 have HU5 := zH (HU4.out.next ht5)
 have ho5b : Own w5 w1.heap.size 5 (.slice A5 n5 c5) (hpart d ty fs 0) := by
  have h0 : hpart d ty fs 0 = putR (typeFm d) (vr ++ dg) [] := by
   unfold hpart putR
   rw [HCT2.out, if_pos rfl, HVR.out, HDG.out]
   rfl
  rw [h0]
  exact own_base ho5 HU4.out.size
 have HO5 := zH ho5b
 have hwz : wrapV s 0 ((typeFm d).check (vr ++ dg)) = .nilIface := by rw [HCT2.out]; rfl
 rw [hwz]
 clear HK1 hS1 HU4 ho5 ho5b ht5 hwz
 try simp only [zz]
 refine aT (i := 7) (v := .tuple #[.slice A5 n5 c5, .nilIface]) rfl (by kernel_rfl) (by kernel_rfl) (fun W hW => exec_move rfl rfl) hS2 ?_
 simp only [zz]
 refine aT (i := 8) (v := .slice A5 n5 c5) rfl (by kernel_rfl) (by kernel_rfl) (fun W hW => ix_extract rfl rfl rfl) hS2 ?_
 simp only [zz]
 refine aT (i := 9) (v := .nilIface) rfl (by kernel_rfl) (by kernel_rfl) (fun W hW => ix_extract rfl rfl rfl) hS2 ?_
 simp only [zz]
 refine aT (i := 10) (v := .slice A5 n5 c5) rfl (by kernel_rfl) (by kernel_rfl) (fun W hW => gx_assign rfl rfl) hS2 ?_
 simp only [zz]
 refine aT (i := 11) (v := .nilIface) rfl (by kernel_rfl) (by kernel_rfl) (fun W hW => gx_assign rfl rfl) hS2 ?_
 simp only [zz]
 refine alw_done rfl ?_
 clear hS2
 refine NoPanic.normal ?_
 have c1 : w5.cell? ⟨bm, 1, none⟩ = some (.slice A n c) := (HBM.out.turn HU5.out (fun e => e)).cell 1
 go_upto_region 5 with fail
 refine wp_region_lit ?_
 refine wR (v := .pointer (some ⟨bm, 1, none⟩)) rfl (exec_field (off := 0) (d := 1) rfl rfl (by kernel_rfl)) ?_
 simp only [zz]
 refine wR (v := .slice A n c) rfl (exec_load1 rfl rfl (by kernel_rfl) c1) ?_
 simp only [zz]
 refine wpList_op rfl fun K9 HK9 => ?_
 go_wp2_with fail
 refine (mapTexts_walk (HF.out.still HU5.out) (HZ.out.turn HU5.out) HNO.out).mono ?_
 rintro e w6 ⟨gs, cs, rfl, hss, ht6⟩
 refine HK9.out _ _ ?_
 clear HK9
 try simp only [zz]
 have HSS := zH hss
 have HU6 := zH (HU5.out.next ht6)
 have HO6 := zH (own_still HO5.out ht6)
 obtain ⟨m, hm⟩ : ∃ m, m = (halves fs).length := ⟨_, rfl⟩
 rw [← hm]
 have HM := zH hm
 have HM2 := zH (show m ≤ 2 from by rw [hm]; exact halves_len fs)
 have y9 : (m : Int) ≤ 2 := by have := HM2.out; omega
 clear hss ht6 HU5 HO5 c1 hm
 refine wR (v := .int .i64 (m : Int)) rfl (exec_slenS rfl rfl) ?_
 simp only [zz]
 go_wp2_with fail
 go_loopg [8, 35] m (fun gk bv jv wr => ∃ (j : Nat) (A' : Option Addr) (n' c' : Nat), j + gk = m ∧ jv = .int .i64 (j : Int) ∧ bv = .slice A' n' c' ∧ Own wr w1.heap.size 5 (.slice A' n' c') (hpart d ty fs j) ∧ Turn nowhere w6 wr)
 case atStart => exact ⟨0, A5, n5, c5, by omega, rfl, rfl, HO6.out, Turn.refl _ _⟩
 obtain ⟨j, Aj, nj, cj, hjl, rfl, rfl, hoj, htr⟩ := hrel
 have HJL := zH hjl
 have HOJ := zH hoj
 have HTR := zH htr
 clear hjl hoj htr
 by_cases hlt : j < m
 ·have y1 : (j : Int) < (m : Int) := by omega
  have HLT := zH hlt
  obtain ⟨x, hx⟩ : ∃ x, (halves fs)[j]? = some x := ⟨_, List.getElem?_eq_getElem (show j < (halves fs).length from by rw [← HM.out]; exact hlt)⟩
  have HX := zH hx
  have HCR := zH (half_right HD.out (List.mem_of_getElem? hx))
  have cx : wr.cell? ⟨gs, j, none⟩ = some (strV x) := ss_cell (HSS.out.still HTR.out) hx
  clear hlt hx
  go_upto_region 7 with fail
  refine wp_region_lit ?_
  refine wR (v := .pointer (some ⟨gs, j, none⟩)) rfl (gx_iaddr (i := j) (sz := 1) rfl rfl rfl Tryz.underlying106 (by kernel_rfl) HLT.out (by omega)) ?_
  simp only [zz]
  refine wR (v := strV x) rfl (exec_load1 rfl rfl (by kernel_rfl) cx) ?_
  simp only [zz]
  refine wA (strV x) ?_
  simp only [zz]
  have HBR := zH ((HBT.out.turn HU6.out (fun e => e)).turn HTR.out (fun e => e))
  have HUR := zH (HU6.out.next HTR.out)
  go_upto_region 8 with fail
  refine wp_region_lit ?_
  refine wM (.slice Aj nj cj) ?_
  simp only [zz]
  refine wR (v := tongV d) rfl (gx_loads rfl rfl (blk_range HBR.out) Tryz.underlying70 rfl (by rw [size_tongue]; rfl)) ?_
  simp only [zz]
  refine wpList_op rfl fun K9 HK9 => ?_
  go_wp2_with fail
  refine (mapForm_walk).mono ?_
  rintro e w7 ⟨rfl, ht7⟩
  refine HK9.out _ _ ?_
  clear HK9
  try simp only [zz]
  refine wM (strV x) ?_
  simp only [zz]
  refine wpList_op rfl fun K9 HK9 => ?_
  go_wp2_with fail
  refine (mput_walk (s := s) (no := 1) (f := mapFm d) (t := x) (HS.out.turn (HUR.out.next ht7)) (HR.out.turn (HUR.out.next ht7)) (own_bs (own_still HOJ.out ht7)).1 (by have h1 := own_len HOJ.out; have h2 := hpart_len (fs := fs) HD.out HTY.out j; have h3 := HLT.out; have h4 := HM2.out; omega)).mono ?_
  rintro e w8 ⟨A8, n8, c8, rfl, ho8, ht8⟩
  refine HK9.out _ _ ?_
  clear HK9
  try simp only [zz]
  have hwz : wrapV s 1 ((mapFm d).check x) = .nilIface := by rw [HCR.out.1]; rfl
  rw [hwz]
  have HO8 := zH (show Own w8 w1.heap.size 5 (.slice A8 n8 c8) (hpart d ty fs (j + 1)) from by
   rw [hpart_succ HX.out]
   unfold putR at ho8
   rw [if_pos HCR.out.1] at ho8
   exact own_base ho8 (Nat.le_trans HUR.out.size ht7.size))
  have HT8 := zH ((HTR.out.next ht7).next ht8)
  clear hwz ho8 ht7 ht8 cx HBR HUR
  refine wM (.tuple #[.slice A8 n8 c8, .nilIface]) ?_
  simp only [zz]
  refine wE (.slice A8 n8 c8) ?_
  simp only [zz]
  refine wE .nilIface ?_
  simp only [zz]
  refine wA (.slice A8 n8 c8) ?_
  simp only [zz]
  refine wA .nilIface ?_
  simp only [zz]
  go_wp2_with fail
  go_roundg (gk - 1)
  case measure => have := HJL.out; have := HLT.out; omega
  case rel => exact ⟨j + 1, A8, n8, c8, by have := HJL.out; have := HLT.out; omega, by go_num, rfl, HO8.out, HT8.out⟩
 ·have y1 : ¬ ((j : Int) < (m : Int)) := by omega
  have HE := zH (show hpart d ty fs j = mhead d ty fs from by
   unfold hpart
   rw [List.take_of_length_le (by rw [← HM.out]; omega)]
   rfl)
  clear hlt
  go_wp2_with fail
  go_ret2
  rw [← HE.out]
  exact ⟨_, _, _, rfl, own_base HOJ.out HU.out.size, (HU.out.next HU6.out).next HTR.out⟩
theorem hasPrefix_walk {w : World} {x p : List UInt8} : Calls Tryz.prog 95 #[strV x, strV p] w fun e w' => e = .returned (.bool (p.isPrefixOf x)) ∧ w' = w := by
 by_cases hl : p.length ≤ x.length
 ·have hv : p.isPrefixOf x = (x.take p.length == p) := by
   rw [Bool.eq_iff_iff, List.isPrefixOf_iff_prefix, beq_iff_eq, List.prefix_iff_eq_take]
   exact ⟨fun h => h.symm, fun h => h.symm⟩
  rw [hv]
  have HL := zH hl
  clear hl hv
  go_enter Tryz.func95, Tryz.ntmps95
  go_upto_region 1 with fail
  refine wp_region_lit ?_
  refine wM (strV x) ?_
  simp only [zz]
  refine wR (v := .int .i64 (x.length : Int)) rfl (exec_slen rfl rfl) ?_
  simp only [zz]
  refine wM (strV p) ?_
  simp only [zz]
  refine wR (v := .int .i64 (p.length : Int)) rfl (exec_slen rfl rfl) ?_
  simp only [zz]
  refine wR (v := .bool true) rfl (ix_geq rfl rfl rfl (decide_eq_true (by have := HL.out; omega))) ?_
  simp only [zz]
  refine wM (.bool true) ?_
  simp only [zz]
  refine wM (strV x) ?_
  simp only [zz]
  refine wM (strV p) ?_
  simp only [zz]
  refine wR (v := .int .i64 (p.length : Int)) rfl (exec_slen rfl rfl) ?_
  simp only [zz]
  refine wR (v := strV (x.take p.length)) rfl (exec_sto rfl rfl rfl HL.out) ?_
  simp only [zz]
  refine wM (strV p) ?_
  simp only [zz]
  refine wR (v := .bool (x.take p.length == p)) rfl (exec_seql rfl rfl rfl) ?_
  simp only [zz]
  refine wR (v := .bool (x.take p.length == p)) rfl (ix_pickT rfl rfl rfl) ?_
  simp only [zz]
  refine wA (.bool (x.take p.length == p)) ?_
  simp only [zz]
  obtain ⟨q, hq⟩ : ∃ q, q = (x.take p.length == p) := ⟨_, rfl⟩
  rw [← hq]
  have HQ := zH hq
  clear hq
  go_wp2_with fail
  go_ret
  refine ⟨?_, rfl⟩
  first | (rw [← HQ.out]; done) | (rw [← HQ.out]; rfl)
 ·have hv : p.isPrefixOf x = false := by
   cases h : p.isPrefixOf x with
   | false => rfl
   | true =>
     have := (List.isPrefixOf_iff_prefix.1 h).length_le
     exact absurd this hl
  rw [hv]
  have HL := zH hl
  clear hl hv
  go_enter Tryz.func95, Tryz.ntmps95
  go_upto_region 1 with fail
  refine wp_region_lit ?_
  refine wM (strV x) ?_
  simp only [zz]
  refine wR (v := .int .i64 (x.length : Int)) rfl (exec_slen rfl rfl) ?_
  simp only [zz]
  refine wM (strV p) ?_
  simp only [zz]
  refine wR (v := .int .i64 (p.length : Int)) rfl (exec_slen rfl rfl) ?_
  simp only [zz]
  refine wR (v := .bool false) rfl (ix_geq rfl rfl rfl (decide_eq_false (by have := HL.out; omega))) ?_
  simp only [zz]
  go_wp2_with fail
  go_ret
  exact ⟨rfl, rfl⟩
theorem prefix_le {p x : List UInt8} (h : p.isPrefixOf x = true) : p.length ≤ x.length := (List.isPrefixOf_iff_prefix.1 h).length_le
theorem trim_t {p x : List UInt8} (h : p.isPrefixOf x = true) : Lib.trimPrefix x p = x.drop p.length := by
 unfold Lib.trimPrefix Lib.hasPrefix
 rw [if_pos h]
theorem trim_f {p x : List UInt8} (h : p.isPrefixOf x = false) : Lib.trimPrefix x p = x := by
 unfold Lib.trimPrefix Lib.hasPrefix
 rw [if_neg (by rw [h]; decide)]
theorem trim_walk {w : World} {x p : List UInt8} : Calls Tryz.prog 39 #[strV x, strV p] w fun e w' => e = .returned (strV (Lib.trimPrefix x p)) ∧ w' = w := by
 have key : Calls Tryz.prog 63 #[strV x, strV p] w fun e w' => e = .returned (strV (Lib.trimPrefix x p)) ∧ w' = w := by
  have hw := hasPrefix_walk (w := w) (x := x) (p := p)
  cases hp : p.isPrefixOf x with
  | true =>
    rw [hp] at hw
    have HW := zH hw
    have HL := zH (prefix_le hp)
    rw [trim_t hp]
    clear hw hp
    go_enter Tryz.func63, Tryz.ntmps63
    go_upto_region 2 with (go_at_call 95; refine HW.out.mono ?_; rintro e w1 ⟨rfl, rfl⟩)
    refine wp_region_lit ?_
    refine wM (strV x) ?_
    simp only [zz]
    refine wM (strV p) ?_
    simp only [zz]
    refine wR (v := .int .i64 (p.length : Int)) rfl (exec_slen rfl rfl) ?_
    simp only [zz]
    refine wR (v := strV (x.drop p.length)) rfl (exec_sfrom rfl rfl rfl HL.out) ?_
    simp only [zz]
    refine wA (strV (x.drop p.length)) ?_
    simp only [zz]
    obtain ⟨q, hq⟩ : ∃ q, q = x.drop p.length := ⟨_, rfl⟩
    rw [← hq]
    have HQ := zH hq
    clear hq
    go_wp2_with fail
    go_ret
    refine ⟨?_, rfl⟩
    first | (rw [← HQ.out]; done) | (rw [← HQ.out]; rfl)
  | false =>
    rw [hp] at hw
    have HW := zH hw
    rw [trim_f hp]
    clear hw hp
    go_enter Tryz.func63, Tryz.ntmps63
    go_wp2_with (go_at_call 95; refine HW.out.mono ?_; rintro e w1 ⟨rfl, rfl⟩)
    go_ret
    exact ⟨rfl, rfl⟩
 have HK := zH key
 clear key
 generalize Lib.trimPrefix x p = q at *
 go_enter Tryz.func39, Tryz.ntmps39
 go_wp2_with (go_at_call 63; refine HK.out.mono ?_; rintro e w1 ⟨rfl, rfl⟩)
 go_ret
 exact ⟨rfl, rfl⟩
theorem cut_walk {w : World} {x p : List UInt8} : Calls Tryz.prog 80 #[strV x, strV p] w fun e w' => e = .returned (.tuple #[strV (Lib.trimPrefix x p), .bool (p.isPrefixOf x)]) ∧ w' = w := by
 have key : Calls Tryz.prog 100 #[strV x, strV p] w fun e w' => e = .returned (.tuple #[strV (Lib.trimPrefix x p), .bool (p.isPrefixOf x)]) ∧ w' = w := by
  have hw := hasPrefix_walk (w := w) (x := x) (p := p)
  cases hp : p.isPrefixOf x with
  | true =>
    rw [hp] at hw
    have HW := zH hw
    have HL := zH (prefix_le hp)
    rw [trim_t hp]
    clear hw hp
    go_enter Tryz.func100, Tryz.ntmps100
    go_upto_region 3 with (go_at_call 95; refine HW.out.mono ?_; rintro e w1 ⟨rfl, rfl⟩)
    refine wp_region_lit ?_
    refine wM (strV x) ?_
    simp only [zz]
    refine wM (strV p) ?_
    simp only [zz]
    refine wR (v := .int .i64 (p.length : Int)) rfl (exec_slen rfl rfl) ?_
    simp only [zz]
    refine wR (v := strV (x.drop p.length)) rfl (exec_sfrom rfl rfl rfl HL.out) ?_
    simp only [zz]
    refine wA (strV (x.drop p.length)) ?_
    simp only [zz]
    refine wA (.bool true) ?_
    simp only [zz]
    obtain ⟨q, hq⟩ : ∃ q, q = x.drop p.length := ⟨_, rfl⟩
    rw [← hq]
    have HQ := zH hq
    clear hq
    go_wp2_with fail
    go_ret2
    refine ⟨?_, rfl⟩
    first | (rw [← HQ.out]; done) | (rw [← HQ.out]; rfl)
  | false =>
    rw [hp] at hw
    have HW := zH hw
    rw [trim_f hp]
    clear hw hp
    go_enter Tryz.func100, Tryz.ntmps100
    go_wp2_with (go_at_call 95; refine HW.out.mono ?_; rintro e w1 ⟨rfl, rfl⟩)
    go_ret2
    exact ⟨rfl, rfl⟩
 have HK := zH key
 clear key
 generalize Lib.trimPrefix x p = q at *
 generalize p.isPrefixOf x = b at *
 go_enter Tryz.func80, Tryz.ntmps80
 go_wp2_with (go_at_call 100; refine HK.out.mono ?_; rintro e w1 ⟨rfl, rfl⟩)
 go_ret2
 exact ⟨rfl, rfl⟩
theorem errV_zero {s : Sents} {v : Value} {n : Int} (h : ErrV s v n) (h0 : n = 0) : v = .nilIface := by
 cases h <;> first | rfl | (exact absurd h0 (by decide))
theorem errV_some {s : Sents} {v : Value} {n : Int} (h : ErrV s v n) (h0 : n ≠ 0) : ∃ t x, v = .iface t x := by
 cases h <;> first | (exact absurd rfl h0) | exact ⟨_, _, rfl⟩
theorem size_msg : (Tryz.prog.info? 24).map (·.size) = some 2 := by kernel_rfl
theorem own_lt8 {w : World} {B : Nat} {e : TypeId} {v : Value} {bs : List UInt8} (h : Own w B e v bs) {k : Nat} (hk : v.ownBlock = some k) : k < w.heap.size := (World.ownsRow.lt h k hk).2
theorem own_turn8 {w w' : World} {B : Nat} {e : TypeId} {v : Value} {bs : List UInt8} {F : Nat → Prop} (h : Own w B e v bs) (ht : Turn F w w') (hF : ∀ k, v.ownBlock = some k → ¬ F k) : Own w' B e v bs := by
 refine ⟨h.1, ?_⟩
 rcases h.2 with h0 | ⟨g, cap, cur, rfl, hb1, hgg, rest⟩
 ·exact .inl h0
 ·exact .inr ⟨g, cap, cur, rfl, hb1, (ht.block g (Array.getElem?_eq_some_iff.1 hgg).1 (hF g rfl)).trans hgg, rest⟩
def codeE {α : Type} : Except Int α → Int
 | .ok _ => 0
 | .error k => k
def bytesE : Except Int (List UInt8) → List UInt8
 | .ok b => b
 | .error _ => []
theorem putFs_at {d : Nat} {fs : List Fld} {b r0 : List UInt8} {j : Nat} {f : Fld} {X : Option (List UInt8)} {m : Fm} (hf : fs[j]? = some f) (hm : mform d f.1 = some m) (h : putFs d b (fs.drop j) = X) : (m.check (say d f) = 0 → putFs d (b ++ m.put (say d f)) (fs.drop (j + 1)) = X) ∧ (m.check (say d f) ≠ 0 → X = none) := by
 obtain ⟨hj, hfj⟩ := List.getElem?_eq_some_iff.1 hf
 have hd : fs.drop j = f :: fs.drop (j + 1) := by rw [← hfj]; exact List.drop_eq_getElem_cons hj
 rw [hd] at h
 unfold putFs at h
 rw [hm] at h
 simp only [] at h
 refine ⟨fun h0 => ?_, fun h0 => ?_⟩
 ·rw [if_pos h0] at h
  exact h
 ·rw [if_neg h0] at h
  exact h.symm
theorem check41 {d : Nat} {no : Int} {m : Fm} {t : List UInt8} (hd : 1 ≤ d ∧ d ≤ 3) (hm : mform d no = some m) (h : m.check t ≠ 0) : m.check t = 41 := by
 obtain ⟨k1, s1, rfl, hk1, hs1, _⟩ := form_nf hm
 unfold Fm.check at h ⊢
 rw [if_pos (may_nf hk1 hd hs1)] at h ⊢
 split
 ·rename_i hr
  rw [if_pos hr] at h
  exact absurd rfl h
 ·rfl
def EncP (s : Sents) (r : Except Int (List UInt8)) (w : World) (e : Ending) (w' : World) : Prop := ∃ A n c v, e = .returned (.tuple #[.slice A n c, v]) ∧ ErrV s v (codeE r) ∧ Own w' w.heap.size 5 (.slice A n c) (bytesE r) ∧ Turn nowhere w w'
theorem encP_err {s : Sents} {r : Except Int (List UInt8)} {k : Int} {w w' : World} {v : Value} (hr : r = .error k) (hv : ErrV s v k) (ht : Turn nowhere w w') : EncP s r w (.returned (.tuple #[.slice none 0 0, v])) w' := by
 subst hr
 exact ⟨none, 0, 0, v, rfl, hv, World.ownsRow_nil w' _ _ _, ht⟩
structure Env (s : Sents) (W : World) : Prop where
 sen : Sen s W
 tab : Tab W
 rows : RowsT W
 pow : PowT W
 zer : ZerT W
theorem Env.turn {s : Sents} {W W' : World} (h : Env s W) (ht : Turn nowhere W W') : Env s W' := ⟨h.sen.turn ht, h.tab.turn ht, h.rows.turn ht, h.pow.turn ht, h.zer.turn ht⟩
theorem encode_walk {s : Sents} {w : World} {dd ty : Int} {A : Option Addr} {n c : Nat} {fs : List Fld} (he : Env s w) (hf : Fl w A n fs) :
 Calls Tryz.prog 19 #[.int .i64 dd, msgV ty A n c] w (EncP s (mencode dd ty fs) w) := by
 have hu := (Turn.refl nowhere w).alloc (.cells #[.int .i64 ty, .slice A n c] 24)
 have hb := Blk.new w 24 #[.int .i64 ty, .slice A n c]
 obtain ⟨bm, hbm⟩ : ∃ bm, bm = w.heap.size := ⟨_, rfl⟩
 obtain ⟨w1, hw1⟩ : ∃ w1, w1 = w.alloc (.cells #[.int .i64 ty, .slice A n c] 24) := ⟨_, rfl⟩
 rw [← hw1] at hu hb
 rw [← hbm] at hb
 have HE := zH (he.turn hu)
 have HF := zH (hf.still hu)
 have HU := zH hu
 have HB := zH hb
 have HW := zH hw1
 have HBM := zH hbm
 have HNL : Hid (fs.length = n) := zH hf.1
 have HNM : Hid (n ≤ 140737488355328) := zH hf.2.1
 have y9 : (n : Int) ≤ 140737488355328 := by
  have := HNM.out
  omega
 clear he hf hu hb hw1 hbm
 unfold msgV
 go_enter Tryz.func19, Tryz.ntmps19
 go_upto_region 1 with fail
 have e1 := HW.out
 have e2 := HBM.out
 rw [← e1, ← e2]
 clear e1 e2 HW HBM
 refine wp_region_lit ?_
 refine wM (.int .i64 dd) ?_
 simp only [zz]
 by_cases hd : 1 ≤ dd ∧ dd ≤ 3
 ·obtain ⟨d, hdn⟩ : ∃ d : Nat, dd = (d : Int) := ⟨dd.toNat, by omega⟩
  subst hdn
  have hd2 : 1 ≤ d ∧ d ≤ 3 := by omega
  have HD := zH hd2
  have HR := zH (show mencode (d : Int) ty fs = if mcheck ty fs = 0 then match putFs d (mhead d ty fs) fs with | none => .error 41 | some b => .ok b else .error (mcheck ty fs) from by
   unfold mencode
   rw [if_pos hd, Int.toNat_natCast]
   rfl)
  clear hd hd2
  refine wpList_op rfl fun K9 HK9 => ?_
  go_wp2_with fail
  refine (tongueOf_ok (s := s) HD.out HE.out.tab).mono ?_
  rintro e w2 ⟨rfl, ht2⟩
  refine HK9.out _ _ ?_
  clear HK9
  try simp only [zz]
  have HU2 := zH ht2
  have HB2 := zH (HB.out.turn ht2 (fun e => e))
  clear ht2 HB
  refine wM (.tuple #[tongV d, .nilIface]) ?_
  simp only [zz]
  refine wE (tongV d) ?_
  simp only [zz]
  refine wE .nilIface ?_
  simp only [zz]
  refine wR (v := .pointer (some ⟨w2.heap.size, 0, none⟩)) (w' := w2.alloc (.cells #[.int .i64 0, strV [], strV []] 70)) rfl (gx_alloc rfl (zero_tongue _)) ?_
  simp only [zz]
  have hb8 := Blk.new w2 70 #[.int .i64 0, strV [], strV []]
  have hu8 := HU2.out.alloc (.cells #[.int .i64 0, strV [], strV []] 70)
  have hbm8 := HB2.out.alloc (.cells #[.int .i64 0, strV [], strV []] 70)
  obtain ⟨bt, hbt⟩ : ∃ bt, bt = w2.heap.size := ⟨_, rfl⟩
  rw [← hbt] at hb8 ⊢
  have HG8 := zH (show w1.heap.size ≤ bt from by rw [hbt]; exact HU2.out.size)
  have HN8 := zH (show bm ≠ bt from by have := HB2.out.lt; omega)
  clear hbt
  generalize w2.alloc (.cells #[.int .i64 0, strV [], strV []] 70) = w5 at *
  refine wpList_store_row rfl 70 (.tmp 6) (.tmp 17) rfl (tongA d) hb8 rfl rfl rfl (by rw [size_tongue]; rfl) (tongA_one d) ?_
  intro w6 hb6 hu6
  have HBT := zH hb6
  have HBM := zH (hbm8.turn hu6 (fun e => HN8.out e))
  have HU6 := zH (hu8.trans hu6 (fun k hk e => by
   have := HG8.out
   have e : k = bt := e
   omega))
  clear hb8 hu8 hbm8 hb6 hu6 HB2 HU2
  simp only [zz]
  have HCV := zH (checkV_ok s ty fs)
  go_upto_region 4 with fail
  refine wp_region_lit ?_
  refine wR (v := msgV ty A n c) rfl (gx_loads rfl rfl (blk_range HBM.out) Tryz.underlying24 rfl (by rw [size_msg]; rfl)) ?_
  simp only [zz]
  refine wpList_op rfl fun K9 HK9 => ?_
  go_wp2_with fail
  refine (check_walk2 (s := s) (HE.out.tab.turn HU6.out) (HE.out.sen.turn HU6.out) (HE.out.rows.turn HU6.out) (HF.out.still HU6.out)).mono ?_
  rintro e w7 ⟨rfl, ht7⟩
  refine HK9.out _ _ ?_
  clear HK9
  try simp only [zz]
  have HU7 := zH (HU6.out.next ht7)
  have HBT7 := zH (HBT.out.turn ht7 (fun e => e))
  have HBM7 := zH (HBM.out.turn ht7 (fun e => e))
  clear ht7 HU6 HBT HBM
  by_cases hck : mcheck ty fs = 0
  ·have hv := errV_zero HCV.out hck
   rw [hv]
   obtain ⟨hty, _, hgood⟩ := mcheck_zero.1 hck
   have HTY := zH hty
   have HGD := zH hgood
   have HR2 := zH (show mencode (d : Int) ty fs = match putFs d (mhead d ty fs) fs with | none => .error 41 | some b => .ok b from by rw [HR.out, if_pos hck])
   have HML := zH (show n ≤ 24 from by rw [← HNL.out]; exact (mcheck_zero.1 hck).2.1)
   clear hv hty hgood hck HR HCV
   go_upto_region 7 with fail
   refine wp_region_lit ?_
   refine wR (v := tongV d) rfl (gx_loads rfl rfl (blk_range HBT7.out) Tryz.underlying70 rfl (by rw [size_tongue]; rfl)) ?_
   simp only [zz]
   refine wR (v := msgV ty A n c) rfl (gx_loads rfl rfl (blk_range HBM7.out) Tryz.underlying24 rfl (by rw [size_msg]; rfl)) ?_
   simp only [zz]
   refine wpList_op rfl fun K9 HK9 => ?_
   go_wp2_with fail
   refine (putHead_walk (s := s) HD.out HTY.out (good_nos HGD.out).2 (HE.out.sen.turn HU7.out) (HE.out.rows.turn HU7.out) (HE.out.pow.turn HU7.out) (HE.out.zer.turn HU7.out) (HF.out.still HU7.out)).mono ?_
   rintro e w8 ⟨A8, n8, c8, rfl, ho8, ht8⟩
   refine HK9.out _ _ ?_
   clear HK9
   try simp only [zz]
   refine wM (.tuple #[.slice A8 n8 c8, .nilIface]) ?_
   simp only [zz]
   refine wE (.slice A8 n8 c8) ?_
   simp only [zz]
   refine wE .nilIface ?_
   simp only [zz]
   refine wA (.slice A8 n8 c8) ?_
   simp only [zz]
   refine wA .nilIface ?_
   simp only [zz]
   have HU8 := zH (HU7.out.next ht8)
   have HBT8 := zH (HBT7.out.turn ht8 (fun e => e))
   have HO8 := zH (show Own w8 w1.heap.size 5 (.slice A8 n8 c8) (mhead d ty fs) from own_base ho8 HU7.out.size)
   have HL8 := zH (show (mhead d ty fs).length ≤ 46 from by
    have h1 := hpart_len (fs := fs) HD.out HTY.out 2
    have h2 : hpart d ty fs 2 = mhead d ty fs := by
     unfold hpart
     rw [List.take_of_length_le (halves_len fs)]
     rfl
    rw [h2] at h1
    exact h1)
   have c1 : w8.cell? ⟨bm, 1, none⟩ = some (.slice A n c) := (HBM7.out.turn ht8 (fun e => e)).cell 1
   clear ho8 ht8 HU7 HBT7 HBM7
   go_upto_region 10 with fail
   go_wp2_with fail
   clear c1
   go_loopg [9, 39] n (fun gk bv jv wr => ∃ (j : Nat) (A' : Option Addr) (n' c' : Nat) (b : List UInt8), j + gk = n ∧ jv = .int .i64 (j : Int) ∧ bv = .slice A' n' c' ∧ Own wr w1.heap.size 5 (.slice A' n' c') b ∧ b.length ≤ 46 + 130 * j ∧ putFs d b (fs.drop j) = putFs d (mhead d ty fs) fs ∧ Blk wr bt 70 (tongA d) ∧ Turn nowhere w1 wr)
   case atStart => exact ⟨0, A8, n8, c8, _, by omega, rfl, rfl, HO8.out, by have := HL8.out; omega, rfl, HBT8.out, HU8.out⟩
   obtain ⟨j, Aj, nj, cj, bj, hjl, rfl, rfl, hoj, hlj, hpj, hbj, htr⟩ := hrel
   have HJL := zH hjl
   have HOJ := zH hoj
   have HLJ := zH hlj
   have HPJ := zH hpj
   have HBJ := zH hbj
   have HTR := zH htr
   clear hjl hoj hlj hpj hbj htr
   by_cases hlt : j < n
   ·have y1 : (j : Int) < (n : Int) := by omega
    have HLT := zH hlt
    obtain ⟨f, hff⟩ : ∃ f, fs[j]? = some f := ⟨_, List.getElem?_eq_getElem (show j < fs.length from by rw [HNL.out]; exact hlt)⟩
    obtain ⟨bF, oF, rfl, hrow⟩ := HF.out.2.2 (by omega)
    have HRR := zH (show wr.rangeAt bF (oF + j * 2) (fldA f).toList from fun i v hv => (HTR.out.cell (World.block_lt_of_cell? _ _ (hrow j f hff i v hv)) (fun e => e)).trans (hrow j f hff i v hv))
    obtain ⟨m1, hm1, hc1⟩ := HGD.out.2 f (List.mem_of_getElem? hff)
    obtain ⟨m, hm⟩ := Option.isSome_iff_exists.1 (form_of (d := 1) (d' := d) (no := f.1) (by rw [hm1]; rfl))
    have HM := zH hm
    have HAT := zH (putFs_at (r0 := []) hff hm HPJ.out)
    clear hlt hff hrow hm1 hc1 hm
    go_upto_region 12 with fail
    refine wp_region_lit ?_
    refine wR (v := .pointer (some ⟨bF, oF + j * 2, none⟩)) rfl (gx_iaddr (i := j) (sz := 2) rfl rfl rfl Tryz.underlying22 size_field HLT.out (by omega)) ?_
    simp only [zz]
    refine wR (v := .agg (fldA f)) rfl (gx_loads rfl rfl HRR.out Tryz.underlying40 rfl (by rw [size_field]; rfl)) ?_
    simp only [zz]
    refine wR (v := .pointer (some ⟨wr.heap.size, 0, none⟩)) (w' := wr.alloc (.cells #[.int .i64 0, strV []] 40)) rfl (gx_alloc rfl (zero_field _)) ?_
    simp only [zz]
    have hb7 := Blk.new wr 40 #[.int .i64 0, strV []]
    have hu7 := HTR.out.alloc (.cells #[.int .i64 0, strV []] 40)
    obtain ⟨g7, hg7⟩ : ∃ g7, g7 = wr.heap.size := ⟨_, rfl⟩
    rw [← hg7] at hb7 ⊢
    have HG7 := zH (show w1.heap.size ≤ g7 from by rw [hg7]; exact HTR.out.size)
    have HRG := zH (show wr.heap.size ≤ g7 from by rw [hg7]; exact Nat.le_refl _)
    have hr7 := (Turn.refl nowhere wr).alloc (.cells #[.int .i64 0, strV []] 40)
    clear hg7
    generalize wr.alloc (.cells #[.int .i64 0, strV []] 40) = w2 at *
    refine wpList_store_row rfl 40 (.tmp 11) (.tmp 42) rfl (fldA f) hb7 rfl rfl rfl (by rw [size_field]; rfl) (fldA_one f) ?_
    intro w3 hb3 hu3
    have HB7 := zH hb3
    have HU3 := zH (hu7.trans hu3 (fun k hk e => by
     have := HG7.out
     have e : k = g7 := e
     omega))
    have HR3 := zH (hr7.trans hu3 (fun k hk e => by
     have := HRG.out
     have e : k = g7 := e
     omega))
    clear hb7 hu7 hb3 hu3 HRR hr7 HRG
    simp only [zz]
    have d0 : w3.cell? ⟨g7, 0, none⟩ = some (.int .i64 f.1) := HB7.out.cell 0
    have HBT3 := zH (HBJ.out.turn HR3.out (fun e => e))
    go_upto_region 13 with fail
    refine wp_region_lit ?_
    refine wR (v := tongV d) rfl (gx_loads rfl rfl (blk_range HBT3.out) Tryz.underlying70 rfl (by rw [size_tongue]; rfl)) ?_
    simp only [zz]
    refine wR (v := .pointer (some ⟨g7, 0, none⟩)) rfl (exec_field (off := 0) (d := 0) rfl rfl (by kernel_rfl)) ?_
    simp only [zz]
    refine wR (v := .int .i64 f.1) rfl (exec_load1 rfl rfl (by kernel_rfl) d0) ?_
    simp only [zz]
    refine wpList_op rfl fun K9 HK9 => ?_
    go_wp2_with fail
    refine (form_walk (s := s) (d := d) (HE.out.tab.turn HU3.out) (HE.out.sen.turn HU3.out)).mono ?_
    rintro e w4 ⟨rfl, ht4⟩
    refine HK9.out _ _ ?_
    clear HK9
    try simp only [zz]
    have HU4 := zH (HU3.out.next ht4)
    have HB4 := zH (HB7.out.turn ht4 (fun e => e))
    have HBT4 := zH (HBT3.out.turn ht4 (fun e => e))
    have HO4 := zH (own_still (own_still HOJ.out HR3.out) ht4)
    clear ht4 HU3 HB7 d0 HBT3 HR3
    have hfr : formR s d f.1 = .tuple #[fmV m, .nilIface] := by unfold formR; rw [HM.out]
    rw [hfr]
    clear hfr
    refine wM (.tuple #[fmV m, .nilIface]) ?_
    simp only [zz]
    refine wE (fmV m) ?_
    simp only [zz]
    refine wE .nilIface ?_
    simp only [zz]
    refine wR (v := .pointer (some ⟨w4.heap.size, 0, none⟩)) (w' := w4.alloc (.cells #[.int .i64 0, .int .i64 0, .int .i64 0] 49)) rfl (gx_alloc rfl (mzero_form _)) ?_
    simp only [zz]
    have hb8 := Blk.new w4 49 #[.int .i64 0, .int .i64 0, .int .i64 0]
    have hu8 := HU4.out.alloc (.cells #[.int .i64 0, .int .i64 0, .int .i64 0] 49)
    have hb78 := HB4.out.alloc (.cells #[.int .i64 0, .int .i64 0, .int .i64 0] 49)
    have hbt8 := HBT4.out.alloc (.cells #[.int .i64 0, .int .i64 0, .int .i64 0] 49)
    have ho8 := own_still HO4.out ((Turn.refl nowhere w4).alloc (.cells #[.int .i64 0, .int .i64 0, .int .i64 0] 49))
    obtain ⟨g8, hg8⟩ : ∃ g8, g8 = w4.heap.size := ⟨_, rfl⟩
    rw [← hg8] at hb8 ⊢
    have HG8 := zH (show w1.heap.size ≤ g8 from by rw [hg8]; exact HU4.out.size)
    have HN8 := zH (show g7 ≠ g8 from by have := HB4.out.lt; omega)
    have HNT := zH (show bt ≠ g8 from by have := HBT4.out.lt; omega)
    have HNO := zH (show ∀ k, (Value.slice Aj nj cj).ownBlock = some k → k ≠ g8 from fun k hk => by have := own_lt8 HO4.out hk; omega)
    clear hg8
    generalize w4.alloc (.cells #[.int .i64 0, .int .i64 0, .int .i64 0] 49) = w5 at *
    refine wpList_store_row rfl 49 (.tmp 12) (.tmp 48) rfl #[.int .i64 m.kind, .int .i64 m.size, .int .i64 m.code] hb8 rfl rfl rfl (by rw [size_form]; rfl) (fm3_one _ _ _) ?_
    intro w6 hb6 hu6
    have HB8 := zH hb6
    have HB7 := zH (hb78.turn hu6 (fun e => HN8.out e))
    have HBT6 := zH (hbt8.turn hu6 (fun e => HNT.out e))
    have HO6 := zH (own_turn8 ho8 hu6 (fun k hk e => HNO.out k hk e))
    have HU6 := zH (hu8.trans hu6 (fun k hk e => by
     have := HG8.out
     have e : k = g8 := e
     omega))
    clear hb8 hu8 hb78 hb6 hu6 HB4 HU4 HBT4 hbt8 ho8 HO4 HNO
    simp only [zz]
    go_upto_region 16 with fail
    have hS0 : Blk w6.drew g7 40 (fldA f) ∧ Blk w6.drew g8 49 #[.int .i64 m.kind, .int .i64 m.size, .int .i64 m.code] ∧ Blk w6.drew bt 70 (tongA d) := ⟨HB7.out, HB8.out, HBT6.out⟩
    have HU6d : Hid (Turn nowhere w1 w6.drew) := zH HU6.out.drew
    have HO6d : Hid (Own w6.drew w1.heap.size 5 (.slice Aj nj cj) bj) := zH HO6.out
    clear HB7 HB8 HBT6 HU6 HO6
    refine wp_region_alw (fun W => Blk W g7 40 (fldA f) ∧ Blk W g8 49 #[.int .i64 m.kind, .int .i64 m.size, .int .i64 m.code] ∧ Blk W bt 70 (tongA d)) (by kernel_rfl) ?_
    generalize w6.drew = w7 at *
    refine aT (i := 0) (v := .slice Aj nj cj) rfl (by kernel_rfl) (by kernel_rfl) (fun W hW => exec_move rfl rfl) hS0 ?_
    simp only [zz]
    refine aT (i := 1) (v := .pointer (some ⟨g7, 0, none⟩)) rfl (by kernel_rfl) (by kernel_rfl) (fun W hW => exec_field (off := 0) (d := 0) rfl rfl (by kernel_rfl)) hS0 ?_
    simp only [zz]
    refine aT (i := 2) (v := .int .i64 f.1) rfl (by kernel_rfl) (by kernel_rfl) (fun W hW => exec_load1 rfl rfl (by kernel_rfl) (hW.1.cell 0)) hS0 ?_
    simp only [zz]
    refine aT (i := 3) (v := fmV m) rfl (by kernel_rfl) (by kernel_rfl) (fun W hW => gx_loads rfl rfl (blk_range hW.2.1) Tryz.underlying49 rfl (by rw [size_form]; rfl)) hS0 ?_
    simp only [zz]
    refine aT (i := 4) (v := .pointer (some ⟨g7, 1, none⟩)) rfl (by kernel_rfl) (by kernel_rfl) (fun W hW => exec_field (off := 0) (d := 1) rfl rfl (by kernel_rfl)) hS0 ?_
    simp only [zz]
    refine aT (i := 5) (v := strV f.2) rfl (by kernel_rfl) (by kernel_rfl) (fun W hW => exec_load1 rfl rfl (by kernel_rfl) (hW.1.cell 1)) hS0 ?_
    simp only [zz]
    refine aT (i := 6) (v := tongV d) rfl (by kernel_rfl) (by kernel_rfl) (fun W hW => gx_loads rfl rfl (blk_range hW.2.2) Tryz.underlying70 rfl (by rw [size_tongue]; rfl)) hS0 ?_
    simp only [zz]
    refine aT (i := 7) (v := .pointer (some ⟨g7, 0, none⟩)) rfl (by kernel_rfl) (by kernel_rfl) (fun W hW => exec_field (off := 0) (d := 0) rfl rfl (by kernel_rfl)) hS0 ?_
    simp only [zz]
    refine aT (i := 8) (v := .int .i64 f.1) rfl (by kernel_rfl) (by kernel_rfl) (fun W hW => exec_load1 rfl rfl (by kernel_rfl) (hW.1.cell 0)) hS0 ?_
    simp only [zz]
    refine alw_step (i := 9) (by kernel_rfl) rfl rfl ?_
    intro K1 HK1
    go_wp2_with fail
    refine (unsaid_walk d f.1 _).mono ?_
    rintro e w9 ⟨rfl, ht9⟩
    have hS1 : Blk w9 g7 40 (fldA f) ∧ Blk w9 g8 49 #[.int .i64 m.kind, .int .i64 m.size, .int .i64 m.code] ∧ Blk w9 bt 70 (tongA d) := ⟨hS0.1.turn ht9 (fun e => e), hS0.2.1.turn ht9 (fun e => e), hS0.2.2.turn ht9 (fun e => e)⟩
    refine HK1.out _ _ ⟨hS1, ?_⟩
    have HU9 := zH (HU6d.out.next ht9)
    have HO9 := zH (own_still HO6d.out ht9)
    clear HK1 hS0 HU6d HO6d ht9
    try simp only [zz]
    refine alw_step (i := 10) (by kernel_rfl) rfl rfl ?_
    intro K1 HK1
    go_wp2_with fail
    refine trim_walk.mono ?_
    rintro e w10 ⟨rfl, rfl⟩
    refine HK1.out _ _ ⟨hS1, ?_⟩
    clear HK1
    try simp only [zz]
    refine alw_step (i := 11) (by kernel_rfl) rfl rfl ?_
    intro K1 HK1
    go_wp2_with fail
    refine (mput_walk (s := s) (no := f.1) (f := m) (t := say d f) (HE.out.sen.turn HU9.out) (HE.out.rows.turn HU9.out) (own_bs HO9.out).1 (by have h1 := own_len HO9.out; have h2 := HLJ.out; have h3 := HLT.out; have h4 := HML.out; omega)).mono ?_
    rintro e w11 ⟨A11, n11, c11, rfl, ho11, ht11⟩
    have hS2 : Blk w11 g7 40 (fldA f) ∧ Blk w11 g8 49 #[.int .i64 m.kind, .int .i64 m.size, .int .i64 m.code] ∧ Blk w11 bt 70 (tongA d) := ⟨hS1.1.turn ht11 (fun e => e), hS1.2.1.turn ht11 (fun e => e), hS1.2.2.turn ht11 (fun e => e)⟩
    refine HK1.out _ _ ⟨hS2, ?_⟩
    have HU11 := zH (HU9.out.next ht11)
    have HO11 := zH (own_base ho11 HU9.out.size)
    clear HK1 hS1 HU9 HO9 ht11 ho11
    try simp only [zz]
    obtain ⟨wv, hwv⟩ : ∃ wv, wv = wrapV s f.1 (m.check (say d f)) := ⟨_, rfl⟩
    rw [← hwv]
    have HWV := zH hwv
    clear hwv
    refine aT (i := 12) (v := .tuple #[.slice A11 n11 c11, wv]) rfl (by kernel_rfl) (by kernel_rfl) (fun W hW => exec_move rfl rfl) hS2 ?_
    simp only [zz]
    refine aT (i := 13) (v := .slice A11 n11 c11) rfl (by kernel_rfl) (by kernel_rfl) (fun W hW => ix_extract rfl rfl rfl) hS2 ?_
    simp only [zz]
    refine aT (i := 14) (v := wv) rfl (by kernel_rfl) (by kernel_rfl) (fun W hW => ix_extract rfl rfl rfl) hS2 ?_
    simp only [zz]
    refine aT (i := 15) (v := .slice A11 n11 c11) rfl (by kernel_rfl) (by kernel_rfl) (fun W hW => gx_assign rfl rfl) hS2 ?_
    simp only [zz]
    refine aT (i := 16) (v := wv) rfl (by kernel_rfl) (by kernel_rfl) (fun W hW => gx_assign rfl rfl) hS2 ?_
    simp only [zz]
    refine alw_done rfl ?_
    have HBT11 := zH hS2.2.2
    clear hS2
    refine NoPanic.normal ?_
    by_cases hc : m.check (say d f) = 0
    ·have hwn : wv = .nilIface := by rw [HWV.out, hc]; rfl
     subst hwn
     have HO12 := zH (show Own w11 w1.heap.size 5 (.slice A11 n11 c11) (bj ++ m.put (say d f)) from by
      have h := HO11.out
      unfold putR at h
      rw [if_pos hc] at h
      exact h)
     have HNX := zH (HAT.out.1 hc)
     have HPL := zH (show (m.put (say d f)).length ≤ 130 from by
      obtain ⟨k1, s1, hm1, hk1, hs1, _⟩ := form_nf HM.out
      rw [hm1] at hc ⊢
      have := put_cap hk1 HD.out hs1 ((check_zero hk1 HD.out hs1).1 hc)
      omega)
     clear hc HO11
     go_wp2_with fail
     go_roundg (gk - 1)
     case measure => have := HJL.out; have := HLT.out; omega
     case rel => exact ⟨j + 1, A11, n11, c11, _, by have := HJL.out; have := HLT.out; omega, by go_num, rfl, HO12.out, by rw [List.length_append]; have := HLJ.out; have := HPL.out; omega, HNX.out, HBT11.out, HU11.out⟩
    ·have h41 := check41 HD.out HM.out hc
     have hwn : wv = feV f.1 s.text := by rw [HWV.out, h41]; rfl
     subst hwn
     have HER := zH (show mencode (d : Int) ty fs = .error 41 from by rw [HR2.out, HAT.out.2 hc])
     clear hc h41
     unfold feV
     go_wp2_with fail
     go_ret2
     exact encP_err HER.out (ErrV.text f.1) (HU.out.next HU11.out)
   ·have y1 : ¬ ((j : Int) < (n : Int)) := by omega
    have HOK := zH (show mencode (d : Int) ty fs = .ok bj from by
     have h := HPJ.out
     rw [List.drop_eq_nil_iff.2 (by rw [HNL.out]; omega)] at h
     rw [HR2.out, ← h]
     rfl)
    clear hlt
    go_wp2_with fail
    go_ret2
    rw [HOK.out]
    exact ⟨_, _, _, _, rfl, ErrV.nil, own_base HOJ.out HU.out.size, HU.out.next HTR.out⟩
  ·have HER := zH (show mencode (d : Int) ty fs = .error (mcheck ty fs) from by rw [HR.out, if_neg hck])
   obtain ⟨t9, x9, hv9⟩ := errV_some HCV.out hck
   have HV := HCV.out
   rw [hv9] at HV ⊢
   have HV9 := zH HV
   clear hck hv9 HCV HV HR
   go_wp2_with fail
   go_ret2
   exact encP_err HER.out HV9.out (HU.out.next HU7.out)
 ·have HER := zH (show mencode dd ty fs = .error 50 from by unfold mencode; rw [if_neg hd])
  refine wpList_op rfl fun K9 HK9 => ?_
  go_wp2_with fail
  refine (tongueOf_bad (s := s) hd HE.out.sen).mono ?_
  rintro e w2 ⟨rfl, ht2⟩
  refine HK9.out _ _ ?_
  clear HK9
  try simp only [zz]
  have HU2 := zH ht2
  have HB2 := zH (HB.out.turn ht2 (fun e => e))
  clear ht2 HB hd
  refine wM (.tuple #[.agg #[.int .i64 0, strV [], strV []], errS s.dialect]) ?_
  simp only [zz]
  refine wE (.agg #[.int .i64 0, strV [], strV []]) ?_
  simp only [zz]
  refine wE (errS s.dialect) ?_
  simp only [zz]
  refine wR (v := .pointer (some ⟨w2.heap.size, 0, none⟩)) (w' := w2.alloc (.cells #[.int .i64 0, strV [], strV []] 70)) rfl (gx_alloc rfl (zero_tongue _)) ?_
  simp only [zz]
  have hb8 := Blk.new w2 70 #[.int .i64 0, strV [], strV []]
  have hu8 := HU2.out.alloc (.cells #[.int .i64 0, strV [], strV []] 70)
  have hbm8 := HB2.out.alloc (.cells #[.int .i64 0, strV [], strV []] 70)
  obtain ⟨bt, hbt⟩ : ∃ bt, bt = w2.heap.size := ⟨_, rfl⟩
  rw [← hbt] at hb8 ⊢
  have HG8 := zH (show w1.heap.size ≤ bt from by rw [hbt]; exact HU2.out.size)
  have HN8 := zH (show bm ≠ bt from by have := HB2.out.lt; omega)
  clear hbt
  generalize w2.alloc (.cells #[.int .i64 0, strV [], strV []] 70) = w5 at *
  refine wpList_store_row rfl 70 (.tmp 6) (.tmp 17) rfl #[.int .i64 0, strV [], strV []] hb8 rfl rfl rfl (by rw [size_tongue]; rfl) zeroT_one ?_
  intro w6 hb6 hu6
  have HBT := zH hb6
  have HBM := zH (hbm8.turn hu6 (fun e => HN8.out e))
  have HU6 := zH (hu8.trans hu6 (fun k hk e => by
   have := HG8.out
   have e : k = bt := e
   omega))
  clear hb8 hu8 hbm8 hb6 hu6 HB2 HU2
  simp only [zz]
  unfold errS
  go_wp2_with fail
  go_ret2
  exact encP_err HER.out ErrV.dialect (HU.out.next HU6.out)
def EncodeP (r : Except Int (List UInt8)) (w : World) (e : Ending) (w' : World) : Prop := ∃ A n c, e = .returned (.tuple #[.slice A n c, .int .i64 (codeE r)]) ∧ Own w' w.heap.size 5 (.slice A n c) (bytesE r) ∧ Turn nowhere w w'
theorem Encode_walk {s : Sents} {w : World} {dd ty : Int} {A : Option Addr} {n c : Nat} {fs : List Fld} (he : Env s w) (hf : Fl w A n fs) :
 Calls Tryz.prog 8 #[.int .i64 dd, msgV ty A n c] w (EncodeP (mencode dd ty fs) w) := by
 have hu := (Turn.refl nowhere w).alloc (.cells #[.int .i64 ty, .slice A n c] 24)
 have hb := Blk.new w 24 #[.int .i64 ty, .slice A n c]
 obtain ⟨bm, hbm⟩ : ∃ bm, bm = w.heap.size := ⟨_, rfl⟩
 obtain ⟨w1, hw1⟩ : ∃ w1, w1 = w.alloc (.cells #[.int .i64 ty, .slice A n c] 24) := ⟨_, rfl⟩
 rw [← hw1] at hu hb
 rw [← hbm] at hb
 have HE := zH (he.turn hu)
 have HF := zH (hf.still hu)
 have HU := zH hu
 have HB := zH hb
 have HW := zH hw1
 have HBM := zH hbm
 clear he hf hu hb hw1 hbm
 unfold msgV
 go_enter Tryz.func8, Tryz.ntmps8
 go_upto_region 1 with fail
 have e1 := HW.out
 have e2 := HBM.out
 rw [← e1, ← e2]
 clear e1 e2 HW HBM
 refine wp_region_lit ?_
 refine wM (.int .i64 dd) ?_
 simp only [zz]
 refine wR (v := msgV ty A n c) rfl (gx_loads rfl rfl (blk_range HB.out) Tryz.underlying24 rfl (by rw [size_msg]; rfl)) ?_
 simp only [zz]
 refine wpList_op rfl fun K9 HK9 => ?_
 go_wp2_with fail
 refine (encode_walk (s := s) HE.out HF.out).mono ?_
 rintro e w2 ⟨A2, n2, c2, v2, rfl, hv2, ho2, ht2⟩
 refine HK9.out _ _ ?_
 clear HK9
 try simp only [zz]
 refine wM (.tuple #[.slice A2 n2 c2, v2]) ?_
 simp only [zz]
 refine wE (.slice A2 n2 c2) ?_
 simp only [zz]
 refine wE v2 ?_
 simp only [zz]
 refine wA (.slice A2 n2 c2) ?_
 simp only [zz]
 refine wA v2 ?_
 simp only [zz]
 have HV := zH hv2
 have HO := zH ho2
 have HT := zH ht2
 clear hv2 ho2 ht2 HB
 generalize mencode dd ty fs = r at *
 go_upto_region 2 with fail
 refine wp_region_lit ?_
 refine wM (.slice A2 n2 c2) ?_
 simp only [zz]
 refine wM v2 ?_
 simp only [zz]
 refine wpList_op rfl fun K9 HK9 => ?_
 go_wp2_with fail
 refine (tell_walk HV.out (HE.out.sen.turn HT.out)).mono ?_
 rintro e w3 ⟨rfl, ht3⟩
 refine HK9.out _ _ ?_
 clear HK9
 try simp only [zz]
 refine wA (.slice A2 n2 c2) ?_
 simp only [zz]
 refine wA (.int .i64 (codeE r)) ?_
 simp only [zz]
 have HT3 := zH ht3
 clear ht3
 go_wp2_with fail
 go_ret2
 exact ⟨_, _, _, rfl, own_base (own_still HO.out HT3.out) HU.out.size, (HU.out.next HT.out).next HT3.out⟩
theorem Check_walk {s : Sents} {w : World} {ty : Int} {A : Option Addr} {n c : Nat} {fs : List Fld} (he : Env s w) (hf : Fl w A n fs) :
 Calls Tryz.prog 10 #[msgV ty A n c] w fun e w' => e = .returned (.int .i64 (mcheck ty fs)) ∧ Turn nowhere w w' := by
 have hu := (Turn.refl nowhere w).alloc (.cells #[.int .i64 ty, .slice A n c] 24)
 have hb := Blk.new w 24 #[.int .i64 ty, .slice A n c]
 obtain ⟨bm, hbm⟩ : ∃ bm, bm = w.heap.size := ⟨_, rfl⟩
 obtain ⟨w1, hw1⟩ : ∃ w1, w1 = w.alloc (.cells #[.int .i64 ty, .slice A n c] 24) := ⟨_, rfl⟩
 rw [← hw1] at hu hb
 rw [← hbm] at hb
 have HE := zH (he.turn hu)
 have HF := zH (hf.still hu)
 have HU := zH hu
 have HB := zH hb
 have HW := zH hw1
 have HBM := zH hbm
 clear he hf hu hb hw1 hbm
 unfold msgV
 have HV := zH (checkV_ok s ty fs)
 go_enter Tryz.func10, Tryz.ntmps10
 go_upto_region 1 with fail
 have e1 := HW.out
 have e2 := HBM.out
 rw [← e1, ← e2]
 clear e1 e2 HW HBM
 refine wp_region_lit ?_
 refine wR (v := msgV ty A n c) rfl (gx_loads rfl rfl (blk_range HB.out) Tryz.underlying24 rfl (by rw [size_msg]; rfl)) ?_
 simp only [zz]
 refine wpList_op rfl fun K9 HK9 => ?_
 go_wp2_with fail
 refine (check_walk2 (s := s) HE.out.tab HE.out.sen HE.out.rows HF.out).mono ?_
 rintro e w2 ⟨rfl, ht2⟩
 refine HK9.out _ _ ?_
 clear HK9
 try simp only [zz]
 have HT := zH ht2
 clear ht2 HB
 generalize checkV s ty fs = v at *
 refine wpList_op rfl fun K9 HK9 => ?_
 go_wp2_with fail
 refine (tell_walk HV.out (HE.out.sen.turn HT.out)).mono ?_
 rintro e w3 ⟨rfl, ht3⟩
 refine HK9.out _ _ ?_
 clear HK9
 try simp only [zz]
 go_wp2_with fail
 go_ret
 exact ⟨rfl, (HU.out.next HT.out).next ht3⟩
end Go.Proofs.YticofobhkmabiaaGreatDoor
