/-
  Texts in one file: MsFb MsFc MsUx. Conditions: the tables and the errors read as the program's text lays them.
-/
import Derived.Test.YtfnillibngijaaaGreatDoorJB12
import Derived.Test.YtfnillibngijaaaGreatDoorJB17
import Derived.Test.YtfnillibngijaaaGreatDoorJB0
import Derived.Laws.BitsAllLaws
namespace Go.Proofs.YtfnillibngijaaaGreatDoor
open Go.RowKit
open Fdd
set_option linter.unusedVariables false
set_option linter.unusedSimpArgs false
theorem blk_range {W : World} {g : Nat} {t : TypeId} {cs : Array Value} (h : Blk W g t cs) : W.rangeAt g 0 cs.toList := fun j v hj => by
  rw [Nat.zero_add, h.cell j]
  simpa using hj
theorem gx_iface {P : Program} {a : Act} {o : Oper} {W : World} {t : TypeId} {x : Operand} {v r : Value} (ho : o.op = .makeInterface t x) (hx : a.eval x = v) (h : (Instr.makeInterface t v).run P W = .ok r W) : (execOp a.eval o).run P W = .ok (.value r) W := by
  unfold execOp
  simp only [ho, hx, h, Sem.run_bind, Sem.run_pure, Result.andThen_ok]
theorem mk_fe (v : Value) (W : World) : (Instr.makeInterface 111 v).run Tryz.prog W = .ok (.iface 111 v) W := by kernel_rfl
theorem build_fe (no : Int) (v : Value) (W : World) : (Instr.build 111 #[(0, .int .i64 no), (1, .iface 237 v)]).run Tryz.prog W = .ok (.agg #[.int .i64 no, .iface 237 v]) W := by kernel_rfl
theorem msize_row : (Tryz.prog.info? 131).map (·.size) = some 3 := by kernel_rfl
theorem mzero_row (w : World) : (zeroValue 131).run Tryz.prog w = .ok (.agg #[.int .i64 0, .int .i64 0, .int .i64 0]) w := by kernel_rfl
theorem build_form0 (W : World) : (Instr.build 104 #[]).run Tryz.prog W = .ok (.agg #[.int .i64 0, .int .i64 0, .int .i64 0]) W := by kernel_rfl
def rowA (r : Int × Int × Int) : Array Value := #[.int .i64 r.1, .int .i64 r.2.1, .int .i64 r.2.2]
theorem rowA_one (r : Int × Int × Int) : ∀ v ∈ (rowA r).toList, v.oneCell' = true := fun v hv => by
  unfold rowA at hv
  simp only [List.mem_cons, List.not_mem_nil, or_false] at hv
  rcases hv with rfl | rfl | rfl <;> rfl
theorem fm3_one (a b c : Int) : ∀ v ∈ (#[.int .i64 a, .int .i64 b, .int .i64 c] : Array Value).toList, v.oneCell' = true := rowA_one (a, b, c)
theorem rows_range {W : World} {b off : Nat} (h : ∀ i v, rowCells[i]? = some v → W.cell? ⟨b, off + i, none⟩ = some v) {j : Nat} {r : Int × Int × Int} (hr : mrows[j]? = some r) : W.rangeAt b (off + j * 3) (rowA r).toList := by
  have key : ∀ j : Fin 17, ∀ i : Fin 3, rowCells[j.val * 3 + i.val]? = ((mrows[j.val]?).map rowA).bind fun a => a[i.val]? := by
    intro j i
    have hj : j.val < 17 := j.isLt
    have hi : i.val < 3 := i.isLt
    obtain ⟨j, _⟩ := j
    obtain ⟨i, _⟩ := i
    simp only
    have hjj : j = 0 ∨ j = 1 ∨ j = 2 ∨ j = 3 ∨ j = 4 ∨ j = 5 ∨ j = 6 ∨ j = 7 ∨ j = 8 ∨ j = 9 ∨ j = 10 ∨ j = 11 ∨ j = 12 ∨ j = 13 ∨ j = 14 ∨ j = 15 ∨ j = 16 := by omega
    have hii : i = 0 ∨ i = 1 ∨ i = 2 := by omega
    rcases hii with rfl | rfl | rfl <;> rcases hjj with rfl | rfl | rfl | rfl | rfl | rfl | rfl | rfl | rfl | rfl | rfl | rfl | rfl | rfl | rfl | rfl | rfl <;> rfl
  have hj : j < 17 := (List.getElem?_eq_some_iff.1 hr).1
  intro i v hv
  rw [Nat.add_assoc]
  have hi : i < 3 := by
    have := (List.getElem?_eq_some_iff.1 hv).1
    simpa [rowA] using this
  refine h _ v ?_
  have := key ⟨j, hj⟩ ⟨i, hi⟩
  simp only [hr, Option.map_some, Option.bind_some] at this
  rw [this]
  simpa using hv
set_option maxRecDepth 20000 in
theorem unsaid_walk (d : Nat) (no : Int) (w : World) :
    Calls Tryz.prog 49 #[tongV d, .int .i64 no] w fun e w' => e = .returned (strV (unsaid d no)) ∧ Turn nowhere w w' := by
  by_cases h4 : no = 4
  · subst h4
    unfold tongV tongA
    generalize unsaid d 4 = u
    generalize ver d = v
    go_enter Tryz.func49, Tryz.ntmps49
    go_wp2
    go_ret
    exact ⟨rfl, (Turn.refl nowhere w).alloc _⟩
  · have hu : unsaid d no = [] := by
      unfold unsaid
      rw [if_neg (fun h => h4 h.2)]
    rw [hu]
    clear hu
    unfold tongV tongA
    generalize unsaid d 4 = u
    generalize ver d = v
    go_enter Tryz.func49, Tryz.ntmps49
    go_wp2
    go_ret
    exact ⟨rfl, (Turn.refl nowhere w).alloc _⟩
/-- what form answers -/
def formR (s : Sents) (d : Nat) (no : Int) : Value := match mform d no with
  | some m => .tuple #[fmV m, .nilIface]
  | none => .tuple #[.agg #[.int .i64 0, .int .i64 0, .int .i64 0], .iface 111 (.agg #[.int .i64 no, errS s.field])]
theorem mform_at {d : Nat} {no : Int} {j : Nat} {r : Int × Int × Int} (hr : mrows[j]? = some r) (hm : mfind no (mrows.drop j) = mfind no mrows) : (r.1 = no → mform d no = some ⟨r.2.1, r.2.2 - (unsaid d no).length, (d : Int)⟩) ∧ (r.1 ≠ no → mfind no (mrows.drop (j + 1)) = mfind no mrows) := by
  obtain ⟨hj, hrj⟩ := List.getElem?_eq_some_iff.1 hr
  have hd : mrows.drop j = r :: mrows.drop (j + 1) := by rw [← hrj]; exact List.drop_eq_getElem_cons hj
  have hf : mfind no (r :: mrows.drop (j + 1)) = if r.1 = no then some r.2 else mfind no (mrows.drop (j + 1)) := rfl
  rw [hd, hf] at hm
  refine ⟨fun h => ?_, fun h => ?_⟩
  · rw [if_pos h] at hm
    unfold mform
    rw [← hm]
    rfl
  · rw [if_neg h] at hm
    exact hm
set_option maxRecDepth 20000 in
set_option maxHeartbeats 1000000 in
theorem form_walk {s : Sents} {w : World} {d : Nat} {no : Int} (ht : Tab w) (hs : Sen s w) :
    Calls Tryz.prog 46 #[tongV d, .int .i64 no] w fun e w' => e = .returned (formR s d no) ∧ Turn nowhere w w' := by
  have hW : ∃ w1 b0 bt, w1 = (w.alloc (.cells (tongA d) 98)).alloc (.cells #[.int .i64 0, .int .i64 0, .int .i64 0] 104) ∧ bt = w.heap.size ∧ b0 = w.heap.size + 1 := ⟨_, _, _, rfl, rfl, rfl⟩
  obtain ⟨w1, b0, bt, hw1, hbt, hb0⟩ := hW
  have hU : Turn nowhere w w1 := by rw [hw1]; exact ((Turn.refl nowhere w).alloc _).alloc _
  have hBt : Blk w1 bt 98 (tongA d) := by rw [hw1, hbt]; exact (Blk.new w _ _).alloc _
  have hB0 : Blk w1 b0 104 #[.int .i64 0, .int .i64 0, .int .i64 0] := by
    rw [hw1, hb0]
    have := Blk.new (w.alloc (.cells (tongA d) 98)) 104 #[.int .i64 0, .int .i64 0, .int .i64 0]
    simpa using this
  have HLG := Lib.hid (World.block_lt_of_cell? _ _ hs.field.1)
  have hT1 := ht.turn hU
  have hS1 := hs.turn hU
  obtain ⟨bR, oR, cR, hg6, hcells⟩ := hT1.rows
  have HG := Lib.hid hbt
  have HG0 := Lib.hid hb0
  have HU := Lib.hid hU
  have HBT := Lib.hid hBt
  have HB0 := Lib.hid hB0
  have HS := Lib.hid hS1
  have HC := Lib.hid hcells
  have HW := Lib.hid hw1
  clear hU hBt hB0 hT1 hS1 hcells ht hs hw1 hbt hb0
  go_enter Tryz.func46, Tryz.ntmps46
  go_upto_region 1 with fail
  have e0 := HG0.out
  have e1 := HG.out
  have e2 := HW.out
  change Code.wp _ _ _ _ ((w.alloc (.cells (tongA d) 98)).alloc (.cells #[.int .i64 0, .int .i64 0, .int .i64 0] 104))
  rw [← e2, ← e0, ← e1]
  clear e0 e1 e2 HW
  go_wp2_with fail
  go_loopg [10] 17 (fun gk jv wr => ∃ j : Nat, j + gk = 17 ∧ jv = .int .i64 (j : Int) ∧ mfind no (mrows.drop j) = mfind no mrows ∧ Turn nowhere w1 wr)
  case atStart => exact ⟨0, by omega, rfl, rfl, Turn.refl _ _⟩
  obtain ⟨j, hjl, rfl, hfind, htr⟩ := hrel
  have HJL := Lib.hid hjl
  have HF := Lib.hid hfind
  have HTR := Lib.hid htr
  clear hjl hfind htr hg6
  by_cases hlt : j < 17
  · have y1 : (j : Int) < 17 := by omega
    have HLT := Lib.hid hlt
    obtain ⟨r, hr⟩ : ∃ r, mrows[j]? = some r := ⟨_, List.getElem?_eq_getElem (show j < mrows.length from hlt)⟩
    have HM := Lib.hid (mform_at (d := d) (no := no) hr HF.out)
    have HRR := Lib.hid (rows_range (fun i v h => (HTR.out.cell (World.block_lt_of_cell? _ _ (HC.out i v h)) (fun e => e)).trans (HC.out i v h)) hr)
    have HBD := Lib.hid (show -9223372036854775808 ≤ r.2.2 - ((unsaid d no).length : Int) ∧ r.2.2 - ((unsaid d no).length : Int) ≤ 9223372036854775807 from by
      have h1 := (mrows_all r (List.mem_of_getElem? hr)).2.1
      rcases unsaid_len d no with h | ⟨h, _⟩ <;> rw [h] <;> simp only [List.length_nil, List.length_cons] <;> omega)
    clear hlt hr
    go_upto_region 3 with fail
    refine wp_region_lit ?_
    refine wpList_run (v := .pointer (some ⟨bR, oR + j * 3, none⟩)) rfl (gx_iaddr (i := j) (sz := 3) rfl rfl rfl Tryz.underlying129 (by kernel_rfl) HLT.out (by omega)) ?_
    simp only [Act.put, List.setIfInBounds_toArray, List.set_cons_zero, List.set_cons_succ]
    refine wpList_run (v := .agg (rowA r)) rfl (gx_loads rfl rfl HRR.out Tryz.underlying131 rfl (by rw [msize_row]; rfl)) ?_
    simp only [Act.put, List.setIfInBounds_toArray, List.set_cons_zero, List.set_cons_succ]
    refine wpList_run (v := .pointer (some ⟨wr.heap.size, 0, none⟩)) (w' := wr.alloc (.cells #[.int .i64 0, .int .i64 0, .int .i64 0] 131)) rfl (gx_alloc rfl (mzero_row _)) ?_
    simp only [Act.put, List.setIfInBounds_toArray, List.set_cons_zero, List.set_cons_succ]

    have hb7 := Blk.new wr 131 #[.int .i64 0, .int .i64 0, .int .i64 0]
    have hu7 := HTR.out.alloc (.cells #[.int .i64 0, .int .i64 0, .int .i64 0] 131)
    obtain ⟨g7, hg7⟩ : ∃ g7, g7 = wr.heap.size := ⟨_, rfl⟩
    rw [← hg7] at hb7 ⊢
    have HG7 := Lib.hid (show w1.heap.size ≤ g7 from by rw [hg7]; exact HTR.out.size)
    clear hg7
    generalize wr.alloc (.cells #[.int .i64 0, .int .i64 0, .int .i64 0] 131) = w2 at *
    refine wpList_store_row rfl 131 (.tmp 7) (.tmp 13) rfl (rowA r) hb7 rfl rfl rfl (by rw [msize_row]; rfl) (rowA_one r) ?_
    intro w3 hb3 hu3
    have HB7 := Lib.hid hb3
    have HU3 := Lib.hid (hu7.trans hu3 (fun k hk e => by
      have := HG7.out
      have e : k = g7 := e
      omega))
    clear hb7 hu7 hb3 hu3 HRR
    simp only [Act.put, List.setIfInBounds_toArray, List.set_cons_zero, List.set_cons_succ]
    have c0 : w3.cell? ⟨g7, 0, none⟩ = some (.int .i64 r.1) := HB7.out.cell 0
    go_upto_region 4 with fail
    refine wp_region_lit ?_
    refine wpList_run (v := .pointer (some ⟨g7, 0, none⟩)) rfl (exec_field (off := 0) (d := 0) rfl rfl (by kernel_rfl)) ?_
    simp only [Act.put, List.setIfInBounds_toArray, List.set_cons_zero, List.set_cons_succ]
    refine wpList_run (v := .int .i64 r.1) rfl (exec_load1 rfl rfl (by kernel_rfl) c0) ?_
    simp only [Act.put, List.setIfInBounds_toArray, List.set_cons_zero, List.set_cons_succ]
    refine wpList_run (v := .int .i64 no) rfl (exec_move rfl rfl) ?_
    simp only [Act.put, List.setIfInBounds_toArray, List.set_cons_zero, List.set_cons_succ]

    by_cases hrn : r.1 = no
    · have HRN := Lib.hid (HM.out.1 hrn)
      refine wpList_run (v := .bool true) rfl (ix_eql rfl rfl rfl (decide_eq_true hrn)) ?_
      simp only [Act.put, List.setIfInBounds_toArray, List.set_cons_zero, List.set_cons_succ]

      clear hrn c0 HM
      have HBT3 := Lib.hid (HBT.out.turn HU3.out (fun e => e))
      have HB03 := Lib.hid (HB0.out.turn HU3.out (fun e => e))
      have hne7 : g7 ≠ b0 := by
        have := HB0.out.lt
        have := HG7.out
        omega
      have hnet : bt ≠ b0 := by
        have := HG.out
        have := HG0.out
        omega
      have HN7 := Lib.hid hne7
      have HNT := Lib.hid hnet
      clear hne7 hnet
      go_upto_region 5 with fail
      have hS0 : Blk w3.drew g7 131 (rowA r) ∧ Blk w3.drew bt 98 (tongA d) := ⟨HB7.out, HBT3.out⟩
      have HU3d : Hid (Turn nowhere w1 w3.drew) := Lib.hid HU3.out.drew
      have HB0d : Hid (Blk w3.drew b0 104 #[.int .i64 0, .int .i64 0, .int .i64 0]) := Lib.hid HB03.out.drew
      clear HB7 HBT3 HU3 HB03
      refine wp_region_alw (fun W => Blk W g7 131 (rowA r) ∧ Blk W bt 98 (tongA d)) (by kernel_rfl) ?_
      generalize w3.drew = w4 at *
      refine alw_take (i := 0) (v := .pointer (some ⟨g7, 1, none⟩)) rfl (by kernel_rfl) (by kernel_rfl) (fun _ _ _ h => h) (.inl ⟨by rfl, fun W hW => exec_field (off := 0) (d := 1) rfl rfl (by kernel_rfl)⟩) hS0 ?_
      simp only [Act.put, List.setIfInBounds_toArray, List.set_cons_zero, List.set_cons_succ]
      refine alw_take (i := 1) (v := .int .i64 r.2.1) rfl (by kernel_rfl) (by kernel_rfl) (fun _ _ _ h => h) (.inl ⟨by rfl, fun W hW => exec_load1 rfl rfl (by kernel_rfl) (hW.1.cell 1)⟩) hS0 ?_
      simp only [Act.put, List.setIfInBounds_toArray, List.set_cons_zero, List.set_cons_succ]
      refine alw_take (i := 2) (v := .pointer (some ⟨g7, 2, none⟩)) rfl (by kernel_rfl) (by kernel_rfl) (fun _ _ _ h => h) (.inl ⟨by rfl, fun W hW => exec_field (off := 0) (d := 2) rfl rfl (by kernel_rfl)⟩) hS0 ?_
      simp only [Act.put, List.setIfInBounds_toArray, List.set_cons_zero, List.set_cons_succ]
      refine alw_take (i := 3) (v := .int .i64 r.2.2) rfl (by kernel_rfl) (by kernel_rfl) (fun _ _ _ h => h) (.inl ⟨by rfl, fun W hW => exec_load1 rfl rfl (by kernel_rfl) (hW.1.cell 2)⟩) hS0 ?_
      simp only [Act.put, List.setIfInBounds_toArray, List.set_cons_zero, List.set_cons_succ]
      refine alw_take (i := 4) (v := tongV d) rfl (by kernel_rfl) (by kernel_rfl) (fun _ _ _ h => h) (.inl ⟨by rfl, fun W hW => gx_loads rfl rfl (blk_range hW.2) Tryz.underlying98 rfl (by rw [size_tongue]; rfl)⟩) hS0 ?_
      simp only [Act.put, List.setIfInBounds_toArray, List.set_cons_zero, List.set_cons_succ]
      refine alw_take (i := 5) (v := .int .i64 no) rfl (by kernel_rfl) (by kernel_rfl) (fun _ _ _ h => h) (.inl ⟨by rfl, fun W hW => exec_move rfl rfl⟩) hS0 ?_
      simp only [Act.put, List.setIfInBounds_toArray, List.set_cons_zero, List.set_cons_succ]
      refine alw_take (i := 9) (v := .pointer (some ⟨bt, 0, none⟩)) rfl (by kernel_rfl) (by kernel_rfl) (fun _ _ _ h => h) (.inl ⟨by rfl, fun W hW => exec_field (off := 0) (d := 0) rfl rfl (by kernel_rfl)⟩) hS0 ?_
      simp only [Act.put, List.setIfInBounds_toArray, List.set_cons_zero, List.set_cons_succ]
      refine alw_take (i := 10) (v := .int .i64 (d : Int)) rfl (by kernel_rfl) (by kernel_rfl) (fun _ _ _ h => h) (.inl ⟨by rfl, fun W hW => exec_load1 rfl rfl (by kernel_rfl) (hW.2.cell 0)⟩) hS0 ?_
      simp only [Act.put, List.setIfInBounds_toArray, List.set_cons_zero, List.set_cons_succ]
      refine alw_step (i := 6) (by kernel_rfl) rfl rfl ?_
      intro K1 HK1
      go_wp2_with fail
      refine (unsaid_walk d no _).mono ?_
      rintro e w5 ⟨rfl, ht5⟩
      have hS1 : Blk w5 g7 131 (rowA r) ∧ Blk w5 bt 98 (tongA d) := ⟨hS0.1.turn ht5 (fun e => e), hS0.2.turn ht5 (fun e => e)⟩
      refine HK1.out _ _ ⟨hS1, ?_⟩
      have HU5 := Lib.hid (HU3d.out.trans ht5 (fun _ _ e => e))
      have HB05 := Lib.hid (HB0d.out.turn ht5 (fun e => e))
      clear HK1 hS0 HU3d HB0d ht5
      try simp only [Act.put, List.setIfInBounds_toArray, List.set_cons_zero, List.set_cons_succ]
      refine alw_take (i := 7) (v := .int .i64 ((unsaid d no).length : Int)) rfl (by kernel_rfl) (by kernel_rfl) (fun _ _ _ h => h) (.inl ⟨by rfl, fun W hW => exec_slen rfl rfl⟩) hS1 ?_
      simp only [Act.put, List.setIfInBounds_toArray, List.set_cons_zero, List.set_cons_succ]
      refine alw_take (i := 8) (v := .int .i64 (r.2.2 - ((unsaid d no).length : Int))) rfl (by kernel_rfl) (by kernel_rfl) (fun _ _ _ h => h) (.inl ⟨by rfl, fun W hW => ix_sub rfl rfl rfl rfl HBD.out⟩) hS1 ?_
      simp only [Act.put, List.setIfInBounds_toArray, List.set_cons_zero, List.set_cons_succ]
      refine alw_take (i := 11) (v := .agg #[.int .i64 r.2.1, .int .i64 (r.2.2 - ((unsaid d no).length : Int)), .int .i64 (d : Int)]) rfl (by kernel_rfl) (by kernel_rfl) (fun _ _ _ h => h) (.inl ⟨by rfl, fun W hW => exec_build3 rfl rfl rfl rfl (build_any _ _ _ _)⟩) hS1 ?_
      simp only [Act.put, List.setIfInBounds_toArray, List.set_cons_zero, List.set_cons_succ]
      refine alw_step (i := 12) (by kernel_rfl) rfl rfl ?_
      intro K2 HK2
      refine wp_store_rowU 104 (.tmp 4) (.tmp 29) rfl #[.int .i64 r.2.1, .int .i64 (r.2.2 - ((unsaid d no).length : Int)), .int .i64 (d : Int)] HB05.out rfl rfl rfl (by rw [size_form]; rfl) (fm3_one _ _ _) ?_
      intro w6 hB6 hU6
      have hS2 : Blk w6 g7 131 (rowA r) ∧ Blk w6 bt 98 (tongA d) := ⟨hS1.1.turn hU6 HN7.out, hS1.2.turn hU6 HNT.out⟩
      refine HK2.out _ _ ⟨hS2, ?_⟩
      have HB6 := Lib.hid hB6
      have HU6 := Lib.hid ((HU.out.trans HU5.out (fun _ _ e => e)).trans hU6 (fun k hk e => by
        have := HG0.out
        have e : k = b0 := e
        omega))
      clear HK2 hS1 HU5 HB05 hB6 hU6
      try simp only [Act.put, List.setIfInBounds_toArray, List.set_cons_zero, List.set_cons_succ]
      refine alw_take (i := 13) (v := .nilIface) rfl (by kernel_rfl) (by kernel_rfl) (fun _ _ _ h => h) (.inl ⟨by rfl, fun W hW => gx_assign rfl rfl⟩) hS2 ?_
      simp only [Act.put, List.setIfInBounds_toArray, List.set_cons_zero, List.set_cons_succ]
      refine alw_done rfl ?_
      clear hS2
      refine NoPanic.normal ?_
      go_wp2_with fail
      refine bodyPost_ret (v := .tuple #[.agg #[.int .i64 r.2.1, .int .i64 (r.2.2 - ((unsaid d no).length : Int)), .int .i64 (d : Int)], .nilIface]) (ret_cell2 rfl _ _ b0 _ _ _ rfl rfl HB6.out Tryz.underlying104 rfl (by rw [size_form]; rfl)) rfl ?_
      refine ⟨?_, HU6.out⟩
      unfold formR
      rw [HRN.out]
      rfl

    · have HRN := Lib.hid (HM.out.2 hrn)
      refine wpList_run (v := .bool false) rfl (ix_eql rfl rfl rfl (decide_eq_false hrn)) ?_
      simp only [Act.put, List.setIfInBounds_toArray, List.set_cons_zero, List.set_cons_succ]

      clear hrn c0 HM
      go_wp2_with fail
      go_roundg (gk - 1)
      case measure => have := HJL.out; have := HLT.out; omega
      case rel => exact ⟨j + 1, by have := HJL.out; have := HLT.out; omega, by go_num, HRN.out, HU3.out⟩
  · have y1 : ¬ ((j : Int) < 17) := by omega
    have HN := Lib.hid (show mform d no = none from by
      have h := HF.out
      have h0 : mrows.drop j = [] := List.drop_eq_nil_iff.2 (show mrows.length ≤ j from by have : mrows.length = 17 := rfl; omega)
      rw [h0] at h
      have h2 : mfind no mrows = none := h.symm
      unfold mform
      rw [h2]
      rfl)
    have HB03 := Lib.hid (HB0.out.turn HTR.out (fun e => e))
    have HLT : Hid (7 < b0) := Lib.hid (by
      have h := World.block_lt_of_cell? _ _ HS.out.field.1
      have h2 := HB0.out.lt
      have := HG0.out
      have h3 : w.heap.size ≤ w1.heap.size := HU.out.size
      have h4 := HLG.out
      omega)
    clear hlt HF
    go_upto_region 7 with fail
    have hS0 : wr.drew.cell? ⟨7, 0, none⟩ = some (errS s.field) := (HS.out.turn HTR.out).field.1
    have HUd : Hid (Turn nowhere w1 wr.drew) := Lib.hid HTR.out.drew
    have HBd : Hid (Blk wr.drew b0 104 #[.int .i64 0, .int .i64 0, .int .i64 0]) := Lib.hid HB03.out.drew
    clear HB03 HTR
    refine wp_region_alw (fun W => W.cell? ⟨7, 0, none⟩ = some (errS s.field)) (by kernel_rfl) ?_
    generalize wr.drew = w4 at *
    refine alw_take (i := 0) (v := .agg #[.int .i64 0, .int .i64 0, .int .i64 0]) rfl (by kernel_rfl) (by kernel_rfl) (fun _ _ _ h => h) (.inl ⟨by rfl, fun W hW => exec_bld rfl (build_form0 _)⟩) hS0 ?_
    simp only [Act.put, List.setIfInBounds_toArray, List.set_cons_zero, List.set_cons_succ]
    refine alw_take (i := 1) (v := .int .i64 no) rfl (by kernel_rfl) (by kernel_rfl) (fun _ _ _ h => h) (.inl ⟨by rfl, fun W hW => exec_move rfl rfl⟩) hS0 ?_
    simp only [Act.put, List.setIfInBounds_toArray, List.set_cons_zero, List.set_cons_succ]
    refine alw_take (i := 2) (v := errS s.field) rfl (by kernel_rfl) (by kernel_rfl) (fun _ _ _ h => h) (.inl ⟨by rfl, fun W hW => exec_load1 rfl rfl (by kernel_rfl) hW⟩) hS0 ?_
    simp only [Act.put, List.setIfInBounds_toArray, List.set_cons_zero, List.set_cons_succ]
    refine alw_take (i := 3) (v := .agg #[.int .i64 no, errS s.field]) rfl (by kernel_rfl) (by kernel_rfl) (fun _ _ _ h => h) (.inl ⟨by rfl, fun W hW => gx_build2 rfl rfl rfl (build_fe _ _ _)⟩) hS0 ?_
    simp only [Act.put, List.setIfInBounds_toArray, List.set_cons_zero, List.set_cons_succ]
    refine alw_take (i := 4) (v := .iface 111 (.agg #[.int .i64 no, errS s.field])) rfl (by kernel_rfl) (by kernel_rfl) (fun _ _ _ h => h) (.inl ⟨by rfl, fun W hW => gx_iface rfl rfl (mk_fe _ _)⟩) hS0 ?_
    simp only [Act.put, List.setIfInBounds_toArray, List.set_cons_zero, List.set_cons_succ]
    refine alw_step (i := 5) (by kernel_rfl) rfl rfl ?_
    intro K2 HK2
    refine wp_store_rowU 104 (.tmp 4) (.tmp 31) rfl #[.int .i64 0, .int .i64 0, .int .i64 0] HBd.out rfl rfl rfl (by rw [size_form]; rfl) (fm3_one _ _ _) ?_
    intro w6 hB6 hU6
    have hS2 : w6.cell? ⟨7, 0, none⟩ = some (errS s.field) := (hU6.cell (World.block_lt_of_cell? _ _ hS0) (fun e => by
      have e : 7 = b0 := e
      have := HLT.out
      omega)).trans hS0
    refine HK2.out _ _ ⟨hS2, ?_⟩
    have HB6 := Lib.hid hB6
    have HU6 := Lib.hid ((HU.out.trans HUd.out (fun _ _ e => e)).trans hU6 (fun k hk e => by
      have := HG0.out
      have e : k = b0 := e
      omega))
    clear HK2 hS0 HUd HBd hB6 hU6
    try simp only [Act.put, List.setIfInBounds_toArray, List.set_cons_zero, List.set_cons_succ]
    refine alw_take (i := 6) (v := .iface 111 (.agg #[.int .i64 no, errS s.field])) rfl (by kernel_rfl) (by kernel_rfl) (fun _ _ _ h => h) (.inl ⟨by rfl, fun W hW => gx_assign rfl rfl⟩) hS2 ?_
    simp only [Act.put, List.setIfInBounds_toArray, List.set_cons_zero, List.set_cons_succ]
    refine alw_done rfl ?_
    clear hS2
    refine NoPanic.normal ?_
    go_wp2_with fail
    refine bodyPost_ret (v := .tuple #[.agg #[.int .i64 0, .int .i64 0, .int .i64 0], .iface 111 (.agg #[.int .i64 no, errS s.field])]) (ret_cell2 rfl _ _ b0 _ _ _ rfl rfl HB6.out Tryz.underlying104 rfl (by rw [size_form]; rfl)) rfl ?_
    refine ⟨?_, HU6.out⟩
    unfold formR
    rw [HN.out]

end Go.Proofs.YtfnillibngijaaaGreatDoor
namespace Go.Proofs.YtfnillibngijaaaGreatDoor
open Go.RowKit
open Fdd
set_option linter.unusedVariables false
set_option linter.unusedSimpArgs false
theorem bs_still {w w' : World} {A : Option Addr} {n : Nat} {bs : List UInt8} (h : Bs w A n bs) (ht : Turn nowhere w w') : Bs w' A n bs := bs_below h (ht.below (Nat.le_refl _) (fun _ _ e => e))
def feV (no : Int) (a : Addr) : Value := .iface 111 (.agg #[.int .i64 no, errS a])
def wrapV (s : Sents) (no e : Int) : Value := if e = 41 then feV no s.text else if e = 42 then feV no s.bytes else if e = 43 then feV no s.short else .nilIface
set_option maxRecDepth 20000 in
theorem wrap_walk {s : Sents} {w : World} {no e : Int} (hs : Sen s w) :
    Calls Tryz.prog 60 #[.int .i64 no, .int .i64 e] w fun r w' => r = .returned (wrapV s no e) ∧ w' = w := by
  have g1 : w.cell? ⟨10, 0, none⟩ = some (errS s.text) := hs.text.1
  have g2 : w.cell? ⟨11, 0, none⟩ = some (errS s.bytes) := hs.bytes.1
  have g3 : w.cell? ⟨12, 0, none⟩ = some (errS s.short) := hs.short.1
  have b1 := build_fe no (.pointer (some s.text)) w
  have b2 := build_fe no (.pointer (some s.bytes)) w
  have b3 := build_fe no (.pointer (some s.short)) w
  unfold errS at g1 g2 g3
  clear hs
  by_cases h1 : e = 41
  · subst h1
    have hv : wrapV s no 41 = feV no s.text := rfl
    rw [hv]
    clear hv g2 g3 b2 b3
    go_enter Tryz.func60, Tryz.ntmps60
    go_wp2
    go_ret
    exact ⟨rfl, rfl⟩
  · by_cases h2 : e = 42
    · subst h2
      have hv : wrapV s no 42 = feV no s.bytes := rfl
      rw [hv]
      clear hv g1 g3 b1 b3
      go_enter Tryz.func60, Tryz.ntmps60
      go_wp2
      go_ret
      exact ⟨rfl, rfl⟩
    · by_cases h3 : e = 43
      · subst h3
        have hv : wrapV s no 43 = feV no s.short := rfl
        rw [hv]
        clear hv g1 g2 b1 b2
        go_enter Tryz.func60, Tryz.ntmps60
        go_wp2
        go_ret
        exact ⟨rfl, rfl⟩
      · have hv : wrapV s no e = .nilIface := by
          unfold wrapV
          rw [if_neg h1, if_neg h2, if_neg h3]
        rw [hv]
        clear hv g1 g2 g3 b1 b2 b3
        go_enter Tryz.func60, Tryz.ntmps60
        go_wp2
        go_ret
        exact ⟨rfl, rfl⟩
/-- what put answers -/
def MPut (s : Sents) (no : Int) (f : Fm) (t b : List UInt8) (w : World) (e : Ending) (w' : World) : Prop := ∃ A n c, e = .returned (.tuple #[.slice A n c, wrapV s no (f.check t)]) ∧ Own w' w.heap.size 5 (.slice A n c) (putR f t b) ∧ Turn nowhere w w'
set_option maxRecDepth 20000 in
theorem mput_walk {s : Sents} {w : World} {no : Int} {f : Fm} {t b : List UInt8} {A : Option Addr} {n cap : Nat} (hs : Sen s w) (hr : RowsT w) (hb : Bs w A n b) (hn : n ≤ 140737488351232) :
    Calls Tryz.prog 47 #[.slice A n cap, .int .i64 no, fmV f, strV t] w (MPut s no f t b w) := by
  have hu1 := (Turn.refl nowhere w).alloc (.cells #[.int .i64 f.kind, .int .i64 f.size, .int .i64 f.code] 104)
  have hb1 := Blk.new w 104 #[.int .i64 f.kind, .int .i64 f.size, .int .i64 f.code]
  obtain ⟨b0, hb0⟩ : ∃ b0, b0 = w.heap.size := ⟨_, rfl⟩
  obtain ⟨w1, hw1⟩ : ∃ w1, w1 = w.alloc (.cells #[.int .i64 f.kind, .int .i64 f.size, .int .i64 f.code] 104) := ⟨_, rfl⟩
  rw [← hw1] at hu1 hb1
  rw [← hb0] at hb1
  have HP := Lib.hid (put_all (f := f) (cap := cap) (t := t) (hr.turn hu1) (bs_still hb hu1) hn)
  have HS := Lib.hid (hs.turn hu1)
  have HU1 := Lib.hid hu1
  have HB1 := Lib.hid hb1
  have HW1 := Lib.hid hw1
  have HB0 := Lib.hid hb0
  clear hs hr hb hu1 hb1 hw1 hb0
  have hfv : fmV f = .agg #[.int .i64 f.kind, .int .i64 f.size, .int .i64 f.code] := rfl
  rw [hfv] at HP ⊢
  clear hfv
  go_enter Tryz.func47, Tryz.ntmps47
  go_upto_region 1 with fail
  have e1 := HW1.out
  have e2 := HB0.out
  rw [← e1, ← e2]
  clear e1 e2 HW1 HB0
  have c0 : w1.cell? ⟨b0, 0, none⟩ = some (.int .i64 f.kind) := HB1.out.cell 0
  have c1 : w1.cell? ⟨b0, 1, none⟩ = some (.int .i64 f.size) := HB1.out.cell 1
  have c2 : w1.cell? ⟨b0, 2, none⟩ = some (.int .i64 f.code) := HB1.out.cell 2
  go_upto_region 2 with (go_at_call 65; refine HP.out.mono ?_; rintro e w2 ⟨A2, n2, cc2, rfl, ho2, ht2⟩)
  have HO2 := Lib.hid ho2
  have HT2 := Lib.hid ht2
  clear ho2 ht2 c0 c1 c2 HB1 HP
  go_wp2_with (go_at_call 60; refine (wrap_walk (HS.out.turn HT2.out)).mono ?_; rintro e w3 ⟨rfl, rfl⟩)
  go_ret2
  exact ⟨_, _, _, rfl, own_base HO2.out HU1.out.size, HU1.out.trans HT2.out (fun _ _ e => e)⟩
set_option maxRecDepth 20000 in
theorem isType_walk {w : World} {n : Int} : Calls Tryz.prog 58 #[.int .i64 n] w fun e w' => e = .returned (.bool (mtypes.contains n)) ∧ w' = w := by
  by_cases h : n ∈ mtypes
  · have hv : mtypes.contains n = true := by simpa using h
    rw [hv]
    clear hv
    unfold mtypes at h
    simp only [List.mem_cons, List.not_mem_nil, or_false] at h
    rcases h with rfl | rfl | rfl | rfl | rfl | rfl | rfl | rfl | rfl | rfl | rfl | rfl | rfl | rfl | rfl | rfl
    all_goals
      go_enter Tryz.func58, Tryz.ntmps58
      go_wp2
      go_ret
      exact ⟨rfl, rfl⟩
  · have hv : mtypes.contains n = false := by simpa using h
    rw [hv]
    clear hv
    unfold mtypes at h
    simp only [List.mem_cons, List.not_mem_nil, or_false, not_or] at h
    obtain ⟨h1, h2, h3, h4, h5, h6, h7, h8, h9, h10, h11, h12, h13, h14, h15, h16⟩ := h
    go_enter Tryz.func58, Tryz.ntmps58
    go_wp2
    go_ret
    exact ⟨rfl, rfl⟩
end Go.Proofs.YtfnillibngijaaaGreatDoor
namespace Go.Proofs.YtfnillibngijaaaGreatDoor
open Go.RowKit
set_option linter.unusedVariables false
set_option linter.unusedSimpArgs false
section
variable {a : Act} {o : Oper} {W : World} {x y : Operand} {t u : TypeId}
theorem ux_and {n m r : Nat} (ho : o.op = .binOp .and t x y u) (hx : a.eval x = .int .u64 (n : Int)) (hy : a.eval y = .int .u64 (m : Int)) (hn : n < 2 ^ 64) (hm : m < 2 ^ 64) (hr : n &&& m = r) : (execOp a.eval o).run Tryz.prog W = .ok (.value (.int .u64 (r : Int))) W := by
  unfold execOp
  simp only [ho, hx, hy]
  go_simp
  rw [u64_and_nat n m (by omega) (by omega), hr]
theorem ux_or {n m r : Nat} (ho : o.op = .binOp .or t x y u) (hx : a.eval x = .int .u64 (n : Int)) (hy : a.eval y = .int .u64 (m : Int)) (hn : n < 2 ^ 64) (hm : m < 2 ^ 64) (hr : n ||| m = r) : (execOp a.eval o).run Tryz.prog W = .ok (.value (.int .u64 (r : Int))) W := by
  unfold execOp
  simp only [ho, hx, hy]
  go_simp
  rw [u64_or_nat n m (by omega) (by omega), hr]
theorem ux_shr4 {n : Nat} (ho : o.op = .binOp .shr 117 x y u) (hx : a.eval x = .int .u64 (n : Int)) (hy : a.eval y = .int .u64 4) (hn : n < 2 ^ 64) : (execOp a.eval o).run Tryz.prog W = .ok (.value (.int .u64 ((n / 16 : Nat) : Int))) W := by
  unfold execOp
  simp only [ho, hx, hy]
  go_simp
theorem ux_shl1 {m : Nat} (ho : o.op = .binOp .shl 117 (.const (.int .u64 1)) y u) (hy : a.eval y = .int .i64 (m : Int)) (hm : m < 64) : (execOp a.eval o).run Tryz.prog W = .ok (.value (.int .u64 ((2 ^ m : Nat) : Int))) W := by
  have h2 : (2 : Int) ^ m < 2 ^ 64 := by
    have := Nat.pow_lt_pow_right (a := 2) (by decide) hm
    have h3 : ((2 ^ m : Nat) : Int) < ((2 ^ 64 : Nat) : Int) := Int.ofNat_lt.2 this
    simpa using h3
  have h0 : (0 : Int) ≤ 2 ^ m := by
    exact Int.pow_nonneg (by decide)
  unfold execOp
  simp only [ho, hy]
  go_simp
  rw [IntKind.wrap_u64]
  exact Int.emod_eq_of_lt h0 h2
end
end Go.Proofs.YtfnillibngijaaaGreatDoor
