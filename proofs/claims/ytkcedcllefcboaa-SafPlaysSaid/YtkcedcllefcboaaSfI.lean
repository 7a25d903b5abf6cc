/-
  groatref05's Same: the walk. No conditions. (As it is in message's texts.)
-/
import Derived.Test.YtkcedcllefcboaaSfH
namespace Go.Proofs.Ytkcedcllefcboaa
open Go.RowKit
set_option linter.unusedVariables false
set_option linter.unusedSimpArgs false
set_option maxRecDepth 20000
/-- a slice that reads as fields -/
def Fl (w : World) (A : Option Addr) (n : Nat) (fs : List Fld) : Prop := fs.length = n ∧ n ≤ 140737488355328 ∧ (0 < n → ∃ b off, A = some ⟨b, off, none⟩ ∧ ∀ i f, fs[i]? = some f → w.rangeAt b (off + i * 2) (fldA f).toList)
theorem Fl.still {w w' : World} {A : Option Addr} {n : Nat} {fs : List Fld} (h : Fl w A n fs) (ht : Turn nowhere w w') : Fl w' A n fs := by
  obtain ⟨h1, h2, h3⟩ := h
  refine ⟨h1, h2, fun hp => ?_⟩
  obtain ⟨b, off, e, hc⟩ := h3 hp
  exact ⟨b, off, e, fun i f hf j v hv => (ht.cell (World.block_lt_of_cell? _ _ (hc i f hf j v hv)) (fun e => e)).trans (hc i f hf j v hv)⟩
theorem fl_rws {w : World} {A : Option Addr} {n : Nat} {fs : List Fld} (h : Rws w 2 A n (fs.map fldL)) : Fl w A n fs := by
  refine ⟨by have := h.1; rwa [List.length_map] at this, h.2.2.1, fun hp => ?_⟩
  obtain ⟨b, off, e, hc⟩ := h.2.2.2 hp
  exact ⟨b, off, e, fun i f hf j v hv => hc i (fldL f) (by rw [List.getElem?_map, hf]; rfl) j v hv⟩
set_option maxRecDepth 20000 in
theorem fld_neq {a : Act} {o : Oper} {W : World} {x y : Operand} {u : TypeId} {f g : Fld} (ho : o.op = .binOp .neq 41 x y u) (hx : a.eval x = .agg (fldA f)) (hy : a.eval y = .agg (fldA g)) : (execOp a.eval o).run Try.prog W = .ok (.value (.bool (!(decide (f = g))))) W := by
  unfold execOp
  simp only [ho, hx, hy, fldA, strV]
  go_simp
  obtain ⟨a1, a2⟩ := f
  obtain ⟨b1, b2⟩ := g
  by_cases h : a1 = b1 <;> by_cases h2 : a2 = b2 <;> simp [h, h2]
theorem fsame_step {fs gs : List Fld} {k : Nat} {f g : Fld} (h : fs.take k = gs.take k) (hf : fs[k]? = some f) (hg : gs[k]? = some g) (e : f = g) : fs.take (k + 1) = gs.take (k + 1) := by
  rw [List.take_add_one, List.take_add_one, h, hf, hg, e]
theorem fsame_not {fs gs : List Fld} {k : Nat} {f g : Fld} (hf : fs[k]? = some f) (hg : gs[k]? = some g) (e : ¬ f = g) : ¬ fs = gs := by
  rintro rfl
  rw [hf] at hg
  injection hg with hg
  exact e hg
set_option maxRecDepth 20000 in
set_option maxHeartbeats 600000 in
theorem Same_walk {w : World} {ty1 ty2 : Int} {A1 A2 : Option Addr} {n1 c1 n2 c2 : Nat} {fs1 fs2 : List Fld} (h1 : Fl w A1 n1 fs1) (h2 : Fl w A2 n2 fs2) :
    Calls Try.prog 18 #[msgV ty1 A1 n1 c1, msgV ty2 A2 n2 c2] w fun e w' => e = .returned (.bool (decide (ty1 = ty2 ∧ fs1 = fs2))) ∧ Turn nowhere w w' := by
  unfold msgV
  have hb1 := (Blk.new w 35 #[.int .i64 ty1, .slice A1 n1 c1]).alloc (.cells #[.int .i64 ty2, .slice A2 n2 c2] 35)
  have hb2 := Blk.new (w.alloc (.cells #[.int .i64 ty1, .slice A1 n1 c1] 35)) 35 #[.int .i64 ty2, .slice A2 n2 c2]
  have hu := ((Turn.refl nowhere w).alloc (.cells #[.int .i64 ty1, .slice A1 n1 c1] 35)).alloc (.cells #[.int .i64 ty2, .slice A2 n2 c2] 35)
  rw [show (w.alloc (.cells #[.int .i64 ty1, .slice A1 n1 c1] 35)).heap.size = w.heap.size + 1 from by simp] at hb2
  have HF1 := Lib.hid (h1.still hu)
  have HF2 := Lib.hid (h2.still hu)
  have HN1 := Lib.hid h1.1
  have HN2 := Lib.hid h2.1
  have HNM := Lib.hid h1.2.1
  have y9 : (n1 : Int) ≤ 140737488355328 := by
    have := h1.2.1
    omega
  have HU := Lib.hid hu
  have HB1 := Lib.hid hb1
  have HB2 := Lib.hid hb2
  clear h1 h2 hb1 hb2 hu
  go_enter Try.func18, Try.ntmps18
  go_upto_region 1 with fail
  generalize (w.alloc (.cells #[.int .i64 ty1, .slice A1 n1 c1] 35)).alloc (.cells #[.int .i64 ty2, .slice A2 n2 c2] 35) = w1 at *
  obtain ⟨p2, hp2⟩ : ∃ p, p = w.heap.size + 1 := ⟨_, rfl⟩
  obtain ⟨p1, hp1⟩ : ∃ p, p = w.heap.size := ⟨_, rfl⟩
  rw [← hp2] at HB2 ⊢
  rw [← hp1] at HB1 ⊢
  clear hp1 hp2
  refine wp_region_lit ?_
  refine wpList_run (v := .pointer (some ⟨p1, 0, none⟩)) rfl (exec_field (off := 0) (d := 0) rfl rfl (by kernel_rfl)) ?_
  simp only [Act.put, List.setIfInBounds_toArray, List.set_cons_zero, List.set_cons_succ]
  refine wpList_run (v := .int .i64 ty1) rfl (exec_load1 rfl rfl (by kernel_rfl) (HB1.out.cell 0)) ?_
  simp only [Act.put, List.setIfInBounds_toArray, List.set_cons_zero, List.set_cons_succ]
  refine wpList_run (v := .pointer (some ⟨p2, 0, none⟩)) rfl (exec_field (off := 0) (d := 0) rfl rfl (by kernel_rfl)) ?_
  simp only [Act.put, List.setIfInBounds_toArray, List.set_cons_zero, List.set_cons_succ]
  refine wpList_run (v := .int .i64 ty2) rfl (exec_load1 rfl rfl (by kernel_rfl) (HB2.out.cell 0)) ?_
  simp only [Act.put, List.setIfInBounds_toArray, List.set_cons_zero, List.set_cons_succ]

  by_cases ht : ty1 = ty2
  case neg =>
    have HR := Lib.hid (show decide (ty1 = ty2 ∧ fs1 = fs2) = false from decide_eq_false (fun h => ht h.1))
    refine wpList_run (v := .bool true) rfl (ix_neq rfl rfl rfl (decide_eq_true ht)) ?_
    simp only [Act.put, List.setIfInBounds_toArray, List.set_cons_zero, List.set_cons_succ]
    refine wpList_run (v := .bool true) rfl (exec_move rfl rfl) ?_
    simp only [Act.put, List.setIfInBounds_toArray, List.set_cons_zero, List.set_cons_succ]
    refine wpList_skip rfl ?_
    simp only [Act.put, List.setIfInBounds_toArray, List.set_cons_zero, List.set_cons_succ]
    refine wpList_skip rfl ?_
    simp only [Act.put, List.setIfInBounds_toArray, List.set_cons_zero, List.set_cons_succ]
    refine wpList_skip rfl ?_
    simp only [Act.put, List.setIfInBounds_toArray, List.set_cons_zero, List.set_cons_succ]
    refine wpList_skip rfl ?_
    simp only [Act.put, List.setIfInBounds_toArray, List.set_cons_zero, List.set_cons_succ]
    refine wpList_skip rfl ?_
    simp only [Act.put, List.setIfInBounds_toArray, List.set_cons_zero, List.set_cons_succ]
    refine wpList_skip rfl ?_
    simp only [Act.put, List.setIfInBounds_toArray, List.set_cons_zero, List.set_cons_succ]
    refine wpList_skip rfl ?_
    simp only [Act.put, List.setIfInBounds_toArray, List.set_cons_zero, List.set_cons_succ]
    refine wpList_run (v := .bool true) rfl (ix_pickT rfl rfl rfl) ?_
    simp only [Act.put, List.setIfInBounds_toArray, List.set_cons_zero, List.set_cons_succ]

    clear ht
    go_wp2_with fail
    go_ret
    rw [HR.out]
    exact ⟨rfl, HU.out⟩
  refine wpList_run (v := .bool false) rfl (ix_neq rfl rfl rfl (decide_eq_false (fun h => h ht))) ?_
  simp only [Act.put, List.setIfInBounds_toArray, List.set_cons_zero, List.set_cons_succ]
  refine wpList_run (v := .bool false) rfl (exec_move rfl rfl) ?_
  simp only [Act.put, List.setIfInBounds_toArray, List.set_cons_zero, List.set_cons_succ]
  refine wpList_run (v := .pointer (some ⟨p1, 1, none⟩)) rfl (exec_field (off := 0) (d := 1) rfl rfl (by kernel_rfl)) ?_
  simp only [Act.put, List.setIfInBounds_toArray, List.set_cons_zero, List.set_cons_succ]
  refine wpList_run (v := .slice A1 n1 c1) rfl (exec_load1 rfl rfl (by kernel_rfl) (HB1.out.cell 1)) ?_
  simp only [Act.put, List.setIfInBounds_toArray, List.set_cons_zero, List.set_cons_succ]
  refine wpList_run (v := .int .i64 (n1 : Int)) rfl (gx_len rfl rfl Try.underlying33) ?_
  simp only [Act.put, List.setIfInBounds_toArray, List.set_cons_zero, List.set_cons_succ]
  refine wpList_run (v := .pointer (some ⟨p2, 1, none⟩)) rfl (exec_field (off := 0) (d := 1) rfl rfl (by kernel_rfl)) ?_
  simp only [Act.put, List.setIfInBounds_toArray, List.set_cons_zero, List.set_cons_succ]
  refine wpList_run (v := .slice A2 n2 c2) rfl (exec_load1 rfl rfl (by kernel_rfl) (HB2.out.cell 1)) ?_
  simp only [Act.put, List.setIfInBounds_toArray, List.set_cons_zero, List.set_cons_succ]
  refine wpList_run (v := .int .i64 (n2 : Int)) rfl (gx_len rfl rfl Try.underlying33) ?_
  simp only [Act.put, List.setIfInBounds_toArray, List.set_cons_zero, List.set_cons_succ]

  by_cases hn : n1 = n2
  case neg =>
    have HR := Lib.hid (show decide (ty1 = ty2 ∧ fs1 = fs2) = false from decide_eq_false (fun h => hn (by rw [← HN1.out, ← HN2.out, h.2])))
    refine wpList_run (v := .bool true) rfl (ix_neq rfl rfl rfl (decide_eq_true (by omega))) ?_
    simp only [Act.put, List.setIfInBounds_toArray, List.set_cons_zero, List.set_cons_succ]
    refine wpList_run (v := .bool true) rfl (ix_pickF rfl rfl rfl) ?_
    simp only [Act.put, List.setIfInBounds_toArray, List.set_cons_zero, List.set_cons_succ]

    clear ht hn
    go_wp2_with fail
    go_ret
    rw [HR.out]
    exact ⟨rfl, HU.out⟩
  subst hn
  subst ht
  refine wpList_run (v := .bool false) rfl (ix_neq rfl rfl rfl (by simp)) ?_
  simp only [Act.put, List.setIfInBounds_toArray, List.set_cons_zero, List.set_cons_succ]
  refine wpList_run (v := .bool false) rfl (ix_pickF rfl rfl rfl) ?_
  simp only [Act.put, List.setIfInBounds_toArray, List.set_cons_zero, List.set_cons_succ]

  go_wp2_with fail
  go_loopg [5] n1 (fun gk i wr => ∃ k : Nat, k + gk = n1 ∧ i = .int .i64 (k : Int) ∧ Turn nowhere w1 wr ∧ fs1.take k = fs2.take k)
  case atStart => exact ⟨0, by omega, rfl, Turn.refl _ _, rfl⟩
  obtain ⟨k, hkl, rfl, htr, htk⟩ := hrel
  have HKL := Lib.hid hkl
  have HTR := Lib.hid htr
  have HTK := Lib.hid htk
  have HB3 := Lib.hid (HB1.out.turn htr (fun e => e))
  have HB4 := Lib.hid (HB2.out.turn htr (fun e => e))
  clear hkl htr htk
  go_upto_region 4 with fail
  refine wp_region_lit ?_
  refine wpList_run (v := .int .i64 (k : Int)) rfl (exec_move rfl rfl) ?_
  simp only [Act.put, List.setIfInBounds_toArray, List.set_cons_zero, List.set_cons_succ]
  refine wpList_run (v := .pointer (some ⟨p1, 1, none⟩)) rfl (exec_field (off := 0) (d := 1) rfl rfl (by kernel_rfl)) ?_
  simp only [Act.put, List.setIfInBounds_toArray, List.set_cons_zero, List.set_cons_succ]
  refine wpList_run (v := .slice A1 n1 c1) rfl (exec_load1 rfl rfl (by kernel_rfl) (HB3.out.cell 1)) ?_
  simp only [Act.put, List.setIfInBounds_toArray, List.set_cons_zero, List.set_cons_succ]
  refine wpList_run (v := .int .i64 (n1 : Int)) rfl (gx_len rfl rfl Try.underlying33) ?_
  simp only [Act.put, List.setIfInBounds_toArray, List.set_cons_zero, List.set_cons_succ]

  by_cases hlt : k < n1
  · have HLT := Lib.hid hlt
    have y1 : (k : Int) < (n1 : Int) := by omega
    obtain ⟨B1, O1, rfl, hr1⟩ := HF1.out.2.2 (by omega)
    obtain ⟨B2, O2, rfl, hr2⟩ := HF2.out.2.2 (by omega)
    obtain ⟨f1, hf1⟩ : ∃ f, fs1[k]? = some f := ⟨_, List.getElem?_eq_getElem (show k < fs1.length from by rw [HN1.out]; exact hlt)⟩
    obtain ⟨f2, hf2⟩ : ∃ f, fs2[k]? = some f := ⟨_, List.getElem?_eq_getElem (show k < fs2.length from by rw [HN2.out]; exact hlt)⟩
    have hq1 : wr.rangeAt B1 (O1 + k * 2) (fldA f1).toList := fun j v hv => (HTR.out.cell (World.block_lt_of_cell? _ _ (hr1 k f1 hf1 j v hv)) (fun e => e)).trans (hr1 k f1 hf1 j v hv)
    have hq2 : wr.rangeAt B2 (O2 + k * 2) (fldA f2).toList := fun j v hv => (HTR.out.cell (World.block_lt_of_cell? _ _ (hr2 k f2 hf2 j v hv)) (fun e => e)).trans (hr2 k f2 hf2 j v hv)
    have HF3 := Lib.hid hf1
    have HF4 := Lib.hid hf2
    refine wpList_run (v := .bool true) rfl (ix_lss rfl rfl rfl (decide_eq_true (by omega))) ?_
    simp only [Act.put, List.setIfInBounds_toArray, List.set_cons_zero, List.set_cons_succ]

    have hS0 : (fun W : World => Blk W p1 35 #[.int .i64 ty1, .slice (some ⟨B1, O1, none⟩) n1 c1] ∧ Blk W p2 35 #[.int .i64 ty1, .slice (some ⟨B2, O2, none⟩) n1 c2] ∧ W.rangeAt B1 (O1 + k * 2) (fldA f1).toList ∧ W.rangeAt B2 (O2 + k * 2) (fldA f2).toList) wr.drew := ⟨HB3.out.drew, HB4.out.drew, hq1, hq2⟩
    have HTD := Lib.hid (HTR.out.trans (Turn.drew (Turn.refl nowhere wr)) (fun _ _ e => e))
    clear hr1 hr2 hf1 hf2 hq1 hq2 hlt HB3 HB4 HTR
    go_upto_region 6 with fail
    refine wp_region_alw (fun W => Blk W p1 35 #[.int .i64 ty1, .slice (some ⟨B1, O1, none⟩) n1 c1] ∧ Blk W p2 35 #[.int .i64 ty1, .slice (some ⟨B2, O2, none⟩) n1 c2] ∧ W.rangeAt B1 (O1 + k * 2) (fldA f1).toList ∧ W.rangeAt B2 (O2 + k * 2) (fldA f2).toList) (by kernel_rfl) ?_
    generalize wr.drew = w3 at *
    refine alw_take (i := 0) (v := .pointer (some ⟨p1, 1, none⟩)) rfl (by kernel_rfl) (by kernel_rfl) (fun _ _ _ h => h) (.inl ⟨by rfl, fun W hW => exec_field (off := 0) (d := 1) rfl rfl (by kernel_rfl)⟩) hS0 ?_
    simp only [Act.put, List.setIfInBounds_toArray, List.set_cons_zero, List.set_cons_succ]
    refine alw_take (i := 1) (v := .slice (some ⟨B1, O1, none⟩) n1 c1) rfl (by kernel_rfl) (by kernel_rfl) (fun _ _ _ h => h) (.inl ⟨by rfl, fun W hW => exec_load1 rfl rfl (by kernel_rfl) (hW.1.cell 1)⟩) hS0 ?_
    simp only [Act.put, List.setIfInBounds_toArray, List.set_cons_zero, List.set_cons_succ]
    refine alw_take (i := 2) (v := .int .i64 (k : Int)) rfl (by kernel_rfl) (by kernel_rfl) (fun _ _ _ h => h) (.inl ⟨by rfl, fun W hW => exec_move rfl rfl⟩) hS0 ?_
    simp only [Act.put, List.setIfInBounds_toArray, List.set_cons_zero, List.set_cons_succ]
    refine alw_take (i := 3) (v := .pointer (some ⟨B1, O1 + k * 2, none⟩)) rfl (by kernel_rfl) (by kernel_rfl) (fun _ _ _ h => h) (.inl ⟨by rfl, fun W hW => gx_iaddr (i := k) (sz := 2) rfl rfl rfl Try.underlying33 size_field HLT.out (by omega)⟩) hS0 ?_
    simp only [Act.put, List.setIfInBounds_toArray, List.set_cons_zero, List.set_cons_succ]
    refine alw_take (i := 4) (v := .agg (fldA f1)) rfl (by kernel_rfl) (by kernel_rfl) (fun _ _ _ h => h) (.inl ⟨by rfl, fun W hW => gx_loads rfl rfl hW.2.2.1 Try.underlying41 rfl (by rw [size_field]; rfl)⟩) hS0 ?_
    simp only [Act.put, List.setIfInBounds_toArray, List.set_cons_zero, List.set_cons_succ]
    refine alw_take (i := 5) (v := .pointer (some ⟨p2, 1, none⟩)) rfl (by kernel_rfl) (by kernel_rfl) (fun _ _ _ h => h) (.inl ⟨by rfl, fun W hW => exec_field (off := 0) (d := 1) rfl rfl (by kernel_rfl)⟩) hS0 ?_
    simp only [Act.put, List.setIfInBounds_toArray, List.set_cons_zero, List.set_cons_succ]
    refine alw_take (i := 6) (v := .slice (some ⟨B2, O2, none⟩) n1 c2) rfl (by kernel_rfl) (by kernel_rfl) (fun _ _ _ h => h) (.inl ⟨by rfl, fun W hW => exec_load1 rfl rfl (by kernel_rfl) (hW.2.1.cell 1)⟩) hS0 ?_
    simp only [Act.put, List.setIfInBounds_toArray, List.set_cons_zero, List.set_cons_succ]
    refine alw_take (i := 7) (v := .int .i64 (k : Int)) rfl (by kernel_rfl) (by kernel_rfl) (fun _ _ _ h => h) (.inl ⟨by rfl, fun W hW => exec_move rfl rfl⟩) hS0 ?_
    simp only [Act.put, List.setIfInBounds_toArray, List.set_cons_zero, List.set_cons_succ]
    refine alw_take (i := 8) (v := .pointer (some ⟨B2, O2 + k * 2, none⟩)) rfl (by kernel_rfl) (by kernel_rfl) (fun _ _ _ h => h) (.inl ⟨by rfl, fun W hW => gx_iaddr (i := k) (sz := 2) rfl rfl rfl Try.underlying33 size_field HLT.out (by omega)⟩) hS0 ?_
    simp only [Act.put, List.setIfInBounds_toArray, List.set_cons_zero, List.set_cons_succ]
    refine alw_take (i := 9) (v := .agg (fldA f2)) rfl (by kernel_rfl) (by kernel_rfl) (fun _ _ _ h => h) (.inl ⟨by rfl, fun W hW => gx_loads rfl rfl hW.2.2.2 Try.underlying41 rfl (by rw [size_field]; rfl)⟩) hS0 ?_
    simp only [Act.put, List.setIfInBounds_toArray, List.set_cons_zero, List.set_cons_succ]
    refine alw_take (i := 10) (v := .bool (!(decide (f1 = f2)))) rfl (by kernel_rfl) (by kernel_rfl) (fun _ _ _ h => h) (.inl ⟨by rfl, fun W hW => fld_neq rfl rfl rfl⟩) hS0 ?_
    simp only [Act.put, List.setIfInBounds_toArray, List.set_cons_zero, List.set_cons_succ]

    refine alw_done rfl ?_
    clear hS0
    refine NoPanic.normal ?_
    by_cases heq : f1 = f2
    · have HTK2 := Lib.hid (fsame_step HTK.out HF3.out HF4.out heq)
      rw [decide_eq_true heq]
      clear heq
      go_wp2_with fail
      go_roundg (gk - 1)
      case measure => have := HKL.out; have := HLT.out; omega
      case rel => exact ⟨k + 1, by have := HKL.out; have := HLT.out; omega, by go_num, HTD.out, HTK2.out⟩
    · have HR := Lib.hid (show decide (fs1 = fs2) = false from decide_eq_false (fun h => fsame_not HF3.out HF4.out heq h))
      rw [decide_eq_false heq]
      clear heq
      go_wp2_with fail
      go_ret
      rw [HR.out]
      exact ⟨rfl, HU.out.trans HTD.out (fun _ _ e => e)⟩
  · have HR := Lib.hid (show decide (fs1 = fs2) = true from by
      have h1 := HTK.out
      rw [List.take_of_length_le (by rw [HN1.out]; omega), List.take_of_length_le (by rw [HN2.out]; omega)] at h1
      exact decide_eq_true h1)
    refine wpList_run (v := .bool false) rfl (ix_lss rfl rfl rfl (decide_eq_false (by omega))) ?_
    simp only [Act.put, List.setIfInBounds_toArray, List.set_cons_zero, List.set_cons_succ]

    clear hlt
    go_wp2_with fail
    go_ret
    rw [HR.out]
    exact ⟨rfl, HU.out.trans HTR.out (fun _ _ e => e)⟩
end Go.Proofs.Ytkcedcllefcboaa
