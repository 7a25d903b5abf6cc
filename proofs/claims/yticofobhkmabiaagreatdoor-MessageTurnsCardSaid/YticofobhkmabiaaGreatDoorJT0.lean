/-
  Several texts in one file, in their order:
  - A message of one's own: fields copied to a new row, while a variable is made beside; two operations that may come up either way. No conditions.
  - The reference's Set. Conditions: the fields that came in and one more have room in memory.
  - message's Get, and the reference's. No conditions.
  - groatlaw05's MessageTurns: the walk. Conditions: the tables and the errors read as the program's text lays them.
  - PROOF: groatlaw05: for every input the law MessageTurns returns true, and each argument reads as it did. Its conditions are the row's own cells (the listed variables read as the program's text lays them: the card ties them).
-/
import Derived.Test.YticofobhkmabiaaGreatDoorJa4
import Derived.Test.YticofobhkmabiaaGreatDoorJb0
import Derived.Test.YticofobhkmabiaaGreatDoorJa3
import Derived.Test.YticofobhkmabiaaGreatDoorCards
import Derived.Test.YticofobhkmabiaaGreatDoorTie
import Derived.WalkKit
import Derived.ProofKit
import Derived.OpenShut
import Derived.ShutString
import Derived.ChangeOld
import Derived.Below
import Derived.SizedLaws
import Derived.LaidMore
import Derived.Deep.DeepHandedRow
import Derived.Deep.DeepWitnessRowRef
import Derived.Lib.LaidTab
import Derived.Lib.SmallJoins
namespace Go.Proofs.YticofobhkmabiaaGreatDoor
open Go.RowKit
open Fdd
set_option linter.unusedVariables false
set_option linter.unusedSimpArgs false
section
variable {P : Program} {md : Region.Mode} {ops : Array Oper} {Q : Exit → Act → World → Prop} {S : World → Prop}
/-- two may come up: either way -/
theorem alw_two {i k : Nat} {oi ok : Oper} {n : Nat} {l : Array Bool} {a : Act} {w : World} (hr : Region.ready md ops l = [i, k]) (hi : ops.toList[i]? = some oi) (hk : ops.toList[k]? = some ok)
    (wi : Region.wanted oi (yielded ops a.tmps) = true) (wk : Region.wanted ok (yielded ops a.tmps) = true)
    (hA : ∀ K : Act → World → Prop, Shut (∀ a' w', (S w' ∧ Alw P md ops Q S n (l.setIfInBounds i true) a' w') → K a' w') → oi.wp P a w K Q)
    (hB : ∀ K : Act → World → Prop, Shut (∀ a' w', (S w' ∧ Alw P md ops Q S n (l.setIfInBounds k true) a' w') → K a' w') → ok.wp P a w K Q) : Alw P md ops Q S (n + 1) l a w := by
  have ho : ops[i]? = some oi := by rw [← hi, Array.getElem?_toList]
  have hok : ops[k]? = some ok := by rw [← hk, Array.getElem?_toList]
  refine ⟨fun h0 => (by rw [h0] at hr; cases hr), fun j hj => ?_⟩
  rw [hr] at hj
  have hj2 : j = i ∨ j = k := by simpa using hj
  rcases hj2 with rfl | rfl
  · unfold wpOp
    simp only [ho, wi, if_true]
    exact .inl (hA _ fun _ _ h' => h')
  · unfold wpOp
    simp only [hok, wk, if_true]
    exact .inl (hB _ fun _ _ h' => h')
end
/-- the empty row, and where it lies -/
theorem own_made {w wx : World} (hT : Turn nowhere w wx) : FRow (wx.alloc (.cells #[] 40)) w.heap.size (.slice (some ⟨wx.heap.size, 0, none⟩) 0 0) [] := World.ownsRow_made wx #[] 0 hT.size (by unfold maxLen; omega) rfl
theorem own_app {w wx : World} {g : Nat} {A : Option Addr} {n c : Nat} {fs : List Fld} (hrow : FRow wx w.heap.size (.slice (some ⟨g, 0, none⟩) 0 0) []) (hT : Turn nowhere w wx) (hf : Fl w A n fs) (hz : A = none → c = 0) (hm : n * 24 ≤ 140737488351232) :
    ∃ A' c' w', (Builtin.append_ #[22, 22] 22 #[.slice (some ⟨g, 0, none⟩) 0 0, .slice A n c]).run Tryz.prog wx = .ok (.slice A' n c') w' ∧ FRow w' w.heap.size (.slice A' n c') fs ∧ Turn nowhere w w' ∧ wx.grownBy w' (some g) := by
  obtain ⟨A', c', w', h1, h2, h3⟩ := frow_grow (ty := 22) (c := c) hrow hT.size (hf.still hT) hz (by simp; omega)
  have hl : ([] : List Fld).length + n = n := by simp
  rw [hl] at h1 h2
  refine ⟨A', c', w', h1, h2, hT.grown h3 fun q e hq => ?_, h3⟩
  have := (hrow.lt q e).1
  omega
theorem own_end {w w6 w7 : World} {g : Nat} {v : Value} {fs : List Fld} {cs : Array Value} (hro : FRow w6 w.heap.size v fs) (hb6 : Blk w6 g 24 cs) (ht : Turn nowhere w w6) (hg : w.heap.size ≤ g) (h7 : Turn (only g) w6 w7) : FRow w7 w.heap.size v fs ∧ Turn nowhere w w7 :=
  ⟨hro.turn h7 (fun q hq e => hro.ne hb6 (by decide) q hq e), above ht hg h7⟩
end Go.Proofs.YticofobhkmabiaaGreatDoor
namespace Go.Proofs.YticofobhkmabiaaGreatDoor
open Go.RowKit
open Fdd
set_option linter.unusedVariables false
set_option linter.unusedSimpArgs false
theorem rset_at {no : Int} {t : List UInt8} {b : Bool} {l : List Fld} {i : Nat} {f : Fld} (hf : l[i]? = some f) : rsetM no t b (l.drop i) = if f.1 = no then rsetM no t b (l.drop (i + 1)) else if no < f.1 ∧ b = false then (no, t) :: f :: rsetM no t true (l.drop (i + 1)) else f :: rsetM no t b (l.drop (i + 1)) := by
  obtain ⟨hj, e⟩ := List.getElem?_eq_some_iff.1 hf
  rw [List.drop_eq_getElem_cons hj, e]
  rfl
theorem rset_end {no : Int} {t : List UInt8} {b : Bool} {l : List Fld} {i : Nat} (h : l.length ≤ i) : rsetM no t b (l.drop i) = if b = true then [] else [(no, t)] := by
  rw [List.drop_eq_nil_of_le h]
  rfl
theorem wp_storeF {P : Program} {o : Oper} {a : Act} {w : World} {K : Act → World → Prop} {Q : Exit → Act → World → Prop} (ty : TypeId) (x y : Operand) (ho : o.op = .store ty x y) {g i : Nat} {t : TypeId} {old : Array Value} {v : Value} (hb : Blk w g t old)
    (hx : a.eval x = .pointer (some ⟨g, i, none⟩)) (hy : a.eval y = v) (hi : i < old.size) (hv : v.cells = #[v]) (h1 : v.oneCell' = true) (hsz : (P.info? ty).map (·.size) = some 1)
    (h : Blk (w.setCell ⟨g, i, none⟩ v) g t (old.setIfInBounds i v) → Turn (only g) w (w.setCell ⟨g, i, none⟩ v) → K (a.put o.dst undef) (w.setCell ⟨g, i, none⟩ v)) : o.wp P a w K Q := by
  obtain ⟨j, hj, hjs⟩ := Option.map_eq_some_iff.1 hsz
  have hc : w.cell? ⟨g, i, none⟩ = some (old[i]) := by rw [hb.cell i, Array.getElem?_eq_getElem hi]
  have hf : w.frozen? ⟨g, i, none⟩ = false := hb.frozen i
  have hst : (Instr.storeAt ty (.pointer (some ⟨g, i, none⟩)) v).run P w = .ok () (w.setCell ⟨g, i, none⟩ v) := by
    have h0 : (⟨g, i, none⟩ : Addr).add 0 = ⟨g, i, none⟩ := by simp [Addr.add]
    simp [Instr.storeAt, storeVar, hv, Instr.sureAddr, sizeOf, typeInfo, hj, hjs, Result.andThen, storeCells, run_store _ _ _ _ _ h1, stored, h0, hc, hf]
  unfold Oper.wp execOp
  simp only [ho, hx, hy, hst, Sem.run_bind, Sem.run_pure, Result.andThen_ok]
  exact h (hb.set_ i v) ((Turn.refl _ w).at_ i v)
theorem size_sl : (Tryz.prog.info? 22).map (·.size) = some 1 := by kernel_rfl
/-- a message's variable, its fields in a row of the call's own -/
structure RS (ty : Int) (g7 : Nat) (w2 w : World) (l : List Fld) (B : Option Addr) (k d : Nat) : Prop where
  bk : Blk w g7 24 #[.int .i64 ty, .slice B k d]
  ro : FRow w w2.heap.size (.slice B k d) l
  ln : l.length = k
  tr : Turn (only g7) w2 w
theorem RS.drew {ty : Int} {g7 : Nat} {w2 w : World} {l : List Fld} {B : Option Addr} {k d : Nat} (h : RS ty g7 w2 w l B k d) : RS ty g7 w2 w.drew l B k d := ⟨h.bk.drew, h.ro.still ((Turn.refl nowhere w).drew), h.ln, h.tr.drew⟩
theorem RS.add {ty : Int} {g7 : Nat} {w2 w : World} {l : List Fld} {B : Option Addr} {k d : Nat} (h : RS ty g7 w2 w l B k d) (hg : g7 < w2.heap.size) (f : Fld) (hlen : (k + 1) * 24 ≤ 140737488355328) :
    ∃ B' d' w4, (Builtin.append_ #[22, 22] 22 #[.slice B k d, .slice (some ⟨w.heap.size, 0, none⟩) 1 1]).run Tryz.prog (w.alloc (.cells (fldA f) 40)) = .ok (.slice B' (k + 1) d') w4 ∧
      Blk w4 g7 24 #[.int .i64 ty, .slice B k d] ∧ Turn (fun q => w2.heap.size ≤ q) w w4 ∧
      ∀ w5, Blk w5 g7 24 #[.int .i64 ty, .slice B' (k + 1) d'] → Turn (only g7) w4 w5 → RS ty g7 w2 w5 (l ++ [f]) B' (k + 1) d' := by
  obtain ⟨B', d', w4, h1, h2, h3⟩ := frow_grow (ty := 22) (w := w.alloc (.cells (fldA f) 40)) (c := 1) (h.ro.still ((Turn.refl nowhere w).alloc (.cells (fldA f) 40)))
    (Nat.le_trans h.tr.size ((Turn.refl nowhere w).alloc (.cells (fldA f) 40)).size) (fl_one f w) (fun h => by cases h) (by rw [h.ln]; exact hlen)
  rw [h.ln] at h1 h2
  have ht : Turn (fun q => w2.heap.size ≤ q) w w4 := ((Turn.refl (fun q => w2.heap.size ≤ q) w).alloc (.cells (fldA f) 40)).grown h3 fun g e _ => (h.ro.lt g e).1
  have hb4 := h.bk.turn ht (fun e => by
    have e : w2.heap.size ≤ g7 := e
    omega)
  refine ⟨B', d', w4, h1, hb4, ht, fun w5 hb5 ht5 => ⟨hb5, h2.turn ht5 (fun q hq e => ?_), by rw [List.length_append, h.ln]; rfl, ?_⟩⟩
  · have e : q = g7 := e
    have := (h2.lt q hq).1
    omega
  · exact (h.tr.trans ht (fun q hq e => by
      have e : w2.heap.size ≤ q := e
      omega)).trans ht5 fun q hq e => e
set_option maxRecDepth 20000 in
set_option maxHeartbeats 4000000 in
theorem rSet_walk {w : World} {ty no : Int} {t : List UInt8} {A : Option Addr} {n c : Nat} {fs : List Fld} (hf : Fl w A n fs) (hr : n * 24 ≤ 140737488351232) :
    Calls Tryz.prog 18 #[msgV ty A n c, .int .i64 no, strV t] w (SetP ty no t fs w) := by
  have HF := Lib.hid hf
  have HNL := Lib.hid hf.1
  have HRM := Lib.hid hr
  have y9 : (n : Int) ≤ 140737488355328 := by
    have := hf.2.1
    omega
  clear hf hr
  unfold msgV
  have hb0 := (Blk.new w 24 #[.int .i64 ty, .slice A n c]).alloc (.cells #[.int .i64 0, .slice none 0 0] 24)
  have hb2 := Blk.new (w.alloc (.cells #[.int .i64 ty, .slice A n c] 24)) 24 #[.int .i64 0, .slice none 0 0]
  have hu := ((Turn.refl nowhere w).alloc (.cells #[.int .i64 ty, .slice A n c] 24)).alloc (.cells #[.int .i64 0, .slice none 0 0] 24)
  rw [show (w.alloc (.cells #[.int .i64 ty, .slice A n c] 24)).heap.size = w.heap.size + 1 from by simp] at hb2
  go_enter Tryz.func18, Tryz.ntmps18
  go_upto_region 1 with fail
  obtain ⟨g6, hg6⟩ : ∃ g, g = w.heap.size + 1 := ⟨_, rfl⟩
  obtain ⟨gm, hgm⟩ : ∃ g, g = w.heap.size := ⟨_, rfl⟩
  rw [← hg6] at hb2 ⊢
  rw [← hgm] at hb0 ⊢
  have HG6 := Lib.hid (show w.heap.size ≤ g6 from by omega)
  have HGN := Lib.hid (show gm ≠ g6 from by omega)
  have HGM := Lib.hid (show w.heap.size ≤ gm from by omega)
  clear hg6 hgm
  generalize (w.alloc (.cells #[.int .i64 ty, .slice A n c] 24)).alloc (.cells #[.int .i64 0, .slice none 0 0] 24) = w1 at *
  have HBM := Lib.hid hb0
  have HB6 := Lib.hid hb2
  have HT0 := Lib.hid hu
  clear hb0 hb2 hu
  refine wp_region_lit ?_
  refine wR (v := .pointer (some ⟨gm, 0, none⟩)) rfl (exec_field (off := 0) (d := 0) rfl rfl (by kernel_rfl)) ?_
  simp only [Act.put, zzA, zz0, zz1]
  refine wR (v := .int .i64 ty) rfl (exec_load1 rfl rfl (by kernel_rfl) (HBM.out.cell 0)) ?_
  simp only [Act.put, zzA, zz0, zz1]
  refine wR (v := .agg #[.int .i64 ty, .slice none 0 0]) rfl (gx_build1 rfl rfl (build_msg1 ty _)) ?_
  simp only [Act.put, zzA, zz0, zz1]
  refine wpList_new 24 (.tmp 7) (.tmp 12) #[.int .i64 ty, .slice none 0 0] rfl rfl (zero_msg _) rfl rfl rfl rfl rfl rfl (by rw [size_msg]; rfl) (msgA_one _ _ _ _) ?_
  intro w2 g7 hg7 hbx hux
  simp only [Act.put, zzA, zz0, zz1]
  have HB7 := Lib.hid hbx
  have HT1 := Lib.hid (HT0.out.next hux)
  have HM2 := Lib.hid (HBM.out.turn hux (fun e => e))
  have H62 := Lib.hid (HB6.out.turn hux (fun e => e))
  have HF2 := Lib.hid (HF.out.still HT1.out)
  have HG72 := Lib.hid (show g7 < w2.heap.size from hbx.lt)
  have HG7 := Lib.hid (show gm ≠ g7 ∧ g6 ≠ g7 ∧ w.heap.size ≤ g7 from ⟨by have := HBM.out.lt; omega, by have := HB6.out.lt; omega, by have := HT0.out.size; omega⟩)
  clear hbx hux hg7 HBM HB6
  go_upto_region 2 with fail
  refine wp_region_lit ?_
  refine wR (v := .bool false) rfl (gx_assign rfl rfl) ?_
  simp only [Act.put, zzA, zz0, zz1]
  go_upto_region 3 with fail
  refine wp_region_lit ?_
  refine wR (v := .int .i64 0) rfl (gx_assign rfl rfl) ?_
  simp only [Act.put, zzA, zz0, zz1]
  go_wp2_with fail
  go_loopg [8, 9] n (fun gk dv jv wr => ∃ (j : Nat) (b : Bool) (l : List Fld) (B : Option Addr) (k d : Nat), j + gk = n ∧ jv = .int .i64 (j : Int) ∧ dv = .bool b ∧ k ≤ j + (if b = true then 1 else 0) ∧ l ++ rsetM no t b (fs.drop j) = setM no t fs ∧ RS ty g7 w2 wr l B k d)
  case atStart => exact ⟨0, false, [], none, 0, 0, by omega, rfl, rfl, by omega, by rw [List.drop_zero, List.nil_append, rset_set], ⟨HB7.out, FRow.nil _ _, rfl, Turn.refl _ _⟩⟩
  obtain ⟨j, b, l, B, k, d, hjl, rfl, rfl, hkj, hol, hrs⟩ := hrel
  have HJL := Lib.hid hjl
  have HKJ := Lib.hid hkj
  have HKI := Lib.hid (show k ≤ j + 1 from by split at hkj <;> omega)
  have HOL := Lib.hid hol
  have HRS := Lib.hid hrs
  have HMR := Lib.hid (HM2.out.turn hrs.tr (fun e => HG7.out.1 e))
  clear hjl hkj hol hrs
  go_upto_region 4 with fail
  refine wp_region_lit ?_
  refine wR (v := .int .i64 (j : Int)) rfl (exec_move rfl rfl) ?_
  simp only [Act.put, zzA, zz0, zz1]
  refine wR (v := .pointer (some ⟨gm, 1, none⟩)) rfl (exec_field (off := 0) (d := 1) rfl rfl (by kernel_rfl)) ?_
  simp only [Act.put, zzA, zz0, zz1]
  refine wR (v := .slice A n c) rfl (exec_load1 rfl rfl (by kernel_rfl) (HMR.out.cell 1)) ?_
  simp only [Act.put, zzA, zz0, zz1]
  refine wR (v := .int .i64 (n : Int)) rfl (gx_len rfl rfl Tryz.underlying22) ?_
  simp only [Act.put, zzA, zz0, zz1]
  by_cases hlt : j < n
  · have HLT := Lib.hid hlt
    have y1 : (j : Int) < (n : Int) := by omega
    have HBF0 := Lib.hid (show ∀ b o s, A = some ⟨b, o, s⟩ → b < w.heap.size from fun b9 o9 s9 e9 => by
      obtain ⟨b, o, e, h9⟩ := HF.out.2.2 (by omega)
      rw [e9] at e
      injection e with e
      injection e with e _ _
      rw [e]
      exact World.block_lt_of_cell? _ _ (h9 j _ (List.getElem?_eq_getElem (show j < fs.length from by rw [HNL.out]; exact hlt)) 0 _ rfl))
    obtain ⟨bF, oF, rfl, hr⟩ := HF2.out.2.2 (by omega)
    obtain ⟨f, hf⟩ : ∃ f, fs[j]? = some f := ⟨_, List.getElem?_eq_getElem (show j < fs.length from by rw [HNL.out]; exact hlt)⟩
    have HBF := Lib.hid (HBF0.out _ _ _ rfl)
    have HRR := Lib.hid (show wr.rangeAt bF (oF + j * 2) (fldA f).toList from fun i v hv => (HRS.out.tr.cell (World.block_lt_of_cell? _ _ (hr j f hf i v hv)) (fun e => by
      have e : bF = g7 := e
      have := HBF.out
      have := HG7.out.2.2
      omega)).trans (hr j f hf i v hv))
    have HST := Lib.hid (rset_at (no := no) (t := t) (b := b) hf)
    clear hr hf hlt HBF0
    refine wR (v := .bool true) rfl (ix_lss rfl rfl rfl (decide_eq_true y1)) ?_
    simp only [Act.put, zzA, zz0, zz1]
    go_upto_region 6 with fail
    refine wp_region_lit ?_
    refine wR (v := .pointer (some ⟨gm, 1, none⟩)) rfl (exec_field (off := 0) (d := 1) rfl rfl (by kernel_rfl)) ?_
    simp only [Act.put, zzA, zz0, zz1]
    refine wR (v := .slice (some ⟨bF, oF, none⟩) n c) rfl (exec_load1 rfl rfl (by kernel_rfl) (HMR.out.cell 1)) ?_
    simp only [Act.put, zzA, zz0, zz1]
    refine wR (v := .int .i64 (j : Int)) rfl (exec_move rfl rfl) ?_
    simp only [Act.put, zzA, zz0, zz1]
    refine wR (v := .pointer (some ⟨bF, oF + j * 2, none⟩)) rfl (gx_iaddr (i := j) (sz := 2) rfl rfl rfl Tryz.underlying22 size_field HLT.out (by omega)) ?_
    simp only [Act.put, zzA, zz0, zz1]
    refine wR (v := .pointer (some ⟨bF, oF + j * 2, none⟩)) rfl (exec_field (off := oF + j * 2) (d := 0) rfl rfl (by kernel_rfl)) ?_
    simp only [Act.put, zzA, zz0, zz1]
    refine wR (v := .int .i64 f.1) rfl (exec_load1 rfl rfl (by kernel_rfl) (HRR.out 0 _ rfl)) ?_
    simp only [Act.put, zzA, zz0, zz1]
    refine wR (v := .int .i64 no) rfl (exec_move rfl rfl) ?_
    simp only [Act.put, zzA, zz0, zz1]
    by_cases heq : f.1 = no
    · refine wR (v := .bool true) rfl (ix_eql rfl rfl rfl (decide_eq_true heq)) ?_
      simp only [Act.put, zzA, zz0, zz1]
      have HO2 := Lib.hid (show l ++ rsetM no t b (fs.drop (j + 1)) = setM no t fs from by rw [← HOL.out, HST.out, if_pos heq])
      clear heq
      go_upto_region 5 with fail
      refine wp_region_lit ?_
      refine wR (v := .int .i64 (j : Int)) rfl (exec_move rfl rfl) ?_
      simp only [Act.put, zzA, zz0, zz1]
      refine wR (v := .int .i64 ((j + 1 : Nat) : Int)) rfl (ix_add rfl rfl rfl (by omega) (by omega)) ?_
      simp only [Act.put, zzA, zz0, zz1]
      refine wR (v := .int .i64 ((j + 1 : Nat) : Int)) rfl (gx_assign rfl rfl) ?_
      simp only [Act.put, zzA, zz0, zz1]
      go_wp2_with fail
      go_roundg (gk - 1)
      case measure => have := HJL.out; have := HLT.out; omega
      case rel => exact ⟨j + 1, b, l, B, k, d, by have := HJL.out; have := HLT.out; omega, rfl, rfl, by have := HKJ.out; omega, HO2.out, HRS.out⟩
    · refine wR (v := .bool false) rfl (ix_eql rfl rfl rfl (decide_eq_false heq)) ?_
      simp only [Act.put, zzA, zz0, zz1]
      go_upto_region 7 with fail
      refine wp_region_lit ?_
      refine wR (v := .pointer (some ⟨gm, 1, none⟩)) rfl (exec_field (off := 0) (d := 1) rfl rfl (by kernel_rfl)) ?_
      simp only [Act.put, zzA, zz0, zz1]
      refine wR (v := .slice (some ⟨bF, oF, none⟩) n c) rfl (exec_load1 rfl rfl (by kernel_rfl) (HMR.out.cell 1)) ?_
      simp only [Act.put, zzA, zz0, zz1]
      refine wR (v := .int .i64 (j : Int)) rfl (exec_move rfl rfl) ?_
      simp only [Act.put, zzA, zz0, zz1]
      refine wR (v := .pointer (some ⟨bF, oF + j * 2, none⟩)) rfl (gx_iaddr (i := j) (sz := 2) rfl rfl rfl Tryz.underlying22 size_field HLT.out (by omega)) ?_
      simp only [Act.put, zzA, zz0, zz1]
      refine wR (v := .pointer (some ⟨bF, oF + j * 2, none⟩)) rfl (exec_field (off := oF + j * 2) (d := 0) rfl rfl (by kernel_rfl)) ?_
      simp only [Act.put, zzA, zz0, zz1]
      refine wR (v := .int .i64 f.1) rfl (exec_load1 rfl rfl (by kernel_rfl) (HRR.out 0 _ rfl)) ?_
      simp only [Act.put, zzA, zz0, zz1]
      refine wR (v := .int .i64 no) rfl (exec_move rfl rfl) ?_
      simp only [Act.put, zzA, zz0, zz1]
      by_cases hgt : no < f.1
      · refine wR (v := .bool true) rfl (ix_gtr rfl rfl rfl (decide_eq_true hgt)) ?_
        simp only [Act.put, zzA, zz0, zz1]
        refine wR (v := .bool true) rfl (exec_move rfl rfl) ?_
        simp only [Act.put, zzA, zz0, zz1]
        cases b with
        | true =>
          refine wR (v := .bool true) rfl (exec_move rfl rfl) ?_
          simp only [Act.put, zzA, zz0, zz1]
          refine wR (v := .bool false) rfl (ix_not (b := true) rfl rfl) ?_
          simp only [Act.put, zzA, zz0, zz1]
          refine wR (v := .bool false) rfl (ix_pickT rfl rfl rfl) ?_
          simp only [Act.put, zzA, zz0, zz1]
          have HO2 := Lib.hid (show (l ++ [f]) ++ rsetM no t true (fs.drop (j + 1)) = setM no t fs from by rw [← HOL.out, HST.out, if_neg heq, if_neg (by simp), List.append_assoc]; rfl)
          clear heq hgt
          obtain ⟨B5, d5, w5, hrun, hbk, htn, hadd⟩ := RS.add (RS.drew HRS.out) HG72.out f (by have := HKI.out; have := HRM.out; have := HLT.out; omega)
          have HRN5 := Lib.hid hrun
          have HB5 := Lib.hid hbk
          have HT5 := Lib.hid htn
          have HA5 := Lib.hid hadd
          clear hrun hbk htn hadd
          go_upto_region 10 with fail
          refine wp_region_till (fun W => Blk W gm 24 #[.int .i64 ty, .slice (some ⟨bF, oF, none⟩) n c] ∧ Blk W g7 24 #[.int .i64 ty, .slice B k d] ∧ W.rangeAt bF (oF + j * 2) (fldA f).toList) 10 (by kernel_rfl) ?_
          have hS0 : Blk wr.drew gm 24 #[.int .i64 ty, .slice (some ⟨bF, oF, none⟩) n c] ∧ Blk wr.drew g7 24 #[.int .i64 ty, .slice B k d] ∧ wr.drew.rangeAt bF (oF + j * 2) (fldA f).toList := ⟨HMR.out.drew, HRS.out.bk.drew, HRR.out⟩
          refine till_take (i := 0) (v := .pointer (some ⟨g7, 1, none⟩)) rfl (by kernel_rfl) (by kernel_rfl) (fun _ _ _ h => h) (.inl ⟨by rfl, fun W hW => exec_field (off := 0) (d := 1) rfl rfl (by kernel_rfl)⟩) hS0 ?_
          simp only [Act.put, zzA, zz0, zz1]
          refine till_take (i := 1) (v := .slice B k d) rfl (by kernel_rfl) (by kernel_rfl) (fun _ _ _ h => h) (.inl ⟨by rfl, fun W hW => exec_load1 rfl rfl (by kernel_rfl) (hW.2.1.cell 1)⟩) hS0 ?_
          simp only [Act.put, zzA, zz0, zz1]
          refine till_take (i := 2) (v := .pointer (some ⟨gm, 1, none⟩)) rfl (by kernel_rfl) (by kernel_rfl) (fun _ _ _ h => h) (.inl ⟨by rfl, fun W hW => exec_field (off := 0) (d := 1) rfl rfl (by kernel_rfl)⟩) hS0 ?_
          simp only [Act.put, zzA, zz0, zz1]
          refine till_take (i := 3) (v := .slice (some ⟨bF, oF, none⟩) n c) rfl (by kernel_rfl) (by kernel_rfl) (fun _ _ _ h => h) (.inl ⟨by rfl, fun W hW => exec_load1 rfl rfl (by kernel_rfl) (hW.1.cell 1)⟩) hS0 ?_
          simp only [Act.put, zzA, zz0, zz1]
          refine till_take (i := 4) (v := .int .i64 (j : Int)) rfl (by kernel_rfl) (by kernel_rfl) (fun _ _ _ h => h) (.inl ⟨by rfl, fun W hW => exec_move rfl rfl⟩) hS0 ?_
          simp only [Act.put, zzA, zz0, zz1]
          refine till_take (i := 5) (v := .pointer (some ⟨bF, oF + j * 2, none⟩)) rfl (by kernel_rfl) (by kernel_rfl) (fun _ _ _ h => h) (.inl ⟨by rfl, fun W hW => gx_iaddr (i := j) (sz := 2) rfl rfl rfl Tryz.underlying22 size_field HLT.out (by omega)⟩) hS0 ?_
          simp only [Act.put, zzA, zz0, zz1]
          refine till_take (i := 6) (v := .agg (fldA f)) rfl (by kernel_rfl) (by kernel_rfl) (fun _ _ _ h => h) (.inl ⟨by rfl, fun W hW => gx_loads rfl rfl hW.2.2 Tryz.underlying40 rfl (by rw [size_field]; rfl)⟩) hS0 ?_
          simp only [Act.put, zzA, zz0, zz1]
          refine till_step (i := 7) (by kernel_rfl) rfl rfl ?_
          intro K1 HK1
          refine wp_run (bx_slice1 rfl rfl (build_f1 f _)) ?_
          have ha7 := (Turn.refl nowhere wr.drew).alloc (.cells (fldA f) 40)
          refine HK1.out _ _ ⟨fun _ => ⟨hS0.1.turn ha7 (fun e => e), hS0.2.1.turn ha7 (fun e => e), fun i v hv => (ha7.cell (World.block_lt_of_cell? _ _ (hS0.2.2 i v hv)) (fun e => e)).trans (hS0.2.2 i v hv)⟩, ?_⟩
          clear HK1 ha7
          try simp only [Act.put, zzA, zz0, zz1]
          refine till_step (i := 8) (by kernel_rfl) rfl rfl ?_
          intro K1 HK1
          refine wp_run (exec_append rfl rfl rfl HRN5.out) ?_
          have hS8 : Blk w5 gm 24 #[.int .i64 ty, .slice (some ⟨bF, oF, none⟩) n c] ∧ Blk w5 g7 24 #[.int .i64 ty, .slice B k d] ∧ w5.rangeAt bF (oF + j * 2) (fldA f).toList := ⟨hS0.1.turn HT5.out (fun e => by
            have e : w2.heap.size ≤ gm := e
            have := HM2.out.lt
            omega), HB5.out, fun i v hv => (HT5.out.cell (World.block_lt_of_cell? _ _ (hS0.2.2 i v hv)) (fun e => by
            have e : w2.heap.size ≤ bF := e
            have := HBF.out
            have := HT1.out.size
            omega)).trans (hS0.2.2 i v hv)⟩
          refine HK1.out _ _ ⟨fun _ => hS8, ?_⟩
          clear HK1 hS0
          try simp only [Act.put, zzA, zz0, zz1]
          refine till_take (i := 9) (v := .pointer (some ⟨g7, 1, none⟩)) rfl (by kernel_rfl) (by kernel_rfl) (fun _ _ _ h => h) (.inl ⟨by rfl, fun W hW => exec_field (off := 0) (d := 1) rfl rfl (by kernel_rfl)⟩) hS8 ?_
          simp only [Act.put, zzA, zz0, zz1]
          clear hS8
          refine till_step (i := 10) (by kernel_rfl) rfl rfl ?_
          intro K1 HK1
          refine wp_storeF (v := .slice B5 (k + 1) d5) 22 (.tmp 57) (.tmp 56) rfl HB5.out rfl rfl (show 1 < 2 from by decide) rfl rfl size_sl ?_
          intro hbz huz
          have HS5 := Lib.hid (HA5.out _ hbz huz)
          refine HK1.out _ _ ⟨fun e => absurd e (by decide), ?_⟩
          clear HK1 hbz huz
          generalize w5.setCell ⟨g7, 1, none⟩ (.slice B5 (k + 1) d5) = wz5 at *
          try simp only [Act.put, zzA, zz0, zz1]
          refine till_done rfl ?_
          refine NoPanic.normal ?_
          go_upto_region 5 with fail
          refine wp_region_lit ?_
          refine wR (v := .int .i64 (j : Int)) rfl (exec_move rfl rfl) ?_
          simp only [Act.put, zzA, zz0, zz1]
          refine wR (v := .int .i64 ((j + 1 : Nat) : Int)) rfl (ix_add rfl rfl rfl (by omega) (by omega)) ?_
          simp only [Act.put, zzA, zz0, zz1]
          refine wR (v := .int .i64 ((j + 1 : Nat) : Int)) rfl (gx_assign rfl rfl) ?_
          simp only [Act.put, zzA, zz0, zz1]
          go_wp2_with fail
          go_roundg (gk - 1)
          case measure => have := HJL.out; have := HLT.out; omega
          case rel => exact ⟨j + 1, true, l ++ [f], B5, k + 1, d5, by have := HJL.out; have := HLT.out; omega, rfl, rfl, by have := HKJ.out; simp only [if_pos] at this ⊢; omega, HO2.out, HS5.out⟩
        | false =>
          refine wR (v := .bool false) rfl (exec_move rfl rfl) ?_
          simp only [Act.put, zzA, zz0, zz1]
          refine wR (v := .bool true) rfl (ix_not (b := false) rfl rfl) ?_
          simp only [Act.put, zzA, zz0, zz1]
          refine wR (v := .bool true) rfl (ix_pickT rfl rfl rfl) ?_
          simp only [Act.put, zzA, zz0, zz1]
          have HO2 := Lib.hid (show (l ++ [(no, t)] ++ [f]) ++ rsetM no t true (fs.drop (j + 1)) = setM no t fs from by rw [← HOL.out, HST.out, if_neg heq, if_pos ⟨hgt, rfl⟩, List.append_assoc, List.append_assoc]; rfl)
          have HKF := Lib.hid (show k ≤ j from by have := HKJ.out; simpa using this)
          clear heq hgt
          obtain ⟨B4, d4, w4, hrun, hbk, htn, hadd⟩ := RS.add HRS.out HG72.out (no, t) (by have := HKI.out; have := HRM.out; have := HLT.out; omega)
          have HRN4 := Lib.hid hrun
          have HB4 := Lib.hid hbk
          have HT4 := Lib.hid htn
          have HA4 := Lib.hid hadd
          clear hrun hbk htn hadd
          go_upto_region 8 with fail
          refine wp_region_lit ?_
          refine wR (v := .pointer (some ⟨g7, 1, none⟩)) rfl (exec_field (off := 0) (d := 1) rfl rfl (by kernel_rfl)) ?_
          simp only [Act.put, zzA, zz0, zz1]
          refine wR (v := .slice B k d) rfl (exec_load1 rfl rfl (by kernel_rfl) (HRS.out.bk.cell 1)) ?_
          simp only [Act.put, zzA, zz0, zz1]
          refine wR (v := .int .i64 no) rfl (exec_move rfl rfl) ?_
          simp only [Act.put, zzA, zz0, zz1]
          refine wR (v := strV t) rfl (exec_move rfl rfl) ?_
          simp only [Act.put, zzA, zz0, zz1]
          refine wR (v := .agg (fldA (no, t))) rfl (gx_build2 rfl rfl rfl (build_fldM no t _)) ?_
          simp only [Act.put, zzA, zz0, zz1]
          refine wR (v := .slice (some ⟨wr.heap.size, 0, none⟩) 1 1) (w' := wr.alloc (.cells (fldA (no, t)) 40)) rfl (bx_slice1 rfl rfl (build_f1 (no, t) _)) ?_
          simp only [Act.put, zzA, zz0, zz1]
          refine wR (v := .slice B4 (k + 1) d4) (w' := w4) rfl (exec_append rfl rfl rfl HRN4.out) ?_
          simp only [Act.put, zzA, zz0, zz1]
          refine wR (v := .pointer (some ⟨g7, 1, none⟩)) rfl (exec_field (off := 0) (d := 1) rfl rfl (by kernel_rfl)) ?_
          simp only [Act.put, zzA, zz0, zz1]
          refine wpList_store1 (v := .slice B4 (k + 1) d4) rfl 22 (.tmp 47) (.tmp 46) rfl HB4.out rfl rfl (show 1 < 2 from by decide) rfl rfl size_sl ?_
          intro hbz huz
          have HS4 := Lib.hid (HA4.out _ hbz huz)
          have HU4 := Lib.hid huz
          clear hbz huz
          generalize w4.setCell ⟨g7, 1, none⟩ (.slice B4 (k + 1) d4) = wz4 at *
          try simp only [Act.put, zzA, zz0, zz1]
          have HMZ := Lib.hid (HM2.out.turn HS4.out.tr (fun e => HG7.out.1 e))
          have HRZ := Lib.hid (show wz4.rangeAt bF (oF + j * 2) (fldA f).toList from fun i v hv => by
            have h0 : wr.cell? _ = some v := HRR.out i v hv
            have h1 := (HT4.out.cell (World.block_lt_of_cell? _ _ h0) (fun e => by
              have e : w2.heap.size ≤ bF := e
              have := HBF.out
              have := HT1.out.size
              omega)).trans h0
            exact (HU4.out.cell (World.block_lt_of_cell? _ _ h1) (fun e => by
              have e : bF = g7 := e
              have := HBF.out
              have := HG7.out.2.2
              omega)).trans h1)
          go_upto_region 9 with fail
          refine wp_region_lit ?_
          refine wR (v := .bool true) rfl (gx_assign rfl rfl) ?_
          simp only [Act.put, zzA, zz0, zz1]
          obtain ⟨B5, d5, w5, hrun, hbk, htn, hadd⟩ := RS.add (RS.drew HS4.out) HG72.out f (by have := HKF.out; have := HRM.out; have := HLT.out; omega)
          have HRN5 := Lib.hid hrun
          have HB5 := Lib.hid hbk
          have HT5 := Lib.hid htn
          have HA5 := Lib.hid hadd
          clear hrun hbk htn hadd
          go_upto_region 10 with fail
          refine wp_region_till (fun W => Blk W gm 24 #[.int .i64 ty, .slice (some ⟨bF, oF, none⟩) n c] ∧ Blk W g7 24 #[.int .i64 ty, .slice B4 (k + 1) d4] ∧ W.rangeAt bF (oF + j * 2) (fldA f).toList) 10 (by kernel_rfl) ?_
          have hS0 : Blk wz4.drew gm 24 #[.int .i64 ty, .slice (some ⟨bF, oF, none⟩) n c] ∧ Blk wz4.drew g7 24 #[.int .i64 ty, .slice B4 (k + 1) d4] ∧ wz4.drew.rangeAt bF (oF + j * 2) (fldA f).toList := ⟨HMZ.out.drew, HS4.out.bk.drew, HRZ.out⟩
          refine till_take (i := 0) (v := .pointer (some ⟨g7, 1, none⟩)) rfl (by kernel_rfl) (by kernel_rfl) (fun _ _ _ h => h) (.inl ⟨by rfl, fun W hW => exec_field (off := 0) (d := 1) rfl rfl (by kernel_rfl)⟩) hS0 ?_
          simp only [Act.put, zzA, zz0, zz1]
          refine till_take (i := 1) (v := .slice B4 (k + 1) d4) rfl (by kernel_rfl) (by kernel_rfl) (fun _ _ _ h => h) (.inl ⟨by rfl, fun W hW => exec_load1 rfl rfl (by kernel_rfl) (hW.2.1.cell 1)⟩) hS0 ?_
          simp only [Act.put, zzA, zz0, zz1]
          refine till_take (i := 2) (v := .pointer (some ⟨gm, 1, none⟩)) rfl (by kernel_rfl) (by kernel_rfl) (fun _ _ _ h => h) (.inl ⟨by rfl, fun W hW => exec_field (off := 0) (d := 1) rfl rfl (by kernel_rfl)⟩) hS0 ?_
          simp only [Act.put, zzA, zz0, zz1]
          refine till_take (i := 3) (v := .slice (some ⟨bF, oF, none⟩) n c) rfl (by kernel_rfl) (by kernel_rfl) (fun _ _ _ h => h) (.inl ⟨by rfl, fun W hW => exec_load1 rfl rfl (by kernel_rfl) (hW.1.cell 1)⟩) hS0 ?_
          simp only [Act.put, zzA, zz0, zz1]
          refine till_take (i := 4) (v := .int .i64 (j : Int)) rfl (by kernel_rfl) (by kernel_rfl) (fun _ _ _ h => h) (.inl ⟨by rfl, fun W hW => exec_move rfl rfl⟩) hS0 ?_
          simp only [Act.put, zzA, zz0, zz1]
          refine till_take (i := 5) (v := .pointer (some ⟨bF, oF + j * 2, none⟩)) rfl (by kernel_rfl) (by kernel_rfl) (fun _ _ _ h => h) (.inl ⟨by rfl, fun W hW => gx_iaddr (i := j) (sz := 2) rfl rfl rfl Tryz.underlying22 size_field HLT.out (by omega)⟩) hS0 ?_
          simp only [Act.put, zzA, zz0, zz1]
          refine till_take (i := 6) (v := .agg (fldA f)) rfl (by kernel_rfl) (by kernel_rfl) (fun _ _ _ h => h) (.inl ⟨by rfl, fun W hW => gx_loads rfl rfl hW.2.2 Tryz.underlying40 rfl (by rw [size_field]; rfl)⟩) hS0 ?_
          simp only [Act.put, zzA, zz0, zz1]
          refine till_step (i := 7) (by kernel_rfl) rfl rfl ?_
          intro K1 HK1
          refine wp_run (bx_slice1 rfl rfl (build_f1 f _)) ?_
          have ha7 := (Turn.refl nowhere wz4.drew).alloc (.cells (fldA f) 40)
          refine HK1.out _ _ ⟨fun _ => ⟨hS0.1.turn ha7 (fun e => e), hS0.2.1.turn ha7 (fun e => e), fun i v hv => (ha7.cell (World.block_lt_of_cell? _ _ (hS0.2.2 i v hv)) (fun e => e)).trans (hS0.2.2 i v hv)⟩, ?_⟩
          clear HK1 ha7
          try simp only [Act.put, zzA, zz0, zz1]
          refine till_step (i := 8) (by kernel_rfl) rfl rfl ?_
          intro K1 HK1
          refine wp_run (exec_append rfl rfl rfl HRN5.out) ?_
          have hS8 : Blk w5 gm 24 #[.int .i64 ty, .slice (some ⟨bF, oF, none⟩) n c] ∧ Blk w5 g7 24 #[.int .i64 ty, .slice B4 (k + 1) d4] ∧ w5.rangeAt bF (oF + j * 2) (fldA f).toList := ⟨hS0.1.turn HT5.out (fun e => by
            have e : w2.heap.size ≤ gm := e
            have := HM2.out.lt
            omega), HB5.out, fun i v hv => (HT5.out.cell (World.block_lt_of_cell? _ _ (hS0.2.2 i v hv)) (fun e => by
            have e : w2.heap.size ≤ bF := e
            have := HBF.out
            have := HT1.out.size
            omega)).trans (hS0.2.2 i v hv)⟩
          refine HK1.out _ _ ⟨fun _ => hS8, ?_⟩
          clear HK1 hS0
          try simp only [Act.put, zzA, zz0, zz1]
          refine till_take (i := 9) (v := .pointer (some ⟨g7, 1, none⟩)) rfl (by kernel_rfl) (by kernel_rfl) (fun _ _ _ h => h) (.inl ⟨by rfl, fun W hW => exec_field (off := 0) (d := 1) rfl rfl (by kernel_rfl)⟩) hS8 ?_
          simp only [Act.put, zzA, zz0, zz1]
          clear hS8
          refine till_step (i := 10) (by kernel_rfl) rfl rfl ?_
          intro K1 HK1
          refine wp_storeF (v := .slice B5 ((k + 1) + 1) d5) 22 (.tmp 57) (.tmp 56) rfl HB5.out rfl rfl (show 1 < 2 from by decide) rfl rfl size_sl ?_
          intro hbz huz
          have HS5 := Lib.hid (HA5.out _ hbz huz)
          refine HK1.out _ _ ⟨fun e => absurd e (by decide), ?_⟩
          clear HK1 hbz huz
          generalize w5.setCell ⟨g7, 1, none⟩ (.slice B5 ((k + 1) + 1) d5) = wz5 at *
          try simp only [Act.put, zzA, zz0, zz1]
          refine till_done rfl ?_
          refine NoPanic.normal ?_
          go_upto_region 5 with fail
          refine wp_region_lit ?_
          refine wR (v := .int .i64 (j : Int)) rfl (exec_move rfl rfl) ?_
          simp only [Act.put, zzA, zz0, zz1]
          refine wR (v := .int .i64 ((j + 1 : Nat) : Int)) rfl (ix_add rfl rfl rfl (by omega) (by omega)) ?_
          simp only [Act.put, zzA, zz0, zz1]
          refine wR (v := .int .i64 ((j + 1 : Nat) : Int)) rfl (gx_assign rfl rfl) ?_
          simp only [Act.put, zzA, zz0, zz1]
          go_wp2_with fail
          go_roundg (gk - 1)
          case measure => have := HJL.out; have := HLT.out; omega
          case rel => exact ⟨j + 1, true, l ++ [(no, t)] ++ [f], B5, k + 1 + 1, d5, by have := HJL.out; have := HLT.out; omega, rfl, rfl, by have := HKF.out; simp only [if_pos]; omega, HO2.out, HS5.out⟩
      · refine wR (v := .bool false) rfl (ix_gtr rfl rfl rfl (decide_eq_false hgt)) ?_
        simp only [Act.put, zzA, zz0, zz1]
        refine wR (v := .bool false) rfl (exec_move rfl rfl) ?_
        simp only [Act.put, zzA, zz0, zz1]
        refine wpList_skip (by go_simp) ?_
        simp only [Act.put, zzA, zz0, zz1]
        refine wpList_skip (by go_simp) ?_
        simp only [Act.put, zzA, zz0, zz1]
        refine wR (v := .bool false) rfl (ix_pickF rfl rfl rfl) ?_
        simp only [Act.put, zzA, zz0, zz1]
        have HO2 := Lib.hid (show (l ++ [f]) ++ rsetM no t b (fs.drop (j + 1)) = setM no t fs from by rw [← HOL.out, HST.out, if_neg heq, if_neg (fun h => hgt h.1), List.append_assoc]; rfl)
        clear heq hgt
        obtain ⟨B5, d5, w5, hrun, hbk, htn, hadd⟩ := RS.add (RS.drew HRS.out) HG72.out f (by have := HKI.out; have := HRM.out; have := HLT.out; omega)
        have HRN5 := Lib.hid hrun
        have HB5 := Lib.hid hbk
        have HT5 := Lib.hid htn
        have HA5 := Lib.hid hadd
        clear hrun hbk htn hadd
        go_upto_region 10 with fail
        refine wp_region_till (fun W => Blk W gm 24 #[.int .i64 ty, .slice (some ⟨bF, oF, none⟩) n c] ∧ Blk W g7 24 #[.int .i64 ty, .slice B k d] ∧ W.rangeAt bF (oF + j * 2) (fldA f).toList) 10 (by kernel_rfl) ?_
        have hS0 : Blk wr.drew gm 24 #[.int .i64 ty, .slice (some ⟨bF, oF, none⟩) n c] ∧ Blk wr.drew g7 24 #[.int .i64 ty, .slice B k d] ∧ wr.drew.rangeAt bF (oF + j * 2) (fldA f).toList := ⟨HMR.out.drew, HRS.out.bk.drew, HRR.out⟩
        refine till_take (i := 0) (v := .pointer (some ⟨g7, 1, none⟩)) rfl (by kernel_rfl) (by kernel_rfl) (fun _ _ _ h => h) (.inl ⟨by rfl, fun W hW => exec_field (off := 0) (d := 1) rfl rfl (by kernel_rfl)⟩) hS0 ?_
        simp only [Act.put, zzA, zz0, zz1]
        refine till_take (i := 1) (v := .slice B k d) rfl (by kernel_rfl) (by kernel_rfl) (fun _ _ _ h => h) (.inl ⟨by rfl, fun W hW => exec_load1 rfl rfl (by kernel_rfl) (hW.2.1.cell 1)⟩) hS0 ?_
        simp only [Act.put, zzA, zz0, zz1]
        refine till_take (i := 2) (v := .pointer (some ⟨gm, 1, none⟩)) rfl (by kernel_rfl) (by kernel_rfl) (fun _ _ _ h => h) (.inl ⟨by rfl, fun W hW => exec_field (off := 0) (d := 1) rfl rfl (by kernel_rfl)⟩) hS0 ?_
        simp only [Act.put, zzA, zz0, zz1]
        refine till_take (i := 3) (v := .slice (some ⟨bF, oF, none⟩) n c) rfl (by kernel_rfl) (by kernel_rfl) (fun _ _ _ h => h) (.inl ⟨by rfl, fun W hW => exec_load1 rfl rfl (by kernel_rfl) (hW.1.cell 1)⟩) hS0 ?_
        simp only [Act.put, zzA, zz0, zz1]
        refine till_take (i := 4) (v := .int .i64 (j : Int)) rfl (by kernel_rfl) (by kernel_rfl) (fun _ _ _ h => h) (.inl ⟨by rfl, fun W hW => exec_move rfl rfl⟩) hS0 ?_
        simp only [Act.put, zzA, zz0, zz1]
        refine till_take (i := 5) (v := .pointer (some ⟨bF, oF + j * 2, none⟩)) rfl (by kernel_rfl) (by kernel_rfl) (fun _ _ _ h => h) (.inl ⟨by rfl, fun W hW => gx_iaddr (i := j) (sz := 2) rfl rfl rfl Tryz.underlying22 size_field HLT.out (by omega)⟩) hS0 ?_
        simp only [Act.put, zzA, zz0, zz1]
        refine till_take (i := 6) (v := .agg (fldA f)) rfl (by kernel_rfl) (by kernel_rfl) (fun _ _ _ h => h) (.inl ⟨by rfl, fun W hW => gx_loads rfl rfl hW.2.2 Tryz.underlying40 rfl (by rw [size_field]; rfl)⟩) hS0 ?_
        simp only [Act.put, zzA, zz0, zz1]
        refine till_step (i := 7) (by kernel_rfl) rfl rfl ?_
        intro K1 HK1
        refine wp_run (bx_slice1 rfl rfl (build_f1 f _)) ?_
        have ha7 := (Turn.refl nowhere wr.drew).alloc (.cells (fldA f) 40)
        refine HK1.out _ _ ⟨fun _ => ⟨hS0.1.turn ha7 (fun e => e), hS0.2.1.turn ha7 (fun e => e), fun i v hv => (ha7.cell (World.block_lt_of_cell? _ _ (hS0.2.2 i v hv)) (fun e => e)).trans (hS0.2.2 i v hv)⟩, ?_⟩
        clear HK1 ha7
        try simp only [Act.put, zzA, zz0, zz1]
        refine till_step (i := 8) (by kernel_rfl) rfl rfl ?_
        intro K1 HK1
        refine wp_run (exec_append rfl rfl rfl HRN5.out) ?_
        have hS8 : Blk w5 gm 24 #[.int .i64 ty, .slice (some ⟨bF, oF, none⟩) n c] ∧ Blk w5 g7 24 #[.int .i64 ty, .slice B k d] ∧ w5.rangeAt bF (oF + j * 2) (fldA f).toList := ⟨hS0.1.turn HT5.out (fun e => by
          have e : w2.heap.size ≤ gm := e
          have := HM2.out.lt
          omega), HB5.out, fun i v hv => (HT5.out.cell (World.block_lt_of_cell? _ _ (hS0.2.2 i v hv)) (fun e => by
          have e : w2.heap.size ≤ bF := e
          have := HBF.out
          have := HT1.out.size
          omega)).trans (hS0.2.2 i v hv)⟩
        refine HK1.out _ _ ⟨fun _ => hS8, ?_⟩
        clear HK1 hS0
        try simp only [Act.put, zzA, zz0, zz1]
        refine till_take (i := 9) (v := .pointer (some ⟨g7, 1, none⟩)) rfl (by kernel_rfl) (by kernel_rfl) (fun _ _ _ h => h) (.inl ⟨by rfl, fun W hW => exec_field (off := 0) (d := 1) rfl rfl (by kernel_rfl)⟩) hS8 ?_
        simp only [Act.put, zzA, zz0, zz1]
        clear hS8
        refine till_step (i := 10) (by kernel_rfl) rfl rfl ?_
        intro K1 HK1
        refine wp_storeF (v := .slice B5 (k + 1) d5) 22 (.tmp 57) (.tmp 56) rfl HB5.out rfl rfl (show 1 < 2 from by decide) rfl rfl size_sl ?_
        intro hbz huz
        have HS5 := Lib.hid (HA5.out _ hbz huz)
        refine HK1.out _ _ ⟨fun e => absurd e (by decide), ?_⟩
        clear HK1 hbz huz
        generalize w5.setCell ⟨g7, 1, none⟩ (.slice B5 (k + 1) d5) = wz5 at *
        try simp only [Act.put, zzA, zz0, zz1]
        refine till_done rfl ?_
        refine NoPanic.normal ?_
        go_upto_region 5 with fail
        refine wp_region_lit ?_
        refine wR (v := .int .i64 (j : Int)) rfl (exec_move rfl rfl) ?_
        simp only [Act.put, zzA, zz0, zz1]
        refine wR (v := .int .i64 ((j + 1 : Nat) : Int)) rfl (ix_add rfl rfl rfl (by omega) (by omega)) ?_
        simp only [Act.put, zzA, zz0, zz1]
        refine wR (v := .int .i64 ((j + 1 : Nat) : Int)) rfl (gx_assign rfl rfl) ?_
        simp only [Act.put, zzA, zz0, zz1]
        go_wp2_with fail
        go_roundg (gk - 1)
        case measure => have := HJL.out; have := HLT.out; omega
        case rel => exact ⟨j + 1, b, l ++ [f], B5, k + 1, d5, by have := HJL.out; have := HLT.out; omega, rfl, rfl, by have := HKJ.out; omega, HO2.out, HS5.out⟩
  · refine wR (v := .bool false) rfl (ix_lss rfl rfl rfl (decide_eq_false (by omega))) ?_
    simp only [Act.put, zzA, zz0, zz1]
    have HOE := Lib.hid (show l ++ (if b = true then [] else [(no, t)]) = setM no t fs from by
      have h := HOL.out
      rwa [rset_end (by rw [HNL.out]; omega)] at h)
    have HKN := Lib.hid (show k ≤ n + (if b = true then 1 else 0) from by have := HKJ.out; have := HJL.out; omega)
    clear hlt
    cases b with
    | true =>
      go_upto_region 11 with fail
      refine wp_region_lit ?_
      refine wR (v := .bool true) rfl (exec_move rfl rfl) ?_
      simp only [Act.put, zzA, zz0, zz1]
      refine wR (v := .bool false) rfl (ix_not (b := true) rfl rfl) ?_
      simp only [Act.put, zzA, zz0, zz1]
      go_upto_region 13 with fail
      refine wp_region_lit ?_
      refine wR (v := .agg #[.int .i64 ty, .slice B k d]) rfl (gx_loads rfl rfl (blk_range HRS.out.bk) Tryz.underlying24 rfl (by rw [size_msg]; rfl)) ?_
      simp only [Act.put, zzA, zz0, zz1]
      refine wpList_store_row rfl 24 (.tmp 6) (.tmp 68) rfl #[.int .i64 ty, .slice B k d] (H62.out.turn HRS.out.tr (fun e => HG7.out.2.1 e)) rfl rfl rfl (by rw [size_msg]; rfl) (msgA_one _ _ _ _) ?_
      intro wy hby huy
      have HBY := Lib.hid hby
      have HRY := Lib.hid ((HRS.out.ro.turn huy (fun q hq e => by
        have e : q = g6 := e
        have h1 := (HRS.out.ro.lt q hq).1
        have := H62.out.lt
        omega)).less HT1.out.size)
      have HTY := Lib.hid ((HT1.out.trans HRS.out.tr (fun q hq e => by
        have e : q = g7 := e
        have := HG7.out.2.2
        omega)).trans huy (fun q hq e => by
        have e : q = g6 := e
        have := HG6.out
        omega) : Turn nowhere w wy)
      clear hby huy
      go_wp2_with fail
      refine bodyPost_ret (v := .agg #[.int .i64 ty, .slice B k d]) (ret_cell1 rfl _ _ g6 _ _ _ rfl HBY.out Tryz.underlying24 rfl (by rw [size_msg]; rfl)) rfl ?_
      have he := HOE.out
      replace he : l = setM no t fs := by simpa using he
      exact ⟨B, k, d, rfl, by rw [← he]; exact HRS.out.ln, by rw [← he]; exact HRY.out, HTY.out⟩
    | false =>
      go_upto_region 11 with fail
      refine wp_region_lit ?_
      refine wR (v := .bool false) rfl (exec_move rfl rfl) ?_
      simp only [Act.put, zzA, zz0, zz1]
      refine wR (v := .bool true) rfl (ix_not (b := false) rfl rfl) ?_
      simp only [Act.put, zzA, zz0, zz1]
      have HKF := Lib.hid (show k ≤ n from by have := HKN.out; simpa using this)
      obtain ⟨B4, d4, w4, hrun, hbk, htn, hadd⟩ := RS.add HRS.out HG72.out (no, t) (by have := HKF.out; have := HRM.out; omega)
      have HRN4 := Lib.hid hrun
      have HB4 := Lib.hid hbk
      have HT4 := Lib.hid htn
      have HA4 := Lib.hid hadd
      clear hrun hbk htn hadd
      go_upto_region 12 with fail
      refine wp_region_lit ?_
      refine wR (v := .pointer (some ⟨g7, 1, none⟩)) rfl (exec_field (off := 0) (d := 1) rfl rfl (by kernel_rfl)) ?_
      simp only [Act.put, zzA, zz0, zz1]
      refine wR (v := .slice B k d) rfl (exec_load1 rfl rfl (by kernel_rfl) (HRS.out.bk.cell 1)) ?_
      simp only [Act.put, zzA, zz0, zz1]
      refine wR (v := .int .i64 no) rfl (exec_move rfl rfl) ?_
      simp only [Act.put, zzA, zz0, zz1]
      refine wR (v := strV t) rfl (exec_move rfl rfl) ?_
      simp only [Act.put, zzA, zz0, zz1]
      refine wR (v := .agg (fldA (no, t))) rfl (gx_build2 rfl rfl rfl (build_fldM no t _)) ?_
      simp only [Act.put, zzA, zz0, zz1]
      refine wR (v := .slice (some ⟨wr.heap.size, 0, none⟩) 1 1) (w' := wr.alloc (.cells (fldA (no, t)) 40)) rfl (bx_slice1 rfl rfl (build_f1 (no, t) _)) ?_
      simp only [Act.put, zzA, zz0, zz1]
      refine wR (v := .slice B4 (k + 1) d4) (w' := w4) rfl (exec_append rfl rfl rfl HRN4.out) ?_
      simp only [Act.put, zzA, zz0, zz1]
      refine wR (v := .pointer (some ⟨g7, 1, none⟩)) rfl (exec_field (off := 0) (d := 1) rfl rfl (by kernel_rfl)) ?_
      simp only [Act.put, zzA, zz0, zz1]
      refine wpList_store1 (v := .slice B4 (k + 1) d4) rfl 22 (.tmp 67) (.tmp 66) rfl HB4.out rfl rfl (show 1 < 2 from by decide) rfl rfl size_sl ?_
      intro hbz huz
      have HS4 := Lib.hid (HA4.out _ hbz huz)
      have HU4 := Lib.hid huz
      clear hbz huz
      generalize w4.setCell ⟨g7, 1, none⟩ (.slice B4 (k + 1) d4) = wz4 at *
      try simp only [Act.put, zzA, zz0, zz1]
      go_upto_region 13 with fail
      refine wp_region_lit ?_
      refine wR (v := .agg #[.int .i64 ty, .slice B4 (k + 1) d4]) rfl (gx_loads rfl rfl (blk_range HS4.out.bk) Tryz.underlying24 rfl (by rw [size_msg]; rfl)) ?_
      simp only [Act.put, zzA, zz0, zz1]
      refine wpList_store_row rfl 24 (.tmp 6) (.tmp 68) rfl #[.int .i64 ty, .slice B4 (k + 1) d4] (H62.out.turn HS4.out.tr (fun e => HG7.out.2.1 e)) rfl rfl rfl (by rw [size_msg]; rfl) (msgA_one _ _ _ _) ?_
      intro wy hby huy
      have HBY := Lib.hid hby
      have HRY := Lib.hid ((HS4.out.ro.turn huy (fun q hq e => by
        have e : q = g6 := e
        have h1 := (HS4.out.ro.lt q hq).1
        have := H62.out.lt
        omega)).less HT1.out.size)
      have HTY := Lib.hid ((HT1.out.trans HS4.out.tr (fun q hq e => by
        have e : q = g7 := e
        have := HG7.out.2.2
        omega)).trans huy (fun q hq e => by
        have e : q = g6 := e
        have := HG6.out
        omega) : Turn nowhere w wy)
      clear hby huy
      go_wp2_with fail
      refine bodyPost_ret (v := .agg #[.int .i64 ty, .slice B4 (k + 1) d4]) (ret_cell1 rfl _ _ g6 _ _ _ rfl HBY.out Tryz.underlying24 rfl (by rw [size_msg]; rfl)) rfl ?_
      have he := HOE.out
      replace he : l ++ [(no, t)] = setM no t fs := by simpa using he
      exact ⟨B4, (k + 1), d4, rfl, by rw [← he]; exact HS4.out.ln, by rw [← he]; exact HRY.out, HTY.out⟩
end Go.Proofs.YticofobhkmabiaaGreatDoor
namespace Go.Proofs.YticofobhkmabiaaGreatDoor
open Go.RowKit
open Fdd
set_option linter.unusedVariables false
set_option linter.unusedSimpArgs false
def gotV (o : Option (List UInt8)) : Value := match o with
  | some t => .tuple #[strV t, .bool true]
  | none => .tuple #[strV [], .bool false]
theorem get_at {fs : List Fld} {no : Int} {j : Nat} {f : Fld} (hf : fs[j]? = some f) : getM no (fs.drop j) = if f.1 = no then some f.2 else getM no (fs.drop (j + 1)) := by
  obtain ⟨hj, e⟩ := List.getElem?_eq_some_iff.1 hf
  rw [List.drop_eq_getElem_cons hj, e]
  rfl
set_option maxRecDepth 20000 in
set_option maxHeartbeats 1000000 in
theorem Get_walk {w : World} {ty no : Int} {A : Option Addr} {n c : Nat} {fs : List Fld} (hf : Fl w A n fs) :
    Calls Tryz.prog 15 #[msgV ty A n c, .int .i64 no] w fun e w' => e = .returned (gotV (getM no fs)) ∧ Turn nowhere w w' := by
  have HF := Lib.hid hf
  have HNL := Lib.hid hf.1
  have y9 : (n : Int) ≤ 140737488355328 := by
    have := hf.2.1
    omega
  clear hf
  unfold msgV
  go_enter Tryz.func15, Tryz.ntmps15
  go_upto_region 1 with fail
  have hb0 := Blk.new w 24 #[.int .i64 ty, .slice A n c]
  have hu0 := (Turn.refl nowhere w).alloc (.cells #[.int .i64 ty, .slice A n c] 24)
  obtain ⟨gm, hg0⟩ : ∃ g, g = w.heap.size := ⟨_, rfl⟩
  rw [← hg0] at hb0 ⊢
  clear hg0
  generalize w.alloc (.cells #[.int .i64 ty, .slice A n c] 24) = w1 at *
  have HBgm := Lib.hid hb0
  have HT0 := Lib.hid hu0
  clear hb0 hu0
  refine wp_region_lit ?_
  refine wR (v := .pointer (some ⟨gm, 1, none⟩)) rfl (exec_field (off := 0) (d := 1) rfl rfl (by kernel_rfl)) ?_
  simp only [Act.put, zzA, zz0, zz1]
  refine wR (v := .slice A n c) rfl (exec_load1 rfl rfl (by kernel_rfl) (HBgm.out.cell 1)) ?_
  simp only [Act.put, zzA, zz0, zz1]
  refine wR (v := .int .i64 (n : Int)) rfl (gx_len rfl rfl Tryz.underlying22) ?_
  simp only [Act.put, zzA, zz0, zz1]
  refine wR (v := .int .i64 0) rfl (exec_move rfl rfl) ?_
  simp only [Act.put, zzA, zz0, zz1]
  go_wp2_with fail
  go_loopg [11] n (fun gk jv wr => ∃ j : Nat, j + gk = n ∧ jv = .int .i64 (j : Int) ∧ Turn nowhere w1 wr ∧ getM no (fs.drop j) = getM no fs)
  case atStart => exact ⟨0, by omega, rfl, Turn.refl _ _, rfl⟩
  obtain ⟨j, hjl, rfl, htr, hgm⟩ := hrel
  have HJL := Lib.hid hjl
  have HTR := Lib.hid htr
  have HGM := Lib.hid hgm
  clear hjl htr hgm
  go_upto_region 2 with fail
  refine wp_region_lit ?_
  by_cases hlt : j < n
  · have HLT := Lib.hid hlt
    have y1 : (j : Int) < (n : Int) := by omega
    obtain ⟨bF, oF, rfl, hr⟩ := HF.out.2.2 (by omega)
    obtain ⟨f, hf⟩ : ∃ f, fs[j]? = some f := ⟨_, List.getElem?_eq_getElem (show j < fs.length from by rw [HNL.out]; exact hlt)⟩
    have HRR := Lib.hid (show wr.rangeAt bF (oF + j * 2) (fldA f).toList from fun i v hv => ((HT0.out.next HTR.out).cell (World.block_lt_of_cell? _ _ (hr j f hf i v hv)) (fun e => e)).trans (hr j f hf i v hv))
    have HGA := Lib.hid (get_at (no := no) hf)
    clear hr hf hlt
    refine wR (v := .bool true) rfl (ix_lss rfl rfl rfl (decide_eq_true y1)) ?_
    simp only [Act.put, zzA, zz0, zz1]
    go_upto_region 3 with fail
    refine wp_region_lit ?_
    refine wR (v := .pointer (some ⟨bF, oF + j * 2, none⟩)) rfl (gx_iaddr (i := j) (sz := 2) rfl rfl rfl Tryz.underlying22 size_field HLT.out (by omega)) ?_
    simp only [Act.put, zzA, zz0, zz1]
    refine wR (v := .agg (fldA f)) rfl (gx_loads rfl rfl HRR.out Tryz.underlying40 rfl (by rw [size_field]; rfl)) ?_
    simp only [Act.put, zzA, zz0, zz1]
    refine wpList_new 40 (.tmp 7) (.tmp 14) (fldA f) rfl rfl (zero_field _) rfl rfl rfl rfl rfl rfl (by rw [size_field]; rfl) (fldA_one f) ?_
    intro w3 g7 _ hbx hux
    simp only [Act.put, zzA, zz0, zz1]
    have HB7 := Lib.hid hbx
    have HT7 := Lib.hid hux
    clear hbx hux HRR
    go_upto_region 4 with fail
    refine wp_region_lit ?_
    refine wR (v := .pointer (some ⟨g7, 0, none⟩)) rfl (exec_field (off := 0) (d := 0) rfl rfl (by kernel_rfl)) ?_
    simp only [Act.put, zzA, zz0, zz1]
    refine wR (v := .int .i64 f.1) rfl (exec_load1 rfl rfl (by kernel_rfl) (HB7.out.cell 0)) ?_
    simp only [Act.put, zzA, zz0, zz1]
    refine wR (v := .int .i64 no) rfl (exec_move rfl rfl) ?_
    simp only [Act.put, zzA, zz0, zz1]
    by_cases heq : f.1 = no
    · refine wR (v := .bool true) rfl (ix_eql rfl rfl rfl (decide_eq_true heq)) ?_
      simp only [Act.put, zzA, zz0, zz1]
      go_upto_region 5 with fail
      refine wp_region_lit ?_
      refine wR (v := .pointer (some ⟨g7, 1, none⟩)) rfl (exec_field (off := 0) (d := 1) rfl rfl (by kernel_rfl)) ?_
      simp only [Act.put, zzA, zz0, zz1]
      refine wR (v := strV f.2) rfl (exec_load1 rfl rfl (by kernel_rfl) (HB7.out.cell 1)) ?_
      simp only [Act.put, zzA, zz0, zz1]
      refine wR (v := strV f.2) rfl (gx_assign rfl rfl) ?_
      simp only [Act.put, zzA, zz0, zz1]
      refine wR (v := .bool true) rfl (gx_assign rfl rfl) ?_
      simp only [Act.put, zzA, zz0, zz1]
      have HG2 := Lib.hid (show getM no fs = some f.2 from by rw [← HGM.out, HGA.out, if_pos heq])
      clear heq
      go_wp2_with fail
      go_ret2
      rw [HG2.out]
      exact ⟨rfl, (HT0.out.next HTR.out).next HT7.out⟩
    · refine wR (v := .bool false) rfl (ix_eql rfl rfl rfl (decide_eq_false heq)) ?_
      simp only [Act.put, zzA, zz0, zz1]
      have HG2 := Lib.hid (show getM no (fs.drop (j + 1)) = getM no fs from by rw [← HGM.out, HGA.out, if_neg heq])
      clear heq
      go_wp2_with fail
      go_roundg (gk - 1)
      case measure => have := HJL.out; have := HLT.out; omega
      case rel => exact ⟨j + 1, by have := HJL.out; have := HLT.out; omega, by go_num, HTR.out.next HT7.out, HG2.out⟩
  · refine wR (v := .bool false) rfl (ix_lss rfl rfl rfl (decide_eq_false (by omega))) ?_
    simp only [Act.put, zzA, zz0, zz1]
    have HGN := Lib.hid (show getM no fs = none from by
      rw [← HGM.out, List.drop_eq_nil_of_le (by rw [HNL.out]; omega)]
      rfl)
    clear hlt
    go_wp2_with fail
    go_ret2
    rw [HGN.out]
    exact ⟨rfl, HT0.out.next HTR.out⟩
set_option maxRecDepth 20000 in
set_option maxHeartbeats 1000000 in
theorem rGet_walk {w : World} {ty no : Int} {A : Option Addr} {n c : Nat} {fs : List Fld} (hf : Fl w A n fs) :
    Calls Tryz.prog 16 #[msgV ty A n c, .int .i64 no] w fun e w' => e = .returned (gotV (getM no fs)) ∧ Turn nowhere w w' := by
  have HF := Lib.hid hf
  have HNL := Lib.hid hf.1
  have y9 : (n : Int) ≤ 140737488355328 := by
    have := hf.2.1
    omega
  clear hf
  unfold msgV
  go_enter Tryz.func16, Tryz.ntmps16
  go_upto_region 1 with fail
  have hb0 := Blk.new w 24 #[.int .i64 ty, .slice A n c]
  have hu0 := (Turn.refl nowhere w).alloc (.cells #[.int .i64 ty, .slice A n c] 24)
  obtain ⟨gm, hg0⟩ : ∃ g, g = w.heap.size := ⟨_, rfl⟩
  rw [← hg0] at hb0 ⊢
  clear hg0
  generalize w.alloc (.cells #[.int .i64 ty, .slice A n c] 24) = w1 at *
  have HBgm := Lib.hid hb0
  have HT0 := Lib.hid hu0
  clear hb0 hu0
  refine wp_region_lit ?_
  refine wR (v := .int .i64 0) rfl (gx_assign rfl rfl) ?_
  simp only [Act.put, zzA, zz0, zz1]
  go_wp2_with fail
  go_loopg [6] n (fun gk jv wr => ∃ j : Nat, j + gk = n ∧ jv = .int .i64 (j : Int) ∧ Turn nowhere w1 wr ∧ getM no (fs.drop j) = getM no fs)
  case atStart => exact ⟨0, by omega, rfl, Turn.refl _ _, rfl⟩
  obtain ⟨j, hjl, rfl, htr, hgm⟩ := hrel
  have HJL := Lib.hid hjl
  have HTR := Lib.hid htr
  have HGM := Lib.hid hgm
  clear hjl htr hgm
  have HB2 := Lib.hid (HBgm.out.turn HTR.out (fun e => e))
  go_upto_region 2 with fail
  refine wp_region_lit ?_
  refine wR (v := .int .i64 (j : Int)) rfl (exec_move rfl rfl) ?_
  simp only [Act.put, zzA, zz0, zz1]
  refine wR (v := .pointer (some ⟨gm, 1, none⟩)) rfl (exec_field (off := 0) (d := 1) rfl rfl (by kernel_rfl)) ?_
  simp only [Act.put, zzA, zz0, zz1]
  refine wR (v := .slice A n c) rfl (exec_load1 rfl rfl (by kernel_rfl) (HB2.out.cell 1)) ?_
  simp only [Act.put, zzA, zz0, zz1]
  refine wR (v := .int .i64 (n : Int)) rfl (gx_len rfl rfl Tryz.underlying22) ?_
  simp only [Act.put, zzA, zz0, zz1]
  by_cases hlt : j < n
  · have HLT := Lib.hid hlt
    have y1 : (j : Int) < (n : Int) := by omega
    obtain ⟨bF, oF, rfl, hr⟩ := HF.out.2.2 (by omega)
    obtain ⟨f, hf⟩ : ∃ f, fs[j]? = some f := ⟨_, List.getElem?_eq_getElem (show j < fs.length from by rw [HNL.out]; exact hlt)⟩
    have HRR := Lib.hid (show wr.rangeAt bF (oF + j * 2) (fldA f).toList from fun i v hv => ((HT0.out.next HTR.out).cell (World.block_lt_of_cell? _ _ (hr j f hf i v hv)) (fun e => e)).trans (hr j f hf i v hv))
    have HGA := Lib.hid (get_at (no := no) hf)
    clear hr hf hlt
    refine wR (v := .bool true) rfl (ix_lss rfl rfl rfl (decide_eq_true y1)) ?_
    simp only [Act.put, zzA, zz0, zz1]
    go_upto_region 4 with fail
    refine wp_region_lit ?_
    refine wR (v := .pointer (some ⟨gm, 1, none⟩)) rfl (exec_field (off := 0) (d := 1) rfl rfl (by kernel_rfl)) ?_
    simp only [Act.put, zzA, zz0, zz1]
    refine wR (v := .slice (some ⟨bF, oF, none⟩) n c) rfl (exec_load1 rfl rfl (by kernel_rfl) (HB2.out.cell 1)) ?_
    simp only [Act.put, zzA, zz0, zz1]
    refine wR (v := .int .i64 (j : Int)) rfl (exec_move rfl rfl) ?_
    simp only [Act.put, zzA, zz0, zz1]
    refine wR (v := .pointer (some ⟨bF, oF + j * 2, none⟩)) rfl (gx_iaddr (i := j) (sz := 2) rfl rfl rfl Tryz.underlying22 size_field HLT.out (by omega)) ?_
    simp only [Act.put, zzA, zz0, zz1]
    refine wR (v := .pointer (some ⟨bF, oF + j * 2, none⟩)) rfl (exec_field (off := oF + j * 2) (d := 0) rfl rfl (by kernel_rfl)) ?_
    simp only [Act.put, zzA, zz0, zz1]
    refine wR (v := .int .i64 f.1) rfl (exec_load1 rfl rfl (by kernel_rfl) (HRR.out 0 _ rfl)) ?_
    simp only [Act.put, zzA, zz0, zz1]
    refine wR (v := .int .i64 no) rfl (exec_move rfl rfl) ?_
    simp only [Act.put, zzA, zz0, zz1]
    by_cases heq : f.1 = no
    · refine wR (v := .bool true) rfl (ix_eql rfl rfl rfl (decide_eq_true heq)) ?_
      simp only [Act.put, zzA, zz0, zz1]
      go_upto_region 5 with fail
      refine wp_region_lit ?_
      refine wR (v := .pointer (some ⟨gm, 1, none⟩)) rfl (exec_field (off := 0) (d := 1) rfl rfl (by kernel_rfl)) ?_
      simp only [Act.put, zzA, zz0, zz1]
      refine wR (v := .slice (some ⟨bF, oF, none⟩) n c) rfl (exec_load1 rfl rfl (by kernel_rfl) (HB2.out.cell 1)) ?_
      simp only [Act.put, zzA, zz0, zz1]
      refine wR (v := .int .i64 (j : Int)) rfl (exec_move rfl rfl) ?_
      simp only [Act.put, zzA, zz0, zz1]
      refine wR (v := .pointer (some ⟨bF, oF + j * 2, none⟩)) rfl (gx_iaddr (i := j) (sz := 2) rfl rfl rfl Tryz.underlying22 size_field HLT.out (by omega)) ?_
      simp only [Act.put, zzA, zz0, zz1]
      refine wR (v := .pointer (some ⟨bF, oF + j * 2 + 1, none⟩)) rfl (exec_field (off := oF + j * 2) (d := 1) rfl rfl (by kernel_rfl)) ?_
      simp only [Act.put, zzA, zz0, zz1]
      refine wR (v := strV f.2) rfl (exec_load1 rfl rfl (by kernel_rfl) (HRR.out 1 _ rfl)) ?_
      simp only [Act.put, zzA, zz0, zz1]
      refine wR (v := strV f.2) rfl (gx_assign rfl rfl) ?_
      simp only [Act.put, zzA, zz0, zz1]
      refine wR (v := .bool true) rfl (gx_assign rfl rfl) ?_
      simp only [Act.put, zzA, zz0, zz1]
      have HG2 := Lib.hid (show getM no fs = some f.2 from by rw [← HGM.out, HGA.out, if_pos heq])
      clear heq
      go_wp2_with fail
      go_ret2
      rw [HG2.out]
      exact ⟨rfl, HT0.out.next HTR.out⟩
    · refine wR (v := .bool false) rfl (ix_eql rfl rfl rfl (decide_eq_false heq)) ?_
      simp only [Act.put, zzA, zz0, zz1]
      have HG2 := Lib.hid (show getM no (fs.drop (j + 1)) = getM no fs from by rw [← HGM.out, HGA.out, if_neg heq])
      clear heq
      go_wp2_with fail
      go_roundg (gk - 1)
      case measure => have := HJL.out; have := HLT.out; omega
      case rel => exact ⟨j + 1, by have := HJL.out; have := HLT.out; omega, by go_num, HTR.out, HG2.out⟩
  · refine wR (v := .bool false) rfl (ix_lss rfl rfl rfl (decide_eq_false (by omega))) ?_
    simp only [Act.put, zzA, zz0, zz1]
    have HGN := Lib.hid (show getM no fs = none from by
      rw [← HGM.out, List.drop_eq_nil_of_le (by rw [HNL.out]; omega)]
      rfl)
    clear hlt
    go_wp2_with fail
    go_ret2
    rw [HGN.out]
    exact ⟨rfl, HT0.out.next HTR.out⟩
end Go.Proofs.YticofobhkmabiaaGreatDoor
namespace Go.Proofs.YticofobhkmabiaaGreatDoor
open Go.RowKit
open Fdd
set_option linter.unusedVariables false
set_option linter.unusedSimpArgs false
theorem size_str1 : (Tryz.prog.info? 9).map (·.size) = some 1 := by kernel_rfl
theorem sneq_any {a : Act} {o : Oper} {W : World} {x y : Operand} {l : List UInt8} {t u : TypeId} (ho : o.op = .binOp .neq t x y u) (hx : a.eval x = strV l) (hy : a.eval y = strV l) : (execOp a.eval o).run Tryz.prog W = .ok (.value (.bool false)) W := by
  unfold execOp
  simp only [ho, hx, hy, strV]
  go_simp
/-- the block of a row of its own -/
theorem FRow.block {w : World} {B n c : Nat} {A : Option Addr} {fs : List Fld} (h : FRow w B (.slice A n c) fs) (hp : 0 < fs.length) : ∃ g cur, A = some ⟨g, 0, none⟩ ∧ B ≤ g ∧ Blk w g 40 cur ∧ n * 2 ≤ cur.size := by
  rcases h.2 with ⟨_, h0⟩ | ⟨g, cap, cur, e, hb, hg, h1, _, h2, _⟩
  · omega
  · injection e with e1 e2 e3
    subst e1 e2 e3
    exact ⟨g, cur, rfl, hb, hg, by omega⟩
set_option maxRecDepth 20000 in
set_option maxHeartbeats 4000000 in
theorem messageTurns_walk {s : Sents} {ty : Int} {A : Option Addr} {n c : Nat} {fs : List Fld} (no : Int) (t : List UInt8) (W : World) (he0 : Env s W) (hf0 : Fl W A n fs) (hz0 : A = none → c = 0) (hr0 : n * 24 ≤ 140737488351232) :
    Calls Tryz.prog 5 #[msgV ty A n c, .int .i64 no, strV t] W fun e W' => e = .returned (.bool true) ∧ Below W.heap.size W W' := by
  have HE := Lib.hid he0
  have HF := Lib.hid hf0
  have HZN := Lib.hid hz0
  have HRM := Lib.hid hr0
  have HNL := Lib.hid hf0.1
  have y9 : (n : Int) ≤ 140737488355328 := by
    have := hf0.2.1
    omega
  clear he0 hf0 hz0 hr0
  unfold msgV
  go_enter Tryz.func5, Tryz.ntmps5
  go_upto_region 1 with fail
  have hb0 := Blk.new (W) 24 #[.int .i64 ty, .slice A n c]
  have hu0 := (Turn.refl nowhere (W)).alloc (.cells #[.int .i64 ty, .slice A n c] 24)
  have hbz := hb0
  have huz := hu0
  clear hb0 hu0
  obtain ⟨gm, hg0⟩ : ∃ g, g = W.heap.size := ⟨_, rfl⟩
  rw [← hg0] at hbz ⊢
  clear hg0
  generalize W.alloc (.cells #[.int .i64 ty, .slice A n c] 24) = w0 at *
  have HBgm := Lib.hid hbz
  have HT0 := Lib.hid huz
  clear hbz huz
  refine wp_region_lit ?_
  have hS := shown_walk (s := s) w0 (HE.out.turn HT0.out)
  refine wpList_op rfl fun K9 HK9 => ?_
  go_wp2_with fail
  refine (hS).mono ?_
  rintro e w1 ⟨rfl, htx⟩
  refine HK9.out _ _ ?_
  clear HK9
  try simp only [Act.put, zzA, zz0, zz1]
  have HT1 := Lib.hid htx
  clear htx hS
  refine wR (v := .bool true) rfl (gx_assign rfl rfl) ?_
  simp only [Act.put, zzA, zz0, zz1]
  go_upto_region 2 with fail
  go_cut [8] from 19 to 25 (fun ov wx => ∃ (go : Nat) (A7 : Option Addr) (c7 : Nat), ov = .pointer (some ⟨go, 0, none⟩) ∧ Blk wx go 24 #[.int .i64 ty, .slice A7 n c7] ∧ FRow wx w1.heap.size (.slice A7 n c7) fs ∧ Turn nowhere w1 wx)
  case first =>
    have HD := Lib.hid ((Turn.refl nowhere w1).drew)
    refine wp_region_alw (fun W => Blk W gm 24 #[.int .i64 ty, .slice A n c]) (by kernel_rfl) ?_
    have hS0 : Blk w1.drew gm 24 #[.int .i64 ty, .slice A n c] := (HBgm.out.turn HT1.out (fun e => e)).drew
    have HFd := Lib.hid (((HF.out.still (HT0.out.next HT1.out))).still HD.out)
    have HSd := Lib.hid hS0
    have HSZ := Lib.hid (show w1.drew.heap.size = w1.heap.size from rfl)
    generalize w1.drew = wd at *
    refine alw_take (i := 0) (v := .pointer (some ⟨gm, 0, none⟩)) rfl (by kernel_rfl) (by kernel_rfl) (fun _ _ _ h => h) (.inl ⟨by rfl, fun W hW => exec_field (off := 0) (d := 0) rfl rfl (by kernel_rfl)⟩) hS0 ?_
    simp only [Act.put, zzA, zz0, zz1]
    refine alw_take (i := 1) (v := .int .i64 ty) rfl (by kernel_rfl) (by kernel_rfl) (fun _ _ _ h => h) (.inl ⟨by rfl, fun W hW => exec_load1 rfl rfl (by kernel_rfl) (hW.cell 0)⟩) hS0 ?_
    simp only [Act.put, zzA, zz0, zz1]
    refine alw_take (i := 3) (v := .pointer (some ⟨gm, 1, none⟩)) rfl (by kernel_rfl) (by kernel_rfl) (fun _ _ _ h => h) (.inl ⟨by rfl, fun W hW => exec_field (off := 0) (d := 1) rfl rfl (by kernel_rfl)⟩) hS0 ?_
    simp only [Act.put, zzA, zz0, zz1]
    refine alw_take (i := 4) (v := .slice A n c) rfl (by kernel_rfl) (by kernel_rfl) (fun _ _ _ h => h) (.inl ⟨by rfl, fun W hW => exec_load1 rfl rfl (by kernel_rfl) (hW.cell 1)⟩) hS0 ?_
    simp only [Act.put, zzA, zz0, zz1]
    have HE1 := Lib.hid ((Turn.refl nowhere wd).alloc (.cells #[] 40))
    have HZ1 := Lib.hid ((Turn.refl nowhere wd).alloc (.cells #[.int .i64 0, .slice none 0 0] 24))
    refine alw_two (i := 2) (k := 7) (by kernel_rfl) rfl rfl rfl rfl ?_ ?_
    · intro K1 HK1
      refine wp_run (bx_slice0 rfl (build_f0 _)) ?_
      refine HK1.out _ _ ⟨HSd.out.turn HE1.out (fun e => e), ?_⟩
      clear HK1
      try simp only [Act.put, zzA, zz0, zz1]
      have HR1 := Lib.hid (own_made (Turn.refl nowhere wd))
      refine alw_two (i := 5) (k := 7) (by kernel_rfl) rfl rfl rfl rfl ?_ ?_
      · obtain ⟨A5, c5, w5, hrun, hrow, ht5, hgr⟩ := own_app HR1.out HE1.out HFd.out HZN.out HRM.out
        intro K1 HK1
        refine wp_run (exec_append rfl rfl rfl hrun) ?_
        refine HK1.out _ _ ⟨HSd.out.turn ht5 (fun e => e), ?_⟩
        clear HK1
        try simp only [Act.put, zzA, zz0, zz1]
        have hS9 := HSd.out.turn ht5 (fun e => e)
        refine alw_take (i := 6) (v := .agg #[.int .i64 ty, .slice A5 n c5]) rfl (by kernel_rfl) (by kernel_rfl) (fun _ _ _ h => h) (.inl ⟨by rfl, fun W hW => gx_build2 rfl rfl rfl (build_msg2 ty A5 n c5 W)⟩) hS9 ?_
        simp only [Act.put, zzA, zz0, zz1]
        refine alw_step (i := 7) (by kernel_rfl) rfl rfl ?_
        intro K1 HK1
        refine wp_run (gx_alloc rfl (zero_msg _)) ?_
        have hta := ht5.alloc (.cells #[.int .i64 0, .slice none 0 0] 24)
        refine HK1.out _ _ ⟨HSd.out.turn hta (fun e => e), ?_⟩
        clear HK1
        try simp only [Act.put, zzA, zz0, zz1]
        have hb6 := Blk.new w5 24 #[.int .i64 0, .slice none 0 0]
        have hr6 := hrow.still ((Turn.refl nowhere w5).alloc (.cells #[.int .i64 0, .slice none 0 0] 24))
        refine alw_step (i := 8) (by kernel_rfl) rfl rfl ?_
        intro K1 HK1
        refine wp_store_rowU 24 (.tmp 8) (.tmp 25) rfl #[.int .i64 ty, .slice A5 n c5] hb6 rfl rfl rfl (by rw [size_msg]; rfl) (msgA_one _ _ _ _) ?_
        intro w7 hb7 hu7
        have hend := own_end hr6 hb6 hta ht5.size hu7
        refine HK1.out _ _ ⟨HSd.out.turn hend.2 (fun e => e), ?_⟩
        clear HK1
        try simp only [Act.put, zzA, zz0, zz1]
        refine alw_done rfl ?_
        refine NoPanic.normal ?_
        go_wp2_with fail
        go_meet
        exact ⟨_, A5, c5, rfl, hb7, by rw [← HSZ.out]; exact hend.1, HD.out.next hend.2⟩
      · have hta := HE1.out.alloc (.cells #[.int .i64 0, .slice none 0 0] 24)
        intro K1 HK1
        refine wp_run (gx_alloc rfl (zero_msg _)) ?_
        refine HK1.out _ _ ⟨HSd.out.turn hta (fun e => e), ?_⟩
        clear HK1
        try simp only [Act.put, zzA, zz0, zz1]
        have hb6 := Blk.new (wd.alloc (.cells #[] 40)) 24 #[.int .i64 0, .slice none 0 0]
        obtain ⟨A5, c5, w5, hrun, hrow, ht5, hgr⟩ := own_app (HR1.out.still ((Turn.refl nowhere (wd.alloc (.cells #[] 40))).alloc (.cells #[.int .i64 0, .slice none 0 0] 24))) hta HFd.out HZN.out HRM.out
        refine alw_step (i := 5) (by kernel_rfl) rfl rfl ?_
        intro K1 HK1
        refine wp_run (exec_append rfl rfl rfl hrun) ?_
        refine HK1.out _ _ ⟨HSd.out.turn ht5 (fun e => e), ?_⟩
        clear HK1
        try simp only [Act.put, zzA, zz0, zz1]
        have hS9 := HSd.out.turn ht5 (fun e => e)
        refine alw_take (i := 6) (v := .agg #[.int .i64 ty, .slice A5 n c5]) rfl (by kernel_rfl) (by kernel_rfl) (fun _ _ _ h => h) (.inl ⟨by rfl, fun W hW => gx_build2 rfl rfl rfl (build_msg2 ty A5 n c5 W)⟩) hS9 ?_
        simp only [Act.put, zzA, zz0, zz1]
        have hb6 := hb6.grown hgr (by simp)
        refine alw_step (i := 8) (by kernel_rfl) rfl rfl ?_
        intro K1 HK1
        refine wp_store_rowU 24 (.tmp 8) (.tmp 25) rfl #[.int .i64 ty, .slice A5 n c5] hb6 rfl rfl rfl (by rw [size_msg]; rfl) (msgA_one _ _ _ _) ?_
        intro w7 hb7 hu7
        have hend := own_end hrow hb6 ht5 (by simp) hu7
        refine HK1.out _ _ ⟨HSd.out.turn hend.2 (fun e => e), ?_⟩
        clear HK1
        try simp only [Act.put, zzA, zz0, zz1]
        refine alw_done rfl ?_
        refine NoPanic.normal ?_
        go_wp2_with fail
        go_meet
        exact ⟨_, A5, c5, rfl, hb7, by rw [← HSZ.out]; exact hend.1, HD.out.next hend.2⟩
    · intro K1 HK1
      refine wp_run (gx_alloc rfl (zero_msg _)) ?_
      refine HK1.out _ _ ⟨HSd.out.turn HZ1.out (fun e => e), ?_⟩
      clear HK1
      try simp only [Act.put, zzA, zz0, zz1]
      have hb60 := Blk.new wd 24 #[.int .i64 0, .slice none 0 0]
      have hR1 := own_made HZ1.out
      have hta := HZ1.out.alloc (.cells #[] 40)
      refine alw_step (i := 2) (by kernel_rfl) rfl rfl ?_
      intro K1 HK1
      refine wp_run (bx_slice0 rfl (build_f0 _)) ?_
      refine HK1.out _ _ ⟨HSd.out.turn hta (fun e => e), ?_⟩
      clear HK1
      try simp only [Act.put, zzA, zz0, zz1]
      obtain ⟨A5, c5, w5, hrun, hrow, ht5, hgr⟩ := own_app hR1 hta HFd.out HZN.out HRM.out
      refine alw_step (i := 5) (by kernel_rfl) rfl rfl ?_
      intro K1 HK1
      refine wp_run (exec_append rfl rfl rfl hrun) ?_
      refine HK1.out _ _ ⟨HSd.out.turn ht5 (fun e => e), ?_⟩
      clear HK1
      try simp only [Act.put, zzA, zz0, zz1]
      have hS9 := HSd.out.turn ht5 (fun e => e)
      refine alw_take (i := 6) (v := .agg #[.int .i64 ty, .slice A5 n c5]) rfl (by kernel_rfl) (by kernel_rfl) (fun _ _ _ h => h) (.inl ⟨by rfl, fun W hW => gx_build2 rfl rfl rfl (build_msg2 ty A5 n c5 W)⟩) hS9 ?_
      simp only [Act.put, zzA, zz0, zz1]
      have hb6 := (hb60.alloc (.cells #[] 40)).grown hgr (by simp)
      refine alw_step (i := 8) (by kernel_rfl) rfl rfl ?_
      intro K1 HK1
      refine wp_store_rowU 24 (.tmp 8) (.tmp 25) rfl #[.int .i64 ty, .slice A5 n c5] hb6 rfl rfl rfl (by rw [size_msg]; rfl) (msgA_one _ _ _ _) ?_
      intro w7 hb7 hu7
      have hend := own_end hrow hb6 ht5 (Nat.le_refl _) hu7
      refine HK1.out _ _ ⟨HSd.out.turn hend.2 (fun e => e), ?_⟩
      clear HK1
      try simp only [Act.put, zzA, zz0, zz1]
      refine alw_done rfl ?_
      refine NoPanic.normal ?_
      go_wp2_with fail
      go_meet
      exact ⟨_, A5, c5, rfl, hb7, by rw [← HSZ.out]; exact hend.1, HD.out.next hend.2⟩
  obtain ⟨go, A7, c7, rfl, hbo, hro, hto⟩ := hcut
  have HBgo := Lib.hid hbo
  have HRgo := Lib.hid hro
  have HTo := Lib.hid hto
  have HFgo := Lib.hid (hro.fl (by have := HF.out.1; have := HRM.out; omega))
  clear hbo hro hto
  have HFO := Lib.hid HFgo.out.1
  obtain ⟨gt, gb, hg⟩ : ∃ gt gb, gotV (getM no fs) = .tuple #[strV gt, .bool gb] := by
    cases getM no fs with
    | none => exact ⟨_, _, rfl⟩
    | some t => exact ⟨_, _, rfl⟩
  have HGV := Lib.hid hg
  clear hg
  go_upto_region 3 with fail
  refine wp_region_lit ?_
  refine wR (v := msgV ty A7 n c7) rfl (gx_loads rfl rfl (blk_range HBgo.out) Tryz.underlying24 rfl (by rw [size_msg]; rfl)) ?_
  simp only [Act.put, zzA, zz0, zz1]
  refine wR (v := .int .i64 no) rfl (exec_move rfl rfl) ?_
  simp only [Act.put, zzA, zz0, zz1]
  have hG := Get_walk (ty := ty) (no := no) (c := c7) HFO.out
  rw [HGV.out] at hG
  refine wpList_op rfl fun K9 HK9 => ?_
  go_wp2_with fail
  refine (hG).mono ?_
  rintro e w3 ⟨rfl, htx⟩
  refine HK9.out _ _ ?_
  clear HK9
  try simp only [Act.put, zzA, zz0, zz1]
  clear hG
  have HT3 := Lib.hid htx
  clear htx
  refine wR (v := .tuple #[strV gt, .bool gb]) rfl (exec_move rfl rfl) ?_
  simp only [Act.put, zzA, zz0, zz1]
  refine wR (v := strV gt) rfl (ix_extract rfl rfl rfl) ?_
  simp only [Act.put, zzA, zz0, zz1]
  refine wR (v := .bool gb) rfl (ix_extract rfl rfl rfl) ?_
  simp only [Act.put, zzA, zz0, zz1]
  refine wR (v := strV gt) rfl (gx_assign rfl rfl) ?_
  simp only [Act.put, zzA, zz0, zz1]
  refine wR (v := .bool gb) rfl (gx_assign rfl rfl) ?_
  simp only [Act.put, zzA, zz0, zz1]
  go_upto_region 4 with fail
  refine wp_region_lit ?_
  refine wR (v := msgV ty A n c) rfl (gx_loads rfl rfl (blk_range (HBgm.out.turn ((HT1.out.next HTo.out).next HT3.out) (fun e => e))) Tryz.underlying24 rfl (by rw [size_msg]; rfl)) ?_
  simp only [Act.put, zzA, zz0, zz1]
  refine wR (v := .int .i64 no) rfl (exec_move rfl rfl) ?_
  simp only [Act.put, zzA, zz0, zz1]
  have hG := rGet_walk (ty := ty) (no := no) (c := c) (HF.out.still (((HT0.out.next HT1.out).next HTo.out).next HT3.out))
  rw [HGV.out] at hG
  refine wpList_op rfl fun K9 HK9 => ?_
  go_wp2_with fail
  refine (hG).mono ?_
  rintro e w4 ⟨rfl, htx⟩
  refine HK9.out _ _ ?_
  clear HK9
  try simp only [Act.put, zzA, zz0, zz1]
  clear hG
  have HT4 := Lib.hid htx
  clear htx
  refine wR (v := .tuple #[strV gt, .bool gb]) rfl (exec_move rfl rfl) ?_
  simp only [Act.put, zzA, zz0, zz1]
  refine wR (v := strV gt) rfl (ix_extract rfl rfl rfl) ?_
  simp only [Act.put, zzA, zz0, zz1]
  refine wR (v := .bool gb) rfl (ix_extract rfl rfl rfl) ?_
  simp only [Act.put, zzA, zz0, zz1]
  refine wR (v := strV gt) rfl (gx_assign rfl rfl) ?_
  simp only [Act.put, zzA, zz0, zz1]
  refine wR (v := .bool gb) rfl (gx_assign rfl rfl) ?_
  simp only [Act.put, zzA, zz0, zz1]
  go_upto_region 5 with fail
  refine wp_region_lit ?_
  refine wR (v := msgV ty A7 n c7) rfl (gx_loads rfl rfl (blk_range (HBgo.out.turn (HT3.out.next HT4.out) (fun e => e))) Tryz.underlying24 rfl (by rw [size_msg]; rfl)) ?_
  simp only [Act.put, zzA, zz0, zz1]
  refine wR (v := .int .i64 no) rfl (exec_move rfl rfl) ?_
  simp only [Act.put, zzA, zz0, zz1]
  refine wR (v := strV t) rfl (exec_move rfl rfl) ?_
  simp only [Act.put, zzA, zz0, zz1]
  have hS := Set_walk (ty := ty) (no := no) (t := t) (c := c7) (HFO.out.still (HT3.out.next HT4.out)) HRM.out
  refine wpList_op rfl fun K9 HK9 => ?_
  go_wp2_with fail
  refine (hS).mono ?_
  rintro e w5 ⟨AX, nx, cx, rfl, hxl, hxr, htx⟩
  refine HK9.out _ _ ?_
  clear HK9
  try simp only [Act.put, zzA, zz0, zz1]
  clear hS
  have HT5 := Lib.hid htx
  have hnx : nx ≤ n + 1 := by
    have h := set_len no t fs
    have h2 := oth_len no fs
    have := HNL.out
    omega
  have HN5 := Lib.hid hnx
  have HL5 := Lib.hid hxl
  have HR5 := Lib.hid hxr
  have HX5 := Lib.hid (hxr.fl (by have := HRM.out; omega)).1
  clear htx hxl hxr hnx
  refine wpList_new 24 (.tmp 13) (.tmp 41) #[.int .i64 ty, .slice AX nx cx] rfl rfl (zero_msg _) rfl rfl rfl rfl rfl rfl (by rw [size_msg]; rfl) (msgA_one _ _ _ _) ?_
  intro w6 gx hgs5 hbx hux
  simp only [Act.put, zzA, zz0, zz1]
  have HBgx := Lib.hid hbx
  have HTw6 := Lib.hid hux
  clear hbx hux
  go_upto_region 6 with fail
  refine wp_region_lit ?_
  refine wR (v := msgV ty A n c) rfl (gx_loads rfl rfl (blk_range (HBgm.out.turn (((((HT1.out.next HTo.out).next HT3.out).next HT4.out).next HT5.out).next HTw6.out) (fun e => e))) Tryz.underlying24 rfl (by rw [size_msg]; rfl)) ?_
  simp only [Act.put, zzA, zz0, zz1]
  refine wR (v := .int .i64 no) rfl (exec_move rfl rfl) ?_
  simp only [Act.put, zzA, zz0, zz1]
  refine wR (v := strV t) rfl (exec_move rfl rfl) ?_
  simp only [Act.put, zzA, zz0, zz1]
  have hS := rSet_walk (ty := ty) (no := no) (t := t) (c := c) (HF.out.still ((((((HT0.out.next HT1.out).next HTo.out).next HT3.out).next HT4.out).next HT5.out).next HTw6.out)) HRM.out
  refine wpList_op rfl fun K9 HK9 => ?_
  go_wp2_with fail
  refine (hS).mono ?_
  rintro e w7 ⟨AY, ny, cy, rfl, hxl, hxr, htx⟩
  refine HK9.out _ _ ?_
  clear HK9
  try simp only [Act.put, zzA, zz0, zz1]
  clear hS
  have HT7 := Lib.hid htx
  have hnx : ny ≤ n + 1 := by
    have h := set_len no t fs
    have h2 := oth_len no fs
    have := HNL.out
    omega
  have HN7 := Lib.hid hnx
  have HL7 := Lib.hid hxl
  have HR7 := Lib.hid hxr
  have HX7 := Lib.hid (hxr.fl (by have := HRM.out; omega)).1
  clear htx hxl hxr hnx
  refine wpList_new 24 (.tmp 14) (.tmp 45) #[.int .i64 ty, .slice AY ny cy] rfl rfl (zero_msg _) rfl rfl rfl rfl rfl rfl (by rw [size_msg]; rfl) (msgA_one _ _ _ _) ?_
  intro w8 gy hgs7 hbx hux
  simp only [Act.put, zzA, zz0, zz1]
  have HBgy := Lib.hid hbx
  have HTw8 := Lib.hid hux
  clear hbx hux
  have HBB := Lib.hid (show (!(gb == gb)) = false from by cases gb <;> rfl)
  go_upto_region 7 with fail
  refine wp_region_lit ?_
  refine wR (v := .bool true) rfl (exec_move rfl rfl) ?_
  simp only [Act.put, zzA, zz0, zz1]
  refine wR (v := .bool false) rfl (ix_not (b := true) rfl rfl) ?_
  simp only [Act.put, zzA, zz0, zz1]
  refine wR (v := .bool false) rfl (exec_move rfl rfl) ?_
  simp only [Act.put, zzA, zz0, zz1]
  refine wR (v := strV gt) rfl (exec_move rfl rfl) ?_
  simp only [Act.put, zzA, zz0, zz1]
  refine wR (v := strV gt) rfl (exec_move rfl rfl) ?_
  simp only [Act.put, zzA, zz0, zz1]
  refine wR (v := .bool false) rfl (sneq_any (l := gt) rfl rfl rfl) ?_
  simp only [Act.put, zzA, zz0, zz1]
  refine wR (v := .bool false) rfl (ix_pickF rfl rfl rfl) ?_
  simp only [Act.put, zzA, zz0, zz1]
  refine wR (v := .bool false) rfl (exec_move rfl rfl) ?_
  simp only [Act.put, zzA, zz0, zz1]
  refine wR (v := .bool gb) rfl (exec_move rfl rfl) ?_
  simp only [Act.put, zzA, zz0, zz1]
  refine wR (v := .bool gb) rfl (exec_move rfl rfl) ?_
  simp only [Act.put, zzA, zz0, zz1]
  refine wR (v := .bool false) rfl ((bx_neb (p := gb) (q := gb) rfl rfl rfl).trans (by rw [HBB.out])) ?_
  simp only [Act.put, zzA, zz0, zz1]
  refine wR (v := .bool false) rfl (ix_pickF rfl rfl rfl) ?_
  simp only [Act.put, zzA, zz0, zz1]
  refine wR (v := .bool false) rfl (exec_move rfl rfl) ?_
  simp only [Act.put, zzA, zz0, zz1]
  refine wR (v := msgV ty AX nx cx) rfl (gx_loads rfl rfl (blk_range (HBgx.out.turn (HT7.out.next HTw8.out) (fun e => e))) Tryz.underlying24 rfl (by rw [size_msg]; rfl)) ?_
  simp only [Act.put, zzA, zz0, zz1]
  refine wR (v := msgV ty AY ny cy) rfl (gx_loads rfl rfl (blk_range HBgy.out) Tryz.underlying24 rfl (by rw [size_msg]; rfl)) ?_
  simp only [Act.put, zzA, zz0, zz1]
  have hS := Same_walk (ty1 := ty) (ty2 := ty) (c1 := cx) (c2 := cy) (HX5.out.still ((HTw6.out.next HT7.out).next HTw8.out)) (HX7.out.still HTw8.out)
  rw [decide_eq_true (show ty = ty ∧ setM no t fs = setM no t fs from ⟨rfl, rfl⟩)] at hS
  refine wpList_op rfl fun K9 HK9 => ?_
  go_wp2_with fail
  refine (hS).mono ?_
  rintro e w9 ⟨rfl, htx⟩
  refine HK9.out _ _ ?_
  clear HK9
  try simp only [Act.put, zzA, zz0, zz1]
  clear hS
  have HT9 := Lib.hid htx
  clear htx
  refine wR (v := .bool false) rfl (ix_not (b := true) rfl rfl) ?_
  simp only [Act.put, zzA, zz0, zz1]
  refine wR (v := .bool false) rfl (ix_pickF rfl rfl rfl) ?_
  simp only [Act.put, zzA, zz0, zz1]
  go_upto_region 9 with fail
  refine wp_region_lit ?_
  refine wR (v := .int .i64 0) rfl (gx_assign rfl rfl) ?_
  simp only [Act.put, zzA, zz0, zz1]
  have hpos : 0 < (setM no t fs).length := by rw [set_len]; omega
  obtain ⟨gX, cur, rfl, hgB, hbX, hsz⟩ := HR5.out.block hpos
  have HBX9 := Lib.hid (show Blk w9 gX 40 cur from hbX.turn (((HTw6.out.next HT7.out).next HTw8.out).next HT9.out) (fun e => e))
  have HCS := Lib.hid hsz
  have HGB := Lib.hid hgB
  have HGX := Lib.hid (show gX ≠ gx ∧ gX ≠ gm ∧ gX ≠ go from ⟨?_, ?_, ?_⟩)
  case refine_1 => exact (hbX.turn HTw6.out (fun e => e)).ne_ HBgx.out (by decide)
  case refine_2 => exact hbX.ne_ (HBgm.out.turn ((((HT1.out.next HTo.out).next HT3.out).next HT4.out).next HT5.out) (fun e => e)) (by decide)
  case refine_3 => exact hbX.ne_ (HBgo.out.turn ((HT3.out.next HT4.out).next HT5.out) (fun e => e)) (by decide)
  clear hpos hgB hbX hsz
  have HBG := Lib.hid (HBgx.out.turn ((HT7.out.next HTw8.out).next HT9.out) (fun e => e))
  have y7 : (nx : Int) ≤ (n : Int) + 1 := by have := HN5.out; omega
  go_wp2_with fail
  go_loopg [15] nx (fun gk iv wr => ∃ (i : Nat) (cu : Array Value), i + gk = nx ∧ iv = .int .i64 (i : Int) ∧ Blk wr gX 40 cu ∧ nx * 2 ≤ cu.size ∧ Turn (only gX) w9 wr)
  case atStart => exact ⟨0, cur, by omega, rfl, HBX9.out, HCS.out, Turn.refl _ _⟩
  obtain ⟨i, cu, hin, rfl, hbu, hcu, htr⟩ := hrel
  have HIN := Lib.hid hin
  have HBU := Lib.hid hbu
  have HCU := Lib.hid hcu
  have HTR := Lib.hid htr
  have HBR := Lib.hid (HBG.out.turn htr (fun e => HGX.out.1 e.symm))
  clear hin hbu hcu htr
  go_upto_region 10 with fail
  refine wp_region_lit ?_
  refine wR (v := .int .i64 (i : Int)) rfl (exec_move rfl rfl) ?_
  simp only [Act.put, zzA, zz0, zz1]
  refine wR (v := .pointer (some ⟨gx, 1, none⟩)) rfl (exec_field (off := 0) (d := 1) rfl rfl (by kernel_rfl)) ?_
  simp only [Act.put, zzA, zz0, zz1]
  refine wR (v := .slice (some ⟨gX, 0, none⟩) nx cx) rfl (exec_load1 rfl rfl (by kernel_rfl) (HBR.out.cell 1)) ?_
  simp only [Act.put, zzA, zz0, zz1]
  refine wR (v := .int .i64 (nx : Int)) rfl (gx_len rfl rfl Tryz.underlying22) ?_
  simp only [Act.put, zzA, zz0, zz1]
  by_cases hi : i < nx
  · have HLI := Lib.hid hi
    have y1 : (i : Int) < (nx : Int) := by omega
    refine wR (v := .bool true) rfl (ix_lss rfl rfl rfl (decide_eq_true y1)) ?_
    simp only [Act.put, zzA, zz0, zz1]
    go_upto_region 12 with fail
    refine wp_region_lit ?_
    refine wR (v := .pointer (some ⟨gx, 1, none⟩)) rfl (exec_field (off := 0) (d := 1) rfl rfl (by kernel_rfl)) ?_
    simp only [Act.put, zzA, zz0, zz1]
    refine wR (v := .slice (some ⟨gX, 0, none⟩) nx cx) rfl (exec_load1 rfl rfl (by kernel_rfl) (HBR.out.cell 1)) ?_
    simp only [Act.put, zzA, zz0, zz1]
    refine wR (v := .int .i64 (i : Int)) rfl (exec_move rfl rfl) ?_
    simp only [Act.put, zzA, zz0, zz1]
    refine wR (v := .pointer (some ⟨gX, 0 + i * 2, none⟩)) rfl (gx_iaddr (i := i) (sz := 2) rfl rfl rfl Tryz.underlying22 size_field HLI.out (by omega)) ?_
    simp only [Act.put, zzA, zz0, zz1]
    refine wR (v := .pointer (some ⟨gX, 0 + i * 2 + 1, none⟩)) rfl (exec_field (off := 0 + i * 2) (d := 1) rfl rfl (by kernel_rfl)) ?_
    simp only [Act.put, zzA, zz0, zz1]
    refine wpList_store1 (v := strV [115, 112, 111, 105, 108, 116]) rfl 9 (.tmp 75) (.const (strV [115, 112, 111, 105, 108, 116])) rfl HBU.out rfl rfl (by have := HCU.out; have := HLI.out; omega) rfl rfl size_str1 ?_
    intro hbz huz
    have HBZ := Lib.hid hbz
    have HTZ := Lib.hid (HTR.out.next huz)
    have HSZ := Lib.hid (show nx * 2 ≤ (cu.setIfInBounds (0 + i * 2 + 1) (strV [115, 112, 111, 105, 108, 116])).size from by rw [Array.size_setIfInBounds]; exact HCU.out)
    clear hbz huz
    generalize wr.setCell ⟨gX, 0 + i * 2 + 1, none⟩ (strV [115, 112, 111, 105, 108, 116]) = wz at *
    generalize cu.setIfInBounds (0 + i * 2 + 1) (strV [115, 112, 111, 105, 108, 116]) = cz at *
    try simp only [Act.put, zzA, zz0, zz1]
    go_upto_region 11 with fail
    refine wp_region_lit ?_
    refine wR (v := .int .i64 (i : Int)) rfl (exec_move rfl rfl) ?_
    simp only [Act.put, zzA, zz0, zz1]
    refine wR (v := .int .i64 ((i + 1 : Nat) : Int)) rfl (ix_add rfl rfl rfl (by omega) (by omega)) ?_
    simp only [Act.put, zzA, zz0, zz1]
    refine wR (v := .int .i64 ((i + 1 : Nat) : Int)) rfl (gx_assign rfl rfl) ?_
    simp only [Act.put, zzA, zz0, zz1]
    go_wp2_with fail
    go_roundg (gk - 1)
    case measure => have := HIN.out; omega
    case rel => exact ⟨i + 1, cz, by have := HIN.out; omega, by go_num, HBZ.out, HSZ.out, HTZ.out⟩
  · refine wR (v := .bool false) rfl (ix_lss rfl rfl rfl (decide_eq_false (by omega))) ?_
    simp only [Act.put, zzA, zz0, zz1]
    have HWX := Lib.hid (show Turn nowhere w4 wr from (((((HT5.out.next HTw6.out).next HT7.out).next HTw8.out).next HT9.out)).trans HTR.out (fun q hq e => by
      have e : q = gX := e
      have := HGB.out
      omega))
    go_upto_region 13 with fail
    refine wp_region_lit ?_
    refine wR (v := msgV ty A7 n c7) rfl (gx_loads rfl rfl (blk_range (HBgo.out.turn ((HT3.out.next HT4.out).next HWX.out) (fun e => e))) Tryz.underlying24 rfl (by rw [size_msg]; rfl)) ?_
    simp only [Act.put, zzA, zz0, zz1]
    refine wR (v := .int .i64 no) rfl (exec_move rfl rfl) ?_
    simp only [Act.put, zzA, zz0, zz1]
    refine wR (v := strV t) rfl (exec_move rfl rfl) ?_
    simp only [Act.put, zzA, zz0, zz1]
    have hS := Set_walk (ty := ty) (no := no) (t := t) (c := c7) (HFO.out.still ((HT3.out.next HT4.out).next HWX.out)) HRM.out
    refine wpList_op rfl fun K9 HK9 => ?_
    go_wp2_with fail
    refine (hS).mono ?_
    rintro e wa ⟨AZ, nz, cz, rfl, hxl, hxr, htx⟩
    refine HK9.out _ _ ?_
    clear HK9
    try simp only [Act.put, zzA, zz0, zz1]
    clear hS
    have HTa := Lib.hid htx
    have HXz := Lib.hid (hxr.fl (by
      have h := set_len no t fs
      have h2 := oth_len no fs
      have := HNL.out
      have := HRM.out
      omega)).1
    clear htx hxl hxr
    refine wR (v := .int .i64 no) rfl (exec_move rfl rfl) ?_
    simp only [Act.put, zzA, zz0, zz1]
    have hG := Get_walk (ty := ty) (no := no) (c := cz) HXz.out
    rw [get_set] at hG
    refine wpList_op rfl fun K9 HK9 => ?_
    go_wp2_with fail
    refine (hG).mono ?_
    rintro e wb ⟨rfl, htx⟩
    refine HK9.out _ _ ?_
    clear HK9
    try simp only [Act.put, zzA, zz0, zz1]
    clear hG
    have HTb := Lib.hid htx
    clear htx
    refine wR (v := .tuple #[strV t, .bool true]) rfl (exec_move rfl rfl) ?_
    simp only [Act.put, zzA, zz0, zz1]
    refine wR (v := strV t) rfl (ix_extract rfl rfl rfl) ?_
    simp only [Act.put, zzA, zz0, zz1]
    refine wR (v := .bool true) rfl (ix_extract rfl rfl rfl) ?_
    simp only [Act.put, zzA, zz0, zz1]
    refine wR (v := strV t) rfl (gx_assign rfl rfl) ?_
    simp only [Act.put, zzA, zz0, zz1]
    refine wR (v := .bool true) rfl (gx_assign rfl rfl) ?_
    simp only [Act.put, zzA, zz0, zz1]
    go_upto_region 14 with fail
    refine wp_region_lit ?_
    refine wR (v := msgV ty A7 n c7) rfl (gx_loads rfl rfl (blk_range (HBgo.out.turn ((((HT3.out.next HT4.out).next HWX.out).next HTa.out).next HTb.out) (fun e => e))) Tryz.underlying24 rfl (by rw [size_msg]; rfl)) ?_
    simp only [Act.put, zzA, zz0, zz1]
    refine wR (v := msgV ty A n c) rfl (gx_loads rfl rfl (blk_range (HBgm.out.turn ((((((HT1.out.next HTo.out).next HT3.out).next HT4.out).next HWX.out).next HTa.out).next HTb.out) (fun e => e))) Tryz.underlying24 rfl (by rw [size_msg]; rfl)) ?_
    simp only [Act.put, zzA, zz0, zz1]
    have hS := Same_walk (ty1 := ty) (ty2 := ty) (c1 := c7) (c2 := c) (HFO.out.still ((((HT3.out.next HT4.out).next HWX.out).next HTa.out).next HTb.out)) (HF.out.still (((((((HT0.out.next HT1.out).next HTo.out).next HT3.out).next HT4.out).next HWX.out).next HTa.out).next HTb.out))
    rw [decide_eq_true (show ty = ty ∧ fs = fs from ⟨rfl, rfl⟩)] at hS
    refine wpList_op rfl fun K9 HK9 => ?_
    go_wp2_with fail
    refine (hS).mono ?_
    rintro e wc2 ⟨rfl, htx⟩
    refine HK9.out _ _ ?_
    clear HK9
    try simp only [Act.put, zzA, zz0, zz1]
    clear hS
    have HTc := Lib.hid htx
    clear htx
    refine wR (v := .bool true) rfl (exec_move rfl rfl) ?_
    simp only [Act.put, zzA, zz0, zz1]
    refine wR (v := .bool true) rfl (exec_move rfl rfl) ?_
    simp only [Act.put, zzA, zz0, zz1]
    refine wR (v := .bool true) rfl (ix_pickT rfl rfl rfl) ?_
    simp only [Act.put, zzA, zz0, zz1]
    refine wR (v := .bool true) rfl (exec_move rfl rfl) ?_
    simp only [Act.put, zzA, zz0, zz1]
    refine wR (v := strV t) rfl (exec_move rfl rfl) ?_
    simp only [Act.put, zzA, zz0, zz1]
    refine wR (v := strV t) rfl (exec_move rfl rfl) ?_
    simp only [Act.put, zzA, zz0, zz1]
    refine wR (v := .bool true) rfl (seql_same (l := t) rfl rfl rfl) ?_
    simp only [Act.put, zzA, zz0, zz1]
    refine wR (v := .bool true) rfl (ix_pickT rfl rfl rfl) ?_
    simp only [Act.put, zzA, zz0, zz1]
    refine wR (v := .bool true) rfl (gx_assign rfl rfl) ?_
    simp only [Act.put, zzA, zz0, zz1]
    go_wp2_with fail
    go_ret
    exact ⟨rfl, (((((((((HT0.out.next HT1.out).next HTo.out).next HT3.out).next HT4.out).next HWX.out).next HTa.out).next HTb.out).next HTc.out)).below (Nat.le_refl _) (fun _ _ e=>e)⟩
end Go.Proofs.YticofobhkmabiaaGreatDoor
namespace Go.Proofs.YticofobhkmabiaaGreatDoor.messageTurns
open Go.ChangeShapes Go.WideShapes Go.ChangeAt Go.RowKit
open Go.ChangeMaps (open_string shut_string)
set_option linter.unusedVariables false
theorem own : ownKnob Tryz.prog.godebug = none := by kernel_rfl
theorem laidOut : laidOutB Tryz.prog = true := by kernel_rfl
set_option maxRecDepth 100000 in
/-- WHAT THE WALK GIVES, FOR EVERY ARGUMENT AND EVERY WORLD: the same for both forms. -/
theorem contract (H : Type) (enc : TypeId × Value → H) (W : World) (base : Nat) (args : Array Value) (ds gs : List (DataW H)) (before : List MemPlace)
    (hval : ∀ (j : Nat) t v, Tryz.f5.params[j]? = some t → args[j]? = some v → Value.okWide Tryz.prog W .any base t v)
    (hW : DataW.Whole enc Tryz.prog Tryz.f5.params.toList Rows.messageTurnsSpec.vars false W args.toList ds gs before) (hsz0 : (DataW.weightsEach Tryz.prog (Tryz.f5.params.toList ++ Rows.messageTurnsSpec.plain.varTypes Tryz.prog) (ds ++ gs)).all (· ≤ reachBytes) = true) (hL : laidMetH Tryz.prog Rows.messageTurnsRow.laid W) (hsh : W.ShapedOpen Tryz.prog) :
    Calls Tryz.prog 5 args W fun e W' => ∃ v, e = .returned v ∧ Rows.messageTurnsSpec.post enc Tryz.prog Tryz.f5 false true false false W args v W' := by
  have hW' := hW
  obtain ⟨p, q, hA0, hV, rfl, hfz, hnd⟩ := hW
  have hA : DataW.TrodAll enc Tryz.prog W 0 (fun _ => true) true Tryz.f5.params.toList args.toList ds p := hA0
  have hsz : (DataW.weightsEach Tryz.prog (Tryz.f5.params.toList ++ Rows.messageTurnsSpec.plain.varTypes Tryz.prog) (ds ++ gs)).all (· ≤ reachBytes) = true := hsz0
  rw [Tryz.params5] at hA hval hsz
  obtain ⟨v0, vs0, d0, ds0, p0, q0, hargs, rfl, rfl, h0, r0⟩ := trodAll_cons hA
  obtain ⟨v1, vs1, d1, ds1, p1, q1, rfl, rfl, rfl, h1, r1⟩ := trodAll_cons r0
  obtain ⟨v2, vs2, d2, ds2, p2, q2, rfl, rfl, rfl, h2, r2⟩ := trodAll_cons r1
  obtain ⟨rfl, rfl, rfl⟩ := trodAll_nil r2
  obtain rfl : args = #[v0, v1, v2] := by cases args; simp_all
  obtain ⟨rfl, rfl⟩ := trodVars_none hV
  have k0 := h0
  have lt0 : ∀ x ∈ p0, x.block < W.heap.size := by obtain ⟨m, hm⟩ := k0; exact DataW.trod_lt m _ _ _ hm
  have room0 := msg_room (hval 0 24 v0 rfl rfl) h0 (fun x hx => by simpa using List.all_eq_true.1 hsz _ (DataW.weights_mem_each (j := 0) (t := 24) rfl rfl x hx))
  obtain ⟨ty0, a0, len0, cap0, z0, rfl, w0, tyw0, lc0, nn0, fw0⟩ := msg_of (hval 0 24 v0 rfl rfl) h0 (fun x hx => by simpa using List.all_eq_true.1 hsz _ (DataW.weights_mem_each (j := 0) (t := 24) rfl rfl x hx))
  have hroom0 := room0 _ _ _ _ rfl
  obtain ⟨x1, rfl, rfl, rfl, w1⟩ := open_int Tryz.underlying3 (hval 1 3 v1 rfl rfl) h1
  obtain ⟨x2, rfl, rfl, rfl, w2⟩ := open_string Tryz.underlying9 (hval 2 9 v2 rfl rfl) h2
  obtain ⟨s, henv⟩ := env_of_laid (l := Rows.messageTurnsRow.laid) rfl hL
  clear hA0
  refine (messageTurns_walk x1 x2.data.toList W henv w0 nn0 hroom0).mono fun e W' ⟨he, bel⟩ => ?_
  subst he
  exact ⟨_, rfl, _, _, _, [], _, [], hW', trodAll_mk1 (shut_bool Tryz.underlying4 _), (trodAll_cons_mk (Below.trod laidOut (by kernel_rfl) (of_decide_eq_true (by kernel_rfl)) k0 bel lt0) (trodAll_cons_mk (shut_int Tryz.underlying3 w1) (trodAll_cons_mk (shut_string Tryz.underlying9 w2) trodAll_mk0))), rfl, bel.frame _, fun h => by cases h⟩
theorem laid_met (os : Os) : laidMetH Tryz.prog Rows.messageTurnsRow.laid ((hworld os Rows.messageTurnsRow.laid).forCall (fun _ _ => 0) ⟨#[], #[.agg #[.int .i64 0, .slice none 0 0], .int .i64 0, .string ByteArray.empty], []⟩).memory :=
  laidH_hworld _ (by kernel_rfl) (by kernel_rfl) (by kernel_rfl)
theorem reads (os : Os) {H : Type} (enc : TypeId × Value → H) : ∃ places, DataW.whole enc Tryz.prog ((hworld os Rows.messageTurnsRow.laid).forCall (fun _ _ => 0) ⟨#[], #[.agg #[.int .i64 0, .slice none 0 0], .int .i64 0, .string ByteArray.empty], []⟩).memory Tryz.f5.params.toList Rows.messageTurnsSpec.vars false [.agg #[.int .i64 0, .slice none 0 0], .int .i64 0, .string ByteArray.empty] 8 = some ([.agg [.lit (.int .i64 0), .nil], .lit (.int .i64 0), .lit (.string [])], [], places) :=
  ⟨[], by kernel_rfl⟩
set_option maxRecDepth 100000 in
theorem lifted (os : Os) (started : os.Started) (H : Type) (enc : TypeId × Value → H) (F : Stop.Interp) :
    ReturnsInHanded {} Tryz.checked os 5 .any ((OpenSpec.ofChange Rows.messageTurnsSpec).preRow enc Tryz.prog Tryz.f5 Rows.messageTurnsRow.domain false Rows.messageTurnsRow.laid) (((OpenSpec.ofChange Rows.messageTurnsSpec).at F).post enc Tryz.prog Tryz.f5 false true false false) := by
  obtain ⟨places, hx⟩ := reads os enc
  refine returnsInHanded_of_row (C := Tryz.checked) (s := OpenSpec.ofChange Rows.messageTurnsSpec) own started (by kernel_rfl) Tryz.func5
    (witness_zip (enc := enc) (C := Tryz.checked) false (hworld os Rows.messageTurnsRow.laid) #[.agg #[.int .i64 0, .slice none 0 0], .int .i64 0, .string ByteArray.empty] (hworld_os _ _) (World.shaped_of_ZipB (by kernel_rfl) (by kernel_rfl)) (by kernel_rfl)
      (OpenSpec.preRow_of_cond 8 hx (by kernel_rfl) (fun k hk => by cases hk) (by kernel_rfl) (laid_met os))) ?_
  intro W base args ds gs before hval hW _ hcond hsz hL hsh _
  exact contract H enc W base args ds gs before hval hW hsz hL hsh
theorem said : Rows.MessageTurnsSaid :=
  OpenClaim.holds_of_cond 5 Tryz.f5 rfl rfl rfl rfl rfl rfl rfl ⟨rfl, rfl, rfl, rfl, rfl⟩ rfl rfl rfl rfl rfl (by kernel_rfl) Tryz.func5 (by kernel_rfl)
    (of_decide_eq_true (by kernel_rfl)) (by unfold Func.isWrapper; first | (rw [if_pos (by decide +kernel)]; kernel_rfl) | (rw [if_neg (by decide +kernel)]; exact ⟨rfl, rfl⟩))
    (fun os started H enc _ F => by rw [OpenClaim.pre_eq_preRow]; exact lifted os started H enc F)
theorem plain (f : FuncId) (fn : Func) (hf : Tryz.pinned.checked.prog.funcNamed "groat/groatlaw05.MessageTurns" = some f) (hfn : Tryz.pinned.checked.prog.funcs[f]? = some fn) :
    true = Tryz.pinned.checked.prog.looks [] ∧ ∀ (j : Nat) t, fn.params[j]? = some t → Tryz.pinned.checked.prog.wantsStandIn t = false := by
  obtain rfl : f = 5 := Option.some.inj ((show Tryz.prog.funcNamed "groat/groatlaw05.MessageTurns" = some 5 by kernel_rfl).symm.trans hf) |>.symm
  obtain rfl : fn = Tryz.f5 := (Option.some.inj (Tryz.func5.symm.trans hfn)).symm
  refine ⟨by kernel_rfl, fun j t ht => ?_⟩
  rw [Tryz.params5] at ht
  have hm : t ∈ [24, 3, 9] := by simpa using Array.mem_of_getElem? ht
  have hall : ([24, 3, 9].all fun u => !Tryz.prog.wantsStandIn u) = true := by kernel_rfl
  exact (show Tryz.prog.wantsStandIn t = false by simpa using List.all_eq_true.1 hall t hm)
/-- THE CARD -/
theorem card : Rows.MessageTurnsCardSaid :=
  Claim7.holds_tied_plain_at .later [] _ _ _ _ said (fun _ h => by cases h) (by kernel_rfl) (fun _ h => by cases h) messageTurns_row_tie rfl ⟨rfl, rfl⟩ (by kernel_rfl) rfl plain (by kernel_rfl)
#print axioms card
end Go.Proofs.YticofobhkmabiaaGreatDoor.messageTurns
