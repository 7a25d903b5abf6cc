/-
  Several texts in one file, in their order:
  - groatlaw05's MessageOthers: the walk. Conditions: the tables and the errors read as the program's text lays them.
  - PROOF: groatlaw05: for every input the law MessageOthers returns true, and each argument reads as it did. Its conditions are the row's own cells (the listed variables read as the program's text lays them: the card ties them).
-/
import Derived.Test.YticofobhkmabiaaGreatDoorJb0
import Derived.Test.YticofobhkmabiaaGreatDoorJa3
import Derived.Test.YticofobhkmabiaaGreatDoorCards
import Derived.Test.YticofobhkmabiaaGreatDoorTie
import Derived.WalkKit
import Derived.ProofKit
import Derived.OpenShut
import Derived.ShutString
import Derived.ChangeOld
import Derived.Below
import Derived.SizedLaws
import Derived.LaidMore
import Derived.Deep.DeepHandedRow
import Derived.Deep.DeepWitnessRowRef
import Derived.Lib.LaidTab
import Derived.Lib.SmallJoins
namespace Go.Proofs.YticofobhkmabiaaGreatDoor
open Go.RowKit
open Fdd
set_option linter.unusedVariables false
set_option linter.unusedSimpArgs false
theorem sneq_same {a : Act} {o : Oper} {W : World} {x y : Operand} {l : List UInt8} {t u : TypeId} (ho : o.op = .binOp .neq t x y u) (hx : a.eval x = strV l) (hy : a.eval y = strV l) : (execOp a.eval o).run Tryz.prog W = .ok (.value (.bool false)) W := by
  unfold execOp
  simp only [ho, hx, hy, strV]
  go_simp
theorem fld_same {a : Act} {o : Oper} {W : World} {x y : Operand} {u : TypeId} {f : Fld} (ho : o.op = .binOp .neq 40 x y u) (hx : a.eval x = .agg (fldA f)) (hy : a.eval y = .agg (fldA f)) : (execOp a.eval o).run Tryz.prog W = .ok (.value (.bool false)) W := by
  rw [fld_neq ho hx hy, decide_eq_true rfl]
  rfl
set_option maxRecDepth 20000 in
set_option maxHeartbeats 4000000 in
theorem messageOthers_walk {s : Sents} {ty : Int} {A : Option Addr} {n c : Nat} {fs : List Fld} (no : Int) (t : List UInt8) (W : World) (he0 : Env s W) (hf0 : Fl W A n fs) (hr0 : n * 24 ≤ 140737488351232) :
    Calls Tryz.prog 6 #[msgV ty A n c, .int .i64 no, strV t] W fun e W' => e = .returned (.bool true) ∧ Below W.heap.size W W' := by
  have HE := Lib.hid he0
  have HF := Lib.hid hf0
  have HRM := Lib.hid hr0
  have HNL := Lib.hid hf0.1
  have y9 : (n : Int) ≤ 140737488355328 := by
    have := hf0.2.1
    omega
  clear he0 hf0 hr0
  unfold msgV
  go_enter Tryz.func6, Tryz.ntmps6
  go_upto_region 1 with fail
  have hb0 := Blk.new (W) 24 #[.int .i64 ty, .slice A n c]
  have hu0 := (Turn.refl nowhere (W)).alloc (.cells #[.int .i64 ty, .slice A n c] 24)
  have hbz := hb0
  have huz := hu0
  clear hb0 hu0
  obtain ⟨gm, hg0⟩ : ∃ g, g = W.heap.size := ⟨_, rfl⟩
  rw [← hg0] at hbz ⊢
  clear hg0
  generalize W.alloc (.cells #[.int .i64 ty, .slice A n c] 24) = w0 at *
  have HBgm := Lib.hid hbz
  have HT0 := Lib.hid huz
  clear hbz huz
  refine wp_region_lit ?_
  have hS := shown_walk (s := s) w0 (HE.out.turn HT0.out)
  refine wpList_op rfl fun K9 HK9 => ?_
  go_wp2_with fail
  refine (hS).mono ?_
  rintro e w1 ⟨rfl, htx⟩
  refine HK9.out _ _ ?_
  clear HK9
  try simp only [Act.put, zzA, zz0, zz1]
  have HT1 := Lib.hid htx
  clear htx hS
  refine wR (v := .bool true) rfl (gx_assign rfl rfl) ?_
  simp only [Act.put, zzA, zz0, zz1]
  go_upto_region 2 with fail
  refine wp_region_lit ?_
  refine wR (v := msgV ty A n c) rfl (gx_loads rfl rfl (blk_range (HBgm.out.turn HT1.out (fun e => e))) Tryz.underlying24 rfl (by rw [size_msg]; rfl)) ?_
  simp only [Act.put, zzA, zz0, zz1]
  refine wR (v := .int .i64 no) rfl (exec_move rfl rfl) ?_
  simp only [Act.put, zzA, zz0, zz1]
  refine wR (v := strV t) rfl (exec_move rfl rfl) ?_
  simp only [Act.put, zzA, zz0, zz1]
  have hS := Set_walk (ty := ty) (no := no) (t := t) (c := c) (HF.out.still (HT0.out.next HT1.out)) HRM.out
  refine wpList_op rfl fun K9 HK9 => ?_
  go_wp2_with fail
  refine (hS).mono ?_
  rintro e w2 ⟨AX, nx, cx, rfl, hxl, hxr, htx⟩
  refine HK9.out _ _ ?_
  clear HK9
  try simp only [Act.put, zzA, zz0, zz1]
  clear hS
  have HT2 := Lib.hid htx
  have HXL := Lib.hid hxl
  have hnx : nx ≤ n + 1 := by
    have h := set_len no t fs
    have h2 := oth_len no fs
    have := HNL.out
    omega
  have HXF := Lib.hid (hxr.fl (by have := HRM.out; omega)).1
  have y8 : (nx : Int) ≤ 140737488355328 := by have := HRM.out; omega
  clear htx hxl hxr hnx
  refine wpList_new 24 (.tmp 8) (.tmp 16) #[.int .i64 ty, .slice AX nx cx] rfl rfl (zero_msg _) rfl rfl rfl rfl rfl rfl (by rw [size_msg]; rfl) (msgA_one _ _ _ _) ?_
  intro w3 gx _ hbx hux
  simp only [Act.put, zzA, zz0, zz1]
  have HBgx := Lib.hid hbx
  have HT3 := Lib.hid hux
  clear hbx hux
  have HOX := Lib.hid (oth_set no t fs)
  have HHX := Lib.hid (has_set no t fs)
  have HMX := Lib.hid (fun k f => has_mem (no := no) (t := t) (fs := fs) (i := k) (f := f))
  generalize setM no t fs = X at *
  go_upto_region 3 with fail
  refine wp_region_lit ?_
  refine wR (v := .int .i64 0) rfl (gx_assign rfl rfl) ?_
  simp only [Act.put, zzA, zz0, zz1]
  refine wR (v := .int .i64 0) rfl (gx_assign rfl rfl) ?_
  simp only [Act.put, zzA, zz0, zz1]
  go_upto_region 4 with fail
  refine wp_region_lit ?_
  refine wR (v := .int .i64 0) rfl (gx_assign rfl rfl) ?_
  simp only [Act.put, zzA, zz0, zz1]
  go_wp2_with fail
  go_loopg [9, 10, 11] (n + nx) (fun gk iv kv sv wr => ∃ i k st : Nat, (n - i) + (nx - k) = gk ∧ i ≤ n ∧ k ≤ nx ∧ iv = .int .i64 (i : Int) ∧ kv = .int .i64 (k : Int) ∧ sv = .int .i64 (st : Int) ∧ others no (fs.drop i) = others no (X.drop k) ∧ st + (hasM no (X.drop k)).length = 1 ∧ Turn nowhere w3 wr)
  case atStart => exact ⟨0, 0, 0, by omega, by omega, by omega, rfl, rfl, rfl, by rw [List.drop_zero, List.drop_zero, HOX.out], by rw [List.drop_zero, HHX.out]; rfl, Turn.refl _ _⟩
  obtain ⟨i, k, st, hgk, hin, hkn, rfl, rfl, rfl, hot, hst, htr⟩ := hrel
  have HGK := Lib.hid hgk
  have HIN := Lib.hid hin
  have HKN := Lib.hid hkn
  have HOT := Lib.hid hot
  have HST := Lib.hid hst
  have HTR := Lib.hid htr
  clear hgk hin hkn hot hst htr
  have HBM := Lib.hid (HBgm.out.turn (((HT1.out.next HT2.out).next HT3.out).next HTR.out) (fun e => e))
  have HBX := Lib.hid (HBgx.out.turn HTR.out (fun e => e))
  have HFM := Lib.hid (HF.out.still ((((HT0.out.next HT1.out).next HT2.out).next HT3.out).next HTR.out))
  have HFX := Lib.hid (HXF.out.still (HT3.out.next HTR.out))
  go_upto_region 5 with fail
  refine wp_region_lit ?_
  refine wR (v := .int .i64 (i : Int)) rfl (exec_move rfl rfl) ?_
  simp only [Act.put, zzA, zz0, zz1]
  refine wR (v := .pointer (some ⟨gm, 1, none⟩)) rfl (exec_field (off := 0) (d := 1) rfl rfl (by kernel_rfl)) ?_
  simp only [Act.put, zzA, zz0, zz1]
  refine wR (v := .slice A n c) rfl (exec_load1 rfl rfl (by kernel_rfl) (HBM.out.cell 1)) ?_
  simp only [Act.put, zzA, zz0, zz1]
  refine wR (v := .int .i64 (n : Int)) rfl (gx_len rfl rfl Tryz.underlying22) ?_
  simp only [Act.put, zzA, zz0, zz1]
  by_cases hi : i < n
  · have HLI := Lib.hid hi
    have y1 : (i : Int) < (n : Int) := by omega
    obtain ⟨bF, oF, rfl, hrf⟩ := HFM.out.2.2 (by omega)
    obtain ⟨f, hff⟩ : ∃ f, fs[i]? = some f := ⟨_, List.getElem?_eq_getElem (show i < fs.length from by rw [HNL.out]; omega)⟩
    have HRf := Lib.hid (hrf i f hff)
    have HOf := Lib.hid (oth_drop (no := no) hff)
    have HHf := Lib.hid (has_drop (no := no) hff)
    have HQf := Lib.hid hff
    clear hrf hff
    refine wR (v := .bool true) rfl (ix_lss rfl rfl rfl (decide_eq_true y1)) ?_
    simp only [Act.put, zzA, zz0, zz1]
    go_upto_region 6 with fail
    refine wp_region_lit ?_
    refine wR (v := .int .i64 (i : Int)) rfl (exec_move rfl rfl) ?_
    simp only [Act.put, zzA, zz0, zz1]
    refine wR (v := .pointer (some ⟨gm, 1, none⟩)) rfl (exec_field (off := 0) (d := 1) rfl rfl (by kernel_rfl)) ?_
    simp only [Act.put, zzA, zz0, zz1]
    refine wR (v := .slice (some ⟨bF, oF, none⟩) n c) rfl (exec_load1 rfl rfl (by kernel_rfl) (HBM.out.cell 1)) ?_
    simp only [Act.put, zzA, zz0, zz1]
    refine wR (v := .int .i64 (n : Int)) rfl (gx_len rfl rfl Tryz.underlying22) ?_
    simp only [Act.put, zzA, zz0, zz1]
    refine wR (v := .bool true) rfl (ix_lss rfl rfl rfl (decide_eq_true y1)) ?_
    simp only [Act.put, zzA, zz0, zz1]
    refine wR (v := .bool true) rfl (exec_move rfl rfl) ?_
    simp only [Act.put, zzA, zz0, zz1]
    refine wR (v := .pointer (some ⟨gm, 1, none⟩)) rfl (exec_field (off := 0) (d := 1) rfl rfl (by kernel_rfl)) ?_
    simp only [Act.put, zzA, zz0, zz1]
    refine wR (v := .slice (some ⟨bF, oF, none⟩) n c) rfl (exec_load1 rfl rfl (by kernel_rfl) (HBM.out.cell 1)) ?_
    simp only [Act.put, zzA, zz0, zz1]
    refine wR (v := .int .i64 (i : Int)) rfl (exec_move rfl rfl) ?_
    simp only [Act.put, zzA, zz0, zz1]
    refine wR (v := .pointer (some ⟨bF, oF + i * 2, none⟩)) rfl (gx_iaddr (i := i) (sz := 2) rfl rfl rfl Tryz.underlying22 size_field HLI.out (by omega)) ?_
    simp only [Act.put, zzA, zz0, zz1]
    refine wR (v := .pointer (some ⟨bF, oF + i * 2, none⟩)) rfl (exec_field (off := oF + i * 2) (d := 0) rfl rfl (by kernel_rfl)) ?_
    simp only [Act.put, zzA, zz0, zz1]
    refine wR (v := .int .i64 f.1) rfl (exec_load1 rfl rfl (by kernel_rfl) (HRf.out 0 _ rfl)) ?_
    simp only [Act.put, zzA, zz0, zz1]
    refine wR (v := .int .i64 no) rfl (exec_move rfl rfl) ?_
    simp only [Act.put, zzA, zz0, zz1]
    by_cases heq : f.1 = no
    · refine wR (v := .bool true) rfl (ix_eql rfl rfl rfl (decide_eq_true heq)) ?_
      simp only [Act.put, zzA, zz0, zz1]
      refine wR (v := .bool true) rfl (ix_pickT rfl rfl rfl) ?_
      simp only [Act.put, zzA, zz0, zz1]
      have HO2 := Lib.hid (show others no (fs.drop (i + 1)) = others no (X.drop k) from by rw [← HOT.out, HOf.out, if_pos heq])
      clear heq
      go_upto_region 7 with fail
      refine wp_region_lit ?_
      refine wR (v := .int .i64 (i : Int)) rfl (exec_move rfl rfl) ?_
      simp only [Act.put, zzA, zz0, zz1]
      refine wR (v := .int .i64 ((i + 1 : Nat) : Int)) rfl (ix_add rfl rfl rfl (by omega) (by omega)) ?_
      simp only [Act.put, zzA, zz0, zz1]
      refine wR (v := .int .i64 ((i + 1 : Nat) : Int)) rfl (gx_assign rfl rfl) ?_
      simp only [Act.put, zzA, zz0, zz1]
      go_wp2_with fail
      go_roundg (gk - 1)
      case measure => have := HGK.out;  have := HIN.out; have := HKN.out; omega
      case rel => exact ⟨i + 1, k, st, by have := HGK.out;  have := HIN.out; have := HKN.out; omega, by have := HIN.out; have := HKN.out; omega, by have := HIN.out; have := HKN.out; omega, by go_num, by go_num, by go_num, HO2.out, HST.out, HTR.out⟩
    · refine wR (v := .bool false) rfl (ix_eql rfl rfl rfl (decide_eq_false heq)) ?_
      simp only [Act.put, zzA, zz0, zz1]
      refine wR (v := .bool false) rfl (ix_pickT rfl rfl rfl) ?_
      simp only [Act.put, zzA, zz0, zz1]
      have hk : k < nx := by
        apply Nat.lt_of_not_le
        intro hge
        have h := HOT.out
        rw [HOf.out, if_neg heq, oth_end (l := X) (i := k) (by have := HXL.out; omega)] at h
        cases h
      have HLK := Lib.hid hk
      have y2 : (k : Int) < (nx : Int) := by omega
      obtain ⟨bX, oX, rfl, hrg⟩ := HFX.out.2.2 (by omega)
      obtain ⟨g, hfg⟩ : ∃ f, X[k]? = some f := ⟨_, List.getElem?_eq_getElem (show k < X.length from by rw [HXL.out]; omega)⟩
      have HRg := Lib.hid (hrg k g hfg)
      have HOg := Lib.hid (oth_drop (no := no) hfg)
      have HHg := Lib.hid (has_drop (no := no) hfg)
      have HQg := Lib.hid hfg
      clear hrg hfg
      go_upto_region 8 with fail
      refine wp_region_lit ?_
      refine wR (v := .int .i64 (k : Int)) rfl (exec_move rfl rfl) ?_
      simp only [Act.put, zzA, zz0, zz1]
      refine wR (v := .pointer (some ⟨gx, 1, none⟩)) rfl (exec_field (off := 0) (d := 1) rfl rfl (by kernel_rfl)) ?_
      simp only [Act.put, zzA, zz0, zz1]
      refine wR (v := .slice (some ⟨bX, oX, none⟩) nx cx) rfl (exec_load1 rfl rfl (by kernel_rfl) (HBX.out.cell 1)) ?_
      simp only [Act.put, zzA, zz0, zz1]
      refine wR (v := .int .i64 (nx : Int)) rfl (gx_len rfl rfl Tryz.underlying22) ?_
      simp only [Act.put, zzA, zz0, zz1]
      refine wR (v := .bool true) rfl (ix_lss rfl rfl rfl (decide_eq_true y2)) ?_
      simp only [Act.put, zzA, zz0, zz1]
      refine wR (v := .bool true) rfl (exec_move rfl rfl) ?_
      simp only [Act.put, zzA, zz0, zz1]
      refine wR (v := .pointer (some ⟨gx, 1, none⟩)) rfl (exec_field (off := 0) (d := 1) rfl rfl (by kernel_rfl)) ?_
      simp only [Act.put, zzA, zz0, zz1]
      refine wR (v := .slice (some ⟨bX, oX, none⟩) nx cx) rfl (exec_load1 rfl rfl (by kernel_rfl) (HBX.out.cell 1)) ?_
      simp only [Act.put, zzA, zz0, zz1]
      refine wR (v := .int .i64 (k : Int)) rfl (exec_move rfl rfl) ?_
      simp only [Act.put, zzA, zz0, zz1]
      refine wR (v := .pointer (some ⟨bX, oX + k * 2, none⟩)) rfl (gx_iaddr (i := k) (sz := 2) rfl rfl rfl Tryz.underlying22 size_field HLK.out (by omega)) ?_
      simp only [Act.put, zzA, zz0, zz1]
      refine wR (v := .pointer (some ⟨bX, oX + k * 2, none⟩)) rfl (exec_field (off := oX + k * 2) (d := 0) rfl rfl (by kernel_rfl)) ?_
      simp only [Act.put, zzA, zz0, zz1]
      refine wR (v := .int .i64 g.1) rfl (exec_load1 rfl rfl (by kernel_rfl) (HRg.out 0 _ rfl)) ?_
      simp only [Act.put, zzA, zz0, zz1]
      refine wR (v := .int .i64 no) rfl (exec_move rfl rfl) ?_
      simp only [Act.put, zzA, zz0, zz1]
      by_cases heqx : g.1 = no
      · refine wR (v := .bool true) rfl (ix_eql rfl rfl rfl (decide_eq_true heqx)) ?_
        simp only [Act.put, zzA, zz0, zz1]
        refine wR (v := .bool true) rfl (ix_pickT rfl rfl rfl) ?_
        simp only [Act.put, zzA, zz0, zz1]
        have HTX := Lib.hid (HMX.out k g HQg.out heqx)
        have HS2 := Lib.hid (show st + 1 + (hasM no (X.drop (k + 1))).length = 1 from by
          have h := HST.out
          rw [HHg.out, if_pos heqx, List.length_cons] at h
          omega)
        have HO2 := Lib.hid (show others no (fs.drop i) = others no (X.drop (k + 1)) from by rw [HOT.out, HOg.out, if_pos heqx])
        have y7 : (st : Int) ≤ 1 := by have := HST.out; omega
        clear heqx
        go_upto_region 9 with fail
        refine wp_region_lit ?_
        refine wR (v := .int .i64 (st : Int)) rfl (exec_move rfl rfl) ?_
        simp only [Act.put, zzA, zz0, zz1]
        refine wR (v := .int .i64 ((st + 1 : Nat) : Int)) rfl (ix_add rfl rfl rfl (by omega) (by omega)) ?_
        simp only [Act.put, zzA, zz0, zz1]
        refine wR (v := .int .i64 ((st + 1 : Nat) : Int)) rfl (gx_assign rfl rfl) ?_
        simp only [Act.put, zzA, zz0, zz1]
        obtain ⟨g1, g2⟩ := g
        have hg2 : g2 = t := HTX.out
        subst hg2
        go_upto_region 10 with fail
        refine wp_region_lit ?_
        refine wR (v := .pointer (some ⟨gx, 1, none⟩)) rfl (exec_field (off := 0) (d := 1) rfl rfl (by kernel_rfl)) ?_
        simp only [Act.put, zzA, zz0, zz1]
        refine wR (v := .slice (some ⟨bX, oX, none⟩) nx cx) rfl (exec_load1 rfl rfl (by kernel_rfl) (HBX.out.cell 1)) ?_
        simp only [Act.put, zzA, zz0, zz1]
        refine wR (v := .int .i64 (k : Int)) rfl (exec_move rfl rfl) ?_
        simp only [Act.put, zzA, zz0, zz1]
        refine wR (v := .pointer (some ⟨bX, oX + k * 2, none⟩)) rfl (gx_iaddr (i := k) (sz := 2) rfl rfl rfl Tryz.underlying22 size_field HLK.out (by omega)) ?_
        simp only [Act.put, zzA, zz0, zz1]
        refine wR (v := .pointer (some ⟨bX, oX + k * 2 + 1, none⟩)) rfl (exec_field (off := oX + k * 2) (d := 1) rfl rfl (by kernel_rfl)) ?_
        simp only [Act.put, zzA, zz0, zz1]
        refine wR (v := strV g2) rfl (exec_load1 rfl rfl (by kernel_rfl) (HRg.out 1 _ rfl)) ?_
        simp only [Act.put, zzA, zz0, zz1]
        refine wR (v := strV g2) rfl (exec_move rfl rfl) ?_
        simp only [Act.put, zzA, zz0, zz1]
        refine wR (v := .bool false) rfl (sneq_same (l := g2) rfl rfl rfl) ?_
        simp only [Act.put, zzA, zz0, zz1]
        go_upto_region 12 with fail
        refine wp_region_lit ?_
        refine wR (v := .int .i64 (k : Int)) rfl (exec_move rfl rfl) ?_
        simp only [Act.put, zzA, zz0, zz1]
        refine wR (v := .int .i64 ((k + 1 : Nat) : Int)) rfl (ix_add rfl rfl rfl (by omega) (by omega)) ?_
        simp only [Act.put, zzA, zz0, zz1]
        refine wR (v := .int .i64 ((k + 1 : Nat) : Int)) rfl (gx_assign rfl rfl) ?_
        simp only [Act.put, zzA, zz0, zz1]
        go_wp2_with fail
        go_roundg (gk - 1)
        case measure => have := HGK.out;  have := HIN.out; have := HKN.out; omega
        case rel => exact ⟨i, k + 1, st + 1, by have := HGK.out;  have := HIN.out; have := HKN.out; omega, by have := HIN.out; have := HKN.out; omega, by have := HIN.out; have := HKN.out; omega, by go_num, by go_num, by go_num, HO2.out, HS2.out, HTR.out⟩
      · refine wR (v := .bool false) rfl (ix_eql rfl rfl rfl (decide_eq_false heqx)) ?_
        simp only [Act.put, zzA, zz0, zz1]
        refine wR (v := .bool false) rfl (ix_pickT rfl rfl rfl) ?_
        simp only [Act.put, zzA, zz0, zz1]
        have hh := HOT.out
        rw [HOf.out, HOg.out, if_neg heq, if_neg heqx] at hh
        injection hh with h1 h2
        have HO2 := Lib.hid h2
        have HS2 := Lib.hid (show st + (hasM no (X.drop (k + 1))).length = 1 from by
          have h := HST.out
          rwa [HHg.out, if_neg heqx] at h)
        subst h1
        clear heq heqx h2
        have hS0 : Blk wr gm 24 #[.int .i64 ty, .slice (some ⟨bF, oF, none⟩) n c] ∧ Blk wr gx 24 #[.int .i64 ty, .slice (some ⟨bX, oX, none⟩) nx cx] ∧ wr.rangeAt bF (oF + i * 2) (fldA f).toList ∧ wr.rangeAt bX (oX + k * 2) (fldA f).toList := ⟨HBM.out, HBX.out, HRf.out, HRg.out⟩
        go_upto_region 13 with fail
        refine wp_region_alw (fun W => Blk W gm 24 #[.int .i64 ty, .slice (some ⟨bF, oF, none⟩) n c] ∧ Blk W gx 24 #[.int .i64 ty, .slice (some ⟨bX, oX, none⟩) nx cx] ∧ W.rangeAt bF (oF + i * 2) (fldA f).toList ∧ W.rangeAt bX (oX + k * 2) (fldA f).toList) (by kernel_rfl) ?_
        replace hS0 := And.intro hS0.1.drew (And.intro hS0.2.1.drew (And.intro (show wr.drew.rangeAt bF (oF + i * 2) (fldA f).toList from hS0.2.2.1) (show wr.drew.rangeAt bX (oX + k * 2) (fldA f).toList from hS0.2.2.2)))
        refine alw_take (i := 0) (v := .int .i64 (i : Int)) rfl (by kernel_rfl) (by kernel_rfl) (fun _ _ _ h => h) (.inl ⟨by rfl, fun W hW => exec_move rfl rfl⟩) hS0 ?_
        simp only [Act.put, zzA, zz0, zz1]
        refine alw_take (i := 1) (v := .pointer (some ⟨gm, 1, none⟩)) rfl (by kernel_rfl) (by kernel_rfl) (fun _ _ _ h => h) (.inl ⟨by rfl, fun W hW => exec_field (off := 0) (d := 1) rfl rfl (by kernel_rfl)⟩) hS0 ?_
        simp only [Act.put, zzA, zz0, zz1]
        refine alw_take (i := 2) (v := .slice (some ⟨bF, oF, none⟩) n c) rfl (by kernel_rfl) (by kernel_rfl) (fun _ _ _ h => h) (.inl ⟨by rfl, fun W hW => exec_load1 rfl rfl (by kernel_rfl) (hW.1.cell 1)⟩) hS0 ?_
        simp only [Act.put, zzA, zz0, zz1]
        refine alw_take (i := 3) (v := .int .i64 (n : Int)) rfl (by kernel_rfl) (by kernel_rfl) (fun _ _ _ h => h) (.inl ⟨by rfl, fun W hW => gx_len rfl rfl Tryz.underlying22⟩) hS0 ?_
        simp only [Act.put, zzA, zz0, zz1]
        refine alw_take (i := 4) (v := .bool false) rfl (by kernel_rfl) (by kernel_rfl) (fun _ _ _ h => h) (.inl ⟨by rfl, fun W hW => ix_geq rfl rfl rfl (decide_eq_false (by omega))⟩) hS0 ?_
        simp only [Act.put, zzA, zz0, zz1]
        refine alw_take (i := 5) (v := .bool false) rfl (by kernel_rfl) (by kernel_rfl) (fun _ _ _ h => h) (.inl ⟨by rfl, fun W hW => exec_move rfl rfl⟩) hS0 ?_
        simp only [Act.put, zzA, zz0, zz1]
        refine alw_take (i := 6) (v := .int .i64 (k : Int)) rfl (by kernel_rfl) (by kernel_rfl) (fun _ _ _ h => h) (.inl ⟨by rfl, fun W hW => exec_move rfl rfl⟩) hS0 ?_
        simp only [Act.put, zzA, zz0, zz1]
        refine alw_take (i := 7) (v := .pointer (some ⟨gx, 1, none⟩)) rfl (by kernel_rfl) (by kernel_rfl) (fun _ _ _ h => h) (.inl ⟨by rfl, fun W hW => exec_field (off := 0) (d := 1) rfl rfl (by kernel_rfl)⟩) hS0 ?_
        simp only [Act.put, zzA, zz0, zz1]
        refine alw_take (i := 8) (v := .slice (some ⟨bX, oX, none⟩) nx cx) rfl (by kernel_rfl) (by kernel_rfl) (fun _ _ _ h => h) (.inl ⟨by rfl, fun W hW => exec_load1 rfl rfl (by kernel_rfl) (hW.2.1.cell 1)⟩) hS0 ?_
        simp only [Act.put, zzA, zz0, zz1]
        refine alw_take (i := 9) (v := .int .i64 (nx : Int)) rfl (by kernel_rfl) (by kernel_rfl) (fun _ _ _ h => h) (.inl ⟨by rfl, fun W hW => gx_len rfl rfl Tryz.underlying22⟩) hS0 ?_
        simp only [Act.put, zzA, zz0, zz1]
        refine alw_take (i := 10) (v := .bool false) rfl (by kernel_rfl) (by kernel_rfl) (fun _ _ _ h => h) (.inl ⟨by rfl, fun W hW => ix_geq rfl rfl rfl (decide_eq_false (by omega))⟩) hS0 ?_
        simp only [Act.put, zzA, zz0, zz1]
        refine alw_take (i := 11) (v := .bool false) rfl (by kernel_rfl) (by kernel_rfl) (fun _ _ _ h => h) (.inl ⟨by rfl, fun W hW => ix_pickF rfl rfl rfl⟩) hS0 ?_
        simp only [Act.put, zzA, zz0, zz1]
        refine alw_take (i := 12) (v := .bool false) rfl (by kernel_rfl) (by kernel_rfl) (fun _ _ _ h => h) (.inl ⟨by rfl, fun W hW => exec_move rfl rfl⟩) hS0 ?_
        simp only [Act.put, zzA, zz0, zz1]
        refine alw_take (i := 13) (v := .pointer (some ⟨gm, 1, none⟩)) rfl (by kernel_rfl) (by kernel_rfl) (fun _ _ _ h => h) (.inl ⟨by rfl, fun W hW => exec_field (off := 0) (d := 1) rfl rfl (by kernel_rfl)⟩) hS0 ?_
        simp only [Act.put, zzA, zz0, zz1]
        refine alw_take (i := 14) (v := .slice (some ⟨bF, oF, none⟩) n c) rfl (by kernel_rfl) (by kernel_rfl) (fun _ _ _ h => h) (.inl ⟨by rfl, fun W hW => exec_load1 rfl rfl (by kernel_rfl) (hW.1.cell 1)⟩) hS0 ?_
        simp only [Act.put, zzA, zz0, zz1]
        refine alw_take (i := 15) (v := .int .i64 (i : Int)) rfl (by kernel_rfl) (by kernel_rfl) (fun _ _ _ h => h) (.inl ⟨by rfl, fun W hW => exec_move rfl rfl⟩) hS0 ?_
        simp only [Act.put, zzA, zz0, zz1]
        refine alw_take (i := 16) (v := .pointer (some ⟨bF, oF + i * 2, none⟩)) rfl (by kernel_rfl) (by kernel_rfl) (fun _ _ _ h => h) (.inl ⟨by rfl, fun W hW => gx_iaddr (i := i) (sz := 2) rfl rfl rfl Tryz.underlying22 size_field HLI.out (by omega)⟩) hS0 ?_
        simp only [Act.put, zzA, zz0, zz1]
        refine alw_take (i := 17) (v := .agg (fldA f)) rfl (by kernel_rfl) (by kernel_rfl) (fun _ _ _ h => h) (.inl ⟨by rfl, fun W hW => gx_loads rfl rfl hW.2.2.1 Tryz.underlying40 rfl (by rw [size_field]; rfl)⟩) hS0 ?_
        simp only [Act.put, zzA, zz0, zz1]
        refine alw_take (i := 18) (v := .pointer (some ⟨gx, 1, none⟩)) rfl (by kernel_rfl) (by kernel_rfl) (fun _ _ _ h => h) (.inl ⟨by rfl, fun W hW => exec_field (off := 0) (d := 1) rfl rfl (by kernel_rfl)⟩) hS0 ?_
        simp only [Act.put, zzA, zz0, zz1]
        refine alw_take (i := 19) (v := .slice (some ⟨bX, oX, none⟩) nx cx) rfl (by kernel_rfl) (by kernel_rfl) (fun _ _ _ h => h) (.inl ⟨by rfl, fun W hW => exec_load1 rfl rfl (by kernel_rfl) (hW.2.1.cell 1)⟩) hS0 ?_
        simp only [Act.put, zzA, zz0, zz1]
        refine alw_take (i := 20) (v := .int .i64 (k : Int)) rfl (by kernel_rfl) (by kernel_rfl) (fun _ _ _ h => h) (.inl ⟨by rfl, fun W hW => exec_move rfl rfl⟩) hS0 ?_
        simp only [Act.put, zzA, zz0, zz1]
        refine alw_take (i := 21) (v := .pointer (some ⟨bX, oX + k * 2, none⟩)) rfl (by kernel_rfl) (by kernel_rfl) (fun _ _ _ h => h) (.inl ⟨by rfl, fun W hW => gx_iaddr (i := k) (sz := 2) rfl rfl rfl Tryz.underlying22 size_field HLK.out (by omega)⟩) hS0 ?_
        simp only [Act.put, zzA, zz0, zz1]
        refine alw_take (i := 22) (v := .agg (fldA f)) rfl (by kernel_rfl) (by kernel_rfl) (fun _ _ _ h => h) (.inl ⟨by rfl, fun W hW => gx_loads rfl rfl hW.2.2.2 Tryz.underlying40 rfl (by rw [size_field]; rfl)⟩) hS0 ?_
        simp only [Act.put, zzA, zz0, zz1]
        refine alw_take (i := 23) (v := .bool false) rfl (by kernel_rfl) (by kernel_rfl) (fun _ _ _ h => h) (.inl ⟨by rfl, fun W hW => fld_same rfl rfl rfl⟩) hS0 ?_
        simp only [Act.put, zzA, zz0, zz1]
        refine alw_take (i := 24) (v := .bool false) rfl (by kernel_rfl) (by kernel_rfl) (fun _ _ _ h => h) (.inl ⟨by rfl, fun W hW => ix_pickF rfl rfl rfl⟩) hS0 ?_
        simp only [Act.put, zzA, zz0, zz1]
        refine alw_done rfl ?_
        clear hS0
        refine NoPanic.normal ?_
        go_upto_region 15 with fail
        refine wp_region_lit ?_
        refine wR (v := .int .i64 (i : Int)) rfl (exec_move rfl rfl) ?_
        simp only [Act.put, zzA, zz0, zz1]
        refine wR (v := .int .i64 ((i + 1 : Nat) : Int)) rfl (ix_add rfl rfl rfl (by omega) (by omega)) ?_
        simp only [Act.put, zzA, zz0, zz1]
        refine wR (v := .int .i64 ((i + 1 : Nat) : Int)) rfl (gx_assign rfl rfl) ?_
        simp only [Act.put, zzA, zz0, zz1]
        go_upto_region 16 with fail
        refine wp_region_lit ?_
        refine wR (v := .int .i64 (k : Int)) rfl (exec_move rfl rfl) ?_
        simp only [Act.put, zzA, zz0, zz1]
        refine wR (v := .int .i64 ((k + 1 : Nat) : Int)) rfl (ix_add rfl rfl rfl (by omega) (by omega)) ?_
        simp only [Act.put, zzA, zz0, zz1]
        refine wR (v := .int .i64 ((k + 1 : Nat) : Int)) rfl (gx_assign rfl rfl) ?_
        simp only [Act.put, zzA, zz0, zz1]
        go_wp2_with fail
        go_roundg (gk - 2)
        case measure => have := HGK.out; have := HLI.out; have := HLK.out; have := HIN.out; have := HKN.out; omega
        case rel => exact ⟨i + 1, k + 1, st, by have := HGK.out; have := HLI.out; have := HLK.out; have := HIN.out; have := HKN.out; omega, by have := HIN.out; have := HKN.out; omega, by have := HIN.out; have := HKN.out; omega, by go_num, by go_num, by go_num, HO2.out, HS2.out, HTR.out.drew⟩
  · refine wR (v := .bool false) rfl (ix_lss rfl rfl rfl (decide_eq_false (by omega))) ?_
    simp only [Act.put, zzA, zz0, zz1]
    refine wR (v := .bool false) rfl (exec_move rfl rfl) ?_
    simp only [Act.put, zzA, zz0, zz1]
    refine wR (v := .int .i64 (k : Int)) rfl (exec_move rfl rfl) ?_
    simp only [Act.put, zzA, zz0, zz1]
    refine wR (v := .pointer (some ⟨gx, 1, none⟩)) rfl (exec_field (off := 0) (d := 1) rfl rfl (by kernel_rfl)) ?_
    simp only [Act.put, zzA, zz0, zz1]
    refine wR (v := .slice AX nx cx) rfl (exec_load1 rfl rfl (by kernel_rfl) (HBX.out.cell 1)) ?_
    simp only [Act.put, zzA, zz0, zz1]
    by_cases hk : k < nx
    · have HLK := Lib.hid hk
      have y2 : (k : Int) < (nx : Int) := by omega
      obtain ⟨bX, oX, rfl, hrg⟩ := HFX.out.2.2 (by omega)
      obtain ⟨g, hfg⟩ : ∃ f, X[k]? = some f := ⟨_, List.getElem?_eq_getElem (show k < X.length from by rw [HXL.out]; omega)⟩
      have HRg := Lib.hid (hrg k g hfg)
      have HOg := Lib.hid (oth_drop (no := no) hfg)
      have HHg := Lib.hid (has_drop (no := no) hfg)
      have HQg := Lib.hid hfg
      clear hrg hfg
      refine wR (v := .int .i64 (nx : Int)) rfl (gx_len rfl rfl Tryz.underlying22) ?_
      simp only [Act.put, zzA, zz0, zz1]
      refine wR (v := .bool true) rfl (ix_lss rfl rfl rfl (decide_eq_true y2)) ?_
      simp only [Act.put, zzA, zz0, zz1]
      refine wR (v := .bool true) rfl (ix_pickF rfl rfl rfl) ?_
      simp only [Act.put, zzA, zz0, zz1]
      go_upto_region 6 with fail
      refine wp_region_lit ?_
      refine wR (v := .int .i64 (i : Int)) rfl (exec_move rfl rfl) ?_
      simp only [Act.put, zzA, zz0, zz1]
      refine wR (v := .pointer (some ⟨gm, 1, none⟩)) rfl (exec_field (off := 0) (d := 1) rfl rfl (by kernel_rfl)) ?_
      simp only [Act.put, zzA, zz0, zz1]
      refine wR (v := .slice A n c) rfl (exec_load1 rfl rfl (by kernel_rfl) (HBM.out.cell 1)) ?_
      simp only [Act.put, zzA, zz0, zz1]
      refine wR (v := .int .i64 (n : Int)) rfl (gx_len rfl rfl Tryz.underlying22) ?_
      simp only [Act.put, zzA, zz0, zz1]
      refine wR (v := .bool false) rfl (ix_lss rfl rfl rfl (decide_eq_false (by omega))) ?_
      simp only [Act.put, zzA, zz0, zz1]
      go_upto_region 8 with fail
      refine wp_region_lit ?_
      refine wR (v := .int .i64 (k : Int)) rfl (exec_move rfl rfl) ?_
      simp only [Act.put, zzA, zz0, zz1]
      refine wR (v := .pointer (some ⟨gx, 1, none⟩)) rfl (exec_field (off := 0) (d := 1) rfl rfl (by kernel_rfl)) ?_
      simp only [Act.put, zzA, zz0, zz1]
      refine wR (v := .slice (some ⟨bX, oX, none⟩) nx cx) rfl (exec_load1 rfl rfl (by kernel_rfl) (HBX.out.cell 1)) ?_
      simp only [Act.put, zzA, zz0, zz1]
      refine wR (v := .int .i64 (nx : Int)) rfl (gx_len rfl rfl Tryz.underlying22) ?_
      simp only [Act.put, zzA, zz0, zz1]
      refine wR (v := .bool true) rfl (ix_lss rfl rfl rfl (decide_eq_true y2)) ?_
      simp only [Act.put, zzA, zz0, zz1]
      refine wR (v := .bool true) rfl (exec_move rfl rfl) ?_
      simp only [Act.put, zzA, zz0, zz1]
      refine wR (v := .pointer (some ⟨gx, 1, none⟩)) rfl (exec_field (off := 0) (d := 1) rfl rfl (by kernel_rfl)) ?_
      simp only [Act.put, zzA, zz0, zz1]
      refine wR (v := .slice (some ⟨bX, oX, none⟩) nx cx) rfl (exec_load1 rfl rfl (by kernel_rfl) (HBX.out.cell 1)) ?_
      simp only [Act.put, zzA, zz0, zz1]
      refine wR (v := .int .i64 (k : Int)) rfl (exec_move rfl rfl) ?_
      simp only [Act.put, zzA, zz0, zz1]
      refine wR (v := .pointer (some ⟨bX, oX + k * 2, none⟩)) rfl (gx_iaddr (i := k) (sz := 2) rfl rfl rfl Tryz.underlying22 size_field HLK.out (by omega)) ?_
      simp only [Act.put, zzA, zz0, zz1]
      refine wR (v := .pointer (some ⟨bX, oX + k * 2, none⟩)) rfl (exec_field (off := oX + k * 2) (d := 0) rfl rfl (by kernel_rfl)) ?_
      simp only [Act.put, zzA, zz0, zz1]
      refine wR (v := .int .i64 g.1) rfl (exec_load1 rfl rfl (by kernel_rfl) (HRg.out 0 _ rfl)) ?_
      simp only [Act.put, zzA, zz0, zz1]
      refine wR (v := .int .i64 no) rfl (exec_move rfl rfl) ?_
      simp only [Act.put, zzA, zz0, zz1]
      by_cases heqx : g.1 = no
      · refine wR (v := .bool true) rfl (ix_eql rfl rfl rfl (decide_eq_true heqx)) ?_
        simp only [Act.put, zzA, zz0, zz1]
        refine wR (v := .bool true) rfl (ix_pickT rfl rfl rfl) ?_
        simp only [Act.put, zzA, zz0, zz1]
        have HTX := Lib.hid (HMX.out k g HQg.out heqx)
        have HS2 := Lib.hid (show st + 1 + (hasM no (X.drop (k + 1))).length = 1 from by
          have h := HST.out
          rw [HHg.out, if_pos heqx, List.length_cons] at h
          omega)
        have HO2 := Lib.hid (show others no (fs.drop i) = others no (X.drop (k + 1)) from by rw [HOT.out, HOg.out, if_pos heqx])
        have y7 : (st : Int) ≤ 1 := by have := HST.out; omega
        clear heqx
        go_upto_region 9 with fail
        refine wp_region_lit ?_
        refine wR (v := .int .i64 (st : Int)) rfl (exec_move rfl rfl) ?_
        simp only [Act.put, zzA, zz0, zz1]
        refine wR (v := .int .i64 ((st + 1 : Nat) : Int)) rfl (ix_add rfl rfl rfl (by omega) (by omega)) ?_
        simp only [Act.put, zzA, zz0, zz1]
        refine wR (v := .int .i64 ((st + 1 : Nat) : Int)) rfl (gx_assign rfl rfl) ?_
        simp only [Act.put, zzA, zz0, zz1]
        obtain ⟨g1, g2⟩ := g
        have hg2 : g2 = t := HTX.out
        subst hg2
        go_upto_region 10 with fail
        refine wp_region_lit ?_
        refine wR (v := .pointer (some ⟨gx, 1, none⟩)) rfl (exec_field (off := 0) (d := 1) rfl rfl (by kernel_rfl)) ?_
        simp only [Act.put, zzA, zz0, zz1]
        refine wR (v := .slice (some ⟨bX, oX, none⟩) nx cx) rfl (exec_load1 rfl rfl (by kernel_rfl) (HBX.out.cell 1)) ?_
        simp only [Act.put, zzA, zz0, zz1]
        refine wR (v := .int .i64 (k : Int)) rfl (exec_move rfl rfl) ?_
        simp only [Act.put, zzA, zz0, zz1]
        refine wR (v := .pointer (some ⟨bX, oX + k * 2, none⟩)) rfl (gx_iaddr (i := k) (sz := 2) rfl rfl rfl Tryz.underlying22 size_field HLK.out (by omega)) ?_
        simp only [Act.put, zzA, zz0, zz1]
        refine wR (v := .pointer (some ⟨bX, oX + k * 2 + 1, none⟩)) rfl (exec_field (off := oX + k * 2) (d := 1) rfl rfl (by kernel_rfl)) ?_
        simp only [Act.put, zzA, zz0, zz1]
        refine wR (v := strV g2) rfl (exec_load1 rfl rfl (by kernel_rfl) (HRg.out 1 _ rfl)) ?_
        simp only [Act.put, zzA, zz0, zz1]
        refine wR (v := strV g2) rfl (exec_move rfl rfl) ?_
        simp only [Act.put, zzA, zz0, zz1]
        refine wR (v := .bool false) rfl (sneq_same (l := g2) rfl rfl rfl) ?_
        simp only [Act.put, zzA, zz0, zz1]
        go_upto_region 12 with fail
        refine wp_region_lit ?_
        refine wR (v := .int .i64 (k : Int)) rfl (exec_move rfl rfl) ?_
        simp only [Act.put, zzA, zz0, zz1]
        refine wR (v := .int .i64 ((k + 1 : Nat) : Int)) rfl (ix_add rfl rfl rfl (by omega) (by omega)) ?_
        simp only [Act.put, zzA, zz0, zz1]
        refine wR (v := .int .i64 ((k + 1 : Nat) : Int)) rfl (gx_assign rfl rfl) ?_
        simp only [Act.put, zzA, zz0, zz1]
        go_wp2_with fail
        go_roundg (gk - 1)
        case measure => have := HGK.out;  have := HIN.out; have := HKN.out; omega
        case rel => exact ⟨i, k + 1, st + 1, by have := HGK.out;  have := HIN.out; have := HKN.out; omega, by have := HIN.out; have := HKN.out; omega, by have := HIN.out; have := HKN.out; omega, by go_num, by go_num, by go_num, HO2.out, HS2.out, HTR.out⟩
      · exfalso
        have h := HOT.out
        rw [oth_end (l := fs) (i := i) (by have := HNL.out; omega), HOg.out, if_neg heqx] at h
        cases h
    · refine wR (v := .int .i64 (nx : Int)) rfl (gx_len rfl rfl Tryz.underlying22) ?_
      simp only [Act.put, zzA, zz0, zz1]
      refine wR (v := .bool false) rfl (ix_lss rfl rfl rfl (decide_eq_false (by omega))) ?_
      simp only [Act.put, zzA, zz0, zz1]
      refine wR (v := .bool false) rfl (ix_pickF rfl rfl rfl) ?_
      simp only [Act.put, zzA, zz0, zz1]
      obtain rfl : st = 1 := by
        have h := HST.out
        rw [has_end (l := X) (i := k) (by have := HXL.out; omega)] at h
        exact h
      go_upto_region 17 with fail
      refine wp_region_lit ?_
      refine wR (v := .bool true) rfl (exec_move rfl rfl) ?_
      simp only [Act.put, zzA, zz0, zz1]
      refine wR (v := .bool true) rfl (exec_move rfl rfl) ?_
      simp only [Act.put, zzA, zz0, zz1]
      refine wR (v := .int .i64 ((1 : Nat) : Int)) rfl (exec_move rfl rfl) ?_
      simp only [Act.put, zzA, zz0, zz1]
      refine wR (v := .bool true) rfl (ix_eql rfl rfl rfl (by decide)) ?_
      simp only [Act.put, zzA, zz0, zz1]
      refine wR (v := .bool true) rfl (ix_pickT rfl rfl rfl) ?_
      simp only [Act.put, zzA, zz0, zz1]
      refine wR (v := .bool true) rfl (exec_move rfl rfl) ?_
      simp only [Act.put, zzA, zz0, zz1]
      refine wR (v := .pointer (some ⟨gx, 0, none⟩)) rfl (exec_field (off := 0) (d := 0) rfl rfl (by kernel_rfl)) ?_
      simp only [Act.put, zzA, zz0, zz1]
      refine wR (v := .int .i64 ty) rfl (exec_load1 rfl rfl (by kernel_rfl) (HBX.out.cell 0)) ?_
      simp only [Act.put, zzA, zz0, zz1]
      refine wR (v := .pointer (some ⟨gm, 0, none⟩)) rfl (exec_field (off := 0) (d := 0) rfl rfl (by kernel_rfl)) ?_
      simp only [Act.put, zzA, zz0, zz1]
      refine wR (v := .int .i64 ty) rfl (exec_load1 rfl rfl (by kernel_rfl) (HBM.out.cell 0)) ?_
      simp only [Act.put, zzA, zz0, zz1]
      refine wR (v := .bool true) rfl (ix_eql rfl rfl rfl (decide_eq_true rfl)) ?_
      simp only [Act.put, zzA, zz0, zz1]
      refine wR (v := .bool true) rfl (ix_pickT rfl rfl rfl) ?_
      simp only [Act.put, zzA, zz0, zz1]
      refine wR (v := .bool true) rfl (gx_assign rfl rfl) ?_
      simp only [Act.put, zzA, zz0, zz1]
      go_wp2_with fail
      go_ret
      exact ⟨rfl, (((((HT0.out.next HT1.out).next HT2.out).next HT3.out).next HTR.out)).below (Nat.le_refl _) (fun _ _ e=>e)⟩
end Go.Proofs.YticofobhkmabiaaGreatDoor
namespace Go.Proofs.YticofobhkmabiaaGreatDoor.messageOthers
open Go.ChangeShapes Go.WideShapes Go.ChangeAt Go.RowKit
open Go.ChangeMaps (open_string shut_string)
set_option linter.unusedVariables false
theorem own : ownKnob Tryz.prog.godebug = none := by kernel_rfl
theorem laidOut : laidOutB Tryz.prog = true := by kernel_rfl
set_option maxRecDepth 100000 in
/-- WHAT THE WALK GIVES, FOR EVERY ARGUMENT AND EVERY WORLD: the same for both forms. -/
theorem contract (H : Type) (enc : TypeId × Value → H) (W : World) (base : Nat) (args : Array Value) (ds gs : List (DataW H)) (before : List MemPlace)
    (hval : ∀ (j : Nat) t v, Tryz.f6.params[j]? = some t → args[j]? = some v → Value.okWide Tryz.prog W .any base t v)
    (hW : DataW.Whole enc Tryz.prog Tryz.f6.params.toList Rows.messageOthersSpec.vars false W args.toList ds gs before) (hsz0 : (DataW.weightsEach Tryz.prog (Tryz.f6.params.toList ++ Rows.messageOthersSpec.plain.varTypes Tryz.prog) (ds ++ gs)).all (· ≤ reachBytes) = true) (hL : laidMetH Tryz.prog Rows.messageOthersRow.laid W) (hsh : W.ShapedOpen Tryz.prog) :
    Calls Tryz.prog 6 args W fun e W' => ∃ v, e = .returned v ∧ Rows.messageOthersSpec.post enc Tryz.prog Tryz.f6 false true false false W args v W' := by
  have hW' := hW
  obtain ⟨p, q, hA0, hV, rfl, hfz, hnd⟩ := hW
  have hA : DataW.TrodAll enc Tryz.prog W 0 (fun _ => true) true Tryz.f6.params.toList args.toList ds p := hA0
  have hsz : (DataW.weightsEach Tryz.prog (Tryz.f6.params.toList ++ Rows.messageOthersSpec.plain.varTypes Tryz.prog) (ds ++ gs)).all (· ≤ reachBytes) = true := hsz0
  rw [Tryz.params6] at hA hval hsz
  obtain ⟨v0, vs0, d0, ds0, p0, q0, hargs, rfl, rfl, h0, r0⟩ := trodAll_cons hA
  obtain ⟨v1, vs1, d1, ds1, p1, q1, rfl, rfl, rfl, h1, r1⟩ := trodAll_cons r0
  obtain ⟨v2, vs2, d2, ds2, p2, q2, rfl, rfl, rfl, h2, r2⟩ := trodAll_cons r1
  obtain ⟨rfl, rfl, rfl⟩ := trodAll_nil r2
  obtain rfl : args = #[v0, v1, v2] := by cases args; simp_all
  obtain ⟨rfl, rfl⟩ := trodVars_none hV
  have k0 := h0
  have lt0 : ∀ x ∈ p0, x.block < W.heap.size := by obtain ⟨m, hm⟩ := k0; exact DataW.trod_lt m _ _ _ hm
  have room0 := msg_room (hval 0 24 v0 rfl rfl) h0 (fun x hx => by simpa using List.all_eq_true.1 hsz _ (DataW.weights_mem_each (j := 0) (t := 24) rfl rfl x hx))
  obtain ⟨ty0, a0, len0, cap0, z0, rfl, w0, tyw0, lc0, nn0, fw0⟩ := msg_of (hval 0 24 v0 rfl rfl) h0 (fun x hx => by simpa using List.all_eq_true.1 hsz _ (DataW.weights_mem_each (j := 0) (t := 24) rfl rfl x hx))
  have hroom0 := room0 _ _ _ _ rfl
  obtain ⟨x1, rfl, rfl, rfl, w1⟩ := open_int Tryz.underlying3 (hval 1 3 v1 rfl rfl) h1
  obtain ⟨x2, rfl, rfl, rfl, w2⟩ := open_string Tryz.underlying9 (hval 2 9 v2 rfl rfl) h2
  obtain ⟨s, henv⟩ := env_of_laid (l := Rows.messageOthersRow.laid) rfl hL
  clear hA0
  refine (messageOthers_walk x1 x2.data.toList W henv w0 hroom0).mono fun e W' ⟨he, bel⟩ => ?_
  subst he
  exact ⟨_, rfl, _, _, _, [], _, [], hW', trodAll_mk1 (shut_bool Tryz.underlying4 _), (trodAll_cons_mk (Below.trod laidOut (by kernel_rfl) (of_decide_eq_true (by kernel_rfl)) k0 bel lt0) (trodAll_cons_mk (shut_int Tryz.underlying3 w1) (trodAll_cons_mk (shut_string Tryz.underlying9 w2) trodAll_mk0))), rfl, bel.frame _, fun h => by cases h⟩
theorem laid_met (os : Os) : laidMetH Tryz.prog Rows.messageOthersRow.laid ((hworld os Rows.messageOthersRow.laid).forCall (fun _ _ => 0) ⟨#[], #[.agg #[.int .i64 0, .slice none 0 0], .int .i64 0, .string ByteArray.empty], []⟩).memory :=
  laidH_hworld _ (by kernel_rfl) (by kernel_rfl) (by kernel_rfl)
theorem reads (os : Os) {H : Type} (enc : TypeId × Value → H) : ∃ places, DataW.whole enc Tryz.prog ((hworld os Rows.messageOthersRow.laid).forCall (fun _ _ => 0) ⟨#[], #[.agg #[.int .i64 0, .slice none 0 0], .int .i64 0, .string ByteArray.empty], []⟩).memory Tryz.f6.params.toList Rows.messageOthersSpec.vars false [.agg #[.int .i64 0, .slice none 0 0], .int .i64 0, .string ByteArray.empty] 8 = some ([.agg [.lit (.int .i64 0), .nil], .lit (.int .i64 0), .lit (.string [])], [], places) :=
  ⟨[], by kernel_rfl⟩
set_option maxRecDepth 100000 in
theorem lifted (os : Os) (started : os.Started) (H : Type) (enc : TypeId × Value → H) (F : Stop.Interp) :
    ReturnsInHanded {} Tryz.checked os 6 .any ((OpenSpec.ofChange Rows.messageOthersSpec).preRow enc Tryz.prog Tryz.f6 Rows.messageOthersRow.domain false Rows.messageOthersRow.laid) (((OpenSpec.ofChange Rows.messageOthersSpec).at F).post enc Tryz.prog Tryz.f6 false true false false) := by
  obtain ⟨places, hx⟩ := reads os enc
  refine returnsInHanded_of_row (C := Tryz.checked) (s := OpenSpec.ofChange Rows.messageOthersSpec) own started (by kernel_rfl) Tryz.func6
    (witness_zip (enc := enc) (C := Tryz.checked) false (hworld os Rows.messageOthersRow.laid) #[.agg #[.int .i64 0, .slice none 0 0], .int .i64 0, .string ByteArray.empty] (hworld_os _ _) (World.shaped_of_ZipB (by kernel_rfl) (by kernel_rfl)) (by kernel_rfl)
      (OpenSpec.preRow_of_cond 8 hx (by kernel_rfl) (fun k hk => by cases hk) (by kernel_rfl) (laid_met os))) ?_
  intro W base args ds gs before hval hW _ hcond hsz hL hsh _
  exact contract H enc W base args ds gs before hval hW hsz hL hsh
theorem said : Rows.MessageOthersSaid :=
  OpenClaim.holds_of_cond 6 Tryz.f6 rfl rfl rfl rfl rfl rfl rfl ⟨rfl, rfl, rfl, rfl, rfl⟩ rfl rfl rfl rfl rfl (by kernel_rfl) Tryz.func6 (by kernel_rfl)
    (of_decide_eq_true (by kernel_rfl)) (by unfold Func.isWrapper; first | (rw [if_pos (by decide +kernel)]; kernel_rfl) | (rw [if_neg (by decide +kernel)]; exact ⟨rfl, rfl⟩))
    (fun os started H enc _ F => by rw [OpenClaim.pre_eq_preRow]; exact lifted os started H enc F)
theorem plain (f : FuncId) (fn : Func) (hf : Tryz.pinned.checked.prog.funcNamed "groat/groatlaw05.MessageOthers" = some f) (hfn : Tryz.pinned.checked.prog.funcs[f]? = some fn) :
    true = Tryz.pinned.checked.prog.looks [] ∧ ∀ (j : Nat) t, fn.params[j]? = some t → Tryz.pinned.checked.prog.wantsStandIn t = false := by
  obtain rfl : f = 6 := Option.some.inj ((show Tryz.prog.funcNamed "groat/groatlaw05.MessageOthers" = some 6 by kernel_rfl).symm.trans hf) |>.symm
  obtain rfl : fn = Tryz.f6 := (Option.some.inj (Tryz.func6.symm.trans hfn)).symm
  refine ⟨by kernel_rfl, fun j t ht => ?_⟩
  rw [Tryz.params6] at ht
  have hm : t ∈ [24, 3, 9] := by simpa using Array.mem_of_getElem? ht
  have hall : ([24, 3, 9].all fun u => !Tryz.prog.wantsStandIn u) = true := by kernel_rfl
  exact (show Tryz.prog.wantsStandIn t = false by simpa using List.all_eq_true.1 hall t hm)
/-- THE CARD -/
theorem card : Rows.MessageOthersCardSaid :=
  Claim7.holds_tied_plain_at .later [] _ _ _ _ said (fun _ h => by cases h) (by kernel_rfl) (fun _ h => by cases h) messageOthers_row_tie rfl ⟨rfl, rfl⟩ (by kernel_rfl) rfl plain (by kernel_rfl)
#print axioms card
end Go.Proofs.YticofobhkmabiaaGreatDoor.messageOthers
