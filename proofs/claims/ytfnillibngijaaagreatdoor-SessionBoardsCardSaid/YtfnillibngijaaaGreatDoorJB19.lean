/-
  Texts in one file: MsFd MsMb MsFe. Conditions: the tables and the errors read as the program's text lays them.
-/
import Derived.Test.YtfnillibngijaaaGreatDoorJB18
import Derived.Test.YtfnillibngijaaaGreatDoorJB17
namespace Go.Proofs.YtfnillibngijaaaGreatDoor
open Go.RowKit
open Fdd
set_option linter.unusedVariables false
set_option linter.unusedSimpArgs false
theorem hexk_cons : ∀ (k n : Nat), hexk (k + 1) n = hexs.getD (n / 16 ^ k % 16) 0 :: hexk k n
  | 0, n => by simp [hexk]
  | k + 1, n => by
    rw [hexk, hexk_cons k (n / 16), Nat.div_div_eq_div_mul, Nat.mul_comm 16, ← Nat.pow_succ]
    rfl
def ZerT (W : World) : Prop := W.cell? ⟨19, 15, none⟩ = some (.int .u8 4)
theorem ZerT.turn {W W' : World} (h : ZerT W) (ht : Turn nowhere W W') : ZerT W' := (ht.cell (World.block_lt_of_cell? _ _ h) (fun e => e)).trans h
set_option maxRecDepth 20000 in
theorem zeros64 {w : World} (hz : ZerT w) : Calls Tryz.prog 137 #[.int .u64 16] w fun e w' => e = .returned (.int .i64 4) ∧ w' = w := by
  unfold ZerT at hz
  go_enter Tryz.func137, Tryz.ntmps137
  go_upto_region 3 with fail
  refine wp_region_lit ?_
  refine wpList_run (v := .int .u64 16) rfl (exec_move rfl rfl) ?_
  simp only [Act.put, List.setIfInBounds_toArray, List.set_cons_zero, List.set_cons_succ]
  refine wpList_run (v := .int .u64 16) rfl (exec_move rfl rfl) ?_
  simp only [Act.put, List.setIfInBounds_toArray, List.set_cons_zero, List.set_cons_succ]
  refine wpList_run (v := .int .u64 18446744073709551600) (w' := w) rfl (by kernel_rfl) ?_
  simp only [Act.put, List.setIfInBounds_toArray, List.set_cons_zero, List.set_cons_succ]
  refine wpList_run (v := .int .u64 16) (w' := w) rfl (by kernel_rfl) ?_
  simp only [Act.put, List.setIfInBounds_toArray, List.set_cons_zero, List.set_cons_succ]
  refine wpList_run (v := .int .u64 4573923408821661840) (w' := w) rfl (by kernel_rfl) ?_
  simp only [Act.put, List.setIfInBounds_toArray, List.set_cons_zero, List.set_cons_succ]
  refine wpList_run (v := .int .u64 15) (w' := w) rfl (by kernel_rfl) ?_
  simp only [Act.put, List.setIfInBounds_toArray, List.set_cons_zero, List.set_cons_succ]
  refine wpList_run (v := .pointer (some ⟨19, 15, none⟩)) rfl (gx_aaddr (i := 15) (off := 0) (sz := 1) rfl rfl rfl Tryz.underlying84 (by kernel_rfl) (by omega) (by omega)) ?_
  simp only [Act.put, List.setIfInBounds_toArray, List.set_cons_zero, List.set_cons_succ]
  refine wpList_run (v := .int .u8 4) rfl (exec_load1 rfl rfl (by kernel_rfl) hz) ?_
  simp only [Act.put, List.setIfInBounds_toArray, List.set_cons_zero, List.set_cons_succ]
  refine wpList_run (v := .int .i64 4) (w' := w) rfl (by kernel_rfl) ?_
  simp only [Act.put, List.setIfInBounds_toArray, List.set_cons_zero, List.set_cons_succ]
  refine wpList_run (v := .int .i64 4) rfl (gx_assign rfl rfl) ?_
  simp only [Act.put, List.setIfInBounds_toArray, List.set_cons_zero, List.set_cons_succ]

  clear hz
  go_wp2_with fail
  go_ret
  exact ⟨rfl, rfl⟩
set_option maxRecDepth 20000 in
theorem zeros_walk {w : World} (hz : ZerT w) : Calls Tryz.prog 132 #[.int .u64 16] w fun e w' => e = .returned (.int .i64 4) ∧ w' = w := by
  have HZ := Lib.hid hz
  clear hz
  go_enter Tryz.func132, Tryz.ntmps132
  go_wp2_with (go_at_call 137; refine (zeros64 HZ.out).mono ?_; rintro e w' ⟨rfl, rfl⟩)
  go_ret
  exact ⟨rfl, rfl⟩
set_option maxRecDepth 20000 in
theorem two_walk {w : World} : Calls Tryz.prog 131 #[.int .i64 16] w fun e w' => e = .returned (.bool true) ∧ w' = w := by
  go_enter Tryz.func131, Tryz.ntmps131
  go_upto_region 1 with fail
  refine wp_region_lit ?_
  refine wpList_run (v := .int .i64 16) rfl (exec_move rfl rfl) ?_
  simp only [Act.put, List.setIfInBounds_toArray, List.set_cons_zero, List.set_cons_succ]
  refine wpList_run (v := .int .i64 16) rfl (exec_move rfl rfl) ?_
  simp only [Act.put, List.setIfInBounds_toArray, List.set_cons_zero, List.set_cons_succ]
  refine wpList_run (v := .int .i64 15) (w' := w) rfl (by kernel_rfl) ?_
  simp only [Act.put, List.setIfInBounds_toArray, List.set_cons_zero, List.set_cons_succ]
  refine wpList_run (v := .int .i64 0) (w' := w) rfl (by kernel_rfl) ?_
  simp only [Act.put, List.setIfInBounds_toArray, List.set_cons_zero, List.set_cons_succ]
  refine wpList_run (v := .bool true) (w' := w) rfl (by kernel_rfl) ?_
  simp only [Act.put, List.setIfInBounds_toArray, List.set_cons_zero, List.set_cons_succ]
  refine wpList_run (v := .bool true) rfl (gx_assign rfl rfl) ?_
  simp only [Act.put, List.setIfInBounds_toArray, List.set_cons_zero, List.set_cons_succ]

  go_wp2_with fail
  go_ret
  exact ⟨rfl, rfl⟩
theorem gx_aslice {P : Program} {a : Act} {o : Oper} {W : World} {t e : TypeId} {x y : Operand} {b off n i sz m q : Nat} {k : IntKind} (ho : o.op = .slice t x (some y) none none) (hx : a.eval x = .pointer (some ⟨b, off, none⟩)) (hy : a.eval y = .int k (i : Int))
    (ht : P.underlying t = some (.array n e)) (hs : (P.info? e).map (·.size) = some sz) (hi : i < n) (hm : off + i * sz = m) (hq : n - i = q) : (execOp a.eval o).run P W = .ok (.value (.slice (some ⟨b, m, none⟩) q q)) W := by
  obtain ⟨j, hj, hjs⟩ := Option.map_eq_some_iff.1 hs
  subst hm
  subst hq
  unfold execOp
  have h1 : (i : Int) ≤ (n : Int) := by omega
  have h2 : ¬ (n = i) := by omega
  simp [ho, hx, hy, Instr.sliceAt, Instr.sliceBounds, Instr.sliceBound, run_underlying ht, asIntOf, sizeOf, typeInfo, hj, hjs, h1, h2, Nat.le_of_lt hi, add_nat, Result.andThen, Instr.sureAddr]
def d36 : List UInt8 := [48, 49, 50, 51, 52, 53, 54, 55, 56, 57, 97, 98, 99, 100, 101, 102, 103, 104, 105, 106, 107, 108, 109, 110, 111, 112, 113, 114, 115, 116, 117, 118, 119, 120, 121, 122]
theorem d36_hex {v : Nat} (h : v < 16) : d36.getD v 0 = hexs.getD v 0 := by
  have key : ∀ v : Fin 16, d36.getD v.val 0 = hexs.getD v.val 0 := by decide +kernel
  exact key ⟨v, h⟩
theorem zero65 (w : World) : (zeroValue 227).run Tryz.prog w = .ok (.agg (Array.replicate 65 (.int .u8 0))) w := by kernel_rfl
set_option maxRecDepth 40000 in
set_option maxHeartbeats 1000000 in
theorem fbits_walk {w : World} {u : Nat} (hu : u < 2 ^ 64) (hz : ZerT w) :
    Calls Tryz.prog 114 #[.slice none 0 0, .int .u64 (u : Int), .int .i64 16, .bool false, .bool false] w fun e w' => (∃ k, 1 ≤ k ∧ k ≤ 16 ∧ u < 16 ^ k ∧ e = .returned (.tuple #[.slice none 0 0, strV (hexk k u)])) ∧ Turn nowhere w w' := by
  have HU := Lib.hid hu
  have HZ := Lib.hid hz
  clear hu hz
  go_enter Tryz.func114, Tryz.ntmps114
  go_upto_region 3 with fail
  refine wp_region_lit ?_
  refine wpList_run (v := .pointer (some ⟨w.heap.size, 0, none⟩)) (w' := w.alloc (.cells (Array.replicate 65 (.int .u8 0)) 227)) rfl (gx_alloc rfl (zero65 _)) ?_
  simp only [Act.put, List.setIfInBounds_toArray, List.set_cons_zero, List.set_cons_succ]

  have hb0 := Blk.new w 227 (Array.replicate 65 (.int .u8 0))
  have hu0 := (Turn.refl nowhere w).alloc (.cells (Array.replicate 65 (.int .u8 0)) 227)
  obtain ⟨ga, hga⟩ : ∃ ga, ga = w.heap.size := ⟨_, rfl⟩
  rw [← hga] at hb0 ⊢
  have HG := Lib.hid hga
  have HB := Lib.hid hb0
  have HT := Lib.hid hu0
  clear hb0 hu0 hga
  generalize w.alloc (.cells (Array.replicate 65 (.int .u8 0)) 227) = w1 at *
  go_upto_region 8 with (go_at_call 131; refine two_walk.mono ?_; rintro e w2 ⟨rfl, rfl⟩)
  go_wp2_with (go_at_call 132; refine (zeros_walk (HZ.out.turn HT.out)).mono ?_; rintro e w2 ⟨rfl, rfl⟩)
  have HU0 := Lib.hid (show u < 16 ^ 16 from by have := HU.out; omega)
  go_loopg [1, 13] 16 (fun gk uv iv wr => ∃ (k : Nat) (C : Array Value), k + gk = 16 ∧ k ≤ 15 ∧ uv = .int .u64 ((u / 16 ^ k : Nat) : Int) ∧ iv = .int .i64 ((65 - k : Nat) : Int) ∧ Blk wr ga 227 C ∧ C.size = 65 ∧ (∀ i x, (hexk k u)[i]? = some x → C[65 - k + i]? = some (.int .u8 (x.toNat : Int))) ∧ Turn nowhere w wr)
  case atStart => exact ⟨0, _, by omega, by omega, by simp, rfl, HB.out, by simp, fun i x h => by simp [hexk] at h, HT.out⟩
  obtain ⟨k, C, hk, hk15, rfl, rfl, hbC, hC, hcells, htr⟩ := hrel
  obtain ⟨v, hv⟩ : ∃ v, v = u / 16 ^ k := ⟨_, rfl⟩
  rw [← hv]
  have hvl : v < 2 ^ 64 := by
    have := HU.out
    have : u / 16 ^ k ≤ u := Nat.div_le_self _ _
    omega
  have HK := Lib.hid hk
  have HK15 := Lib.hid hk15
  have HV := Lib.hid hv
  have HVL := Lib.hid hvl
  have HBC := Lib.hid hbC
  have HC := Lib.hid hC
  have HCE := Lib.hid hcells
  have HTR := Lib.hid htr
  clear hk hk15 hv hvl hbC hC hcells htr HB HT
  by_cases hge : 16 ≤ v
  · have y1 : (16 : Int) ≤ (v : Int) := by omega
    have hk14 : k ≤ 14 := by
      apply Nat.le_of_not_lt
      intro h
      have h15 : k = 15 := by have := HK15.out; omega
      have h2 := HV.out
      rw [h15] at h2
      have h3 := HU0.out
      have h4 : u / 16 ^ 15 < 16 := Nat.div_lt_of_lt_mul (by rw [← Nat.pow_succ]; exact h3)
      omega
    have HK14 := Lib.hid hk14
    clear hge hk14
    go_upto_region 12 with fail
    refine wp_region_lit ?_
    refine wpList_run (v := .int .i64 ((65 - k : Nat) : Int)) rfl (exec_move rfl rfl) ?_
    simp only [Act.put, List.setIfInBounds_toArray, List.set_cons_zero, List.set_cons_succ]
    refine wpList_run (v := .int .i64 ((64 - k : Nat) : Int)) rfl (ix_sub rfl rfl rfl (by have := HK14.out; omega) (by have := HK14.out; omega)) ?_
    simp only [Act.put, List.setIfInBounds_toArray, List.set_cons_zero, List.set_cons_succ]
    refine wpList_run (v := .int .i64 ((64 - k : Nat) : Int)) rfl (gx_assign rfl rfl) ?_
    simp only [Act.put, List.setIfInBounds_toArray, List.set_cons_zero, List.set_cons_succ]

    go_upto_region 13 with fail
    refine wp_region_lit ?_
    refine wpList_run (v := .int .i64 ((64 - k : Nat) : Int)) rfl (exec_move rfl rfl) ?_
    simp only [Act.put, List.setIfInBounds_toArray, List.set_cons_zero, List.set_cons_succ]
    refine wpList_run (v := .int .u64 (v : Int)) rfl (exec_move rfl rfl) ?_
    simp only [Act.put, List.setIfInBounds_toArray, List.set_cons_zero, List.set_cons_succ]
    refine wpList_run (v := .int .u64 15) rfl (exec_move rfl rfl) ?_
    simp only [Act.put, List.setIfInBounds_toArray, List.set_cons_zero, List.set_cons_succ]
    refine wpList_run (v := .int .u64 ((v % 16 : Nat) : Int)) rfl (ux_and (m := 15) rfl rfl rfl HVL.out (by decide) (Nat.and_two_pow_sub_one_eq_mod v 4)) ?_
    simp only [Act.put, List.setIfInBounds_toArray, List.set_cons_zero, List.set_cons_succ]
    refine wpList_run (v := .int .u8 ((d36.getD (v % 16) 0).toNat : Int)) rfl (exec_sidx (l := d36) rfl rfl rfl (Nat.lt_of_lt_of_le (Nat.mod_lt v (by decide)) (by decide))) ?_
    simp only [Act.put, List.setIfInBounds_toArray, List.set_cons_zero, List.set_cons_succ]
    refine wpList_run (v := .pointer (some ⟨ga, 64 - k, none⟩)) rfl (gx_aaddr (i := 64 - k) (off := 0) (sz := 1) rfl rfl rfl Tryz.underlying227 (by kernel_rfl) (by omega) (by omega)) ?_
    simp only [Act.put, List.setIfInBounds_toArray, List.set_cons_zero, List.set_cons_succ]

    refine wpList_store1 (g := ga) (i := 64 - k) (v := .int .u8 ((d36.getD (v % 16) 0).toNat : Int)) rfl 5 (.tmp 54) (.tmp 53) rfl HBC.out rfl rfl (by have := HC.out; omega) (by rfl) (by rfl) (by kernel_rfl) ?_
    intro hb9 ht9
    simp only [Act.put, List.setIfInBounds_toArray, List.set_cons_zero, List.set_cons_succ]
    have HB9 := Lib.hid hb9
    have HT9 := Lib.hid (HTR.out.trans ht9 (fun a hk e => by
      have := HG.out
      have e : a = ga := e
      omega))
    clear hb9 ht9
    generalize World.setCell wr ⟨ga, 64 - k, none⟩ _ = w9 at *
    go_upto_region 14 with fail
    refine wp_region_lit ?_
    refine wpList_run (v := .int .u64 (v : Int)) rfl (exec_move rfl rfl) ?_
    simp only [Act.put, List.setIfInBounds_toArray, List.set_cons_zero, List.set_cons_succ]
    refine wpList_run (v := .int .u64 4) rfl (exec_move rfl rfl) ?_
    simp only [Act.put, List.setIfInBounds_toArray, List.set_cons_zero, List.set_cons_succ]
    refine wpList_run (v := .int .u64 ((v / 16 : Nat) : Int)) rfl (ux_shr4 rfl rfl rfl HVL.out) ?_
    simp only [Act.put, List.setIfInBounds_toArray, List.set_cons_zero, List.set_cons_succ]
    refine wpList_run (v := .int .u64 ((v / 16 : Nat) : Int)) rfl (gx_assign rfl rfl) ?_
    simp only [Act.put, List.setIfInBounds_toArray, List.set_cons_zero, List.set_cons_succ]

    go_wp2_with fail
    go_roundg (gk - 1)
    case measure => have := HK.out; have := HK15.out; omega
    case rel =>
      refine ⟨k + 1, _, by have := HK.out; have := HK15.out; omega, by have := HK14.out; omega, ?_, ?_, HB9.out, by simp; exact HC.out, fun i x hi => ?_, HT9.out⟩
      · rw [HV.out, Nat.div_div_eq_div_mul, ← Nat.pow_succ]
      · rw [show 65 - (k + 1) = 64 - k from by omega]
      · rw [hexk_cons] at hi
        rw [show 65 - (k + 1) + i = 64 - k + i from by omega]
        cases i with
        | zero =>
          simp only [List.getElem?_cons_zero, Option.some.injEq] at hi
          subst hi
          rw [Nat.add_zero, Array.getElem?_setIfInBounds_self_of_lt (by have := HC.out; omega), d36_hex (Nat.mod_lt v (by decide)), HV.out]
        | succ i =>
          simp only [List.getElem?_cons_succ] at hi
          rw [Array.getElem?_setIfInBounds_ne (by omega), show 64 - k + (i + 1) = 65 - k + i from by have := HK14.out; omega]
          exact HCE.out i x hi
  · have y1 : ¬ ((16 : Int) ≤ (v : Int)) := by omega
    have hlt : v < 16 := by omega
    have HLT := Lib.hid hlt
    clear hge hlt
    go_upto_region 15 with fail
    refine wp_region_lit ?_
    refine wpList_run (v := .int .i64 ((65 - k : Nat) : Int)) rfl (exec_move rfl rfl) ?_
    simp only [Act.put, List.setIfInBounds_toArray, List.set_cons_zero, List.set_cons_succ]
    refine wpList_run (v := .int .i64 ((64 - k : Nat) : Int)) rfl (ix_sub rfl rfl rfl (by have := HK15.out; omega) (by have := HK15.out; omega)) ?_
    simp only [Act.put, List.setIfInBounds_toArray, List.set_cons_zero, List.set_cons_succ]
    refine wpList_run (v := .int .i64 ((64 - k : Nat) : Int)) rfl (gx_assign rfl rfl) ?_
    simp only [Act.put, List.setIfInBounds_toArray, List.set_cons_zero, List.set_cons_succ]

    go_upto_region 16 with fail
    refine wp_region_lit ?_
    refine wpList_run (v := .int .i64 ((64 - k : Nat) : Int)) rfl (exec_move rfl rfl) ?_
    simp only [Act.put, List.setIfInBounds_toArray, List.set_cons_zero, List.set_cons_succ]
    refine wpList_run (v := .int .u64 (v : Int)) rfl (exec_move rfl rfl) ?_
    simp only [Act.put, List.setIfInBounds_toArray, List.set_cons_zero, List.set_cons_succ]
    refine wpList_run (v := .int .u8 ((d36.getD v 0).toNat : Int)) rfl (exec_sidx (l := d36) rfl rfl rfl (Nat.lt_of_lt_of_le HLT.out (by decide))) ?_
    simp only [Act.put, List.setIfInBounds_toArray, List.set_cons_zero, List.set_cons_succ]
    refine wpList_run (v := .pointer (some ⟨ga, 64 - k, none⟩)) rfl (gx_aaddr (i := 64 - k) (off := 0) (sz := 1) rfl rfl rfl Tryz.underlying227 (by kernel_rfl) (by omega) (by omega)) ?_
    simp only [Act.put, List.setIfInBounds_toArray, List.set_cons_zero, List.set_cons_succ]

    refine wpList_store1 (g := ga) (i := 64 - k) (v := .int .u8 ((d36.getD v 0).toNat : Int)) rfl 5 (.tmp 63) (.tmp 62) rfl HBC.out rfl rfl (by have := HC.out; omega) (by rfl) (by rfl) (by kernel_rfl) ?_
    intro hb9 ht9
    simp only [Act.put, List.setIfInBounds_toArray, List.set_cons_zero, List.set_cons_succ]
    have HB9 := Lib.hid hb9
    have HT9 := Lib.hid (HTR.out.trans ht9 (fun a hk e => by
      have := HG.out
      have e : a = ga := e
      omega))
    clear hb9 ht9
    generalize World.setCell wr ⟨ga, 64 - k, none⟩ _ = w9 at *
    have HUK := Lib.hid (show u < 16 ^ (k + 1) from by
      have h1 := HV.out
      have h2 := HLT.out
      rw [Nat.pow_succ]
      rw [h1] at h2
      rw [Nat.mul_comm]
      exact (Nat.div_lt_iff_lt_mul (Nat.pow_pos (by decide))).1 h2)
    have HBS := Lib.hid (show Bs w9 (some ⟨ga, 64 - k, none⟩) (k + 1) (hexk (k + 1) u) from by
      refine ⟨hexk_len _ _, by have := HK15.out; unfold maxLen; omega, fun _ => ⟨ga, 64 - k, rfl, fun i hi => ?_⟩⟩
      rw [HB9.out.cell]
      cases i with
      | zero =>
        rw [Nat.add_zero, Array.getElem?_setIfInBounds_self_of_lt (by have := HC.out; omega), hexk_cons, ← HV.out, Nat.mod_eq_of_lt HLT.out, d36_hex HLT.out]
        rfl
      | succ i =>
        rw [Array.getElem?_setIfInBounds_ne (by omega), show 64 - k + (i + 1) = 65 - k + i from by have := HK15.out; omega, hexk_cons]
        have hil : i < (hexk k u).length := by rw [hexk_len]; omega
        rw [HCE.out i _ (List.getElem?_eq_getElem hil)]
        simp [List.getD_eq_getElem?_getD, List.getElem?_eq_getElem hil])
    go_upto_region 30 with fail
    refine wp_region_lit ?_
    refine wpList_run (v := .int .i64 ((64 - k : Nat) : Int)) rfl (exec_move rfl rfl) ?_
    simp only [Act.put, List.setIfInBounds_toArray, List.set_cons_zero, List.set_cons_succ]
    refine wpList_run (v := .slice (some ⟨ga, 64 - k, none⟩) (k + 1) (k + 1)) rfl (gx_aslice (i := 64 - k) (off := 0) (sz := 1) rfl rfl rfl Tryz.underlying227 (by kernel_rfl) (by omega) (by omega) (by have := HK15.out; omega)) ?_
    simp only [Act.put, List.setIfInBounds_toArray, List.set_cons_zero, List.set_cons_succ]
    refine wpList_run (v := strV (hexk (k + 1) u)) rfl (exec_strBs rfl rfl HBS.out) ?_
    simp only [Act.put, List.setIfInBounds_toArray, List.set_cons_zero, List.set_cons_succ]
    refine wpList_run (v := strV (hexk (k + 1) u)) rfl (gx_assign rfl rfl) ?_
    simp only [Act.put, List.setIfInBounds_toArray, List.set_cons_zero, List.set_cons_succ]

    go_wp2_with fail
    go_ret2
    exact ⟨⟨k + 1, by omega, by have := HK15.out; omega, HUK.out, rfl⟩, HT9.out⟩
set_option maxRecDepth 20000 in
theorem fuint_walk {w : World} {u : Nat} (hu : u < 2 ^ 64) (hz : ZerT w) :
    Calls Tryz.prog 96 #[.int .u64 (u : Int), .int .i64 16] w fun e w' => (∃ k, 1 ≤ k ∧ k ≤ 16 ∧ u < 16 ^ k ∧ e = .returned (strV (hexk k u))) ∧ Turn nowhere w w' := by
  have HIN : Calls Tryz.prog 104 #[.int .u64 (u : Int), .int .i64 16] w fun e w' => (∃ k, 1 ≤ k ∧ k ≤ 16 ∧ u < 16 ^ k ∧ e = .returned (strV (hexk k u))) ∧ Turn nowhere w w' := by
    have HF := Lib.hid (fbits_walk hu hz)
    clear hu hz
    go_enter Tryz.func104, Tryz.ntmps104
    go_wp2_with (go_at_call 114; refine HF.out.mono ?_; rintro e w' ⟨⟨k, h1, h2, h3, rfl⟩, ht⟩)
    go_ret
    exact ⟨⟨k, h1, h2, h3, rfl⟩, ht⟩
  have HI := Lib.hid HIN
  clear HIN hu hz
  go_enter Tryz.func96, Tryz.ntmps96
  go_wp2_with (go_at_call 104; refine HI.out.mono ?_; rintro e w' ⟨⟨k, h1, h2, h3, rfl⟩, ht⟩)
  go_ret
  exact ⟨⟨k, h1, h2, h3, rfl⟩, ht⟩
end Go.Proofs.YtfnillibngijaaaGreatDoor
namespace Go.Proofs.YtfnillibngijaaaGreatDoor.Fdd
set_option linter.unusedVariables false
theorem fold_or (g : Fld → Nat) (p : Fld → Bool) : ∀ (fs : List Fld) (a j : Nat), (fs.foldl (fun a f => if p f = true then a ||| 2 ^ g f else a) a).testBit j = true ↔ a.testBit j = true ∨ ∃ f ∈ fs, p f = true ∧ g f = j
  | [], a, j => by simp
  | f :: r, a, j => by
    rw [List.foldl_cons, fold_or g p r]
    by_cases hp : p f = true
    · rw [if_pos hp, Nat.testBit_or, Nat.testBit_two_pow]
      simp only [Bool.or_eq_true, decide_eq_true_eq, List.mem_cons]
      constructor
      · rintro ((h | h) | ⟨x, h1, h2⟩)
        · exact .inl h
        · exact .inr ⟨f, .inl rfl, hp, h⟩
        · exact .inr ⟨x, .inr h1, h2⟩
      · rintro (h | ⟨x, rfl | h1, h2, h3⟩)
        · exact .inl (.inl h)
        · exact .inl (.inr h3)
        · exact .inr ⟨x, h1, h2, h3⟩
    · rw [if_neg hp]
      simp only [List.mem_cons]
      constructor
      · rintro (h | ⟨x, h1, h2⟩)
        · exact .inl h
        · exact .inr ⟨x, .inr h1, h2⟩
      · rintro (h | ⟨x, rfl | h1, h2, h3⟩)
        · exact .inl h
        · exact absurd h2 hp
        · exact .inr ⟨x, h1, h2, h3⟩
theorem bit_half1 (fs : List Fld) (j : Nat) : (half1 fs).testBit j = true ↔ ∃ f ∈ fs, f.1 ≤ 64 ∧ 64 - f.1.toNat = j := by
  have h := fold_or (fun f => 64 - f.1.toNat) (fun f => decide (f.1 ≤ 64)) fs 0 j
  simp only [decide_eq_true_eq, Nat.zero_testBit, Bool.false_eq_true, false_or] at h
  exact h
theorem half2_eq : ∀ (fs : List Fld) (a : Nat), fs.foldl (fun a f => if f.1 ≤ 64 then a else a ||| 2 ^ (128 - f.1.toNat)) a = fs.foldl (fun a f => if decide (64 < f.1) = true then a ||| 2 ^ (128 - f.1.toNat) else a) a
  | [], _ => rfl
  | f :: r, a => by
    rw [List.foldl_cons, List.foldl_cons, half2_eq r]
    congr 1
    by_cases h : f.1 ≤ 64
    · rw [if_pos h, if_neg (by simpa using h)]
    · rw [if_neg h, if_pos (by simp; omega)]
theorem bit_half2 (fs : List Fld) (j : Nat) : (half2 fs).testBit j = true ↔ ∃ f ∈ fs, 64 < f.1 ∧ 128 - f.1.toNat = j := by
  have h := fold_or (fun f => 128 - f.1.toNat) (fun f => decide (64 < f.1)) fs 0 j
  unfold half2
  rw [half2_eq]
  simp only [decide_eq_true_eq, Nat.zero_testBit, Bool.false_eq_true, false_or] at h
  simp only [decide_eq_true_eq]
  exact h
/-- fields whose numbers rise, and are such as there are -/
def Nos (fs : List Fld) : Prop := Rise (fs.map (·.1)) ∧ ∀ f ∈ fs, 2 ≤ f.1 ∧ f.1 ≤ 97
theorem half1_lt {fs : List Fld} (h : ∀ f ∈ fs, 2 ≤ f.1 ∧ f.1 ≤ 97) : half1 fs < 2 ^ 63 := by
  refine Nat.lt_pow_two_of_testBit _ fun i hi => ?_
  cases hb : (half1 fs).testBit i with
  | false => rfl
  | true =>
    obtain ⟨f, hf, h1, h2⟩ := (bit_half1 fs i).1 hb
    have := h f hf
    omega
theorem half2_lt {fs : List Fld} (h : ∀ f ∈ fs, 2 ≤ f.1 ∧ f.1 ≤ 97) : half2 fs < 2 ^ 64 := by
  refine Nat.lt_pow_two_of_testBit _ fun i hi => ?_
  cases hb : (half2 fs).testBit i with
  | false => rfl
  | true =>
    obtain ⟨f, hf, h1, h2⟩ := (bit_half2 fs i).1 hb
    have := h f hf
    omega
/-! ### the map there and back -/
def mapPut (d : Nat) (fs : List Fld) : List UInt8 := (halves fs).foldr (fun h b => (mapFm d).put h ++ b) []
theorem mhead_eq (d : Nat) (ty : Int) (fs : List Fld) : mhead d ty fs = (typeFm d).put (ver d ++ dig3 ty.toNat) ++ mapPut d fs := by
  unfold mhead mapPut halves
  split
  · simp
  · simp [List.append_assoc]
theorem hex_right (d n : Nat) : (mapFm d).right (hexk 16 n) = true := right_b.2 ⟨hexk_len 16 n, hexk_only 16 n⟩
theorem or_top {n : Nat} (h : n < 2 ^ 63) : (n ||| 2 ^ 63) % 2 ^ 63 = n ∧ (n ||| 2 ^ 63).testBit 63 = true ∧ (n ||| 2 ^ 63) < 2 ^ 64 := by
  refine ⟨Nat.eq_of_testBit_eq fun i => ?_, by rw [Nat.testBit_or, Nat.testBit_two_pow]; simp, Nat.or_lt_two_pow (by omega) (by decide)⟩
  rw [Nat.testBit_mod_two_pow, Nat.testBit_or, Nat.testBit_two_pow]
  by_cases hi : i < 63
  · have : ¬ (63 = i) := by omega
    simp [hi, this]
  · have : n.testBit i = false := Nat.testBit_lt_two_pow (Nat.lt_of_lt_of_le h (Nat.pow_le_pow_right (by decide) (by omega)))
    simp [hi, this]
end Go.Proofs.YtfnillibngijaaaGreatDoor.Fdd
namespace Go.Proofs.YtfnillibngijaaaGreatDoor
open Go.RowKit
open Fdd
set_option linter.unusedVariables false
set_option linter.unusedSimpArgs false
/-- one operation alone: what follows behind a letter -/
theorem wpList_op {P : Program} {ops : Array Oper} {rest : List Oper} {o : Oper} {a : Act} {w : World} {Q : Exit → Act → World → Prop} (hgd : Region.wanted o (yielded ops a.tmps) = true) (h : ∀ K : Act → World → Prop, Hid (∀ a' w', wpList P ops Q rest a' w' → K a' w') → o.wp P a w K Q) : wpList P ops Q (o :: rest) a w :=
  wpList_step fun K hK => by
    rw [if_pos hgd]
    exact h K (Lib.hid hK)
theorem size_field : (Tryz.prog.info? 53).map (·.size) = some 2 := by kernel_rfl
theorem zero_field (w : World) : (zeroValue 53).run Tryz.prog w = .ok (.agg #[.int .i64 0, strV []]) w := by kernel_rfl
def fldA (f : Fld) : Array Value := #[.int .i64 f.1, strV f.2]
theorem fldA_one (f : Fld) : ∀ v ∈ (fldA f).toList, v.oneCell' = true := fun v hv => by
  unfold fldA at hv
  simp only [List.mem_cons, List.not_mem_nil, or_false] at hv
  rcases hv with rfl | rfl <;> rfl
/-- a slice that reads as fields -/
def Fl (w : World) (A : Option Addr) (n : Nat) (fs : List Fld) : Prop := fs.length = n ∧ n ≤ 140737488355328 ∧ (0 < n → ∃ b off, A = some ⟨b, off, none⟩ ∧ ∀ i f, fs[i]? = some f → w.rangeAt b (off + i * 2) (fldA f).toList)
theorem Fl.still {w w' : World} {A : Option Addr} {n : Nat} {fs : List Fld} (h : Fl w A n fs) (ht : Turn nowhere w w') : Fl w' A n fs := by
  obtain ⟨h1, h2, h3⟩ := h
  refine ⟨h1, h2, fun hp => ?_⟩
  obtain ⟨b, off, e, hc⟩ := h3 hp
  exact ⟨b, off, e, fun i f hf j v hv => (ht.cell (World.block_lt_of_cell? _ _ (hc i f hf j v hv)) (fun e => e)).trans (hc i f hf j v hv)⟩
theorem half1_snoc (l : List Fld) (f : Fld) : half1 (l ++ [f]) = if f.1 ≤ 64 then half1 l ||| 2 ^ (64 - f.1.toNat) else half1 l := by
  unfold half1
  rw [List.foldl_append]
  rfl
theorem half2_snoc (l : List Fld) (f : Fld) : half2 (l ++ [f]) = if f.1 ≤ 64 then half2 l else half2 l ||| 2 ^ (128 - f.1.toNat) := by
  unfold half2
  rw [List.foldl_append]
  rfl
theorem take_snoc {fs : List Fld} {j : Nat} {f : Fld} (h : fs[j]? = some f) : fs.take (j + 1) = fs.take j ++ [f] := by
  rw [List.take_add_one, h]
  rfl
theorem pow_lt64 {m : Nat} (h : m < 64) : 2 ^ m < 2 ^ 64 := Nat.pow_lt_pow_right (by decide) h
set_option maxRecDepth 20000 in
theorem bit_walk {w : World} {n : Nat} (h : 1 ≤ n ∧ n ≤ 64) : Calls Tryz.prog 79 #[.int .i64 (n : Int)] w fun e w' => e = .returned (.int .u64 ((2 ^ (64 - n) : Nat) : Int)) ∧ w' = w := by
  have H := Lib.hid h
  clear h
  go_enter Tryz.func79, Tryz.ntmps79
  go_upto_region 1 with fail
  refine wp_region_lit ?_
  refine wpList_run (v := .int .i64 (n : Int)) rfl (exec_move rfl rfl) ?_
  simp only [Act.put, List.setIfInBounds_toArray, List.set_cons_zero, List.set_cons_succ]
  refine wpList_run (v := .int .i64 ((64 - n : Nat) : Int)) rfl (ix_sub rfl rfl rfl (by have := H.out; omega) (by have := H.out; omega)) ?_
  simp only [Act.put, List.setIfInBounds_toArray, List.set_cons_zero, List.set_cons_succ]
  refine wpList_run (v := .int .u64 ((2 ^ (64 - n) : Nat) : Int)) rfl (ux_shl1 rfl rfl (by have := H.out; omega)) ?_
  simp only [Act.put, List.setIfInBounds_toArray, List.set_cons_zero, List.set_cons_succ]
  refine wpList_run (v := .int .u64 ((2 ^ (64 - n) : Nat) : Int)) rfl (gx_assign rfl rfl) ?_
  simp only [Act.put, List.setIfInBounds_toArray, List.set_cons_zero, List.set_cons_succ]

  obtain ⟨q, hq⟩ : ∃ q, q = 2 ^ (64 - n) := ⟨_, rfl⟩
  rw [← hq]
  have HQ := Lib.hid hq
  clear hq
  go_wp2_with fail
  go_ret
  exact ⟨ret_int (by rw [HQ.out]), rfl⟩
set_option maxRecDepth 20000 in
theorem bitsText_walk {w : World} {u : Nat} (hu : u < 2 ^ 64) (hz : ZerT w) :
    Calls Tryz.prog 80 #[.int .u64 (u : Int)] w fun e w' => e = .returned (strV (hexk 16 u)) ∧ Turn nowhere w w' := by
  have HF := Lib.hid (fuint_walk hu hz)
  clear hu hz
  go_enter Tryz.func80, Tryz.ntmps80
  go_upto_region 2 with (go_at_call 96; refine HF.out.mono ?_; rintro e w1 ⟨⟨k, h1, h2, h3, rfl⟩, ht⟩)
  have HT := Lib.hid ht
  have HK := Lib.hid h2
  have HE := Lib.hid (show hexk 16 u = List.replicate (16 - k) 48 ++ hexk k u from by rw [← hexk_pad (16 - k) k u h3, show 16 - k + k = 16 from by omega])
  have HL := Lib.hid (hexk_len k u)
  clear h1 h2 h3 ht HF
  generalize hexk k u = dg at *
  refine wp_region_lit ?_
  refine wpList_run (v := strV dg) rfl (exec_move rfl rfl) ?_
  simp only [Act.put, List.setIfInBounds_toArray, List.set_cons_zero, List.set_cons_succ]
  refine wpList_run (v := .int .i64 (dg.length : Int)) rfl (exec_slen rfl rfl) ?_
  simp only [Act.put, List.setIfInBounds_toArray, List.set_cons_zero, List.set_cons_succ]
  refine wpList_run (v := .int .i64 ((16 - k : Nat) : Int)) rfl (ix_sub rfl rfl rfl (by have := HK.out; have := HL.out; omega) (by have := HK.out; omega)) ?_
  simp only [Act.put, List.setIfInBounds_toArray, List.set_cons_zero, List.set_cons_succ]

  obtain ⟨m, hm⟩ : ∃ m, m = 16 - k := ⟨_, rfl⟩
  rw [← hm]
  have HM := Lib.hid hm
  clear hm
  have hrep : Calls Tryz.prog 78 #[.string ⟨#[48]⟩, .int .i64 (m : Int)] w1 fun e w' => e = .returned (strV (List.replicate m 48)) ∧ Below w1.heap.size w1 w' := by
    have h := Any.strings_Repeat Tryz.lays105 Tryz.Builder_Extra_105 ⟨#[48]⟩ m w1 (by have := HM.out; omega) (by have := HM.out; rw [show (ByteArray.mk #[48]).size = 1 from rfl]; omega)
    rw [show (ByteArray.mk #[48]).data.toList = [48] from rfl, repeat_one] at h
    exact h
  go_wp2_with (first
    | (go_at_call 78; refine hrep.mono ?_; rintro e w2 ⟨rfl, hb⟩)
    | (refine wpList_run (v := strV (List.replicate m 48 ++ dg)) (w' := w2) rfl (exec_sadd (l := List.replicate m 48) (m := dg) rfl rfl rfl (by have := HM.out; have := HK.out; have := HL.out; rw [List.length_replicate]; omega)) ?_))
  go_ret
  rw [HE.out, ← HM.out]
  exact ⟨rfl, HT.out.trans (Turn.of_below hb (Nat.le_refl _)) (fun _ _ e => e)⟩
/-- strings in a row -/
def Ss (w : World) (g : Nat) (l : List (List UInt8)) : Prop := ∃ C t, Blk w g t C ∧ ∀ (i : Nat) (s : List UInt8), l[i]? = some s → C[i]? = some (strV s)
theorem build_s1 (s : List UInt8) (W : World) : (Instr.buildSlice 127 1 #[(0, strV s)]).run Tryz.prog W = .ok (.slice (some ⟨W.heap.size, 0, none⟩) 1 1) (W.alloc (.cells #[strV s] 9)) := by kernel_rfl
theorem build_s2 (s t : List UInt8) (W : World) : (Instr.buildSlice 127 2 #[(0, strV s), (1, strV t)]).run Tryz.prog W = .ok (.slice (some ⟨W.heap.size, 0, none⟩) 2 2) (W.alloc (.cells #[strV s, strV t] 9)) := by kernel_rfl
theorem exec_buildSlice2 {P : Program} {a : Act} {o : Oper} {W : World} {t : TypeId} {x y : Operand} {u u' v : Value} {W' : World} (ho : o.op = .buildSlice t 2 #[(0, x), (1, y)]) (hx : a.eval x = u) (hy : a.eval y = u') (h : (Instr.buildSlice t 2 #[(0, u), (1, u')]).run P W = .ok v W') : (execOp a.eval o).run P W = .ok (.value v) W' := by
  unfold execOp
  simp only [ho, List.map_toArray, List.map_cons, List.map_nil, hx, hy, h, Sem.run_bind, Sem.run_pure, Result.andThen_ok]
set_option maxRecDepth 20000 in
set_option maxHeartbeats 1000000 in
theorem mapTexts_walk {w : World} {A : Option Addr} {n c : Nat} {fs : List Fld} (hf : Fl w A n fs) (hz : ZerT w) (hn : ∀ f ∈ fs, 2 ≤ f.1 ∧ f.1 ≤ 97) :
    Calls Tryz.prog 63 #[.slice A n c] w fun e w' => ∃ g c', e = .returned (.slice (some ⟨g, 0, none⟩) (halves fs).length c') ∧ Ss w' g (halves fs) ∧ Turn nowhere w w' := by
  have HF := Lib.hid hf
  have HZ := Lib.hid hz
  have HN := Lib.hid hn
  have HNL : Hid (fs.length = n) := Lib.hid hf.1
  have HNM : Hid (n ≤ 140737488355328) := Lib.hid hf.2.1
  have y9 : (n : Int) ≤ 140737488355328 := by
    have := HNM.out
    omega
  clear hf hz hn
  go_enter Tryz.func63, Tryz.ntmps63
  go_wp2_with fail
  go_loopg [3, 4, 9] n (fun gk av bv jv wr => ∃ j : Nat, j + gk = n ∧ jv = .int .i64 (j : Int) ∧ av = .int .u64 ((half1 (fs.take j) : Nat) : Int) ∧ bv = .int .u64 ((half2 (fs.take j) : Nat) : Int) ∧ Turn nowhere w wr)
  case atStart => exact ⟨0, by omega, rfl, rfl, rfl, Turn.refl _ _⟩
  obtain ⟨j, hjl, rfl, rfl, rfl, htr⟩ := hrel
  have HJL := Lib.hid hjl
  have HTR := Lib.hid htr
  clear hjl htr
  by_cases hlt : j < n
  · have y1 : (j : Int) < (n : Int) := by omega
    have HLT := Lib.hid hlt
    obtain ⟨f, hff⟩ : ∃ f, fs[j]? = some f := ⟨_, List.getElem?_eq_getElem (show j < fs.length from by rw [HNL.out]; exact hlt)⟩
    obtain ⟨bF, oF, rfl, hrow⟩ := HF.out.2.2 (by omega)
    have HRR := Lib.hid (show wr.rangeAt bF (oF + j * 2) (fldA f).toList from fun i v hv => (HTR.out.cell (World.block_lt_of_cell? _ _ (hrow j f hff i v hv)) (fun e => e)).trans (hrow j f hff i v hv))
    have HFN := Lib.hid (HN.out f (List.mem_of_getElem? hff))
    have HT1 := Lib.hid (half1_snoc (fs.take j) f)
    have HT2 := Lib.hid (half2_snoc (fs.take j) f)
    have HTS := Lib.hid (take_snoc hff)
    have HL1 := Lib.hid (Nat.lt_trans (half1_lt (fs := fs.take j) (fun f hf => HN.out f (List.mem_of_mem_take hf))) (by decide : 2 ^ 63 < 2 ^ 64))
    have HL2 := Lib.hid (half2_lt (fs := fs.take j) (fun f hf => HN.out f (List.mem_of_mem_take hf)))
    obtain ⟨no, hno⟩ : ∃ no : Nat, f.1 = (no : Int) := ⟨f.1.toNat, by have := HFN.out; omega⟩
    have HNO := Lib.hid hno
    clear hlt hff hrow hno
    go_upto_region 4 with fail
    refine wp_region_lit ?_
    refine wpList_run (v := .pointer (some ⟨bF, oF + j * 2, none⟩)) rfl (gx_iaddr (i := j) (sz := 2) rfl rfl rfl Tryz.underlying47 size_field HLT.out (by omega)) ?_
    simp only [Act.put, List.setIfInBounds_toArray, List.set_cons_zero, List.set_cons_succ]
    refine wpList_run (v := .agg (fldA f)) rfl (gx_loads rfl rfl HRR.out Tryz.underlying53 rfl (by rw [size_field]; rfl)) ?_
    simp only [Act.put, List.setIfInBounds_toArray, List.set_cons_zero, List.set_cons_succ]
    refine wpList_run (v := .pointer (some ⟨wr.heap.size, 0, none⟩)) (w' := wr.alloc (.cells #[.int .i64 0, strV []] 53)) rfl (gx_alloc rfl (zero_field _)) ?_
    simp only [Act.put, List.setIfInBounds_toArray, List.set_cons_zero, List.set_cons_succ]
    have hb7 := Blk.new wr 53 #[.int .i64 0, strV []]
    have hu7 := HTR.out.alloc (.cells #[.int .i64 0, strV []] 53)
    obtain ⟨g7, hg7⟩ : ∃ g7, g7 = wr.heap.size := ⟨_, rfl⟩
    rw [← hg7] at hb7 ⊢
    have HG7 := Lib.hid (show w.heap.size ≤ g7 from by rw [hg7]; exact HTR.out.size)
    clear hg7
    generalize wr.alloc (.cells #[.int .i64 0, strV []] 53) = w2 at *
    refine wpList_store_row rfl 53 (.tmp 6) (.tmp 12) rfl (fldA f) hb7 rfl rfl rfl (by rw [size_field]; rfl) (fldA_one f) ?_
    intro w3 hb3 hu3
    have HB7 := Lib.hid hb3
    have HU3 := Lib.hid (hu7.trans hu3 (fun k hk e => by
      have := HG7.out
      have e : k = g7 := e
      omega))
    clear hb7 hu7 hb3 hu3 HRR
    simp only [Act.put, List.setIfInBounds_toArray, List.set_cons_zero, List.set_cons_succ]

    have c0 : w3.cell? ⟨g7, 0, none⟩ = some (.int .i64 (no : Int)) := by
      have := HB7.out.cell 0
      rw [this]
      show some (Value.int .i64 f.1) = _
      rw [HNO.out]
    generalize hq1 : half1 (fs.take j) = q1 at *
    generalize hq2 : half2 (fs.take j) = q2 at *
    have HQ1 := Lib.hid hq1
    have HQ2 := Lib.hid hq2
    clear hq1 hq2
    go_upto_region 5 with fail
    refine wp_region_lit ?_
    refine wpList_run (v := .pointer (some ⟨g7, 0, none⟩)) rfl (exec_field (off := 0) (d := 0) rfl rfl (by kernel_rfl)) ?_
    simp only [Act.put, List.setIfInBounds_toArray, List.set_cons_zero, List.set_cons_succ]
    refine wpList_run (v := .int .i64 (no : Int)) rfl (exec_load1 rfl rfl (by kernel_rfl) c0) ?_
    simp only [Act.put, List.setIfInBounds_toArray, List.set_cons_zero, List.set_cons_succ]

    by_cases h64 : no ≤ 64
    · have H64 := Lib.hid h64
      refine wpList_run (v := .bool true) rfl (ix_leq rfl rfl rfl (decide_eq_true (by omega))) ?_
      simp only [Act.put, List.setIfInBounds_toArray, List.set_cons_zero, List.set_cons_succ]

      clear h64
      go_upto_region 6 with fail
      refine wp_region_lit ?_
      refine wpList_run (v := .int .u64 (q1 : Int)) rfl (exec_move rfl rfl) ?_
      simp only [Act.put, List.setIfInBounds_toArray, List.set_cons_zero, List.set_cons_succ]
      refine wpList_run (v := .pointer (some ⟨g7, 0, none⟩)) rfl (exec_field (off := 0) (d := 0) rfl rfl (by kernel_rfl)) ?_
      simp only [Act.put, List.setIfInBounds_toArray, List.set_cons_zero, List.set_cons_succ]
      refine wpList_run (v := .int .i64 (no : Int)) rfl (exec_load1 rfl rfl (by kernel_rfl) c0) ?_
      simp only [Act.put, List.setIfInBounds_toArray, List.set_cons_zero, List.set_cons_succ]

      go_wp2_with (first
        | (go_at_call 79; refine (bit_walk (n := no) (by have := H64.out; have := HFN.out; have := HNO.out; omega)).mono ?_; rintro e w4 ⟨rfl, rfl⟩)
        | (refine wpList_run (v := .int .u64 ((q1 ||| 2 ^ (64 - no) : Nat) : Int)) rfl (ux_or rfl rfl rfl HL1.out (pow_lt64 (by have := HFN.out; have := HNO.out; omega)) rfl) ?_))
      go_roundg (gk - 1)
      case measure => have := HJL.out; have := HLT.out; omega
      case rel => exact ⟨j + 1, by have := HJL.out; have := HLT.out; omega, by go_num, by rw [HTS.out, HT1.out, if_pos (by have := H64.out; have := HNO.out; omega), HNO.out]; rfl, by rw [HTS.out, HT2.out, if_pos (by have := H64.out; have := HNO.out; omega)], HU3.out⟩
    · have H64 := Lib.hid h64
      refine wpList_run (v := .bool false) rfl (ix_leq rfl rfl rfl (decide_eq_false (by omega))) ?_
      simp only [Act.put, List.setIfInBounds_toArray, List.set_cons_zero, List.set_cons_succ]

      clear h64
      go_upto_region 7 with fail
      refine wp_region_lit ?_
      refine wpList_run (v := .int .u64 (q2 : Int)) rfl (exec_move rfl rfl) ?_
      simp only [Act.put, List.setIfInBounds_toArray, List.set_cons_zero, List.set_cons_succ]
      refine wpList_run (v := .pointer (some ⟨g7, 0, none⟩)) rfl (exec_field (off := 0) (d := 0) rfl rfl (by kernel_rfl)) ?_
      simp only [Act.put, List.setIfInBounds_toArray, List.set_cons_zero, List.set_cons_succ]
      refine wpList_run (v := .int .i64 (no : Int)) rfl (exec_load1 rfl rfl (by kernel_rfl) c0) ?_
      simp only [Act.put, List.setIfInBounds_toArray, List.set_cons_zero, List.set_cons_succ]
      refine wpList_run (v := .int .i64 ((no - 64 : Nat) : Int)) rfl (ix_sub rfl rfl rfl (by have := H64.out; omega) (by have := HFN.out; have := HNO.out; omega)) ?_
      simp only [Act.put, List.setIfInBounds_toArray, List.set_cons_zero, List.set_cons_succ]

      go_wp2_with (first
        | (go_at_call 79; refine (bit_walk (n := no - 64) (by have := H64.out; have := HFN.out; have := HNO.out; omega)).mono ?_; rintro e w4 ⟨rfl, rfl⟩)
        | (refine wpList_run (v := .int .u64 ((q2 ||| 2 ^ (64 - (no - 64)) : Nat) : Int)) rfl (ux_or rfl rfl rfl HL2.out (pow_lt64 (by have := H64.out; omega)) rfl) ?_))
      go_roundg (gk - 1)
      case measure => have := HJL.out; have := HLT.out; omega
      case rel => exact ⟨j + 1, by have := HJL.out; have := HLT.out; omega, by go_num, by rw [HTS.out, HT1.out, if_neg (by have := H64.out; have := HNO.out; omega)], by rw [HTS.out, HT2.out, if_neg (by have := H64.out; have := HNO.out; omega), HNO.out, show 64 - (no - 64) = 128 - ((no : Int)).toNat from by have := H64.out; have := HFN.out; have := HNO.out; omega], HU3.out⟩
  · have y1 : ¬ ((j : Int) < (n : Int)) := by omega
    have HE := Lib.hid (show fs.take j = fs from List.take_of_length_le (by rw [HNL.out]; omega))
    have HL1 := Lib.hid (half1_lt HN.out)
    have HL2 := Lib.hid (half2_lt HN.out)
    clear hlt y9
    rw [HE.out]
    obtain ⟨q1, hq1⟩ : ∃ q1, q1 = half1 fs := ⟨_, rfl⟩
    obtain ⟨q2, hq2⟩ : ∃ q2, q2 = half2 fs := ⟨_, rfl⟩
    rw [← hq1, ← hq2]
    rw [← hq1] at HL1
    rw [← hq2] at HL2
    have HB1 := Lib.hid (bitsText_walk (w := wr) (Nat.lt_trans HL1.out (by decide : 2 ^ 63 < 2 ^ 64)) (HZ.out.turn HTR.out))
    by_cases h0 : q2 = 0
    · have HH := Lib.hid (show halves fs = [hexk 16 q1] from by
        unfold halves
        rw [← hq2, h0, if_pos rfl, ← hq1])
      have y2 : (q2 : Int) = 0 := by omega
      clear hq1 hq2 h0
      obtain ⟨x1, hx1⟩ : ∃ x1, x1 = hexk 16 q1 := ⟨_, rfl⟩
      rw [← hx1] at HB1 HH
      clear hx1
      go_upto_region 10 with fail
      refine wp_region_lit ?_
      refine wpList_run (v := .int .u64 (q1 : Int)) rfl (exec_move rfl rfl) ?_
      simp only [Act.put, List.setIfInBounds_toArray, List.set_cons_zero, List.set_cons_succ]
      refine wpList_op rfl fun K9 HK9 => ?_
      go_wp2_with fail
      refine (HB1.out).mono ?_
      rintro e w4 ⟨rfl, ht4⟩
      refine HK9.out _ _ ?_
      clear HK9
      try simp only [Act.put, List.setIfInBounds_toArray, List.set_cons_zero, List.set_cons_succ]

      refine wpList_run (v := .slice (some ⟨w4.heap.size, 0, none⟩) 1 1) (w' := w4.alloc (.cells #[strV x1] 9)) rfl (exec_buildSlice1 rfl rfl (build_s1 _ _)) ?_
      simp only [Act.put, List.setIfInBounds_toArray, List.set_cons_zero, List.set_cons_succ]
      go_wp2_with fail
      go_ret
      rw [HH.out]
      exact ⟨_, _, rfl, ⟨_, _, Blk.new _ _ _, fun i s h => by
        match i, h with
        | 0, h => injection h with h; subst h; rfl
        | i + 1, h => simp at h⟩, (HTR.out.trans ht4 (fun _ _ e => e)).alloc _⟩
    · have HH := Lib.hid (show halves fs = [hexk 16 (q1 ||| 2 ^ 63), hexk 16 q2] from by
        unfold halves
        rw [← hq2, if_neg h0, ← hq1])
      have y2 : ¬ ((q2 : Int) = 0) := by omega
      have HO := Lib.hid (or_top HL1.out).2.2
      clear hq1 hq2 h0
      obtain ⟨qo, hqo⟩ : ∃ qo, qo = q1 ||| 2 ^ 63 := ⟨_, rfl⟩
      have HQO := Lib.hid hqo
      rw [← hqo] at HH HO
      have HBT := Lib.hid (bitsText_walk (w := wr) HO.out (HZ.out.turn HTR.out))
      have HBU := Lib.hid (fun W (ht : Turn nowhere w W) => bitsText_walk (w := W) HL2.out (HZ.out.turn ht))
      obtain ⟨x1, hx1⟩ : ∃ x1, x1 = hexk 16 qo := ⟨_, rfl⟩
      obtain ⟨x2, hx2⟩ : ∃ x2, x2 = hexk 16 q2 := ⟨_, rfl⟩
      rw [← hx1] at HBT HH
      rw [← hx2] at HBU HH
      clear hqo hx1 hx2 HB1
      go_upto_region 11 with fail
      refine wp_region_lit ?_
      refine wpList_run (v := .int .u64 (q1 : Int)) rfl (exec_move rfl rfl) ?_
      simp only [Act.put, List.setIfInBounds_toArray, List.set_cons_zero, List.set_cons_succ]
      refine wpList_op rfl fun K9 HK9 => ?_
      go_wp2_with fail
      refine (bit_walk (n := 1) (by decide)).mono ?_
      rintro e w4 ⟨rfl, rfl⟩
      refine HK9.out _ _ ?_
      clear HK9
      try simp only [Act.put, List.setIfInBounds_toArray, List.set_cons_zero, List.set_cons_succ]
      refine wpList_run (v := .int .u64 (qo : Int)) rfl (ux_or (m := 2 ^ 63) rfl rfl rfl (Nat.lt_trans HL1.out (by decide : 2 ^ 63 < 2 ^ 64)) (by decide) HQO.out.symm) ?_
      simp only [Act.put, List.setIfInBounds_toArray, List.set_cons_zero, List.set_cons_succ]
      refine wpList_op rfl fun K9 HK9 => ?_
      go_wp2_with fail
      refine (HBT.out).mono ?_
      rintro e w5 ⟨rfl, ht5⟩
      refine HK9.out _ _ ?_
      clear HK9
      try simp only [Act.put, List.setIfInBounds_toArray, List.set_cons_zero, List.set_cons_succ]
      refine wpList_run (v := .int .u64 (q2 : Int)) rfl (exec_move rfl rfl) ?_
      simp only [Act.put, List.setIfInBounds_toArray, List.set_cons_zero, List.set_cons_succ]
      refine wpList_op rfl fun K9 HK9 => ?_
      go_wp2_with fail
      refine (HBU.out _ (HTR.out.trans ht5 (fun _ _ e => e))).mono ?_
      rintro e w6 ⟨rfl, ht6⟩
      refine HK9.out _ _ ?_
      clear HK9
      try simp only [Act.put, List.setIfInBounds_toArray, List.set_cons_zero, List.set_cons_succ]

      refine wpList_run (v := .slice (some ⟨w6.heap.size, 0, none⟩) 2 2) (w' := w6.alloc (.cells #[strV x1, strV x2] 9)) rfl (exec_buildSlice2 rfl rfl rfl (build_s2 _ _ _)) ?_
      simp only [Act.put, List.setIfInBounds_toArray, List.set_cons_zero, List.set_cons_succ]
      go_wp2_with fail
      go_ret
      rw [HH.out]
      exact ⟨_, _, rfl, ⟨_, _, Blk.new _ _ _, fun i s h => by
        match i, h with
        | 0, h => injection h with h; subst h; rfl
        | 1, h => injection h with h; subst h; rfl
        | i + 2, h => simp at h⟩, ((HTR.out.trans ht5 (fun _ _ e => e)).trans ht6 (fun _ _ e => e)).alloc _⟩
end Go.Proofs.YtfnillibngijaaaGreatDoor
